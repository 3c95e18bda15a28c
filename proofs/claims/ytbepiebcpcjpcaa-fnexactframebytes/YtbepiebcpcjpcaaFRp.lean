/- The bytes of a frame, both sides: contracts. -/
import Derived.Test.YtbepiebcpcjpcaaFRb
import Derived.Lib.QuietBelow
import Derived.BigQuiet
namespace Go.Proofs.Ytbepiebcpcjpcaa
open Go.RowKit Go.Sort
set_option linter.unusedVariables false
def frB (a k : Nat) (d : ByteArray) : ByteArray := ⟨(leL a 1).toArray⟩ ++ ⟨(leL k 1).toArray⟩ ++ ⟨(putVar d.size).toArray⟩ ++ d
/-- What FrameBytes answers. -/
def frR (f k : Int) (d : ByteArray) : ByteArray := if (1 ≤ f ∧ f ≤ 5) ∧ (1 ≤ k ∧ k ≤ 4) ∧ d.size ≤ 1000 then frB f.toNat k.toNat d else ⟨#[]⟩
theorem varF_len11 : ∀ (f n : Nat), (varF f n).length ≤ f + 1
  | 0, n => by rw [varF]; simp
  | f + 1, n => by
    rw [varF]
    split
    · simp
    · have := varF_len11 f (n / 128); simp; omega
theorem sz_l (l : List UInt8) : (⟨l.toArray⟩ : ByteArray).size = l.length := by simp [ByteArray.size]
theorem sz_le (a : Nat) : (⟨(leL a 1).toArray⟩ : ByteArray).size ≤ 1 := by rw [sz_l, leL_len]; exact Nat.le_refl _
theorem sz_pv (n : Nat) : (⟨(putVar n).toArray⟩ : ByteArray).size ≤ 11 := by rw [sz_l]; exact varF_len11 10 _
theorem boxF (w : World) (f k : Int) (d : ByteArray) (W : World) (h : w.alloc (.cells #[.int .i64 f, .int .i64 k, .string d] 26) = W) : W.cell? ⟨w.heap.size, 0, none⟩ = some (.int .i64 f) ∧ W.cell? ⟨w.heap.size, 1, none⟩ = some (.int .i64 k) ∧ W.cell? ⟨w.heap.size, 2, none⟩ = some (.string d) := by
  have hh : W.heap[w.heap.size]? = some (.cells #[.int .i64 f, .int .i64 k, .string d] 26 (0, 0)) := by rw [← h]; exact heap_alloc_new w _
  refine ⟨by rw [cell_of_row _ _ 0 _ _ _ hh]; rfl, by rw [cell_of_row _ _ 1 _ _ _ hh]; rfl, by rw [cell_of_row _ _ 2 _ _ _ hh]; rfl⟩
theorem catS (S1 S2 S3 d : ByteArray) (h1 : S1.size ≤ 1) (h2 : S2.size ≤ 1) (h3 : S3.size ≤ 11) (hd : d.size ≤ 1000) : (S1 ++ S2).size ≤ 2 ∧ (S1 ++ S2 ++ S3).size ≤ 13 ∧ (S1 ++ S2 ++ S3 ++ d).size ≤ 1013 := by simp; omega
set_option maxRecDepth 100000 in
set_option maxHeartbeats 2000000 in
theorem implFrameBytes_any (f k : Int) (d : ByteArray) (w : World) (hd : d.size ≤ 1048576) : Calls Try.prog 10 #[.agg #[.int .i64 f, .int .i64 k, .string d]] w fun e w' => e = .returned (.string (frR f k d)) ∧ Below w.heap.size w w' := by
  by_cases hf : 1 ≤ f ∧ f ≤ 5
  · have HF : Hid (∀ w, Calls Try.prog 25 #[.int .i64 f] w fun e w' => e = .returned (.bool true) ∧ w' = w) := fun w => by have := isFormat_any f w; rwa [show decide (1 ≤ f ∧ f ≤ 5) = true by simpa using hf] at this
    by_cases hk : 1 ≤ k ∧ k ≤ 4
    · have HK : Hid (∀ w, Calls Try.prog 26 #[.int .i64 k] w fun e w' => e = .returned (.bool true) ∧ w' = w) := fun w => by have := isMsgKind_any k w; rwa [show decide (1 ≤ k ∧ k ≤ 4) = true by simpa using hk] at this
      by_cases hl : d.size ≤ 1000
      · have HR : Hid (frR f k d = frB f.toNat k.toNat d) := if_pos ⟨hf, hk, hl⟩
        obtain ⟨a, rfl⟩ : ∃ a : Nat, f = (a : Int) := ⟨f.toNat, by omega⟩
        obtain ⟨b, rfl⟩ : ∃ b : Nat, k = (b : Int) := ⟨k.toNat, by omega⟩
        obtain ⟨S1, hS1⟩ : ∃ S, (⟨(leL a 1).toArray⟩ : ByteArray) = S := ⟨_, rfl⟩
        obtain ⟨S2, hS2⟩ : ∃ S, (⟨(leL b 1).toArray⟩ : ByteArray) = S := ⟨_, rfl⟩
        obtain ⟨S3, hS3⟩ : ∃ S, (⟨(putVar d.size).toArray⟩ : ByteArray) = S := ⟨_, rfl⟩
        have z1 : S1.size ≤ 1 := by rw [← hS1]; exact sz_le _
        have z2 : S2.size ≤ 1 := by rw [← hS2]; exact sz_le _
        have z3 : S3.size ≤ 11 := by rw [← hS3]; exact sz_pv _
        obtain ⟨q1, q2, q3⟩ := catS S1 S2 S3 d z1 z2 z3 hl
        have HX : Hid (frR a b d = S1 ++ S2 ++ S3 ++ d) := by show _ = _; rw [HR.out, frB, ← hS1, ← hS2, ← hS3]; rfl
        have H1 : Hid (∀ w, Calls Try.prog 27 #[.int .u8 (a : Int)] w fun e w' => e = .returned (.string S1) ∧ Below w.heap.size w w') := fun w => by have := whole_u8_any a w (by omega); rwa [hS1] at this
        have H2 : Hid (∀ w, Calls Try.prog 27 #[.int .u8 (b : Int)] w fun e w' => e = .returned (.string S2) ∧ Below w.heap.size w w') := fun w => by have := whole_u8_any b w (by omega); rwa [hS2] at this
        have H3 : Hid (∀ w, Calls Try.prog 28 #[.int .u64 (d.size : Nat)] w fun e w' => e = .returned (.string S3) ∧ Below w.heap.size w w') := fun w => by have := implPutVarint_any d.size w (by omega); rwa [hS3] at this
        have hf1 := hf.1
        have hf2 := hf.2
        have hk1 := hk.1
        have hk2 := hk.2
        clear hS1 hS2 hS3 hf hk HR
        rw [HX.out]
        obtain ⟨W, hW⟩ : ∃ W, w.alloc (.cells #[.int .i64 (a : Int), .int .i64 (b : Int), .string d] 26) = W := ⟨_, rfl⟩
        obtain ⟨c0, c1, c2⟩ := boxF w a b d W hW
        have HB : Hid (Below w.heap.size w W) := by show Below _ _ _; rw [← hW]; exact bel1 _ _
        have HWW : Hid (w.alloc (.cells #[.int .i64 (a : Int), .int .i64 (b : Int), .string d] 26) = W) := hW
        have r0 := cells_re c0
        have r1 := cells_re c1
        have r2 := cells_re c2
        clear hW
        go_enter Try.func10, Try.ntmps10
        go_wp2_with fail
        rw [HWW.out]
        refine (HF.out _).mono ?_
        rintro e w1 ⟨rfl, rfl⟩
        go_wp2_with fail
        refine (HK.out _).mono ?_
        rintro e w2 ⟨rfl, rfl⟩
        go_wp2_with fail
        clear c0 c1 c2
        refine wp_region_quiet_below (by kernel_rfl) (by kernel_rfl) ?_
        repeat (go_big_quiet_step (first | exact Calls.regrown_of (H1.out _) | exact Calls.regrown_of (H2.out _) | exact Calls.regrown_of (H3.out _)))
        refine wpQuiet_nil ?_
        intro w6 hw'
        obtain ⟨⟨dq, osq⟩, hw''⟩ := hw'
        have HB2 : Hid (Below w.heap.size w w6) := by show Below _ _ _; rw [hw'']; exact HB.out.trans ((below_regrown _ dq osq).mono HB.out.size)
        clear hw'' r0 r1 r2
        go_wp2_with fail
        go_ret
        exact ⟨rfl, HB2.out⟩
      · have HR : Hid (frR f k d = ⟨#[]⟩) := if_neg (by omega)
        rw [HR.out]
        go_enter Try.func10, Try.ntmps10
        go_wp2_with fail
        refine (HF.out _).mono ?_
        rintro e w1 ⟨rfl, rfl⟩
        go_wp2_with fail
        refine (HK.out _).mono ?_
        rintro e w2 ⟨rfl, rfl⟩
        go_wp2_with fail
        go_ret
        exact ⟨rfl, bel1 _ _⟩
    · have HK : Hid (∀ w, Calls Try.prog 26 #[.int .i64 k] w fun e w' => e = .returned (.bool false) ∧ w' = w) := fun w => by have := isMsgKind_any k w; rwa [show decide (1 ≤ k ∧ k ≤ 4) = false by simpa using hk] at this
      have HR : Hid (frR f k d = ⟨#[]⟩) := if_neg (fun h => hk h.2.1)
      rw [HR.out]
      clear hk
      go_enter Try.func10, Try.ntmps10
      go_wp2_with fail
      refine (HF.out _).mono ?_
      rintro e w1 ⟨rfl, rfl⟩
      go_wp2_with fail
      refine (HK.out _).mono ?_
      rintro e w2 ⟨rfl, rfl⟩
      go_wp2_with fail
      go_ret
      exact ⟨rfl, bel1 _ _⟩
  · have HF : Hid (∀ w, Calls Try.prog 25 #[.int .i64 f] w fun e w' => e = .returned (.bool false) ∧ w' = w) := fun w => by have := isFormat_any f w; rwa [show decide (1 ≤ f ∧ f ≤ 5) = false by simpa using hf] at this
    have HR : Hid (frR f k d = ⟨#[]⟩) := if_neg (fun h => hf h.1)
    rw [HR.out]
    clear hf
    go_enter Try.func10, Try.ntmps10
    go_wp2_with fail
    refine (HF.out _).mono ?_
    rintro e w1 ⟨rfl, rfl⟩
    go_wp2_with fail
    go_ret
    exact ⟨rfl, bel1 _ _⟩
set_option maxRecDepth 100000 in
set_option maxHeartbeats 2000000 in
theorem l11Frame_any (f k : Int) (d : ByteArray) (w : World) (hd : d.size ≤ 1048576) : Calls Try.prog 23 #[.agg #[.int .i64 f, .int .i64 k, .string d]] w fun e w' => e = .returned (.bool (decide ((1 ≤ f ∧ f ≤ 5) ∧ (1 ≤ k ∧ k ≤ 4) ∧ d.size ≤ 1000))) ∧ Below w.heap.size w w' := by
  by_cases hf : 1 ≤ f ∧ f ≤ 5
  · have HF : Hid (∀ w, Calls Try.prog 30 #[.int .i64 f, .int .i64 1, .int .i64 5] w fun e w' => e = .returned (.bool true) ∧ w' = w) := fun w => by have := l1In_any f 1 5 w; rwa [show decide (1 ≤ f ∧ f ≤ 5) = true by simpa using hf] at this
    by_cases hk : 1 ≤ k ∧ k ≤ 4
    · have HK : Hid (∀ w, Calls Try.prog 30 #[.int .i64 k, .int .i64 1, .int .i64 4] w fun e w' => e = .returned (.bool true) ∧ w' = w) := fun w => by have := l1In_any k 1 4 w; rwa [show decide (1 ≤ k ∧ k ≤ 4) = true by simpa using hk] at this
      by_cases hl : d.size ≤ 1000
      · have HR : Hid (decide ((1 ≤ f ∧ f ≤ 5) ∧ (1 ≤ k ∧ k ≤ 4) ∧ d.size ≤ 1000) = true) := by show _ = _; simp; omega
        have hdd : decide ((d.size : Int) ≤ 1000) = true := by simp; omega
        rw [HR.out]
        clear hf hk
        go_enter Try.func23, Try.ntmps23
        go_wp2_with fail
        refine (HF.out _).mono ?_
        rintro e w1 ⟨rfl, rfl⟩
        go_wp2_with fail
        refine (HK.out _).mono ?_
        rintro e w2 ⟨rfl, rfl⟩
        go_wp2_with fail
        go_ret
        exact ⟨rfl, bel1 _ _⟩
      · have HR : Hid (decide ((1 ≤ f ∧ f ≤ 5) ∧ (1 ≤ k ∧ k ≤ 4) ∧ d.size ≤ 1000) = false) := by show _ = _; simp; omega
        have hdd : decide ((d.size : Int) ≤ 1000) = false := by simp; omega
        rw [HR.out]
        clear hf hk
        go_enter Try.func23, Try.ntmps23
        go_wp2_with fail
        refine (HF.out _).mono ?_
        rintro e w1 ⟨rfl, rfl⟩
        go_wp2_with fail
        refine (HK.out _).mono ?_
        rintro e w2 ⟨rfl, rfl⟩
        go_wp2_with fail
        go_ret
        exact ⟨rfl, bel1 _ _⟩
    · have HK : Hid (∀ w, Calls Try.prog 30 #[.int .i64 k, .int .i64 1, .int .i64 4] w fun e w' => e = .returned (.bool false) ∧ w' = w) := fun w => by have := l1In_any k 1 4 w; rwa [show decide (1 ≤ k ∧ k ≤ 4) = false by simpa using hk] at this
      have HR : Hid (decide ((1 ≤ f ∧ f ≤ 5) ∧ (1 ≤ k ∧ k ≤ 4) ∧ d.size ≤ 1000) = false) := by show _ = _; simp; omega
      rw [HR.out]
      clear hf hk
      go_enter Try.func23, Try.ntmps23
      go_wp2_with fail
      refine (HF.out _).mono ?_
      rintro e w1 ⟨rfl, rfl⟩
      go_wp2_with fail
      refine (HK.out _).mono ?_
      rintro e w2 ⟨rfl, rfl⟩
      go_wp2_with fail
      go_ret
      exact ⟨rfl, bel1 _ _⟩
  · have HF : Hid (∀ w, Calls Try.prog 30 #[.int .i64 f, .int .i64 1, .int .i64 5] w fun e w' => e = .returned (.bool false) ∧ w' = w) := fun w => by have := l1In_any f 1 5 w; rwa [show decide (1 ≤ f ∧ f ≤ 5) = false by simpa using hf] at this
    have HR : Hid (decide ((1 ≤ f ∧ f ≤ 5) ∧ (1 ≤ k ∧ k ≤ 4) ∧ d.size ≤ 1000) = false) := by show _ = _; simp; omega
    rw [HR.out]
    clear hf
    go_enter Try.func23, Try.ntmps23
    go_wp2_with fail
    refine (HF.out _).mono ?_
    rintro e w1 ⟨rfl, rfl⟩
    go_wp2_with fail
    go_ret
    exact ⟨rfl, bel1 _ _⟩
set_option maxRecDepth 100000 in
set_option maxHeartbeats 2000000 in
theorem l11Bytes_any (a b : Nat) (d : ByteArray) (w : World) (ha : a ≤ 5) (hb : b ≤ 4) (hl : d.size ≤ 1000) : Calls Try.prog 24 #[.agg #[.int .i64 (a : Int), .int .i64 (b : Int), .string d]] w fun e w' => e = .returned (.string (frB a b d)) ∧ Below w.heap.size w w' := by
  obtain ⟨S1, hS1⟩ : ∃ S, (⟨(leL a 1).toArray⟩ : ByteArray) = S := ⟨_, rfl⟩
  obtain ⟨S2, hS2⟩ : ∃ S, (⟨(leL b 1).toArray⟩ : ByteArray) = S := ⟨_, rfl⟩
  obtain ⟨S3, hS3⟩ : ∃ S, (⟨(putVar d.size).toArray⟩ : ByteArray) = S := ⟨_, rfl⟩
  have z1 : S1.size ≤ 1 := by rw [← hS1]; exact sz_le _
  have z2 : S2.size ≤ 1 := by rw [← hS2]; exact sz_le _
  have z3 : S3.size ≤ 11 := by rw [← hS3]; exact sz_pv _
  obtain ⟨q1, q2, q3⟩ := catS S1 S2 S3 d z1 z2 z3 hl
  have HX : Hid (frB a b d = S1 ++ S2 ++ S3 ++ d) := by show _ = _; rw [frB, ← hS1, ← hS2, ← hS3]
  have H1 : Hid (∀ w, Calls Try.prog 35 #[.int .u64 (a : Int), .int .i64 1] w fun e w' => e = .returned (.string S1) ∧ Below w.heap.size w w') := fun w => by have := l1Le_any a 1 w (by omega) (by omega); rwa [hS1] at this
  have H2 : Hid (∀ w, Calls Try.prog 35 #[.int .u64 (b : Int), .int .i64 1] w fun e w' => e = .returned (.string S2) ∧ Below w.heap.size w w') := fun w => by have := l1Le_any b 1 w (by omega) (by omega); rwa [hS2] at this
  have H3 : Hid (∀ w, Calls Try.prog 36 #[.int .u64 (d.size : Nat)] w fun e w' => e = .returned (.string S3) ∧ Below w.heap.size w w') := fun w => by have := specPutVarint_any d.size w (by omega); rwa [hS3] at this
  rw [HX.out]
  obtain ⟨W, hW⟩ : ∃ W, w.alloc (.cells #[.int .i64 (a : Int), .int .i64 (b : Int), .string d] 26) = W := ⟨_, rfl⟩
  obtain ⟨c0, c1, c2⟩ := boxF w a b d W hW
  have HB : Hid (Below w.heap.size w W) := by show Below _ _ _; rw [← hW]; exact bel1 _ _
  have HWW : Hid (w.alloc (.cells #[.int .i64 (a : Int), .int .i64 (b : Int), .string d] 26) = W) := hW
  have r0 := cells_re c0
  have r1 := cells_re c1
  have r2 := cells_re c2
  clear hW hS1 hS2 hS3 c0 c1 c2
  go_enter Try.func24, Try.ntmps24
  go_wp2_with fail
  rw [HWW.out]
  refine wp_region_quiet_below (by kernel_rfl) (by kernel_rfl) ?_
  repeat (go_big_quiet_step (fail))
  go_big_quiet_step (exact Calls.regrown_of (H1.out _))
  repeat (go_big_quiet_step (fail))
  go_big_quiet_step (exact Calls.regrown_of (H2.out _))
  repeat (go_big_quiet_step (fail))
  go_big_quiet_step (exact Calls.regrown_of (H3.out _))
  repeat (go_big_quiet_step (fail))
  refine wpQuiet_nil ?_
  intro w6 hw'
  obtain ⟨⟨dq, osq⟩, hw''⟩ := hw'
  have HB2 : Hid (Below w.heap.size w w6) := by show Below _ _ _; rw [hw'']; exact HB.out.trans ((below_regrown _ dq osq).mono HB.out.size)
  clear hw'' r0 r1 r2
  go_wp2_with fail
  go_ret
  exact ⟨rfl, HB2.out⟩
set_option maxRecDepth 100000 in
theorem specFrameBytes_any (f k : Int) (d : ByteArray) (w : World) (hd : d.size ≤ 1048576) : Calls Try.prog 8 #[.agg #[.int .i64 f, .int .i64 k, .string d]] w fun e w' => e = .returned (.string (frR f k d)) ∧ Below w.heap.size w w' := by
  by_cases h : (1 ≤ f ∧ f ≤ 5) ∧ (1 ≤ k ∧ k ≤ 4) ∧ d.size ≤ 1000
  · have HF : Hid (∀ w, Calls Try.prog 23 #[.agg #[.int .i64 f, .int .i64 k, .string d]] w fun e w' => e = .returned (.bool true) ∧ Below w.heap.size w w') := fun w => by have := l11Frame_any f k d w hd; rwa [show decide ((1 ≤ f ∧ f ≤ 5) ∧ (1 ≤ k ∧ k ≤ 4) ∧ d.size ≤ 1000) = true by simpa using h] at this
    have HB : Hid (∀ w, Calls Try.prog 24 #[.agg #[.int .i64 f, .int .i64 k, .string d]] w fun e w' => e = .returned (.string (frR f k d)) ∧ Below w.heap.size w w') := fun w => by
      have := l11Bytes_any f.toNat k.toNat d w (by omega) (by omega) h.2.2
      rw [frR, if_pos h]
      rwa [show ((f.toNat : Nat) : Int) = f by omega, show ((k.toNat : Nat) : Int) = k by omega] at this
    obtain ⟨X, hX⟩ : ∃ X, frR f k d = X := ⟨_, rfl⟩
    rw [hX] at HB ⊢
    clear h hX
    go_enter Try.func8, Try.ntmps8
    go_wp2_with fail
    refine (HF.out _).mono ?_
    rintro e w1 ⟨rfl, hb1⟩
    have HB1 : Hid (Below w.heap.size w w1) := (bel1 w _).trans (hb1.mono (by simp))
    obtain ⟨c0, c1, c2⟩ := boxF w f k d _ rfl
    have d0 : w1.cell? ⟨w.heap.size, 0, none⟩ = some (.int .i64 f) := by rw [hb1.cell (p := ⟨w.heap.size, 0, none⟩) (by simp)]; exact c0
    have d1 : w1.cell? ⟨w.heap.size, 1, none⟩ = some (.int .i64 k) := by rw [hb1.cell (p := ⟨w.heap.size, 1, none⟩) (by simp)]; exact c1
    have d2 : w1.cell? ⟨w.heap.size, 2, none⟩ = some (.string d) := by rw [hb1.cell (p := ⟨w.heap.size, 2, none⟩) (by simp)]; exact c2
    clear hb1 c0 c1 c2
    go_wp2_with fail
    refine (HB.out _).mono ?_
    rintro e w2 ⟨rfl, hb2⟩
    have HB2 : Hid (Below w.heap.size w w2) := HB1.out.trans (hb2.mono HB1.out.size)
    clear hb2
    go_wp2_with fail
    go_ret
    exact ⟨rfl, HB2.out⟩
  · have HF : Hid (∀ w, Calls Try.prog 23 #[.agg #[.int .i64 f, .int .i64 k, .string d]] w fun e w' => e = .returned (.bool false) ∧ Below w.heap.size w w') := fun w => by have := l11Frame_any f k d w hd; rwa [show decide ((1 ≤ f ∧ f ≤ 5) ∧ (1 ≤ k ∧ k ≤ 4) ∧ d.size ≤ 1000) = false by simpa using h] at this
    have HR : Hid (frR f k d = ⟨#[]⟩) := if_neg h
    rw [HR.out]
    clear h
    go_enter Try.func8, Try.ntmps8
    go_wp2_with fail
    refine (HF.out _).mono ?_
    rintro e w1 ⟨rfl, hb1⟩
    have HB1 : Hid (Below w.heap.size w w1) := (bel1 w _).trans (hb1.mono (by simp))
    clear hb1
    go_wp2_with fail
    go_ret
    exact ⟨rfl, HB1.out⟩
end Go.Proofs.Ytbepiebcpcjpcaa
