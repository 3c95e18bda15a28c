/- The reader of frames: one frame: contract. -/
import Derived.Test.YtgidjhgaeghanaaDoorTFc
import Derived.Test.YtgidjhgaeghanaaDoorSh
namespace Go.Proofs.YtgidjhgaeghanaaDoor
open Go.RowKit Go.Sort
set_option linter.unusedVariables false
theorem KR.grown {w w' : World} {b : Nat} (h : KR w) (hg : w.grownBy w' (some b)) (hb : 0 < b) : KR w' := by
  have h0 := h.1
  refine ⟨by have := hg.size; omega, ?_⟩
  have e : w'.heap[0]? = w.heap[0]? := hg.block _ (by omega) (fun e => by cases e; omega)
  have h2 := h.2
  unfold World.var? at h2 ⊢
  rw [Tryd.gKR] at h2 ⊢
  simp only [Option.bind_some] at h2 ⊢
  rw [e]; exact h2
theorem mk_trans {w w1 w2 : World} {row : Option Nat} (h : w.grownBy w1 row) (k : w1.grownBy w2 row) : w.grownBy w2 row :=
  ⟨k.os.trans h.os, k.tape.trans h.tape, k.output.trans h.output, Nat.le_trans h.size k.size, fun q hq hne => (k.block q (Nat.lt_of_lt_of_le hq h.size) hne).trans (h.block q hq hne)⟩
theorem clone_any (s : ByteArray) (w : World) (hs : s.size ≤ 281474976710656) : Calls Tryd.prog 32 #[.string s] w fun e w' => e = .returned (.string s) ∧ Below w.heap.size w w' := by
  have HC : Hid (Calls Tryd.prog 35 #[.string s] w fun e w' => e = .returned (.string s) ∧ Below w.heap.size w w') := Tryd.stringslite_Clone s w hs
  go_enter Tryd.func32, Tryd.ntmps32
  go_wp2_with fail
  refine HC.out.mono ?_
  rintro e w1 ⟨rfl, hb⟩
  have HB : Hid (Below w.heap.size w w1) := hb
  clear hb
  go_wp2_with fail
  go_ret
  exact ⟨rfl, HB.out⟩
/-- What a frame's reading answers. -/
def FrE (R : ByteArray) (q b : Nat) (w w' : World) (e : Ending) : Prop := w.grownBy w' (some b) ∧ ((∃ n, nx R.data.toList = some n ∧ e = .returned (.string ⟨(hD R.data.toList n).toArray⟩) ∧ Bx w' b (R.extract (8 + n) R.size) (q + (8 + n))) ∨ (nx R.data.toList = none ∧ GaveUp q e))
theorem FrE.no {R : ByteArray} {q b : Nat} {w w' : World} (hg : w.grownBy w' (some b)) (h : nx R.data.toList = none) : FrE R q b w w' (.panicked [{ v := .iface 48 (.int .i64 (q : Nat)), recovered := false }]) := ⟨hg, .inr ⟨h, rfl⟩⟩
theorem exR (R : ByteArray) (a : Nat) : (R.extract a R.size).data.toList = R.data.toList.drop a := by
  rw [exL]; exact List.take_of_length_le (by simp)
set_option maxRecDepth 100000 in
set_option maxHeartbeats 4000000 in
theorem frame_any (b : Nat) (R : ByteArray) (q : Nat) (w : World) (hb : Bx w b R q) (hk : KR w) (hbG : 0 < b) (hR : R.size ≤ 1048576) (hq : q ≤ 1048576) : Calls Tryd.prog 25 #[.pointer (some ⟨b, 0, none⟩)] w fun e w' => FrE R q b w w' e := by
  obtain ⟨L, hL⟩ : ∃ L, R.data.toList = L := ⟨_, rfl⟩
  have hLl : L.length = R.size := by rw [← hL]; rfl
  have HWd : Hid (∀ w, Calls Tryd.prog 19 #[] w fun e w' => e = .returned (.int .i64 4) ∧ w' = w) := fun w => widthOf_u32_any w
  by_cases h4 : R.size < 4
  · have HE : Hid (nx R.data.toList = none) := nx_short (by rw [hL]; omega)
    have HT : Hid (Calls Tryd.prog 29 #[.pointer (some ⟨b, 0, none⟩), .int .i64 4] w fun e w' => GaveUp q e ∧ w' = w) := take_no b R q 4 w hb h4 (by decide) hR
    clear hb hk hbG hL hLl h4
    go_enter Tryd.func25, Tryd.ntmps25
    go_wp2_with fail
    refine (HWd.out _).mono ?_
    rintro e w1 ⟨rfl, rfl⟩
    go_wp2_with fail
    refine HT.out.mono ?_
    rintro e w2 ⟨rfl, rfl⟩
    exact ⟨rfl, FrE.no (mk_refl _ _) HE.out⟩
  · obtain ⟨T1, hT1⟩ : ∃ T, R.extract 0 4 = T := ⟨_, rfl⟩
    obtain ⟨R1, hR1⟩ : ∃ T, R.extract 4 R.size = T := ⟨_, rfl⟩
    have hT1s : T1.size = 4 := by rw [← hT1]; simp; omega
    have hR1s : R1.size = R.size - 4 := by rw [← hR1]; simp
    have HT : Hid (Calls Tryd.prog 29 #[.pointer (some ⟨b, 0, none⟩), .int .i64 4] w fun e w' => e = .returned (.string T1) ∧ Bx w' b R1 q ∧ w.grownBy w' (some b)) := by
      have := take_yes b R q 4 w hb (by omega) hR
      rwa [hT1, hR1] at this
    obtain ⟨n, hn⟩ : ∃ n, hN L = n := ⟨_, rfl⟩
    have hnl : n < 4294967296 := by rw [← hn]; exact hN_lt L
    have HRH : Hid (∀ w, Calls Tryd.prog 28 #[.string T1, .int .i64 4] w fun e w' => e = .returned (.tuple #[.int .u32 (n : Nat), .bool true]) ∧ w' = w) := fun w => by
      have := readHigh_u32_any T1 4 w (by decide) (by unfold maxLen; omega)
      rw [if_neg (by omega), decide_eq_true (by omega)] at this
      rwa [show leV (T1.data.toList.take 4).reverse = n from by rw [← hn, hN, ← hL, ← hT1, exL]; simp [List.take_take]] at this
    by_cases h8 : R.size < 8
    · have HE : Hid (nx R.data.toList = none) := nx_short (by rw [hL]; omega)
      have HT2 : Hid (∀ w, Bx w b R1 q → Calls Tryd.prog 29 #[.pointer (some ⟨b, 0, none⟩), .int .i64 4] w fun e w' => GaveUp q e ∧ w' = w) := fun w h => take_no b R1 q 4 w h (by omega) (by decide) (by omega)
      clear hb hk hbG hL hLl hT1 hR1 hn
      go_enter Tryd.func25, Tryd.ntmps25
      go_wp2_with fail
      refine (HWd.out _).mono ?_
      rintro e w1 ⟨rfl, rfl⟩
      go_wp2_with fail
      refine HT.out.mono ?_
      rintro e w2 ⟨rfl, hbx, hg⟩
      have HB2 : Hid (Bx w2 b R1 q) := hbx
      have HG2 : Hid (w1.grownBy w2 (some b)) := hg
      clear hbx hg
      go_wp2_with fail
      refine (HRH.out _).mono ?_
      rintro e w3 ⟨rfl, rfl⟩
      go_wp2_with fail
      refine (HT2.out _ HB2.out).mono ?_
      rintro e w4 ⟨rfl, rfl⟩
      exact ⟨rfl, FrE.no HG2.out HE.out⟩
    · obtain ⟨T2, hT2⟩ : ∃ T, R1.extract 0 4 = T := ⟨_, rfl⟩
      obtain ⟨R2, hR2⟩ : ∃ T, R1.extract 4 R1.size = T := ⟨_, rfl⟩
      have hT2s : T2.size = 4 := by rw [← hT2]; simp; omega
      have hR2s : R2.size = R.size - 8 := by rw [← hR2]; simp; omega
      have hR1L : R1.data.toList = L.drop 4 := by rw [← hR1, exR, hL]
      have hR2L : R2.data.toList = L.drop 8 := by rw [← hR2, exR, hR1L, List.drop_drop]
      obtain ⟨m, hm⟩ : ∃ m, hS L = m := ⟨_, rfl⟩
      have hml : m < 4294967296 := by rw [← hm]; exact hS_lt L
      have HT2 : Hid (∀ w, Bx w b R1 q → Calls Tryd.prog 29 #[.pointer (some ⟨b, 0, none⟩), .int .i64 4] w fun e w' => e = .returned (.string T2) ∧ Bx w' b R2 q ∧ w.grownBy w' (some b)) := fun w h => by
        have := take_yes b R1 q 4 w h (by omega) (by omega)
        rwa [hT2, hR2] at this
      have HRW : Hid (∀ w, Calls Tryd.prog 30 #[.string T2] w fun e w' => e = .returned (.tuple #[.int .u32 (m : Nat), .bool true]) ∧ w' = w) := fun w => by
        have := readWhole_u32_any T2 w (by unfold maxLen; omega)
        rw [if_neg (by omega), decide_eq_true (by omega)] at this
        rwa [show leV (T2.data.toList.take 4) = m from by rw [← hm, hS, ← hT2, exL, hR1L]; simp [List.take_take]] at this
      by_cases h1 : 100000 < n
      · have HE : Hid (nx R.data.toList = none) := by show _ = _; rw [hL]; exact nx_none (.inl (by omega))
        have HGU : Hid (∀ w, Bx w b R2 q → Calls Tryd.prog 31 #[.pointer (some ⟨b, 0, none⟩)] w fun e w' => GaveUp q e ∧ w' = w) := fun w h => giveUp_any b R2 q w h
        have d1 : decide (100000 < (n : Int)) = true := by simp; omega
        clear hb hk hbG hL hLl hT1 hR1 hn hT2 hR2 hR1L hR2L hm
        go_enter Tryd.func25, Tryd.ntmps25
        go_wp2_with fail
        refine (HWd.out _).mono ?_
        rintro e w1 ⟨rfl, rfl⟩
        go_wp2_with fail
        refine HT.out.mono ?_
        rintro e w2 ⟨rfl, hbx, hg⟩
        have HB2 : Hid (Bx w2 b R1 q) := hbx
        have HG2 : Hid (w1.grownBy w2 (some b)) := hg
        clear hbx hg
        go_wp2_with fail
        refine (HRH.out _).mono ?_
        rintro e w3 ⟨rfl, rfl⟩
        go_wp2_with fail
        refine (HT2.out _ HB2.out).mono ?_
        rintro e w4 ⟨rfl, hbx, hg⟩
        have HB4 : Hid (Bx w4 b R2 q) := hbx
        have HG4 : Hid (w1.grownBy w4 (some b)) := mk_trans HG2.out hg
        clear hbx hg
        go_wp2_with fail
        refine (HRW.out _).mono ?_
        rintro e w5 ⟨rfl, rfl⟩
        go_wp2_with fail
        refine (HGU.out _ HB4.out).mono ?_
        rintro e w6 ⟨rfl, rfl⟩
        exact ⟨rfl, FrE.no HG4.out HE.out⟩
      · have d1 : decide (100000 < (n : Int)) = false := by simp; omega
        by_cases h2 : R2.size < n
        · have HE : Hid (nx R.data.toList = none) := by show _ = _; rw [hL]; exact nx_none (.inr (.inl (by omega)))
          have HT3 : Hid (∀ w, Bx w b R2 q → Calls Tryd.prog 29 #[.pointer (some ⟨b, 0, none⟩), .int .i64 (n : Nat)] w fun e w' => GaveUp q e ∧ w' = w) := fun w h => take_no b R2 q n w h h2 hnl (by omega)
          clear hb hk hbG hL hLl hT1 hR1 hn hT2 hR2 hR1L hR2L hm
          go_enter Tryd.func25, Tryd.ntmps25
          go_wp2_with fail
          refine (HWd.out _).mono ?_
          rintro e w1 ⟨rfl, rfl⟩
          go_wp2_with fail
          refine HT.out.mono ?_
          rintro e w2 ⟨rfl, hbx, hg⟩
          have HB2 : Hid (Bx w2 b R1 q) := hbx
          have HG2 : Hid (w1.grownBy w2 (some b)) := hg
          clear hbx hg
          go_wp2_with fail
          refine (HRH.out _).mono ?_
          rintro e w3 ⟨rfl, rfl⟩
          go_wp2_with fail
          refine (HT2.out _ HB2.out).mono ?_
          rintro e w4 ⟨rfl, hbx, hg⟩
          have HB4 : Hid (Bx w4 b R2 q) := hbx
          have HG4 : Hid (w1.grownBy w4 (some b)) := mk_trans HG2.out hg
          clear hbx hg
          go_wp2_with fail
          refine (HRW.out _).mono ?_
          rintro e w5 ⟨rfl, rfl⟩
          go_wp2_with fail
          refine (HT3.out _ HB4.out).mono ?_
          rintro e w6 ⟨rfl, rfl⟩
          exact ⟨rfl, FrE.no HG4.out HE.out⟩
        · obtain ⟨D, hDD⟩ : ∃ T, R2.extract 0 n = T := ⟨_, rfl⟩
          obtain ⟨R3, hR3⟩ : ∃ T, R2.extract n R2.size = T := ⟨_, rfl⟩
          have hDs : D.size = n := by rw [← hDD]; simp; omega
          have hDL : D.data.toList = hD L n := by rw [← hDD, exL, hR2L, hD]; simp
          have HR3 : Hid (R3 = R.extract (8 + n) R.size) := by
            show _ = _
            rw [str_of (S := R3) (l := L.drop (8 + n)) (by rw [← hR3, exR, hR2L, List.drop_drop]), str_of (S := R.extract (8 + n) R.size) (l := L.drop (8 + n)) (by rw [exR, hL])]
          have HDe : Hid (D = ⟨(hD R.data.toList n).toArray⟩) := by show _ = _; rw [hL]; exact str_of hDL
          have HT3 : Hid (∀ w, Bx w b R2 q → Calls Tryd.prog 29 #[.pointer (some ⟨b, 0, none⟩), .int .i64 (n : Nat)] w fun e w' => e = .returned (.string D) ∧ Bx w' b R3 q ∧ w.grownBy w' (some b)) := fun w h => by
            have := take_yes b R2 q n w h (by omega) (by omega)
            rwa [hDD, hR3] at this
          obtain ⟨c, hc⟩ : ∃ c, crc D.data.toList = c := ⟨_, rfl⟩
          have hcl : c < 4294967296 := by rw [← hc]; exact crc_lt _
          have HCR : Hid (∀ w', w.grownBy w' (some b) → Calls Tryd.prog 21 #[.string D] w' fun e w'' => e = .returned (.int .u32 (c : Nat)) ∧ w'' = w') := fun w' hg => by have := crcOf_any D w' (hk.grown hg hbG) (by omega); rwa [hc] at this
          have hcL : crc (hD L n) = c := by rw [← hc, hDL]
          have hl8 : 8 ≤ L.length := by omega
          by_cases h3 : c = m
          · have HE : Hid (nx R.data.toList = some n) := by
              show _ = _
              rw [hL]
              have := nx_some (l := L) hl8 (by omega) (by omega) (by rw [hn, hcL, hm]; exact h3)
              rwa [hn] at this
            have hce : ((c : Int) == (m : Int)) = true := by simp; omega
            have HCL : Hid (∀ w, Calls Tryd.prog 32 #[.string D] w fun e w' => e = .returned (.string D) ∧ Below w.heap.size w w') := fun w => clone_any D w (by omega)
            clear hb hk hbG hL hLl hT1 hR1 hn hT2 hR2 hR1L hR2L hm hDD hR3 hDL hc hcL h3
            go_enter Tryd.func25, Tryd.ntmps25
            go_wp2_with fail
            refine (HWd.out _).mono ?_
            rintro e w1 ⟨rfl, rfl⟩
            go_wp2_with fail
            refine HT.out.mono ?_
            rintro e w2 ⟨rfl, hbx, hg⟩
            have HB2 : Hid (Bx w2 b R1 q) := hbx
            have HG2 : Hid (w1.grownBy w2 (some b)) := hg
            clear hbx hg
            go_wp2_with fail
            refine (HRH.out _).mono ?_
            rintro e w3 ⟨rfl, rfl⟩
            go_wp2_with fail
            refine (HT2.out _ HB2.out).mono ?_
            rintro e w4 ⟨rfl, hbx, hg⟩
            have HB4 : Hid (Bx w4 b R2 q) := hbx
            have HG4 : Hid (w1.grownBy w4 (some b)) := mk_trans HG2.out hg
            clear hbx hg
            go_wp2_with fail
            refine (HRW.out _).mono ?_
            rintro e w5 ⟨rfl, rfl⟩
            go_wp2_with fail
            refine (HT3.out _ HB4.out).mono ?_
            rintro e w6 ⟨rfl, hbx, hg⟩
            have HB6 : Hid (Bx w6 b R3 q) := hbx
            have HG6 : Hid (w1.grownBy w6 (some b)) := mk_trans HG4.out hg
            clear hbx hg
            go_wp2_with fail
            refine (HCR.out _ HG6.out).mono ?_
            rintro e w7 ⟨rfl, rfl⟩
            obtain ⟨c0, c1, f0, f1⟩ := HB6.out.cells
            go_wp2_with fail
            have hx : Bx (w7.setCell ⟨b, 1, none⟩ (.int .i64 ((q : Int) + (8 + (n : Int))))) b R3 (q + (8 + n)) := by
              have := HB6.out.set1 (q + (8 + n))
              rwa [show ((q + (8 + n) : Nat) : Int) = (q : Int) + (8 + (n : Int)) from by omega] at this
            have HX : Hid (Bx (w7.setCell ⟨b, 1, none⟩ (.int .i64 ((q : Int) + (8 + (n : Int))))) b R3 (q + (8 + n))) := hx
            have HGX : Hid (w1.grownBy (w7.setCell ⟨b, 1, none⟩ (.int .i64 ((q : Int) + (8 + (n : Int))))) (some b)) := mk_set HG6.out _ _
            clear hx c0 c1 f0 f1
            refine (HCL.out _).mono ?_
            rintro e w8 ⟨rfl, hb8⟩
            have HX8 : Hid (Bx w8 b R3 (q + (8 + n))) := (hb8.block b (blk_lt HX.out)).trans HX.out
            have HG8 : Hid (w1.grownBy w8 (some b)) := mk_full HGX.out hb8
            clear hb8
            go_wp2_with fail
            go_ret
            exact ⟨HG8.out, .inl ⟨n, HE.out, congrArg (fun x => Ending.returned (.string x)) HDe.out, by rw [← HR3.out]; exact HX8.out⟩⟩
          · have HE : Hid (nx R.data.toList = none) := by show _ = _; rw [hL]; exact nx_none (.inr (.inr (by rw [hn, hcL, hm]; exact h3)))
            have hce : ((c : Int) == (m : Int)) = false := by simp; omega
            have HGU : Hid (∀ w, Bx w b R3 q → Calls Tryd.prog 31 #[.pointer (some ⟨b, 0, none⟩)] w fun e w' => GaveUp q e ∧ w' = w) := fun w h => giveUp_any b R3 q w h
            clear hb hk hbG hL hLl hT1 hR1 hn hT2 hR2 hR1L hR2L hm hDD hR3 hDL hc hcL h3
            go_enter Tryd.func25, Tryd.ntmps25
            go_wp2_with fail
            refine (HWd.out _).mono ?_
            rintro e w1 ⟨rfl, rfl⟩
            go_wp2_with fail
            refine HT.out.mono ?_
            rintro e w2 ⟨rfl, hbx, hg⟩
            have HB2 : Hid (Bx w2 b R1 q) := hbx
            have HG2 : Hid (w1.grownBy w2 (some b)) := hg
            clear hbx hg
            go_wp2_with fail
            refine (HRH.out _).mono ?_
            rintro e w3 ⟨rfl, rfl⟩
            go_wp2_with fail
            refine (HT2.out _ HB2.out).mono ?_
            rintro e w4 ⟨rfl, hbx, hg⟩
            have HB4 : Hid (Bx w4 b R2 q) := hbx
            have HG4 : Hid (w1.grownBy w4 (some b)) := mk_trans HG2.out hg
            clear hbx hg
            go_wp2_with fail
            refine (HRW.out _).mono ?_
            rintro e w5 ⟨rfl, rfl⟩
            go_wp2_with fail
            refine (HT3.out _ HB4.out).mono ?_
            rintro e w6 ⟨rfl, hbx, hg⟩
            have HB6 : Hid (Bx w6 b R3 q) := hbx
            have HG6 : Hid (w1.grownBy w6 (some b)) := mk_trans HG4.out hg
            clear hbx hg
            go_wp2_with fail
            refine (HCR.out _ HG6.out).mono ?_
            rintro e w7 ⟨rfl, rfl⟩
            go_wp2_with fail
            refine (HGU.out _ HB6.out).mono ?_
            rintro e w8 ⟨rfl, rfl⟩
            exact ⟨rfl, FrE.no HG6.out HE.out⟩
end Go.Proofs.YtgidjhgaeghanaaDoor
