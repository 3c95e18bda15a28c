/- A command's text, both sides: contracts. -/
import Derived.Test.YtdbkglnmmaglcaaDoorGAa
import Derived.Test.YtdbkglnmmaglcaaDoorS5d
import Derived.Deep.RegionWith
namespace Go.Proofs.YtdbkglnmmaglcaaDoor
open Go.RowKit Go.Sort
set_option linter.unusedVariables false
/-- The names of the formats. -/
def fmtS : Nat → ByteArray
  | 0 => ⟨#[114, 108, 112]⟩
  | 1 => ⟨#[115, 115, 122]⟩
  | 2 => ⟨#[115, 99, 97, 108, 101]⟩
  | 3 => ⟨#[112, 114, 111, 116, 111]⟩
  | 4 => ⟨#[98, 105, 116, 99, 111, 105, 110]⟩
  | _ => ⟨#[]⟩
def kc : Array Value := #[.string ⟨#[114, 108, 112]⟩, .string ⟨#[115, 115, 122]⟩, .string ⟨#[115, 99, 97, 108, 101]⟩, .string ⟨#[112, 114, 111, 116, 111]⟩, .string ⟨#[98, 105, 116, 99, 111, 105, 110]⟩]
/-- The table in memory. -/
def KR (w : World) : Prop := 0 < w.heap.size ∧ w.var? Tryd.prog "loop.example/g00774/impl.formatNames" = some kc
theorem Tryd.gKR : Tryd.prog.globalNamed "loop.example/g00774/impl.formatNames" = some 0 := by kernel_rfl
theorem KR.cell {w : World} (h : KR w) (r : Nat) (hr : r < 5) : w.cell? ⟨0, r, none⟩ = some (.string (fmtS r)) := by
  have := World.var?_cell Tryd.gKR h.2 r
  rw [this]
  match r, hr with
  | 0, _ => rfl
  | 1, _ => rfl
  | 2, _ => rfl
  | 3, _ => rfl
  | 4, _ => rfl
theorem KR.below {w w' : World} (h : KR w) {B : Nat} (hb : Below B w w') (hB : w.heap.size ≤ B) : KR w' := by
  have h0 := h.1
  refine ⟨by have := hb.size; omega, ?_⟩
  have e : w'.heap[0]? = w.heap[0]? := hb.block _ (by omega)
  have h2 := h.2
  unfold World.var? at h2 ⊢
  rw [Tryd.gKR] at h2 ⊢
  simp only [Option.bind_some] at h2 ⊢
  rw [e]; exact h2
def hexW (s : ByteArray) : ByteArray := if s.size = 0 then ⟨#[45]⟩ else ⟨(hexL s.data.toList).toArray⟩
/-- A command's text. -/
def cmdT (k a : Int) (s : ByteArray) : ByteArray :=
  if cmdB k a s then (if k = 1 then ⟨#[116, 111, 32]⟩ ++ fmtS (a - 1).toNat else if k = 2 then ⟨#[102, 101, 101, 100, 32]⟩ ++ hexW s else ⟨#[114, 101, 115, 101, 116]⟩) else ⟨#[]⟩
theorem hexW_size (s : ByteArray) (h : s.size ≤ 400) : (hexW s).size ≤ 800 := by
  unfold hexW
  split
  · decide
  · show (hexL s.data.toList).toArray.size ≤ 800
    have : s.data.toList.length = s.size := Array.length_toList
    rw [List.size_toArray, hexL_len]; omega
theorem fmt_size (r : Nat) : (fmtS r).size ≤ 7 := by
  unfold fmtS; split <;> decide
set_option maxRecDepth 100000 in
set_option maxHeartbeats 1000000 in
theorem bytesWord_any (s : ByteArray) (w : World) (hs : s.size ≤ 1048577) : Calls Tryd.prog 16 #[.string s] w fun e w' => e = .returned (.string (hexW s)) ∧ Below w.heap.size w w' := by
  by_cases h0 : s.size = 0
  · obtain rfl := size_empty h0
    go_enter Tryd.func16, Tryd.ntmps16
    go_wp2_with fail
    go_ret
    exact ⟨rfl, Below.refl _ _⟩
  · have HR : Hid (hexW s = ⟨(hexL s.data.toList).toArray⟩) := by show _ = _; unfold hexW; rw [if_neg h0]
    have h00 : s.toList.isEmpty = false := by have := toList_ne h0; simpa using this
    have HC : Hid (∀ w, Calls Tryd.prog 25 #[.string s] w fun e w' => e = .returned (.string (hexW s)) ∧ Below w.heap.size w w') := fun w => by rw [HR.out]; exact digitsOf_any s w hs
    clear HR
    go_enter Tryd.func16, Tryd.ntmps16
    go_wp2_with fail
    refine (HC.out _).mono ?_
    rintro e w1 ⟨rfl, hb⟩
    have HB : Hid (Below w.heap.size w w1) := hb
    clear hb
    go_wp2_with fail
    go_ret
    exact ⟨rfl, HB.out⟩
set_option maxRecDepth 100000 in
set_option maxHeartbeats 1000000 in
theorem l13Hex_any (s : ByteArray) (w : World) (hs : s.size ≤ 1048577) : Calls Tryd.prog 23 #[.string s] w fun e w' => e = .returned (.string (hexW s)) ∧ Below w.heap.size w w' := by
  by_cases h0 : s.size = 0
  · obtain rfl := size_empty h0
    go_enter Tryd.func23, Tryd.ntmps23
    go_wp2_with fail
    go_ret
    exact ⟨rfl, Below.refl _ _⟩
  · have HR : Hid (hexW s = ⟨(hexL s.data.toList).toArray⟩) := by show _ = _; unfold hexW; rw [if_neg h0]
    have h00 : s.toList.isEmpty = false := by have := toList_ne h0; simpa using this
    have HC : Hid (∀ w, Calls Tryd.prog 27 #[.string s] w fun e w' => e = .returned (.string (hexW s)) ∧ Below w.heap.size w w') := fun w => by rw [HR.out]; exact l3Hex_any s w hs
    clear HR
    go_enter Tryd.func23, Tryd.ntmps23
    go_wp2_with fail
    refine (HC.out _).mono ?_
    rintro e w1 ⟨rfl, hb⟩
    have HB : Hid (Below w.heap.size w w1) := hb
    clear hb
    go_wp2_with fail
    go_ret
    exact ⟨rfl, HB.out⟩
set_option maxHeartbeats 1000000 in
theorem formatName_any (r : Nat) (w : World) (hr : r < 5) (hw : KR w) : Calls Tryd.prog 15 #[.int .i64 ((r : Int) + 1)] w fun e w' => e = .returned (.string (fmtS r)) ∧ w' = w := by
  have c := hw.cell r hr
  have hr2 : (r : Int) < 5 := by omega
  generalize fmtS r = F at c ⊢
  clear hw
  go_enter Tryd.func15, Tryd.ntmps15
  go_wp2
  go_ret
  exact ⟨rfl, rfl⟩
theorem alloc_big (w : World) (o : Obj) (h : True) : w.heap.size ≤ (w.alloc o).heap.size := by simp
set_option maxRecDepth 100000 in
theorem l13Names_any (w : World) : Calls Tryd.prog 22 #[] w fun e w' => e = .returned (.slice (some ⟨w.heap.size, 0, none⟩) 5 5) ∧ w' = w.alloc (.cells kc 9) := by
  go_enter Tryd.func22, Tryd.ntmps22
  go_wp2_with fail
  go_ret
  exact ⟨rfl, rfl⟩
set_option maxRecDepth 100000 in
set_option maxHeartbeats 2000000 in
theorem l13Text_any (k a : Int) (s : ByteArray) (w : World) (hok : cmdB k a s = true) : Calls Tryd.prog 13 #[.agg #[.int .i64 k, .int .i64 a, .string s]] w fun e w' => e = .returned (.string (cmdT k a s)) ∧ Below w.heap.size w w' := by
  obtain ⟨W, hW⟩ : ∃ W, w.alloc (.cells #[.int .i64 k, .int .i64 a, .string s] 26) = W := ⟨_, rfl⟩
  have HB : Hid (Below w.heap.size w W) := by show Below _ _ _; rw [← hW]; exact bel1 _ _
  obtain ⟨c0, c1, c2⟩ := boxC w k a s 26 W (by rw [← hW]; exact heap_alloc_new w _)
  have hlt : w.heap.size < W.heap.size := by rw [← hW]; simp
  have HT : Hid (cmdT k a s = if k = 1 then ⟨#[116, 111, 32]⟩ ++ fmtS (a - 1).toNat else if k = 2 then ⟨#[102, 101, 101, 100, 32]⟩ ++ hexW s else ⟨#[114, 101, 115, 101, 116]⟩) := by show _ = _; unfold cmdT; rw [if_pos hok]
  unfold cmdB at hok
  by_cases h1 : k = 1
  · subst h1
    rw [if_pos rfl] at hok
    simp only [Bool.and_eq_true, decide_eq_true_eq] at hok
    have ha : a = 1 ∨ a = 2 ∨ a = 3 ∨ a = 4 ∨ a = 5 := by omega
    have HQ : Hid (cmdT 1 a s = ⟨#[116, 111, 32]⟩ ++ fmtS (a - 1).toNat) := by show _ = _; rw [HT.out, if_pos rfl]
    have HN : Hid (∀ w, Calls Tryd.prog 22 #[] w fun e w' => e = .returned (.slice (some ⟨w.heap.size, 0, none⟩) 5 5) ∧ w' = w.alloc (.cells kc 9)) := fun w => l13Names_any w
    clear hok HT
    have d1 : (W.drew.alloc (.cells kc 9)).cell? ⟨w.heap.size, 1, none⟩ = some (.int .i64 a) := by
      rw [((Below.refl W.heap.size W).drew.alloc (Nat.le_refl _) _).cell (p := ⟨w.heap.size, 1, none⟩) hlt]; exact c1
    unfold kc at d1
    rcases ha with rfl | rfl | rfl | rfl | rfl
    all_goals
      go_enter Tryd.func13, Tryd.ntmps13
      go_wp2_with fail
      go_region_with (go_at_call 22; refine (HN.out _).mono ?_; rintro e w2 ⟨rfl, rfl⟩; unfold kc)
      all_goals
        go_wp2_with fail
        go_ret
        exact ⟨by rw [HQ.out]; rfl, Below.trans HB.out (Below.mono (by repeat (first | exact Below.refl _ _ | (refine Below.drew ?_) | (refine Below.alloc ?_ (by first | (simp; done) | (simp; omega)) _))) HB.out.size)⟩
  · rw [if_neg h1] at hok
    by_cases h2 : k = 2
    · subst h2
      rw [if_pos rfl] at hok
      simp only [Bool.and_eq_true, decide_eq_true_eq] at hok
      have HQ : Hid (cmdT 2 a s = ⟨#[102, 101, 101, 100, 32]⟩ ++ hexW s) := by show _ = _; rw [HT.out, if_neg (by decide), if_pos rfl]
      have HC : Hid (∀ w, Calls Tryd.prog 23 #[.string s] w fun e w' => e = .returned (.string (hexW s)) ∧ Below w.heap.size w w') := fun w => l13Hex_any s w (by omega)
      have hz := hexW_size s hok.2
      have hz2 : ((⟨#[102, 101, 101, 100, 32]⟩ : ByteArray) ++ hexW s).size ≤ 805 := by rw [ByteArray.size_append]; exact Nat.add_le_add (by decide) hz
      generalize hexW s = F at HQ HC hz hz2
      clear hok HT h1
      go_enter Tryd.func13, Tryd.ntmps13
      go_wp2_with fail
      refine (HC.out _).mono ?_
      rintro e w1 ⟨rfl, hb⟩
      have HB1 : Hid (Below w.heap.size w w1) := HB.out.trans (hb.mono HB.out.size)
      clear hb
      go_wp2_with fail
      go_ret
      exact ⟨by rw [HQ.out]; rfl, HB1.out⟩
    · rw [if_neg h2] at hok
      by_cases h3 : k = 3
      · subst h3
        have HQ : Hid (cmdT 3 a s = ⟨#[114, 101, 115, 101, 116]⟩) := by show _ = _; rw [HT.out, if_neg (by decide), if_neg (by decide)]
        clear hok HT h1 h2
        go_enter Tryd.func13, Tryd.ntmps13
        go_wp2_with fail
        go_ret
        exact ⟨by rw [HQ.out]; rfl, HB.out⟩
      · rw [if_neg h3] at hok; cases hok
set_option maxRecDepth 100000 in
set_option maxHeartbeats 2000000 in
theorem specCmdText_any (k a : Int) (s : ByteArray) (w : World) (hs : s.size ≤ 1048577) : Calls Tryd.prog 6 #[.agg #[.int .i64 k, .int .i64 a, .string s]] w fun e w' => e = .returned (.string (cmdT k a s)) ∧ Below w.heap.size w w' := by
  obtain ⟨W, hW⟩ : ∃ W, w.alloc (.cells #[.int .i64 k, .int .i64 a, .string s] 26) = W := ⟨_, rfl⟩
  have HB : Hid (Below w.heap.size w W) := by show Below _ _ _; rw [← hW]; exact bel1 _ _
  have HK : Hid (W.heap[w.heap.size]? = some (.cells #[.int .i64 k, .int .i64 a, .string s] 26 (0, 0))) := by show _ = _; rw [← hW]; exact heap_alloc_new w _
  have HWW : Hid (w.alloc (.cells #[.int .i64 k, .int .i64 a, .string s] 26) = W) := hW
  obtain ⟨c0, c1, c2⟩ := boxC w k a s 26 W HK.out
  have hlt : w.heap.size < W.heap.size := by rw [← hW]; simp
  obtain ⟨o, ho⟩ : ∃ o, cmdB k a s = o := ⟨_, rfl⟩
  have HO : Hid (∀ w, Calls Tryd.prog 12 #[.agg #[.int .i64 k, .int .i64 a, .string s]] w fun e w' => e = .returned (.bool o) ∧ Below w.heap.size w w') := fun w => by rw [← ho]; exact specCmdOk_any k a s w hs
  clear hW
  cases o with
  | false =>
    have HR : Hid (cmdT k a s = ⟨#[]⟩) := by show _ = _; unfold cmdT; rw [if_neg (by rw [ho]; decide)]
    clear ho
    go_enter Tryd.func6, Tryd.ntmps6
    go_wp2_with fail
    rw [HWW.out]
    refine (HO.out _).mono ?_
    rintro e w1 ⟨rfl, hb⟩
    have HB1 : Hid (Below w.heap.size w w1) := HB.out.trans (hb.mono HB.out.size)
    clear hb
    go_wp2_with fail
    go_ret
    exact ⟨by rw [HR.out]; rfl, HB1.out⟩
  | true =>
    have HT : Hid (∀ w, Calls Tryd.prog 13 #[.agg #[.int .i64 k, .int .i64 a, .string s]] w fun e w' => e = .returned (.string (cmdT k a s)) ∧ Below w.heap.size w w') := fun w => l13Text_any k a s w ho
    generalize cmdT k a s = F at HT ⊢
    clear ho
    go_enter Tryd.func6, Tryd.ntmps6
    go_wp2_with fail
    rw [HWW.out]
    refine (HO.out _).mono ?_
    rintro e w1 ⟨rfl, hb⟩
    have HB1 : Hid (Below w.heap.size w w1) := HB.out.trans (hb.mono HB.out.size)
    have HK1 : Hid (w1.heap[w.heap.size]? = some (.cells #[.int .i64 k, .int .i64 a, .string s] 26 (0, 0))) := (hb.block _ hlt).trans HK.out
    obtain ⟨d0, d1, d2⟩ := boxC w k a s 26 w1 HK1.out
    clear hb c0 c1 c2
    go_wp2_with fail
    refine (HT.out _).mono ?_
    rintro e w2 ⟨rfl, hb⟩
    have HB2 : Hid (Below w.heap.size w w2) := HB1.out.trans (hb.mono HB1.out.size)
    clear hb
    go_wp2_with fail
    go_ret
    exact ⟨rfl, HB2.out⟩
set_option maxRecDepth 100000 in
set_option maxHeartbeats 2000000 in
theorem implCmdText_any (k a : Int) (s : ByteArray) (w : World) (hw : KR w) (hs : s.size ≤ 1048577) : Calls Tryd.prog 8 #[.agg #[.int .i64 k, .int .i64 a, .string s]] w fun e w' => e = .returned (.string (cmdT k a s)) ∧ Below w.heap.size w w' := by
  obtain ⟨W, hW⟩ : ∃ W, w.alloc (.cells #[.int .i64 k, .int .i64 a, .string s] 26) = W := ⟨_, rfl⟩
  have HB : Hid (Below w.heap.size w W) := by show Below _ _ _; rw [← hW]; exact bel1 _ _
  have HK : Hid (W.heap[w.heap.size]? = some (.cells #[.int .i64 k, .int .i64 a, .string s] 26 (0, 0))) := by show _ = _; rw [← hW]; exact heap_alloc_new w _
  have HWW : Hid (w.alloc (.cells #[.int .i64 k, .int .i64 a, .string s] 26) = W) := hW
  have HKR : Hid (KR W) := hw.below HB.out (Nat.le_refl _)
  obtain ⟨c0, c1, c2⟩ := boxC w k a s 26 W HK.out
  have hlt : w.heap.size < W.heap.size := by rw [← hW]; simp
  obtain ⟨o, ho⟩ : ∃ o, cmdB k a s = o := ⟨_, rfl⟩
  have HO : Hid (∀ w, Calls Tryd.prog 14 #[.agg #[.int .i64 k, .int .i64 a, .string s]] w fun e w' => e = .returned (.bool o) ∧ Below w.heap.size w w') := fun w => by rw [← ho]; exact implCmdOk_any k a s w hs
  clear hW hw
  cases o with
  | false =>
    have HR : Hid (cmdT k a s = ⟨#[]⟩) := by show _ = _; unfold cmdT; rw [if_neg (by rw [ho]; decide)]
    clear ho
    go_enter Tryd.func8, Tryd.ntmps8
    go_wp2_with fail
    rw [HWW.out]
    refine (HO.out _).mono ?_
    rintro e w1 ⟨rfl, hb⟩
    have HB1 : Hid (Below w.heap.size w w1) := HB.out.trans (hb.mono HB.out.size)
    clear hb
    go_wp2_with fail
    go_ret
    exact ⟨by rw [HR.out]; rfl, HB1.out⟩
  | true =>
    have HT : Hid (cmdT k a s = if k = 1 then ⟨#[116, 111, 32]⟩ ++ fmtS (a - 1).toNat else if k = 2 then ⟨#[102, 101, 101, 100, 32]⟩ ++ hexW s else ⟨#[114, 101, 115, 101, 116]⟩) := by show _ = _; unfold cmdT; rw [if_pos ho]
    unfold cmdB at ho
    by_cases h1 : k = 1
    · subst h1
      rw [if_pos rfl] at ho
      simp only [Bool.and_eq_true, decide_eq_true_eq] at ho
      obtain ⟨r, hr⟩ : ∃ r : Nat, a = (r : Int) + 1 := ⟨(a - 1).toNat, by omega⟩
      subst hr
      have hr5 : r < 5 := by omega
      have HQ : Hid (cmdT 1 ((r : Int) + 1) s = ⟨#[116, 111, 32]⟩ ++ fmtS r) := by show _ = _; rw [HT.out, if_pos rfl, show ((r : Int) + 1 - 1).toNat = r from by omega]
      have HF : Hid (∀ w, KR w → Calls Tryd.prog 15 #[.int .i64 ((r : Int) + 1)] w fun e w' => e = .returned (.string (fmtS r)) ∧ w' = w) := fun w h => formatName_any r w hr5 h
      have hz := fmt_size r
      have hz2 : ((⟨#[116, 111, 32]⟩ : ByteArray) ++ fmtS r).size ≤ 10 := by rw [ByteArray.size_append]; exact Nat.add_le_add (by decide) hz
      generalize fmtS r = F at HQ HF hz hz2
      clear ho HT
      go_enter Tryd.func8, Tryd.ntmps8
      go_wp2_with fail
      rw [HWW.out]
      refine (HO.out _).mono ?_
      rintro e w1 ⟨rfl, hb⟩
      have HB1 : Hid (Below w.heap.size w w1) := HB.out.trans (hb.mono HB.out.size)
      have HK1 : Hid (KR w1) := HKR.out.below hb (Nat.le_refl _)
      obtain ⟨d0, d1, d2⟩ := boxC w 1 ((r : Int) + 1) s 26 w1 ((hb.block _ hlt).trans HK.out)
      clear hb c0 c1 c2
      go_wp2_with fail
      refine (HF.out _ HK1.out).mono ?_
      rintro e w2 ⟨rfl, rfl⟩
      go_wp2_with fail
      go_ret
      exact ⟨by rw [HQ.out]; rfl, HB1.out⟩
    · rw [if_neg h1] at ho
      by_cases h2 : k = 2
      · subst h2
        rw [if_pos rfl] at ho
        simp only [Bool.and_eq_true, decide_eq_true_eq] at ho
        have HQ : Hid (cmdT 2 a s = ⟨#[102, 101, 101, 100, 32]⟩ ++ hexW s) := by show _ = _; rw [HT.out, if_neg (by decide), if_pos rfl]
        have HC : Hid (∀ w, Calls Tryd.prog 16 #[.string s] w fun e w' => e = .returned (.string (hexW s)) ∧ Below w.heap.size w w') := fun w => bytesWord_any s w (by omega)
        have hz := hexW_size s ho.2
        have hz2 : ((⟨#[102, 101, 101, 100, 32]⟩ : ByteArray) ++ hexW s).size ≤ 805 := by rw [ByteArray.size_append]; exact Nat.add_le_add (by decide) hz
        generalize hexW s = F at HQ HC hz hz2
        clear ho HT h1
        go_enter Tryd.func8, Tryd.ntmps8
        go_wp2_with fail
        rw [HWW.out]
        refine (HO.out _).mono ?_
        rintro e w1 ⟨rfl, hb⟩
        have HB1 : Hid (Below w.heap.size w w1) := HB.out.trans (hb.mono HB.out.size)
        obtain ⟨d0, d1, d2⟩ := boxC w 2 a s 26 w1 ((hb.block _ hlt).trans HK.out)
        clear hb c0 c1 c2
        go_wp2_with fail
        refine (HC.out _).mono ?_
        rintro e w2 ⟨rfl, hb⟩
        have HB2 : Hid (Below w.heap.size w w2) := HB1.out.trans (hb.mono HB1.out.size)
        clear hb
        go_wp2_with fail
        go_ret
        exact ⟨by rw [HQ.out]; rfl, HB2.out⟩
      · rw [if_neg h2] at ho
        by_cases h3 : k = 3
        · subst h3
          have HQ : Hid (cmdT 3 a s = ⟨#[114, 101, 115, 101, 116]⟩) := by show _ = _; rw [HT.out, if_neg (by decide), if_neg (by decide)]
          clear ho HT h1 h2
          go_enter Tryd.func8, Tryd.ntmps8
          go_wp2_with fail
          rw [HWW.out]
          refine (HO.out _).mono ?_
          rintro e w1 ⟨rfl, hb⟩
          have HB1 : Hid (Below w.heap.size w w1) := HB.out.trans (hb.mono HB.out.size)
          obtain ⟨d0, d1, d2⟩ := boxC w 3 a s 26 w1 ((hb.block _ hlt).trans HK.out)
          clear hb c0 c1 c2
          go_wp2_with fail
          go_ret
          exact ⟨by rw [HQ.out]; rfl, HB1.out⟩
        · rw [if_neg h3] at ho; cases ho
end Go.Proofs.YtdbkglnmmaglcaaDoor
