/- ReadCmd, by the program: contracts; commands that are the same. -/
import Derived.Test.YtdbkglnmmaglcaaDoorRCe
namespace Go.Proofs.YtdbkglnmmaglcaaDoor
open Go.RowKit Go.Sort
set_option linter.unusedVariables false
/-- What readBytesWord answers. -/
def rbV (t : ByteArray) : ByteArray × Bool := if t = ⟨#[45]⟩ then (ByteArray.empty, true) else if t.size = 0 then (ByteArray.empty, false) else match unhexL t.data.toList with
  | some d => (⟨d.toArray⟩, true)
  | none => (ByteArray.empty, false)
theorem rbV_yes {t d : ByteArray} (h : rbV t = (d, true)) : hexW d = t := by
  unfold rbV at h
  split at h
  · rename_i e; cases h; rw [e]; rfl
  · split at h
    · cases h
    · rename_i h1 h2
      split at h
      · rename_i l hl
        cases h
        have hh := hexL_unhex _ _ hl
        unfold hexW
        rw [if_neg]
        · have : (⟨(hexL l).toArray⟩ : ByteArray) = t := by rw [hh]
          simpa using this
        · intro e
          have e1 : l.toArray.size = 0 := e
          have e2 : l = [] := List.eq_nil_of_length_eq_zero (by simpa using e1)
          subst e2
          apply h2
          have : t.data.toList.length = t.size := Array.length_toList
          rw [← hh] at this; simpa [hexL] using this.symm
      · cases h
theorem rbV_hexW (d : ByteArray) : rbV (hexW d) = (d, true) := by
  unfold hexW
  by_cases h : d.size = 0
  · rw [if_pos h, size_empty h]; rfl
  · rw [if_neg h]
    unfold rbV
    have hz : (hexL d.data.toList).toArray.size = 2 * d.size := by rw [List.size_toArray, hexL_len]; congr 1
    rw [if_neg, if_neg]
    · show (match unhexL (hexL d.data.toList) with | some d => _ | none => _) = _
      rw [unhex_hexL]
    · show ¬ (hexL d.data.toList).toArray.size = 0
      omega
    · intro e
      have h2 : (hexL d.data.toList).toArray.size = 1 := congrArg ByteArray.size e
      omega
theorem rbV_size (t : ByteArray) : (rbV t).1.size ≤ t.size := by
  unfold rbV
  split
  · exact Nat.zero_le _
  · split
    · exact Nat.zero_le _
    · split
      · rename_i l hl
        have := unhex_len _ _ hl
        have e : t.data.toList.length = t.size := Array.length_toList
        show l.toArray.size ≤ _
        rw [List.size_toArray]; omega
      · exact Nat.zero_le _
set_option maxRecDepth 100000 in
set_option maxHeartbeats 2000000 in
theorem readBytesWord_any (t : ByteArray) (w : World) (hs : t.size ≤ 1048577) : Calls Tryd.prog 30 #[.string t] w fun e w' => e = .returned (.tuple #[.string (rbV t).1, .bool (rbV t).2]) ∧ Below w.heap.size w w' := by
  by_cases h1 : t = ⟨#[45]⟩
  · have HR : Hid (rbV t = (ByteArray.empty, true)) := by show _ = _; unfold rbV; rw [if_pos h1]
    have hq : (t.toList == [45]) = true := by rw [h1, show (⟨#[45]⟩ : ByteArray) = ⟨([45] : List UInt8).toArray⟩ from rfl, toL]; rfl
    rw [HR.out]
    clear h1 HR
    go_enter Tryd.func30, Tryd.ntmps30
    go_wp2_with fail
    go_ret2
    exact ⟨rfl, Below.refl _ _⟩
  · have hq : (t.toList == [45]) = false := by
      rw [beq_eq_false_iff_ne]; intro e; apply h1; apply eq_of_toList; rw [e, show (⟨#[45]⟩ : ByteArray) = ⟨([45] : List UInt8).toArray⟩ from rfl, toL]
    by_cases h2 : t.size = 0
    · have HR : Hid (rbV t = (ByteArray.empty, false)) := by show _ = _; unfold rbV; rw [if_neg h1, if_pos h2]
      have hsi : t.toList.isEmpty = true := by rw [size_empty h2, ByteArray.toList_eq]; rfl
      rw [HR.out]
      clear h1 h2 HR
      go_enter Tryd.func30, Tryd.ntmps30
      go_wp2_with fail
      go_ret2
      exact ⟨rfl, Below.refl _ _⟩
    · have hsi : t.toList.isEmpty = false := by have := toList_ne h2; simpa using this
      have HR : Hid ((.tuple #[.string (rbV t).1, .bool (rbV t).2] : Value) = rdV t.data.toList) := by
        show _ = _
        unfold rbV rdV
        rw [if_neg h1, if_neg h2]
        cases unhexL t.data.toList <;> rfl
      have HRD : Hid (∀ w, Calls Tryd.prog 34 #[.string t] w fun e w' => e = .returned (.tuple #[.string (rbV t).1, .bool (rbV t).2]) ∧ Below w.heap.size w w') := fun w => by rw [HR.out]; exact readDigits_any t w hs
      clear h1 h2 HR
      generalize rbV t = R at *
      obtain ⟨r1, r2⟩ := R
      simp only at HRD ⊢
      go_enter Tryd.func30, Tryd.ntmps30
      go_wp2_with fail
      refine (HRD.out _).mono ?_
      rintro e w1 ⟨rfl, hb⟩
      have HB1 : Hid (Below w.heap.size w w1) := hb
      clear hb
      go_wp2_with fail
      go_ret2
      exact ⟨rfl, HB1.out⟩
/-- What cmdOf answers. -/
def ImOk (s : ByteArray) (k a : Int) (d : ByteArray) : Prop := (cmdB k a d = true → cmdT k a d = s) ∧ (∀ k' a' d', Good k' a' d' s → k' = k ∧ a' = a ∧ d' = d) ∧ d.size ≤ s.size
def ImV (s : ByteArray) (e : Ending) : Prop := ∃ k a d, e = .returned (.agg #[.int .i64 k, .int .i64 a, .string d]) ∧ ImOk s k a d
theorem ImOk.rc {s : ByteArray} {k a : Int} {d : ByteArray} (h : ImOk s k a d) : (cmdB k a d = true → RcOk s k a d true) ∧ (cmdB k a d = false → RcOk s 0 0 ByteArray.empty false) := by
  refine ⟨fun hb => .inl ⟨rfl, hb, h.1 hb⟩, fun hb => .inr ⟨rfl, rfl, rfl, rfl, fun k' a' d' g => ?_⟩⟩
  obtain ⟨rfl, rfl, rfl⟩ := h.2.1 k' a' d' g
  rw [g.1] at hb; cases hb
theorem pre_split {s p : ByteArray} (h : Lib.hasPrefix s.data.toList p.data.toList = true) : s = p ++ ⟨(Lib.trimPrefix s.data.toList p.data.toList).toArray⟩ := by
  apply ba_ext
  rw [cat_dl']
  unfold Lib.trimPrefix
  rw [if_pos h]
  unfold Lib.hasPrefix at h
  obtain ⟨t, ht⟩ := List.isPrefixOf_iff_prefix.1 h
  rw [← ht]; simp
theorem pre_has (p t : ByteArray) : Lib.hasPrefix (p ++ t).data.toList p.data.toList = true := by
  unfold Lib.hasPrefix
  rw [cat_dl']
  exact List.isPrefixOf_iff_prefix.2 ⟨_, rfl⟩
theorem imReset : ImOk ⟨#[114, 101, 115, 101, 116]⟩ 3 0 ⟨#[]⟩ := ⟨fun _ => Good.reset.2, fun k' a' d' g => g.one Good.reset, Nat.zero_le _⟩
theorem imTo (t : ByteArray) : ImOk (⟨#[116, 111, 32]⟩ ++ t) 1 (fmtIx t) ⟨#[]⟩ := by
  refine ⟨fun hb => ?_, fun k' a' d' g => ?_, Nat.zero_le _⟩
  · have h1 : 1 ≤ fmtIx t := by
      unfold cmdB at hb; rw [if_pos rfl] at hb
      simp only [Bool.and_eq_true, decide_eq_true_eq] at hb
      exact hb.1.1
    unfold cmdT
    rw [if_pos hb, if_pos rfl, fmtIx_of h1]
  · rcases g.cases with ⟨h1, h2, r, hr, h3, e⟩ | ⟨_, _, _, e⟩ | ⟨_, _, _, e⟩
    · rw [pre_inj e, fmtIx_fmt r hr]; exact ⟨h1, h3, h2⟩
    · exact absurd e (head_ne 0 (by decide) (by decide) (by decide))
    · exact absurd (e.trans (nil_cat _).symm) (head_ne 0 (by decide) (by decide) (by decide))
theorem imFeed {t d : ByteArray} (h : rbV t = (d, true)) : ImOk (⟨#[102, 101, 101, 100, 32]⟩ ++ t) 2 0 d := by
  have ht := rbV_yes h
  refine ⟨fun hb => ?_, fun k' a' d' g => ?_, ?_⟩
  · have h4 : d.size ≤ 400 := by
      unfold cmdB at hb; rw [if_neg (by decide), if_pos rfl] at hb
      simp only [Bool.and_eq_true, decide_eq_true_eq] at hb
      exact hb.2
    rw [← ht]; exact (Good.feed d h4).2
  · rcases g.cases with ⟨_, _, r, _, _, e⟩ | ⟨h1, h2, h3, e⟩ | ⟨_, _, _, e⟩
    · exact absurd e (head_ne 0 (by decide) (by decide) (by decide))
    · refine ⟨h1, h2, hexW_inj ?_⟩
      rw [ht]; exact (pre_inj e).symm
    · exact absurd (e.trans (nil_cat _).symm) (head_ne 0 (by decide) (by decide) (by decide))
  · have := rbV_size t
    rw [h] at this
    rw [ByteArray.size_append]; simp only at this; omega
theorem imFeedNo {t d : ByteArray} (h : rbV t = (d, false)) : ImOk (⟨#[102, 101, 101, 100, 32]⟩ ++ t) 0 0 ⟨#[]⟩ := by
  refine ⟨fun hb => by simp [cmdB] at hb, fun k' a' d' g => ?_, Nat.zero_le _⟩
  exfalso
  rcases g.cases with ⟨_, _, r, _, _, e⟩ | ⟨h1, h2, h3, e⟩ | ⟨_, _, _, e⟩
  · exact absurd e (head_ne 0 (by decide) (by decide) (by decide))
  · rw [pre_inj e, rbV_hexW] at h; cases h
  · exact absurd (e.trans (nil_cat _).symm) (head_ne 0 (by decide) (by decide) (by decide))
theorem imOther {s : ByteArray} (h1 : s ≠ ⟨#[114, 101, 115, 101, 116]⟩) (h2 : Lib.hasPrefix s.data.toList [116, 111, 32] = false) (h3 : Lib.hasPrefix s.data.toList [102, 101, 101, 100, 32] = false) : ImOk s 0 0 ⟨#[]⟩ := by
  refine ⟨fun hb => by simp [cmdB] at hb, fun k' a' d' g => ?_, Nat.zero_le _⟩
  exfalso
  rcases g.cases with ⟨_, _, r, _, _, e⟩ | ⟨_, _, _, e⟩ | ⟨_, _, _, e⟩
  · rw [e] at h2; rw [show ([116, 111, 32] : List UInt8) = (⟨#[116, 111, 32]⟩ : ByteArray).data.toList from rfl, pre_has] at h2; cases h2
  · rw [e] at h3; rw [show ([102, 101, 101, 100, 32] : List UInt8) = (⟨#[102, 101, 101, 100, 32]⟩ : ByteArray).data.toList from rfl, pre_has] at h3; cases h3
  · exact h1 e
set_option maxRecDepth 100000 in
set_option maxHeartbeats 4000000 in
theorem cmdOf_any (s : ByteArray) (w : World) (hw : KR w) (hs : s.size ≤ 1048576) : Calls Tryd.prog 20 #[.string s] w fun e w' => ImV s e ∧ Below w.heap.size w w' := by
  obtain ⟨W, hW⟩ : ∃ W, w.alloc (.cells #[.int .i64 0, .int .i64 0, .string ⟨#[]⟩] 26) = W := ⟨_, rfl⟩
  have HBW : Hid (Below w.heap.size w W) := by show Below _ _ _; rw [← hW]; exact belA _ _
  have HHW : Hid (W.heap[w.heap.size]? = some (.cells #[.int .i64 0, .int .i64 0, .string ⟨#[]⟩] 26 (0, 0))) := by show _ = _; rw [← hW]; exact heap_alloc_new w _
  have HKW : Hid (KR W) := hw.below HBW.out (Nat.le_refl _)
  have HWW : Hid (w.alloc (.cells #[.int .i64 0, .int .i64 0, .string ⟨#[]⟩] 26) = W) := hW
  have HCP : Hid (∀ (p : ByteArray) (w : World), Calls Tryd.prog 28 #[.string s, .string p] w fun e w' => e = .returned (.tuple #[.string ⟨(Lib.trimPrefix s.data.toList p.data.toList).toArray⟩, .bool (Lib.hasPrefix s.data.toList p.data.toList)]) ∧ w' = w) := fun p w => Tryd.strings_CutPrefix s p w
  obtain ⟨H, hH⟩ : ∃ H, w.heap.size = H := ⟨_, rfl⟩
  have HHE : Hid (w.heap.size = H) := hH
  rw [hH] at HHW HBW
  obtain ⟨⟨t0, t1, t2⟩, tf⟩ := cells3 HHW.out
  have tf0 := tf 0
  have tf1 := tf 1
  have tf2 := tf 2
  clear hW hH hw tf
  by_cases h1 : s = ⟨([114, 101, 115, 101, 116] : List UInt8).toArray⟩
  · have hq : (s.toList == [114, 101, 115, 101, 116]) = true := by rw [h1, toL]; rfl
    have HR : Hid (ImOk s 3 0 ⟨#[]⟩) := by rw [h1]; exact imReset
    clear h1
    go_enter Tryd.func20, Tryd.ntmps20
    go_wp2_with fail
    try rw [HWW.out]
    try rw [HHE.out]
    try (go_wp2_with fail)
    exact bodyPost_ret (v := .agg #[.int .i64 3, .int .i64 0, .string ⟨#[]⟩]) (results_cell_row Tryd.results20 _ _ H _ _ _ _ rfl (by rw [← HHE.out]; exact heap_alloc_new w _) Tryd.underlying26 rfl Tryd.szCmdT) rfl ⟨⟨_, _, _, rfl, HR.out⟩, by have hh := belA w (.cells #[.int .i64 3, .int .i64 0, .string ⟨#[]⟩] 26); rw [HHE.out] at hh; exact hh⟩
  · have hq : (s.toList == [114, 101, 115, 101, 116]) = false := by rw [beq_eq_false_iff_ne]; exact fun e => h1 (eq_of_toList (by rw [e, toL]))
    have HC1 : Hid _ := HCP.out ⟨#[116, 111, 32]⟩ W
    cases h2 : Lib.hasPrefix s.data.toList [116, 111, 32] with
    | true =>
      have hsp := pre_split (s := s) (p := ⟨#[116, 111, 32]⟩) h2
      have HC1 : Hid (Calls Tryd.prog 28 #[.string s, .string ⟨#[116, 111, 32]⟩] W fun e w' => e = .returned (.tuple #[.string ⟨(Lib.trimPrefix s.data.toList [116, 111, 32]).toArray⟩, .bool true]) ∧ w' = W) := by have := HCP.out ⟨#[116, 111, 32]⟩ W; rw [show (⟨#[116, 111, 32]⟩ : ByteArray).data.toList = [116, 111, 32] from rfl, h2] at this; exact this
      obtain ⟨t, ht⟩ : ∃ t : ByteArray, (⟨(Lib.trimPrefix s.data.toList [116, 111, 32]).toArray⟩ : ByteArray) = t := ⟨_, rfl⟩
      rw [show (⟨#[116, 111, 32]⟩ : ByteArray).data.toList = [116, 111, 32] from rfl, ht] at hsp
      rw [ht] at HC1
      obtain ⟨fm, hfm⟩ : ∃ fm, fmtIx t = fm := ⟨_, rfl⟩
      have HR : Hid (ImOk s 1 fm ⟨#[]⟩) := by rw [hsp, ← hfm]; exact imTo t
      have HF : Hid (∀ w, KR w → Calls Tryd.prog 29 #[.string t] w fun e w' => e = .returned (.int .i64 fm) ∧ w' = w) := fun w h => by rw [← hfm]; exact formatNamed_any t w h
      clear h1 h2 hsp ht hfm
      go_enter Tryd.func20, Tryd.ntmps20
      go_wp2_with fail
      try rw [HWW.out]
      try rw [HHE.out]
      try (go_wp2_with fail)
      refine Calls.mono HC1.out ?_
      rintro e w1 ⟨rfl, rfl⟩
      go_wp2_with fail
      refine (HF.out _ HKW.out).mono ?_
      rintro e w2 ⟨rfl, rfl⟩
      go_wp2_with fail
      exact bodyPost_ret (v := .agg #[.int .i64 1, .int .i64 fm, .string ⟨#[]⟩]) (results_cell_row Tryd.results20 _ _ H _ _ _ _ rfl (setN3 HHW.out) Tryd.underlying26 rfl Tryd.szCmdT) rfl ⟨⟨_, _, _, rfl, HR.out⟩, by first | exact ((HBW.out.setCell (p := ⟨H, 0, none⟩) (Nat.le_refl _) _).setCell (p := ⟨H, 1, none⟩) (Nat.le_refl _) _).setCell (p := ⟨H, 2, none⟩) (Nat.le_refl _) _ | (rw [HHE.out]; exact ((HBW.out.setCell (p := ⟨H, 0, none⟩) (Nat.le_refl _) _).setCell (p := ⟨H, 1, none⟩) (Nat.le_refl _) _).setCell (p := ⟨H, 2, none⟩) (Nat.le_refl _) _)⟩
    | false =>
      have HC1 : Hid (∃ q : ByteArray, Calls Tryd.prog 28 #[.string s, .string ⟨#[116, 111, 32]⟩] W fun e w' => e = .returned (.tuple #[.string q, .bool false]) ∧ w' = W) := by have := HCP.out ⟨#[116, 111, 32]⟩ W; rw [show (⟨#[116, 111, 32]⟩ : ByteArray).data.toList = [116, 111, 32] from rfl, h2] at this; exact ⟨_, this⟩
      obtain ⟨q1, hq1⟩ := HC1.out
      have HC1 : Hid _ := hq1
      clear hq1
      cases h3 : Lib.hasPrefix s.data.toList [102, 101, 101, 100, 32] with
      | true =>
        have hsp := pre_split (s := s) (p := ⟨#[102, 101, 101, 100, 32]⟩) h3
        have HC2 : Hid (Calls Tryd.prog 28 #[.string s, .string ⟨#[102, 101, 101, 100, 32]⟩] W fun e w' => e = .returned (.tuple #[.string ⟨(Lib.trimPrefix s.data.toList [102, 101, 101, 100, 32]).toArray⟩, .bool true]) ∧ w' = W) := by have := HCP.out ⟨#[102, 101, 101, 100, 32]⟩ W; rw [show (⟨#[102, 101, 101, 100, 32]⟩ : ByteArray).data.toList = [102, 101, 101, 100, 32] from rfl, h3] at this; exact this
        obtain ⟨t, ht⟩ : ∃ t : ByteArray, (⟨(Lib.trimPrefix s.data.toList [102, 101, 101, 100, 32]).toArray⟩ : ByteArray) = t := ⟨_, rfl⟩
        rw [show (⟨#[102, 101, 101, 100, 32]⟩ : ByteArray).data.toList = [102, 101, 101, 100, 32] from rfl, ht] at hsp
        rw [ht] at HC2
        have htz : t.size ≤ 1048576 := by rw [hsp, ByteArray.size_append] at hs; omega
        obtain ⟨rd, hrd⟩ : ∃ rd, rbV t = rd := ⟨_, rfl⟩
        obtain ⟨r1, r2⟩ := rd
        have HF : Hid (∀ w, Calls Tryd.prog 30 #[.string t] w fun e w' => e = .returned (.tuple #[.string r1, .bool r2]) ∧ Below w.heap.size w w') := fun w => by have := readBytesWord_any t w (by omega); rw [hrd] at this; exact this
        cases r2 with
        | true =>
          have HR : Hid (ImOk s 2 0 r1) := by rw [hsp]; exact imFeed hrd
          clear h1 h2 h3 hsp ht hrd htz
          go_enter Tryd.func20, Tryd.ntmps20
          go_wp2_with fail
          try rw [HWW.out]
          try rw [HHE.out]
          try (go_wp2_with fail)
          refine Calls.mono HC1.out ?_
          rintro e w1 ⟨rfl, rfl⟩
          go_wp2_with fail
          refine Calls.mono HC2.out ?_
          rintro e w2 ⟨rfl, rfl⟩
          go_wp2_with fail
          refine (HF.out _).mono ?_
          rintro e w3 ⟨rfl, hb3⟩
          have HH3 : Hid (w3.heap[H]? = some (.cells #[.int .i64 0, .int .i64 0, .string ⟨#[]⟩] 26 (0, 0))) := (hb3.block H (blk_lt HHW.out)).trans HHW.out
          have HB3 : Hid (Below H w w3) := HBW.out.trans (hb3.mono (by have := blk_lt HHW.out; omega))
          clear t0 t1 t2 tf0 tf1 tf2 hb3
          obtain ⟨⟨t0, t1, t2⟩, tf⟩ := cells3 HH3.out
          have tf0 := tf 0
          have tf1 := tf 1
          have tf2 := tf 2
          clear tf
          go_wp2_with fail
          exact bodyPost_ret (v := .agg #[.int .i64 2, .int .i64 0, .string r1]) (results_cell_row Tryd.results20 _ _ H _ _ _ _ rfl (setN3 HH3.out) Tryd.underlying26 rfl Tryd.szCmdT) rfl ⟨⟨_, _, _, rfl, HR.out⟩, by first | exact ((HB3.out.setCell (p := ⟨H, 0, none⟩) (Nat.le_refl _) _).setCell (p := ⟨H, 1, none⟩) (Nat.le_refl _) _).setCell (p := ⟨H, 2, none⟩) (Nat.le_refl _) _ | (rw [HHE.out]; exact ((HB3.out.setCell (p := ⟨H, 0, none⟩) (Nat.le_refl _) _).setCell (p := ⟨H, 1, none⟩) (Nat.le_refl _) _).setCell (p := ⟨H, 2, none⟩) (Nat.le_refl _) _)⟩
        | false =>
          have HR : Hid (ImOk s 0 0 ⟨#[]⟩) := by rw [hsp]; exact imFeedNo hrd
          clear h1 h2 h3 hsp ht hrd htz
          go_enter Tryd.func20, Tryd.ntmps20
          go_wp2_with fail
          try rw [HWW.out]
          try rw [HHE.out]
          try (go_wp2_with fail)
          refine Calls.mono HC1.out ?_
          rintro e w1 ⟨rfl, rfl⟩
          go_wp2_with fail
          refine Calls.mono HC2.out ?_
          rintro e w2 ⟨rfl, rfl⟩
          go_wp2_with fail
          refine (HF.out _).mono ?_
          rintro e w3 ⟨rfl, hb3⟩
          have HH3 : Hid (w3.heap[H]? = some (.cells #[.int .i64 0, .int .i64 0, .string ⟨#[]⟩] 26 (0, 0))) := (hb3.block H (blk_lt HHW.out)).trans HHW.out
          have HB3 : Hid (Below H w w3) := HBW.out.trans (hb3.mono (by have := blk_lt HHW.out; omega))
          clear t0 t1 t2 tf0 tf1 tf2 hb3
          obtain ⟨⟨t0, t1, t2⟩, tf⟩ := cells3 HH3.out
          have tf0 := tf 0
          have tf1 := tf 1
          have tf2 := tf 2
          clear tf
          go_wp2_with fail
          exact bodyPost_ret (v := .agg #[.int .i64 0, .int .i64 0, .string ⟨#[]⟩]) (results_cell_row Tryd.results20 _ _ H _ _ _ _ rfl (setN3 HH3.out) Tryd.underlying26 rfl Tryd.szCmdT) rfl ⟨⟨_, _, _, rfl, HR.out⟩, by first | exact ((HB3.out.setCell (p := ⟨H, 0, none⟩) (Nat.le_refl _) _).setCell (p := ⟨H, 1, none⟩) (Nat.le_refl _) _).setCell (p := ⟨H, 2, none⟩) (Nat.le_refl _) _ | (rw [HHE.out]; exact ((HB3.out.setCell (p := ⟨H, 0, none⟩) (Nat.le_refl _) _).setCell (p := ⟨H, 1, none⟩) (Nat.le_refl _) _).setCell (p := ⟨H, 2, none⟩) (Nat.le_refl _) _)⟩
      | false =>
        have HC2 : Hid (∃ q : ByteArray, Calls Tryd.prog 28 #[.string s, .string ⟨#[102, 101, 101, 100, 32]⟩] W fun e w' => e = .returned (.tuple #[.string q, .bool false]) ∧ w' = W) := by have := HCP.out ⟨#[102, 101, 101, 100, 32]⟩ W; rw [show (⟨#[102, 101, 101, 100, 32]⟩ : ByteArray).data.toList = [102, 101, 101, 100, 32] from rfl, h3] at this; exact ⟨_, this⟩
        obtain ⟨q2, hq2⟩ := HC2.out
        have HC2 : Hid _ := hq2
        have HR : Hid (ImOk s 0 0 ⟨#[]⟩) := imOther h1 h2 h3
        clear hq2 h1 h2 h3
        go_enter Tryd.func20, Tryd.ntmps20
        go_wp2_with fail
        try rw [HWW.out]
        try rw [HHE.out]
        try (go_wp2_with fail)
        refine Calls.mono HC1.out ?_
        rintro e w1 ⟨rfl, rfl⟩
        go_wp2_with fail
        refine Calls.mono HC2.out ?_
        rintro e w2 ⟨rfl, rfl⟩
        go_wp2_with fail
        exact bodyPost_ret (v := .agg #[.int .i64 0, .int .i64 0, .string ⟨#[]⟩]) (results_cell_row Tryd.results20 _ _ H _ _ _ _ rfl (setN3 HHW.out) Tryd.underlying26 rfl Tryd.szCmdT) rfl ⟨⟨_, _, _, rfl, HR.out⟩, by first | exact ((HBW.out.setCell (p := ⟨H, 0, none⟩) (Nat.le_refl _) _).setCell (p := ⟨H, 1, none⟩) (Nat.le_refl _) _).setCell (p := ⟨H, 2, none⟩) (Nat.le_refl _) _ | (rw [HHE.out]; exact ((HBW.out.setCell (p := ⟨H, 0, none⟩) (Nat.le_refl _) _).setCell (p := ⟨H, 1, none⟩) (Nat.le_refl _) _).setCell (p := ⟨H, 2, none⟩) (Nat.le_refl _) _)⟩
set_option maxRecDepth 100000 in
set_option maxHeartbeats 4000000 in
theorem implReadCmd_any (s : ByteArray) (w : World) (hw : KR w) (hs : s.size ≤ 1048576) : Calls Tryd.prog 10 #[.string s] w fun e w' => RcV s e ∧ Below w.heap.size w w' := by
  obtain ⟨W, hW⟩ : ∃ W, w.alloc (.cells #[.int .i64 0, .int .i64 0, .string ⟨#[]⟩] 26) = W := ⟨_, rfl⟩
  have HBW : Hid (Below w.heap.size w W) := by show Below _ _ _; rw [← hW]; exact belA _ _
  have HHW : Hid (W.heap[w.heap.size]? = some (.cells #[.int .i64 0, .int .i64 0, .string ⟨#[]⟩] 26 (0, 0))) := by show _ = _; rw [← hW]; exact heap_alloc_new w _
  have HKW : Hid (KR W) := hw.below HBW.out (Nat.le_refl _)
  have HWW : Hid (w.alloc (.cells #[.int .i64 0, .int .i64 0, .string ⟨#[]⟩] 26) = W) := hW
  obtain ⟨H, hH⟩ : ∃ H, w.heap.size = H := ⟨_, rfl⟩
  have HHE : Hid (w.heap.size = H) := hH
  rw [hH] at HHW HBW
  have HC : Hid (∀ w, KR w → Calls Tryd.prog 20 #[.string s] w fun e w' => ImV s e ∧ Below w.heap.size w w') := fun w h => cmdOf_any s w h hs
  clear hW hH hw
  go_enter Tryd.func10, Tryd.ntmps10
  go_wp2_with fail
  try rw [HWW.out]
  try rw [HHE.out]
  refine (HC.out _ HKW.out).mono ?_
  rintro e w1 ⟨⟨k, a, d, rfl, him⟩, hb1⟩
  have hdz := him.2.2
  have HIM : Hid (ImOk s k a d) := him
  have HB1 : Hid (Below H w w1) := HBW.out.trans (hb1.mono (by have := blk_lt HHW.out; omega))
  have HH1 : Hid (w1.heap[H]? = some (.cells #[.int .i64 0, .int .i64 0, .string ⟨#[]⟩] 26 (0, 0))) := (hb1.block H (blk_lt HHW.out)).trans HHW.out
  obtain ⟨C, hC⟩ : ∃ C, w1.heap.size = C := ⟨_, rfl⟩
  have HCE : Hid (w1.heap.size = C) := hC
  have hHC : H < C := by have := blk_lt HH1.out; omega
  obtain ⟨X, hX⟩ : ∃ X, w1.alloc (.cells #[.int .i64 k, .int .i64 a, .string d] 26) = X := ⟨_, rfl⟩
  have HXX : Hid (w1.alloc (.cells #[.int .i64 k, .int .i64 a, .string d] 26) = X) := hX
  have HCX : Hid (X.heap[C]? = some (.cells #[.int .i64 k, .int .i64 a, .string d] 26 (0, 0))) := by show _ = _; rw [← hX, ← hC]; exact heap_alloc_new w1 _
  have HHX : Hid (X.heap[H]? = some (.cells #[.int .i64 0, .int .i64 0, .string ⟨#[]⟩] 26 (0, 0))) := by show _ = _; rw [← hX]; exact (Below.heap_alloc w1 _ _ (blk_lt HH1.out)).trans HH1.out
  have HBX : Hid (Below H w X) := by show Below _ _ _; rw [← hX]; exact HB1.out.alloc (by omega) _
  obtain ⟨⟨p0, p1, p2⟩, pf⟩ := cells3 HCX.out
  obtain ⟨o, ho⟩ : ∃ o, cmdB k a d = o := ⟨_, rfl⟩
  have HO : Hid (∀ w, Calls Tryd.prog 14 #[.agg #[.int .i64 k, .int .i64 a, .string d]] w fun e w' => e = .returned (.bool o) ∧ Below w.heap.size w w') := fun w => by rw [← ho]; exact implCmdOk_any k a d w (by omega)
  have HRY : Hid (o = true → RcOk s k a d true) := fun h => him.rc.1 (ho.trans h)
  have HRN : Hid (o = false → RcOk s 0 0 ByteArray.empty false) := fun h => him.rc.2 (ho.trans h)
  clear hb1 hC hX him pf ho hdz
  cases o
  all_goals
    go_wp2_with fail
    try rw [HCE.out]
    try rw [HXX.out]
    try (go_wp2_with fail)
    refine (HO.out _).mono ?_
    rintro e w2 ⟨rfl, hb2⟩
    have HC2 : Hid (w2.heap[C]? = some (.cells #[.int .i64 k, .int .i64 a, .string d] 26 (0, 0))) := (hb2.block C (blk_lt HCX.out)).trans HCX.out
    have HH2 : Hid (w2.heap[H]? = some (.cells #[.int .i64 0, .int .i64 0, .string ⟨#[]⟩] 26 (0, 0))) := (hb2.block H (blk_lt HHX.out)).trans HHX.out
    have HB2 : Hid (Below H w w2) := HBX.out.trans (hb2.mono (by have := blk_lt HHX.out; omega))
    obtain ⟨⟨r0, r1, r2⟩, rf⟩ := cells3 HC2.out
    obtain ⟨⟨t0, t1, t2⟩, tf⟩ := cells3 HH2.out
    have tf0 := tf 0
    have tf1 := tf 1
    have tf2 := tf 2
    clear hb2 rf tf p0 p1 p2
    go_wp2_with fail
  · exact bodyPost_ret (v := .tuple #[.agg #[.int .i64 0, .int .i64 0, .string ⟨#[]⟩], .bool false]) (results_cell_row2 Tryd.results10 _ _ H _ _ _ _ rfl (setN3 HH2.out) Tryd.underlying26 rfl Tryd.szCmdT) rfl ⟨⟨_, _, _, _, rfl, HRN.out trivial⟩, by first | exact ((HB2.out.setCell (p := ⟨H, 0, none⟩) (Nat.le_refl _) _).setCell (p := ⟨H, 1, none⟩) (Nat.le_refl _) _).setCell (p := ⟨H, 2, none⟩) (Nat.le_refl _) _ | (rw [HHE.out]; exact ((HB2.out.setCell (p := ⟨H, 0, none⟩) (Nat.le_refl _) _).setCell (p := ⟨H, 1, none⟩) (Nat.le_refl _) _).setCell (p := ⟨H, 2, none⟩) (Nat.le_refl _) _)⟩
  · exact bodyPost_ret (v := .tuple #[.agg #[.int .i64 k, .int .i64 a, .string d], .bool true]) (results_cell_row2 Tryd.results10 _ _ H _ _ _ _ rfl (setN3 HH2.out) Tryd.underlying26 rfl Tryd.szCmdT) rfl ⟨⟨_, _, _, _, rfl, HRY.out trivial⟩, by first | exact ((HB2.out.setCell (p := ⟨H, 0, none⟩) (Nat.le_refl _) _).setCell (p := ⟨H, 1, none⟩) (Nat.le_refl _) _).setCell (p := ⟨H, 2, none⟩) (Nat.le_refl _) _ | (rw [HHE.out]; exact ((HB2.out.setCell (p := ⟨H, 0, none⟩) (Nat.le_refl _) _).setCell (p := ⟨H, 1, none⟩) (Nat.le_refl _) _).setCell (p := ⟨H, 2, none⟩) (Nat.le_refl _) _)⟩
set_option maxHeartbeats 1000000 in
theorem eqCmd_same (k a : Int) (d : ByteArray) (w : World) : Calls Tryd.prog 11 #[.agg #[.int .i64 k, .int .i64 a, .string d], .agg #[.int .i64 k, .int .i64 a, .string d]] w fun e w' => e = .returned (.bool true) ∧ Below w.heap.size w w' := by
  have hs : (d.toList == d.toList) = true := by simp
  go_enter Tryd.func11, Tryd.ntmps11
  go_wp2
  go_ret
  exact ⟨rfl, bel2 _ _ _⟩
end Go.Proofs.YtdbkglnmmaglcaaDoor
