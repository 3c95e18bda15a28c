/- Commands: whether one is so, both sides; their copies and their sizes. -/
import Derived.Test.YtdbkglnmmaglcaaDoorL1a
namespace Go.Proofs.YtdbkglnmmaglcaaDoor
open Go.RowKit
set_option linter.unusedVariables false
theorem bel1 (w : World) (o : Obj) : Below w.heap.size w (w.alloc o) := (Below.refl _ _).alloc (Nat.le_refl _) _
theorem bel2 (w : World) (o o' : Obj) : Below w.heap.size w ((w.alloc o).alloc o') := (bel1 w o).alloc (by simp) _
/-- Whether a command is so. -/
def cmdB (k a : Int) (s : ByteArray) : Bool :=
  if k = 1 then decide (1 ≤ a ∧ a ≤ 5) && decide (s.size = 0)
  else if k = 2 then decide (a = 0) && decide (s.size ≤ 400)
  else if k = 3 then decide (a = 0) && decide (s.size = 0)
  else false
theorem size_empty {s : ByteArray} (h : s.size = 0) : s = ByteArray.empty := by
  obtain ⟨⟨l⟩⟩ := s
  have : l = [] := List.eq_nil_of_length_eq_zero h
  subst this; rfl
theorem toList_ne {s : ByteArray} (h : ¬ s.size = 0) : ¬ s.toList = [] := by
  rw [ByteArray.toList_eq]
  intro e
  apply h
  have : s.data.toList.length = s.size := Array.length_toList
  rw [e] at this; simpa using this.symm
theorem boxC (w : World) (k a : Int) (s : ByteArray) (t : Nat) (W : World) (h : W.heap[w.heap.size]? = some (.cells #[.int .i64 k, .int .i64 a, .string s] t (0, 0))) : W.cell? ⟨w.heap.size, 0, none⟩ = some (.int .i64 k) ∧ W.cell? ⟨w.heap.size, 1, none⟩ = some (.int .i64 a) ∧ W.cell? ⟨w.heap.size, 2, none⟩ = some (.string s) :=
  ⟨by rw [cell_of_row _ _ 0 _ _ _ h]; rfl, by rw [cell_of_row _ _ 1 _ _ _ h]; rfl, by rw [cell_of_row _ _ 2 _ _ _ h]; rfl⟩
theorem l12Format_any (n : Int) (w : World) : Calls Tryd.prog 21 #[.int .i64 n] w fun e w' => e = .returned (.bool (decide (1 ≤ n ∧ n ≤ 5))) ∧ w' = w := by
  have HI : Hid (Calls Tryd.prog 31 #[.int .i64 n, .int .i64 1, .int .i64 5] w fun e w' => e = .returned (.bool (decide (1 ≤ n ∧ n ≤ 5))) ∧ w' = w) := l1In_any n 1 5 w
  go_enter Tryd.func21, Tryd.ntmps21
  go_wp2_with fail
  refine HI.out.mono ?_
  rintro e w1 ⟨rfl, rfl⟩
  go_wp2_with fail
  go_ret
  exact ⟨by simp, rfl⟩
theorem isFormat_any (n : Int) (w : World) : Calls Tryd.prog 24 #[.int .i64 n] w fun e w' => e = .returned (.bool (decide (1 ≤ n ∧ n ≤ 5))) ∧ w' = w := by
  by_cases h1 : 1 ≤ n <;> by_cases h2 : n ≤ 5
  all_goals
    go_enter Tryd.func24, Tryd.ntmps24
    go_wp2
    go_ret
    exact ⟨by simp [h1, h2], rfl⟩
set_option maxRecDepth 100000 in
set_option maxHeartbeats 1000000 in
theorem specCmdOk_any (k a : Int) (s : ByteArray) (w : World) (hs : s.size ≤ 1048577) : Calls Tryd.prog 12 #[.agg #[.int .i64 k, .int .i64 a, .string s]] w fun e w' => e = .returned (.bool (cmdB k a s)) ∧ Below w.heap.size w w' := by
  obtain ⟨W, hW⟩ : ∃ W, w.alloc (.cells #[.int .i64 k, .int .i64 a, .string s] 26) = W := ⟨_, rfl⟩
  have HB : Hid (Below w.heap.size w W) := by show Below _ _ _; rw [← hW]; exact bel1 _ _
  obtain ⟨c0, c1, c2⟩ := boxC w k a s 26 W (by rw [← hW]; exact heap_alloc_new w _)
  have HF : Hid (Calls Tryd.prog 21 #[.int .i64 a] W fun e w' => e = .returned (.bool (decide (1 ≤ a ∧ a ≤ 5))) ∧ w' = W) := l12Format_any a W
  by_cases h1 : k = 1
  · subst h1
    obtain ⟨o, ho⟩ : ∃ o, decide (1 ≤ a ∧ a ≤ 5) = o := ⟨_, rfl⟩
    have HR : Hid (cmdB 1 a s = (o && decide (s.size = 0))) := by show _ = _; unfold cmdB; rw [if_pos rfl, ho]
    rw [ho] at HF
    rw [HR.out]
    clear ho HR
    cases o with
    | false =>
      go_enter Tryd.func12, Tryd.ntmps12
      go_wp2_with fail
      refine HF.out.mono ?_
      rintro e w1 ⟨rfl, rfl⟩
      go_wp2_with fail
      go_ret
      exact ⟨by simp, HB.out⟩
    | true =>
      by_cases h0 : s.size = 0
      · obtain rfl := size_empty h0
        go_enter Tryd.func12, Tryd.ntmps12
        go_wp2_with fail
        refine HF.out.mono ?_
        rintro e w1 ⟨rfl, rfl⟩
        go_wp2_with fail
        go_ret
        exact ⟨by simp, HB.out⟩
      · have h00 := toList_ne h0
        go_enter Tryd.func12, Tryd.ntmps12
        go_wp2_with fail
        refine HF.out.mono ?_
        rintro e w1 ⟨rfl, rfl⟩
        go_wp2_with fail
        go_ret
        exact ⟨by simp [h0, h00], HB.out⟩
  · by_cases h2 : k = 2
    · subst h2
      have HR : Hid (cmdB 2 a s = (decide (a = 0) && decide (s.size ≤ 400))) := by show _ = _; unfold cmdB; rw [if_neg (by decide), if_pos rfl]
      rw [HR.out]
      clear HR HF
      by_cases ha : a = 0
      · subst ha
        by_cases h4 : s.size ≤ 400
        all_goals
          go_enter Tryd.func12, Tryd.ntmps12
          go_wp2_with fail
          go_ret
          exact ⟨by simp [h4] <;> omega, HB.out⟩
      · go_enter Tryd.func12, Tryd.ntmps12
        go_wp2_with fail
        go_ret
        exact ⟨by simp [ha], HB.out⟩
    · by_cases h3 : k = 3
      · subst h3
        have HR : Hid (cmdB 3 a s = (decide (a = 0) && decide (s.size = 0))) := by show _ = _; unfold cmdB; rw [if_neg (by decide), if_neg (by decide), if_pos rfl]
        rw [HR.out]
        clear HR HF
        by_cases ha : a = 0
        · subst ha
          by_cases h0 : s.size = 0
          · obtain rfl := size_empty h0
            go_enter Tryd.func12, Tryd.ntmps12
            go_wp2_with fail
            go_ret
            exact ⟨by simp, HB.out⟩
          · have h00 := toList_ne h0
            go_enter Tryd.func12, Tryd.ntmps12
            go_wp2_with fail
            go_ret
            exact ⟨by simp [h0, h00], HB.out⟩
        · go_enter Tryd.func12, Tryd.ntmps12
          go_wp2_with fail
          go_ret
          exact ⟨by simp [ha], HB.out⟩
      · have HR : Hid (cmdB k a s = false) := by show _ = _; unfold cmdB; rw [if_neg h1, if_neg h2, if_neg h3]
        rw [HR.out]
        clear HR HF
        go_enter Tryd.func12, Tryd.ntmps12
        go_wp2_with fail
        go_ret
        exact ⟨rfl, HB.out⟩
set_option maxRecDepth 100000 in
set_option maxHeartbeats 1000000 in
theorem implCmdOk_any (k a : Int) (s : ByteArray) (w : World) (hs : s.size ≤ 1048577) : Calls Tryd.prog 14 #[.agg #[.int .i64 k, .int .i64 a, .string s]] w fun e w' => e = .returned (.bool (cmdB k a s)) ∧ Below w.heap.size w w' := by
  obtain ⟨W, hW⟩ : ∃ W, w.alloc (.cells #[.int .i64 k, .int .i64 a, .string s] 26) = W := ⟨_, rfl⟩
  have HB : Hid (Below w.heap.size w W) := by show Below _ _ _; rw [← hW]; exact bel1 _ _
  obtain ⟨c0, c1, c2⟩ := boxC w k a s 26 W (by rw [← hW]; exact heap_alloc_new w _)
  have HF : Hid (Calls Tryd.prog 24 #[.int .i64 a] W fun e w' => e = .returned (.bool (decide (1 ≤ a ∧ a ≤ 5))) ∧ w' = W) := isFormat_any a W
  by_cases h1 : k = 1
  · subst h1
    obtain ⟨o, ho⟩ : ∃ o, decide (1 ≤ a ∧ a ≤ 5) = o := ⟨_, rfl⟩
    have HR : Hid (cmdB 1 a s = (o && decide (s.size = 0))) := by show _ = _; unfold cmdB; rw [if_pos rfl, ho]
    rw [ho] at HF
    rw [HR.out]
    clear ho HR
    cases o with
    | false =>
      go_enter Tryd.func14, Tryd.ntmps14
      go_wp2_with fail
      refine HF.out.mono ?_
      rintro e w1 ⟨rfl, rfl⟩
      go_wp2_with fail
      go_ret
      exact ⟨by simp, HB.out⟩
    | true =>
      by_cases h0 : s.size = 0
      · obtain rfl := size_empty h0
        go_enter Tryd.func14, Tryd.ntmps14
        go_wp2_with fail
        refine HF.out.mono ?_
        rintro e w1 ⟨rfl, rfl⟩
        go_wp2_with fail
        go_ret
        exact ⟨by simp, HB.out⟩
      · have h00 := toList_ne h0
        go_enter Tryd.func14, Tryd.ntmps14
        go_wp2_with fail
        refine HF.out.mono ?_
        rintro e w1 ⟨rfl, rfl⟩
        go_wp2_with fail
        go_ret
        exact ⟨by simp [h0, h00], HB.out⟩
  · by_cases h2 : k = 2
    · subst h2
      have HR : Hid (cmdB 2 a s = (decide (a = 0) && decide (s.size ≤ 400))) := by show _ = _; unfold cmdB; rw [if_neg (by decide), if_pos rfl]
      rw [HR.out]
      clear HR HF
      by_cases ha : a = 0
      · subst ha
        by_cases h4 : s.size ≤ 400
        all_goals
          go_enter Tryd.func14, Tryd.ntmps14
          go_wp2_with fail
          go_ret
          exact ⟨by simp [h4] <;> omega, HB.out⟩
      · go_enter Tryd.func14, Tryd.ntmps14
        go_wp2_with fail
        go_ret
        exact ⟨by simp [ha], HB.out⟩
    · by_cases h3 : k = 3
      · subst h3
        have HR : Hid (cmdB 3 a s = (decide (a = 0) && decide (s.size = 0))) := by show _ = _; unfold cmdB; rw [if_neg (by decide), if_neg (by decide), if_pos rfl]
        rw [HR.out]
        clear HR HF
        by_cases ha : a = 0
        · subst ha
          by_cases h0 : s.size = 0
          · obtain rfl := size_empty h0
            go_enter Tryd.func14, Tryd.ntmps14
            go_wp2_with fail
            go_ret
            exact ⟨by simp, HB.out⟩
          · have h00 := toList_ne h0
            go_enter Tryd.func14, Tryd.ntmps14
            go_wp2_with fail
            go_ret
            exact ⟨by simp [h0, h00], HB.out⟩
        · go_enter Tryd.func14, Tryd.ntmps14
          go_wp2_with fail
          go_ret
          exact ⟨by simp [ha], HB.out⟩
      · have HR : Hid (cmdB k a s = false) := by show _ = _; unfold cmdB; rw [if_neg h1, if_neg h2, if_neg h3]
        rw [HR.out]
        clear HR HF
        go_enter Tryd.func14, Tryd.ntmps14
        go_wp2_with fail
        go_ret
        exact ⟨rfl, HB.out⟩
set_option maxHeartbeats 1000000 in
theorem szCmd_any (k a : Int) (s : ByteArray) (n : Int) (w : World) (hn : 0 ≤ n) (hn2 : n ≤ 1048576) (hs : s.size ≤ maxLen) : Calls Tryd.prog 5 #[.agg #[.int .i64 k, .int .i64 a, .string s], .int .i64 n] w fun e w' => e = .returned (.int .i64 (if n - s.size < 0 then -1 else n - s.size)) ∧ Below w.heap.size w w' := by
  unfold maxLen at hs
  obtain ⟨W, hW⟩ : ∃ W, w.alloc (.cells #[.int .i64 k, .int .i64 a, .string s] 23) = W := ⟨_, rfl⟩
  have HB : Hid (Below w.heap.size w W) := by show Below _ _ _; rw [← hW]; exact bel1 _ _
  obtain ⟨c0, c1, c2⟩ := boxC w k a s 23 W (by rw [← hW]; exact heap_alloc_new w _)
  by_cases h : n - s.size < 0
  all_goals
    go_enter Tryd.func5, Tryd.ntmps5
    go_wp2
    go_ret
    first | exact ⟨by simp, HB.out⟩ | exact ⟨by simp [h], HB.out⟩
set_option maxRecDepth 100000 in
set_option maxHeartbeats 1000000 in
theorem toCmd_any (k a : Int) (s : ByteArray) (w : World) : Calls Tryd.prog 7 #[.agg #[.int .i64 k, .int .i64 a, .string s]] w fun e w' => e = .returned (.agg #[.int .i64 k, .int .i64 a, .string s]) ∧ Below w.heap.size w w' := by
  go_enter Tryd.func7, Tryd.ntmps7
  go_wp2
  exact bodyPost_ret (v := .agg #[.int .i64 k, .int .i64 a, .string s]) (by simp [results, Tryd.results7, go_sem]) rfl ⟨rfl, by repeat (first | exact Below.refl _ _ | refine Below.drew ?_ | refine Below.setCell ?_ (by simp <;> omega) _ | refine Below.alloc ?_ (by simp <;> omega) _)⟩
end Go.Proofs.YtdbkglnmmaglcaaDoor
