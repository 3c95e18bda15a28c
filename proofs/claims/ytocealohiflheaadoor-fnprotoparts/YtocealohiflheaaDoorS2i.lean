/- The exact laws' own helpers on schemas: contracts. -/
import Derived.Test.YtocealohiflheaaDoorS2h
import Derived.Lib.QuietBelow
import Derived.BigQuiet
namespace Go.Proofs.YtocealohiflheaaDoor
open Go.RowKit Go.Sort
set_option linter.unusedVariables false
theorem below_step3 {W w w' : World} {B : Nat} (h : Below B W w) (k : Below w.heap.size w w') (hB : B ≤ w.heap.size) : Below B W w' := h.trans (k.mono hB)
set_option maxHeartbeats 400000 in
theorem eqTyp_any (k n k' n' : Int) (w : World) : Calls Tryd.prog 30 #[.agg #[.int .i64 k, .int .i64 n], .agg #[.int .i64 k', .int .i64 n']] w fun e w' => e = .returned (.bool (decide (k = k' ∧ n = n'))) ∧ Below w.heap.size w w' := by
  by_cases h1 : k = k'
  · subst h1
    by_cases h2 : n = n'
    · subst h2
      go_enter Tryd.func30, Tryd.ntmps30
      go_wp2
      go_ret
      exact ⟨ret_b (by simp), ((Below.refl _ _).alloc (Nat.le_refl _) _).alloc (by simp) _⟩
    · have h2' : (n != n') = true := by rw [bne_iff_ne]; exact h2
      go_enter Tryd.func30, Tryd.ntmps30
      go_wp2
      go_ret
      exact ⟨ret_b (by simp [h2]), ((Below.refl _ _).alloc (Nat.le_refl _) _).alloc (by simp) _⟩
  · have h1' : (k != k') = true := by rw [bne_iff_ne]; exact h1
    go_enter Tryd.func30, Tryd.ntmps30
    go_wp2
    go_ret
    exact ⟨ret_b (by simp [h1]), ((Below.refl _ _).alloc (Nat.le_refl _) _).alloc (by simp) _⟩
set_option maxHeartbeats 400000 in
theorem toTyp_any (k n : Int) (w : World) : Calls Tryd.prog 27 #[.agg #[.int .i64 k, .int .i64 n]] w fun e w' => e = .returned (.agg #[.int .i64 k, .int .i64 n]) ∧ Below w.heap.size w w' := by
  go_enter Tryd.func27, Tryd.ntmps27
  go_wp2
  exact bodyPost_ret (v := .agg #[.int .i64 k, .int .i64 n]) (by simp [results, Tryd.results27, go_sem]) rfl ⟨rfl, (((Below.refl _ _).alloc (Nat.le_refl _) _).alloc (by simp) _).alloc (by simp; omega) _⟩
set_option maxHeartbeats 400000 in
theorem szTypS_any (ad : Option Addr) (len cap : Nat) (left : Int) (w : World) (h0 : 0 ≤ left) (h1 : left ≤ 1048576) (hl : len ≤ maxLen) : Calls Tryd.prog 7 #[.slice ad len cap, .int .i64 left] w fun e w' => e = .returned (.int .i64 (if left < len then -1 else left - len)) ∧ w' = w := by
  unfold maxLen at hl
  by_cases h : left < len
  · rw [if_pos h]
    have h' : left - (len : Int) < 0 := by omega
    go_enter Tryd.func7, Tryd.ntmps7
    go_wp2
    go_ret
    exact ⟨rfl, rfl⟩
  · rw [if_neg h]
    have h' : ¬ left - (len : Int) < 0 := by omega
    go_enter Tryd.func7, Tryd.ntmps7
    go_wp2
    go_ret
    exact ⟨rfl, rfl⟩
theorem Tryd.infoTyp : (Tryd.prog.info? 40).map (fun i => (i.zero, i.size, i.bytes)) = some (some (.agg #[.int .i64 0, .int .i64 0]), 2, 16) := by kernel_rfl
/-- A row of types that a call has made, its first j elements set. -/
def RowTo (ts : List (Int × Int)) (w : World) (g j : Nat) : Prop := ∃ cs : Array Value, w.heap[g]? = some (.cells cs 40 (0, 0)) ∧ cs.size = ts.length * 2 ∧
  (∀ i (h : i < ts.length), i < j → cs[i * 2]? = some (.int .i64 ts[i].1) ∧ cs[i * 2 + 1]? = some (.int .i64 ts[i].2)) ∧ ∀ m, m < ts.length * 2 → ∃ z, cs[m]? = some (.int .i64 z)
theorem RowTo.keep {ts : List (Int × Int)} {w w' : World} {g j : Nat} (h : RowTo ts w g j) (hb : w'.heap[g]? = w.heap[g]?) : RowTo ts w' g j := by
  obtain ⟨cs, h1, h2, h3, h4⟩ := h
  exact ⟨cs, hb.trans h1, h2, h3, h4⟩
theorem RowTo.cell {ts : List (Int × Int)} {w : World} {g j : Nat} (h : RowTo ts w g j) {m : Nat} (hm : m < ts.length * 2) : (∃ z, w.cell? ⟨g, m, none⟩ = some (.int .i64 z)) ∧ w.frozen? ⟨g, m, none⟩ = false := by
  obtain ⟨cs, h1, h2, h3, h4⟩ := h
  obtain ⟨z, hz⟩ := h4 m hm
  exact ⟨⟨z, by rw [cell_of_row w g m cs _ _ h1]; exact hz⟩, by simp [World.frozen?, h1]⟩
theorem RowTo.next {ts : List (Int × Int)} {w : World} {g j : Nat} (h : RowTo ts w g j) (hj : j < ts.length) : RowTo ts ((w.setCell ⟨g, j * 2, none⟩ (.int .i64 ts[j].1)).setCell ⟨g, j * 2 + 1, none⟩ (.int .i64 ts[j].2)) g (j + 1) := by
  obtain ⟨cs, h1, h2, h3, h4⟩ := h
  have e1 := set_block (i := j * 2) h1 (.int .i64 ts[j].1)
  have e2 := set_block (i := j * 2 + 1) e1 (.int .i64 ts[j].2)
  refine ⟨_, e2, by simp [h2], fun i hi hij => ?_, fun m hm => ?_⟩
  · by_cases e : i = j
    · subst e
      constructor
      · rw [Array.getElem?_setIfInBounds_ne (by omega), Array.getElem?_setIfInBounds_self_of_lt (by omega)]
      · rw [Array.getElem?_setIfInBounds_self_of_lt (by simp; omega)]
    · rw [Array.getElem?_setIfInBounds_ne (by omega), Array.getElem?_setIfInBounds_ne (by omega), Array.getElem?_setIfInBounds_ne (by omega), Array.getElem?_setIfInBounds_ne (by omega)]
      exact h3 i hi (by omega)
  · by_cases e : m = j * 2 + 1
    · subst e; exact ⟨_, by rw [Array.getElem?_setIfInBounds_self_of_lt (by simp; omega)]⟩
    · rw [Array.getElem?_setIfInBounds_ne (by omega)]
      by_cases e' : m = j * 2
      · subst e'; exact ⟨_, by rw [Array.getElem?_setIfInBounds_self_of_lt (by omega)]⟩
      · rw [Array.getElem?_setIfInBounds_ne (by omega)]; exact h4 m hm
theorem RowTo.done {ts : List (Int × Int)} {w : World} {g : Nat} (h : RowTo ts w g ts.length) (hs : ts.length ≤ 1048577) (hwf : ∀ t ∈ ts, inI t.1 ∧ inI t.2) : IsTyps w.heap.size w (.slice (some ⟨g, 0, none⟩) ts.length ts.length) ts := by
  obtain ⟨cs, h1, h2, h3, h4⟩ := h
  refine ⟨hs, hwf, some ⟨g, 0, none⟩, ts.length, rfl, Nat.le_refl _, by unfold maxLen; omega, .inr ⟨g, 0, rfl, blk_lt h1, fun i hi => ?_⟩⟩
  rw [cell_of_row w g _ cs _ _ h1, cell_of_row w g _ cs _ _ h1]
  simpa using h3 i hi hi
theorem RowTo.made {ts : List (Int × Int)} {w : World} {base g : Nat} (h : w.ownsRow base 40 2 (.slice (some ⟨g, 0, none⟩) ts.length ts.length) ts.length (madeCells #[.int .i64 0, .int .i64 0] (ts.length * 2)).toList) : RowTo ts w g 0 := by
  rcases h.2 with ⟨h', _⟩ | ⟨g', cap, cur, h', _, hg, _, _, hsz, htake⟩
  · cases h'
  · simp only [Value.slice.injEq, Option.some.injEq, Addr.mk.injEq, and_true, true_and] at h'
    obtain ⟨rfl, rfl⟩ := h'
    refine ⟨cur, hg, hsz, fun i _ hi => by omega, fun m hm => ⟨0, ?_⟩⟩
    have e : cur.toList[m]? = (madeCells #[.int .i64 0, .int .i64 0] (ts.length * 2)).toList[m]? := by rw [← htake, List.getElem?_take, if_pos hm]
    have e2 : cur[m]? = (madeCells #[.int .i64 0, .int .i64 0] (ts.length * 2))[m]? := by simpa using e
    rw [e2]
    have : m % 2 = 0 ∨ m % 2 = 1 := by omega
    rcases this with h2 | h2 <;> simp [madeCells, hm, h2]
end Go.Proofs.YtocealohiflheaaDoor
