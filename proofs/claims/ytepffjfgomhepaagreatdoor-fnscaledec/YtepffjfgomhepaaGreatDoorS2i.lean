/- The exact laws' own helpers on schemas: contracts. -/
import Derived.Test.YtepffjfgomhepaaGreatDoorS2h
import Derived.Lib.QuietBelow
import Derived.BigQuiet
namespace Go.Proofs.YtepffjfgomhepaaGreatDoor
open Go.RowKit Go.Sort
set_option linter.unusedVariables false
theorem below_step3 {W w w' : World} {B : Nat} (h : Below B W w) (k : Below w.heap.size w w') (hB : B ≤ w.heap.size) : Below B W w' := h.trans (k.mono hB)
theorem Tryz.infoTyp : (Tryz.prog.info? 83).map (fun i => (i.zero, i.size, i.bytes)) = some (some (.agg #[.int .i64 0, .int .i64 0]), 2, 16) := by kernel_rfl
/-- A row of types that a call has made, its first j elements set. -/
def RowTo (ts : List (Int × Int)) (w : World) (g j : Nat) : Prop := ∃ cs : Array Value, w.heap[g]? = some (.cells cs 83 (0, 0)) ∧ cs.size = ts.length * 2 ∧
  (∀ i (h : i < ts.length), i < j → cs[i * 2]? = some (.int .i64 ts[i].1) ∧ cs[i * 2 + 1]? = some (.int .i64 ts[i].2)) ∧ ∀ m, m < ts.length * 2 → ∃ z, cs[m]? = some (.int .i64 z)
theorem RowTo.keep {ts : List (Int × Int)} {w w' : World} {g j : Nat} (h : RowTo ts w g j) (hb : w'.heap[g]? = w.heap[g]?) : RowTo ts w' g j := by
  obtain ⟨cs, h1, h2, h3, h4⟩ := h
  exact ⟨cs, hb.trans h1, h2, h3, h4⟩
theorem RowTo.cell {ts : List (Int × Int)} {w : World} {g j : Nat} (h : RowTo ts w g j) {m : Nat} (hm : m < ts.length * 2) : (∃ z, w.cell? ⟨g, m, none⟩ = some (.int .i64 z)) ∧ w.frozen? ⟨g, m, none⟩ = false := by
  obtain ⟨cs, h1, h2, h3, h4⟩ := h
  obtain ⟨z, hz⟩ := h4 m hm
  exact ⟨⟨z, by rw [cell_of_row w g m cs _ _ h1]; exact hz⟩, by simp [World.frozen?, h1]⟩
theorem RowTo.next {ts : List (Int × Int)} {w : World} {g j : Nat} (h : RowTo ts w g j) (hj : j < ts.length) : RowTo ts ((w.setCell ⟨g, j * 2, none⟩ (.int .i64 ts[j].1)).setCell ⟨g, j * 2 + 1, none⟩ (.int .i64 ts[j].2)) g (j + 1) := by
  obtain ⟨cs, h1, h2, h3, h4⟩ := h
  have e1 := set_block (i := j * 2) h1 (.int .i64 ts[j].1)
  have e2 := set_block (i := j * 2 + 1) e1 (.int .i64 ts[j].2)
  refine ⟨_, e2, by simp [h2], fun i hi hij => ?_, fun m hm => ?_⟩
  · by_cases e : i = j
    · subst e
      constructor
      · rw [Array.getElem?_setIfInBounds_ne (by omega), Array.getElem?_setIfInBounds_self_of_lt (by omega)]
      · rw [Array.getElem?_setIfInBounds_self_of_lt (by simp; omega)]
    · rw [Array.getElem?_setIfInBounds_ne (by omega), Array.getElem?_setIfInBounds_ne (by omega), Array.getElem?_setIfInBounds_ne (by omega), Array.getElem?_setIfInBounds_ne (by omega)]
      exact h3 i hi (by omega)
  · by_cases e : m = j * 2 + 1
    · subst e; exact ⟨_, by rw [Array.getElem?_setIfInBounds_self_of_lt (by simp; omega)]⟩
    · rw [Array.getElem?_setIfInBounds_ne (by omega)]
      by_cases e' : m = j * 2
      · subst e'; exact ⟨_, by rw [Array.getElem?_setIfInBounds_self_of_lt (by omega)]⟩
      · rw [Array.getElem?_setIfInBounds_ne (by omega)]; exact h4 m hm
theorem RowTo.done {ts : List (Int × Int)} {w : World} {g : Nat} (h : RowTo ts w g ts.length) (hs : ts.length ≤ 1048577) (hwf : ∀ t ∈ ts, inI t.1 ∧ inI t.2) : IsTyps w.heap.size w (.slice (some ⟨g, 0, none⟩) ts.length ts.length) ts := by
  obtain ⟨cs, h1, h2, h3, h4⟩ := h
  refine ⟨hs, hwf, some ⟨g, 0, none⟩, ts.length, rfl, Nat.le_refl _, by unfold maxLen; omega, .inr ⟨g, 0, rfl, blk_lt h1, fun i hi => ?_⟩⟩
  rw [cell_of_row w g _ cs _ _ h1, cell_of_row w g _ cs _ _ h1]
  simpa using h3 i hi hi
theorem RowTo.made {ts : List (Int × Int)} {w : World} {base g : Nat} (h : w.ownsRow base 83 2 (.slice (some ⟨g, 0, none⟩) ts.length ts.length) ts.length (madeCells #[.int .i64 0, .int .i64 0] (ts.length * 2)).toList) : RowTo ts w g 0 := by
  rcases h.2 with ⟨h', _⟩ | ⟨g', cap, cur, h', _, hg, _, _, hsz, htake⟩
  · cases h'
  · simp only [Value.slice.injEq, Option.some.injEq, Addr.mk.injEq, and_true, true_and] at h'
    obtain ⟨rfl, rfl⟩ := h'
    refine ⟨cur, hg, hsz, fun i _ hi => by omega, fun m hm => ⟨0, ?_⟩⟩
    have e : cur.toList[m]? = (madeCells #[.int .i64 0, .int .i64 0] (ts.length * 2)).toList[m]? := by rw [← htake, List.getElem?_take, if_pos hm]
    have e2 : cur[m]? = (madeCells #[.int .i64 0, .int .i64 0] (ts.length * 2))[m]? := by simpa using e
    rw [e2]
    have : m % 2 = 0 ∨ m % 2 = 1 := by omega
    rcases this with h2 | h2 <;> simp [madeCells, hm, h2]
end Go.Proofs.YtepffjfgomhepaaGreatDoor
