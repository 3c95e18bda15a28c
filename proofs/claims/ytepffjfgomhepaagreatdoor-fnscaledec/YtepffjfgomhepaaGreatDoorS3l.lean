/- The exact laws' copies of items, and their comparison: contracts. -/
import Derived.Test.YtepffjfgomhepaaGreatDoorS3k
namespace Go.Proofs.YtepffjfgomhepaaGreatDoor
open Go.RowKit Go.Sort
set_option linter.unusedVariables false
theorem Tryz.infoItem : (Tryz.prog.info? 58).map (fun i => (i.zero, i.size, i.bytes)) = some (some (.agg #[.int .i64 0, .int .u64 0, .string ByteArray.empty]), 3, 32) := by kernel_rfl
/-- A row of items that a call has made, its first j elements set. -/
def RowIt (vs : List It) (w : World) (g j : Nat) : Prop := ∃ cs : Array Value, w.heap[g]? = some (.cells cs 58 (0, 0)) ∧ cs.size = vs.length * 3 ∧
  (∀ i (h : i < vs.length), i < j → cs[i * 3]? = some (.int .i64 vs[i].k) ∧ cs[i * 3 + 1]? = some (.int .u64 vs[i].n) ∧ cs[i * 3 + 2]? = some (.string vs[i].s)) ∧
  ∀ i, i < vs.length → (∃ z, cs[i * 3]? = some (.int .i64 z)) ∧ (∃ z, cs[i * 3 + 1]? = some (.int .u64 z)) ∧ ∃ z, cs[i * 3 + 2]? = some (.string z)
theorem RowIt.keep {vs : List It} {w w' : World} {g j : Nat} (h : RowIt vs w g j) (hb : w'.heap[g]? = w.heap[g]?) : RowIt vs w' g j := by
  obtain ⟨cs, h1, h2, h3, h4⟩ := h
  exact ⟨cs, hb.trans h1, h2, h3, h4⟩
theorem RowIt.cell {vs : List It} {w : World} {g j : Nat} (h : RowIt vs w g j) {i : Nat} (hi : i < vs.length) : ((∃ z, w.cell? ⟨g, i * 3, none⟩ = some (.int .i64 z)) ∧ (∃ z, w.cell? ⟨g, i * 3 + 1, none⟩ = some (.int .u64 z)) ∧ ∃ z, w.cell? ⟨g, i * 3 + 2, none⟩ = some (.string z)) ∧ ∀ m, w.frozen? ⟨g, m, none⟩ = false := by
  obtain ⟨cs, h1, h2, h3, h4⟩ := h
  obtain ⟨⟨z0, e0⟩, ⟨z1, e1⟩, ⟨z2, e2⟩⟩ := h4 i hi
  exact ⟨⟨⟨z0, by rw [cell_of_row w g _ cs _ _ h1]; exact e0⟩, ⟨z1, by rw [cell_of_row w g _ cs _ _ h1]; exact e1⟩, ⟨z2, by rw [cell_of_row w g _ cs _ _ h1]; exact e2⟩⟩, fun m => by simp [World.frozen?, h1]⟩
theorem RowIt.next {vs : List It} {w : World} {g j : Nat} (h : RowIt vs w g j) (hj : j < vs.length) : RowIt vs (((w.setCell ⟨g, j * 3, none⟩ (.int .i64 vs[j].k)).setCell ⟨g, j * 3 + 1, none⟩ (.int .u64 vs[j].n)).setCell ⟨g, j * 3 + 2, none⟩ (.string vs[j].s)) g (j + 1) := by
  obtain ⟨cs, h1, h2, h3, h4⟩ := h
  have e1 := set_block (i := j * 3) h1 (.int .i64 vs[j].k)
  have e2 := set_block (i := j * 3 + 1) e1 (.int .u64 vs[j].n)
  have e3 := set_block (i := j * 3 + 2) e2 (.string vs[j].s)
  have hat : ∀ c0 c1 c2 : Value, ((((cs.setIfInBounds (j * 3) c0).setIfInBounds (j * 3 + 1) c1).setIfInBounds (j * 3 + 2) c2)[j * 3]? = some c0) ∧ ((((cs.setIfInBounds (j * 3) c0).setIfInBounds (j * 3 + 1) c1).setIfInBounds (j * 3 + 2) c2)[j * 3 + 1]? = some c1) ∧ ((((cs.setIfInBounds (j * 3) c0).setIfInBounds (j * 3 + 1) c1).setIfInBounds (j * 3 + 2) c2)[j * 3 + 2]? = some c2) := fun c0 c1 c2 => by
    refine ⟨?_, ?_, ?_⟩
    · rw [Array.getElem?_setIfInBounds_ne (by omega), Array.getElem?_setIfInBounds_ne (by omega), Array.getElem?_setIfInBounds_self_of_lt (by omega)]
    · rw [Array.getElem?_setIfInBounds_ne (by omega), Array.getElem?_setIfInBounds_self_of_lt (by simp; omega)]
    · rw [Array.getElem?_setIfInBounds_self_of_lt (by simp; omega)]
  have hoff : ∀ (c0 c1 c2 : Value) i m, i ≠ j → m < 3 → (((cs.setIfInBounds (j * 3) c0).setIfInBounds (j * 3 + 1) c1).setIfInBounds (j * 3 + 2) c2)[i * 3 + m]? = cs[i * 3 + m]? := fun c0 c1 c2 i m hne hm => by
    rw [Array.getElem?_setIfInBounds_ne (by omega), Array.getElem?_setIfInBounds_ne (by omega), Array.getElem?_setIfInBounds_ne (by omega)]
  refine ⟨_, e3, by simp [h2], fun i hi hij => ?_, fun i hi => ?_⟩
  · by_cases e : i = j
    · subst e
      exact hat _ _ _
    · have q0 := hoff (.int .i64 vs[j].k) (.int .u64 vs[j].n) (.string vs[j].s) i 0 e (by omega)
      simp only [Nat.add_zero] at q0
      rw [q0, hoff _ _ _ i 1 e (by omega), hoff _ _ _ i 2 e (by omega)]
      exact h3 i hi (by omega)
  · by_cases e : i = j
    · subst e
      obtain ⟨q0, q1, q2⟩ := hat (.int .i64 vs[i].k) (.int .u64 vs[i].n) (.string vs[i].s)
      exact ⟨⟨_, q0⟩, ⟨_, q1⟩, ⟨_, q2⟩⟩
    · have q0 := hoff (.int .i64 vs[j].k) (.int .u64 vs[j].n) (.string vs[j].s) i 0 e (by omega)
      simp only [Nat.add_zero] at q0
      rw [q0, hoff _ _ _ i 1 e (by omega), hoff _ _ _ i 2 e (by omega)]
      exact h4 i hi
theorem RowIt.done {vs : List It} {w : World} {g : Nat} (h : RowIt vs w g vs.length) (hs : vs.length ≤ 1048577) (hwf : ∀ x ∈ vs, inI x.k ∧ x.n < 18446744073709551616 ∧ x.s.size ≤ 1048577) : IsItems w.heap.size w (.slice (some ⟨g, 0, none⟩) vs.length vs.length) vs := by
  obtain ⟨cs, h1, h2, h3, h4⟩ := h
  refine ⟨g, 0, vs.length, ⟨hs, Nat.le_refl _, by unfold maxLen; omega, hwf, .inr (blk_lt h1), fun i hi => ?_⟩, some ⟨g, 0, none⟩, by simp, .inr (by simp)⟩
  rw [cell_of_row w g _ cs _ _ h1, cell_of_row w g _ cs _ _ h1, cell_of_row w g _ cs _ _ h1]
  simpa using h3 i hi hi
theorem RowIt.made {vs : List It} {w : World} {base g : Nat} (h : w.ownsRow base 58 3 (.slice (some ⟨g, 0, none⟩) vs.length vs.length) vs.length (madeCells #[.int .i64 0, .int .u64 0, .string ByteArray.empty] (vs.length * 3)).toList) : RowIt vs w g 0 := by
  rcases h.2 with ⟨h', _⟩ | ⟨g', cap, cur, h', _, hg, _, _, hsz, htake⟩
  · cases h'
  · simp only [Value.slice.injEq, Option.some.injEq, Addr.mk.injEq, and_true, true_and] at h'
    obtain ⟨rfl, rfl⟩ := h'
    have key : ∀ m, m < vs.length * 3 → cur[m]? = (madeCells #[.int .i64 0, .int .u64 0, .string ByteArray.empty] (vs.length * 3))[m]? := fun m hm => by
      have e : cur.toList[m]? = (madeCells #[.int .i64 0, .int .u64 0, .string ByteArray.empty] (vs.length * 3)).toList[m]? := by rw [← htake, List.getElem?_take, if_pos hm]
      simpa using e
    refine ⟨cur, hg, hsz, fun i _ hi => by omega, fun i hi => ⟨⟨0, ?_⟩, ⟨0, ?_⟩, ⟨ByteArray.empty, ?_⟩⟩⟩
    · rw [key _ (by omega)]
      have h1 : i * 3 < vs.length * 3 := by omega
      have h2 : i * 3 % 3 = 0 := by omega
      simp [madeCells, h1, h2]
    · rw [key _ (by omega)]
      have h1 : i * 3 + 1 < vs.length * 3 := by omega
      have h2 : (i * 3 + 1) % 3 = 1 := by omega
      simp [madeCells, h1, h2]
    · rw [key _ (by omega)]
      have h1 : i * 3 + 2 < vs.length * 3 := by omega
      have h2 : (i * 3 + 2) % 3 = 2 := by omega
      simp [madeCells, h1, h2]
theorem IsItems.form {B : Nat} {w : World} {v : Value} {vs : List It} (h : IsItems B w v vs) : ∃ ad C, v = .slice ad vs.length C ∧ vs.length ≤ 1048577 ∧ vs.length ≤ C ∧ C ≤ maxLen ∧ ∀ x ∈ vs, inI x.k ∧ x.n < 18446744073709551616 ∧ x.s.size ≤ 1048577 := by
  obtain ⟨b, o, C, hI, ad, rfl, _⟩ := h
  exact ⟨ad, C, by simp, hI.small, hI.room, hI.most, hI.wf⟩
theorem IsItems.at {B : Nat} {w : World} {v : Value} {vs : List It} (h : IsItems B w v vs) {i : Nat} (hi : i < vs.length) : ∃ b o C, v = .slice (some ⟨b, o, none⟩) vs.length C ∧ b < B ∧ vs.length ≤ C ∧ C ≤ maxLen ∧ w.cell? ⟨b, o + i * 3, none⟩ = some (.int .i64 vs[i].k) ∧ w.cell? ⟨b, o + i * 3 + 1, none⟩ = some (.int .u64 vs[i].n) ∧ w.cell? ⟨b, o + i * 3 + 2, none⟩ = some (.string vs[i].s) := by
  obtain ⟨b, o, C, hI, hF⟩ := h
  have hv := hF.at (show 0 < vs.length by omega)
  rw [Nat.sub_zero, Nat.sub_zero, Nat.zero_mul, Nat.add_zero] at hv
  exact ⟨b, o, C, hv, hI.low.resolve_left (by omega), hI.room, hI.most, hI.cells i hi⟩
end Go.Proofs.YtepffjfgomhepaaGreatDoor
