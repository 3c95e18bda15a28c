/- Rows of items that a call owns (as SAa has them; not together with it). -/
import Derived.Test.YtipmckdlnipgkaaGreatDoorS3j
import Derived.Laws.OwnMore
namespace Go.Proofs.YtipmckdlnipgkaaGreatDoor
open Go.RowKit Go.Sort
set_option linter.unusedVariables false
/-- Items as cells. -/
def flatI (l : List It) : List Value := l.flatMap fun x => [.int .i64 x.k, .int .u64 x.n, .string x.s]
theorem flatI_len (l : List It) : (flatI l).length = l.length * 3 := by
  induction l with
  | nil => rfl
  | cons x r ih => simp [flatI] at ih ⊢; omega
theorem flatI_app (a b : List It) : flatI (a ++ b) = flatI a ++ flatI b := by simp [flatI]
theorem flatI_one (l : List It) : ∀ u ∈ flatI l, u.oneCell' = true := by
  intro u hu
  simp only [flatI, List.mem_flatMap] at hu
  obtain ⟨x, _, hx⟩ := hu
  simp only [List.mem_cons, List.not_mem_nil, or_false] at hx
  rcases hx with rfl | rfl | rfl <;> rfl
theorem flatI_at {l : List It} {i : Nat} (h : i < l.length) : (flatI l)[i * 3]? = some (.int .i64 l[i].k) ∧ (flatI l)[i * 3 + 1]? = some (.int .u64 l[i].n) ∧ (flatI l)[i * 3 + 2]? = some (.string l[i].s) := by
  induction l generalizing i with
  | nil => simp at h
  | cons x r ih =>
    have e : flatI (x :: r) = .int .i64 x.k :: .int .u64 x.n :: .string x.s :: flatI r := rfl
    cases i with
    | zero => simp [e]
    | succ i =>
      have := ih (i := i) (by simpa using h)
      rw [e]
      have e1 : (i + 1) * 3 = i * 3 + 3 := by omega
      rw [e1]
      simpa using this
/-- A slice of items that a call owns: its block lies from base on. -/
def OwnIt (base : Nat) (w : World) (v : Value) (l : List It) : Prop := w.ownsRow base 69 3 v l.length (flatI l)
theorem OwnIt.nil (base : Nat) (w : World) : OwnIt base w (.slice none 0 0) [] := World.ownsRow_nil _ _ _ _
theorem OwnIt.kept {base : Nat} {w w' : World} {v : Value} {l : List It} (h : OwnIt base w v l) (hb : Below w.heap.size w w') : OwnIt base w' v l := World.ownsRow.kept h (row := none) ⟨hb.os, hb.tape, hb.output, hb.size, fun k hk _ => hb.block k hk⟩ (by cases v.ownBlock <;> simp)
theorem OwnIt.form {base : Nat} {w : World} {v : Value} {l : List It} (h : OwnIt base w v l) : ∃ ad cap, v = .slice ad l.length cap ∧ l.length ≤ cap ∧ cap ≤ maxLen ∧ (l.length = 0 ∨ ∃ g, ad = some ⟨g, 0, none⟩) := by
  rcases h.2 with ⟨hv, h0⟩ | ⟨g, cap, cur, hv, hg, hh, h1, h2, _⟩
  · exact ⟨none, 0, by rw [hv, h0], by omega, by simp [maxLen], .inl h0⟩
  · exact ⟨_, cap, hv, h1, h2, .inr ⟨g, rfl⟩⟩
theorem OwnIt.items {base : Nat} {w : World} {v : Value} {l : List It} (h : OwnIt base w v l) (hs : l.length ≤ 1048577) (hwf : ∀ x ∈ l, inI x.k ∧ x.n < 18446744073709551616 ∧ x.s.size ≤ 1048577) : IsItems w.heap.size w v l := by
  obtain ⟨ad, cap, rfl, h1, h2, h3⟩ := h.form
  rcases h3 with h3 | ⟨g, rfl⟩
  · have hl : l = [] := List.eq_nil_of_length_eq_zero h3
    subst hl
    exact ⟨0, 0, cap, ⟨hs, h1, h2, hwf, .inl rfl, fun i hi => by simp at hi⟩, ad, by simp, .inl (by simp)⟩
  · refine ⟨g, 0, cap, ⟨hs, h1, h2, hwf, .inr (h.lt g rfl).2, fun i hi => ?_⟩, some ⟨g, 0, none⟩, by simp, .inr (by simp)⟩
    obtain ⟨e0, e1, e2⟩ := flatI_at hi
    have hc : ∀ m, m < (flatI l).length → w.cell? ⟨g, m, none⟩ = (flatI l)[m]? := fun m hm => World.ownsRow.cellAt h m (by rw [flatI_len] at hm; exact hm)
    have hl3 := flatI_len l
    simp only [Nat.zero_add]
    rw [hc _ (by omega), hc _ (by omega), hc _ (by omega)]
    exact ⟨e0, e1, e2⟩
end Go.Proofs.YtipmckdlnipgkaaGreatDoor
