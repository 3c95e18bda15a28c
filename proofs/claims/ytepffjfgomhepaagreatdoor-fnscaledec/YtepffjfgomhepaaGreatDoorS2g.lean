/- The program's functions on schemas: contracts. -/
import Derived.Test.YtepffjfgomhepaaGreatDoorS2f
namespace Go.Proofs.YtepffjfgomhepaaGreatDoor
open Go.RowKit
set_option linter.unusedVariables false
/-- A node's cells and its parts, opened. -/
theorem TreeAt.open {ts : List (Int × Int)} {f u a : Nat} {w : World} {S : Nat → Prop} (h : TreeAt ts (f + 1) w S u a) : ∃ (ha : a < ts.length) (K e : Nat) (ad : Option Addr) (cap : Nat),
    kids ts[a].1 ts[a].2 = K ∧ K ≤ 6 ∧ tyOk ts[a].1 ts[a].2 = true ∧ en ts (f + 1) a = some e ∧ iter (en ts f) (a + 1) K = some e ∧ w.cell? ⟨u, 2, none⟩ = some (.int .i64 a) ∧ w.cell? ⟨u, 3, none⟩ = some (.int .i64 e) ∧
    w.cell? ⟨u, 4, none⟩ = some (.int .i64 (6 - f : Nat)) ∧ w.cell? ⟨u, 5, none⟩ = some (.slice ad K cap) ∧ K ≤ cap ∧ cap ≤ maxLen ∧
      (K = 0 ∨ ∃ g, ad = some ⟨g, 0, none⟩ ∧ ∀ j, j < K → ∃ c p, iter (en ts f) (a + 1) j = some p ∧ w.cell? ⟨g, j, none⟩ = some (.pointer (some ⟨c, 0, none⟩)) ∧ TreeAt ts f w S c p) := by
  obtain ⟨hu, ha, e, ad, cap, h1, h2, c0, c1, c2, c3, c4, c5, h3, h4, h5⟩ := h
  refine ⟨ha, _, e, ad, cap, rfl, kids_le h1, h1, h2, by rw [← en_ok ha h1]; exact h2, c2, c3, c4, c5, h3, h4, ?_⟩
  rcases h5 with h5 | ⟨g, hg, _, hk⟩
  · exact .inl h5
  · exact .inr ⟨g, hg, hk⟩
end Go.Proofs.YtepffjfgomhepaaGreatDoor
