/- Marks on rows of items that a call owns. -/
import Derived.Test.YtdncnjmlicdamaaDoorSBq
import Derived.Test.YtdncnjmlicdamaaDoorSNn
namespace Go.Proofs.YtdncnjmlicdamaaDoor
open Go.RowKit Go.Sort
set_option linter.unusedVariables false
theorem MkS.ofOwn {l : List It} {w : World} {B : Nat} {v : Value} (h : OwnIt B w v l) : MkS 1 l.length 0 B w v := by
  obtain ⟨ad, cap, rfl, h1, h2, h3⟩ := h.form
  refine ⟨ad, cap, rfl, h1, h2, ?_⟩
  rcases h.2 with ⟨hv, h0⟩ | ⟨g, cap', cur, hv, hg, hh, _, _, h6, h7⟩
  · exact .inl h0
  · cases hv
    refine .inr ⟨g, rfl, hg, blk_lt hh, cur, hh, by omega, fun i hi => by omega, fun i hi => ?_⟩
    obtain ⟨e0, e1, e2⟩ := flatI_at hi
    have hc : ∀ m, m < l.length * 3 → cur[m]? = (flatI l)[m]? := fun m hm => by
      rw [← h7, List.getElem?_take, if_pos hm]; simp
    rw [hc _ (by omega), hc _ (by omega), hc _ (by omega), e0, e1, e2]
    exact ⟨⟨_, rfl⟩, ⟨_, rfl⟩, ⟨_, rfl⟩⟩
end Go.Proofs.YtdncnjmlicdamaaDoor
