/- A value's bytes, as the formats with counts write them: contracts, a case each. -/
import Derived.Test.YtbpgmgcbicehjaaDoorS7b
import Derived.Test.YtbpgmgcbicehjaaDoorS7t
namespace Go.Proofs.YtbpgmgcbicehjaaDoor
open Go.RowKit Go.Sort
set_option linter.unusedVariables false
theorem cell_2 {w : World} {u i : Nat} {v : Value} (h : w.cell? ⟨u, i, none⟩ = some v) (hu : u < w.heap.size) (o o' : Obj) : ((w.alloc o).alloc o').cell? ⟨u, i, none⟩ = some v := by
  rw [(bel2 w o o').cell (p := ⟨u, i, none⟩) hu]; exact h
theorem heap_2 (w : World) (o o' : Obj) : ((w.alloc o).alloc o').heap[w.heap.size]? = some o := by
  rw [Below.heap_alloc _ _ _ (by simp), heap_alloc_new]
end Go.Proofs.YtbpgmgcbicehjaaDoor
