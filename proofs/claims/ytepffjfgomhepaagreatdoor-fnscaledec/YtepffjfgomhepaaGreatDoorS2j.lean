/- The exact laws' own helpers on slices of types: contracts. -/
import Derived.Test.YtepffjfgomhepaaGreatDoorS2i
namespace Go.Proofs.YtepffjfgomhepaaGreatDoor
open Go.RowKit Go.Sort
set_option linter.unusedVariables false
theorem cells_re {w : World} {a : Addr} {v : Value} (h : w.cell? a = some v) : ∀ d os, (grow (redrawn w d) os).cell? a = some v := fun d os => cell_regrown h d os
end Go.Proofs.YtepffjfgomhepaaGreatDoor
