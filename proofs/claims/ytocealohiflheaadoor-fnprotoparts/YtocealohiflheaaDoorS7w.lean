/- What is chosen, as the formats with whole numbers write it: contract. -/
import Derived.Test.YtocealohiflheaaDoorS7c
import Derived.Deep.RegionHeld3
namespace Go.Proofs.YtocealohiflheaaDoor
open Go.RowKit Go.Sort
set_option linter.unusedVariables false
end Go.Proofs.YtocealohiflheaaDoor
