/- What is chosen, as the formats with whole numbers write it: contract. -/
import Derived.Test.YtbpgmgcbicehjaaDoorS7c
import Derived.Deep.RegionHeld3
namespace Go.Proofs.YtbpgmgcbicehjaaDoor
open Go.RowKit Go.Sort
set_option linter.unusedVariables false
end Go.Proofs.YtbpgmgcbicehjaaDoor
