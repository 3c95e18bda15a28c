/- The exact laws' own helpers on slices of types: contracts. -/
import Derived.Test.YtogadhfickojcaaGreatDoorS2i
namespace Go.Proofs.YtogadhfickojcaaGreatDoor
open Go.RowKit Go.Sort
set_option linter.unusedVariables false
end Go.Proofs.YtogadhfickojcaaGreatDoor
