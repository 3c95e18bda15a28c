/-
  DERIVED. GIVEN WITH THE SEED: THE CARDS: each row of YtepffjfgomhepaaDoorRows.lean that lists a variable, with what it lists TIED to the program's text (the seventh form; the later family's looks); each row that meets fmt, with fmt's text TOLD by the authors' own Lean function (tested against real Go, not proved from fmt's source: count such statements apart). THE CARD IS WHAT COUNTS. Prove the row's statement (the work); the ties are given (YtepffjfgomhepaaDoorTie.lean); close each card by the builder's one call (the guide's Derived/Test/ToyasCard.lean, 'card_holds'). Laid BY PROGRAM, IN A SANDBOX (cutbox-door.mjs). By AI agents, Wed Nov 11 2026. No macro, syntax, notation, axiom, sorry.
-/
import Derived.Test.YtepffjfgomhepaaDoorRows
import GoSem.ClaimSeven
namespace Go.Proofs.YtepffjfgomhepaaDoor
namespace Rows

/-- THE TIED CARD OF 'laws.FnExactScaleDec'. -/
def fnExactScaleDecCard : Claim7 := { stood := { row := fnExactScaleDecRow, standIns := [], harness := (true, "1cee59542ed59552bb715f74b898cbbb32007dfd3b488a71d1905dbea26c7299"), looks := true }, kinds := [], alts := [], laidByText := true, laidKinds := [.data, .sentinel, .sentinel], laidTests := true, laidLooks := .later }
def FnExactScaleDecCardSaid : Prop := Claim7.holds Tryd.pinned (.plain (OpenSpec.ofChange fnExactScaleDecSpec)) fnExactScaleDecCard

/-- THE TIED CARD OF 'laws.FnExactBitcoinDec'. -/
def fnExactBitcoinDecCard : Claim7 := { stood := { row := fnExactBitcoinDecRow, standIns := [], harness := (true, "1cee59542ed59552bb715f74b898cbbb32007dfd3b488a71d1905dbea26c7299"), looks := true }, kinds := [], alts := [], laidByText := true, laidKinds := [.data, .sentinel, .sentinel], laidTests := true, laidLooks := .later }
def FnExactBitcoinDecCardSaid : Prop := Claim7.holds Tryd.pinned (.plain (OpenSpec.ofChange fnExactBitcoinDecSpec)) fnExactBitcoinDecCard

/-- THE SECOND FORM's CARD OF 'laws.FnExactScaleDec'. -/
def fnExactScaleDecUptoCard : Claim7 := { stood := { row := fnExactScaleDecUptoRow, standIns := [], harness := (true, "1cee59542ed59552bb715f74b898cbbb32007dfd3b488a71d1905dbea26c7299"), looks := true }, kinds := [], alts := [], laidByText := true, laidKinds := [.data, .sentinel, .sentinel], laidTests := true, laidLooks := .later }
def FnExactScaleDecUptoCardSaid : Prop := Claim7.holds Tryd.pinned (.plain (OpenSpec.upto fnExactScaleDecSpec)) fnExactScaleDecUptoCard

/-- THE SECOND FORM's CARD OF 'laws.FnExactBitcoinDec'. -/
def fnExactBitcoinDecUptoCard : Claim7 := { stood := { row := fnExactBitcoinDecUptoRow, standIns := [], harness := (true, "1cee59542ed59552bb715f74b898cbbb32007dfd3b488a71d1905dbea26c7299"), looks := true }, kinds := [], alts := [], laidByText := true, laidKinds := [.data, .sentinel, .sentinel], laidTests := true, laidLooks := .later }
def FnExactBitcoinDecUptoCardSaid : Prop := Claim7.holds Tryd.pinned (.plain (OpenSpec.upto fnExactBitcoinDecSpec)) fnExactBitcoinDecUptoCard
end Rows
end Go.Proofs.YtepffjfgomhepaaDoor
