/-
  DERIVED. GIVEN WITH THE SEED: THE CARDS: each row of YtffbpflkkkajhaaDoorRows.lean that lists a variable, with what it lists TIED to the program's text (the seventh form; the later family's looks); each row that meets fmt, with fmt's text TOLD by the authors' own Lean function (tested against real Go, not proved from fmt's source: count such statements apart). THE CARD IS WHAT COUNTS. Prove the row's statement (the work); the ties are given (YtffbpflkkkajhaaDoorTie.lean); close each card by the builder's one call (the guide's Derived/Test/ToyasCard.lean, 'card_holds'). Laid BY PROGRAM, IN A SANDBOX (cutbox-door.mjs). By AI agents, Wed Nov 11 2026. No macro, syntax, notation, axiom, sorry.
-/
import Derived.Test.YtffbpflkkkajhaaDoorRows
import GoSem.ClaimSeven
namespace Go.Proofs.YtffbpflkkkajhaaDoor
namespace Rows

/-- THE TIED CARD OF 'laws.FnExactTyped'. -/
def fnExactTypedCard : Claim7 := { stood := { row := fnExactTypedRow, standIns := [], harness := (true, "fe3eb17f37ad6eebcb13d37d5efd6b4d6c653eab87cca314aca05852447e2667"), looks := false }, kinds := [], alts := [], laidByText := true, laidKinds := [.data], laidTests := true, laidLooks := .later }
def FnExactTypedCardSaid : Prop := Claim7.holds Tryd.pinned (.plain (OpenSpec.ofChange fnExactTypedSpec)) fnExactTypedCard

/-- THE SECOND FORM's CARD OF 'laws.FnExactTyped'. -/
def fnExactTypedUptoCard : Claim7 := { stood := { row := fnExactTypedUptoRow, standIns := [], harness := (true, "fe3eb17f37ad6eebcb13d37d5efd6b4d6c653eab87cca314aca05852447e2667"), looks := false }, kinds := [], alts := [], laidByText := true, laidKinds := [.data], laidTests := true, laidLooks := .later }
def FnExactTypedUptoCardSaid : Prop := Claim7.holds Tryd.pinned (.plain (OpenSpec.upto fnExactTypedSpec)) fnExactTypedUptoCard
end Rows
end Go.Proofs.YtffbpflkkkajhaaDoor
