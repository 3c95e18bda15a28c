/-
  DERIVED. GIVEN WITH THE SEED: THE CARDS: each row of YtmfdglolgdhegaaDoorRows.lean that lists a variable, with what it lists TIED to the program's text (the seventh form; the later family's looks); each row that meets fmt, with fmt's text TOLD by the authors' own Lean function (tested against real Go, not proved from fmt's source: count such statements apart). THE CARD IS WHAT COUNTS. Prove the row's statement (the work); the ties are given (YtmfdglolgdhegaaDoorTie.lean); close each card by the builder's one call (the guide's Derived/Test/ToyasCard.lean, 'card_holds'). Laid BY PROGRAM, IN A SANDBOX (cutbox-door.mjs). By AI agents, Wed Nov 11 2026. No macro, syntax, notation, axiom, sorry.
-/
import Derived.Test.YtmfdglolgdhegaaDoorRows
import GoSem.ClaimSeven
namespace Go.Proofs.YtmfdglolgdhegaaDoor
namespace Rows

/-- THE TIED CARD OF 'laws.FnExactSszSize'. -/
def fnExactSszSizeCard : Claim7 := { stood := { row := fnExactSszSizeRow, standIns := [], harness := (true, "d57c336eb199716a415c5940ea1c3179095f35e5fe984fe889bf8ceab06432be"), looks := false }, kinds := [], alts := [], laidByText := true, laidKinds := [.data], laidTests := true, laidLooks := .later }
def FnExactSszSizeCardSaid : Prop := Claim7.holds Tryd.pinned (.plain (OpenSpec.ofChange fnExactSszSizeSpec)) fnExactSszSizeCard

/-- THE SECOND FORM's CARD OF 'laws.FnExactSszSize'. -/
def fnExactSszSizeUptoCard : Claim7 := { stood := { row := fnExactSszSizeUptoRow, standIns := [], harness := (true, "d57c336eb199716a415c5940ea1c3179095f35e5fe984fe889bf8ceab06432be"), looks := false }, kinds := [], alts := [], laidByText := true, laidKinds := [.data], laidTests := true, laidLooks := .later }
def FnExactSszSizeUptoCardSaid : Prop := Claim7.holds Tryd.pinned (.plain (OpenSpec.upto fnExactSszSizeSpec)) fnExactSszSizeUptoCard
end Rows
end Go.Proofs.YtmfdglolgdhegaaDoor
