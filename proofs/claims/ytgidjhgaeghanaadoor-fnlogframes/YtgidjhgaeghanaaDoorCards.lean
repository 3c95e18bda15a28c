/-
  DERIVED. GIVEN WITH THE SEED: THE CARDS: each row of YtgidjhgaeghanaaDoorRows.lean that lists a variable, with what it lists TIED to the program's text (the seventh form; the later family's looks); each row that meets fmt, with fmt's text TOLD by the authors' own Lean function (tested against real Go, not proved from fmt's source: count such statements apart). THE CARD IS WHAT COUNTS. Prove the row's statement (the work); the ties are given (YtgidjhgaeghanaaDoorTie.lean); close each card by the builder's one call (the guide's Derived/Test/ToyasCard.lean, 'card_holds'). Laid BY PROGRAM, IN A SANDBOX (cutbox-door.mjs). By AI agents, Wed Nov 11 2026. No macro, syntax, notation, axiom, sorry.
-/
import Derived.Test.YtgidjhgaeghanaaDoorRows
import GoSem.ClaimSeven
namespace Go.Proofs.YtgidjhgaeghanaaDoor
namespace Rows

/-- THE TIED CARD OF 'laws.FnLogFrames'. -/
def fnLogFramesCard : Claim7 := { stood := { row := fnLogFramesRow, standIns := [], harness := (true, "578b0eaefde9b87f7fbbdd2f4dc5d982a2a6e49d1f999b87cfde655d9eb262bb"), looks := true }, kinds := [], alts := [], laidByText := true, laidKinds := [.data], laidTests := true, laidLooks := .later }
def FnLogFramesCardSaid : Prop := Claim7.holds Tryd.pinned (.plain (OpenSpec.ofChange fnLogFramesSpec)) fnLogFramesCard

/-- THE SECOND FORM's CARD OF 'laws.FnLogFrames'. -/
def fnLogFramesUptoCard : Claim7 := { stood := { row := fnLogFramesUptoRow, standIns := [], harness := (true, "578b0eaefde9b87f7fbbdd2f4dc5d982a2a6e49d1f999b87cfde655d9eb262bb"), looks := true }, kinds := [], alts := [], laidByText := true, laidKinds := [.data], laidTests := true, laidLooks := .later }
def FnLogFramesUptoCardSaid : Prop := Claim7.holds Tryd.pinned (.plain (OpenSpec.upto fnLogFramesSpec)) fnLogFramesUptoCard
end Rows
end Go.Proofs.YtgidjhgaeghanaaDoor
