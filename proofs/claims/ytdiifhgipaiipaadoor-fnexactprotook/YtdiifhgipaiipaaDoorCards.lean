/-
  DERIVED. GIVEN WITH THE SEED: THE CARDS: each row of YtdiifhgipaiipaaDoorRows.lean that lists a variable, with what it lists TIED to the program's text (the seventh form; the later family's looks); each row that meets fmt, with fmt's text TOLD by the authors' own Lean function (tested against real Go, not proved from fmt's source: count such statements apart). THE CARD IS WHAT COUNTS. Prove the row's statement (the work); the ties are given (YtdiifhgipaiipaaDoorTie.lean); close each card by the builder's one call (the guide's Derived/Test/ToyasCard.lean, 'card_holds'). Laid BY PROGRAM, IN A SANDBOX (cutbox-door.mjs). By AI agents, Wed Nov 11 2026. No macro, syntax, notation, axiom, sorry.
-/
import Derived.Test.YtdiifhgipaiipaaDoorRows
import GoSem.ClaimSeven
namespace Go.Proofs.YtdiifhgipaiipaaDoor
namespace Rows

/-- THE TIED CARD OF 'laws.FnExactProtoOk'. -/
def fnExactProtoOkCard : Claim7 := { stood := { row := fnExactProtoOkRow, standIns := [], harness := (true, "6fb104116a7c9c69a650b13d183c8d941cf2902d51b7236f68c7805a4206d61e"), looks := false }, kinds := [], alts := [], laidByText := true, laidKinds := [.data, .sentinel], laidTests := true, laidLooks := .later }
def FnExactProtoOkCardSaid : Prop := Claim7.holds Tryd.pinned (.plain (OpenSpec.ofChange fnExactProtoOkSpec)) fnExactProtoOkCard

/-- THE SECOND FORM's CARD OF 'laws.FnExactProtoOk'. -/
def fnExactProtoOkUptoCard : Claim7 := { stood := { row := fnExactProtoOkUptoRow, standIns := [], harness := (true, "6fb104116a7c9c69a650b13d183c8d941cf2902d51b7236f68c7805a4206d61e"), looks := false }, kinds := [], alts := [], laidByText := true, laidKinds := [.data, .sentinel], laidTests := true, laidLooks := .later }
def FnExactProtoOkUptoCardSaid : Prop := Claim7.holds Tryd.pinned (.plain (OpenSpec.upto fnExactProtoOkSpec)) fnExactProtoOkUptoCard
end Rows
end Go.Proofs.YtdiifhgipaiipaaDoor
