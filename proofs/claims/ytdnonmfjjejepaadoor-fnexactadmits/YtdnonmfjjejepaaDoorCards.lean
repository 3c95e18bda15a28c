/-
  DERIVED. GIVEN WITH THE SEED: THE CARDS: each row of YtdnonmfjjejepaaDoorRows.lean that lists a variable, with what it lists TIED to the program's text (the seventh form; the later family's looks); each row that meets fmt, with fmt's text TOLD by the authors' own Lean function (tested against real Go, not proved from fmt's source: count such statements apart). THE CARD IS WHAT COUNTS. Prove the row's statement (the work); the ties are given (YtdnonmfjjejepaaDoorTie.lean); close each card by the builder's one call (the guide's Derived/Test/ToyasCard.lean, 'card_holds'). Laid BY PROGRAM, IN A SANDBOX (cutbox-door.mjs). By AI agents, Wed Nov 11 2026. No macro, syntax, notation, axiom, sorry.
-/
import Derived.Test.YtdnonmfjjejepaaDoorRows
import GoSem.ClaimSeven
namespace Go.Proofs.YtdnonmfjjejepaaDoor
namespace Rows

/-- THE TIED CARD OF 'laws.FnExactAdmits'. -/
def fnExactAdmitsCard : Claim7 := { stood := { row := fnExactAdmitsRow, standIns := [], harness := (true, "c69a0b7cb60a9b455ac8ff1c5ebd0a0121739301c47a9817e13a5b06ec9b81f2"), looks := false }, kinds := [], alts := [], laidByText := true, laidKinds := [.data, .sentinel], laidTests := true, laidLooks := .later }
def FnExactAdmitsCardSaid : Prop := Claim7.holds Tryd.pinned (.plain (OpenSpec.ofChange fnExactAdmitsSpec)) fnExactAdmitsCard

/-- THE SECOND FORM's CARD OF 'laws.FnExactAdmits'. -/
def fnExactAdmitsUptoCard : Claim7 := { stood := { row := fnExactAdmitsUptoRow, standIns := [], harness := (true, "c69a0b7cb60a9b455ac8ff1c5ebd0a0121739301c47a9817e13a5b06ec9b81f2"), looks := false }, kinds := [], alts := [], laidByText := true, laidKinds := [.data, .sentinel], laidTests := true, laidLooks := .later }
def FnExactAdmitsUptoCardSaid : Prop := Claim7.holds Tryd.pinned (.plain (OpenSpec.upto fnExactAdmitsSpec)) fnExactAdmitsUptoCard
end Rows
end Go.Proofs.YtdnonmfjjejepaaDoor
