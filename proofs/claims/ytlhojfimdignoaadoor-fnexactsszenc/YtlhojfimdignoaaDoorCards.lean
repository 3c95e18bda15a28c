/-
  DERIVED. GIVEN WITH THE SEED: THE CARDS: each row of YtlhojfimdignoaaDoorRows.lean that lists a variable, with what it lists TIED to the program's text (the seventh form; the later family's looks); each row that meets fmt, with fmt's text TOLD by the authors' own Lean function (tested against real Go, not proved from fmt's source: count such statements apart). THE CARD IS WHAT COUNTS. Prove the row's statement (the work); the ties are given (YtlhojfimdignoaaDoorTie.lean); close each card by the builder's one call (the guide's Derived/Test/ToyasCard.lean, 'card_holds'). Laid BY PROGRAM, IN A SANDBOX (cutbox-door.mjs). By AI agents, Wed Nov 11 2026. No macro, syntax, notation, axiom, sorry.
-/
import Derived.Test.YtlhojfimdignoaaDoorRows
import GoSem.ClaimSeven
namespace Go.Proofs.YtlhojfimdignoaaDoor
namespace Rows

/-- THE TIED CARD OF 'laws.FnExactSszEnc'. -/
def fnExactSszEncCard : Claim7 := { stood := { row := fnExactSszEncRow, standIns := [], harness := (true, "74d088dc47e5037f79de060bb4834eb28b977f9b46a73d39f73871bb02a9536b"), looks := true }, kinds := [], alts := [], laidByText := true, laidKinds := [.data, .sentinel], laidTests := true, laidLooks := .later }
def FnExactSszEncCardSaid : Prop := Claim7.holds Tryd.pinned (.plain (OpenSpec.ofChange fnExactSszEncSpec)) fnExactSszEncCard

/-- THE SECOND FORM's CARD OF 'laws.FnExactSszEnc'. -/
def fnExactSszEncUptoCard : Claim7 := { stood := { row := fnExactSszEncUptoRow, standIns := [], harness := (true, "74d088dc47e5037f79de060bb4834eb28b977f9b46a73d39f73871bb02a9536b"), looks := true }, kinds := [], alts := [], laidByText := true, laidKinds := [.data, .sentinel], laidTests := true, laidLooks := .later }
def FnExactSszEncUptoCardSaid : Prop := Claim7.holds Tryd.pinned (.plain (OpenSpec.upto fnExactSszEncSpec)) fnExactSszEncUptoCard
end Rows
end Go.Proofs.YtlhojfimdignoaaDoor
