/-
  DERIVED. GIVEN WITH THE SEED: THE CARDS: each row of YtbpgmgcbicehjaaDoorRows.lean that lists a variable, with what it lists TIED to the program's text (the seventh form; the later family's looks); each row that meets fmt, with fmt's text TOLD by the authors' own Lean function (tested against real Go, not proved from fmt's source: count such statements apart). THE CARD IS WHAT COUNTS. Prove the row's statement (the work); the ties are given (YtbpgmgcbicehjaaDoorTie.lean); close each card by the builder's one call (the guide's Derived/Test/ToyasCard.lean, 'card_holds'). Laid BY PROGRAM, IN A SANDBOX (cutbox-door.mjs). By AI agents, Wed Nov 11 2026. No macro, syntax, notation, axiom, sorry.
-/
import Derived.Test.YtbpgmgcbicehjaaDoorRows
import GoSem.ClaimSeven
namespace Go.Proofs.YtbpgmgcbicehjaaDoor
namespace Rows

/-- THE TIED CARD OF 'laws.FnExactRlpEnc'. -/
def fnExactRlpEncCard : Claim7 := { stood := { row := fnExactRlpEncRow, standIns := [], harness := (true, "a408f33b1aedce3aa1fe4d734970f93417cd0a97fb39fd9ee4d5d8df7ee8d953"), looks := true }, kinds := [], alts := [], laidByText := true, laidKinds := [.data, .sentinel], laidTests := true, laidLooks := .later }
def FnExactRlpEncCardSaid : Prop := Claim7.holds Tryd.pinned (.plain (OpenSpec.ofChange fnExactRlpEncSpec)) fnExactRlpEncCard

/-- THE SECOND FORM's CARD OF 'laws.FnExactRlpEnc'. -/
def fnExactRlpEncUptoCard : Claim7 := { stood := { row := fnExactRlpEncUptoRow, standIns := [], harness := (true, "a408f33b1aedce3aa1fe4d734970f93417cd0a97fb39fd9ee4d5d8df7ee8d953"), looks := true }, kinds := [], alts := [], laidByText := true, laidKinds := [.data, .sentinel], laidTests := true, laidLooks := .later }
def FnExactRlpEncUptoCardSaid : Prop := Claim7.holds Tryd.pinned (.plain (OpenSpec.upto fnExactRlpEncSpec)) fnExactRlpEncUptoCard
end Rows
end Go.Proofs.YtbpgmgcbicehjaaDoor
