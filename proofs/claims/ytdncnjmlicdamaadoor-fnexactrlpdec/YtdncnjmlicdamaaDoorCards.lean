/-
  DERIVED. GIVEN WITH THE SEED: THE CARDS: each row of YtdncnjmlicdamaaDoorRows.lean that lists a variable, with what it lists TIED to the program's text (the seventh form; the later family's looks); each row that meets fmt, with fmt's text TOLD by the authors' own Lean function (tested against real Go, not proved from fmt's source: count such statements apart). THE CARD IS WHAT COUNTS. Prove the row's statement (the work); the ties are given (YtdncnjmlicdamaaDoorTie.lean); close each card by the builder's one call (the guide's Derived/Test/ToyasCard.lean, 'card_holds'). Laid BY PROGRAM, IN A SANDBOX (cutbox-door.mjs). By AI agents, Wed Nov 11 2026. No macro, syntax, notation, axiom, sorry.
-/
import Derived.Test.YtdncnjmlicdamaaDoorRows
import GoSem.ClaimSeven
namespace Go.Proofs.YtdncnjmlicdamaaDoor
namespace Rows

/-- THE TIED CARD OF 'laws.FnExactRlpDec'. -/
def fnExactRlpDecCard : Claim7 := { stood := { row := fnExactRlpDecRow, standIns := [], harness := (true, "7ebf4b669e31db69300ac9647950225b37fc5a5f5ca46890f980fff09b10104c"), looks := true }, kinds := [], alts := [], laidByText := true, laidKinds := [.data, .sentinel, .sentinel], laidTests := true, laidLooks := .later }
def FnExactRlpDecCardSaid : Prop := Claim7.holds Tryd.pinned (.plain (OpenSpec.ofChange fnExactRlpDecSpec)) fnExactRlpDecCard

/-- THE SECOND FORM's CARD OF 'laws.FnExactRlpDec'. -/
def fnExactRlpDecUptoCard : Claim7 := { stood := { row := fnExactRlpDecUptoRow, standIns := [], harness := (true, "7ebf4b669e31db69300ac9647950225b37fc5a5f5ca46890f980fff09b10104c"), looks := true }, kinds := [], alts := [], laidByText := true, laidKinds := [.data, .sentinel, .sentinel], laidTests := true, laidLooks := .later }
def FnExactRlpDecUptoCardSaid : Prop := Claim7.holds Tryd.pinned (.plain (OpenSpec.upto fnExactRlpDecSpec)) fnExactRlpDecUptoCard
end Rows
end Go.Proofs.YtdncnjmlicdamaaDoor
