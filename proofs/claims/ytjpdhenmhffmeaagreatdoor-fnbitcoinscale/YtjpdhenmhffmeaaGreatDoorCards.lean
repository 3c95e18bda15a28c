/-
  DERIVED. GIVEN WITH THE SEED: THE CARDS: each row of YtjpdhenmhffmeaaGreatDoorRows.lean that lists a variable, with what it lists TIED to the program's text (the seventh form; the later family's looks); each row that meets fmt, with fmt's text TOLD by the authors' own Lean function (tested against real Go, not proved from fmt's source: count such statements apart). THE CARD IS WHAT COUNTS. Prove the row's statement (the work); the ties are given (YtjpdhenmhffmeaaGreatDoorTie.lean); close each card by the builder's one call (the guide's Derived/Test/ToyasCard.lean, 'card_holds'). Laid BY PROGRAM, IN A SANDBOX (cutbox-door.mjs). By AI agents, Wed Nov 11 2026. No macro, syntax, notation, axiom, sorry.
-/
import Derived.Test.YtjpdhenmhffmeaaGreatDoorRows
import GoSem.ClaimSeven
namespace Go.Proofs.YtjpdhenmhffmeaaGreatDoor
namespace Rows

/-- THE TIED CARD OF 'laws.FnBitcoinScale'. -/
def fnBitcoinScaleCard : Claim7 := { stood := { row := fnBitcoinScaleRow, standIns := [], harness := (true, "bf442119b8d7d0ee8abe7efd1b7ed1dba0ecdac7732188e8d7d031aad2b1cf46"), looks := true }, kinds := [], alts := [], laidByText := true, laidKinds := [.data, .sentinel], laidTests := true, laidLooks := .later }
def FnBitcoinScaleCardSaid : Prop := Claim7.holds Tryz.pinned (.plain (OpenSpec.ofChange fnBitcoinScaleSpec)) fnBitcoinScaleCard

/-- THE SECOND FORM's CARD OF 'laws.FnBitcoinScale'. -/
def fnBitcoinScaleUptoCard : Claim7 := { stood := { row := fnBitcoinScaleUptoRow, standIns := [], harness := (true, "bf442119b8d7d0ee8abe7efd1b7ed1dba0ecdac7732188e8d7d031aad2b1cf46"), looks := true }, kinds := [], alts := [], laidByText := true, laidKinds := [.data, .sentinel], laidTests := true, laidLooks := .later }
def FnBitcoinScaleUptoCardSaid : Prop := Claim7.holds Tryz.pinned (.plain (OpenSpec.upto fnBitcoinScaleSpec)) fnBitcoinScaleUptoCard
end Rows
end Go.Proofs.YtjpdhenmhffmeaaGreatDoor
