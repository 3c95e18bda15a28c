/-
  DERIVED. GIVEN WITH THE SEED: THE CARDS: each row of YtichgnddbnibjaaGreatDoorRows.lean that lists a variable, with what it lists TIED to the program's text (the seventh form; the later family's looks); each row that meets fmt, with fmt's text TOLD by the authors' own Lean function (tested against real Go, not proved from fmt's source: count such statements apart). THE CARD IS WHAT COUNTS. Prove the row's statement (the work); the ties are given (YtichgnddbnibjaaGreatDoorTie.lean); close each card by the builder's one call (the guide's Derived/Test/ToyasCard.lean, 'card_holds'). Laid BY PROGRAM, IN A SANDBOX (cutbox-door.mjs). By AI agents, Wed Nov 11 2026. No macro, syntax, notation, axiom, sorry.
-/
import Derived.Test.YtichgnddbnibjaaGreatDoorRows
import GoSem.ClaimSeven
namespace Go.Proofs.YtichgnddbnibjaaGreatDoor
namespace Rows

/-- THE TIED CARD OF 'laws.FnBitcoin'. -/
def fnBitcoinCard : Claim7 := { stood := { row := fnBitcoinRow, standIns := [], harness := (true, "a2360b7ba0c6b8d57d3f26782e39e4e3ba96fd94b7678ac02f371663d00a05c5"), looks := true }, kinds := [], alts := [], laidByText := true, laidKinds := [.data, .sentinel, .sentinel], laidTests := true, laidLooks := .later }
def FnBitcoinCardSaid : Prop := Claim7.holds Tryz.pinned (.plain (OpenSpec.ofChange fnBitcoinSpec)) fnBitcoinCard

/-- THE TIED CARD OF 'laws.FnBitcoinDec'. -/
def fnBitcoinDecCard : Claim7 := { stood := { row := fnBitcoinDecRow, standIns := [], harness := (true, "a2360b7ba0c6b8d57d3f26782e39e4e3ba96fd94b7678ac02f371663d00a05c5"), looks := true }, kinds := [], alts := [], laidByText := true, laidKinds := [.data, .sentinel, .sentinel], laidTests := true, laidLooks := .later }
def FnBitcoinDecCardSaid : Prop := Claim7.holds Tryz.pinned (.plain (OpenSpec.ofChange fnBitcoinDecSpec)) fnBitcoinDecCard

/-- THE TIED CARD OF 'laws.FnBitcoinEnds'. -/
def fnBitcoinEndsCard : Claim7 := { stood := { row := fnBitcoinEndsRow, standIns := [], harness := (true, "a2360b7ba0c6b8d57d3f26782e39e4e3ba96fd94b7678ac02f371663d00a05c5"), looks := true }, kinds := [], alts := [], laidByText := true, laidKinds := [.data, .sentinel, .sentinel], laidTests := true, laidLooks := .later }
def FnBitcoinEndsCardSaid : Prop := Claim7.holds Tryz.pinned (.plain (OpenSpec.ofChange fnBitcoinEndsSpec)) fnBitcoinEndsCard

/-- THE SECOND FORM's CARD OF 'laws.FnBitcoin'. -/
def fnBitcoinUptoCard : Claim7 := { stood := { row := fnBitcoinUptoRow, standIns := [], harness := (true, "a2360b7ba0c6b8d57d3f26782e39e4e3ba96fd94b7678ac02f371663d00a05c5"), looks := true }, kinds := [], alts := [], laidByText := true, laidKinds := [.data, .sentinel, .sentinel], laidTests := true, laidLooks := .later }
def FnBitcoinUptoCardSaid : Prop := Claim7.holds Tryz.pinned (.plain (OpenSpec.upto fnBitcoinSpec)) fnBitcoinUptoCard

/-- THE SECOND FORM's CARD OF 'laws.FnBitcoinDec'. -/
def fnBitcoinDecUptoCard : Claim7 := { stood := { row := fnBitcoinDecUptoRow, standIns := [], harness := (true, "a2360b7ba0c6b8d57d3f26782e39e4e3ba96fd94b7678ac02f371663d00a05c5"), looks := true }, kinds := [], alts := [], laidByText := true, laidKinds := [.data, .sentinel, .sentinel], laidTests := true, laidLooks := .later }
def FnBitcoinDecUptoCardSaid : Prop := Claim7.holds Tryz.pinned (.plain (OpenSpec.upto fnBitcoinDecSpec)) fnBitcoinDecUptoCard

/-- THE SECOND FORM's CARD OF 'laws.FnBitcoinEnds'. -/
def fnBitcoinEndsUptoCard : Claim7 := { stood := { row := fnBitcoinEndsUptoRow, standIns := [], harness := (true, "a2360b7ba0c6b8d57d3f26782e39e4e3ba96fd94b7678ac02f371663d00a05c5"), looks := true }, kinds := [], alts := [], laidByText := true, laidKinds := [.data, .sentinel, .sentinel], laidTests := true, laidLooks := .later }
def FnBitcoinEndsUptoCardSaid : Prop := Claim7.holds Tryz.pinned (.plain (OpenSpec.upto fnBitcoinEndsSpec)) fnBitcoinEndsUptoCard
end Rows
end Go.Proofs.YtichgnddbnibjaaGreatDoor
