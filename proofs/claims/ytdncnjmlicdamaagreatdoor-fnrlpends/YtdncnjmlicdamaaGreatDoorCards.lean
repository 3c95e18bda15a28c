/-
  DERIVED. GIVEN WITH THE SEED: THE CARDS: each row of YtdncnjmlicdamaaGreatDoorRows.lean that lists a variable, with what it lists TIED to the program's text (the seventh form; the later family's looks); each row that meets fmt, with fmt's text TOLD by the authors' own Lean function (tested against real Go, not proved from fmt's source: count such statements apart). THE CARD IS WHAT COUNTS. Prove the row's statement (the work); the ties are given (YtdncnjmlicdamaaGreatDoorTie.lean); close each card by the builder's one call (the guide's Derived/Test/ToyasCard.lean, 'card_holds'). Laid BY PROGRAM, IN A SANDBOX (cutbox-door.mjs). By AI agents, Wed Nov 11 2026. No macro, syntax, notation, axiom, sorry.
-/
import Derived.Test.YtdncnjmlicdamaaGreatDoorRows
import GoSem.ClaimSeven
namespace Go.Proofs.YtdncnjmlicdamaaGreatDoor
namespace Rows

/-- THE TIED CARD OF 'laws.FnRlp'. -/
def fnRlpCard : Claim7 := { stood := { row := fnRlpRow, standIns := [], harness := (true, "cac651744e5dd3a930bb0642abc3aa6d5f4c06be5e80cd30a618205512dfb6d4"), looks := true }, kinds := [], alts := [], laidByText := true, laidKinds := [.data, .sentinel, .sentinel], laidTests := true, laidLooks := .later }
def FnRlpCardSaid : Prop := Claim7.holds Tryz.pinned (.plain (OpenSpec.ofChange fnRlpSpec)) fnRlpCard

/-- THE TIED CARD OF 'laws.FnRlpDec'. -/
def fnRlpDecCard : Claim7 := { stood := { row := fnRlpDecRow, standIns := [], harness := (true, "cac651744e5dd3a930bb0642abc3aa6d5f4c06be5e80cd30a618205512dfb6d4"), looks := true }, kinds := [], alts := [], laidByText := true, laidKinds := [.data, .sentinel, .sentinel], laidTests := true, laidLooks := .later }
def FnRlpDecCardSaid : Prop := Claim7.holds Tryz.pinned (.plain (OpenSpec.ofChange fnRlpDecSpec)) fnRlpDecCard

/-- THE TIED CARD OF 'laws.FnRlpEnds'. -/
def fnRlpEndsCard : Claim7 := { stood := { row := fnRlpEndsRow, standIns := [], harness := (true, "cac651744e5dd3a930bb0642abc3aa6d5f4c06be5e80cd30a618205512dfb6d4"), looks := true }, kinds := [], alts := [], laidByText := true, laidKinds := [.data, .sentinel, .sentinel], laidTests := true, laidLooks := .later }
def FnRlpEndsCardSaid : Prop := Claim7.holds Tryz.pinned (.plain (OpenSpec.ofChange fnRlpEndsSpec)) fnRlpEndsCard

/-- THE SECOND FORM's CARD OF 'laws.FnRlp'. -/
def fnRlpUptoCard : Claim7 := { stood := { row := fnRlpUptoRow, standIns := [], harness := (true, "cac651744e5dd3a930bb0642abc3aa6d5f4c06be5e80cd30a618205512dfb6d4"), looks := true }, kinds := [], alts := [], laidByText := true, laidKinds := [.data, .sentinel, .sentinel], laidTests := true, laidLooks := .later }
def FnRlpUptoCardSaid : Prop := Claim7.holds Tryz.pinned (.plain (OpenSpec.upto fnRlpSpec)) fnRlpUptoCard

/-- THE SECOND FORM's CARD OF 'laws.FnRlpDec'. -/
def fnRlpDecUptoCard : Claim7 := { stood := { row := fnRlpDecUptoRow, standIns := [], harness := (true, "cac651744e5dd3a930bb0642abc3aa6d5f4c06be5e80cd30a618205512dfb6d4"), looks := true }, kinds := [], alts := [], laidByText := true, laidKinds := [.data, .sentinel, .sentinel], laidTests := true, laidLooks := .later }
def FnRlpDecUptoCardSaid : Prop := Claim7.holds Tryz.pinned (.plain (OpenSpec.upto fnRlpDecSpec)) fnRlpDecUptoCard

/-- THE SECOND FORM's CARD OF 'laws.FnRlpEnds'. -/
def fnRlpEndsUptoCard : Claim7 := { stood := { row := fnRlpEndsUptoRow, standIns := [], harness := (true, "cac651744e5dd3a930bb0642abc3aa6d5f4c06be5e80cd30a618205512dfb6d4"), looks := true }, kinds := [], alts := [], laidByText := true, laidKinds := [.data, .sentinel, .sentinel], laidTests := true, laidLooks := .later }
def FnRlpEndsUptoCardSaid : Prop := Claim7.holds Tryz.pinned (.plain (OpenSpec.upto fnRlpEndsSpec)) fnRlpEndsUptoCard
end Rows
end Go.Proofs.YtdncnjmlicdamaaGreatDoor
