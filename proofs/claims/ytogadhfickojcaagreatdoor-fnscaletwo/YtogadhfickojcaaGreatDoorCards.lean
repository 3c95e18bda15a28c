/-
  DERIVED. GIVEN WITH THE SEED: THE CARDS: each row of YtogadhfickojcaaGreatDoorRows.lean that lists a variable, with what it lists TIED to the program's text (the seventh form; the later family's looks); each row that meets fmt, with fmt's text TOLD by the authors' own Lean function (tested against real Go, not proved from fmt's source: count such statements apart). THE CARD IS WHAT COUNTS. Prove the row's statement (the work); the ties are given (YtogadhfickojcaaGreatDoorTie.lean); close each card by the builder's one call (the guide's Derived/Test/ToyasCard.lean, 'card_holds'). Laid BY PROGRAM, IN A SANDBOX (cutbox-door.mjs). By AI agents, Wed Nov 11 2026. No macro, syntax, notation, axiom, sorry.
-/
import Derived.Test.YtogadhfickojcaaGreatDoorRows
import GoSem.ClaimSeven
namespace Go.Proofs.YtogadhfickojcaaGreatDoor
namespace Rows

/-- THE TIED CARD OF 'laws.FnScale'. -/
def fnScaleCard : Claim7 := { stood := { row := fnScaleRow, standIns := [], harness := (true, "0455025c685694bbef35b65fa30a95f0be896a568a63d0fd4ebb88acf47ed665"), looks := true }, kinds := [], alts := [], laidByText := true, laidKinds := [.data, .sentinel, .sentinel], laidTests := true, laidLooks := .later }
def FnScaleCardSaid : Prop := Claim7.holds Tryz.pinned (.plain (OpenSpec.ofChange fnScaleSpec)) fnScaleCard

/-- THE TIED CARD OF 'laws.FnScaleDec'. -/
def fnScaleDecCard : Claim7 := { stood := { row := fnScaleDecRow, standIns := [], harness := (true, "0455025c685694bbef35b65fa30a95f0be896a568a63d0fd4ebb88acf47ed665"), looks := true }, kinds := [], alts := [], laidByText := true, laidKinds := [.data, .sentinel, .sentinel], laidTests := true, laidLooks := .later }
def FnScaleDecCardSaid : Prop := Claim7.holds Tryz.pinned (.plain (OpenSpec.ofChange fnScaleDecSpec)) fnScaleDecCard

/-- THE TIED CARD OF 'laws.FnScaleEnds'. -/
def fnScaleEndsCard : Claim7 := { stood := { row := fnScaleEndsRow, standIns := [], harness := (true, "0455025c685694bbef35b65fa30a95f0be896a568a63d0fd4ebb88acf47ed665"), looks := true }, kinds := [], alts := [], laidByText := true, laidKinds := [.data, .sentinel, .sentinel], laidTests := true, laidLooks := .later }
def FnScaleEndsCardSaid : Prop := Claim7.holds Tryz.pinned (.plain (OpenSpec.ofChange fnScaleEndsSpec)) fnScaleEndsCard

/-- THE TIED CARD OF 'laws.FnScaleTwo'. -/
def fnScaleTwoCard : Claim7 := { stood := { row := fnScaleTwoRow, standIns := [], harness := (true, "0455025c685694bbef35b65fa30a95f0be896a568a63d0fd4ebb88acf47ed665"), looks := true }, kinds := [], alts := [], laidByText := true, laidKinds := [.data, .sentinel], laidTests := true, laidLooks := .later }
def FnScaleTwoCardSaid : Prop := Claim7.holds Tryz.pinned (.plain (OpenSpec.ofChange fnScaleTwoSpec)) fnScaleTwoCard

/-- THE TIED CARD OF 'laws.FnBitcoin'. -/
def fnBitcoinCard : Claim7 := { stood := { row := fnBitcoinRow, standIns := [], harness := (true, "0455025c685694bbef35b65fa30a95f0be896a568a63d0fd4ebb88acf47ed665"), looks := true }, kinds := [], alts := [], laidByText := true, laidKinds := [.data, .sentinel, .sentinel], laidTests := true, laidLooks := .later }
def FnBitcoinCardSaid : Prop := Claim7.holds Tryz.pinned (.plain (OpenSpec.ofChange fnBitcoinSpec)) fnBitcoinCard

/-- THE TIED CARD OF 'laws.FnBitcoinDec'. -/
def fnBitcoinDecCard : Claim7 := { stood := { row := fnBitcoinDecRow, standIns := [], harness := (true, "0455025c685694bbef35b65fa30a95f0be896a568a63d0fd4ebb88acf47ed665"), looks := true }, kinds := [], alts := [], laidByText := true, laidKinds := [.data, .sentinel, .sentinel], laidTests := true, laidLooks := .later }
def FnBitcoinDecCardSaid : Prop := Claim7.holds Tryz.pinned (.plain (OpenSpec.ofChange fnBitcoinDecSpec)) fnBitcoinDecCard

/-- THE TIED CARD OF 'laws.FnBitcoinEnds'. -/
def fnBitcoinEndsCard : Claim7 := { stood := { row := fnBitcoinEndsRow, standIns := [], harness := (true, "0455025c685694bbef35b65fa30a95f0be896a568a63d0fd4ebb88acf47ed665"), looks := true }, kinds := [], alts := [], laidByText := true, laidKinds := [.data, .sentinel, .sentinel], laidTests := true, laidLooks := .later }
def FnBitcoinEndsCardSaid : Prop := Claim7.holds Tryz.pinned (.plain (OpenSpec.ofChange fnBitcoinEndsSpec)) fnBitcoinEndsCard

/-- THE TIED CARD OF 'laws.FnBitcoinScale'. -/
def fnBitcoinScaleCard : Claim7 := { stood := { row := fnBitcoinScaleRow, standIns := [], harness := (true, "0455025c685694bbef35b65fa30a95f0be896a568a63d0fd4ebb88acf47ed665"), looks := true }, kinds := [], alts := [], laidByText := true, laidKinds := [.data, .sentinel], laidTests := true, laidLooks := .later }
def FnBitcoinScaleCardSaid : Prop := Claim7.holds Tryz.pinned (.plain (OpenSpec.ofChange fnBitcoinScaleSpec)) fnBitcoinScaleCard

/-- THE SECOND FORM's CARD OF 'laws.FnScale'. -/
def fnScaleUptoCard : Claim7 := { stood := { row := fnScaleUptoRow, standIns := [], harness := (true, "0455025c685694bbef35b65fa30a95f0be896a568a63d0fd4ebb88acf47ed665"), looks := true }, kinds := [], alts := [], laidByText := true, laidKinds := [.data, .sentinel, .sentinel], laidTests := true, laidLooks := .later }
def FnScaleUptoCardSaid : Prop := Claim7.holds Tryz.pinned (.plain (OpenSpec.upto fnScaleSpec)) fnScaleUptoCard

/-- THE SECOND FORM's CARD OF 'laws.FnScaleDec'. -/
def fnScaleDecUptoCard : Claim7 := { stood := { row := fnScaleDecUptoRow, standIns := [], harness := (true, "0455025c685694bbef35b65fa30a95f0be896a568a63d0fd4ebb88acf47ed665"), looks := true }, kinds := [], alts := [], laidByText := true, laidKinds := [.data, .sentinel, .sentinel], laidTests := true, laidLooks := .later }
def FnScaleDecUptoCardSaid : Prop := Claim7.holds Tryz.pinned (.plain (OpenSpec.upto fnScaleDecSpec)) fnScaleDecUptoCard

/-- THE SECOND FORM's CARD OF 'laws.FnScaleEnds'. -/
def fnScaleEndsUptoCard : Claim7 := { stood := { row := fnScaleEndsUptoRow, standIns := [], harness := (true, "0455025c685694bbef35b65fa30a95f0be896a568a63d0fd4ebb88acf47ed665"), looks := true }, kinds := [], alts := [], laidByText := true, laidKinds := [.data, .sentinel, .sentinel], laidTests := true, laidLooks := .later }
def FnScaleEndsUptoCardSaid : Prop := Claim7.holds Tryz.pinned (.plain (OpenSpec.upto fnScaleEndsSpec)) fnScaleEndsUptoCard

/-- THE SECOND FORM's CARD OF 'laws.FnScaleTwo'. -/
def fnScaleTwoUptoCard : Claim7 := { stood := { row := fnScaleTwoUptoRow, standIns := [], harness := (true, "0455025c685694bbef35b65fa30a95f0be896a568a63d0fd4ebb88acf47ed665"), looks := true }, kinds := [], alts := [], laidByText := true, laidKinds := [.data, .sentinel], laidTests := true, laidLooks := .later }
def FnScaleTwoUptoCardSaid : Prop := Claim7.holds Tryz.pinned (.plain (OpenSpec.upto fnScaleTwoSpec)) fnScaleTwoUptoCard

/-- THE SECOND FORM's CARD OF 'laws.FnBitcoin'. -/
def fnBitcoinUptoCard : Claim7 := { stood := { row := fnBitcoinUptoRow, standIns := [], harness := (true, "0455025c685694bbef35b65fa30a95f0be896a568a63d0fd4ebb88acf47ed665"), looks := true }, kinds := [], alts := [], laidByText := true, laidKinds := [.data, .sentinel, .sentinel], laidTests := true, laidLooks := .later }
def FnBitcoinUptoCardSaid : Prop := Claim7.holds Tryz.pinned (.plain (OpenSpec.upto fnBitcoinSpec)) fnBitcoinUptoCard

/-- THE SECOND FORM's CARD OF 'laws.FnBitcoinDec'. -/
def fnBitcoinDecUptoCard : Claim7 := { stood := { row := fnBitcoinDecUptoRow, standIns := [], harness := (true, "0455025c685694bbef35b65fa30a95f0be896a568a63d0fd4ebb88acf47ed665"), looks := true }, kinds := [], alts := [], laidByText := true, laidKinds := [.data, .sentinel, .sentinel], laidTests := true, laidLooks := .later }
def FnBitcoinDecUptoCardSaid : Prop := Claim7.holds Tryz.pinned (.plain (OpenSpec.upto fnBitcoinDecSpec)) fnBitcoinDecUptoCard

/-- THE SECOND FORM's CARD OF 'laws.FnBitcoinEnds'. -/
def fnBitcoinEndsUptoCard : Claim7 := { stood := { row := fnBitcoinEndsUptoRow, standIns := [], harness := (true, "0455025c685694bbef35b65fa30a95f0be896a568a63d0fd4ebb88acf47ed665"), looks := true }, kinds := [], alts := [], laidByText := true, laidKinds := [.data, .sentinel, .sentinel], laidTests := true, laidLooks := .later }
def FnBitcoinEndsUptoCardSaid : Prop := Claim7.holds Tryz.pinned (.plain (OpenSpec.upto fnBitcoinEndsSpec)) fnBitcoinEndsUptoCard

/-- THE SECOND FORM's CARD OF 'laws.FnBitcoinScale'. -/
def fnBitcoinScaleUptoCard : Claim7 := { stood := { row := fnBitcoinScaleUptoRow, standIns := [], harness := (true, "0455025c685694bbef35b65fa30a95f0be896a568a63d0fd4ebb88acf47ed665"), looks := true }, kinds := [], alts := [], laidByText := true, laidKinds := [.data, .sentinel], laidTests := true, laidLooks := .later }
def FnBitcoinScaleUptoCardSaid : Prop := Claim7.holds Tryz.pinned (.plain (OpenSpec.upto fnBitcoinScaleSpec)) fnBitcoinScaleUptoCard
end Rows
end Go.Proofs.YtogadhfickojcaaGreatDoor
