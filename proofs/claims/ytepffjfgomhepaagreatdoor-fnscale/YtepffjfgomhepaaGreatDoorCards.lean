/-
  DERIVED. GIVEN WITH THE SEED: THE CARDS: each row of YtepffjfgomhepaaGreatDoorRows.lean that lists a variable, with what it lists TIED to the program's text (the seventh form; the later family's looks); each row that meets fmt, with fmt's text TOLD by the authors' own Lean function (tested against real Go, not proved from fmt's source: count such statements apart). THE CARD IS WHAT COUNTS. Prove the row's statement (the work); the ties are given (YtepffjfgomhepaaGreatDoorTie.lean); close each card by the builder's one call (the guide's Derived/Test/ToyasCard.lean, 'card_holds'). Laid BY PROGRAM, IN A SANDBOX (cutbox-door.mjs). By AI agents, Wed Nov 11 2026. No macro, syntax, notation, axiom, sorry.
-/
import Derived.Test.YtepffjfgomhepaaGreatDoorRows
import GoSem.ClaimSeven
namespace Go.Proofs.YtepffjfgomhepaaGreatDoor
namespace Rows

/-- THE TIED CARD OF 'laws.FnScale'. -/
def fnScaleCard : Claim7 := { stood := { row := fnScaleRow, standIns := [], harness := (true, "5ed52eca91e524a7fe9e93413aa0f03d038013390324a8cf6c897d99793d111b"), looks := true }, kinds := [], alts := [], laidByText := true, laidKinds := [.data, .sentinel, .sentinel], laidTests := true, laidLooks := .later }
def FnScaleCardSaid : Prop := Claim7.holds Tryz.pinned (.plain (OpenSpec.ofChange fnScaleSpec)) fnScaleCard

/-- THE TIED CARD OF 'laws.FnScaleDec'. -/
def fnScaleDecCard : Claim7 := { stood := { row := fnScaleDecRow, standIns := [], harness := (true, "5ed52eca91e524a7fe9e93413aa0f03d038013390324a8cf6c897d99793d111b"), looks := true }, kinds := [], alts := [], laidByText := true, laidKinds := [.data, .sentinel, .sentinel], laidTests := true, laidLooks := .later }
def FnScaleDecCardSaid : Prop := Claim7.holds Tryz.pinned (.plain (OpenSpec.ofChange fnScaleDecSpec)) fnScaleDecCard

/-- THE TIED CARD OF 'laws.FnScaleEnds'. -/
def fnScaleEndsCard : Claim7 := { stood := { row := fnScaleEndsRow, standIns := [], harness := (true, "5ed52eca91e524a7fe9e93413aa0f03d038013390324a8cf6c897d99793d111b"), looks := true }, kinds := [], alts := [], laidByText := true, laidKinds := [.data, .sentinel, .sentinel], laidTests := true, laidLooks := .later }
def FnScaleEndsCardSaid : Prop := Claim7.holds Tryz.pinned (.plain (OpenSpec.ofChange fnScaleEndsSpec)) fnScaleEndsCard

/-- THE SECOND FORM's CARD OF 'laws.FnScale'. -/
def fnScaleUptoCard : Claim7 := { stood := { row := fnScaleUptoRow, standIns := [], harness := (true, "5ed52eca91e524a7fe9e93413aa0f03d038013390324a8cf6c897d99793d111b"), looks := true }, kinds := [], alts := [], laidByText := true, laidKinds := [.data, .sentinel, .sentinel], laidTests := true, laidLooks := .later }
def FnScaleUptoCardSaid : Prop := Claim7.holds Tryz.pinned (.plain (OpenSpec.upto fnScaleSpec)) fnScaleUptoCard

/-- THE SECOND FORM's CARD OF 'laws.FnScaleDec'. -/
def fnScaleDecUptoCard : Claim7 := { stood := { row := fnScaleDecUptoRow, standIns := [], harness := (true, "5ed52eca91e524a7fe9e93413aa0f03d038013390324a8cf6c897d99793d111b"), looks := true }, kinds := [], alts := [], laidByText := true, laidKinds := [.data, .sentinel, .sentinel], laidTests := true, laidLooks := .later }
def FnScaleDecUptoCardSaid : Prop := Claim7.holds Tryz.pinned (.plain (OpenSpec.upto fnScaleDecSpec)) fnScaleDecUptoCard

/-- THE SECOND FORM's CARD OF 'laws.FnScaleEnds'. -/
def fnScaleEndsUptoCard : Claim7 := { stood := { row := fnScaleEndsUptoRow, standIns := [], harness := (true, "5ed52eca91e524a7fe9e93413aa0f03d038013390324a8cf6c897d99793d111b"), looks := true }, kinds := [], alts := [], laidByText := true, laidKinds := [.data, .sentinel, .sentinel], laidTests := true, laidLooks := .later }
def FnScaleEndsUptoCardSaid : Prop := Claim7.holds Tryz.pinned (.plain (OpenSpec.upto fnScaleEndsSpec)) fnScaleEndsUptoCard
end Rows
end Go.Proofs.YtepffjfgomhepaaGreatDoor
