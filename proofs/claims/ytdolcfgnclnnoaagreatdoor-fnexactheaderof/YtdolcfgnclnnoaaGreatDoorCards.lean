/-
  DERIVED. GIVEN WITH THE SEED: THE CARDS: each row of YtdolcfgnclnnoaaGreatDoorRows.lean that lists a variable, with what it lists TIED to the program's text (the seventh form; the later family's looks); each row that meets fmt, with fmt's text TOLD by the authors' own Lean function (tested against real Go, not proved from fmt's source: count such statements apart). THE CARD IS WHAT COUNTS. Prove the row's statement (the work); the ties are given (YtdolcfgnclnnoaaGreatDoorTie.lean); close each card by the builder's one call (the guide's Derived/Test/ToyasCard.lean, 'card_holds'). Laid BY PROGRAM, IN A SANDBOX (cutbox-door.mjs). By AI agents, Wed Nov 11 2026. No macro, syntax, notation, axiom, sorry.
-/
import Derived.Test.YtdolcfgnclnnoaaGreatDoorRows
import GoSem.ClaimSeven
namespace Go.Proofs.YtdolcfgnclnnoaaGreatDoor
namespace Rows

/-- THE TIED CARD OF 'laws.FnExactHeaderValue'. -/
def fnExactHeaderValueCard : Claim7 := { stood := { row := fnExactHeaderValueRow, standIns := [], harness := (true, "70ea15bc88d681948b018c2450a08617a21dc196017b8844871682d447f448d2"), looks := true }, kinds := [], alts := [], laidByText := true, laidKinds := [.data, .data, .data, .data, .sentinel, .sentinel, .data, .pinned], laidTests := true, laidLooks := .later }
def FnExactHeaderValueCardSaid : Prop := Claim7.holds Tryz.pinned (.plain (OpenSpec.ofChange fnExactHeaderValueSpec)) fnExactHeaderValueCard

/-- THE TIED CARD OF 'laws.FnExactHeaderOf'. -/
def fnExactHeaderOfCard : Claim7 := { stood := { row := fnExactHeaderOfRow, standIns := [], harness := (true, "70ea15bc88d681948b018c2450a08617a21dc196017b8844871682d447f448d2"), looks := true }, kinds := [], alts := [], laidByText := true, laidKinds := [.data, .data, .data, .data, .sentinel, .sentinel, .data, .pinned], laidTests := true, laidLooks := .later }
def FnExactHeaderOfCardSaid : Prop := Claim7.holds Tryz.pinned (.plain (OpenSpec.ofChange fnExactHeaderOfSpec)) fnExactHeaderOfCard

/-- THE TIED CARD OF 'laws.FnExactCommitValue'. -/
def fnExactCommitValueCard : Claim7 := { stood := { row := fnExactCommitValueRow, standIns := [], harness := (true, "70ea15bc88d681948b018c2450a08617a21dc196017b8844871682d447f448d2"), looks := true }, kinds := [], alts := [], laidByText := true, laidKinds := [.data, .data, .data, .data, .sentinel, .sentinel, .data, .pinned], laidTests := true, laidLooks := .later }
def FnExactCommitValueCardSaid : Prop := Claim7.holds Tryz.pinned (.plain (OpenSpec.ofChange fnExactCommitValueSpec)) fnExactCommitValueCard

/-- THE TIED CARD OF 'laws.FnExactCommitOf'. -/
def fnExactCommitOfCard : Claim7 := { stood := { row := fnExactCommitOfRow, standIns := [], harness := (true, "70ea15bc88d681948b018c2450a08617a21dc196017b8844871682d447f448d2"), looks := true }, kinds := [], alts := [], laidByText := true, laidKinds := [.data, .data, .data, .data, .sentinel, .sentinel, .data, .pinned], laidTests := true, laidLooks := .later }
def FnExactCommitOfCardSaid : Prop := Claim7.holds Tryz.pinned (.plain (OpenSpec.ofChange fnExactCommitOfSpec)) fnExactCommitOfCard

/-- THE TIED CARD OF 'laws.FnExactValidatorsValue'. -/
def fnExactValidatorsValueCard : Claim7 := { stood := { row := fnExactValidatorsValueRow, standIns := [], harness := (true, "70ea15bc88d681948b018c2450a08617a21dc196017b8844871682d447f448d2"), looks := true }, kinds := [], alts := [], laidByText := true, laidKinds := [.data, .data, .data, .data, .sentinel, .sentinel, .data, .pinned], laidTests := true, laidLooks := .later }
def FnExactValidatorsValueCardSaid : Prop := Claim7.holds Tryz.pinned (.plain (OpenSpec.ofChange fnExactValidatorsValueSpec)) fnExactValidatorsValueCard

/-- THE TIED CARD OF 'laws.FnExactValidatorsOf'. -/
def fnExactValidatorsOfCard : Claim7 := { stood := { row := fnExactValidatorsOfRow, standIns := [], harness := (true, "70ea15bc88d681948b018c2450a08617a21dc196017b8844871682d447f448d2"), looks := true }, kinds := [], alts := [], laidByText := true, laidKinds := [.data, .data, .data, .data, .sentinel, .sentinel, .data, .pinned], laidTests := true, laidLooks := .later }
def FnExactValidatorsOfCardSaid : Prop := Claim7.holds Tryz.pinned (.plain (OpenSpec.ofChange fnExactValidatorsOfSpec)) fnExactValidatorsOfCard

/-- THE TIED CARD OF 'laws.FnExactProofValue'. -/
def fnExactProofValueCard : Claim7 := { stood := { row := fnExactProofValueRow, standIns := [], harness := (true, "70ea15bc88d681948b018c2450a08617a21dc196017b8844871682d447f448d2"), looks := true }, kinds := [], alts := [], laidByText := true, laidKinds := [.data, .data, .data, .data, .sentinel, .sentinel, .data, .pinned], laidTests := true, laidLooks := .later }
def FnExactProofValueCardSaid : Prop := Claim7.holds Tryz.pinned (.plain (OpenSpec.ofChange fnExactProofValueSpec)) fnExactProofValueCard

/-- THE TIED CARD OF 'laws.FnExactProofOf'. -/
def fnExactProofOfCard : Claim7 := { stood := { row := fnExactProofOfRow, standIns := [], harness := (true, "70ea15bc88d681948b018c2450a08617a21dc196017b8844871682d447f448d2"), looks := true }, kinds := [], alts := [], laidByText := true, laidKinds := [.data, .data, .data, .data, .sentinel, .sentinel, .data, .pinned], laidTests := true, laidLooks := .later }
def FnExactProofOfCardSaid : Prop := Claim7.holds Tryz.pinned (.plain (OpenSpec.ofChange fnExactProofOfSpec)) fnExactProofOfCard

/-- THE SECOND FORM's CARD OF 'laws.FnExactHeaderValue'. -/
def fnExactHeaderValueUptoCard : Claim7 := { stood := { row := fnExactHeaderValueUptoRow, standIns := [], harness := (true, "70ea15bc88d681948b018c2450a08617a21dc196017b8844871682d447f448d2"), looks := true }, kinds := [], alts := [], laidByText := true, laidKinds := [.data, .data, .data, .data, .sentinel, .sentinel, .data, .pinned], laidTests := true, laidLooks := .later }
def FnExactHeaderValueUptoCardSaid : Prop := Claim7.holds Tryz.pinned (.plain (OpenSpec.upto fnExactHeaderValueSpec)) fnExactHeaderValueUptoCard

/-- THE SECOND FORM's CARD OF 'laws.FnExactHeaderOf'. -/
def fnExactHeaderOfUptoCard : Claim7 := { stood := { row := fnExactHeaderOfUptoRow, standIns := [], harness := (true, "70ea15bc88d681948b018c2450a08617a21dc196017b8844871682d447f448d2"), looks := true }, kinds := [], alts := [], laidByText := true, laidKinds := [.data, .data, .data, .data, .sentinel, .sentinel, .data, .pinned], laidTests := true, laidLooks := .later }
def FnExactHeaderOfUptoCardSaid : Prop := Claim7.holds Tryz.pinned (.plain (OpenSpec.upto fnExactHeaderOfSpec)) fnExactHeaderOfUptoCard

/-- THE SECOND FORM's CARD OF 'laws.FnExactCommitValue'. -/
def fnExactCommitValueUptoCard : Claim7 := { stood := { row := fnExactCommitValueUptoRow, standIns := [], harness := (true, "70ea15bc88d681948b018c2450a08617a21dc196017b8844871682d447f448d2"), looks := true }, kinds := [], alts := [], laidByText := true, laidKinds := [.data, .data, .data, .data, .sentinel, .sentinel, .data, .pinned], laidTests := true, laidLooks := .later }
def FnExactCommitValueUptoCardSaid : Prop := Claim7.holds Tryz.pinned (.plain (OpenSpec.upto fnExactCommitValueSpec)) fnExactCommitValueUptoCard

/-- THE SECOND FORM's CARD OF 'laws.FnExactCommitOf'. -/
def fnExactCommitOfUptoCard : Claim7 := { stood := { row := fnExactCommitOfUptoRow, standIns := [], harness := (true, "70ea15bc88d681948b018c2450a08617a21dc196017b8844871682d447f448d2"), looks := true }, kinds := [], alts := [], laidByText := true, laidKinds := [.data, .data, .data, .data, .sentinel, .sentinel, .data, .pinned], laidTests := true, laidLooks := .later }
def FnExactCommitOfUptoCardSaid : Prop := Claim7.holds Tryz.pinned (.plain (OpenSpec.upto fnExactCommitOfSpec)) fnExactCommitOfUptoCard

/-- THE SECOND FORM's CARD OF 'laws.FnExactValidatorsValue'. -/
def fnExactValidatorsValueUptoCard : Claim7 := { stood := { row := fnExactValidatorsValueUptoRow, standIns := [], harness := (true, "70ea15bc88d681948b018c2450a08617a21dc196017b8844871682d447f448d2"), looks := true }, kinds := [], alts := [], laidByText := true, laidKinds := [.data, .data, .data, .data, .sentinel, .sentinel, .data, .pinned], laidTests := true, laidLooks := .later }
def FnExactValidatorsValueUptoCardSaid : Prop := Claim7.holds Tryz.pinned (.plain (OpenSpec.upto fnExactValidatorsValueSpec)) fnExactValidatorsValueUptoCard

/-- THE SECOND FORM's CARD OF 'laws.FnExactValidatorsOf'. -/
def fnExactValidatorsOfUptoCard : Claim7 := { stood := { row := fnExactValidatorsOfUptoRow, standIns := [], harness := (true, "70ea15bc88d681948b018c2450a08617a21dc196017b8844871682d447f448d2"), looks := true }, kinds := [], alts := [], laidByText := true, laidKinds := [.data, .data, .data, .data, .sentinel, .sentinel, .data, .pinned], laidTests := true, laidLooks := .later }
def FnExactValidatorsOfUptoCardSaid : Prop := Claim7.holds Tryz.pinned (.plain (OpenSpec.upto fnExactValidatorsOfSpec)) fnExactValidatorsOfUptoCard

/-- THE SECOND FORM's CARD OF 'laws.FnExactProofValue'. -/
def fnExactProofValueUptoCard : Claim7 := { stood := { row := fnExactProofValueUptoRow, standIns := [], harness := (true, "70ea15bc88d681948b018c2450a08617a21dc196017b8844871682d447f448d2"), looks := true }, kinds := [], alts := [], laidByText := true, laidKinds := [.data, .data, .data, .data, .sentinel, .sentinel, .data, .pinned], laidTests := true, laidLooks := .later }
def FnExactProofValueUptoCardSaid : Prop := Claim7.holds Tryz.pinned (.plain (OpenSpec.upto fnExactProofValueSpec)) fnExactProofValueUptoCard

/-- THE SECOND FORM's CARD OF 'laws.FnExactProofOf'. -/
def fnExactProofOfUptoCard : Claim7 := { stood := { row := fnExactProofOfUptoRow, standIns := [], harness := (true, "70ea15bc88d681948b018c2450a08617a21dc196017b8844871682d447f448d2"), looks := true }, kinds := [], alts := [], laidByText := true, laidKinds := [.data, .data, .data, .data, .sentinel, .sentinel, .data, .pinned], laidTests := true, laidLooks := .later }
def FnExactProofOfUptoCardSaid : Prop := Claim7.holds Tryz.pinned (.plain (OpenSpec.upto fnExactProofOfSpec)) fnExactProofOfUptoCard
end Rows
end Go.Proofs.YtdolcfgnclnnoaaGreatDoor
