/-
  DERIVED. GIVEN WITH THE SEED: THE CARDS: each row of YtogadhfickojcaaDoorRows.lean that lists a variable, with what it lists TIED to the program's text (the seventh form; the later family's looks); each row that meets fmt, with fmt's text TOLD by the authors' own Lean function (tested against real Go, not proved from fmt's source: count such statements apart). THE CARD IS WHAT COUNTS. Prove the row's statement (the work); the ties are given (YtogadhfickojcaaDoorTie.lean); close each card by the builder's one call (the guide's Derived/Test/ToyasCard.lean, 'card_holds'). Laid BY PROGRAM, IN A SANDBOX (cutbox-door.mjs). By AI agents, Wed Nov 11 2026. No macro, syntax, notation, axiom, sorry.
-/
import Derived.Test.YtogadhfickojcaaDoorRows
import GoSem.ClaimSeven
namespace Go.Proofs.YtogadhfickojcaaDoor
namespace Rows

/-- THE TIED CARD OF 'laws.FnRlpTwo'. -/
def fnRlpTwoCard : Claim7 := { stood := { row := fnRlpTwoRow, standIns := [], harness := (true, "9f3e219a88ea783185e1d8d7fcf10e1dc1d53c8e41e029ff671fc00f3f20495d"), looks := true }, kinds := [], alts := [], laidByText := true, laidKinds := [.data, .sentinel], laidTests := true, laidLooks := .later }
def FnRlpTwoCardSaid : Prop := Claim7.holds Tryd.pinned (.plain (OpenSpec.ofChange fnRlpTwoSpec)) fnRlpTwoCard

/-- THE TIED CARD OF 'laws.FnSszTwo'. -/
def fnSszTwoCard : Claim7 := { stood := { row := fnSszTwoRow, standIns := [], harness := (true, "9f3e219a88ea783185e1d8d7fcf10e1dc1d53c8e41e029ff671fc00f3f20495d"), looks := true }, kinds := [], alts := [], laidByText := true, laidKinds := [.data, .sentinel], laidTests := true, laidLooks := .later }
def FnSszTwoCardSaid : Prop := Claim7.holds Tryd.pinned (.plain (OpenSpec.ofChange fnSszTwoSpec)) fnSszTwoCard

/-- THE TIED CARD OF 'laws.FnSszSome'. -/
def fnSszSomeCard : Claim7 := { stood := { row := fnSszSomeRow, standIns := [], harness := (true, "9f3e219a88ea783185e1d8d7fcf10e1dc1d53c8e41e029ff671fc00f3f20495d"), looks := true }, kinds := [], alts := [], laidByText := true, laidKinds := [.data, .sentinel], laidTests := true, laidLooks := .later }
def FnSszSomeCardSaid : Prop := Claim7.holds Tryd.pinned (.plain (OpenSpec.ofChange fnSszSomeSpec)) fnSszSomeCard

/-- THE TIED CARD OF 'laws.FnProtoAdded'. -/
def fnProtoAddedCard : Claim7 := { stood := { row := fnProtoAddedRow, standIns := [], harness := (true, "9f3e219a88ea783185e1d8d7fcf10e1dc1d53c8e41e029ff671fc00f3f20495d"), looks := true }, kinds := [], alts := [], laidByText := true, laidKinds := [.data, .sentinel], laidTests := true, laidLooks := .later }
def FnProtoAddedCardSaid : Prop := Claim7.holds Tryd.pinned (.plain (OpenSpec.ofChange fnProtoAddedSpec)) fnProtoAddedCard

/-- THE TIED CARD OF 'laws.FnProtoInner'. -/
def fnProtoInnerCard : Claim7 := { stood := { row := fnProtoInnerRow, standIns := [], harness := (true, "9f3e219a88ea783185e1d8d7fcf10e1dc1d53c8e41e029ff671fc00f3f20495d"), looks := true }, kinds := [], alts := [], laidByText := true, laidKinds := [.data, .sentinel], laidTests := true, laidLooks := .later }
def FnProtoInnerCardSaid : Prop := Claim7.holds Tryd.pinned (.plain (OpenSpec.ofChange fnProtoInnerSpec)) fnProtoInnerCard

/-- THE TIED CARD OF 'laws.FnProtoParts'. -/
def fnProtoPartsCard : Claim7 := { stood := { row := fnProtoPartsRow, standIns := [], harness := (true, "9f3e219a88ea783185e1d8d7fcf10e1dc1d53c8e41e029ff671fc00f3f20495d"), looks := true }, kinds := [], alts := [], laidByText := true, laidKinds := [.data, .sentinel], laidTests := true, laidLooks := .later }
def FnProtoPartsCardSaid : Prop := Claim7.holds Tryd.pinned (.plain (OpenSpec.ofChange fnProtoPartsSpec)) fnProtoPartsCard

/-- THE TIED CARD OF 'laws.FnExactTyped'. -/
def fnExactTypedCard : Claim7 := { stood := { row := fnExactTypedRow, standIns := [], harness := (true, "9f3e219a88ea783185e1d8d7fcf10e1dc1d53c8e41e029ff671fc00f3f20495d"), looks := true }, kinds := [], alts := [], laidByText := true, laidKinds := [.data], laidTests := true, laidLooks := .later }
def FnExactTypedCardSaid : Prop := Claim7.holds Tryd.pinned (.plain (OpenSpec.ofChange fnExactTypedSpec)) fnExactTypedCard

/-- THE TIED CARD OF 'laws.FnExactZeroOf'. -/
def fnExactZeroOfCard : Claim7 := { stood := { row := fnExactZeroOfRow, standIns := [], harness := (true, "9f3e219a88ea783185e1d8d7fcf10e1dc1d53c8e41e029ff671fc00f3f20495d"), looks := true }, kinds := [], alts := [], laidByText := true, laidKinds := [.data], laidTests := true, laidLooks := .later }
def FnExactZeroOfCardSaid : Prop := Claim7.holds Tryd.pinned (.plain (OpenSpec.ofChange fnExactZeroOfSpec)) fnExactZeroOfCard

/-- THE TIED CARD OF 'laws.FnExactRlpEnc'. -/
def fnExactRlpEncCard : Claim7 := { stood := { row := fnExactRlpEncRow, standIns := [], harness := (true, "9f3e219a88ea783185e1d8d7fcf10e1dc1d53c8e41e029ff671fc00f3f20495d"), looks := true }, kinds := [], alts := [], laidByText := true, laidKinds := [.data, .sentinel], laidTests := true, laidLooks := .later }
def FnExactRlpEncCardSaid : Prop := Claim7.holds Tryd.pinned (.plain (OpenSpec.ofChange fnExactRlpEncSpec)) fnExactRlpEncCard

/-- THE TIED CARD OF 'laws.FnExactSszEnc'. -/
def fnExactSszEncCard : Claim7 := { stood := { row := fnExactSszEncRow, standIns := [], harness := (true, "9f3e219a88ea783185e1d8d7fcf10e1dc1d53c8e41e029ff671fc00f3f20495d"), looks := true }, kinds := [], alts := [], laidByText := true, laidKinds := [.data, .sentinel], laidTests := true, laidLooks := .later }
def FnExactSszEncCardSaid : Prop := Claim7.holds Tryd.pinned (.plain (OpenSpec.ofChange fnExactSszEncSpec)) fnExactSszEncCard

/-- THE TIED CARD OF 'laws.FnExactScaleEnc'. -/
def fnExactScaleEncCard : Claim7 := { stood := { row := fnExactScaleEncRow, standIns := [], harness := (true, "9f3e219a88ea783185e1d8d7fcf10e1dc1d53c8e41e029ff671fc00f3f20495d"), looks := true }, kinds := [], alts := [], laidByText := true, laidKinds := [.data, .sentinel], laidTests := true, laidLooks := .later }
def FnExactScaleEncCardSaid : Prop := Claim7.holds Tryd.pinned (.plain (OpenSpec.ofChange fnExactScaleEncSpec)) fnExactScaleEncCard

/-- THE TIED CARD OF 'laws.FnExactScaleDec'. -/
def fnExactScaleDecCard : Claim7 := { stood := { row := fnExactScaleDecRow, standIns := [], harness := (true, "9f3e219a88ea783185e1d8d7fcf10e1dc1d53c8e41e029ff671fc00f3f20495d"), looks := true }, kinds := [], alts := [], laidByText := true, laidKinds := [.data, .sentinel, .sentinel], laidTests := true, laidLooks := .later }
def FnExactScaleDecCardSaid : Prop := Claim7.holds Tryd.pinned (.plain (OpenSpec.ofChange fnExactScaleDecSpec)) fnExactScaleDecCard

/-- THE TIED CARD OF 'laws.FnExactProtoOk'. -/
def fnExactProtoOkCard : Claim7 := { stood := { row := fnExactProtoOkRow, standIns := [], harness := (true, "9f3e219a88ea783185e1d8d7fcf10e1dc1d53c8e41e029ff671fc00f3f20495d"), looks := true }, kinds := [], alts := [], laidByText := true, laidKinds := [.data, .sentinel], laidTests := true, laidLooks := .later }
def FnExactProtoOkCardSaid : Prop := Claim7.holds Tryd.pinned (.plain (OpenSpec.ofChange fnExactProtoOkSpec)) fnExactProtoOkCard

/-- THE TIED CARD OF 'laws.FnExactProtoEnc'. -/
def fnExactProtoEncCard : Claim7 := { stood := { row := fnExactProtoEncRow, standIns := [], harness := (true, "9f3e219a88ea783185e1d8d7fcf10e1dc1d53c8e41e029ff671fc00f3f20495d"), looks := true }, kinds := [], alts := [], laidByText := true, laidKinds := [.data, .sentinel], laidTests := true, laidLooks := .later }
def FnExactProtoEncCardSaid : Prop := Claim7.holds Tryd.pinned (.plain (OpenSpec.ofChange fnExactProtoEncSpec)) fnExactProtoEncCard

/-- THE TIED CARD OF 'laws.FnExactBitcoinOk'. -/
def fnExactBitcoinOkCard : Claim7 := { stood := { row := fnExactBitcoinOkRow, standIns := [], harness := (true, "9f3e219a88ea783185e1d8d7fcf10e1dc1d53c8e41e029ff671fc00f3f20495d"), looks := true }, kinds := [], alts := [], laidByText := true, laidKinds := [.data, .sentinel], laidTests := true, laidLooks := .later }
def FnExactBitcoinOkCardSaid : Prop := Claim7.holds Tryd.pinned (.plain (OpenSpec.ofChange fnExactBitcoinOkSpec)) fnExactBitcoinOkCard

/-- THE TIED CARD OF 'laws.FnExactBitcoinEnc'. -/
def fnExactBitcoinEncCard : Claim7 := { stood := { row := fnExactBitcoinEncRow, standIns := [], harness := (true, "9f3e219a88ea783185e1d8d7fcf10e1dc1d53c8e41e029ff671fc00f3f20495d"), looks := true }, kinds := [], alts := [], laidByText := true, laidKinds := [.data, .sentinel], laidTests := true, laidLooks := .later }
def FnExactBitcoinEncCardSaid : Prop := Claim7.holds Tryd.pinned (.plain (OpenSpec.ofChange fnExactBitcoinEncSpec)) fnExactBitcoinEncCard

/-- THE TIED CARD OF 'laws.FnExactBitcoinDec'. -/
def fnExactBitcoinDecCard : Claim7 := { stood := { row := fnExactBitcoinDecRow, standIns := [], harness := (true, "9f3e219a88ea783185e1d8d7fcf10e1dc1d53c8e41e029ff671fc00f3f20495d"), looks := true }, kinds := [], alts := [], laidByText := true, laidKinds := [.data, .sentinel, .sentinel], laidTests := true, laidLooks := .later }
def FnExactBitcoinDecCardSaid : Prop := Claim7.holds Tryd.pinned (.plain (OpenSpec.ofChange fnExactBitcoinDecSpec)) fnExactBitcoinDecCard

/-- THE SECOND FORM's CARD OF 'laws.FnRlpTwo'. -/
def fnRlpTwoUptoCard : Claim7 := { stood := { row := fnRlpTwoUptoRow, standIns := [], harness := (true, "9f3e219a88ea783185e1d8d7fcf10e1dc1d53c8e41e029ff671fc00f3f20495d"), looks := true }, kinds := [], alts := [], laidByText := true, laidKinds := [.data, .sentinel], laidTests := true, laidLooks := .later }
def FnRlpTwoUptoCardSaid : Prop := Claim7.holds Tryd.pinned (.plain (OpenSpec.upto fnRlpTwoSpec)) fnRlpTwoUptoCard

/-- THE SECOND FORM's CARD OF 'laws.FnSszTwo'. -/
def fnSszTwoUptoCard : Claim7 := { stood := { row := fnSszTwoUptoRow, standIns := [], harness := (true, "9f3e219a88ea783185e1d8d7fcf10e1dc1d53c8e41e029ff671fc00f3f20495d"), looks := true }, kinds := [], alts := [], laidByText := true, laidKinds := [.data, .sentinel], laidTests := true, laidLooks := .later }
def FnSszTwoUptoCardSaid : Prop := Claim7.holds Tryd.pinned (.plain (OpenSpec.upto fnSszTwoSpec)) fnSszTwoUptoCard

/-- THE SECOND FORM's CARD OF 'laws.FnSszSome'. -/
def fnSszSomeUptoCard : Claim7 := { stood := { row := fnSszSomeUptoRow, standIns := [], harness := (true, "9f3e219a88ea783185e1d8d7fcf10e1dc1d53c8e41e029ff671fc00f3f20495d"), looks := true }, kinds := [], alts := [], laidByText := true, laidKinds := [.data, .sentinel], laidTests := true, laidLooks := .later }
def FnSszSomeUptoCardSaid : Prop := Claim7.holds Tryd.pinned (.plain (OpenSpec.upto fnSszSomeSpec)) fnSszSomeUptoCard

/-- THE SECOND FORM's CARD OF 'laws.FnProtoAdded'. -/
def fnProtoAddedUptoCard : Claim7 := { stood := { row := fnProtoAddedUptoRow, standIns := [], harness := (true, "9f3e219a88ea783185e1d8d7fcf10e1dc1d53c8e41e029ff671fc00f3f20495d"), looks := true }, kinds := [], alts := [], laidByText := true, laidKinds := [.data, .sentinel], laidTests := true, laidLooks := .later }
def FnProtoAddedUptoCardSaid : Prop := Claim7.holds Tryd.pinned (.plain (OpenSpec.upto fnProtoAddedSpec)) fnProtoAddedUptoCard

/-- THE SECOND FORM's CARD OF 'laws.FnProtoInner'. -/
def fnProtoInnerUptoCard : Claim7 := { stood := { row := fnProtoInnerUptoRow, standIns := [], harness := (true, "9f3e219a88ea783185e1d8d7fcf10e1dc1d53c8e41e029ff671fc00f3f20495d"), looks := true }, kinds := [], alts := [], laidByText := true, laidKinds := [.data, .sentinel], laidTests := true, laidLooks := .later }
def FnProtoInnerUptoCardSaid : Prop := Claim7.holds Tryd.pinned (.plain (OpenSpec.upto fnProtoInnerSpec)) fnProtoInnerUptoCard

/-- THE SECOND FORM's CARD OF 'laws.FnProtoParts'. -/
def fnProtoPartsUptoCard : Claim7 := { stood := { row := fnProtoPartsUptoRow, standIns := [], harness := (true, "9f3e219a88ea783185e1d8d7fcf10e1dc1d53c8e41e029ff671fc00f3f20495d"), looks := true }, kinds := [], alts := [], laidByText := true, laidKinds := [.data, .sentinel], laidTests := true, laidLooks := .later }
def FnProtoPartsUptoCardSaid : Prop := Claim7.holds Tryd.pinned (.plain (OpenSpec.upto fnProtoPartsSpec)) fnProtoPartsUptoCard

/-- THE SECOND FORM's CARD OF 'laws.FnExactTyped'. -/
def fnExactTypedUptoCard : Claim7 := { stood := { row := fnExactTypedUptoRow, standIns := [], harness := (true, "9f3e219a88ea783185e1d8d7fcf10e1dc1d53c8e41e029ff671fc00f3f20495d"), looks := true }, kinds := [], alts := [], laidByText := true, laidKinds := [.data], laidTests := true, laidLooks := .later }
def FnExactTypedUptoCardSaid : Prop := Claim7.holds Tryd.pinned (.plain (OpenSpec.upto fnExactTypedSpec)) fnExactTypedUptoCard

/-- THE SECOND FORM's CARD OF 'laws.FnExactZeroOf'. -/
def fnExactZeroOfUptoCard : Claim7 := { stood := { row := fnExactZeroOfUptoRow, standIns := [], harness := (true, "9f3e219a88ea783185e1d8d7fcf10e1dc1d53c8e41e029ff671fc00f3f20495d"), looks := true }, kinds := [], alts := [], laidByText := true, laidKinds := [.data], laidTests := true, laidLooks := .later }
def FnExactZeroOfUptoCardSaid : Prop := Claim7.holds Tryd.pinned (.plain (OpenSpec.upto fnExactZeroOfSpec)) fnExactZeroOfUptoCard

/-- THE SECOND FORM's CARD OF 'laws.FnExactRlpEnc'. -/
def fnExactRlpEncUptoCard : Claim7 := { stood := { row := fnExactRlpEncUptoRow, standIns := [], harness := (true, "9f3e219a88ea783185e1d8d7fcf10e1dc1d53c8e41e029ff671fc00f3f20495d"), looks := true }, kinds := [], alts := [], laidByText := true, laidKinds := [.data, .sentinel], laidTests := true, laidLooks := .later }
def FnExactRlpEncUptoCardSaid : Prop := Claim7.holds Tryd.pinned (.plain (OpenSpec.upto fnExactRlpEncSpec)) fnExactRlpEncUptoCard

/-- THE SECOND FORM's CARD OF 'laws.FnExactSszEnc'. -/
def fnExactSszEncUptoCard : Claim7 := { stood := { row := fnExactSszEncUptoRow, standIns := [], harness := (true, "9f3e219a88ea783185e1d8d7fcf10e1dc1d53c8e41e029ff671fc00f3f20495d"), looks := true }, kinds := [], alts := [], laidByText := true, laidKinds := [.data, .sentinel], laidTests := true, laidLooks := .later }
def FnExactSszEncUptoCardSaid : Prop := Claim7.holds Tryd.pinned (.plain (OpenSpec.upto fnExactSszEncSpec)) fnExactSszEncUptoCard

/-- THE SECOND FORM's CARD OF 'laws.FnExactScaleEnc'. -/
def fnExactScaleEncUptoCard : Claim7 := { stood := { row := fnExactScaleEncUptoRow, standIns := [], harness := (true, "9f3e219a88ea783185e1d8d7fcf10e1dc1d53c8e41e029ff671fc00f3f20495d"), looks := true }, kinds := [], alts := [], laidByText := true, laidKinds := [.data, .sentinel], laidTests := true, laidLooks := .later }
def FnExactScaleEncUptoCardSaid : Prop := Claim7.holds Tryd.pinned (.plain (OpenSpec.upto fnExactScaleEncSpec)) fnExactScaleEncUptoCard

/-- THE SECOND FORM's CARD OF 'laws.FnExactScaleDec'. -/
def fnExactScaleDecUptoCard : Claim7 := { stood := { row := fnExactScaleDecUptoRow, standIns := [], harness := (true, "9f3e219a88ea783185e1d8d7fcf10e1dc1d53c8e41e029ff671fc00f3f20495d"), looks := true }, kinds := [], alts := [], laidByText := true, laidKinds := [.data, .sentinel, .sentinel], laidTests := true, laidLooks := .later }
def FnExactScaleDecUptoCardSaid : Prop := Claim7.holds Tryd.pinned (.plain (OpenSpec.upto fnExactScaleDecSpec)) fnExactScaleDecUptoCard

/-- THE SECOND FORM's CARD OF 'laws.FnExactProtoOk'. -/
def fnExactProtoOkUptoCard : Claim7 := { stood := { row := fnExactProtoOkUptoRow, standIns := [], harness := (true, "9f3e219a88ea783185e1d8d7fcf10e1dc1d53c8e41e029ff671fc00f3f20495d"), looks := true }, kinds := [], alts := [], laidByText := true, laidKinds := [.data, .sentinel], laidTests := true, laidLooks := .later }
def FnExactProtoOkUptoCardSaid : Prop := Claim7.holds Tryd.pinned (.plain (OpenSpec.upto fnExactProtoOkSpec)) fnExactProtoOkUptoCard

/-- THE SECOND FORM's CARD OF 'laws.FnExactProtoEnc'. -/
def fnExactProtoEncUptoCard : Claim7 := { stood := { row := fnExactProtoEncUptoRow, standIns := [], harness := (true, "9f3e219a88ea783185e1d8d7fcf10e1dc1d53c8e41e029ff671fc00f3f20495d"), looks := true }, kinds := [], alts := [], laidByText := true, laidKinds := [.data, .sentinel], laidTests := true, laidLooks := .later }
def FnExactProtoEncUptoCardSaid : Prop := Claim7.holds Tryd.pinned (.plain (OpenSpec.upto fnExactProtoEncSpec)) fnExactProtoEncUptoCard

/-- THE SECOND FORM's CARD OF 'laws.FnExactBitcoinOk'. -/
def fnExactBitcoinOkUptoCard : Claim7 := { stood := { row := fnExactBitcoinOkUptoRow, standIns := [], harness := (true, "9f3e219a88ea783185e1d8d7fcf10e1dc1d53c8e41e029ff671fc00f3f20495d"), looks := true }, kinds := [], alts := [], laidByText := true, laidKinds := [.data, .sentinel], laidTests := true, laidLooks := .later }
def FnExactBitcoinOkUptoCardSaid : Prop := Claim7.holds Tryd.pinned (.plain (OpenSpec.upto fnExactBitcoinOkSpec)) fnExactBitcoinOkUptoCard

/-- THE SECOND FORM's CARD OF 'laws.FnExactBitcoinEnc'. -/
def fnExactBitcoinEncUptoCard : Claim7 := { stood := { row := fnExactBitcoinEncUptoRow, standIns := [], harness := (true, "9f3e219a88ea783185e1d8d7fcf10e1dc1d53c8e41e029ff671fc00f3f20495d"), looks := true }, kinds := [], alts := [], laidByText := true, laidKinds := [.data, .sentinel], laidTests := true, laidLooks := .later }
def FnExactBitcoinEncUptoCardSaid : Prop := Claim7.holds Tryd.pinned (.plain (OpenSpec.upto fnExactBitcoinEncSpec)) fnExactBitcoinEncUptoCard

/-- THE SECOND FORM's CARD OF 'laws.FnExactBitcoinDec'. -/
def fnExactBitcoinDecUptoCard : Claim7 := { stood := { row := fnExactBitcoinDecUptoRow, standIns := [], harness := (true, "9f3e219a88ea783185e1d8d7fcf10e1dc1d53c8e41e029ff671fc00f3f20495d"), looks := true }, kinds := [], alts := [], laidByText := true, laidKinds := [.data, .sentinel, .sentinel], laidTests := true, laidLooks := .later }
def FnExactBitcoinDecUptoCardSaid : Prop := Claim7.holds Tryd.pinned (.plain (OpenSpec.upto fnExactBitcoinDecSpec)) fnExactBitcoinDecUptoCard
end Rows
end Go.Proofs.YtogadhfickojcaaDoor
