/-
  DERIVED. GIVEN WITH THE SEED: THE CARDS: each row of YtocealohiflheaaDoorRows.lean that lists a variable, with what it lists TIED to the program's text (the seventh form; the later family's looks); each row that meets fmt, with fmt's text TOLD by the authors' own Lean function (tested against real Go, not proved from fmt's source: count such statements apart). THE CARD IS WHAT COUNTS. Prove the row's statement (the work); the ties are given (YtocealohiflheaaDoorTie.lean); close each card by the builder's one call (the guide's Derived/Test/ToyasCard.lean, 'card_holds'). Laid BY PROGRAM, IN A SANDBOX (cutbox-door.mjs). By AI agents, Wed Nov 11 2026. No macro, syntax, notation, axiom, sorry.
-/
import Derived.Test.YtocealohiflheaaDoorRows
import GoSem.ClaimSeven
namespace Go.Proofs.YtocealohiflheaaDoor
namespace Rows

/-- THE TIED CARD OF 'laws.FnExactProtoEnc'. -/
def fnExactProtoEncCard : Claim7 := { stood := { row := fnExactProtoEncRow, standIns := [], harness := (true, "467a679cf2b09a44dc366dbc4ef3a6e4c91c10630fcc53d516e15b91092e6cf0"), looks := true }, kinds := [], alts := [], laidByText := true, laidKinds := [.data, .sentinel], laidTests := true, laidLooks := .later }
def FnExactProtoEncCardSaid : Prop := Claim7.holds Tryd.pinned (.plain (OpenSpec.ofChange fnExactProtoEncSpec)) fnExactProtoEncCard

/-- THE TIED CARD OF 'laws.FnProtoParts'. -/
def fnProtoPartsCard : Claim7 := { stood := { row := fnProtoPartsRow, standIns := [], harness := (true, "467a679cf2b09a44dc366dbc4ef3a6e4c91c10630fcc53d516e15b91092e6cf0"), looks := true }, kinds := [], alts := [], laidByText := true, laidKinds := [.data, .sentinel], laidTests := true, laidLooks := .later }
def FnProtoPartsCardSaid : Prop := Claim7.holds Tryd.pinned (.plain (OpenSpec.ofChange fnProtoPartsSpec)) fnProtoPartsCard

/-- THE TIED CARD OF 'laws.FnProtoInner'. -/
def fnProtoInnerCard : Claim7 := { stood := { row := fnProtoInnerRow, standIns := [], harness := (true, "467a679cf2b09a44dc366dbc4ef3a6e4c91c10630fcc53d516e15b91092e6cf0"), looks := true }, kinds := [], alts := [], laidByText := true, laidKinds := [.data, .sentinel], laidTests := true, laidLooks := .later }
def FnProtoInnerCardSaid : Prop := Claim7.holds Tryd.pinned (.plain (OpenSpec.ofChange fnProtoInnerSpec)) fnProtoInnerCard

/-- THE TIED CARD OF 'laws.FnProtoAdded'. -/
def fnProtoAddedCard : Claim7 := { stood := { row := fnProtoAddedRow, standIns := [], harness := (true, "467a679cf2b09a44dc366dbc4ef3a6e4c91c10630fcc53d516e15b91092e6cf0"), looks := true }, kinds := [], alts := [], laidByText := true, laidKinds := [.data, .sentinel], laidTests := true, laidLooks := .later }
def FnProtoAddedCardSaid : Prop := Claim7.holds Tryd.pinned (.plain (OpenSpec.ofChange fnProtoAddedSpec)) fnProtoAddedCard

/-- THE SECOND FORM's CARD OF 'laws.FnExactProtoEnc'. -/
def fnExactProtoEncUptoCard : Claim7 := { stood := { row := fnExactProtoEncUptoRow, standIns := [], harness := (true, "467a679cf2b09a44dc366dbc4ef3a6e4c91c10630fcc53d516e15b91092e6cf0"), looks := true }, kinds := [], alts := [], laidByText := true, laidKinds := [.data, .sentinel], laidTests := true, laidLooks := .later }
def FnExactProtoEncUptoCardSaid : Prop := Claim7.holds Tryd.pinned (.plain (OpenSpec.upto fnExactProtoEncSpec)) fnExactProtoEncUptoCard

/-- THE SECOND FORM's CARD OF 'laws.FnProtoParts'. -/
def fnProtoPartsUptoCard : Claim7 := { stood := { row := fnProtoPartsUptoRow, standIns := [], harness := (true, "467a679cf2b09a44dc366dbc4ef3a6e4c91c10630fcc53d516e15b91092e6cf0"), looks := true }, kinds := [], alts := [], laidByText := true, laidKinds := [.data, .sentinel], laidTests := true, laidLooks := .later }
def FnProtoPartsUptoCardSaid : Prop := Claim7.holds Tryd.pinned (.plain (OpenSpec.upto fnProtoPartsSpec)) fnProtoPartsUptoCard

/-- THE SECOND FORM's CARD OF 'laws.FnProtoInner'. -/
def fnProtoInnerUptoCard : Claim7 := { stood := { row := fnProtoInnerUptoRow, standIns := [], harness := (true, "467a679cf2b09a44dc366dbc4ef3a6e4c91c10630fcc53d516e15b91092e6cf0"), looks := true }, kinds := [], alts := [], laidByText := true, laidKinds := [.data, .sentinel], laidTests := true, laidLooks := .later }
def FnProtoInnerUptoCardSaid : Prop := Claim7.holds Tryd.pinned (.plain (OpenSpec.upto fnProtoInnerSpec)) fnProtoInnerUptoCard

/-- THE SECOND FORM's CARD OF 'laws.FnProtoAdded'. -/
def fnProtoAddedUptoCard : Claim7 := { stood := { row := fnProtoAddedUptoRow, standIns := [], harness := (true, "467a679cf2b09a44dc366dbc4ef3a6e4c91c10630fcc53d516e15b91092e6cf0"), looks := true }, kinds := [], alts := [], laidByText := true, laidKinds := [.data, .sentinel], laidTests := true, laidLooks := .later }
def FnProtoAddedUptoCardSaid : Prop := Claim7.holds Tryd.pinned (.plain (OpenSpec.upto fnProtoAddedSpec)) fnProtoAddedUptoCard
end Rows
end Go.Proofs.YtocealohiflheaaDoor
