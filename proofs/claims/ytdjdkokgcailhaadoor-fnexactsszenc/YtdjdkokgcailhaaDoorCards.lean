/-
  DERIVED. GIVEN WITH THE SEED: THE CARDS: each row of YtdjdkokgcailhaaDoorRows.lean that lists a variable, with what it lists TIED to the program's text (the seventh form; the later family's looks); each row that meets fmt, with fmt's text TOLD by the authors' own Lean function (tested against real Go, not proved from fmt's source: count such statements apart). THE CARD IS WHAT COUNTS. Prove the row's statement (the work); the ties are given (YtdjdkokgcailhaaDoorTie.lean); close each card by the builder's one call (the guide's Derived/Test/ToyasCard.lean, 'card_holds'). Laid BY PROGRAM, IN A SANDBOX (cutbox-door.mjs). By AI agents, Wed Nov 11 2026. No macro, syntax, notation, axiom, sorry.
-/
import Derived.Test.YtdjdkokgcailhaaDoorRows
import GoSem.ClaimSeven
namespace Go.Proofs.YtdjdkokgcailhaaDoor
namespace Rows

/-- THE TIED CARD OF 'laws.FnExactZeroOf'. -/
def fnExactZeroOfCard : Claim7 := { stood := { row := fnExactZeroOfRow, standIns := [], harness := (true, "766e8a213b86f9de7517a926fe6e10cc7e1c51f7b7cb535003dd0ce88e6f2a57"), looks := true }, kinds := [], alts := [], laidByText := true, laidKinds := [.data], laidTests := true, laidLooks := .later }
def FnExactZeroOfCardSaid : Prop := Claim7.holds Tryd.pinned (.plain (OpenSpec.ofChange fnExactZeroOfSpec)) fnExactZeroOfCard

/-- THE TIED CARD OF 'laws.FnExactRlpEnc'. -/
def fnExactRlpEncCard : Claim7 := { stood := { row := fnExactRlpEncRow, standIns := [], harness := (true, "766e8a213b86f9de7517a926fe6e10cc7e1c51f7b7cb535003dd0ce88e6f2a57"), looks := true }, kinds := [], alts := [], laidByText := true, laidKinds := [.data, .sentinel], laidTests := true, laidLooks := .later }
def FnExactRlpEncCardSaid : Prop := Claim7.holds Tryd.pinned (.plain (OpenSpec.ofChange fnExactRlpEncSpec)) fnExactRlpEncCard

/-- THE TIED CARD OF 'laws.FnExactRlpDec'. -/
def fnExactRlpDecCard : Claim7 := { stood := { row := fnExactRlpDecRow, standIns := [], harness := (true, "766e8a213b86f9de7517a926fe6e10cc7e1c51f7b7cb535003dd0ce88e6f2a57"), looks := true }, kinds := [], alts := [], laidByText := true, laidKinds := [.data, .sentinel, .sentinel], laidTests := true, laidLooks := .later }
def FnExactRlpDecCardSaid : Prop := Claim7.holds Tryd.pinned (.plain (OpenSpec.ofChange fnExactRlpDecSpec)) fnExactRlpDecCard

/-- THE TIED CARD OF 'laws.FnExactSszEnc'. -/
def fnExactSszEncCard : Claim7 := { stood := { row := fnExactSszEncRow, standIns := [], harness := (true, "766e8a213b86f9de7517a926fe6e10cc7e1c51f7b7cb535003dd0ce88e6f2a57"), looks := true }, kinds := [], alts := [], laidByText := true, laidKinds := [.data, .sentinel], laidTests := true, laidLooks := .later }
def FnExactSszEncCardSaid : Prop := Claim7.holds Tryd.pinned (.plain (OpenSpec.ofChange fnExactSszEncSpec)) fnExactSszEncCard

/-- THE TIED CARD OF 'laws.FnExactSszDec'. -/
def fnExactSszDecCard : Claim7 := { stood := { row := fnExactSszDecRow, standIns := [], harness := (true, "766e8a213b86f9de7517a926fe6e10cc7e1c51f7b7cb535003dd0ce88e6f2a57"), looks := true }, kinds := [], alts := [], laidByText := true, laidKinds := [.data, .sentinel, .sentinel], laidTests := true, laidLooks := .later }
def FnExactSszDecCardSaid : Prop := Claim7.holds Tryd.pinned (.plain (OpenSpec.ofChange fnExactSszDecSpec)) fnExactSszDecCard

/-- THE TIED CARD OF 'laws.FnExactScaleEnc'. -/
def fnExactScaleEncCard : Claim7 := { stood := { row := fnExactScaleEncRow, standIns := [], harness := (true, "766e8a213b86f9de7517a926fe6e10cc7e1c51f7b7cb535003dd0ce88e6f2a57"), looks := true }, kinds := [], alts := [], laidByText := true, laidKinds := [.data, .sentinel], laidTests := true, laidLooks := .later }
def FnExactScaleEncCardSaid : Prop := Claim7.holds Tryd.pinned (.plain (OpenSpec.ofChange fnExactScaleEncSpec)) fnExactScaleEncCard

/-- THE TIED CARD OF 'laws.FnExactScaleDec'. -/
def fnExactScaleDecCard : Claim7 := { stood := { row := fnExactScaleDecRow, standIns := [], harness := (true, "766e8a213b86f9de7517a926fe6e10cc7e1c51f7b7cb535003dd0ce88e6f2a57"), looks := true }, kinds := [], alts := [], laidByText := true, laidKinds := [.data, .sentinel, .sentinel], laidTests := true, laidLooks := .later }
def FnExactScaleDecCardSaid : Prop := Claim7.holds Tryd.pinned (.plain (OpenSpec.ofChange fnExactScaleDecSpec)) fnExactScaleDecCard

/-- THE SECOND FORM's CARD OF 'laws.FnExactZeroOf'. -/
def fnExactZeroOfUptoCard : Claim7 := { stood := { row := fnExactZeroOfUptoRow, standIns := [], harness := (true, "766e8a213b86f9de7517a926fe6e10cc7e1c51f7b7cb535003dd0ce88e6f2a57"), looks := true }, kinds := [], alts := [], laidByText := true, laidKinds := [.data], laidTests := true, laidLooks := .later }
def FnExactZeroOfUptoCardSaid : Prop := Claim7.holds Tryd.pinned (.plain (OpenSpec.upto fnExactZeroOfSpec)) fnExactZeroOfUptoCard

/-- THE SECOND FORM's CARD OF 'laws.FnExactRlpEnc'. -/
def fnExactRlpEncUptoCard : Claim7 := { stood := { row := fnExactRlpEncUptoRow, standIns := [], harness := (true, "766e8a213b86f9de7517a926fe6e10cc7e1c51f7b7cb535003dd0ce88e6f2a57"), looks := true }, kinds := [], alts := [], laidByText := true, laidKinds := [.data, .sentinel], laidTests := true, laidLooks := .later }
def FnExactRlpEncUptoCardSaid : Prop := Claim7.holds Tryd.pinned (.plain (OpenSpec.upto fnExactRlpEncSpec)) fnExactRlpEncUptoCard

/-- THE SECOND FORM's CARD OF 'laws.FnExactRlpDec'. -/
def fnExactRlpDecUptoCard : Claim7 := { stood := { row := fnExactRlpDecUptoRow, standIns := [], harness := (true, "766e8a213b86f9de7517a926fe6e10cc7e1c51f7b7cb535003dd0ce88e6f2a57"), looks := true }, kinds := [], alts := [], laidByText := true, laidKinds := [.data, .sentinel, .sentinel], laidTests := true, laidLooks := .later }
def FnExactRlpDecUptoCardSaid : Prop := Claim7.holds Tryd.pinned (.plain (OpenSpec.upto fnExactRlpDecSpec)) fnExactRlpDecUptoCard

/-- THE SECOND FORM's CARD OF 'laws.FnExactSszEnc'. -/
def fnExactSszEncUptoCard : Claim7 := { stood := { row := fnExactSszEncUptoRow, standIns := [], harness := (true, "766e8a213b86f9de7517a926fe6e10cc7e1c51f7b7cb535003dd0ce88e6f2a57"), looks := true }, kinds := [], alts := [], laidByText := true, laidKinds := [.data, .sentinel], laidTests := true, laidLooks := .later }
def FnExactSszEncUptoCardSaid : Prop := Claim7.holds Tryd.pinned (.plain (OpenSpec.upto fnExactSszEncSpec)) fnExactSszEncUptoCard

/-- THE SECOND FORM's CARD OF 'laws.FnExactSszDec'. -/
def fnExactSszDecUptoCard : Claim7 := { stood := { row := fnExactSszDecUptoRow, standIns := [], harness := (true, "766e8a213b86f9de7517a926fe6e10cc7e1c51f7b7cb535003dd0ce88e6f2a57"), looks := true }, kinds := [], alts := [], laidByText := true, laidKinds := [.data, .sentinel, .sentinel], laidTests := true, laidLooks := .later }
def FnExactSszDecUptoCardSaid : Prop := Claim7.holds Tryd.pinned (.plain (OpenSpec.upto fnExactSszDecSpec)) fnExactSszDecUptoCard

/-- THE SECOND FORM's CARD OF 'laws.FnExactScaleEnc'. -/
def fnExactScaleEncUptoCard : Claim7 := { stood := { row := fnExactScaleEncUptoRow, standIns := [], harness := (true, "766e8a213b86f9de7517a926fe6e10cc7e1c51f7b7cb535003dd0ce88e6f2a57"), looks := true }, kinds := [], alts := [], laidByText := true, laidKinds := [.data, .sentinel], laidTests := true, laidLooks := .later }
def FnExactScaleEncUptoCardSaid : Prop := Claim7.holds Tryd.pinned (.plain (OpenSpec.upto fnExactScaleEncSpec)) fnExactScaleEncUptoCard

/-- THE SECOND FORM's CARD OF 'laws.FnExactScaleDec'. -/
def fnExactScaleDecUptoCard : Claim7 := { stood := { row := fnExactScaleDecUptoRow, standIns := [], harness := (true, "766e8a213b86f9de7517a926fe6e10cc7e1c51f7b7cb535003dd0ce88e6f2a57"), looks := true }, kinds := [], alts := [], laidByText := true, laidKinds := [.data, .sentinel, .sentinel], laidTests := true, laidLooks := .later }
def FnExactScaleDecUptoCardSaid : Prop := Claim7.holds Tryd.pinned (.plain (OpenSpec.upto fnExactScaleDecSpec)) fnExactScaleDecUptoCard
end Rows
end Go.Proofs.YtdjdkokgcailhaaDoor
