/-
  DERIVED. GIVEN WITH THE SEED: THE CARDS: each row of YtmhnabkjfiijfaaDoorRows.lean that lists a variable, with what it lists TIED to the program's text (the seventh form; the later family's looks); each row that meets fmt, with fmt's text TOLD by the authors' own Lean function (tested against real Go, not proved from fmt's source: count such statements apart). THE CARD IS WHAT COUNTS. Prove the row's statement (the work); the ties are given (YtmhnabkjfiijfaaDoorTie.lean); close each card by the builder's one call (the guide's Derived/Test/ToyasCard.lean, 'card_holds'). Laid BY PROGRAM, IN A SANDBOX (cutbox-door.mjs). By AI agents, Wed Nov 11 2026. No macro, syntax, notation, axiom, sorry.
-/
import Derived.Test.YtmhnabkjfiijfaaDoorRows
import GoSem.ClaimSeven
namespace Go.Proofs.YtmhnabkjfiijfaaDoor
namespace Rows

/-- THE TIED CARD OF 'laws.FnExactScaleEnc'. -/
def fnExactScaleEncCard : Claim7 := { stood := { row := fnExactScaleEncRow, standIns := [], harness := (true, "c2c9d25ba442b87cbc64cb7698d9494e6b40483ce36170726907f875f759e57d"), looks := true }, kinds := [], alts := [], laidByText := true, laidKinds := [.data, .sentinel], laidTests := true, laidLooks := .later }
def FnExactScaleEncCardSaid : Prop := Claim7.holds Tryd.pinned (.plain (OpenSpec.ofChange fnExactScaleEncSpec)) fnExactScaleEncCard

/-- THE TIED CARD OF 'laws.FnExactScaleDec'. -/
def fnExactScaleDecCard : Claim7 := { stood := { row := fnExactScaleDecRow, standIns := [], harness := (true, "c2c9d25ba442b87cbc64cb7698d9494e6b40483ce36170726907f875f759e57d"), looks := true }, kinds := [], alts := [], laidByText := true, laidKinds := [.data, .sentinel, .sentinel], laidTests := true, laidLooks := .later }
def FnExactScaleDecCardSaid : Prop := Claim7.holds Tryd.pinned (.plain (OpenSpec.ofChange fnExactScaleDecSpec)) fnExactScaleDecCard

/-- THE TIED CARD OF 'laws.FnExactBitcoinOk'. -/
def fnExactBitcoinOkCard : Claim7 := { stood := { row := fnExactBitcoinOkRow, standIns := [], harness := (true, "c2c9d25ba442b87cbc64cb7698d9494e6b40483ce36170726907f875f759e57d"), looks := true }, kinds := [], alts := [], laidByText := true, laidKinds := [.data, .sentinel], laidTests := true, laidLooks := .later }
def FnExactBitcoinOkCardSaid : Prop := Claim7.holds Tryd.pinned (.plain (OpenSpec.ofChange fnExactBitcoinOkSpec)) fnExactBitcoinOkCard

/-- THE TIED CARD OF 'laws.FnExactBitcoinEnc'. -/
def fnExactBitcoinEncCard : Claim7 := { stood := { row := fnExactBitcoinEncRow, standIns := [], harness := (true, "c2c9d25ba442b87cbc64cb7698d9494e6b40483ce36170726907f875f759e57d"), looks := true }, kinds := [], alts := [], laidByText := true, laidKinds := [.data, .sentinel], laidTests := true, laidLooks := .later }
def FnExactBitcoinEncCardSaid : Prop := Claim7.holds Tryd.pinned (.plain (OpenSpec.ofChange fnExactBitcoinEncSpec)) fnExactBitcoinEncCard

/-- THE TIED CARD OF 'laws.FnExactBitcoinDec'. -/
def fnExactBitcoinDecCard : Claim7 := { stood := { row := fnExactBitcoinDecRow, standIns := [], harness := (true, "c2c9d25ba442b87cbc64cb7698d9494e6b40483ce36170726907f875f759e57d"), looks := true }, kinds := [], alts := [], laidByText := true, laidKinds := [.data, .sentinel, .sentinel], laidTests := true, laidLooks := .later }
def FnExactBitcoinDecCardSaid : Prop := Claim7.holds Tryd.pinned (.plain (OpenSpec.ofChange fnExactBitcoinDecSpec)) fnExactBitcoinDecCard

/-- THE SECOND FORM's CARD OF 'laws.FnExactScaleEnc'. -/
def fnExactScaleEncUptoCard : Claim7 := { stood := { row := fnExactScaleEncUptoRow, standIns := [], harness := (true, "c2c9d25ba442b87cbc64cb7698d9494e6b40483ce36170726907f875f759e57d"), looks := true }, kinds := [], alts := [], laidByText := true, laidKinds := [.data, .sentinel], laidTests := true, laidLooks := .later }
def FnExactScaleEncUptoCardSaid : Prop := Claim7.holds Tryd.pinned (.plain (OpenSpec.upto fnExactScaleEncSpec)) fnExactScaleEncUptoCard

/-- THE SECOND FORM's CARD OF 'laws.FnExactScaleDec'. -/
def fnExactScaleDecUptoCard : Claim7 := { stood := { row := fnExactScaleDecUptoRow, standIns := [], harness := (true, "c2c9d25ba442b87cbc64cb7698d9494e6b40483ce36170726907f875f759e57d"), looks := true }, kinds := [], alts := [], laidByText := true, laidKinds := [.data, .sentinel, .sentinel], laidTests := true, laidLooks := .later }
def FnExactScaleDecUptoCardSaid : Prop := Claim7.holds Tryd.pinned (.plain (OpenSpec.upto fnExactScaleDecSpec)) fnExactScaleDecUptoCard

/-- THE SECOND FORM's CARD OF 'laws.FnExactBitcoinOk'. -/
def fnExactBitcoinOkUptoCard : Claim7 := { stood := { row := fnExactBitcoinOkUptoRow, standIns := [], harness := (true, "c2c9d25ba442b87cbc64cb7698d9494e6b40483ce36170726907f875f759e57d"), looks := true }, kinds := [], alts := [], laidByText := true, laidKinds := [.data, .sentinel], laidTests := true, laidLooks := .later }
def FnExactBitcoinOkUptoCardSaid : Prop := Claim7.holds Tryd.pinned (.plain (OpenSpec.upto fnExactBitcoinOkSpec)) fnExactBitcoinOkUptoCard

/-- THE SECOND FORM's CARD OF 'laws.FnExactBitcoinEnc'. -/
def fnExactBitcoinEncUptoCard : Claim7 := { stood := { row := fnExactBitcoinEncUptoRow, standIns := [], harness := (true, "c2c9d25ba442b87cbc64cb7698d9494e6b40483ce36170726907f875f759e57d"), looks := true }, kinds := [], alts := [], laidByText := true, laidKinds := [.data, .sentinel], laidTests := true, laidLooks := .later }
def FnExactBitcoinEncUptoCardSaid : Prop := Claim7.holds Tryd.pinned (.plain (OpenSpec.upto fnExactBitcoinEncSpec)) fnExactBitcoinEncUptoCard

/-- THE SECOND FORM's CARD OF 'laws.FnExactBitcoinDec'. -/
def fnExactBitcoinDecUptoCard : Claim7 := { stood := { row := fnExactBitcoinDecUptoRow, standIns := [], harness := (true, "c2c9d25ba442b87cbc64cb7698d9494e6b40483ce36170726907f875f759e57d"), looks := true }, kinds := [], alts := [], laidByText := true, laidKinds := [.data, .sentinel, .sentinel], laidTests := true, laidLooks := .later }
def FnExactBitcoinDecUptoCardSaid : Prop := Claim7.holds Tryd.pinned (.plain (OpenSpec.upto fnExactBitcoinDecSpec)) fnExactBitcoinDecUptoCard
end Rows
end Go.Proofs.YtmhnabkjfiijfaaDoor
