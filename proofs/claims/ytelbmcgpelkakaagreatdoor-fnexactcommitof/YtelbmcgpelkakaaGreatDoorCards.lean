/-
  DERIVED. GIVEN WITH THE SEED: THE CARDS: each row of YtelbmcgpelkakaaGreatDoorRows.lean that lists a variable, with what it lists TIED to the program's text (the seventh form; the later family's looks); each row that meets fmt, with fmt's text TOLD by the authors' own Lean function (tested against real Go, not proved from fmt's source: count such statements apart). THE CARD IS WHAT COUNTS. Prove the row's statement (the work); the ties are given (YtelbmcgpelkakaaGreatDoorTie.lean); close each card by the builder's one call (the guide's Derived/Test/ToyasCard.lean, 'card_holds'). Laid BY PROGRAM, IN A SANDBOX (cutbox-door.mjs). By AI agents, Wed Nov 11 2026. No macro, syntax, notation, axiom, sorry.
-/
import Derived.Test.YtelbmcgpelkakaaGreatDoorRows
import GoSem.ClaimSeven
namespace Go.Proofs.YtelbmcgpelkakaaGreatDoor
namespace Rows

/-- THE TIED CARD OF 'laws.FnExactHeaderOf'. -/
def fnExactHeaderOfCard : Claim7 := { stood := { row := fnExactHeaderOfRow, standIns := [], harness := (true, "f5adc0aaa3e0ea1b8ace928ef9a9a64c758875cf833b8792e0647c1a6177a20b"), looks := true }, kinds := [], alts := [], laidByText := true, laidKinds := [.data, .data, .data, .data, .sentinel, .sentinel, .data, .pinned], laidTests := true, laidLooks := .later }
def FnExactHeaderOfCardSaid : Prop := Claim7.holds Tryz.pinned (.plain (OpenSpec.ofChange fnExactHeaderOfSpec)) fnExactHeaderOfCard

/-- THE TIED CARD OF 'laws.FnExactCommitOf'. -/
def fnExactCommitOfCard : Claim7 := { stood := { row := fnExactCommitOfRow, standIns := [], harness := (true, "f5adc0aaa3e0ea1b8ace928ef9a9a64c758875cf833b8792e0647c1a6177a20b"), looks := true }, kinds := [], alts := [], laidByText := true, laidKinds := [.data, .data, .data, .data, .sentinel, .sentinel, .data, .pinned], laidTests := true, laidLooks := .later }
def FnExactCommitOfCardSaid : Prop := Claim7.holds Tryz.pinned (.plain (OpenSpec.ofChange fnExactCommitOfSpec)) fnExactCommitOfCard

/-- THE TIED CARD OF 'laws.FnExactValidatorsOf'. -/
def fnExactValidatorsOfCard : Claim7 := { stood := { row := fnExactValidatorsOfRow, standIns := [], harness := (true, "f5adc0aaa3e0ea1b8ace928ef9a9a64c758875cf833b8792e0647c1a6177a20b"), looks := true }, kinds := [], alts := [], laidByText := true, laidKinds := [.data, .data, .data, .data, .sentinel, .sentinel, .data, .pinned], laidTests := true, laidLooks := .later }
def FnExactValidatorsOfCardSaid : Prop := Claim7.holds Tryz.pinned (.plain (OpenSpec.ofChange fnExactValidatorsOfSpec)) fnExactValidatorsOfCard

/-- THE TIED CARD OF 'laws.FnExactProofOf'. -/
def fnExactProofOfCard : Claim7 := { stood := { row := fnExactProofOfRow, standIns := [], harness := (true, "f5adc0aaa3e0ea1b8ace928ef9a9a64c758875cf833b8792e0647c1a6177a20b"), looks := true }, kinds := [], alts := [], laidByText := true, laidKinds := [.data, .data, .data, .data, .sentinel, .sentinel, .data, .pinned], laidTests := true, laidLooks := .later }
def FnExactProofOfCardSaid : Prop := Claim7.holds Tryz.pinned (.plain (OpenSpec.ofChange fnExactProofOfSpec)) fnExactProofOfCard

/-- THE SECOND FORM's CARD OF 'laws.FnExactHeaderOf'. -/
def fnExactHeaderOfUptoCard : Claim7 := { stood := { row := fnExactHeaderOfUptoRow, standIns := [], harness := (true, "f5adc0aaa3e0ea1b8ace928ef9a9a64c758875cf833b8792e0647c1a6177a20b"), looks := true }, kinds := [], alts := [], laidByText := true, laidKinds := [.data, .data, .data, .data, .sentinel, .sentinel, .data, .pinned], laidTests := true, laidLooks := .later }
def FnExactHeaderOfUptoCardSaid : Prop := Claim7.holds Tryz.pinned (.plain (OpenSpec.upto fnExactHeaderOfSpec)) fnExactHeaderOfUptoCard

/-- THE SECOND FORM's CARD OF 'laws.FnExactCommitOf'. -/
def fnExactCommitOfUptoCard : Claim7 := { stood := { row := fnExactCommitOfUptoRow, standIns := [], harness := (true, "f5adc0aaa3e0ea1b8ace928ef9a9a64c758875cf833b8792e0647c1a6177a20b"), looks := true }, kinds := [], alts := [], laidByText := true, laidKinds := [.data, .data, .data, .data, .sentinel, .sentinel, .data, .pinned], laidTests := true, laidLooks := .later }
def FnExactCommitOfUptoCardSaid : Prop := Claim7.holds Tryz.pinned (.plain (OpenSpec.upto fnExactCommitOfSpec)) fnExactCommitOfUptoCard

/-- THE SECOND FORM's CARD OF 'laws.FnExactValidatorsOf'. -/
def fnExactValidatorsOfUptoCard : Claim7 := { stood := { row := fnExactValidatorsOfUptoRow, standIns := [], harness := (true, "f5adc0aaa3e0ea1b8ace928ef9a9a64c758875cf833b8792e0647c1a6177a20b"), looks := true }, kinds := [], alts := [], laidByText := true, laidKinds := [.data, .data, .data, .data, .sentinel, .sentinel, .data, .pinned], laidTests := true, laidLooks := .later }
def FnExactValidatorsOfUptoCardSaid : Prop := Claim7.holds Tryz.pinned (.plain (OpenSpec.upto fnExactValidatorsOfSpec)) fnExactValidatorsOfUptoCard

/-- THE SECOND FORM's CARD OF 'laws.FnExactProofOf'. -/
def fnExactProofOfUptoCard : Claim7 := { stood := { row := fnExactProofOfUptoRow, standIns := [], harness := (true, "f5adc0aaa3e0ea1b8ace928ef9a9a64c758875cf833b8792e0647c1a6177a20b"), looks := true }, kinds := [], alts := [], laidByText := true, laidKinds := [.data, .data, .data, .data, .sentinel, .sentinel, .data, .pinned], laidTests := true, laidLooks := .later }
def FnExactProofOfUptoCardSaid : Prop := Claim7.holds Tryz.pinned (.plain (OpenSpec.upto fnExactProofOfSpec)) fnExactProofOfUptoCard
end Rows
end Go.Proofs.YtelbmcgpelkakaaGreatDoor
