/-
  DERIVED. GIVEN WITH THE SEED: THE CARDS: each row of YtipmckdlnipgkaaGreatDoorRows.lean that lists a variable, with what it lists TIED to the program's text (the seventh form; the later family's looks); each row that meets fmt, with fmt's text TOLD by the authors' own Lean function (tested against real Go, not proved from fmt's source: count such statements apart). THE CARD IS WHAT COUNTS. Prove the row's statement (the work); the ties are given (YtipmckdlnipgkaaGreatDoorTie.lean); close each card by the builder's one call (the guide's Derived/Test/ToyasCard.lean, 'card_holds'). Laid BY PROGRAM, IN A SANDBOX (cutbox-door.mjs). By AI agents, Wed Nov 11 2026. No macro, syntax, notation, axiom, sorry.
-/
import Derived.Test.YtipmckdlnipgkaaGreatDoorRows
import GoSem.ClaimSeven
namespace Go.Proofs.YtipmckdlnipgkaaGreatDoor
namespace Rows

/-- THE TIED CARD OF 'laws.FnExactHeaderValue'. -/
def fnExactHeaderValueCard : Claim7 := { stood := { row := fnExactHeaderValueRow, standIns := [], harness := (true, "bba729bed609f32b7a249aaec3428004d3d708ba4a44ebebc4ec8e7da81343fc"), looks := true }, kinds := [], alts := [], laidByText := true, laidKinds := [.data, .data, .data, .data, .sentinel, .sentinel, .data, .pinned], laidTests := true, laidLooks := .later }
def FnExactHeaderValueCardSaid : Prop := Claim7.holds Tryz.pinned (.plain (OpenSpec.ofChange fnExactHeaderValueSpec)) fnExactHeaderValueCard

/-- THE TIED CARD OF 'laws.FnExactCommitValue'. -/
def fnExactCommitValueCard : Claim7 := { stood := { row := fnExactCommitValueRow, standIns := [], harness := (true, "bba729bed609f32b7a249aaec3428004d3d708ba4a44ebebc4ec8e7da81343fc"), looks := true }, kinds := [], alts := [], laidByText := true, laidKinds := [.data, .data, .data, .data, .sentinel, .sentinel, .data, .pinned], laidTests := true, laidLooks := .later }
def FnExactCommitValueCardSaid : Prop := Claim7.holds Tryz.pinned (.plain (OpenSpec.ofChange fnExactCommitValueSpec)) fnExactCommitValueCard

/-- THE TIED CARD OF 'laws.FnExactValidatorsValue'. -/
def fnExactValidatorsValueCard : Claim7 := { stood := { row := fnExactValidatorsValueRow, standIns := [], harness := (true, "bba729bed609f32b7a249aaec3428004d3d708ba4a44ebebc4ec8e7da81343fc"), looks := true }, kinds := [], alts := [], laidByText := true, laidKinds := [.data, .data, .data, .data, .sentinel, .sentinel, .data, .pinned], laidTests := true, laidLooks := .later }
def FnExactValidatorsValueCardSaid : Prop := Claim7.holds Tryz.pinned (.plain (OpenSpec.ofChange fnExactValidatorsValueSpec)) fnExactValidatorsValueCard

/-- THE TIED CARD OF 'laws.FnExactProofValue'. -/
def fnExactProofValueCard : Claim7 := { stood := { row := fnExactProofValueRow, standIns := [], harness := (true, "bba729bed609f32b7a249aaec3428004d3d708ba4a44ebebc4ec8e7da81343fc"), looks := true }, kinds := [], alts := [], laidByText := true, laidKinds := [.data, .data, .data, .data, .sentinel, .sentinel, .data, .pinned], laidTests := true, laidLooks := .later }
def FnExactProofValueCardSaid : Prop := Claim7.holds Tryz.pinned (.plain (OpenSpec.ofChange fnExactProofValueSpec)) fnExactProofValueCard

/-- THE SECOND FORM's CARD OF 'laws.FnExactHeaderValue'. -/
def fnExactHeaderValueUptoCard : Claim7 := { stood := { row := fnExactHeaderValueUptoRow, standIns := [], harness := (true, "bba729bed609f32b7a249aaec3428004d3d708ba4a44ebebc4ec8e7da81343fc"), looks := true }, kinds := [], alts := [], laidByText := true, laidKinds := [.data, .data, .data, .data, .sentinel, .sentinel, .data, .pinned], laidTests := true, laidLooks := .later }
def FnExactHeaderValueUptoCardSaid : Prop := Claim7.holds Tryz.pinned (.plain (OpenSpec.upto fnExactHeaderValueSpec)) fnExactHeaderValueUptoCard

/-- THE SECOND FORM's CARD OF 'laws.FnExactCommitValue'. -/
def fnExactCommitValueUptoCard : Claim7 := { stood := { row := fnExactCommitValueUptoRow, standIns := [], harness := (true, "bba729bed609f32b7a249aaec3428004d3d708ba4a44ebebc4ec8e7da81343fc"), looks := true }, kinds := [], alts := [], laidByText := true, laidKinds := [.data, .data, .data, .data, .sentinel, .sentinel, .data, .pinned], laidTests := true, laidLooks := .later }
def FnExactCommitValueUptoCardSaid : Prop := Claim7.holds Tryz.pinned (.plain (OpenSpec.upto fnExactCommitValueSpec)) fnExactCommitValueUptoCard

/-- THE SECOND FORM's CARD OF 'laws.FnExactValidatorsValue'. -/
def fnExactValidatorsValueUptoCard : Claim7 := { stood := { row := fnExactValidatorsValueUptoRow, standIns := [], harness := (true, "bba729bed609f32b7a249aaec3428004d3d708ba4a44ebebc4ec8e7da81343fc"), looks := true }, kinds := [], alts := [], laidByText := true, laidKinds := [.data, .data, .data, .data, .sentinel, .sentinel, .data, .pinned], laidTests := true, laidLooks := .later }
def FnExactValidatorsValueUptoCardSaid : Prop := Claim7.holds Tryz.pinned (.plain (OpenSpec.upto fnExactValidatorsValueSpec)) fnExactValidatorsValueUptoCard

/-- THE SECOND FORM's CARD OF 'laws.FnExactProofValue'. -/
def fnExactProofValueUptoCard : Claim7 := { stood := { row := fnExactProofValueUptoRow, standIns := [], harness := (true, "bba729bed609f32b7a249aaec3428004d3d708ba4a44ebebc4ec8e7da81343fc"), looks := true }, kinds := [], alts := [], laidByText := true, laidKinds := [.data, .data, .data, .data, .sentinel, .sentinel, .data, .pinned], laidTests := true, laidLooks := .later }
def FnExactProofValueUptoCardSaid : Prop := Claim7.holds Tryz.pinned (.plain (OpenSpec.upto fnExactProofValueSpec)) fnExactProofValueUptoCard
end Rows
end Go.Proofs.YtipmckdlnipgkaaGreatDoor
