/-
  DERIVED. GIVEN WITH THE SEED: THE CARDS: each row of YtdolcfgnclnnoaaDoorRows.lean that lists a variable, with what it lists TIED to the program's text (the seventh form; the later family's looks); each row that meets fmt, with fmt's text TOLD by the authors' own Lean function (tested against real Go, not proved from fmt's source: count such statements apart). THE CARD IS WHAT COUNTS. Prove the row's statement (the work); the ties are given (YtdolcfgnclnnoaaDoorTie.lean); close each card by the builder's one call (the guide's Derived/Test/ToyasCard.lean, 'card_holds'). Laid BY PROGRAM, IN A SANDBOX (cutbox-door.mjs). By AI agents, Wed Nov 11 2026. No macro, syntax, notation, axiom, sorry.
-/
import Derived.Test.YtdolcfgnclnnoaaDoorRows
import GoSem.ClaimSeven
namespace Go.Proofs.YtdolcfgnclnnoaaDoor
namespace Rows

/-- THE TIED CARD OF 'laws.FnExactReadSchema'. -/
def fnExactReadSchemaCard : Claim7 := { stood := { row := fnExactReadSchemaRow, standIns := [], harness := (true, "5e5aec94161c197a7c27ed620b2820f6257ef5c78d309a92c541b820c5d5fd61"), looks := true }, kinds := [], alts := [], laidByText := true, laidKinds := [.data, .data, .data, .data, .sentinel, .sentinel, .data, .pinned], laidTests := true, laidLooks := .later }
def FnExactReadSchemaCardSaid : Prop := Claim7.holds Tryd.pinned (.plain (OpenSpec.ofChange fnExactReadSchemaSpec)) fnExactReadSchemaCard

/-- THE TIED CARD OF 'laws.FnExactMsgSchema'. -/
def fnExactMsgSchemaCard : Claim7 := { stood := { row := fnExactMsgSchemaRow, standIns := [], harness := (true, "5e5aec94161c197a7c27ed620b2820f6257ef5c78d309a92c541b820c5d5fd61"), looks := true }, kinds := [], alts := [], laidByText := true, laidKinds := [.data, .data, .data, .data, .sentinel, .sentinel, .data, .pinned], laidTests := true, laidLooks := .later }
def FnExactMsgSchemaCardSaid : Prop := Claim7.holds Tryd.pinned (.plain (OpenSpec.ofChange fnExactMsgSchemaSpec)) fnExactMsgSchemaCard

/-- THE SECOND FORM's CARD OF 'laws.FnExactReadSchema'. -/
def fnExactReadSchemaUptoCard : Claim7 := { stood := { row := fnExactReadSchemaUptoRow, standIns := [], harness := (true, "5e5aec94161c197a7c27ed620b2820f6257ef5c78d309a92c541b820c5d5fd61"), looks := true }, kinds := [], alts := [], laidByText := true, laidKinds := [.data, .data, .data, .data, .sentinel, .sentinel, .data, .pinned], laidTests := true, laidLooks := .later }
def FnExactReadSchemaUptoCardSaid : Prop := Claim7.holds Tryd.pinned (.plain (OpenSpec.upto fnExactReadSchemaSpec)) fnExactReadSchemaUptoCard

/-- THE SECOND FORM's CARD OF 'laws.FnExactMsgSchema'. -/
def fnExactMsgSchemaUptoCard : Claim7 := { stood := { row := fnExactMsgSchemaUptoRow, standIns := [], harness := (true, "5e5aec94161c197a7c27ed620b2820f6257ef5c78d309a92c541b820c5d5fd61"), looks := true }, kinds := [], alts := [], laidByText := true, laidKinds := [.data, .data, .data, .data, .sentinel, .sentinel, .data, .pinned], laidTests := true, laidLooks := .later }
def FnExactMsgSchemaUptoCardSaid : Prop := Claim7.holds Tryd.pinned (.plain (OpenSpec.upto fnExactMsgSchemaSpec)) fnExactMsgSchemaUptoCard
end Rows
end Go.Proofs.YtdolcfgnclnnoaaDoor
