/-
  No cell of these rows narrows 'for every input' (looked for: loops, veiled, ifaces, maps, wideKeys, modest, calm, conditions, laid).
  DERIVED. THE GIVEN ROWS OF THIS SEAT. 6 by the template 'for every input the law returns true; each argument reads behind the call as it read before'; 0 by the template 'total and deterministic' (their statements: YtmegoiggchghpaoTotals.lean).
  GIVEN WITH THE SEED: the statements are not yours to turn. If you find one false, say at which input.
  Laid BY PROGRAM, IN A SANDBOX (cutbox-rows.mjs): the forced cells as the released guide's own fill.sh prints them over the translation af248c421f92fde7… (all of the seat's roots in one cut). By AI agents, Wed Nov 11 2026. No macro, syntax, notation, axiom, sorry.
-/
import Derived.Test.YtmegoiggchghpaoChecked
import GoSem.Claim
import GoSem.ClaimJoined
import GoSem.ClaimMapViews
import Derived.JoinedTies
import Derived.KernelRfl
namespace Go.Proofs.Ytmegoiggchghpao
/- THE CELL 'sum', in the pinned program and in every row, IS THE sha256 OF THE DUMP (.gsa) THAT YtmegoiggchghpaoProg.lean LOADS. Nothing in Lean hashes anything: it is a label: what it is worth is what the hold of that sum in a sandbox is worth. -/
noncomputable def Try.pinned : Pinned := { name := "ytmegoiggchghpao", sum := "af248c421f92fde706a2ba93d49e58a002ea45b58cd23f674bc45db8e270b77e", checked := Try.checked }
namespace Rows
def none {H : Type} : Left H := { results := [], args := [] }

/-- 'laws.FnExactGetVarint': WHATEVER THE INPUT: true; the input reads as it did. -/
def fnExactGetVarintSpec : ChangeSpec := { name := "fnExactGetVarint", fn := fun _ => fun
  | [d] => { results := [.lit (.bool true)], args := [d] }
  | _ => none }
def fnExactGetVarintRow : OpenClaim := { program := "ytmegoiggchghpao", sum := "af248c421f92fde706a2ba93d49e58a002ea45b58cd23f674bc45db8e270b77e", func := "loop.example/g00774/laws.FnExactGetVarint", spec := "fnExactGetVarint", apart := false }
def FnExactGetVarintSaid : Prop := fnExactGetVarintRow.holds Try.pinned (OpenSpec.ofChange fnExactGetVarintSpec)

/-- ITS FALSE NEIGHBOUR: 'it returns false'. Refute it at one input. -/
def fnExactGetVarintWrong : ChangeSpec := { name := "fnExactGetVarint", fn := fun _ => fun
  | [d] => { results := [.lit (.bool false)], args := [d] }
  | _ => none }
def FnExactGetVarintWrongFalsely : Prop := fnExactGetVarintRow.holds Try.pinned (OpenSpec.ofChange fnExactGetVarintWrong)

/-- 'laws.FnExactPutSize': WHATEVER THE INPUT: true; the input reads as it did. -/
def fnExactPutSizeSpec : ChangeSpec := { name := "fnExactPutSize", fn := fun _ => fun
  | [d] => { results := [.lit (.bool true)], args := [d] }
  | _ => none }
def fnExactPutSizeRow : OpenClaim := { program := "ytmegoiggchghpao", sum := "af248c421f92fde706a2ba93d49e58a002ea45b58cd23f674bc45db8e270b77e", func := "loop.example/g00774/laws.FnExactPutSize", spec := "fnExactPutSize", apart := false }
def FnExactPutSizeSaid : Prop := fnExactPutSizeRow.holds Try.pinned (OpenSpec.ofChange fnExactPutSizeSpec)

/-- ITS FALSE NEIGHBOUR: 'it returns false'. Refute it at one input. -/
def fnExactPutSizeWrong : ChangeSpec := { name := "fnExactPutSize", fn := fun _ => fun
  | [d] => { results := [.lit (.bool false)], args := [d] }
  | _ => none }
def FnExactPutSizeWrongFalsely : Prop := fnExactPutSizeRow.holds Try.pinned (OpenSpec.ofChange fnExactPutSizeWrong)

/-- 'laws.FnExactGetSize': WHATEVER THE INPUT: true; the input reads as it did. -/
def fnExactGetSizeSpec : ChangeSpec := { name := "fnExactGetSize", fn := fun _ => fun
  | [d] => { results := [.lit (.bool true)], args := [d] }
  | _ => none }
def fnExactGetSizeRow : OpenClaim := { program := "ytmegoiggchghpao", sum := "af248c421f92fde706a2ba93d49e58a002ea45b58cd23f674bc45db8e270b77e", func := "loop.example/g00774/laws.FnExactGetSize", spec := "fnExactGetSize", apart := false }
def FnExactGetSizeSaid : Prop := fnExactGetSizeRow.holds Try.pinned (OpenSpec.ofChange fnExactGetSizeSpec)

/-- ITS FALSE NEIGHBOUR: 'it returns false'. Refute it at one input. -/
def fnExactGetSizeWrong : ChangeSpec := { name := "fnExactGetSize", fn := fun _ => fun
  | [d] => { results := [.lit (.bool false)], args := [d] }
  | _ => none }
def FnExactGetSizeWrongFalsely : Prop := fnExactGetSizeRow.holds Try.pinned (OpenSpec.ofChange fnExactGetSizeWrong)

/-- 'laws.FnExactPutCompact': WHATEVER THE INPUT: true; the input reads as it did. -/
def fnExactPutCompactSpec : ChangeSpec := { name := "fnExactPutCompact", fn := fun _ => fun
  | [d] => { results := [.lit (.bool true)], args := [d] }
  | _ => none }
def fnExactPutCompactRow : OpenClaim := { program := "ytmegoiggchghpao", sum := "af248c421f92fde706a2ba93d49e58a002ea45b58cd23f674bc45db8e270b77e", func := "loop.example/g00774/laws.FnExactPutCompact", spec := "fnExactPutCompact", apart := false }
def FnExactPutCompactSaid : Prop := fnExactPutCompactRow.holds Try.pinned (OpenSpec.ofChange fnExactPutCompactSpec)

/-- ITS FALSE NEIGHBOUR: 'it returns false'. Refute it at one input. -/
def fnExactPutCompactWrong : ChangeSpec := { name := "fnExactPutCompact", fn := fun _ => fun
  | [d] => { results := [.lit (.bool false)], args := [d] }
  | _ => none }
def FnExactPutCompactWrongFalsely : Prop := fnExactPutCompactRow.holds Try.pinned (OpenSpec.ofChange fnExactPutCompactWrong)

/-- 'laws.FnExactGetCompact': WHATEVER THE INPUT: true; the input reads as it did. -/
def fnExactGetCompactSpec : ChangeSpec := { name := "fnExactGetCompact", fn := fun _ => fun
  | [d] => { results := [.lit (.bool true)], args := [d] }
  | _ => none }
def fnExactGetCompactRow : OpenClaim := { program := "ytmegoiggchghpao", sum := "af248c421f92fde706a2ba93d49e58a002ea45b58cd23f674bc45db8e270b77e", func := "loop.example/g00774/laws.FnExactGetCompact", spec := "fnExactGetCompact", apart := false }
def FnExactGetCompactSaid : Prop := fnExactGetCompactRow.holds Try.pinned (OpenSpec.ofChange fnExactGetCompactSpec)

/-- ITS FALSE NEIGHBOUR: 'it returns false'. Refute it at one input. -/
def fnExactGetCompactWrong : ChangeSpec := { name := "fnExactGetCompact", fn := fun _ => fun
  | [d] => { results := [.lit (.bool false)], args := [d] }
  | _ => none }
def FnExactGetCompactWrongFalsely : Prop := fnExactGetCompactRow.holds Try.pinned (OpenSpec.ofChange fnExactGetCompactWrong)

/-- 'laws.FnExactPutHead': WHATEVER THE INPUT: true; the input reads as it did. -/
def fnExactPutHeadSpec : ChangeSpec := { name := "fnExactPutHead", fn := fun _ => fun
  | [d1, d2] => { results := [.lit (.bool true)], args := [d1, d2] }
  | _ => none }
def fnExactPutHeadRow : OpenClaim := { program := "ytmegoiggchghpao", sum := "af248c421f92fde706a2ba93d49e58a002ea45b58cd23f674bc45db8e270b77e", func := "loop.example/g00774/laws.FnExactPutHead", spec := "fnExactPutHead", apart := false }
def FnExactPutHeadSaid : Prop := fnExactPutHeadRow.holds Try.pinned (OpenSpec.ofChange fnExactPutHeadSpec)

/-- ITS FALSE NEIGHBOUR: 'it returns false'. Refute it at one input. -/
def fnExactPutHeadWrong : ChangeSpec := { name := "fnExactPutHead", fn := fun _ => fun
  | [d1, d2] => { results := [.lit (.bool false)], args := [d1, d2] }
  | _ => none }
def FnExactPutHeadWrongFalsely : Prop := fnExactPutHeadRow.holds Try.pinned (OpenSpec.ofChange fnExactPutHeadWrong)

/- THE SECOND FORM. 'bulk': how many values and letters a reading holds, each counted each time it is reached (what is shared counts as often as it is met; a slice's spare places count too). A statement '..UptoSaid' is the law's where the arguments, and the package variables that the reading takes, are together of bulk at most 1048576: NARROWER than '..Said'. Prove '..Said' where nothing that the law and all that it calls make is longer than what came in: it says more and counts as full. Else prove '..UptoSaid'. A law counts once. -/
mutual
def uptoBulk {H : Type} : DataW H → Nat
  | .lit (.string bytes) => bytes.length + 1
  | .lit _ => 1
  | .nil => 1
  | .ptr d => uptoBulk d + 1
  | .slice elems spare => uptoBulkAll elems + uptoBulkAll spare + 1
  | .agg parts => uptoBulkAll parts + 1
  | .iface _ d => uptoBulk d + 1
  | .map entries => uptoBulkEntries entries + 1
  | .held _ => 1
def uptoBulkAll {H : Type} : List (DataW H) → Nat
  | [] => 0
  | d :: r => uptoBulk d + uptoBulkAll r
def uptoBulkEntries {H : Type} : List (Lit × DataW H) → Nat
  | [] => 0
  | x :: r => uptoBulkEntry x + uptoBulkEntries r
def uptoBulkEntry {H : Type} : Lit × DataW H → Nat
  | (.string bytes, d) => bytes.length + uptoBulk d + 1
  | (_, d) => uptoBulk d + 1
 end
def uptoSmall : (H : Type) → List (DataW H) → Bool := fun _ ds => decide (uptoBulkAll ds ≤ 1048576)
def OpenSpec.upto (s : _root_.Go.ChangeSpec) : _root_.Go.OpenSpec := { _root_.Go.OpenSpec.ofChange s with cond := some uptoSmall }

/-- 'laws.FnExactGetVarint', WHERE WHAT IT READS IS OF BULK AT MOST 1048576: true; the input reads as it did. -/
def fnExactGetVarintUptoRow : OpenClaim := { program := "ytmegoiggchghpao", sum := "af248c421f92fde706a2ba93d49e58a002ea45b58cd23f674bc45db8e270b77e", func := "loop.example/g00774/laws.FnExactGetVarint", spec := "fnExactGetVarint", apart := false, narrowed := true }
def FnExactGetVarintUptoSaid : Prop := fnExactGetVarintUptoRow.holds Try.pinned (OpenSpec.upto fnExactGetVarintSpec)

/-- 'laws.FnExactPutSize', WHERE WHAT IT READS IS OF BULK AT MOST 1048576: true; the input reads as it did. -/
def fnExactPutSizeUptoRow : OpenClaim := { program := "ytmegoiggchghpao", sum := "af248c421f92fde706a2ba93d49e58a002ea45b58cd23f674bc45db8e270b77e", func := "loop.example/g00774/laws.FnExactPutSize", spec := "fnExactPutSize", apart := false, narrowed := true }
def FnExactPutSizeUptoSaid : Prop := fnExactPutSizeUptoRow.holds Try.pinned (OpenSpec.upto fnExactPutSizeSpec)

/-- 'laws.FnExactGetSize', WHERE WHAT IT READS IS OF BULK AT MOST 1048576: true; the input reads as it did. -/
def fnExactGetSizeUptoRow : OpenClaim := { program := "ytmegoiggchghpao", sum := "af248c421f92fde706a2ba93d49e58a002ea45b58cd23f674bc45db8e270b77e", func := "loop.example/g00774/laws.FnExactGetSize", spec := "fnExactGetSize", apart := false, narrowed := true }
def FnExactGetSizeUptoSaid : Prop := fnExactGetSizeUptoRow.holds Try.pinned (OpenSpec.upto fnExactGetSizeSpec)

/-- 'laws.FnExactPutCompact', WHERE WHAT IT READS IS OF BULK AT MOST 1048576: true; the input reads as it did. -/
def fnExactPutCompactUptoRow : OpenClaim := { program := "ytmegoiggchghpao", sum := "af248c421f92fde706a2ba93d49e58a002ea45b58cd23f674bc45db8e270b77e", func := "loop.example/g00774/laws.FnExactPutCompact", spec := "fnExactPutCompact", apart := false, narrowed := true }
def FnExactPutCompactUptoSaid : Prop := fnExactPutCompactUptoRow.holds Try.pinned (OpenSpec.upto fnExactPutCompactSpec)

/-- 'laws.FnExactGetCompact', WHERE WHAT IT READS IS OF BULK AT MOST 1048576: true; the input reads as it did. -/
def fnExactGetCompactUptoRow : OpenClaim := { program := "ytmegoiggchghpao", sum := "af248c421f92fde706a2ba93d49e58a002ea45b58cd23f674bc45db8e270b77e", func := "loop.example/g00774/laws.FnExactGetCompact", spec := "fnExactGetCompact", apart := false, narrowed := true }
def FnExactGetCompactUptoSaid : Prop := fnExactGetCompactUptoRow.holds Try.pinned (OpenSpec.upto fnExactGetCompactSpec)

/-- 'laws.FnExactPutHead', WHERE WHAT IT READS IS OF BULK AT MOST 1048576: true; the input reads as it did. -/
def fnExactPutHeadUptoRow : OpenClaim := { program := "ytmegoiggchghpao", sum := "af248c421f92fde706a2ba93d49e58a002ea45b58cd23f674bc45db8e270b77e", func := "loop.example/g00774/laws.FnExactPutHead", spec := "fnExactPutHead", apart := false, narrowed := true }
def FnExactPutHeadUptoSaid : Prop := fnExactPutHeadUptoRow.holds Try.pinned (OpenSpec.upto fnExactPutHeadSpec)

end Rows
end Go.Proofs.Ytmegoiggchghpao
