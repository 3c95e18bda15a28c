/-
  No cell of these rows narrows 'for every input' (looked for: loops, veiled, ifaces, maps, wideKeys, modest, calm, conditions, laid).
  DERIVED. THE GIVEN ROWS OF THIS SEAT. 6 by the template 'for every input the law returns true; each argument reads behind the call as it read before'; 0 by the template 'total and deterministic' (their statements: YtmegoiggchghpaaTotals.lean).
  GIVEN WITH THE SEED: the statements are not yours to turn. If you find one false, say at which input.
  Laid BY PROGRAM, IN A SANDBOX (cutbox-rows.mjs): the forced cells as the released guide's own fill.sh prints them over the translation ea85e0cf168f768a… (all of the seat's roots in one cut). By AI agents, Wed Nov 11 2026. No macro, syntax, notation, axiom, sorry.
-/
import Derived.Test.YtmegoiggchghpaaChecked
import GoSem.Claim
import GoSem.ClaimJoined
import GoSem.ClaimMapViews
import Derived.JoinedTies
import Derived.KernelRfl
namespace Go.Proofs.Ytmegoiggchghpaa
/- THE CELL 'sum', in the pinned program and in every row, IS THE sha256 OF THE DUMP (.gsa) THAT YtmegoiggchghpaaProg.lean LOADS. Nothing in Lean hashes anything: it is a label: what it is worth is what the hold of that sum in a sandbox is worth. -/
noncomputable def Try.pinned : Pinned := { name := "ytmegoiggchghpaa", sum := "ea85e0cf168f768aab48505d415875d09df7d14c548b374b3a59b8dd159897b3", checked := Try.checked }
namespace Rows
def none {H : Type} : Left H := { results := [], args := [] }

/-- 'laws.FnLe': WHATEVER THE INPUT: true; the input reads as it did. -/
def fnLeSpec : ChangeSpec := { name := "fnLe", fn := fun _ => fun
  | [d] => { results := [.lit (.bool true)], args := [d] }
  | _ => none }
def fnLeRow : OpenClaim := { program := "ytmegoiggchghpaa", sum := "ea85e0cf168f768aab48505d415875d09df7d14c548b374b3a59b8dd159897b3", func := "loop.example/g00774/laws.FnLe", spec := "fnLe", apart := false }
def FnLeSaid : Prop := fnLeRow.holds Try.pinned (OpenSpec.ofChange fnLeSpec)

/-- ITS FALSE NEIGHBOUR: 'it returns false'. Refute it at one input. -/
def fnLeWrong : ChangeSpec := { name := "fnLe", fn := fun _ => fun
  | [d] => { results := [.lit (.bool false)], args := [d] }
  | _ => none }
def FnLeWrongFalsely : Prop := fnLeRow.holds Try.pinned (OpenSpec.ofChange fnLeWrong)

/-- 'laws.FnBe': WHATEVER THE INPUT: true; the input reads as it did. -/
def fnBeSpec : ChangeSpec := { name := "fnBe", fn := fun _ => fun
  | [d1, d2] => { results := [.lit (.bool true)], args := [d1, d2] }
  | _ => none }
def fnBeRow : OpenClaim := { program := "ytmegoiggchghpaa", sum := "ea85e0cf168f768aab48505d415875d09df7d14c548b374b3a59b8dd159897b3", func := "loop.example/g00774/laws.FnBe", spec := "fnBe", apart := false }
def FnBeSaid : Prop := fnBeRow.holds Try.pinned (OpenSpec.ofChange fnBeSpec)

/-- ITS FALSE NEIGHBOUR: 'it returns false'. Refute it at one input. -/
def fnBeWrong : ChangeSpec := { name := "fnBe", fn := fun _ => fun
  | [d1, d2] => { results := [.lit (.bool false)], args := [d1, d2] }
  | _ => none }
def FnBeWrongFalsely : Prop := fnBeRow.holds Try.pinned (OpenSpec.ofChange fnBeWrong)

/-- 'laws.FnVarint': WHATEVER THE INPUT: true; the input reads as it did. -/
def fnVarintSpec : ChangeSpec := { name := "fnVarint", fn := fun _ => fun
  | [d] => { results := [.lit (.bool true)], args := [d] }
  | _ => none }
def fnVarintRow : OpenClaim := { program := "ytmegoiggchghpaa", sum := "ea85e0cf168f768aab48505d415875d09df7d14c548b374b3a59b8dd159897b3", func := "loop.example/g00774/laws.FnVarint", spec := "fnVarint", apart := false }
def FnVarintSaid : Prop := fnVarintRow.holds Try.pinned (OpenSpec.ofChange fnVarintSpec)

/-- ITS FALSE NEIGHBOUR: 'it returns false'. Refute it at one input. -/
def fnVarintWrong : ChangeSpec := { name := "fnVarint", fn := fun _ => fun
  | [d] => { results := [.lit (.bool false)], args := [d] }
  | _ => none }
def FnVarintWrongFalsely : Prop := fnVarintRow.holds Try.pinned (OpenSpec.ofChange fnVarintWrong)

/-- 'laws.FnSize': WHATEVER THE INPUT: true; the input reads as it did. -/
def fnSizeSpec : ChangeSpec := { name := "fnSize", fn := fun _ => fun
  | [d] => { results := [.lit (.bool true)], args := [d] }
  | _ => none }
def fnSizeRow : OpenClaim := { program := "ytmegoiggchghpaa", sum := "ea85e0cf168f768aab48505d415875d09df7d14c548b374b3a59b8dd159897b3", func := "loop.example/g00774/laws.FnSize", spec := "fnSize", apart := false }
def FnSizeSaid : Prop := fnSizeRow.holds Try.pinned (OpenSpec.ofChange fnSizeSpec)

/-- ITS FALSE NEIGHBOUR: 'it returns false'. Refute it at one input. -/
def fnSizeWrong : ChangeSpec := { name := "fnSize", fn := fun _ => fun
  | [d] => { results := [.lit (.bool false)], args := [d] }
  | _ => none }
def FnSizeWrongFalsely : Prop := fnSizeRow.holds Try.pinned (OpenSpec.ofChange fnSizeWrong)

/-- 'laws.FnCompact': WHATEVER THE INPUT: true; the input reads as it did. -/
def fnCompactSpec : ChangeSpec := { name := "fnCompact", fn := fun _ => fun
  | [d] => { results := [.lit (.bool true)], args := [d] }
  | _ => none }
def fnCompactRow : OpenClaim := { program := "ytmegoiggchghpaa", sum := "ea85e0cf168f768aab48505d415875d09df7d14c548b374b3a59b8dd159897b3", func := "loop.example/g00774/laws.FnCompact", spec := "fnCompact", apart := false }
def FnCompactSaid : Prop := fnCompactRow.holds Try.pinned (OpenSpec.ofChange fnCompactSpec)

/-- ITS FALSE NEIGHBOUR: 'it returns false'. Refute it at one input. -/
def fnCompactWrong : ChangeSpec := { name := "fnCompact", fn := fun _ => fun
  | [d] => { results := [.lit (.bool false)], args := [d] }
  | _ => none }
def FnCompactWrongFalsely : Prop := fnCompactRow.holds Try.pinned (OpenSpec.ofChange fnCompactWrong)

/-- 'laws.FnHead': WHATEVER THE INPUT: true; the input reads as it did. -/
def fnHeadSpec : ChangeSpec := { name := "fnHead", fn := fun _ => fun
  | [d] => { results := [.lit (.bool true)], args := [d] }
  | _ => none }
def fnHeadRow : OpenClaim := { program := "ytmegoiggchghpaa", sum := "ea85e0cf168f768aab48505d415875d09df7d14c548b374b3a59b8dd159897b3", func := "loop.example/g00774/laws.FnHead", spec := "fnHead", apart := false }
def FnHeadSaid : Prop := fnHeadRow.holds Try.pinned (OpenSpec.ofChange fnHeadSpec)

/-- ITS FALSE NEIGHBOUR: 'it returns false'. Refute it at one input. -/
def fnHeadWrong : ChangeSpec := { name := "fnHead", fn := fun _ => fun
  | [d] => { results := [.lit (.bool false)], args := [d] }
  | _ => none }
def FnHeadWrongFalsely : Prop := fnHeadRow.holds Try.pinned (OpenSpec.ofChange fnHeadWrong)

/- THE SECOND FORM. 'bulk': how many values and letters a reading holds, each counted each time it is reached (what is shared counts as often as it is met; a slice's spare places count too). A statement '..UptoSaid' is the law's where the arguments, and the package variables that the reading takes, are together of bulk at most 1048576: NARROWER than '..Said'. Prove '..Said' where nothing that the law and all that it calls make is longer than what came in: it says more and counts as full. Else prove '..UptoSaid'. A law counts once. -/
mutual
def uptoBulk {H : Type} : DataW H → Nat
  | .lit (.string bytes) => bytes.length + 1
  | .lit _ => 1
  | .nil => 1
  | .ptr d => uptoBulk d + 1
  | .slice elems spare => uptoBulkAll elems + uptoBulkAll spare + 1
  | .agg parts => uptoBulkAll parts + 1
  | .iface _ d => uptoBulk d + 1
  | .map entries => uptoBulkEntries entries + 1
  | .held _ => 1
def uptoBulkAll {H : Type} : List (DataW H) → Nat
  | [] => 0
  | d :: r => uptoBulk d + uptoBulkAll r
def uptoBulkEntries {H : Type} : List (Lit × DataW H) → Nat
  | [] => 0
  | x :: r => uptoBulkEntry x + uptoBulkEntries r
def uptoBulkEntry {H : Type} : Lit × DataW H → Nat
  | (.string bytes, d) => bytes.length + uptoBulk d + 1
  | (_, d) => uptoBulk d + 1
 end
def uptoSmall : (H : Type) → List (DataW H) → Bool := fun _ ds => decide (uptoBulkAll ds ≤ 1048576)
def OpenSpec.upto (s : _root_.Go.ChangeSpec) : _root_.Go.OpenSpec := { _root_.Go.OpenSpec.ofChange s with cond := some uptoSmall }

/-- 'laws.FnLe', WHERE WHAT IT READS IS OF BULK AT MOST 1048576: true; the input reads as it did. -/
def fnLeUptoRow : OpenClaim := { program := "ytmegoiggchghpaa", sum := "ea85e0cf168f768aab48505d415875d09df7d14c548b374b3a59b8dd159897b3", func := "loop.example/g00774/laws.FnLe", spec := "fnLe", apart := false, narrowed := true }
def FnLeUptoSaid : Prop := fnLeUptoRow.holds Try.pinned (OpenSpec.upto fnLeSpec)

/-- 'laws.FnBe', WHERE WHAT IT READS IS OF BULK AT MOST 1048576: true; the input reads as it did. -/
def fnBeUptoRow : OpenClaim := { program := "ytmegoiggchghpaa", sum := "ea85e0cf168f768aab48505d415875d09df7d14c548b374b3a59b8dd159897b3", func := "loop.example/g00774/laws.FnBe", spec := "fnBe", apart := false, narrowed := true }
def FnBeUptoSaid : Prop := fnBeUptoRow.holds Try.pinned (OpenSpec.upto fnBeSpec)

/-- 'laws.FnVarint', WHERE WHAT IT READS IS OF BULK AT MOST 1048576: true; the input reads as it did. -/
def fnVarintUptoRow : OpenClaim := { program := "ytmegoiggchghpaa", sum := "ea85e0cf168f768aab48505d415875d09df7d14c548b374b3a59b8dd159897b3", func := "loop.example/g00774/laws.FnVarint", spec := "fnVarint", apart := false, narrowed := true }
def FnVarintUptoSaid : Prop := fnVarintUptoRow.holds Try.pinned (OpenSpec.upto fnVarintSpec)

/-- 'laws.FnSize', WHERE WHAT IT READS IS OF BULK AT MOST 1048576: true; the input reads as it did. -/
def fnSizeUptoRow : OpenClaim := { program := "ytmegoiggchghpaa", sum := "ea85e0cf168f768aab48505d415875d09df7d14c548b374b3a59b8dd159897b3", func := "loop.example/g00774/laws.FnSize", spec := "fnSize", apart := false, narrowed := true }
def FnSizeUptoSaid : Prop := fnSizeUptoRow.holds Try.pinned (OpenSpec.upto fnSizeSpec)

/-- 'laws.FnCompact', WHERE WHAT IT READS IS OF BULK AT MOST 1048576: true; the input reads as it did. -/
def fnCompactUptoRow : OpenClaim := { program := "ytmegoiggchghpaa", sum := "ea85e0cf168f768aab48505d415875d09df7d14c548b374b3a59b8dd159897b3", func := "loop.example/g00774/laws.FnCompact", spec := "fnCompact", apart := false, narrowed := true }
def FnCompactUptoSaid : Prop := fnCompactUptoRow.holds Try.pinned (OpenSpec.upto fnCompactSpec)

/-- 'laws.FnHead', WHERE WHAT IT READS IS OF BULK AT MOST 1048576: true; the input reads as it did. -/
def fnHeadUptoRow : OpenClaim := { program := "ytmegoiggchghpaa", sum := "ea85e0cf168f768aab48505d415875d09df7d14c548b374b3a59b8dd159897b3", func := "loop.example/g00774/laws.FnHead", spec := "fnHead", apart := false, narrowed := true }
def FnHeadUptoSaid : Prop := fnHeadUptoRow.holds Try.pinned (OpenSpec.upto fnHeadSpec)

end Rows
end Go.Proofs.Ytmegoiggchghpaa
