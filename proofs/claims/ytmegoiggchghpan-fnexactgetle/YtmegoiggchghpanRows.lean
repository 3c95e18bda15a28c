/-
  No cell of these rows narrows 'for every input' (looked for: loops, veiled, ifaces, maps, wideKeys, modest, calm, conditions, laid).
  DERIVED. THE GIVEN ROWS OF THIS SEAT. 5 by the template 'for every input the law returns true; each argument reads behind the call as it read before'; 0 by the template 'total and deterministic' (their statements: YtmegoiggchghpanTotals.lean).
  GIVEN WITH THE SEED: the statements are not yours to turn. If you find one false, say at which input.
  Laid BY PROGRAM, IN A SANDBOX (cutbox-rows.mjs): the forced cells as the released guide's own fill.sh prints them over the translation 172bc4bca07be052… (all of the seat's roots in one cut). By AI agents, Wed Nov 11 2026. No macro, syntax, notation, axiom, sorry.
-/
import Derived.Test.YtmegoiggchghpanChecked
import GoSem.Claim
import GoSem.ClaimJoined
import GoSem.ClaimMapViews
import Derived.JoinedTies
import Derived.KernelRfl
namespace Go.Proofs.Ytmegoiggchghpan
/- THE CELL 'sum', in the pinned program and in every row, IS THE sha256 OF THE DUMP (.gsa) THAT YtmegoiggchghpanProg.lean LOADS. Nothing in Lean hashes anything: it is a label: what it is worth is what the hold of that sum in a sandbox is worth. -/
noncomputable def Try.pinned : Pinned := { name := "ytmegoiggchghpan", sum := "172bc4bca07be052ab37bb387919f5c7e77d0ca35d325a4c2fda9d6878f61d18", checked := Try.checked }
namespace Rows
def none {H : Type} : Left H := { results := [], args := [] }

/-- 'laws.FnExactPutLe': WHATEVER THE INPUT: true; the input reads as it did. -/
def fnExactPutLeSpec : ChangeSpec := { name := "fnExactPutLe", fn := fun _ => fun
  | [d1, d2] => { results := [.lit (.bool true)], args := [d1, d2] }
  | _ => none }
def fnExactPutLeRow : OpenClaim := { program := "ytmegoiggchghpan", sum := "172bc4bca07be052ab37bb387919f5c7e77d0ca35d325a4c2fda9d6878f61d18", func := "loop.example/g00774/laws.FnExactPutLe", spec := "fnExactPutLe", apart := false }
def FnExactPutLeSaid : Prop := fnExactPutLeRow.holds Try.pinned (OpenSpec.ofChange fnExactPutLeSpec)

/-- ITS FALSE NEIGHBOUR: 'it returns false'. Refute it at one input. -/
def fnExactPutLeWrong : ChangeSpec := { name := "fnExactPutLe", fn := fun _ => fun
  | [d1, d2] => { results := [.lit (.bool false)], args := [d1, d2] }
  | _ => none }
def FnExactPutLeWrongFalsely : Prop := fnExactPutLeRow.holds Try.pinned (OpenSpec.ofChange fnExactPutLeWrong)

/-- 'laws.FnExactGetLe': WHATEVER THE INPUT: true; the input reads as it did. -/
def fnExactGetLeSpec : ChangeSpec := { name := "fnExactGetLe", fn := fun _ => fun
  | [d1, d2] => { results := [.lit (.bool true)], args := [d1, d2] }
  | _ => none }
def fnExactGetLeRow : OpenClaim := { program := "ytmegoiggchghpan", sum := "172bc4bca07be052ab37bb387919f5c7e77d0ca35d325a4c2fda9d6878f61d18", func := "loop.example/g00774/laws.FnExactGetLe", spec := "fnExactGetLe", apart := false }
def FnExactGetLeSaid : Prop := fnExactGetLeRow.holds Try.pinned (OpenSpec.ofChange fnExactGetLeSpec)

/-- ITS FALSE NEIGHBOUR: 'it returns false'. Refute it at one input. -/
def fnExactGetLeWrong : ChangeSpec := { name := "fnExactGetLe", fn := fun _ => fun
  | [d1, d2] => { results := [.lit (.bool false)], args := [d1, d2] }
  | _ => none }
def FnExactGetLeWrongFalsely : Prop := fnExactGetLeRow.holds Try.pinned (OpenSpec.ofChange fnExactGetLeWrong)

/-- 'laws.FnExactPutBe': WHATEVER THE INPUT: true; the input reads as it did. -/
def fnExactPutBeSpec : ChangeSpec := { name := "fnExactPutBe", fn := fun _ => fun
  | [d1, d2] => { results := [.lit (.bool true)], args := [d1, d2] }
  | _ => none }
def fnExactPutBeRow : OpenClaim := { program := "ytmegoiggchghpan", sum := "172bc4bca07be052ab37bb387919f5c7e77d0ca35d325a4c2fda9d6878f61d18", func := "loop.example/g00774/laws.FnExactPutBe", spec := "fnExactPutBe", apart := false }
def FnExactPutBeSaid : Prop := fnExactPutBeRow.holds Try.pinned (OpenSpec.ofChange fnExactPutBeSpec)

/-- ITS FALSE NEIGHBOUR: 'it returns false'. Refute it at one input. -/
def fnExactPutBeWrong : ChangeSpec := { name := "fnExactPutBe", fn := fun _ => fun
  | [d1, d2] => { results := [.lit (.bool false)], args := [d1, d2] }
  | _ => none }
def FnExactPutBeWrongFalsely : Prop := fnExactPutBeRow.holds Try.pinned (OpenSpec.ofChange fnExactPutBeWrong)

/-- 'laws.FnExactGetBe': WHATEVER THE INPUT: true; the input reads as it did. -/
def fnExactGetBeSpec : ChangeSpec := { name := "fnExactGetBe", fn := fun _ => fun
  | [d1, d2] => { results := [.lit (.bool true)], args := [d1, d2] }
  | _ => none }
def fnExactGetBeRow : OpenClaim := { program := "ytmegoiggchghpan", sum := "172bc4bca07be052ab37bb387919f5c7e77d0ca35d325a4c2fda9d6878f61d18", func := "loop.example/g00774/laws.FnExactGetBe", spec := "fnExactGetBe", apart := false }
def FnExactGetBeSaid : Prop := fnExactGetBeRow.holds Try.pinned (OpenSpec.ofChange fnExactGetBeSpec)

/-- ITS FALSE NEIGHBOUR: 'it returns false'. Refute it at one input. -/
def fnExactGetBeWrong : ChangeSpec := { name := "fnExactGetBe", fn := fun _ => fun
  | [d1, d2] => { results := [.lit (.bool false)], args := [d1, d2] }
  | _ => none }
def FnExactGetBeWrongFalsely : Prop := fnExactGetBeRow.holds Try.pinned (OpenSpec.ofChange fnExactGetBeWrong)

/-- 'laws.FnExactPutVarint': WHATEVER THE INPUT: true; the input reads as it did. -/
def fnExactPutVarintSpec : ChangeSpec := { name := "fnExactPutVarint", fn := fun _ => fun
  | [d] => { results := [.lit (.bool true)], args := [d] }
  | _ => none }
def fnExactPutVarintRow : OpenClaim := { program := "ytmegoiggchghpan", sum := "172bc4bca07be052ab37bb387919f5c7e77d0ca35d325a4c2fda9d6878f61d18", func := "loop.example/g00774/laws.FnExactPutVarint", spec := "fnExactPutVarint", apart := false }
def FnExactPutVarintSaid : Prop := fnExactPutVarintRow.holds Try.pinned (OpenSpec.ofChange fnExactPutVarintSpec)

/-- ITS FALSE NEIGHBOUR: 'it returns false'. Refute it at one input. -/
def fnExactPutVarintWrong : ChangeSpec := { name := "fnExactPutVarint", fn := fun _ => fun
  | [d] => { results := [.lit (.bool false)], args := [d] }
  | _ => none }
def FnExactPutVarintWrongFalsely : Prop := fnExactPutVarintRow.holds Try.pinned (OpenSpec.ofChange fnExactPutVarintWrong)

/- THE SECOND FORM. 'bulk': how many values and letters a reading holds, each counted each time it is reached (what is shared counts as often as it is met; a slice's spare places count too). A statement '..UptoSaid' is the law's where the arguments, and the package variables that the reading takes, are together of bulk at most 1048576: NARROWER than '..Said'. Prove '..Said' where nothing that the law and all that it calls make is longer than what came in: it says more and counts as full. Else prove '..UptoSaid'. A law counts once. -/
mutual
def uptoBulk {H : Type} : DataW H → Nat
  | .lit (.string bytes) => bytes.length + 1
  | .lit _ => 1
  | .nil => 1
  | .ptr d => uptoBulk d + 1
  | .slice elems spare => uptoBulkAll elems + uptoBulkAll spare + 1
  | .agg parts => uptoBulkAll parts + 1
  | .iface _ d => uptoBulk d + 1
  | .map entries => uptoBulkEntries entries + 1
  | .held _ => 1
def uptoBulkAll {H : Type} : List (DataW H) → Nat
  | [] => 0
  | d :: r => uptoBulk d + uptoBulkAll r
def uptoBulkEntries {H : Type} : List (Lit × DataW H) → Nat
  | [] => 0
  | x :: r => uptoBulkEntry x + uptoBulkEntries r
def uptoBulkEntry {H : Type} : Lit × DataW H → Nat
  | (.string bytes, d) => bytes.length + uptoBulk d + 1
  | (_, d) => uptoBulk d + 1
 end
def uptoSmall : (H : Type) → List (DataW H) → Bool := fun _ ds => decide (uptoBulkAll ds ≤ 1048576)
def OpenSpec.upto (s : _root_.Go.ChangeSpec) : _root_.Go.OpenSpec := { _root_.Go.OpenSpec.ofChange s with cond := some uptoSmall }

/-- 'laws.FnExactPutLe', WHERE WHAT IT READS IS OF BULK AT MOST 1048576: true; the input reads as it did. -/
def fnExactPutLeUptoRow : OpenClaim := { program := "ytmegoiggchghpan", sum := "172bc4bca07be052ab37bb387919f5c7e77d0ca35d325a4c2fda9d6878f61d18", func := "loop.example/g00774/laws.FnExactPutLe", spec := "fnExactPutLe", apart := false, narrowed := true }
def FnExactPutLeUptoSaid : Prop := fnExactPutLeUptoRow.holds Try.pinned (OpenSpec.upto fnExactPutLeSpec)

/-- 'laws.FnExactGetLe', WHERE WHAT IT READS IS OF BULK AT MOST 1048576: true; the input reads as it did. -/
def fnExactGetLeUptoRow : OpenClaim := { program := "ytmegoiggchghpan", sum := "172bc4bca07be052ab37bb387919f5c7e77d0ca35d325a4c2fda9d6878f61d18", func := "loop.example/g00774/laws.FnExactGetLe", spec := "fnExactGetLe", apart := false, narrowed := true }
def FnExactGetLeUptoSaid : Prop := fnExactGetLeUptoRow.holds Try.pinned (OpenSpec.upto fnExactGetLeSpec)

/-- 'laws.FnExactPutBe', WHERE WHAT IT READS IS OF BULK AT MOST 1048576: true; the input reads as it did. -/
def fnExactPutBeUptoRow : OpenClaim := { program := "ytmegoiggchghpan", sum := "172bc4bca07be052ab37bb387919f5c7e77d0ca35d325a4c2fda9d6878f61d18", func := "loop.example/g00774/laws.FnExactPutBe", spec := "fnExactPutBe", apart := false, narrowed := true }
def FnExactPutBeUptoSaid : Prop := fnExactPutBeUptoRow.holds Try.pinned (OpenSpec.upto fnExactPutBeSpec)

/-- 'laws.FnExactGetBe', WHERE WHAT IT READS IS OF BULK AT MOST 1048576: true; the input reads as it did. -/
def fnExactGetBeUptoRow : OpenClaim := { program := "ytmegoiggchghpan", sum := "172bc4bca07be052ab37bb387919f5c7e77d0ca35d325a4c2fda9d6878f61d18", func := "loop.example/g00774/laws.FnExactGetBe", spec := "fnExactGetBe", apart := false, narrowed := true }
def FnExactGetBeUptoSaid : Prop := fnExactGetBeUptoRow.holds Try.pinned (OpenSpec.upto fnExactGetBeSpec)

/-- 'laws.FnExactPutVarint', WHERE WHAT IT READS IS OF BULK AT MOST 1048576: true; the input reads as it did. -/
def fnExactPutVarintUptoRow : OpenClaim := { program := "ytmegoiggchghpan", sum := "172bc4bca07be052ab37bb387919f5c7e77d0ca35d325a4c2fda9d6878f61d18", func := "loop.example/g00774/laws.FnExactPutVarint", spec := "fnExactPutVarint", apart := false, narrowed := true }
def FnExactPutVarintUptoSaid : Prop := fnExactPutVarintUptoRow.holds Try.pinned (OpenSpec.upto fnExactPutVarintSpec)

end Rows
end Go.Proofs.Ytmegoiggchghpan
