/-
  NARROWER THAN 'FOR EVERY INPUT', by the rows' own cells (each row's printed sentence says how): FnExactCmdText: laid · FnExactReadCmd: laid.
  DERIVED. THE GIVEN ROWS OF THIS SEAT. 2 by the template 'for every input the law returns true; each argument reads behind the call as it read before'; 0 by the template 'total and deterministic' (their statements: YtdbkglnmmaglcaaDoorTotals.lean).
  GIVEN WITH THE SEED: the statements are not yours to turn. If you find one false, say at which input.
  Laid BY PROGRAM, IN A SANDBOX (cutbox-rows.mjs): the forced cells as the released guide's own fill.sh prints them over the translation 2afb13980656ebbf… (all of the seat's roots in one cut). By AI agents, Wed Nov 11 2026. No macro, syntax, notation, axiom, sorry.
-/
import Derived.Test.YtdbkglnmmaglcaaDoorChecked
import GoSem.Claim
import GoSem.ClaimJoined
import GoSem.ClaimMapViews
import Derived.JoinedTies
import Derived.KernelRfl
namespace Go.Proofs.YtdbkglnmmaglcaaDoor
/- THE CELL 'sum', in the pinned program and in every row, IS THE sha256 OF THE DUMP (.gsa) THAT YtdbkglnmmaglcaaDoorProg.lean LOADS. Nothing in Lean hashes anything: it is a label: what it is worth is what the hold of that sum in a sandbox is worth. -/
noncomputable def Tryd.pinned : Pinned := { name := "ytdbkglnmmaglcaadoor", sum := "2afb13980656ebbf3513fa5d4420cdf421404fd5d2415d003bd1e5e80138ca48", checked := Tryd.checked }
namespace Rows
def none {H : Type} : Left H := { results := [], args := [] }

/- WHAT THE LISTED PACKAGE-LEVEL VARIABLES READ AS WHEN THE CALL BEGINS. Each datum BY PROGRAM (the guide's laid-datum.mjs) off the statement by which the dump's own 'gosem.cut.vars' lays the variable. In a bare row this is a premise. The card (YtdbkglnmmaglcaaDoorCards.lean) ties it to the program's text. -/
def laid_loop_example_g00774_impl_formatNames {H : Type} : DataW H := .agg [.lit (.string [114, 108, 112]), .lit (.string [115, 115, 122]), .lit (.string [115, 99, 97, 108, 101]), .lit (.string [112, 114, 111, 116, 111]), .lit (.string [98, 105, 116, 99, 111, 105, 110])]

/-- 'laws.FnExactCmdText': WHATEVER THE INPUT: true; the input reads as it did. -/
def fnExactCmdTextSpec : ChangeSpec := { name := "fnExactCmdText", vars := ["loop.example/g00774/impl.formatNames"], fn := fun _ => fun
  | [d, g1] => { results := [.lit (.bool true)], args := [d], vars := [g1] }
  | _ => none }
def fnExactCmdTextRow : OpenClaim := { program := "ytdbkglnmmaglcaadoor", sum := "2afb13980656ebbf3513fa5d4420cdf421404fd5d2415d003bd1e5e80138ca48", func := "loop.example/g00774/laws.FnExactCmdText", spec := "fnExactCmdText", named := ["loop.example/g00774/impl.formatNames"], apart := false, laid := [("loop.example/g00774/impl.formatNames", laid_loop_example_g00774_impl_formatNames)] }
def FnExactCmdTextSaid : Prop := fnExactCmdTextRow.holds Tryd.pinned (OpenSpec.ofChange fnExactCmdTextSpec)

/-- ITS FALSE NEIGHBOUR: 'it returns false'. Refute it at one input. -/
def fnExactCmdTextWrong : ChangeSpec := { name := "fnExactCmdText", vars := ["loop.example/g00774/impl.formatNames"], fn := fun _ => fun
  | [d, g1] => { results := [.lit (.bool false)], args := [d], vars := [g1] }
  | _ => none }
def FnExactCmdTextWrongFalsely : Prop := fnExactCmdTextRow.holds Tryd.pinned (OpenSpec.ofChange fnExactCmdTextWrong)

/-- 'laws.FnExactReadCmd': WHATEVER THE INPUT: true; the input reads as it did. -/
def fnExactReadCmdSpec : ChangeSpec := { name := "fnExactReadCmd", vars := ["loop.example/g00774/impl.formatNames"], fn := fun _ => fun
  | [d, g1] => { results := [.lit (.bool true)], args := [d], vars := [g1] }
  | _ => none }
def fnExactReadCmdRow : OpenClaim := { program := "ytdbkglnmmaglcaadoor", sum := "2afb13980656ebbf3513fa5d4420cdf421404fd5d2415d003bd1e5e80138ca48", func := "loop.example/g00774/laws.FnExactReadCmd", spec := "fnExactReadCmd", inPlace := ["internal/bytealg.IndexByteString"], named := ["loop.example/g00774/impl.formatNames"], apart := false, laid := [("loop.example/g00774/impl.formatNames", laid_loop_example_g00774_impl_formatNames)] }
def FnExactReadCmdSaid : Prop := fnExactReadCmdRow.holds Tryd.pinned (OpenSpec.ofChange fnExactReadCmdSpec)

/-- ITS FALSE NEIGHBOUR: 'it returns false'. Refute it at one input. -/
def fnExactReadCmdWrong : ChangeSpec := { name := "fnExactReadCmd", vars := ["loop.example/g00774/impl.formatNames"], fn := fun _ => fun
  | [d, g1] => { results := [.lit (.bool false)], args := [d], vars := [g1] }
  | _ => none }
def FnExactReadCmdWrongFalsely : Prop := fnExactReadCmdRow.holds Tryd.pinned (OpenSpec.ofChange fnExactReadCmdWrong)

/- THE SECOND FORM. 'bulk': how many values and letters a reading holds, each counted each time it is reached (what is shared counts as often as it is met; a slice's spare places count too). A statement '..UptoSaid' is the law's where the arguments, and the package variables that the reading takes, are together of bulk at most 1048576: NARROWER than '..Said'. Prove '..Said' where nothing that the law and all that it calls make is longer than what came in: it says more and counts as full. Else prove '..UptoSaid'. A law counts once. -/
mutual
def uptoBulk {H : Type} : DataW H → Nat
  | .lit (.string bytes) => bytes.length + 1
  | .lit _ => 1
  | .nil => 1
  | .ptr d => uptoBulk d + 1
  | .slice elems spare => uptoBulkAll elems + uptoBulkAll spare + 1
  | .agg parts => uptoBulkAll parts + 1
  | .iface _ d => uptoBulk d + 1
  | .map entries => uptoBulkEntries entries + 1
  | .held _ => 1
def uptoBulkAll {H : Type} : List (DataW H) → Nat
  | [] => 0
  | d :: r => uptoBulk d + uptoBulkAll r
def uptoBulkEntries {H : Type} : List (Lit × DataW H) → Nat
  | [] => 0
  | x :: r => uptoBulkEntry x + uptoBulkEntries r
def uptoBulkEntry {H : Type} : Lit × DataW H → Nat
  | (.string bytes, d) => bytes.length + uptoBulk d + 1
  | (_, d) => uptoBulk d + 1
 end
def uptoSmall : (H : Type) → List (DataW H) → Bool := fun _ ds => decide (uptoBulkAll ds ≤ 1048576)
def OpenSpec.upto (s : _root_.Go.ChangeSpec) : _root_.Go.OpenSpec := { _root_.Go.OpenSpec.ofChange s with cond := some uptoSmall }

/-- 'laws.FnExactCmdText', WHERE WHAT IT READS IS OF BULK AT MOST 1048576: true; the input reads as it did. -/
def fnExactCmdTextUptoRow : OpenClaim := { program := "ytdbkglnmmaglcaadoor", sum := "2afb13980656ebbf3513fa5d4420cdf421404fd5d2415d003bd1e5e80138ca48", func := "loop.example/g00774/laws.FnExactCmdText", spec := "fnExactCmdText", named := ["loop.example/g00774/impl.formatNames"], apart := false, laid := [("loop.example/g00774/impl.formatNames", laid_loop_example_g00774_impl_formatNames)], narrowed := true }
def FnExactCmdTextUptoSaid : Prop := fnExactCmdTextUptoRow.holds Tryd.pinned (OpenSpec.upto fnExactCmdTextSpec)

/-- 'laws.FnExactReadCmd', WHERE WHAT IT READS IS OF BULK AT MOST 1048576: true; the input reads as it did. -/
def fnExactReadCmdUptoRow : OpenClaim := { program := "ytdbkglnmmaglcaadoor", sum := "2afb13980656ebbf3513fa5d4420cdf421404fd5d2415d003bd1e5e80138ca48", func := "loop.example/g00774/laws.FnExactReadCmd", spec := "fnExactReadCmd", inPlace := ["internal/bytealg.IndexByteString"], named := ["loop.example/g00774/impl.formatNames"], apart := false, laid := [("loop.example/g00774/impl.formatNames", laid_loop_example_g00774_impl_formatNames)], narrowed := true }
def FnExactReadCmdUptoSaid : Prop := fnExactReadCmdUptoRow.holds Tryd.pinned (OpenSpec.upto fnExactReadCmdSpec)

end Rows
end Go.Proofs.YtdbkglnmmaglcaaDoor
