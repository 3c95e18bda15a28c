/-
  NARROWER THAN 'FOR EVERY INPUT', by the rows' own cells (each row's printed sentence says how): FnExactSchemaOk: laid · FnExactDepthOf: laid · FnExactEndOf: laid · FnEnds: laid · FnDepth: laid.
  DERIVED. THE GIVEN ROWS OF THIS SEAT. 5 by the template 'for every input the law returns true; each argument reads behind the call as it read before'; 0 by the template 'total and deterministic' (their statements: YtdphfgdmgckifaaDoorTotals.lean).
  GIVEN WITH THE SEED: the statements are not yours to turn. If you find one false, say at which input.
  Laid BY PROGRAM, IN A SANDBOX (cutbox-rows.mjs): the forced cells as the released guide's own fill.sh prints them over the translation 56622c978b06e330… (all of the seat's roots in one cut). By AI agents, Wed Nov 11 2026. No macro, syntax, notation, axiom, sorry.
-/
import Derived.Test.YtdphfgdmgckifaaDoorChecked
import GoSem.Claim
import GoSem.ClaimJoined
import GoSem.ClaimMapViews
import Derived.JoinedTies
import Derived.KernelRfl
namespace Go.Proofs.YtdphfgdmgckifaaDoor
/- THE CELL 'sum', in the pinned program and in every row, IS THE sha256 OF THE DUMP (.gsa) THAT YtdphfgdmgckifaaDoorProg.lean LOADS. Nothing in Lean hashes anything: it is a label: what it is worth is what the hold of that sum in a sandbox is worth. -/
noncomputable def Tryd.pinned : Pinned := { name := "ytdphfgdmgckifaadoor", sum := "56622c978b06e33047550f0f4f251e4564d651ab6bce77872cf056f0df459b59", checked := Tryd.checked }
namespace Rows
def none {H : Type} : Left H := { results := [], args := [] }

/- WHAT THE LISTED PACKAGE-LEVEL VARIABLES READ AS WHEN THE CALL BEGINS. Each datum BY PROGRAM (the guide's laid-datum.mjs) off the statement by which the dump's own 'gosem.cut.vars' lays the variable. In a bare row this is a premise. The card (YtdphfgdmgckifaaDoorCards.lean) ties it to the program's text. -/
def laid_loop_example_g00774_impl_kindRows {H : Type} : DataW H := .agg [.agg [.lit (.int .i64 1), .lit (.string [117]), .lit (.bool true), .lit (.int .i64 8), .lit (.int .i64 64)], .agg [.lit (.int .i64 2), .lit (.string [98, 111, 111, 108]), .lit (.bool false), .lit (.int .i64 0), .lit (.int .i64 0)], .agg [.lit (.int .i64 3), .lit (.string [98, 121, 116, 101, 115]), .lit (.bool true), .lit (.int .i64 0), .lit (.int .i64 200)], .agg [.lit (.int .i64 4), .lit (.string [102, 105, 120, 101, 100]), .lit (.bool true), .lit (.int .i64 1), .lit (.int .i64 64)], .agg [.lit (.int .i64 5), .lit (.string [108, 105, 115, 116]), .lit (.bool true), .lit (.int .i64 1), .lit (.int .i64 20)], .agg [.lit (.int .i64 6), .lit (.string [118, 101, 99, 116, 111, 114]), .lit (.bool true), .lit (.int .i64 1), .lit (.int .i64 8)], .agg [.lit (.int .i64 7), .lit (.string [115, 116, 114, 117, 99, 116]), .lit (.bool true), .lit (.int .i64 1), .lit (.int .i64 6)], .agg [.lit (.int .i64 8), .lit (.string [111, 112, 116, 105, 111, 110]), .lit (.bool false), .lit (.int .i64 0), .lit (.int .i64 0)], .agg [.lit (.int .i64 9), .lit (.string [117, 110, 105, 111, 110]), .lit (.bool true), .lit (.int .i64 1), .lit (.int .i64 4)]]

/-- 'laws.FnExactSchemaOk': WHATEVER THE INPUT: true; the input reads as it did. -/
def fnExactSchemaOkSpec : ChangeSpec := { name := "fnExactSchemaOk", vars := ["loop.example/g00774/impl.kindRows"], fn := fun _ => fun
  | [d, g1] => { results := [.lit (.bool true)], args := [d], vars := [g1] }
  | _ => none }
def fnExactSchemaOkRow : OpenClaim := { program := "ytdphfgdmgckifaadoor", sum := "56622c978b06e33047550f0f4f251e4564d651ab6bce77872cf056f0df459b59", func := "loop.example/g00774/laws.FnExactSchemaOk", spec := "fnExactSchemaOk", recurses := true, named := ["loop.example/g00774/impl.kindRows"], apart := false, laid := [("loop.example/g00774/impl.kindRows", laid_loop_example_g00774_impl_kindRows)] }
def FnExactSchemaOkSaid : Prop := fnExactSchemaOkRow.holds Tryd.pinned (OpenSpec.ofChange fnExactSchemaOkSpec)

/-- ITS FALSE NEIGHBOUR: 'it returns false'. Refute it at one input. -/
def fnExactSchemaOkWrong : ChangeSpec := { name := "fnExactSchemaOk", vars := ["loop.example/g00774/impl.kindRows"], fn := fun _ => fun
  | [d, g1] => { results := [.lit (.bool false)], args := [d], vars := [g1] }
  | _ => none }
def FnExactSchemaOkWrongFalsely : Prop := fnExactSchemaOkRow.holds Tryd.pinned (OpenSpec.ofChange fnExactSchemaOkWrong)

/-- 'laws.FnExactDepthOf': WHATEVER THE INPUT: true; the input reads as it did. -/
def fnExactDepthOfSpec : ChangeSpec := { name := "fnExactDepthOf", vars := ["loop.example/g00774/impl.kindRows"], fn := fun _ => fun
  | [d, g1] => { results := [.lit (.bool true)], args := [d], vars := [g1] }
  | _ => none }
def fnExactDepthOfRow : OpenClaim := { program := "ytdphfgdmgckifaadoor", sum := "56622c978b06e33047550f0f4f251e4564d651ab6bce77872cf056f0df459b59", func := "loop.example/g00774/laws.FnExactDepthOf", spec := "fnExactDepthOf", recurses := true, named := ["loop.example/g00774/impl.kindRows"], apart := false, laid := [("loop.example/g00774/impl.kindRows", laid_loop_example_g00774_impl_kindRows)] }
def FnExactDepthOfSaid : Prop := fnExactDepthOfRow.holds Tryd.pinned (OpenSpec.ofChange fnExactDepthOfSpec)

/-- ITS FALSE NEIGHBOUR: 'it returns false'. Refute it at one input. -/
def fnExactDepthOfWrong : ChangeSpec := { name := "fnExactDepthOf", vars := ["loop.example/g00774/impl.kindRows"], fn := fun _ => fun
  | [d, g1] => { results := [.lit (.bool false)], args := [d], vars := [g1] }
  | _ => none }
def FnExactDepthOfWrongFalsely : Prop := fnExactDepthOfRow.holds Tryd.pinned (OpenSpec.ofChange fnExactDepthOfWrong)

/-- 'laws.FnExactEndOf': WHATEVER THE INPUT: true; the input reads as it did. -/
def fnExactEndOfSpec : ChangeSpec := { name := "fnExactEndOf", vars := ["loop.example/g00774/impl.kindRows"], fn := fun _ => fun
  | [d1, d2, g1] => { results := [.lit (.bool true)], args := [d1, d2], vars := [g1] }
  | _ => none }
def fnExactEndOfRow : OpenClaim := { program := "ytdphfgdmgckifaadoor", sum := "56622c978b06e33047550f0f4f251e4564d651ab6bce77872cf056f0df459b59", func := "loop.example/g00774/laws.FnExactEndOf", spec := "fnExactEndOf", recurses := true, named := ["loop.example/g00774/impl.kindRows"], apart := false, laid := [("loop.example/g00774/impl.kindRows", laid_loop_example_g00774_impl_kindRows)] }
def FnExactEndOfSaid : Prop := fnExactEndOfRow.holds Tryd.pinned (OpenSpec.ofChange fnExactEndOfSpec)

/-- ITS FALSE NEIGHBOUR: 'it returns false'. Refute it at one input. -/
def fnExactEndOfWrong : ChangeSpec := { name := "fnExactEndOf", vars := ["loop.example/g00774/impl.kindRows"], fn := fun _ => fun
  | [d1, d2, g1] => { results := [.lit (.bool false)], args := [d1, d2], vars := [g1] }
  | _ => none }
def FnExactEndOfWrongFalsely : Prop := fnExactEndOfRow.holds Tryd.pinned (OpenSpec.ofChange fnExactEndOfWrong)

/-- 'laws.FnEnds': WHATEVER THE INPUT: true; the input reads as it did. -/
def fnEndsSpec : ChangeSpec := { name := "fnEnds", vars := ["loop.example/g00774/impl.kindRows"], fn := fun _ => fun
  | [d, g1] => { results := [.lit (.bool true)], args := [d], vars := [g1] }
  | _ => none }
def fnEndsRow : OpenClaim := { program := "ytdphfgdmgckifaadoor", sum := "56622c978b06e33047550f0f4f251e4564d651ab6bce77872cf056f0df459b59", func := "loop.example/g00774/laws.FnEnds", spec := "fnEnds", recurses := true, named := ["loop.example/g00774/impl.kindRows"], apart := false, laid := [("loop.example/g00774/impl.kindRows", laid_loop_example_g00774_impl_kindRows)] }
def FnEndsSaid : Prop := fnEndsRow.holds Tryd.pinned (OpenSpec.ofChange fnEndsSpec)

/-- ITS FALSE NEIGHBOUR: 'it returns false'. Refute it at one input. -/
def fnEndsWrong : ChangeSpec := { name := "fnEnds", vars := ["loop.example/g00774/impl.kindRows"], fn := fun _ => fun
  | [d, g1] => { results := [.lit (.bool false)], args := [d], vars := [g1] }
  | _ => none }
def FnEndsWrongFalsely : Prop := fnEndsRow.holds Tryd.pinned (OpenSpec.ofChange fnEndsWrong)

/-- 'laws.FnDepth': WHATEVER THE INPUT: true; the input reads as it did. -/
def fnDepthSpec : ChangeSpec := { name := "fnDepth", vars := ["loop.example/g00774/impl.kindRows"], fn := fun _ => fun
  | [d, g1] => { results := [.lit (.bool true)], args := [d], vars := [g1] }
  | _ => none }
def fnDepthRow : OpenClaim := { program := "ytdphfgdmgckifaadoor", sum := "56622c978b06e33047550f0f4f251e4564d651ab6bce77872cf056f0df459b59", func := "loop.example/g00774/laws.FnDepth", spec := "fnDepth", recurses := true, named := ["loop.example/g00774/impl.kindRows"], apart := false, laid := [("loop.example/g00774/impl.kindRows", laid_loop_example_g00774_impl_kindRows)] }
def FnDepthSaid : Prop := fnDepthRow.holds Tryd.pinned (OpenSpec.ofChange fnDepthSpec)

/-- ITS FALSE NEIGHBOUR: 'it returns false'. Refute it at one input. -/
def fnDepthWrong : ChangeSpec := { name := "fnDepth", vars := ["loop.example/g00774/impl.kindRows"], fn := fun _ => fun
  | [d, g1] => { results := [.lit (.bool false)], args := [d], vars := [g1] }
  | _ => none }
def FnDepthWrongFalsely : Prop := fnDepthRow.holds Tryd.pinned (OpenSpec.ofChange fnDepthWrong)

/- THE SECOND FORM. 'bulk': how many values and letters a reading holds, each counted each time it is reached (what is shared counts as often as it is met; a slice's spare places count too). A statement '..UptoSaid' is the law's where the arguments, and the package variables that the reading takes, are together of bulk at most 1048576: NARROWER than '..Said'. Prove '..Said' where nothing that the law and all that it calls make is longer than what came in: it says more and counts as full. Else prove '..UptoSaid'. A law counts once. -/
mutual
def uptoBulk {H : Type} : DataW H → Nat
  | .lit (.string bytes) => bytes.length + 1
  | .lit _ => 1
  | .nil => 1
  | .ptr d => uptoBulk d + 1
  | .slice elems spare => uptoBulkAll elems + uptoBulkAll spare + 1
  | .agg parts => uptoBulkAll parts + 1
  | .iface _ d => uptoBulk d + 1
  | .map entries => uptoBulkEntries entries + 1
  | .held _ => 1
def uptoBulkAll {H : Type} : List (DataW H) → Nat
  | [] => 0
  | d :: r => uptoBulk d + uptoBulkAll r
def uptoBulkEntries {H : Type} : List (Lit × DataW H) → Nat
  | [] => 0
  | x :: r => uptoBulkEntry x + uptoBulkEntries r
def uptoBulkEntry {H : Type} : Lit × DataW H → Nat
  | (.string bytes, d) => bytes.length + uptoBulk d + 1
  | (_, d) => uptoBulk d + 1
 end
def uptoSmall : (H : Type) → List (DataW H) → Bool := fun _ ds => decide (uptoBulkAll ds ≤ 1048576)
def OpenSpec.upto (s : _root_.Go.ChangeSpec) : _root_.Go.OpenSpec := { _root_.Go.OpenSpec.ofChange s with cond := some uptoSmall }

/-- 'laws.FnExactSchemaOk', WHERE WHAT IT READS IS OF BULK AT MOST 1048576: true; the input reads as it did. -/
def fnExactSchemaOkUptoRow : OpenClaim := { program := "ytdphfgdmgckifaadoor", sum := "56622c978b06e33047550f0f4f251e4564d651ab6bce77872cf056f0df459b59", func := "loop.example/g00774/laws.FnExactSchemaOk", spec := "fnExactSchemaOk", recurses := true, named := ["loop.example/g00774/impl.kindRows"], apart := false, laid := [("loop.example/g00774/impl.kindRows", laid_loop_example_g00774_impl_kindRows)], narrowed := true }
def FnExactSchemaOkUptoSaid : Prop := fnExactSchemaOkUptoRow.holds Tryd.pinned (OpenSpec.upto fnExactSchemaOkSpec)

/-- 'laws.FnExactDepthOf', WHERE WHAT IT READS IS OF BULK AT MOST 1048576: true; the input reads as it did. -/
def fnExactDepthOfUptoRow : OpenClaim := { program := "ytdphfgdmgckifaadoor", sum := "56622c978b06e33047550f0f4f251e4564d651ab6bce77872cf056f0df459b59", func := "loop.example/g00774/laws.FnExactDepthOf", spec := "fnExactDepthOf", recurses := true, named := ["loop.example/g00774/impl.kindRows"], apart := false, laid := [("loop.example/g00774/impl.kindRows", laid_loop_example_g00774_impl_kindRows)], narrowed := true }
def FnExactDepthOfUptoSaid : Prop := fnExactDepthOfUptoRow.holds Tryd.pinned (OpenSpec.upto fnExactDepthOfSpec)

/-- 'laws.FnExactEndOf', WHERE WHAT IT READS IS OF BULK AT MOST 1048576: true; the input reads as it did. -/
def fnExactEndOfUptoRow : OpenClaim := { program := "ytdphfgdmgckifaadoor", sum := "56622c978b06e33047550f0f4f251e4564d651ab6bce77872cf056f0df459b59", func := "loop.example/g00774/laws.FnExactEndOf", spec := "fnExactEndOf", recurses := true, named := ["loop.example/g00774/impl.kindRows"], apart := false, laid := [("loop.example/g00774/impl.kindRows", laid_loop_example_g00774_impl_kindRows)], narrowed := true }
def FnExactEndOfUptoSaid : Prop := fnExactEndOfUptoRow.holds Tryd.pinned (OpenSpec.upto fnExactEndOfSpec)

/-- 'laws.FnEnds', WHERE WHAT IT READS IS OF BULK AT MOST 1048576: true; the input reads as it did. -/
def fnEndsUptoRow : OpenClaim := { program := "ytdphfgdmgckifaadoor", sum := "56622c978b06e33047550f0f4f251e4564d651ab6bce77872cf056f0df459b59", func := "loop.example/g00774/laws.FnEnds", spec := "fnEnds", recurses := true, named := ["loop.example/g00774/impl.kindRows"], apart := false, laid := [("loop.example/g00774/impl.kindRows", laid_loop_example_g00774_impl_kindRows)], narrowed := true }
def FnEndsUptoSaid : Prop := fnEndsUptoRow.holds Tryd.pinned (OpenSpec.upto fnEndsSpec)

/-- 'laws.FnDepth', WHERE WHAT IT READS IS OF BULK AT MOST 1048576: true; the input reads as it did. -/
def fnDepthUptoRow : OpenClaim := { program := "ytdphfgdmgckifaadoor", sum := "56622c978b06e33047550f0f4f251e4564d651ab6bce77872cf056f0df459b59", func := "loop.example/g00774/laws.FnDepth", spec := "fnDepth", recurses := true, named := ["loop.example/g00774/impl.kindRows"], apart := false, laid := [("loop.example/g00774/impl.kindRows", laid_loop_example_g00774_impl_kindRows)], narrowed := true }
def FnDepthUptoSaid : Prop := fnDepthUptoRow.holds Tryd.pinned (OpenSpec.upto fnDepthSpec)

end Rows
end Go.Proofs.YtdphfgdmgckifaaDoor
