/-
  NARROWER THAN 'FOR EVERY INPUT', by the rows' own cells (each row's printed sentence says how): FnRlp: ifaces, laid · FnRlpDec: ifaces, laid · FnRlpEnds: ifaces, laid.
  DERIVED. THE GIVEN ROWS OF THIS SEAT. 3 by the template 'for every input the law returns true; each argument reads behind the call as it read before'; 0 by the template 'total and deterministic' (their statements: YtdncnjmlicdamaaGreatDoorTotals.lean).
  GIVEN WITH THE SEED: the statements are not yours to turn. If you find one false, say at which input.
  Laid BY PROGRAM, IN A SANDBOX (cutbox-rows.mjs): the forced cells as the released guide's own fill.sh prints them over the translation 398a1deda93eeead… (all of the seat's roots in one cut). By AI agents, Wed Nov 11 2026. No macro, syntax, notation, axiom, sorry.
-/
import Derived.Test.YtdncnjmlicdamaaGreatDoorChecked
import GoSem.Claim
import GoSem.ClaimJoined
import GoSem.ClaimMapViews
import Derived.JoinedTies
import Derived.KernelRfl
namespace Go.Proofs.YtdncnjmlicdamaaGreatDoor
/- THE CELL 'sum', in the pinned program and in every row, IS THE sha256 OF THE DUMP (.gsa) THAT YtdncnjmlicdamaaGreatDoorProg.lean LOADS. Nothing in Lean hashes anything: it is a label: what it is worth is what the hold of that sum in a sandbox is worth. -/
noncomputable def Tryz.pinned : Pinned := { name := "ytdncnjmlicdamaagreatdoor", sum := "398a1deda93eeead03073ded2e77db22bc58c28d7a2c8edcbd720f0067171296", checked := Tryz.checked }
namespace Rows
def none {H : Type} : Left H := { results := [], args := [] }

/- WHAT THE LISTED PACKAGE-LEVEL VARIABLES READ AS WHEN THE CALL BEGINS. Each datum BY PROGRAM (the guide's laid-datum.mjs) off the statement by which the dump's own 'gosem.cut.vars' lays the variable. In a bare row this is a premise. The card (YtdncnjmlicdamaaGreatDoorCards.lean) ties it to the program's text. -/
def laid_loop_example_g00774_impl_kindRows {H : Type} : DataW H := .agg [.agg [.lit (.int .i64 1), .lit (.string [117]), .lit (.bool true), .lit (.int .i64 8), .lit (.int .i64 64)], .agg [.lit (.int .i64 2), .lit (.string [98, 111, 111, 108]), .lit (.bool false), .lit (.int .i64 0), .lit (.int .i64 0)], .agg [.lit (.int .i64 3), .lit (.string [98, 121, 116, 101, 115]), .lit (.bool true), .lit (.int .i64 0), .lit (.int .i64 200)], .agg [.lit (.int .i64 4), .lit (.string [102, 105, 120, 101, 100]), .lit (.bool true), .lit (.int .i64 1), .lit (.int .i64 64)], .agg [.lit (.int .i64 5), .lit (.string [108, 105, 115, 116]), .lit (.bool true), .lit (.int .i64 1), .lit (.int .i64 20)], .agg [.lit (.int .i64 6), .lit (.string [118, 101, 99, 116, 111, 114]), .lit (.bool true), .lit (.int .i64 1), .lit (.int .i64 8)], .agg [.lit (.int .i64 7), .lit (.string [115, 116, 114, 117, 99, 116]), .lit (.bool true), .lit (.int .i64 1), .lit (.int .i64 6)], .agg [.lit (.int .i64 8), .lit (.string [111, 112, 116, 105, 111, 110]), .lit (.bool false), .lit (.int .i64 0), .lit (.int .i64 0)], .agg [.lit (.int .i64 9), .lit (.string [117, 110, 105, 111, 110]), .lit (.bool true), .lit (.int .i64 1), .lit (.int .i64 4)]]
def laid_loop_example_g00774_impl_errType {H : Type} : DataW H := .iface "*errors.errorString" (.ptr (.agg [.lit (.string [110, 111, 32, 115, 99, 104, 101, 109, 97, 44, 32, 111, 114, 32, 110, 111, 32, 118, 97, 108, 117, 101, 32, 111, 102, 32, 105, 116])]))
def laid_loop_example_g00774_impl_errForm {H : Type} : DataW H := .iface "*errors.errorString" (.ptr (.agg [.lit (.string [110, 111, 32, 98, 121, 116, 101, 115, 32, 111, 102, 32, 97, 32, 118, 97, 108, 117, 101])]))

/-- 'laws.FnRlp': WHATEVER THE INPUT: true; the input reads as it did. -/
def fnRlpSpec : ChangeSpec := { name := "fnRlp", vars := ["loop.example/g00774/impl.errType", "loop.example/g00774/impl.kindRows", "loop.example/g00774/impl.errForm"], fn := fun _ => fun
  | [d, g1, g2, g3] => { results := [.lit (.bool true)], args := [d], vars := [g1, g2, g3] }
  | _ => none }
def fnRlpRow : OpenClaim := { program := "ytdncnjmlicdamaagreatdoor", sum := "398a1deda93eeead03073ded2e77db22bc58c28d7a2c8edcbd720f0067171296", func := "loop.example/g00774/laws.FnRlp", spec := "fnRlp", unfollowed := true, recurses := true, named := ["loop.example/g00774/impl.errType", "loop.example/g00774/impl.kindRows", "loop.example/g00774/impl.errForm"], ifaces := true, apart := false, laid := [("loop.example/g00774/impl.kindRows", laid_loop_example_g00774_impl_kindRows), ("loop.example/g00774/impl.errType", laid_loop_example_g00774_impl_errType), ("loop.example/g00774/impl.errForm", laid_loop_example_g00774_impl_errForm)] }
def FnRlpSaid : Prop := fnRlpRow.holds Tryz.pinned (OpenSpec.ofChange fnRlpSpec)

/-- ITS FALSE NEIGHBOUR: 'it returns false'. Refute it at one input. -/
def fnRlpWrong : ChangeSpec := { name := "fnRlp", vars := ["loop.example/g00774/impl.errType", "loop.example/g00774/impl.kindRows", "loop.example/g00774/impl.errForm"], fn := fun _ => fun
  | [d, g1, g2, g3] => { results := [.lit (.bool false)], args := [d], vars := [g1, g2, g3] }
  | _ => none }
def FnRlpWrongFalsely : Prop := fnRlpRow.holds Tryz.pinned (OpenSpec.ofChange fnRlpWrong)

/-- 'laws.FnRlpDec': WHATEVER THE INPUT: true; the input reads as it did. -/
def fnRlpDecSpec : ChangeSpec := { name := "fnRlpDec", vars := ["loop.example/g00774/impl.errForm", "loop.example/g00774/impl.errType", "loop.example/g00774/impl.kindRows"], fn := fun _ => fun
  | [d, g1, g2, g3] => { results := [.lit (.bool true)], args := [d], vars := [g1, g2, g3] }
  | _ => none }
def fnRlpDecRow : OpenClaim := { program := "ytdncnjmlicdamaagreatdoor", sum := "398a1deda93eeead03073ded2e77db22bc58c28d7a2c8edcbd720f0067171296", func := "loop.example/g00774/laws.FnRlpDec", spec := "fnRlpDec", unfollowed := true, recurses := true, named := ["loop.example/g00774/impl.errForm", "loop.example/g00774/impl.errType", "loop.example/g00774/impl.kindRows"], ifaces := true, apart := false, laid := [("loop.example/g00774/impl.kindRows", laid_loop_example_g00774_impl_kindRows), ("loop.example/g00774/impl.errType", laid_loop_example_g00774_impl_errType), ("loop.example/g00774/impl.errForm", laid_loop_example_g00774_impl_errForm)] }
def FnRlpDecSaid : Prop := fnRlpDecRow.holds Tryz.pinned (OpenSpec.ofChange fnRlpDecSpec)

/-- ITS FALSE NEIGHBOUR: 'it returns false'. Refute it at one input. -/
def fnRlpDecWrong : ChangeSpec := { name := "fnRlpDec", vars := ["loop.example/g00774/impl.errForm", "loop.example/g00774/impl.errType", "loop.example/g00774/impl.kindRows"], fn := fun _ => fun
  | [d, g1, g2, g3] => { results := [.lit (.bool false)], args := [d], vars := [g1, g2, g3] }
  | _ => none }
def FnRlpDecWrongFalsely : Prop := fnRlpDecRow.holds Tryz.pinned (OpenSpec.ofChange fnRlpDecWrong)

/-- 'laws.FnRlpEnds': WHATEVER THE INPUT: true; the input reads as it did. -/
def fnRlpEndsSpec : ChangeSpec := { name := "fnRlpEnds", vars := ["loop.example/g00774/impl.errType", "loop.example/g00774/impl.kindRows", "loop.example/g00774/impl.errForm"], fn := fun _ => fun
  | [d, g1, g2, g3] => { results := [.lit (.bool true)], args := [d], vars := [g1, g2, g3] }
  | _ => none }
def fnRlpEndsRow : OpenClaim := { program := "ytdncnjmlicdamaagreatdoor", sum := "398a1deda93eeead03073ded2e77db22bc58c28d7a2c8edcbd720f0067171296", func := "loop.example/g00774/laws.FnRlpEnds", spec := "fnRlpEnds", unfollowed := true, recurses := true, named := ["loop.example/g00774/impl.errType", "loop.example/g00774/impl.kindRows", "loop.example/g00774/impl.errForm"], ifaces := true, apart := false, laid := [("loop.example/g00774/impl.kindRows", laid_loop_example_g00774_impl_kindRows), ("loop.example/g00774/impl.errType", laid_loop_example_g00774_impl_errType), ("loop.example/g00774/impl.errForm", laid_loop_example_g00774_impl_errForm)] }
def FnRlpEndsSaid : Prop := fnRlpEndsRow.holds Tryz.pinned (OpenSpec.ofChange fnRlpEndsSpec)

/-- ITS FALSE NEIGHBOUR: 'it returns false'. Refute it at one input. -/
def fnRlpEndsWrong : ChangeSpec := { name := "fnRlpEnds", vars := ["loop.example/g00774/impl.errType", "loop.example/g00774/impl.kindRows", "loop.example/g00774/impl.errForm"], fn := fun _ => fun
  | [d, g1, g2, g3] => { results := [.lit (.bool false)], args := [d], vars := [g1, g2, g3] }
  | _ => none }
def FnRlpEndsWrongFalsely : Prop := fnRlpEndsRow.holds Tryz.pinned (OpenSpec.ofChange fnRlpEndsWrong)

/- THE SECOND FORM. 'bulk': how many values and letters a reading holds, each counted each time it is reached (what is shared counts as often as it is met; a slice's spare places count too). A statement '..UptoSaid' is the law's where the arguments, and the package variables that the reading takes, are together of bulk at most 1048576: NARROWER than '..Said'. Prove '..Said' where nothing that the law and all that it calls make is longer than what came in: it says more and counts as full. Else prove '..UptoSaid'. A law counts once. -/
mutual
def uptoBulk {H : Type} : DataW H → Nat
  | .lit (.string bytes) => bytes.length + 1
  | .lit _ => 1
  | .nil => 1
  | .ptr d => uptoBulk d + 1
  | .slice elems spare => uptoBulkAll elems + uptoBulkAll spare + 1
  | .agg parts => uptoBulkAll parts + 1
  | .iface _ d => uptoBulk d + 1
  | .map entries => uptoBulkEntries entries + 1
  | .held _ => 1
def uptoBulkAll {H : Type} : List (DataW H) → Nat
  | [] => 0
  | d :: r => uptoBulk d + uptoBulkAll r
def uptoBulkEntries {H : Type} : List (Lit × DataW H) → Nat
  | [] => 0
  | x :: r => uptoBulkEntry x + uptoBulkEntries r
def uptoBulkEntry {H : Type} : Lit × DataW H → Nat
  | (.string bytes, d) => bytes.length + uptoBulk d + 1
  | (_, d) => uptoBulk d + 1
 end
def uptoSmall : (H : Type) → List (DataW H) → Bool := fun _ ds => decide (uptoBulkAll ds ≤ 1048576)
def OpenSpec.upto (s : _root_.Go.ChangeSpec) : _root_.Go.OpenSpec := { _root_.Go.OpenSpec.ofChange s with cond := some uptoSmall }

/-- 'laws.FnRlp', WHERE WHAT IT READS IS OF BULK AT MOST 1048576: true; the input reads as it did. -/
def fnRlpUptoRow : OpenClaim := { program := "ytdncnjmlicdamaagreatdoor", sum := "398a1deda93eeead03073ded2e77db22bc58c28d7a2c8edcbd720f0067171296", func := "loop.example/g00774/laws.FnRlp", spec := "fnRlp", unfollowed := true, recurses := true, named := ["loop.example/g00774/impl.errType", "loop.example/g00774/impl.kindRows", "loop.example/g00774/impl.errForm"], ifaces := true, apart := false, laid := [("loop.example/g00774/impl.kindRows", laid_loop_example_g00774_impl_kindRows), ("loop.example/g00774/impl.errType", laid_loop_example_g00774_impl_errType), ("loop.example/g00774/impl.errForm", laid_loop_example_g00774_impl_errForm)], narrowed := true }
def FnRlpUptoSaid : Prop := fnRlpUptoRow.holds Tryz.pinned (OpenSpec.upto fnRlpSpec)

/-- 'laws.FnRlpDec', WHERE WHAT IT READS IS OF BULK AT MOST 1048576: true; the input reads as it did. -/
def fnRlpDecUptoRow : OpenClaim := { program := "ytdncnjmlicdamaagreatdoor", sum := "398a1deda93eeead03073ded2e77db22bc58c28d7a2c8edcbd720f0067171296", func := "loop.example/g00774/laws.FnRlpDec", spec := "fnRlpDec", unfollowed := true, recurses := true, named := ["loop.example/g00774/impl.errForm", "loop.example/g00774/impl.errType", "loop.example/g00774/impl.kindRows"], ifaces := true, apart := false, laid := [("loop.example/g00774/impl.kindRows", laid_loop_example_g00774_impl_kindRows), ("loop.example/g00774/impl.errType", laid_loop_example_g00774_impl_errType), ("loop.example/g00774/impl.errForm", laid_loop_example_g00774_impl_errForm)], narrowed := true }
def FnRlpDecUptoSaid : Prop := fnRlpDecUptoRow.holds Tryz.pinned (OpenSpec.upto fnRlpDecSpec)

/-- 'laws.FnRlpEnds', WHERE WHAT IT READS IS OF BULK AT MOST 1048576: true; the input reads as it did. -/
def fnRlpEndsUptoRow : OpenClaim := { program := "ytdncnjmlicdamaagreatdoor", sum := "398a1deda93eeead03073ded2e77db22bc58c28d7a2c8edcbd720f0067171296", func := "loop.example/g00774/laws.FnRlpEnds", spec := "fnRlpEnds", unfollowed := true, recurses := true, named := ["loop.example/g00774/impl.errType", "loop.example/g00774/impl.kindRows", "loop.example/g00774/impl.errForm"], ifaces := true, apart := false, laid := [("loop.example/g00774/impl.kindRows", laid_loop_example_g00774_impl_kindRows), ("loop.example/g00774/impl.errType", laid_loop_example_g00774_impl_errType), ("loop.example/g00774/impl.errForm", laid_loop_example_g00774_impl_errForm)], narrowed := true }
def FnRlpEndsUptoSaid : Prop := fnRlpEndsUptoRow.holds Tryz.pinned (OpenSpec.upto fnRlpEndsSpec)

end Rows
end Go.Proofs.YtdncnjmlicdamaaGreatDoor
