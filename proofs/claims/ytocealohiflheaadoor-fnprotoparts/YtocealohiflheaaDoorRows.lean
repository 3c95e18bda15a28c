/-
  NARROWER THAN 'FOR EVERY INPUT', by the rows' own cells (each row's printed sentence says how): FnExactProtoEnc: ifaces, laid · FnProtoParts: ifaces, laid · FnProtoInner: ifaces, laid · FnProtoAdded: ifaces, laid.
  DERIVED. THE GIVEN ROWS OF THIS SEAT. 4 by the template 'for every input the law returns true; each argument reads behind the call as it read before'; 0 by the template 'total and deterministic' (their statements: YtocealohiflheaaDoorTotals.lean).
  GIVEN WITH THE SEED: the statements are not yours to turn. If you find one false, say at which input.
  Laid BY PROGRAM, IN A SANDBOX (cutbox-rows.mjs): the forced cells as the released guide's own fill.sh prints them over the translation 3c9622efb3ead735… (all of the seat's roots in one cut). By AI agents, Wed Nov 11 2026. No macro, syntax, notation, axiom, sorry.
-/
import Derived.Test.YtocealohiflheaaDoorChecked
import GoSem.Claim
import GoSem.ClaimJoined
import GoSem.ClaimMapViews
import Derived.JoinedTies
import Derived.KernelRfl
namespace Go.Proofs.YtocealohiflheaaDoor
/- THE CELL 'sum', in the pinned program and in every row, IS THE sha256 OF THE DUMP (.gsa) THAT YtocealohiflheaaDoorProg.lean LOADS. Nothing in Lean hashes anything: it is a label: what it is worth is what the hold of that sum in a sandbox is worth. -/
noncomputable def Tryd.pinned : Pinned := { name := "ytocealohiflheaadoor", sum := "3c9622efb3ead73567b2c2772176b12d705fbd074814601a1ddc900f2e947bdc", checked := Tryd.checked }
namespace Rows
def none {H : Type} : Left H := { results := [], args := [] }

/- WHAT THE LISTED PACKAGE-LEVEL VARIABLES READ AS WHEN THE CALL BEGINS. Each datum BY PROGRAM (the guide's laid-datum.mjs) off the statement by which the dump's own 'gosem.cut.vars' lays the variable. In a bare row this is a premise. The card (YtocealohiflheaaDoorCards.lean) ties it to the program's text. -/
def laid_loop_example_g00774_impl_kindRows {H : Type} : DataW H := .agg [.agg [.lit (.int .i64 1), .lit (.string [117]), .lit (.bool true), .lit (.int .i64 8), .lit (.int .i64 64)], .agg [.lit (.int .i64 2), .lit (.string [98, 111, 111, 108]), .lit (.bool false), .lit (.int .i64 0), .lit (.int .i64 0)], .agg [.lit (.int .i64 3), .lit (.string [98, 121, 116, 101, 115]), .lit (.bool true), .lit (.int .i64 0), .lit (.int .i64 200)], .agg [.lit (.int .i64 4), .lit (.string [102, 105, 120, 101, 100]), .lit (.bool true), .lit (.int .i64 1), .lit (.int .i64 64)], .agg [.lit (.int .i64 5), .lit (.string [108, 105, 115, 116]), .lit (.bool true), .lit (.int .i64 1), .lit (.int .i64 20)], .agg [.lit (.int .i64 6), .lit (.string [118, 101, 99, 116, 111, 114]), .lit (.bool true), .lit (.int .i64 1), .lit (.int .i64 8)], .agg [.lit (.int .i64 7), .lit (.string [115, 116, 114, 117, 99, 116]), .lit (.bool true), .lit (.int .i64 1), .lit (.int .i64 6)], .agg [.lit (.int .i64 8), .lit (.string [111, 112, 116, 105, 111, 110]), .lit (.bool false), .lit (.int .i64 0), .lit (.int .i64 0)], .agg [.lit (.int .i64 9), .lit (.string [117, 110, 105, 111, 110]), .lit (.bool true), .lit (.int .i64 1), .lit (.int .i64 4)]]
def laid_loop_example_g00774_impl_errType {H : Type} : DataW H := .iface "*errors.errorString" (.ptr (.agg [.lit (.string [110, 111, 32, 115, 99, 104, 101, 109, 97, 44, 32, 111, 114, 32, 110, 111, 32, 118, 97, 108, 117, 101, 32, 111, 102, 32, 105, 116])]))

/-- 'laws.FnExactProtoEnc': WHATEVER THE INPUT: true; the input reads as it did. -/
def fnExactProtoEncSpec : ChangeSpec := { name := "fnExactProtoEnc", vars := ["loop.example/g00774/impl.errType", "loop.example/g00774/impl.kindRows"], fn := fun _ => fun
  | [d1, d2, g1, g2] => { results := [.lit (.bool true)], args := [d1, d2], vars := [g1, g2] }
  | _ => none }
def fnExactProtoEncRow : OpenClaim := { program := "ytocealohiflheaadoor", sum := "3c9622efb3ead73567b2c2772176b12d705fbd074814601a1ddc900f2e947bdc", func := "loop.example/g00774/laws.FnExactProtoEnc", spec := "fnExactProtoEnc", unfollowed := true, recurses := true, named := ["loop.example/g00774/impl.errType", "loop.example/g00774/impl.kindRows"], ifaces := true, apart := false, laid := [("loop.example/g00774/impl.kindRows", laid_loop_example_g00774_impl_kindRows), ("loop.example/g00774/impl.errType", laid_loop_example_g00774_impl_errType)] }
def FnExactProtoEncSaid : Prop := fnExactProtoEncRow.holds Tryd.pinned (OpenSpec.ofChange fnExactProtoEncSpec)

/-- ITS FALSE NEIGHBOUR: 'it returns false'. Refute it at one input. -/
def fnExactProtoEncWrong : ChangeSpec := { name := "fnExactProtoEnc", vars := ["loop.example/g00774/impl.errType", "loop.example/g00774/impl.kindRows"], fn := fun _ => fun
  | [d1, d2, g1, g2] => { results := [.lit (.bool false)], args := [d1, d2], vars := [g1, g2] }
  | _ => none }
def FnExactProtoEncWrongFalsely : Prop := fnExactProtoEncRow.holds Tryd.pinned (OpenSpec.ofChange fnExactProtoEncWrong)

/-- 'laws.FnProtoParts': WHATEVER THE INPUT: true; the input reads as it did. -/
def fnProtoPartsSpec : ChangeSpec := { name := "fnProtoParts", vars := ["loop.example/g00774/impl.errType", "loop.example/g00774/impl.kindRows"], fn := fun _ => fun
  | [d1, d2, g1, g2] => { results := [.lit (.bool true)], args := [d1, d2], vars := [g1, g2] }
  | _ => none }
def fnProtoPartsRow : OpenClaim := { program := "ytocealohiflheaadoor", sum := "3c9622efb3ead73567b2c2772176b12d705fbd074814601a1ddc900f2e947bdc", func := "loop.example/g00774/laws.FnProtoParts", spec := "fnProtoParts", unfollowed := true, recurses := true, named := ["loop.example/g00774/impl.errType", "loop.example/g00774/impl.kindRows"], ifaces := true, apart := false, laid := [("loop.example/g00774/impl.kindRows", laid_loop_example_g00774_impl_kindRows), ("loop.example/g00774/impl.errType", laid_loop_example_g00774_impl_errType)] }
def FnProtoPartsSaid : Prop := fnProtoPartsRow.holds Tryd.pinned (OpenSpec.ofChange fnProtoPartsSpec)

/-- ITS FALSE NEIGHBOUR: 'it returns false'. Refute it at one input. -/
def fnProtoPartsWrong : ChangeSpec := { name := "fnProtoParts", vars := ["loop.example/g00774/impl.errType", "loop.example/g00774/impl.kindRows"], fn := fun _ => fun
  | [d1, d2, g1, g2] => { results := [.lit (.bool false)], args := [d1, d2], vars := [g1, g2] }
  | _ => none }
def FnProtoPartsWrongFalsely : Prop := fnProtoPartsRow.holds Tryd.pinned (OpenSpec.ofChange fnProtoPartsWrong)

/-- 'laws.FnProtoInner': WHATEVER THE INPUT: true; the input reads as it did. -/
def fnProtoInnerSpec : ChangeSpec := { name := "fnProtoInner", vars := ["loop.example/g00774/impl.errType", "loop.example/g00774/impl.kindRows"], fn := fun _ => fun
  | [d, g1, g2] => { results := [.lit (.bool true)], args := [d], vars := [g1, g2] }
  | _ => none }
def fnProtoInnerRow : OpenClaim := { program := "ytocealohiflheaadoor", sum := "3c9622efb3ead73567b2c2772176b12d705fbd074814601a1ddc900f2e947bdc", func := "loop.example/g00774/laws.FnProtoInner", spec := "fnProtoInner", unfollowed := true, recurses := true, named := ["loop.example/g00774/impl.errType", "loop.example/g00774/impl.kindRows"], ifaces := true, apart := false, laid := [("loop.example/g00774/impl.kindRows", laid_loop_example_g00774_impl_kindRows), ("loop.example/g00774/impl.errType", laid_loop_example_g00774_impl_errType)] }
def FnProtoInnerSaid : Prop := fnProtoInnerRow.holds Tryd.pinned (OpenSpec.ofChange fnProtoInnerSpec)

/-- ITS FALSE NEIGHBOUR: 'it returns false'. Refute it at one input. -/
def fnProtoInnerWrong : ChangeSpec := { name := "fnProtoInner", vars := ["loop.example/g00774/impl.errType", "loop.example/g00774/impl.kindRows"], fn := fun _ => fun
  | [d, g1, g2] => { results := [.lit (.bool false)], args := [d], vars := [g1, g2] }
  | _ => none }
def FnProtoInnerWrongFalsely : Prop := fnProtoInnerRow.holds Tryd.pinned (OpenSpec.ofChange fnProtoInnerWrong)

/-- 'laws.FnProtoAdded': WHATEVER THE INPUT: true; the input reads as it did. -/
def fnProtoAddedSpec : ChangeSpec := { name := "fnProtoAdded", vars := ["loop.example/g00774/impl.errType", "loop.example/g00774/impl.kindRows"], fn := fun _ => fun
  | [d, g1, g2] => { results := [.lit (.bool true)], args := [d], vars := [g1, g2] }
  | _ => none }
def fnProtoAddedRow : OpenClaim := { program := "ytocealohiflheaadoor", sum := "3c9622efb3ead73567b2c2772176b12d705fbd074814601a1ddc900f2e947bdc", func := "loop.example/g00774/laws.FnProtoAdded", spec := "fnProtoAdded", unfollowed := true, recurses := true, named := ["loop.example/g00774/impl.errType", "loop.example/g00774/impl.kindRows"], ifaces := true, apart := false, laid := [("loop.example/g00774/impl.kindRows", laid_loop_example_g00774_impl_kindRows), ("loop.example/g00774/impl.errType", laid_loop_example_g00774_impl_errType)] }
def FnProtoAddedSaid : Prop := fnProtoAddedRow.holds Tryd.pinned (OpenSpec.ofChange fnProtoAddedSpec)

/-- ITS FALSE NEIGHBOUR: 'it returns false'. Refute it at one input. -/
def fnProtoAddedWrong : ChangeSpec := { name := "fnProtoAdded", vars := ["loop.example/g00774/impl.errType", "loop.example/g00774/impl.kindRows"], fn := fun _ => fun
  | [d, g1, g2] => { results := [.lit (.bool false)], args := [d], vars := [g1, g2] }
  | _ => none }
def FnProtoAddedWrongFalsely : Prop := fnProtoAddedRow.holds Tryd.pinned (OpenSpec.ofChange fnProtoAddedWrong)

/- THE SECOND FORM. 'bulk': how many values and letters a reading holds, each counted each time it is reached (what is shared counts as often as it is met; a slice's spare places count too). A statement '..UptoSaid' is the law's where the arguments, and the package variables that the reading takes, are together of bulk at most 1048576: NARROWER than '..Said'. Prove '..Said' where nothing that the law and all that it calls make is longer than what came in: it says more and counts as full. Else prove '..UptoSaid'. A law counts once. -/
mutual
def uptoBulk {H : Type} : DataW H → Nat
  | .lit (.string bytes) => bytes.length + 1
  | .lit _ => 1
  | .nil => 1
  | .ptr d => uptoBulk d + 1
  | .slice elems spare => uptoBulkAll elems + uptoBulkAll spare + 1
  | .agg parts => uptoBulkAll parts + 1
  | .iface _ d => uptoBulk d + 1
  | .map entries => uptoBulkEntries entries + 1
  | .held _ => 1
def uptoBulkAll {H : Type} : List (DataW H) → Nat
  | [] => 0
  | d :: r => uptoBulk d + uptoBulkAll r
def uptoBulkEntries {H : Type} : List (Lit × DataW H) → Nat
  | [] => 0
  | x :: r => uptoBulkEntry x + uptoBulkEntries r
def uptoBulkEntry {H : Type} : Lit × DataW H → Nat
  | (.string bytes, d) => bytes.length + uptoBulk d + 1
  | (_, d) => uptoBulk d + 1
 end
def uptoSmall : (H : Type) → List (DataW H) → Bool := fun _ ds => decide (uptoBulkAll ds ≤ 1048576)
def OpenSpec.upto (s : _root_.Go.ChangeSpec) : _root_.Go.OpenSpec := { _root_.Go.OpenSpec.ofChange s with cond := some uptoSmall }

/-- 'laws.FnExactProtoEnc', WHERE WHAT IT READS IS OF BULK AT MOST 1048576: true; the input reads as it did. -/
def fnExactProtoEncUptoRow : OpenClaim := { program := "ytocealohiflheaadoor", sum := "3c9622efb3ead73567b2c2772176b12d705fbd074814601a1ddc900f2e947bdc", func := "loop.example/g00774/laws.FnExactProtoEnc", spec := "fnExactProtoEnc", unfollowed := true, recurses := true, named := ["loop.example/g00774/impl.errType", "loop.example/g00774/impl.kindRows"], ifaces := true, apart := false, laid := [("loop.example/g00774/impl.kindRows", laid_loop_example_g00774_impl_kindRows), ("loop.example/g00774/impl.errType", laid_loop_example_g00774_impl_errType)], narrowed := true }
def FnExactProtoEncUptoSaid : Prop := fnExactProtoEncUptoRow.holds Tryd.pinned (OpenSpec.upto fnExactProtoEncSpec)

/-- 'laws.FnProtoParts', WHERE WHAT IT READS IS OF BULK AT MOST 1048576: true; the input reads as it did. -/
def fnProtoPartsUptoRow : OpenClaim := { program := "ytocealohiflheaadoor", sum := "3c9622efb3ead73567b2c2772176b12d705fbd074814601a1ddc900f2e947bdc", func := "loop.example/g00774/laws.FnProtoParts", spec := "fnProtoParts", unfollowed := true, recurses := true, named := ["loop.example/g00774/impl.errType", "loop.example/g00774/impl.kindRows"], ifaces := true, apart := false, laid := [("loop.example/g00774/impl.kindRows", laid_loop_example_g00774_impl_kindRows), ("loop.example/g00774/impl.errType", laid_loop_example_g00774_impl_errType)], narrowed := true }
def FnProtoPartsUptoSaid : Prop := fnProtoPartsUptoRow.holds Tryd.pinned (OpenSpec.upto fnProtoPartsSpec)

/-- 'laws.FnProtoInner', WHERE WHAT IT READS IS OF BULK AT MOST 1048576: true; the input reads as it did. -/
def fnProtoInnerUptoRow : OpenClaim := { program := "ytocealohiflheaadoor", sum := "3c9622efb3ead73567b2c2772176b12d705fbd074814601a1ddc900f2e947bdc", func := "loop.example/g00774/laws.FnProtoInner", spec := "fnProtoInner", unfollowed := true, recurses := true, named := ["loop.example/g00774/impl.errType", "loop.example/g00774/impl.kindRows"], ifaces := true, apart := false, laid := [("loop.example/g00774/impl.kindRows", laid_loop_example_g00774_impl_kindRows), ("loop.example/g00774/impl.errType", laid_loop_example_g00774_impl_errType)], narrowed := true }
def FnProtoInnerUptoSaid : Prop := fnProtoInnerUptoRow.holds Tryd.pinned (OpenSpec.upto fnProtoInnerSpec)

/-- 'laws.FnProtoAdded', WHERE WHAT IT READS IS OF BULK AT MOST 1048576: true; the input reads as it did. -/
def fnProtoAddedUptoRow : OpenClaim := { program := "ytocealohiflheaadoor", sum := "3c9622efb3ead73567b2c2772176b12d705fbd074814601a1ddc900f2e947bdc", func := "loop.example/g00774/laws.FnProtoAdded", spec := "fnProtoAdded", unfollowed := true, recurses := true, named := ["loop.example/g00774/impl.errType", "loop.example/g00774/impl.kindRows"], ifaces := true, apart := false, laid := [("loop.example/g00774/impl.kindRows", laid_loop_example_g00774_impl_kindRows), ("loop.example/g00774/impl.errType", laid_loop_example_g00774_impl_errType)], narrowed := true }
def FnProtoAddedUptoSaid : Prop := fnProtoAddedUptoRow.holds Tryd.pinned (OpenSpec.upto fnProtoAddedSpec)

end Rows
end Go.Proofs.YtocealohiflheaaDoor
