/-
  NARROWER THAN 'FOR EVERY INPUT', by the rows' own cells (each row's printed sentence says how): FnRlpTwo: ifaces, laid · FnSszTwo: ifaces, laid · FnSszSome: ifaces, laid · FnProtoAdded: ifaces, laid · FnProtoInner: ifaces, laid · FnProtoParts: ifaces, laid · FnExactTyped: laid · FnExactZeroOf: laid · FnExactRlpEnc: ifaces, laid · FnExactSszEnc: ifaces, laid · FnExactScaleEnc: ifaces, laid · FnExactScaleDec: ifaces, laid · FnExactProtoOk: ifaces, laid · FnExactProtoEnc: ifaces, laid · FnExactBitcoinOk: ifaces, laid · FnExactBitcoinEnc: ifaces, laid · FnExactBitcoinDec: ifaces, laid.
  DERIVED. THE GIVEN ROWS OF THIS SEAT. 17 by the template 'for every input the law returns true; each argument reads behind the call as it read before'; 0 by the template 'total and deterministic' (their statements: YtogadhfickojcaaDoorTotals.lean).
  GIVEN WITH THE SEED: the statements are not yours to turn. If you find one false, say at which input.
  Laid BY PROGRAM, IN A SANDBOX (cutbox-rows.mjs): the forced cells as the released guide's own fill.sh prints them over the translation fabcfc30fb67853e… (all of the seat's roots in one cut). By AI agents, Wed Nov 11 2026. No macro, syntax, notation, axiom, sorry.
-/
import Derived.Test.YtogadhfickojcaaDoorChecked
import GoSem.Claim
import GoSem.ClaimJoined
import GoSem.ClaimMapViews
import Derived.JoinedTies
import Derived.KernelRfl
namespace Go.Proofs.YtogadhfickojcaaDoor
/- THE CELL 'sum', in the pinned program and in every row, IS THE sha256 OF THE DUMP (.gsa) THAT YtogadhfickojcaaDoorProg.lean LOADS. Nothing in Lean hashes anything: it is a label: what it is worth is what the hold of that sum in a sandbox is worth. -/
noncomputable def Tryd.pinned : Pinned := { name := "ytogadhfickojcaadoor", sum := "fabcfc30fb67853e84f449708e6f5a2d5caeca148903416f4c3f76181d83add9", checked := Tryd.checked }
namespace Rows
def none {H : Type} : Left H := { results := [], args := [] }

/- WHAT THE LISTED PACKAGE-LEVEL VARIABLES READ AS WHEN THE CALL BEGINS. Each datum BY PROGRAM (the guide's laid-datum.mjs) off the statement by which the dump's own 'gosem.cut.vars' lays the variable. In a bare row this is a premise. The card (YtogadhfickojcaaDoorCards.lean) ties it to the program's text. -/
def laid_loop_example_g00774_impl_kindRows {H : Type} : DataW H := .agg [.agg [.lit (.int .i64 1), .lit (.string [117]), .lit (.bool true), .lit (.int .i64 8), .lit (.int .i64 64)], .agg [.lit (.int .i64 2), .lit (.string [98, 111, 111, 108]), .lit (.bool false), .lit (.int .i64 0), .lit (.int .i64 0)], .agg [.lit (.int .i64 3), .lit (.string [98, 121, 116, 101, 115]), .lit (.bool true), .lit (.int .i64 0), .lit (.int .i64 200)], .agg [.lit (.int .i64 4), .lit (.string [102, 105, 120, 101, 100]), .lit (.bool true), .lit (.int .i64 1), .lit (.int .i64 64)], .agg [.lit (.int .i64 5), .lit (.string [108, 105, 115, 116]), .lit (.bool true), .lit (.int .i64 1), .lit (.int .i64 20)], .agg [.lit (.int .i64 6), .lit (.string [118, 101, 99, 116, 111, 114]), .lit (.bool true), .lit (.int .i64 1), .lit (.int .i64 8)], .agg [.lit (.int .i64 7), .lit (.string [115, 116, 114, 117, 99, 116]), .lit (.bool true), .lit (.int .i64 1), .lit (.int .i64 6)], .agg [.lit (.int .i64 8), .lit (.string [111, 112, 116, 105, 111, 110]), .lit (.bool false), .lit (.int .i64 0), .lit (.int .i64 0)], .agg [.lit (.int .i64 9), .lit (.string [117, 110, 105, 111, 110]), .lit (.bool true), .lit (.int .i64 1), .lit (.int .i64 4)]]
def laid_loop_example_g00774_impl_errType {H : Type} : DataW H := .iface "*errors.errorString" (.ptr (.agg [.lit (.string [110, 111, 32, 115, 99, 104, 101, 109, 97, 44, 32, 111, 114, 32, 110, 111, 32, 118, 97, 108, 117, 101, 32, 111, 102, 32, 105, 116])]))
def laid_loop_example_g00774_impl_errForm {H : Type} : DataW H := .iface "*errors.errorString" (.ptr (.agg [.lit (.string [110, 111, 32, 98, 121, 116, 101, 115, 32, 111, 102, 32, 97, 32, 118, 97, 108, 117, 101])]))

/-- 'laws.FnRlpTwo': WHATEVER THE INPUT: true; the input reads as it did. -/
def fnRlpTwoSpec : ChangeSpec := { name := "fnRlpTwo", vars := ["loop.example/g00774/impl.errType", "loop.example/g00774/impl.kindRows"], fn := fun _ => fun
  | [d, g1, g2] => { results := [.lit (.bool true)], args := [d], vars := [g1, g2] }
  | _ => none }
def fnRlpTwoRow : OpenClaim := { program := "ytogadhfickojcaadoor", sum := "fabcfc30fb67853e84f449708e6f5a2d5caeca148903416f4c3f76181d83add9", func := "loop.example/g00774/laws.FnRlpTwo", spec := "fnRlpTwo", unfollowed := true, recurses := true, named := ["loop.example/g00774/impl.errType", "loop.example/g00774/impl.kindRows"], ifaces := true, apart := false, laid := [("loop.example/g00774/impl.kindRows", laid_loop_example_g00774_impl_kindRows), ("loop.example/g00774/impl.errType", laid_loop_example_g00774_impl_errType)] }
def FnRlpTwoSaid : Prop := fnRlpTwoRow.holds Tryd.pinned (OpenSpec.ofChange fnRlpTwoSpec)

/-- ITS FALSE NEIGHBOUR: 'it returns false'. Refute it at one input. -/
def fnRlpTwoWrong : ChangeSpec := { name := "fnRlpTwo", vars := ["loop.example/g00774/impl.errType", "loop.example/g00774/impl.kindRows"], fn := fun _ => fun
  | [d, g1, g2] => { results := [.lit (.bool false)], args := [d], vars := [g1, g2] }
  | _ => none }
def FnRlpTwoWrongFalsely : Prop := fnRlpTwoRow.holds Tryd.pinned (OpenSpec.ofChange fnRlpTwoWrong)

/-- 'laws.FnSszTwo': WHATEVER THE INPUT: true; the input reads as it did. -/
def fnSszTwoSpec : ChangeSpec := { name := "fnSszTwo", vars := ["loop.example/g00774/impl.errType", "loop.example/g00774/impl.kindRows"], fn := fun _ => fun
  | [d, g1, g2] => { results := [.lit (.bool true)], args := [d], vars := [g1, g2] }
  | _ => none }
def fnSszTwoRow : OpenClaim := { program := "ytogadhfickojcaadoor", sum := "fabcfc30fb67853e84f449708e6f5a2d5caeca148903416f4c3f76181d83add9", func := "loop.example/g00774/laws.FnSszTwo", spec := "fnSszTwo", unfollowed := true, recurses := true, named := ["loop.example/g00774/impl.errType", "loop.example/g00774/impl.kindRows"], ifaces := true, apart := false, laid := [("loop.example/g00774/impl.kindRows", laid_loop_example_g00774_impl_kindRows), ("loop.example/g00774/impl.errType", laid_loop_example_g00774_impl_errType)] }
def FnSszTwoSaid : Prop := fnSszTwoRow.holds Tryd.pinned (OpenSpec.ofChange fnSszTwoSpec)

/-- ITS FALSE NEIGHBOUR: 'it returns false'. Refute it at one input. -/
def fnSszTwoWrong : ChangeSpec := { name := "fnSszTwo", vars := ["loop.example/g00774/impl.errType", "loop.example/g00774/impl.kindRows"], fn := fun _ => fun
  | [d, g1, g2] => { results := [.lit (.bool false)], args := [d], vars := [g1, g2] }
  | _ => none }
def FnSszTwoWrongFalsely : Prop := fnSszTwoRow.holds Tryd.pinned (OpenSpec.ofChange fnSszTwoWrong)

/-- 'laws.FnSszSome': WHATEVER THE INPUT: true; the input reads as it did. -/
def fnSszSomeSpec : ChangeSpec := { name := "fnSszSome", vars := ["loop.example/g00774/impl.errType", "loop.example/g00774/impl.kindRows"], fn := fun _ => fun
  | [d, g1, g2] => { results := [.lit (.bool true)], args := [d], vars := [g1, g2] }
  | _ => none }
def fnSszSomeRow : OpenClaim := { program := "ytogadhfickojcaadoor", sum := "fabcfc30fb67853e84f449708e6f5a2d5caeca148903416f4c3f76181d83add9", func := "loop.example/g00774/laws.FnSszSome", spec := "fnSszSome", unfollowed := true, recurses := true, named := ["loop.example/g00774/impl.errType", "loop.example/g00774/impl.kindRows"], ifaces := true, apart := false, laid := [("loop.example/g00774/impl.kindRows", laid_loop_example_g00774_impl_kindRows), ("loop.example/g00774/impl.errType", laid_loop_example_g00774_impl_errType)] }
def FnSszSomeSaid : Prop := fnSszSomeRow.holds Tryd.pinned (OpenSpec.ofChange fnSszSomeSpec)

/-- ITS FALSE NEIGHBOUR: 'it returns false'. Refute it at one input. -/
def fnSszSomeWrong : ChangeSpec := { name := "fnSszSome", vars := ["loop.example/g00774/impl.errType", "loop.example/g00774/impl.kindRows"], fn := fun _ => fun
  | [d, g1, g2] => { results := [.lit (.bool false)], args := [d], vars := [g1, g2] }
  | _ => none }
def FnSszSomeWrongFalsely : Prop := fnSszSomeRow.holds Tryd.pinned (OpenSpec.ofChange fnSszSomeWrong)

/-- 'laws.FnProtoAdded': WHATEVER THE INPUT: true; the input reads as it did. -/
def fnProtoAddedSpec : ChangeSpec := { name := "fnProtoAdded", vars := ["loop.example/g00774/impl.errType", "loop.example/g00774/impl.kindRows"], fn := fun _ => fun
  | [d, g1, g2] => { results := [.lit (.bool true)], args := [d], vars := [g1, g2] }
  | _ => none }
def fnProtoAddedRow : OpenClaim := { program := "ytogadhfickojcaadoor", sum := "fabcfc30fb67853e84f449708e6f5a2d5caeca148903416f4c3f76181d83add9", func := "loop.example/g00774/laws.FnProtoAdded", spec := "fnProtoAdded", unfollowed := true, recurses := true, named := ["loop.example/g00774/impl.errType", "loop.example/g00774/impl.kindRows"], ifaces := true, apart := false, laid := [("loop.example/g00774/impl.kindRows", laid_loop_example_g00774_impl_kindRows), ("loop.example/g00774/impl.errType", laid_loop_example_g00774_impl_errType)] }
def FnProtoAddedSaid : Prop := fnProtoAddedRow.holds Tryd.pinned (OpenSpec.ofChange fnProtoAddedSpec)

/-- ITS FALSE NEIGHBOUR: 'it returns false'. Refute it at one input. -/
def fnProtoAddedWrong : ChangeSpec := { name := "fnProtoAdded", vars := ["loop.example/g00774/impl.errType", "loop.example/g00774/impl.kindRows"], fn := fun _ => fun
  | [d, g1, g2] => { results := [.lit (.bool false)], args := [d], vars := [g1, g2] }
  | _ => none }
def FnProtoAddedWrongFalsely : Prop := fnProtoAddedRow.holds Tryd.pinned (OpenSpec.ofChange fnProtoAddedWrong)

/-- 'laws.FnProtoInner': WHATEVER THE INPUT: true; the input reads as it did. -/
def fnProtoInnerSpec : ChangeSpec := { name := "fnProtoInner", vars := ["loop.example/g00774/impl.errType", "loop.example/g00774/impl.kindRows"], fn := fun _ => fun
  | [d, g1, g2] => { results := [.lit (.bool true)], args := [d], vars := [g1, g2] }
  | _ => none }
def fnProtoInnerRow : OpenClaim := { program := "ytogadhfickojcaadoor", sum := "fabcfc30fb67853e84f449708e6f5a2d5caeca148903416f4c3f76181d83add9", func := "loop.example/g00774/laws.FnProtoInner", spec := "fnProtoInner", unfollowed := true, recurses := true, named := ["loop.example/g00774/impl.errType", "loop.example/g00774/impl.kindRows"], ifaces := true, apart := false, laid := [("loop.example/g00774/impl.kindRows", laid_loop_example_g00774_impl_kindRows), ("loop.example/g00774/impl.errType", laid_loop_example_g00774_impl_errType)] }
def FnProtoInnerSaid : Prop := fnProtoInnerRow.holds Tryd.pinned (OpenSpec.ofChange fnProtoInnerSpec)

/-- ITS FALSE NEIGHBOUR: 'it returns false'. Refute it at one input. -/
def fnProtoInnerWrong : ChangeSpec := { name := "fnProtoInner", vars := ["loop.example/g00774/impl.errType", "loop.example/g00774/impl.kindRows"], fn := fun _ => fun
  | [d, g1, g2] => { results := [.lit (.bool false)], args := [d], vars := [g1, g2] }
  | _ => none }
def FnProtoInnerWrongFalsely : Prop := fnProtoInnerRow.holds Tryd.pinned (OpenSpec.ofChange fnProtoInnerWrong)

/-- 'laws.FnProtoParts': WHATEVER THE INPUT: true; the input reads as it did. -/
def fnProtoPartsSpec : ChangeSpec := { name := "fnProtoParts", vars := ["loop.example/g00774/impl.errType", "loop.example/g00774/impl.kindRows"], fn := fun _ => fun
  | [d1, d2, g1, g2] => { results := [.lit (.bool true)], args := [d1, d2], vars := [g1, g2] }
  | _ => none }
def fnProtoPartsRow : OpenClaim := { program := "ytogadhfickojcaadoor", sum := "fabcfc30fb67853e84f449708e6f5a2d5caeca148903416f4c3f76181d83add9", func := "loop.example/g00774/laws.FnProtoParts", spec := "fnProtoParts", unfollowed := true, recurses := true, named := ["loop.example/g00774/impl.errType", "loop.example/g00774/impl.kindRows"], ifaces := true, apart := false, laid := [("loop.example/g00774/impl.kindRows", laid_loop_example_g00774_impl_kindRows), ("loop.example/g00774/impl.errType", laid_loop_example_g00774_impl_errType)] }
def FnProtoPartsSaid : Prop := fnProtoPartsRow.holds Tryd.pinned (OpenSpec.ofChange fnProtoPartsSpec)

/-- ITS FALSE NEIGHBOUR: 'it returns false'. Refute it at one input. -/
def fnProtoPartsWrong : ChangeSpec := { name := "fnProtoParts", vars := ["loop.example/g00774/impl.errType", "loop.example/g00774/impl.kindRows"], fn := fun _ => fun
  | [d1, d2, g1, g2] => { results := [.lit (.bool false)], args := [d1, d2], vars := [g1, g2] }
  | _ => none }
def FnProtoPartsWrongFalsely : Prop := fnProtoPartsRow.holds Tryd.pinned (OpenSpec.ofChange fnProtoPartsWrong)

/-- 'laws.FnExactTyped': WHATEVER THE INPUT: true; the input reads as it did. -/
def fnExactTypedSpec : ChangeSpec := { name := "fnExactTyped", vars := ["loop.example/g00774/impl.kindRows"], fn := fun _ => fun
  | [d1, d2, g1] => { results := [.lit (.bool true)], args := [d1, d2], vars := [g1] }
  | _ => none }
def fnExactTypedRow : OpenClaim := { program := "ytogadhfickojcaadoor", sum := "fabcfc30fb67853e84f449708e6f5a2d5caeca148903416f4c3f76181d83add9", func := "loop.example/g00774/laws.FnExactTyped", spec := "fnExactTyped", recurses := true, named := ["loop.example/g00774/impl.kindRows"], apart := false, laid := [("loop.example/g00774/impl.kindRows", laid_loop_example_g00774_impl_kindRows)] }
def FnExactTypedSaid : Prop := fnExactTypedRow.holds Tryd.pinned (OpenSpec.ofChange fnExactTypedSpec)

/-- ITS FALSE NEIGHBOUR: 'it returns false'. Refute it at one input. -/
def fnExactTypedWrong : ChangeSpec := { name := "fnExactTyped", vars := ["loop.example/g00774/impl.kindRows"], fn := fun _ => fun
  | [d1, d2, g1] => { results := [.lit (.bool false)], args := [d1, d2], vars := [g1] }
  | _ => none }
def FnExactTypedWrongFalsely : Prop := fnExactTypedRow.holds Tryd.pinned (OpenSpec.ofChange fnExactTypedWrong)

/-- 'laws.FnExactZeroOf': WHATEVER THE INPUT: true; the input reads as it did. -/
def fnExactZeroOfSpec : ChangeSpec := { name := "fnExactZeroOf", vars := ["loop.example/g00774/impl.kindRows"], fn := fun _ => fun
  | [d, g1] => { results := [.lit (.bool true)], args := [d], vars := [g1] }
  | _ => none }
def fnExactZeroOfRow : OpenClaim := { program := "ytogadhfickojcaadoor", sum := "fabcfc30fb67853e84f449708e6f5a2d5caeca148903416f4c3f76181d83add9", func := "loop.example/g00774/laws.FnExactZeroOf", spec := "fnExactZeroOf", inPlace := ["internal/abi.NoEscape", "internal/bytealg.MakeNoZero"], unfollowed := true, recurses := true, named := ["loop.example/g00774/impl.kindRows"], apart := false, laid := [("loop.example/g00774/impl.kindRows", laid_loop_example_g00774_impl_kindRows)] }
def FnExactZeroOfSaid : Prop := fnExactZeroOfRow.holds Tryd.pinned (OpenSpec.ofChange fnExactZeroOfSpec)

/-- ITS FALSE NEIGHBOUR: 'it returns false'. Refute it at one input. -/
def fnExactZeroOfWrong : ChangeSpec := { name := "fnExactZeroOf", vars := ["loop.example/g00774/impl.kindRows"], fn := fun _ => fun
  | [d, g1] => { results := [.lit (.bool false)], args := [d], vars := [g1] }
  | _ => none }
def FnExactZeroOfWrongFalsely : Prop := fnExactZeroOfRow.holds Tryd.pinned (OpenSpec.ofChange fnExactZeroOfWrong)

/-- 'laws.FnExactRlpEnc': WHATEVER THE INPUT: true; the input reads as it did. -/
def fnExactRlpEncSpec : ChangeSpec := { name := "fnExactRlpEnc", vars := ["loop.example/g00774/impl.errType", "loop.example/g00774/impl.kindRows"], fn := fun _ => fun
  | [d1, d2, g1, g2] => { results := [.lit (.bool true)], args := [d1, d2], vars := [g1, g2] }
  | _ => none }
def fnExactRlpEncRow : OpenClaim := { program := "ytogadhfickojcaadoor", sum := "fabcfc30fb67853e84f449708e6f5a2d5caeca148903416f4c3f76181d83add9", func := "loop.example/g00774/laws.FnExactRlpEnc", spec := "fnExactRlpEnc", unfollowed := true, recurses := true, named := ["loop.example/g00774/impl.errType", "loop.example/g00774/impl.kindRows"], ifaces := true, apart := false, laid := [("loop.example/g00774/impl.kindRows", laid_loop_example_g00774_impl_kindRows), ("loop.example/g00774/impl.errType", laid_loop_example_g00774_impl_errType)] }
def FnExactRlpEncSaid : Prop := fnExactRlpEncRow.holds Tryd.pinned (OpenSpec.ofChange fnExactRlpEncSpec)

/-- ITS FALSE NEIGHBOUR: 'it returns false'. Refute it at one input. -/
def fnExactRlpEncWrong : ChangeSpec := { name := "fnExactRlpEnc", vars := ["loop.example/g00774/impl.errType", "loop.example/g00774/impl.kindRows"], fn := fun _ => fun
  | [d1, d2, g1, g2] => { results := [.lit (.bool false)], args := [d1, d2], vars := [g1, g2] }
  | _ => none }
def FnExactRlpEncWrongFalsely : Prop := fnExactRlpEncRow.holds Tryd.pinned (OpenSpec.ofChange fnExactRlpEncWrong)

/-- 'laws.FnExactSszEnc': WHATEVER THE INPUT: true; the input reads as it did. -/
def fnExactSszEncSpec : ChangeSpec := { name := "fnExactSszEnc", vars := ["loop.example/g00774/impl.errType", "loop.example/g00774/impl.kindRows"], fn := fun _ => fun
  | [d1, d2, g1, g2] => { results := [.lit (.bool true)], args := [d1, d2], vars := [g1, g2] }
  | _ => none }
def fnExactSszEncRow : OpenClaim := { program := "ytogadhfickojcaadoor", sum := "fabcfc30fb67853e84f449708e6f5a2d5caeca148903416f4c3f76181d83add9", func := "loop.example/g00774/laws.FnExactSszEnc", spec := "fnExactSszEnc", unfollowed := true, recurses := true, named := ["loop.example/g00774/impl.errType", "loop.example/g00774/impl.kindRows"], ifaces := true, apart := false, laid := [("loop.example/g00774/impl.kindRows", laid_loop_example_g00774_impl_kindRows), ("loop.example/g00774/impl.errType", laid_loop_example_g00774_impl_errType)] }
def FnExactSszEncSaid : Prop := fnExactSszEncRow.holds Tryd.pinned (OpenSpec.ofChange fnExactSszEncSpec)

/-- ITS FALSE NEIGHBOUR: 'it returns false'. Refute it at one input. -/
def fnExactSszEncWrong : ChangeSpec := { name := "fnExactSszEnc", vars := ["loop.example/g00774/impl.errType", "loop.example/g00774/impl.kindRows"], fn := fun _ => fun
  | [d1, d2, g1, g2] => { results := [.lit (.bool false)], args := [d1, d2], vars := [g1, g2] }
  | _ => none }
def FnExactSszEncWrongFalsely : Prop := fnExactSszEncRow.holds Tryd.pinned (OpenSpec.ofChange fnExactSszEncWrong)

/-- 'laws.FnExactScaleEnc': WHATEVER THE INPUT: true; the input reads as it did. -/
def fnExactScaleEncSpec : ChangeSpec := { name := "fnExactScaleEnc", vars := ["loop.example/g00774/impl.errType", "loop.example/g00774/impl.kindRows"], fn := fun _ => fun
  | [d1, d2, g1, g2] => { results := [.lit (.bool true)], args := [d1, d2], vars := [g1, g2] }
  | _ => none }
def fnExactScaleEncRow : OpenClaim := { program := "ytogadhfickojcaadoor", sum := "fabcfc30fb67853e84f449708e6f5a2d5caeca148903416f4c3f76181d83add9", func := "loop.example/g00774/laws.FnExactScaleEnc", spec := "fnExactScaleEnc", unfollowed := true, recurses := true, named := ["loop.example/g00774/impl.errType", "loop.example/g00774/impl.kindRows"], ifaces := true, apart := false, laid := [("loop.example/g00774/impl.kindRows", laid_loop_example_g00774_impl_kindRows), ("loop.example/g00774/impl.errType", laid_loop_example_g00774_impl_errType)] }
def FnExactScaleEncSaid : Prop := fnExactScaleEncRow.holds Tryd.pinned (OpenSpec.ofChange fnExactScaleEncSpec)

/-- ITS FALSE NEIGHBOUR: 'it returns false'. Refute it at one input. -/
def fnExactScaleEncWrong : ChangeSpec := { name := "fnExactScaleEnc", vars := ["loop.example/g00774/impl.errType", "loop.example/g00774/impl.kindRows"], fn := fun _ => fun
  | [d1, d2, g1, g2] => { results := [.lit (.bool false)], args := [d1, d2], vars := [g1, g2] }
  | _ => none }
def FnExactScaleEncWrongFalsely : Prop := fnExactScaleEncRow.holds Tryd.pinned (OpenSpec.ofChange fnExactScaleEncWrong)

/-- 'laws.FnExactScaleDec': WHATEVER THE INPUT: true; the input reads as it did. -/
def fnExactScaleDecSpec : ChangeSpec := { name := "fnExactScaleDec", vars := ["loop.example/g00774/impl.errForm", "loop.example/g00774/impl.errType", "loop.example/g00774/impl.kindRows"], fn := fun _ => fun
  | [d1, d2, g1, g2, g3] => { results := [.lit (.bool true)], args := [d1, d2], vars := [g1, g2, g3] }
  | _ => none }
def fnExactScaleDecRow : OpenClaim := { program := "ytogadhfickojcaadoor", sum := "fabcfc30fb67853e84f449708e6f5a2d5caeca148903416f4c3f76181d83add9", func := "loop.example/g00774/laws.FnExactScaleDec", spec := "fnExactScaleDec", unfollowed := true, recurses := true, named := ["loop.example/g00774/impl.errForm", "loop.example/g00774/impl.errType", "loop.example/g00774/impl.kindRows"], ifaces := true, apart := false, laid := [("loop.example/g00774/impl.kindRows", laid_loop_example_g00774_impl_kindRows), ("loop.example/g00774/impl.errType", laid_loop_example_g00774_impl_errType), ("loop.example/g00774/impl.errForm", laid_loop_example_g00774_impl_errForm)] }
def FnExactScaleDecSaid : Prop := fnExactScaleDecRow.holds Tryd.pinned (OpenSpec.ofChange fnExactScaleDecSpec)

/-- ITS FALSE NEIGHBOUR: 'it returns false'. Refute it at one input. -/
def fnExactScaleDecWrong : ChangeSpec := { name := "fnExactScaleDec", vars := ["loop.example/g00774/impl.errForm", "loop.example/g00774/impl.errType", "loop.example/g00774/impl.kindRows"], fn := fun _ => fun
  | [d1, d2, g1, g2, g3] => { results := [.lit (.bool false)], args := [d1, d2], vars := [g1, g2, g3] }
  | _ => none }
def FnExactScaleDecWrongFalsely : Prop := fnExactScaleDecRow.holds Tryd.pinned (OpenSpec.ofChange fnExactScaleDecWrong)

/-- 'laws.FnExactProtoOk': WHATEVER THE INPUT: true; the input reads as it did. -/
def fnExactProtoOkSpec : ChangeSpec := { name := "fnExactProtoOk", vars := ["loop.example/g00774/impl.errType", "loop.example/g00774/impl.kindRows"], fn := fun _ => fun
  | [d, g1, g2] => { results := [.lit (.bool true)], args := [d], vars := [g1, g2] }
  | _ => none }
def fnExactProtoOkRow : OpenClaim := { program := "ytogadhfickojcaadoor", sum := "fabcfc30fb67853e84f449708e6f5a2d5caeca148903416f4c3f76181d83add9", func := "loop.example/g00774/laws.FnExactProtoOk", spec := "fnExactProtoOk", unfollowed := true, recurses := true, named := ["loop.example/g00774/impl.errType", "loop.example/g00774/impl.kindRows"], ifaces := true, apart := false, laid := [("loop.example/g00774/impl.kindRows", laid_loop_example_g00774_impl_kindRows), ("loop.example/g00774/impl.errType", laid_loop_example_g00774_impl_errType)] }
def FnExactProtoOkSaid : Prop := fnExactProtoOkRow.holds Tryd.pinned (OpenSpec.ofChange fnExactProtoOkSpec)

/-- ITS FALSE NEIGHBOUR: 'it returns false'. Refute it at one input. -/
def fnExactProtoOkWrong : ChangeSpec := { name := "fnExactProtoOk", vars := ["loop.example/g00774/impl.errType", "loop.example/g00774/impl.kindRows"], fn := fun _ => fun
  | [d, g1, g2] => { results := [.lit (.bool false)], args := [d], vars := [g1, g2] }
  | _ => none }
def FnExactProtoOkWrongFalsely : Prop := fnExactProtoOkRow.holds Tryd.pinned (OpenSpec.ofChange fnExactProtoOkWrong)

/-- 'laws.FnExactProtoEnc': WHATEVER THE INPUT: true; the input reads as it did. -/
def fnExactProtoEncSpec : ChangeSpec := { name := "fnExactProtoEnc", vars := ["loop.example/g00774/impl.errType", "loop.example/g00774/impl.kindRows"], fn := fun _ => fun
  | [d1, d2, g1, g2] => { results := [.lit (.bool true)], args := [d1, d2], vars := [g1, g2] }
  | _ => none }
def fnExactProtoEncRow : OpenClaim := { program := "ytogadhfickojcaadoor", sum := "fabcfc30fb67853e84f449708e6f5a2d5caeca148903416f4c3f76181d83add9", func := "loop.example/g00774/laws.FnExactProtoEnc", spec := "fnExactProtoEnc", unfollowed := true, recurses := true, named := ["loop.example/g00774/impl.errType", "loop.example/g00774/impl.kindRows"], ifaces := true, apart := false, laid := [("loop.example/g00774/impl.kindRows", laid_loop_example_g00774_impl_kindRows), ("loop.example/g00774/impl.errType", laid_loop_example_g00774_impl_errType)] }
def FnExactProtoEncSaid : Prop := fnExactProtoEncRow.holds Tryd.pinned (OpenSpec.ofChange fnExactProtoEncSpec)

/-- ITS FALSE NEIGHBOUR: 'it returns false'. Refute it at one input. -/
def fnExactProtoEncWrong : ChangeSpec := { name := "fnExactProtoEnc", vars := ["loop.example/g00774/impl.errType", "loop.example/g00774/impl.kindRows"], fn := fun _ => fun
  | [d1, d2, g1, g2] => { results := [.lit (.bool false)], args := [d1, d2], vars := [g1, g2] }
  | _ => none }
def FnExactProtoEncWrongFalsely : Prop := fnExactProtoEncRow.holds Tryd.pinned (OpenSpec.ofChange fnExactProtoEncWrong)

/-- 'laws.FnExactBitcoinOk': WHATEVER THE INPUT: true; the input reads as it did. -/
def fnExactBitcoinOkSpec : ChangeSpec := { name := "fnExactBitcoinOk", vars := ["loop.example/g00774/impl.errType", "loop.example/g00774/impl.kindRows"], fn := fun _ => fun
  | [d, g1, g2] => { results := [.lit (.bool true)], args := [d], vars := [g1, g2] }
  | _ => none }
def fnExactBitcoinOkRow : OpenClaim := { program := "ytogadhfickojcaadoor", sum := "fabcfc30fb67853e84f449708e6f5a2d5caeca148903416f4c3f76181d83add9", func := "loop.example/g00774/laws.FnExactBitcoinOk", spec := "fnExactBitcoinOk", unfollowed := true, recurses := true, named := ["loop.example/g00774/impl.errType", "loop.example/g00774/impl.kindRows"], ifaces := true, apart := false, laid := [("loop.example/g00774/impl.kindRows", laid_loop_example_g00774_impl_kindRows), ("loop.example/g00774/impl.errType", laid_loop_example_g00774_impl_errType)] }
def FnExactBitcoinOkSaid : Prop := fnExactBitcoinOkRow.holds Tryd.pinned (OpenSpec.ofChange fnExactBitcoinOkSpec)

/-- ITS FALSE NEIGHBOUR: 'it returns false'. Refute it at one input. -/
def fnExactBitcoinOkWrong : ChangeSpec := { name := "fnExactBitcoinOk", vars := ["loop.example/g00774/impl.errType", "loop.example/g00774/impl.kindRows"], fn := fun _ => fun
  | [d, g1, g2] => { results := [.lit (.bool false)], args := [d], vars := [g1, g2] }
  | _ => none }
def FnExactBitcoinOkWrongFalsely : Prop := fnExactBitcoinOkRow.holds Tryd.pinned (OpenSpec.ofChange fnExactBitcoinOkWrong)

/-- 'laws.FnExactBitcoinEnc': WHATEVER THE INPUT: true; the input reads as it did. -/
def fnExactBitcoinEncSpec : ChangeSpec := { name := "fnExactBitcoinEnc", vars := ["loop.example/g00774/impl.errType", "loop.example/g00774/impl.kindRows"], fn := fun _ => fun
  | [d1, d2, g1, g2] => { results := [.lit (.bool true)], args := [d1, d2], vars := [g1, g2] }
  | _ => none }
def fnExactBitcoinEncRow : OpenClaim := { program := "ytogadhfickojcaadoor", sum := "fabcfc30fb67853e84f449708e6f5a2d5caeca148903416f4c3f76181d83add9", func := "loop.example/g00774/laws.FnExactBitcoinEnc", spec := "fnExactBitcoinEnc", unfollowed := true, recurses := true, named := ["loop.example/g00774/impl.errType", "loop.example/g00774/impl.kindRows"], ifaces := true, apart := false, laid := [("loop.example/g00774/impl.kindRows", laid_loop_example_g00774_impl_kindRows), ("loop.example/g00774/impl.errType", laid_loop_example_g00774_impl_errType)] }
def FnExactBitcoinEncSaid : Prop := fnExactBitcoinEncRow.holds Tryd.pinned (OpenSpec.ofChange fnExactBitcoinEncSpec)

/-- ITS FALSE NEIGHBOUR: 'it returns false'. Refute it at one input. -/
def fnExactBitcoinEncWrong : ChangeSpec := { name := "fnExactBitcoinEnc", vars := ["loop.example/g00774/impl.errType", "loop.example/g00774/impl.kindRows"], fn := fun _ => fun
  | [d1, d2, g1, g2] => { results := [.lit (.bool false)], args := [d1, d2], vars := [g1, g2] }
  | _ => none }
def FnExactBitcoinEncWrongFalsely : Prop := fnExactBitcoinEncRow.holds Tryd.pinned (OpenSpec.ofChange fnExactBitcoinEncWrong)

/-- 'laws.FnExactBitcoinDec': WHATEVER THE INPUT: true; the input reads as it did. -/
def fnExactBitcoinDecSpec : ChangeSpec := { name := "fnExactBitcoinDec", vars := ["loop.example/g00774/impl.errForm", "loop.example/g00774/impl.errType", "loop.example/g00774/impl.kindRows"], fn := fun _ => fun
  | [d1, d2, g1, g2, g3] => { results := [.lit (.bool true)], args := [d1, d2], vars := [g1, g2, g3] }
  | _ => none }
def fnExactBitcoinDecRow : OpenClaim := { program := "ytogadhfickojcaadoor", sum := "fabcfc30fb67853e84f449708e6f5a2d5caeca148903416f4c3f76181d83add9", func := "loop.example/g00774/laws.FnExactBitcoinDec", spec := "fnExactBitcoinDec", unfollowed := true, recurses := true, named := ["loop.example/g00774/impl.errForm", "loop.example/g00774/impl.errType", "loop.example/g00774/impl.kindRows"], ifaces := true, apart := false, laid := [("loop.example/g00774/impl.kindRows", laid_loop_example_g00774_impl_kindRows), ("loop.example/g00774/impl.errType", laid_loop_example_g00774_impl_errType), ("loop.example/g00774/impl.errForm", laid_loop_example_g00774_impl_errForm)] }
def FnExactBitcoinDecSaid : Prop := fnExactBitcoinDecRow.holds Tryd.pinned (OpenSpec.ofChange fnExactBitcoinDecSpec)

/-- ITS FALSE NEIGHBOUR: 'it returns false'. Refute it at one input. -/
def fnExactBitcoinDecWrong : ChangeSpec := { name := "fnExactBitcoinDec", vars := ["loop.example/g00774/impl.errForm", "loop.example/g00774/impl.errType", "loop.example/g00774/impl.kindRows"], fn := fun _ => fun
  | [d1, d2, g1, g2, g3] => { results := [.lit (.bool false)], args := [d1, d2], vars := [g1, g2, g3] }
  | _ => none }
def FnExactBitcoinDecWrongFalsely : Prop := fnExactBitcoinDecRow.holds Tryd.pinned (OpenSpec.ofChange fnExactBitcoinDecWrong)

/- THE SECOND FORM. 'bulk': how many values and letters a reading holds, each counted each time it is reached (what is shared counts as often as it is met; a slice's spare places count too). A statement '..UptoSaid' is the law's where the arguments, and the package variables that the reading takes, are together of bulk at most 1048576: NARROWER than '..Said'. Prove '..Said' where nothing that the law and all that it calls make is longer than what came in: it says more and counts as full. Else prove '..UptoSaid'. A law counts once. -/
mutual
def uptoBulk {H : Type} : DataW H → Nat
  | .lit (.string bytes) => bytes.length + 1
  | .lit _ => 1
  | .nil => 1
  | .ptr d => uptoBulk d + 1
  | .slice elems spare => uptoBulkAll elems + uptoBulkAll spare + 1
  | .agg parts => uptoBulkAll parts + 1
  | .iface _ d => uptoBulk d + 1
  | .map entries => uptoBulkEntries entries + 1
  | .held _ => 1
def uptoBulkAll {H : Type} : List (DataW H) → Nat
  | [] => 0
  | d :: r => uptoBulk d + uptoBulkAll r
def uptoBulkEntries {H : Type} : List (Lit × DataW H) → Nat
  | [] => 0
  | x :: r => uptoBulkEntry x + uptoBulkEntries r
def uptoBulkEntry {H : Type} : Lit × DataW H → Nat
  | (.string bytes, d) => bytes.length + uptoBulk d + 1
  | (_, d) => uptoBulk d + 1
 end
def uptoSmall : (H : Type) → List (DataW H) → Bool := fun _ ds => decide (uptoBulkAll ds ≤ 1048576)
def OpenSpec.upto (s : _root_.Go.ChangeSpec) : _root_.Go.OpenSpec := { _root_.Go.OpenSpec.ofChange s with cond := some uptoSmall }

/-- 'laws.FnRlpTwo', WHERE WHAT IT READS IS OF BULK AT MOST 1048576: true; the input reads as it did. -/
def fnRlpTwoUptoRow : OpenClaim := { program := "ytogadhfickojcaadoor", sum := "fabcfc30fb67853e84f449708e6f5a2d5caeca148903416f4c3f76181d83add9", func := "loop.example/g00774/laws.FnRlpTwo", spec := "fnRlpTwo", unfollowed := true, recurses := true, named := ["loop.example/g00774/impl.errType", "loop.example/g00774/impl.kindRows"], ifaces := true, apart := false, laid := [("loop.example/g00774/impl.kindRows", laid_loop_example_g00774_impl_kindRows), ("loop.example/g00774/impl.errType", laid_loop_example_g00774_impl_errType)], narrowed := true }
def FnRlpTwoUptoSaid : Prop := fnRlpTwoUptoRow.holds Tryd.pinned (OpenSpec.upto fnRlpTwoSpec)

/-- 'laws.FnSszTwo', WHERE WHAT IT READS IS OF BULK AT MOST 1048576: true; the input reads as it did. -/
def fnSszTwoUptoRow : OpenClaim := { program := "ytogadhfickojcaadoor", sum := "fabcfc30fb67853e84f449708e6f5a2d5caeca148903416f4c3f76181d83add9", func := "loop.example/g00774/laws.FnSszTwo", spec := "fnSszTwo", unfollowed := true, recurses := true, named := ["loop.example/g00774/impl.errType", "loop.example/g00774/impl.kindRows"], ifaces := true, apart := false, laid := [("loop.example/g00774/impl.kindRows", laid_loop_example_g00774_impl_kindRows), ("loop.example/g00774/impl.errType", laid_loop_example_g00774_impl_errType)], narrowed := true }
def FnSszTwoUptoSaid : Prop := fnSszTwoUptoRow.holds Tryd.pinned (OpenSpec.upto fnSszTwoSpec)

/-- 'laws.FnSszSome', WHERE WHAT IT READS IS OF BULK AT MOST 1048576: true; the input reads as it did. -/
def fnSszSomeUptoRow : OpenClaim := { program := "ytogadhfickojcaadoor", sum := "fabcfc30fb67853e84f449708e6f5a2d5caeca148903416f4c3f76181d83add9", func := "loop.example/g00774/laws.FnSszSome", spec := "fnSszSome", unfollowed := true, recurses := true, named := ["loop.example/g00774/impl.errType", "loop.example/g00774/impl.kindRows"], ifaces := true, apart := false, laid := [("loop.example/g00774/impl.kindRows", laid_loop_example_g00774_impl_kindRows), ("loop.example/g00774/impl.errType", laid_loop_example_g00774_impl_errType)], narrowed := true }
def FnSszSomeUptoSaid : Prop := fnSszSomeUptoRow.holds Tryd.pinned (OpenSpec.upto fnSszSomeSpec)

/-- 'laws.FnProtoAdded', WHERE WHAT IT READS IS OF BULK AT MOST 1048576: true; the input reads as it did. -/
def fnProtoAddedUptoRow : OpenClaim := { program := "ytogadhfickojcaadoor", sum := "fabcfc30fb67853e84f449708e6f5a2d5caeca148903416f4c3f76181d83add9", func := "loop.example/g00774/laws.FnProtoAdded", spec := "fnProtoAdded", unfollowed := true, recurses := true, named := ["loop.example/g00774/impl.errType", "loop.example/g00774/impl.kindRows"], ifaces := true, apart := false, laid := [("loop.example/g00774/impl.kindRows", laid_loop_example_g00774_impl_kindRows), ("loop.example/g00774/impl.errType", laid_loop_example_g00774_impl_errType)], narrowed := true }
def FnProtoAddedUptoSaid : Prop := fnProtoAddedUptoRow.holds Tryd.pinned (OpenSpec.upto fnProtoAddedSpec)

/-- 'laws.FnProtoInner', WHERE WHAT IT READS IS OF BULK AT MOST 1048576: true; the input reads as it did. -/
def fnProtoInnerUptoRow : OpenClaim := { program := "ytogadhfickojcaadoor", sum := "fabcfc30fb67853e84f449708e6f5a2d5caeca148903416f4c3f76181d83add9", func := "loop.example/g00774/laws.FnProtoInner", spec := "fnProtoInner", unfollowed := true, recurses := true, named := ["loop.example/g00774/impl.errType", "loop.example/g00774/impl.kindRows"], ifaces := true, apart := false, laid := [("loop.example/g00774/impl.kindRows", laid_loop_example_g00774_impl_kindRows), ("loop.example/g00774/impl.errType", laid_loop_example_g00774_impl_errType)], narrowed := true }
def FnProtoInnerUptoSaid : Prop := fnProtoInnerUptoRow.holds Tryd.pinned (OpenSpec.upto fnProtoInnerSpec)

/-- 'laws.FnProtoParts', WHERE WHAT IT READS IS OF BULK AT MOST 1048576: true; the input reads as it did. -/
def fnProtoPartsUptoRow : OpenClaim := { program := "ytogadhfickojcaadoor", sum := "fabcfc30fb67853e84f449708e6f5a2d5caeca148903416f4c3f76181d83add9", func := "loop.example/g00774/laws.FnProtoParts", spec := "fnProtoParts", unfollowed := true, recurses := true, named := ["loop.example/g00774/impl.errType", "loop.example/g00774/impl.kindRows"], ifaces := true, apart := false, laid := [("loop.example/g00774/impl.kindRows", laid_loop_example_g00774_impl_kindRows), ("loop.example/g00774/impl.errType", laid_loop_example_g00774_impl_errType)], narrowed := true }
def FnProtoPartsUptoSaid : Prop := fnProtoPartsUptoRow.holds Tryd.pinned (OpenSpec.upto fnProtoPartsSpec)

/-- 'laws.FnExactTyped', WHERE WHAT IT READS IS OF BULK AT MOST 1048576: true; the input reads as it did. -/
def fnExactTypedUptoRow : OpenClaim := { program := "ytogadhfickojcaadoor", sum := "fabcfc30fb67853e84f449708e6f5a2d5caeca148903416f4c3f76181d83add9", func := "loop.example/g00774/laws.FnExactTyped", spec := "fnExactTyped", recurses := true, named := ["loop.example/g00774/impl.kindRows"], apart := false, laid := [("loop.example/g00774/impl.kindRows", laid_loop_example_g00774_impl_kindRows)], narrowed := true }
def FnExactTypedUptoSaid : Prop := fnExactTypedUptoRow.holds Tryd.pinned (OpenSpec.upto fnExactTypedSpec)

/-- 'laws.FnExactZeroOf', WHERE WHAT IT READS IS OF BULK AT MOST 1048576: true; the input reads as it did. -/
def fnExactZeroOfUptoRow : OpenClaim := { program := "ytogadhfickojcaadoor", sum := "fabcfc30fb67853e84f449708e6f5a2d5caeca148903416f4c3f76181d83add9", func := "loop.example/g00774/laws.FnExactZeroOf", spec := "fnExactZeroOf", inPlace := ["internal/abi.NoEscape", "internal/bytealg.MakeNoZero"], unfollowed := true, recurses := true, named := ["loop.example/g00774/impl.kindRows"], apart := false, laid := [("loop.example/g00774/impl.kindRows", laid_loop_example_g00774_impl_kindRows)], narrowed := true }
def FnExactZeroOfUptoSaid : Prop := fnExactZeroOfUptoRow.holds Tryd.pinned (OpenSpec.upto fnExactZeroOfSpec)

/-- 'laws.FnExactRlpEnc', WHERE WHAT IT READS IS OF BULK AT MOST 1048576: true; the input reads as it did. -/
def fnExactRlpEncUptoRow : OpenClaim := { program := "ytogadhfickojcaadoor", sum := "fabcfc30fb67853e84f449708e6f5a2d5caeca148903416f4c3f76181d83add9", func := "loop.example/g00774/laws.FnExactRlpEnc", spec := "fnExactRlpEnc", unfollowed := true, recurses := true, named := ["loop.example/g00774/impl.errType", "loop.example/g00774/impl.kindRows"], ifaces := true, apart := false, laid := [("loop.example/g00774/impl.kindRows", laid_loop_example_g00774_impl_kindRows), ("loop.example/g00774/impl.errType", laid_loop_example_g00774_impl_errType)], narrowed := true }
def FnExactRlpEncUptoSaid : Prop := fnExactRlpEncUptoRow.holds Tryd.pinned (OpenSpec.upto fnExactRlpEncSpec)

/-- 'laws.FnExactSszEnc', WHERE WHAT IT READS IS OF BULK AT MOST 1048576: true; the input reads as it did. -/
def fnExactSszEncUptoRow : OpenClaim := { program := "ytogadhfickojcaadoor", sum := "fabcfc30fb67853e84f449708e6f5a2d5caeca148903416f4c3f76181d83add9", func := "loop.example/g00774/laws.FnExactSszEnc", spec := "fnExactSszEnc", unfollowed := true, recurses := true, named := ["loop.example/g00774/impl.errType", "loop.example/g00774/impl.kindRows"], ifaces := true, apart := false, laid := [("loop.example/g00774/impl.kindRows", laid_loop_example_g00774_impl_kindRows), ("loop.example/g00774/impl.errType", laid_loop_example_g00774_impl_errType)], narrowed := true }
def FnExactSszEncUptoSaid : Prop := fnExactSszEncUptoRow.holds Tryd.pinned (OpenSpec.upto fnExactSszEncSpec)

/-- 'laws.FnExactScaleEnc', WHERE WHAT IT READS IS OF BULK AT MOST 1048576: true; the input reads as it did. -/
def fnExactScaleEncUptoRow : OpenClaim := { program := "ytogadhfickojcaadoor", sum := "fabcfc30fb67853e84f449708e6f5a2d5caeca148903416f4c3f76181d83add9", func := "loop.example/g00774/laws.FnExactScaleEnc", spec := "fnExactScaleEnc", unfollowed := true, recurses := true, named := ["loop.example/g00774/impl.errType", "loop.example/g00774/impl.kindRows"], ifaces := true, apart := false, laid := [("loop.example/g00774/impl.kindRows", laid_loop_example_g00774_impl_kindRows), ("loop.example/g00774/impl.errType", laid_loop_example_g00774_impl_errType)], narrowed := true }
def FnExactScaleEncUptoSaid : Prop := fnExactScaleEncUptoRow.holds Tryd.pinned (OpenSpec.upto fnExactScaleEncSpec)

/-- 'laws.FnExactScaleDec', WHERE WHAT IT READS IS OF BULK AT MOST 1048576: true; the input reads as it did. -/
def fnExactScaleDecUptoRow : OpenClaim := { program := "ytogadhfickojcaadoor", sum := "fabcfc30fb67853e84f449708e6f5a2d5caeca148903416f4c3f76181d83add9", func := "loop.example/g00774/laws.FnExactScaleDec", spec := "fnExactScaleDec", unfollowed := true, recurses := true, named := ["loop.example/g00774/impl.errForm", "loop.example/g00774/impl.errType", "loop.example/g00774/impl.kindRows"], ifaces := true, apart := false, laid := [("loop.example/g00774/impl.kindRows", laid_loop_example_g00774_impl_kindRows), ("loop.example/g00774/impl.errType", laid_loop_example_g00774_impl_errType), ("loop.example/g00774/impl.errForm", laid_loop_example_g00774_impl_errForm)], narrowed := true }
def FnExactScaleDecUptoSaid : Prop := fnExactScaleDecUptoRow.holds Tryd.pinned (OpenSpec.upto fnExactScaleDecSpec)

/-- 'laws.FnExactProtoOk', WHERE WHAT IT READS IS OF BULK AT MOST 1048576: true; the input reads as it did. -/
def fnExactProtoOkUptoRow : OpenClaim := { program := "ytogadhfickojcaadoor", sum := "fabcfc30fb67853e84f449708e6f5a2d5caeca148903416f4c3f76181d83add9", func := "loop.example/g00774/laws.FnExactProtoOk", spec := "fnExactProtoOk", unfollowed := true, recurses := true, named := ["loop.example/g00774/impl.errType", "loop.example/g00774/impl.kindRows"], ifaces := true, apart := false, laid := [("loop.example/g00774/impl.kindRows", laid_loop_example_g00774_impl_kindRows), ("loop.example/g00774/impl.errType", laid_loop_example_g00774_impl_errType)], narrowed := true }
def FnExactProtoOkUptoSaid : Prop := fnExactProtoOkUptoRow.holds Tryd.pinned (OpenSpec.upto fnExactProtoOkSpec)

/-- 'laws.FnExactProtoEnc', WHERE WHAT IT READS IS OF BULK AT MOST 1048576: true; the input reads as it did. -/
def fnExactProtoEncUptoRow : OpenClaim := { program := "ytogadhfickojcaadoor", sum := "fabcfc30fb67853e84f449708e6f5a2d5caeca148903416f4c3f76181d83add9", func := "loop.example/g00774/laws.FnExactProtoEnc", spec := "fnExactProtoEnc", unfollowed := true, recurses := true, named := ["loop.example/g00774/impl.errType", "loop.example/g00774/impl.kindRows"], ifaces := true, apart := false, laid := [("loop.example/g00774/impl.kindRows", laid_loop_example_g00774_impl_kindRows), ("loop.example/g00774/impl.errType", laid_loop_example_g00774_impl_errType)], narrowed := true }
def FnExactProtoEncUptoSaid : Prop := fnExactProtoEncUptoRow.holds Tryd.pinned (OpenSpec.upto fnExactProtoEncSpec)

/-- 'laws.FnExactBitcoinOk', WHERE WHAT IT READS IS OF BULK AT MOST 1048576: true; the input reads as it did. -/
def fnExactBitcoinOkUptoRow : OpenClaim := { program := "ytogadhfickojcaadoor", sum := "fabcfc30fb67853e84f449708e6f5a2d5caeca148903416f4c3f76181d83add9", func := "loop.example/g00774/laws.FnExactBitcoinOk", spec := "fnExactBitcoinOk", unfollowed := true, recurses := true, named := ["loop.example/g00774/impl.errType", "loop.example/g00774/impl.kindRows"], ifaces := true, apart := false, laid := [("loop.example/g00774/impl.kindRows", laid_loop_example_g00774_impl_kindRows), ("loop.example/g00774/impl.errType", laid_loop_example_g00774_impl_errType)], narrowed := true }
def FnExactBitcoinOkUptoSaid : Prop := fnExactBitcoinOkUptoRow.holds Tryd.pinned (OpenSpec.upto fnExactBitcoinOkSpec)

/-- 'laws.FnExactBitcoinEnc', WHERE WHAT IT READS IS OF BULK AT MOST 1048576: true; the input reads as it did. -/
def fnExactBitcoinEncUptoRow : OpenClaim := { program := "ytogadhfickojcaadoor", sum := "fabcfc30fb67853e84f449708e6f5a2d5caeca148903416f4c3f76181d83add9", func := "loop.example/g00774/laws.FnExactBitcoinEnc", spec := "fnExactBitcoinEnc", unfollowed := true, recurses := true, named := ["loop.example/g00774/impl.errType", "loop.example/g00774/impl.kindRows"], ifaces := true, apart := false, laid := [("loop.example/g00774/impl.kindRows", laid_loop_example_g00774_impl_kindRows), ("loop.example/g00774/impl.errType", laid_loop_example_g00774_impl_errType)], narrowed := true }
def FnExactBitcoinEncUptoSaid : Prop := fnExactBitcoinEncUptoRow.holds Tryd.pinned (OpenSpec.upto fnExactBitcoinEncSpec)

/-- 'laws.FnExactBitcoinDec', WHERE WHAT IT READS IS OF BULK AT MOST 1048576: true; the input reads as it did. -/
def fnExactBitcoinDecUptoRow : OpenClaim := { program := "ytogadhfickojcaadoor", sum := "fabcfc30fb67853e84f449708e6f5a2d5caeca148903416f4c3f76181d83add9", func := "loop.example/g00774/laws.FnExactBitcoinDec", spec := "fnExactBitcoinDec", unfollowed := true, recurses := true, named := ["loop.example/g00774/impl.errForm", "loop.example/g00774/impl.errType", "loop.example/g00774/impl.kindRows"], ifaces := true, apart := false, laid := [("loop.example/g00774/impl.kindRows", laid_loop_example_g00774_impl_kindRows), ("loop.example/g00774/impl.errType", laid_loop_example_g00774_impl_errType), ("loop.example/g00774/impl.errForm", laid_loop_example_g00774_impl_errForm)], narrowed := true }
def FnExactBitcoinDecUptoSaid : Prop := fnExactBitcoinDecUptoRow.holds Tryd.pinned (OpenSpec.upto fnExactBitcoinDecSpec)

end Rows
end Go.Proofs.YtogadhfickojcaaDoor
