/- The table, off what its text lays. -/
import Derived.Test.YtgidjhgaeghanaaDoorG7a
import Derived.ProofKit
import Derived.OpenShut
import Derived.ShutString
import Derived.ChangeOld
import Derived.LaidMore
import Derived.LaidOnce
import Derived.Stop.Joined
import Derived.Stop.LaidErr
import Derived.Lib.LaidTab
namespace Go.Proofs.YtgidjhgaeghanaaDoor
open Go.ChangeShapes Go.WideShapes Go.ChangeAt Go.RowKit
open Go.ChangeMaps (open_string shut_string)
set_option linter.unusedVariables false
theorem Tryd.own : ownKnob Tryd.prog.godebug = none := by kernel_rfl
theorem Tryd.laidOut : laidOutB Tryd.prog = true := by kernel_rfl
theorem Tryd.tKR : (Tryd.prog.globals[0]?).map (·.type) = some 50 := by kernel_rfl
abbrev laidKR : List (String × DataW Unit) := [("loop.example/g00774/impl.crcParts", Rows.laid_loop_example_g00774_impl_crcParts)]
def kc : Array Value := ((crTab.map fun (z : Nat) => (z : Int)).map fun z => Value.int .u32 z).toArray
theorem kr_of_laid {W : World} (h : laidMetH Tryd.prog laidKR W) : W.var? Tryd.prog "loop.example/g00774/impl.crcParts" = some kc := by
  rw [MakeChecks.laidMetH_plain _ _ _ (by kernel_rfl)] at h
  have e : (Rows.laid_loop_example_g00774_impl_crcParts : DataW Unit) = Lib.tabData .u32 (crTab.map fun (z : Nat) => (z : Int)) := by kernel_rfl
  rw [show laidKR = [("loop.example/g00774/impl.crcParts", Rows.laid_loop_example_g00774_impl_crcParts)] from rfl, e] at h
  exact Lib.tabIs_of_head Tryd.gKR Tryd.tKR Tryd.underlying50 Tryd.underlying37 (by kernel_rfl) (by kernel_rfl) h
theorem KR.of_laid {W : World} (h : laidMetH Tryd.prog laidKR W) : KR W := by
  have hv := kr_of_laid h
  refine ⟨?_, hv⟩
  unfold World.var? at hv
  rw [Tryd.gKR] at hv
  simp only [Option.bind_some] at hv
  split at hv
  · rename_i cs t fr heq
    rcases Nat.lt_or_ge 0 W.heap.size with h' | h'
    · exact h'
    · simp [Array.getElem?_eq_none h'] at heq
  · cases hv
theorem reads_kr {H : Type} (enc : TypeId × Value → H) (W : World) (sp : Nat → Bool) : DataW.trod enc Tryd.prog W 0 sp true 4 50 kc.toList = some (Rows.laid_loop_example_g00774_impl_crcParts, []) := by kernel_rfl
end Go.Proofs.YtgidjhgaeghanaaDoor
