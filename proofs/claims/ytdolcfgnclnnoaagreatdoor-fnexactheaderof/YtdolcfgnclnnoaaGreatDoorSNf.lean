/- The exact laws' own helper on headers: contract. -/
import Derived.Test.YtdolcfgnclnnoaaGreatDoorSNe
namespace Go.Proofs.YtdolcfgnclnnoaaGreatDoor
open Go.RowKit Go.Sort
set_option linter.unusedVariables false
theorem hdR_form (vs : List It) : ∃ (a c : Nat) (d f g : ByteArray) (q : Bool), hdR vs = .tuple #[.agg #[.int .u64 a, .int .u64 c, .string d, .string f, .string g], .bool q] := by
  unfold hdR
  split
  · exact ⟨_, _, _, _, _, _, rfl⟩
  · exact ⟨_, _, _, _, _, _, rfl⟩
set_option maxRecDepth 100000 in
set_option maxHeartbeats 1000000 in
theorem eqHeader_same (a c : Nat) (d f g : ByteArray) (w : World) : Calls Tryz.prog 22 #[.agg #[.int .u64 a, .int .u64 c, .string d, .string f, .string g], .agg #[.int .u64 a, .int .u64 c, .string d, .string f, .string g]] w fun e w' => e = .returned (.bool true) ∧ Below w.heap.size w w' := by
  have h1 : (d.toList == d.toList) = true := by simp
  have h2 : (f.toList == f.toList) = true := by simp
  have h3 : (g.toList == g.toList) = true := by simp
  go_enter Tryz.func22, Tryz.ntmps22
  go_wp2_with fail
  go_ret
  exact ⟨rfl, ((Below.refl _ _).alloc (Nat.le_refl _) _).alloc (by simp) _⟩
end Go.Proofs.YtdolcfgnclnnoaaGreatDoor
