/- A number of a whole width, read. -/
import Derived.Test.YtloobcmeafejpaaDoorL1d
namespace Go.Proofs.YtloobcmeafejpaaDoor
open Go.RowKit
set_option linter.unusedVariables false
theorem readWhole_u32_any (s : ByteArray) (w : World) (hs : s.size ≤ maxLen) : Calls Tryd.prog 26 #[.string s] w fun e w' => e = .returned (.tuple #[.int .u32 (if s.size < 4 then 0 else leV (s.data.toList.take 4) : Nat), .bool (decide (4 ≤ s.size))]) ∧ w' = w := by
  have C := fun w => readLow_u32_any s 4 w (by decide) hs
  rw [show ((4 : Nat) : Int) = 4 from rfl] at C
  have HC : Hid _ := C
  clear C hs
  generalize (if s.size < 4 then 0 else leV (s.data.toList.take 4) : Nat) = v at *
  generalize decide (4 ≤ s.size) = b at *
  go_enter Tryd.func26, Tryd.ntmps26
  go_wp2_with (first | (go_at_call 14; refine (widthOf_u32_any _).mono ?_; rintro e w' ⟨rfl, rfl⟩) | (go_at_call 29; refine (HC.out _).mono ?_; rintro e w' ⟨rfl, rfl⟩))
  go_ret2
  exact ⟨rfl, rfl⟩
end Go.Proofs.YtloobcmeafejpaaDoor
