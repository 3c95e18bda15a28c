/- A number of a whole width, read. -/
import Derived.Test.YtgidjhgaeghanaaDoorL1d
namespace Go.Proofs.YtgidjhgaeghanaaDoor
open Go.RowKit
set_option linter.unusedVariables false
theorem readWhole_u32_any (s : ByteArray) (w : World) (hs : s.size ≤ maxLen) : Calls Tryd.prog 30 #[.string s] w fun e w' => e = .returned (.tuple #[.int .u32 (if s.size < 4 then 0 else leV (s.data.toList.take 4) : Nat), .bool (decide (4 ≤ s.size))]) ∧ w' = w := by
  have C := fun w => readLow_u32_any s 4 w (by decide) hs
  rw [show ((4 : Nat) : Int) = 4 from rfl] at C
  have HC : Hid _ := C
  clear C hs
  generalize (if s.size < 4 then 0 else leV (s.data.toList.take 4) : Nat) = v at *
  generalize decide (4 ≤ s.size) = b at *
  go_enter Tryd.func30, Tryd.ntmps30
  go_wp2_with (first | (go_at_call 19; refine (widthOf_u32_any _).mono ?_; rintro e w' ⟨rfl, rfl⟩) | (go_at_call 34; refine (HC.out _).mono ?_; rintro e w' ⟨rfl, rfl⟩))
  go_ret2
  exact ⟨rfl, rfl⟩
end Go.Proofs.YtgidjhgaeghanaaDoor
