/- A value's kind, asked of its tree: the type switch's facts. -/
import Derived.Test.YtmhnabkjfiijfaaDoorS3f
namespace Go.Proofs.YtmhnabkjfiijfaaDoor
open Go.RowKit Go.Sort
set_option linter.unusedVariables false
theorem as_yes_137 (v : Value) (W : World) : (Instr.typeAssert (.iface 137 v) 91 137 true).run Tryd.prog W = .ok (.tuple #[v, .bool true]) W := by kernel_rfl
theorem as_yes_139 (v : Value) (W : World) : (Instr.typeAssert (.iface 139 v) 91 139 true).run Tryd.prog W = .ok (.tuple #[v, .bool true]) W := by kernel_rfl
theorem as_yes_156 (v : Value) (W : World) : (Instr.typeAssert (.iface 156 v) 91 156 true).run Tryd.prog W = .ok (.tuple #[v, .bool true]) W := by kernel_rfl
theorem as_yes_158 (v : Value) (W : World) : (Instr.typeAssert (.iface 158 v) 91 158 true).run Tryd.prog W = .ok (.tuple #[v, .bool true]) W := by kernel_rfl
theorem as_no_139_137 (v : Value) (W : World) : (Instr.typeAssert (.iface 139 v) 91 137 true).run Tryd.prog W = .ok (.tuple #[.agg #[.pointer none, .int .u64 0], .bool false]) W := by kernel_rfl
theorem as_no_156_137 (v : Value) (W : World) : (Instr.typeAssert (.iface 156 v) 91 137 true).run Tryd.prog W = .ok (.tuple #[.agg #[.pointer none, .int .u64 0], .bool false]) W := by kernel_rfl
theorem as_no_158_137 (v : Value) (W : World) : (Instr.typeAssert (.iface 158 v) 91 137 true).run Tryd.prog W = .ok (.tuple #[.agg #[.pointer none, .int .u64 0], .bool false]) W := by kernel_rfl
theorem as_no_156_139 (v : Value) (W : World) : (Instr.typeAssert (.iface 156 v) 91 139 true).run Tryd.prog W = .ok (.tuple #[.agg #[.pointer none, .string ⟨#[]⟩], .bool false]) W := by kernel_rfl
theorem as_no_158_139 (v : Value) (W : World) : (Instr.typeAssert (.iface 158 v) 91 139 true).run Tryd.prog W = .ok (.tuple #[.agg #[.pointer none, .string ⟨#[]⟩], .bool false]) W := by kernel_rfl
theorem as_no_158_156 (v : Value) (W : World) : (Instr.typeAssert (.iface 158 v) 91 156 true).run Tryd.prog W = .ok (.tuple #[.agg #[.pointer none, .slice none 0 0], .bool false]) W := by kernel_rfl
theorem as_no_137_156 (v : Value) (W : World) : (Instr.typeAssert (.iface 137 v) 91 156 true).run Tryd.prog W = .ok (.tuple #[.agg #[.pointer none, .slice none 0 0], .bool false]) W := by kernel_rfl
theorem as_no_139_156 (v : Value) (W : World) : (Instr.typeAssert (.iface 139 v) 91 156 true).run Tryd.prog W = .ok (.tuple #[.agg #[.pointer none, .slice none 0 0], .bool false]) W := by kernel_rfl
theorem as_no_137_158 (v : Value) (W : World) : (Instr.typeAssert (.iface 137 v) 91 158 true).run Tryd.prog W = .ok (.tuple #[.agg #[.pointer none, .int .u64 0, .nilIface], .bool false]) W := by kernel_rfl
theorem as_no_139_158 (v : Value) (W : World) : (Instr.typeAssert (.iface 139 v) 91 158 true).run Tryd.prog W = .ok (.tuple #[.agg #[.pointer none, .int .u64 0, .nilIface], .bool false]) W := by kernel_rfl
end Go.Proofs.YtmhnabkjfiijfaaDoor
