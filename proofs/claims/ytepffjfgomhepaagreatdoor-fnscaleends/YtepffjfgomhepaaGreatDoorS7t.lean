/- A value's kind, asked of its tree: the type switch's facts. -/
import Derived.Test.YtepffjfgomhepaaGreatDoorS3f
namespace Go.Proofs.YtepffjfgomhepaaGreatDoor
open Go.RowKit Go.Sort
set_option linter.unusedVariables false
theorem as_yes_137 (v : Value) (W : World) : (Instr.typeAssert (.iface 137 v) 70 137 true).run Tryz.prog W = .ok (.tuple #[v, .bool true]) W := by kernel_rfl
theorem as_yes_139 (v : Value) (W : World) : (Instr.typeAssert (.iface 139 v) 70 139 true).run Tryz.prog W = .ok (.tuple #[v, .bool true]) W := by kernel_rfl
theorem as_yes_155 (v : Value) (W : World) : (Instr.typeAssert (.iface 155 v) 70 155 true).run Tryz.prog W = .ok (.tuple #[v, .bool true]) W := by kernel_rfl
theorem as_yes_157 (v : Value) (W : World) : (Instr.typeAssert (.iface 157 v) 70 157 true).run Tryz.prog W = .ok (.tuple #[v, .bool true]) W := by kernel_rfl
theorem as_no_139_137 (v : Value) (W : World) : (Instr.typeAssert (.iface 139 v) 70 137 true).run Tryz.prog W = .ok (.tuple #[.agg #[.pointer none, .int .u64 0], .bool false]) W := by kernel_rfl
theorem as_no_155_137 (v : Value) (W : World) : (Instr.typeAssert (.iface 155 v) 70 137 true).run Tryz.prog W = .ok (.tuple #[.agg #[.pointer none, .int .u64 0], .bool false]) W := by kernel_rfl
theorem as_no_157_137 (v : Value) (W : World) : (Instr.typeAssert (.iface 157 v) 70 137 true).run Tryz.prog W = .ok (.tuple #[.agg #[.pointer none, .int .u64 0], .bool false]) W := by kernel_rfl
theorem as_no_155_139 (v : Value) (W : World) : (Instr.typeAssert (.iface 155 v) 70 139 true).run Tryz.prog W = .ok (.tuple #[.agg #[.pointer none, .string ⟨#[]⟩], .bool false]) W := by kernel_rfl
theorem as_no_157_139 (v : Value) (W : World) : (Instr.typeAssert (.iface 157 v) 70 139 true).run Tryz.prog W = .ok (.tuple #[.agg #[.pointer none, .string ⟨#[]⟩], .bool false]) W := by kernel_rfl
theorem as_no_157_155 (v : Value) (W : World) : (Instr.typeAssert (.iface 157 v) 70 155 true).run Tryz.prog W = .ok (.tuple #[.agg #[.pointer none, .slice none 0 0], .bool false]) W := by kernel_rfl
theorem as_no_137_155 (v : Value) (W : World) : (Instr.typeAssert (.iface 137 v) 70 155 true).run Tryz.prog W = .ok (.tuple #[.agg #[.pointer none, .slice none 0 0], .bool false]) W := by kernel_rfl
theorem as_no_139_155 (v : Value) (W : World) : (Instr.typeAssert (.iface 139 v) 70 155 true).run Tryz.prog W = .ok (.tuple #[.agg #[.pointer none, .slice none 0 0], .bool false]) W := by kernel_rfl
theorem as_no_137_157 (v : Value) (W : World) : (Instr.typeAssert (.iface 137 v) 70 157 true).run Tryz.prog W = .ok (.tuple #[.agg #[.pointer none, .int .u64 0, .nilIface], .bool false]) W := by kernel_rfl
theorem as_no_139_157 (v : Value) (W : World) : (Instr.typeAssert (.iface 139 v) 70 157 true).run Tryz.prog W = .ok (.tuple #[.agg #[.pointer none, .int .u64 0, .nilIface], .bool false]) W := by kernel_rfl
end Go.Proofs.YtepffjfgomhepaaGreatDoor
