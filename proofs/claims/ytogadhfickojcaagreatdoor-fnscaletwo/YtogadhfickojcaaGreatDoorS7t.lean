/- A value's kind, asked of its tree: the type switch's facts. -/
import Derived.Test.YtogadhfickojcaaGreatDoorS3f
namespace Go.Proofs.YtogadhfickojcaaGreatDoor
open Go.RowKit Go.Sort
set_option linter.unusedVariables false
theorem as_yes_148 (v : Value) (W : World) : (Instr.typeAssert (.iface 148 v) 74 148 true).run Tryz.prog W = .ok (.tuple #[v, .bool true]) W := by kernel_rfl
theorem as_yes_150 (v : Value) (W : World) : (Instr.typeAssert (.iface 150 v) 74 150 true).run Tryz.prog W = .ok (.tuple #[v, .bool true]) W := by kernel_rfl
theorem as_yes_165 (v : Value) (W : World) : (Instr.typeAssert (.iface 165 v) 74 165 true).run Tryz.prog W = .ok (.tuple #[v, .bool true]) W := by kernel_rfl
theorem as_yes_167 (v : Value) (W : World) : (Instr.typeAssert (.iface 167 v) 74 167 true).run Tryz.prog W = .ok (.tuple #[v, .bool true]) W := by kernel_rfl
theorem as_no_150_148 (v : Value) (W : World) : (Instr.typeAssert (.iface 150 v) 74 148 true).run Tryz.prog W = .ok (.tuple #[.agg #[.pointer none, .int .u64 0], .bool false]) W := by kernel_rfl
theorem as_no_165_148 (v : Value) (W : World) : (Instr.typeAssert (.iface 165 v) 74 148 true).run Tryz.prog W = .ok (.tuple #[.agg #[.pointer none, .int .u64 0], .bool false]) W := by kernel_rfl
theorem as_no_167_148 (v : Value) (W : World) : (Instr.typeAssert (.iface 167 v) 74 148 true).run Tryz.prog W = .ok (.tuple #[.agg #[.pointer none, .int .u64 0], .bool false]) W := by kernel_rfl
theorem as_no_165_150 (v : Value) (W : World) : (Instr.typeAssert (.iface 165 v) 74 150 true).run Tryz.prog W = .ok (.tuple #[.agg #[.pointer none, .string ⟨#[]⟩], .bool false]) W := by kernel_rfl
theorem as_no_167_150 (v : Value) (W : World) : (Instr.typeAssert (.iface 167 v) 74 150 true).run Tryz.prog W = .ok (.tuple #[.agg #[.pointer none, .string ⟨#[]⟩], .bool false]) W := by kernel_rfl
theorem as_no_167_165 (v : Value) (W : World) : (Instr.typeAssert (.iface 167 v) 74 165 true).run Tryz.prog W = .ok (.tuple #[.agg #[.pointer none, .slice none 0 0], .bool false]) W := by kernel_rfl
theorem as_no_148_165 (v : Value) (W : World) : (Instr.typeAssert (.iface 148 v) 74 165 true).run Tryz.prog W = .ok (.tuple #[.agg #[.pointer none, .slice none 0 0], .bool false]) W := by kernel_rfl
theorem as_no_150_165 (v : Value) (W : World) : (Instr.typeAssert (.iface 150 v) 74 165 true).run Tryz.prog W = .ok (.tuple #[.agg #[.pointer none, .slice none 0 0], .bool false]) W := by kernel_rfl
theorem as_no_148_167 (v : Value) (W : World) : (Instr.typeAssert (.iface 148 v) 74 167 true).run Tryz.prog W = .ok (.tuple #[.agg #[.pointer none, .int .u64 0, .nilIface], .bool false]) W := by kernel_rfl
theorem as_no_150_167 (v : Value) (W : World) : (Instr.typeAssert (.iface 150 v) 74 167 true).run Tryz.prog W = .ok (.tuple #[.agg #[.pointer none, .int .u64 0, .nilIface], .bool false]) W := by kernel_rfl
end Go.Proofs.YtogadhfickojcaaGreatDoor
