/- A value's kind, asked of its tree: the type switch's facts. -/
import Derived.Test.YtocealohiflheaaDoorS3f
namespace Go.Proofs.YtocealohiflheaaDoor
open Go.RowKit Go.Sort
set_option linter.unusedVariables false
theorem as_yes_122 (v : Value) (W : World) : (Instr.typeAssert (.iface 122 v) 88 122 true).run Tryd.prog W = .ok (.tuple #[v, .bool true]) W := by kernel_rfl
theorem as_yes_124 (v : Value) (W : World) : (Instr.typeAssert (.iface 124 v) 88 124 true).run Tryd.prog W = .ok (.tuple #[v, .bool true]) W := by kernel_rfl
theorem as_yes_131 (v : Value) (W : World) : (Instr.typeAssert (.iface 131 v) 88 131 true).run Tryd.prog W = .ok (.tuple #[v, .bool true]) W := by kernel_rfl
theorem as_yes_134 (v : Value) (W : World) : (Instr.typeAssert (.iface 134 v) 88 134 true).run Tryd.prog W = .ok (.tuple #[v, .bool true]) W := by kernel_rfl
theorem as_no_124_122 (v : Value) (W : World) : (Instr.typeAssert (.iface 124 v) 88 122 true).run Tryd.prog W = .ok (.tuple #[.agg #[.pointer none, .int .u64 0], .bool false]) W := by kernel_rfl
theorem as_no_131_122 (v : Value) (W : World) : (Instr.typeAssert (.iface 131 v) 88 122 true).run Tryd.prog W = .ok (.tuple #[.agg #[.pointer none, .int .u64 0], .bool false]) W := by kernel_rfl
theorem as_no_134_122 (v : Value) (W : World) : (Instr.typeAssert (.iface 134 v) 88 122 true).run Tryd.prog W = .ok (.tuple #[.agg #[.pointer none, .int .u64 0], .bool false]) W := by kernel_rfl
theorem as_no_131_124 (v : Value) (W : World) : (Instr.typeAssert (.iface 131 v) 88 124 true).run Tryd.prog W = .ok (.tuple #[.agg #[.pointer none, .string ⟨#[]⟩], .bool false]) W := by kernel_rfl
theorem as_no_134_124 (v : Value) (W : World) : (Instr.typeAssert (.iface 134 v) 88 124 true).run Tryd.prog W = .ok (.tuple #[.agg #[.pointer none, .string ⟨#[]⟩], .bool false]) W := by kernel_rfl
theorem as_no_134_131 (v : Value) (W : World) : (Instr.typeAssert (.iface 134 v) 88 131 true).run Tryd.prog W = .ok (.tuple #[.agg #[.pointer none, .slice none 0 0], .bool false]) W := by kernel_rfl
theorem as_no_122_131 (v : Value) (W : World) : (Instr.typeAssert (.iface 122 v) 88 131 true).run Tryd.prog W = .ok (.tuple #[.agg #[.pointer none, .slice none 0 0], .bool false]) W := by kernel_rfl
theorem as_no_124_131 (v : Value) (W : World) : (Instr.typeAssert (.iface 124 v) 88 131 true).run Tryd.prog W = .ok (.tuple #[.agg #[.pointer none, .slice none 0 0], .bool false]) W := by kernel_rfl
theorem as_no_122_134 (v : Value) (W : World) : (Instr.typeAssert (.iface 122 v) 88 134 true).run Tryd.prog W = .ok (.tuple #[.agg #[.pointer none, .int .u64 0, .nilIface], .bool false]) W := by kernel_rfl
theorem as_no_124_134 (v : Value) (W : World) : (Instr.typeAssert (.iface 124 v) 88 134 true).run Tryd.prog W = .ok (.tuple #[.agg #[.pointer none, .int .u64 0, .nilIface], .bool false]) W := by kernel_rfl
end Go.Proofs.YtocealohiflheaaDoor
