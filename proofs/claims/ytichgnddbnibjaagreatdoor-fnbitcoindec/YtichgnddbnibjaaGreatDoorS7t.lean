/- A value's kind, asked of its tree: the type switch's facts. -/
import Derived.Test.YtichgnddbnibjaaGreatDoorS3f
namespace Go.Proofs.YtichgnddbnibjaaGreatDoor
open Go.RowKit Go.Sort
set_option linter.unusedVariables false
theorem as_yes_136 (v : Value) (W : World) : (Instr.typeAssert (.iface 136 v) 74 136 true).run Tryz.prog W = .ok (.tuple #[v, .bool true]) W := by kernel_rfl
theorem as_yes_138 (v : Value) (W : World) : (Instr.typeAssert (.iface 138 v) 74 138 true).run Tryz.prog W = .ok (.tuple #[v, .bool true]) W := by kernel_rfl
theorem as_yes_152 (v : Value) (W : World) : (Instr.typeAssert (.iface 152 v) 74 152 true).run Tryz.prog W = .ok (.tuple #[v, .bool true]) W := by kernel_rfl
theorem as_yes_154 (v : Value) (W : World) : (Instr.typeAssert (.iface 154 v) 74 154 true).run Tryz.prog W = .ok (.tuple #[v, .bool true]) W := by kernel_rfl
theorem as_no_138_136 (v : Value) (W : World) : (Instr.typeAssert (.iface 138 v) 74 136 true).run Tryz.prog W = .ok (.tuple #[.agg #[.pointer none, .int .u64 0], .bool false]) W := by kernel_rfl
theorem as_no_152_136 (v : Value) (W : World) : (Instr.typeAssert (.iface 152 v) 74 136 true).run Tryz.prog W = .ok (.tuple #[.agg #[.pointer none, .int .u64 0], .bool false]) W := by kernel_rfl
theorem as_no_154_136 (v : Value) (W : World) : (Instr.typeAssert (.iface 154 v) 74 136 true).run Tryz.prog W = .ok (.tuple #[.agg #[.pointer none, .int .u64 0], .bool false]) W := by kernel_rfl
theorem as_no_152_138 (v : Value) (W : World) : (Instr.typeAssert (.iface 152 v) 74 138 true).run Tryz.prog W = .ok (.tuple #[.agg #[.pointer none, .string ⟨#[]⟩], .bool false]) W := by kernel_rfl
theorem as_no_154_138 (v : Value) (W : World) : (Instr.typeAssert (.iface 154 v) 74 138 true).run Tryz.prog W = .ok (.tuple #[.agg #[.pointer none, .string ⟨#[]⟩], .bool false]) W := by kernel_rfl
theorem as_no_154_152 (v : Value) (W : World) : (Instr.typeAssert (.iface 154 v) 74 152 true).run Tryz.prog W = .ok (.tuple #[.agg #[.pointer none, .slice none 0 0], .bool false]) W := by kernel_rfl
theorem as_no_136_152 (v : Value) (W : World) : (Instr.typeAssert (.iface 136 v) 74 152 true).run Tryz.prog W = .ok (.tuple #[.agg #[.pointer none, .slice none 0 0], .bool false]) W := by kernel_rfl
theorem as_no_138_152 (v : Value) (W : World) : (Instr.typeAssert (.iface 138 v) 74 152 true).run Tryz.prog W = .ok (.tuple #[.agg #[.pointer none, .slice none 0 0], .bool false]) W := by kernel_rfl
theorem as_no_136_154 (v : Value) (W : World) : (Instr.typeAssert (.iface 136 v) 74 154 true).run Tryz.prog W = .ok (.tuple #[.agg #[.pointer none, .int .u64 0, .nilIface], .bool false]) W := by kernel_rfl
theorem as_no_138_154 (v : Value) (W : World) : (Instr.typeAssert (.iface 138 v) 74 154 true).run Tryz.prog W = .ok (.tuple #[.agg #[.pointer none, .int .u64 0, .nilIface], .bool false]) W := by kernel_rfl
end Go.Proofs.YtichgnddbnibjaaGreatDoor
