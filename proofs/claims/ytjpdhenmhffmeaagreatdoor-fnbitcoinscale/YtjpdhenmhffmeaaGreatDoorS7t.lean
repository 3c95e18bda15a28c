/- A value's kind, asked of its tree: the type switch's facts. -/
import Derived.Test.YtjpdhenmhffmeaaGreatDoorS3f
namespace Go.Proofs.YtjpdhenmhffmeaaGreatDoor
open Go.RowKit Go.Sort
set_option linter.unusedVariables false
theorem as_yes_117 (v : Value) (W : World) : (Instr.typeAssert (.iface 117 v) 79 117 true).run Tryz.prog W = .ok (.tuple #[v, .bool true]) W := by kernel_rfl
theorem as_yes_119 (v : Value) (W : World) : (Instr.typeAssert (.iface 119 v) 79 119 true).run Tryz.prog W = .ok (.tuple #[v, .bool true]) W := by kernel_rfl
theorem as_yes_141 (v : Value) (W : World) : (Instr.typeAssert (.iface 141 v) 79 141 true).run Tryz.prog W = .ok (.tuple #[v, .bool true]) W := by kernel_rfl
theorem as_yes_144 (v : Value) (W : World) : (Instr.typeAssert (.iface 144 v) 79 144 true).run Tryz.prog W = .ok (.tuple #[v, .bool true]) W := by kernel_rfl
theorem as_no_119_117 (v : Value) (W : World) : (Instr.typeAssert (.iface 119 v) 79 117 true).run Tryz.prog W = .ok (.tuple #[.agg #[.pointer none, .int .u64 0], .bool false]) W := by kernel_rfl
theorem as_no_141_117 (v : Value) (W : World) : (Instr.typeAssert (.iface 141 v) 79 117 true).run Tryz.prog W = .ok (.tuple #[.agg #[.pointer none, .int .u64 0], .bool false]) W := by kernel_rfl
theorem as_no_144_117 (v : Value) (W : World) : (Instr.typeAssert (.iface 144 v) 79 117 true).run Tryz.prog W = .ok (.tuple #[.agg #[.pointer none, .int .u64 0], .bool false]) W := by kernel_rfl
theorem as_no_141_119 (v : Value) (W : World) : (Instr.typeAssert (.iface 141 v) 79 119 true).run Tryz.prog W = .ok (.tuple #[.agg #[.pointer none, .string ⟨#[]⟩], .bool false]) W := by kernel_rfl
theorem as_no_144_119 (v : Value) (W : World) : (Instr.typeAssert (.iface 144 v) 79 119 true).run Tryz.prog W = .ok (.tuple #[.agg #[.pointer none, .string ⟨#[]⟩], .bool false]) W := by kernel_rfl
theorem as_no_144_141 (v : Value) (W : World) : (Instr.typeAssert (.iface 144 v) 79 141 true).run Tryz.prog W = .ok (.tuple #[.agg #[.pointer none, .slice none 0 0], .bool false]) W := by kernel_rfl
theorem as_no_117_141 (v : Value) (W : World) : (Instr.typeAssert (.iface 117 v) 79 141 true).run Tryz.prog W = .ok (.tuple #[.agg #[.pointer none, .slice none 0 0], .bool false]) W := by kernel_rfl
theorem as_no_119_141 (v : Value) (W : World) : (Instr.typeAssert (.iface 119 v) 79 141 true).run Tryz.prog W = .ok (.tuple #[.agg #[.pointer none, .slice none 0 0], .bool false]) W := by kernel_rfl
theorem as_no_117_144 (v : Value) (W : World) : (Instr.typeAssert (.iface 117 v) 79 144 true).run Tryz.prog W = .ok (.tuple #[.agg #[.pointer none, .int .u64 0, .nilIface], .bool false]) W := by kernel_rfl
theorem as_no_119_144 (v : Value) (W : World) : (Instr.typeAssert (.iface 119 v) 79 144 true).run Tryz.prog W = .ok (.tuple #[.agg #[.pointer none, .int .u64 0, .nilIface], .bool false]) W := by kernel_rfl
end Go.Proofs.YtjpdhenmhffmeaaGreatDoor
