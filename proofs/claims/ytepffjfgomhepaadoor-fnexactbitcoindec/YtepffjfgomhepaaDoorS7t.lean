/- A value's kind, asked of its tree: the type switch's facts. -/
import Derived.Test.YtepffjfgomhepaaDoorS3f
namespace Go.Proofs.YtepffjfgomhepaaDoor
open Go.RowKit Go.Sort
set_option linter.unusedVariables false
theorem as_yes_163 (v : Value) (W : World) : (Instr.typeAssert (.iface 163 v) 81 163 true).run Tryd.prog W = .ok (.tuple #[v, .bool true]) W := by kernel_rfl
theorem as_yes_169 (v : Value) (W : World) : (Instr.typeAssert (.iface 169 v) 81 169 true).run Tryd.prog W = .ok (.tuple #[v, .bool true]) W := by kernel_rfl
theorem as_yes_114 (v : Value) (W : World) : (Instr.typeAssert (.iface 114 v) 81 114 true).run Tryd.prog W = .ok (.tuple #[v, .bool true]) W := by kernel_rfl
theorem as_yes_116 (v : Value) (W : World) : (Instr.typeAssert (.iface 116 v) 81 116 true).run Tryd.prog W = .ok (.tuple #[v, .bool true]) W := by kernel_rfl
theorem as_no_169_163 (v : Value) (W : World) : (Instr.typeAssert (.iface 169 v) 81 163 true).run Tryd.prog W = .ok (.tuple #[.agg #[.pointer none, .int .u64 0], .bool false]) W := by kernel_rfl
theorem as_no_114_163 (v : Value) (W : World) : (Instr.typeAssert (.iface 114 v) 81 163 true).run Tryd.prog W = .ok (.tuple #[.agg #[.pointer none, .int .u64 0], .bool false]) W := by kernel_rfl
theorem as_no_116_163 (v : Value) (W : World) : (Instr.typeAssert (.iface 116 v) 81 163 true).run Tryd.prog W = .ok (.tuple #[.agg #[.pointer none, .int .u64 0], .bool false]) W := by kernel_rfl
theorem as_no_114_169 (v : Value) (W : World) : (Instr.typeAssert (.iface 114 v) 81 169 true).run Tryd.prog W = .ok (.tuple #[.agg #[.pointer none, .string ⟨#[]⟩], .bool false]) W := by kernel_rfl
theorem as_no_116_169 (v : Value) (W : World) : (Instr.typeAssert (.iface 116 v) 81 169 true).run Tryd.prog W = .ok (.tuple #[.agg #[.pointer none, .string ⟨#[]⟩], .bool false]) W := by kernel_rfl
theorem as_no_116_114 (v : Value) (W : World) : (Instr.typeAssert (.iface 116 v) 81 114 true).run Tryd.prog W = .ok (.tuple #[.agg #[.pointer none, .slice none 0 0], .bool false]) W := by kernel_rfl
theorem as_no_163_114 (v : Value) (W : World) : (Instr.typeAssert (.iface 163 v) 81 114 true).run Tryd.prog W = .ok (.tuple #[.agg #[.pointer none, .slice none 0 0], .bool false]) W := by kernel_rfl
theorem as_no_169_114 (v : Value) (W : World) : (Instr.typeAssert (.iface 169 v) 81 114 true).run Tryd.prog W = .ok (.tuple #[.agg #[.pointer none, .slice none 0 0], .bool false]) W := by kernel_rfl
theorem as_no_163_116 (v : Value) (W : World) : (Instr.typeAssert (.iface 163 v) 81 116 true).run Tryd.prog W = .ok (.tuple #[.agg #[.pointer none, .int .u64 0, .nilIface], .bool false]) W := by kernel_rfl
theorem as_no_169_116 (v : Value) (W : World) : (Instr.typeAssert (.iface 169 v) 81 116 true).run Tryd.prog W = .ok (.tuple #[.agg #[.pointer none, .int .u64 0, .nilIface], .bool false]) W := by kernel_rfl
end Go.Proofs.YtepffjfgomhepaaDoor
