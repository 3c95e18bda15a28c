/- A value's kind, asked of its tree: the type switch's facts. -/
import Derived.Test.YtlhojfimdignoaaDoorS3f
namespace Go.Proofs.YtlhojfimdignoaaDoor
open Go.RowKit Go.Sort
set_option linter.unusedVariables false
theorem as_yes_96 (v : Value) (W : World) : (Instr.typeAssert (.iface 96 v) 72 96 true).run Tryd.prog W = .ok (.tuple #[v, .bool true]) W := by kernel_rfl
theorem as_yes_98 (v : Value) (W : World) : (Instr.typeAssert (.iface 98 v) 72 98 true).run Tryd.prog W = .ok (.tuple #[v, .bool true]) W := by kernel_rfl
theorem as_yes_105 (v : Value) (W : World) : (Instr.typeAssert (.iface 105 v) 72 105 true).run Tryd.prog W = .ok (.tuple #[v, .bool true]) W := by kernel_rfl
theorem as_yes_108 (v : Value) (W : World) : (Instr.typeAssert (.iface 108 v) 72 108 true).run Tryd.prog W = .ok (.tuple #[v, .bool true]) W := by kernel_rfl
theorem as_no_98_96 (v : Value) (W : World) : (Instr.typeAssert (.iface 98 v) 72 96 true).run Tryd.prog W = .ok (.tuple #[.agg #[.pointer none, .int .u64 0], .bool false]) W := by kernel_rfl
theorem as_no_105_96 (v : Value) (W : World) : (Instr.typeAssert (.iface 105 v) 72 96 true).run Tryd.prog W = .ok (.tuple #[.agg #[.pointer none, .int .u64 0], .bool false]) W := by kernel_rfl
theorem as_no_108_96 (v : Value) (W : World) : (Instr.typeAssert (.iface 108 v) 72 96 true).run Tryd.prog W = .ok (.tuple #[.agg #[.pointer none, .int .u64 0], .bool false]) W := by kernel_rfl
theorem as_no_105_98 (v : Value) (W : World) : (Instr.typeAssert (.iface 105 v) 72 98 true).run Tryd.prog W = .ok (.tuple #[.agg #[.pointer none, .string ⟨#[]⟩], .bool false]) W := by kernel_rfl
theorem as_no_108_98 (v : Value) (W : World) : (Instr.typeAssert (.iface 108 v) 72 98 true).run Tryd.prog W = .ok (.tuple #[.agg #[.pointer none, .string ⟨#[]⟩], .bool false]) W := by kernel_rfl
theorem as_no_108_105 (v : Value) (W : World) : (Instr.typeAssert (.iface 108 v) 72 105 true).run Tryd.prog W = .ok (.tuple #[.agg #[.pointer none, .slice none 0 0], .bool false]) W := by kernel_rfl
theorem as_no_96_105 (v : Value) (W : World) : (Instr.typeAssert (.iface 96 v) 72 105 true).run Tryd.prog W = .ok (.tuple #[.agg #[.pointer none, .slice none 0 0], .bool false]) W := by kernel_rfl
theorem as_no_98_105 (v : Value) (W : World) : (Instr.typeAssert (.iface 98 v) 72 105 true).run Tryd.prog W = .ok (.tuple #[.agg #[.pointer none, .slice none 0 0], .bool false]) W := by kernel_rfl
theorem as_no_96_108 (v : Value) (W : World) : (Instr.typeAssert (.iface 96 v) 72 108 true).run Tryd.prog W = .ok (.tuple #[.agg #[.pointer none, .int .u64 0, .nilIface], .bool false]) W := by kernel_rfl
theorem as_no_98_108 (v : Value) (W : World) : (Instr.typeAssert (.iface 98 v) 72 108 true).run Tryd.prog W = .ok (.tuple #[.agg #[.pointer none, .int .u64 0, .nilIface], .bool false]) W := by kernel_rfl
end Go.Proofs.YtlhojfimdignoaaDoor
