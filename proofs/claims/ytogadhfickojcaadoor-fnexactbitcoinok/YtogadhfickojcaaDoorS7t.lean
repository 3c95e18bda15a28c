/- A value's kind, asked of its tree: the type switch's facts. -/
import Derived.Test.YtogadhfickojcaaDoorS3f
namespace Go.Proofs.YtogadhfickojcaaDoor
open Go.RowKit Go.Sort
set_option linter.unusedVariables false
theorem as_yes_163 (v : Value) (W : World) : (Instr.typeAssert (.iface 163 v) 104 163 true).run Tryd.prog W = .ok (.tuple #[v, .bool true]) W := by kernel_rfl
theorem as_yes_165 (v : Value) (W : World) : (Instr.typeAssert (.iface 165 v) 104 165 true).run Tryd.prog W = .ok (.tuple #[v, .bool true]) W := by kernel_rfl
theorem as_yes_168 (v : Value) (W : World) : (Instr.typeAssert (.iface 168 v) 104 168 true).run Tryd.prog W = .ok (.tuple #[v, .bool true]) W := by kernel_rfl
theorem as_yes_171 (v : Value) (W : World) : (Instr.typeAssert (.iface 171 v) 104 171 true).run Tryd.prog W = .ok (.tuple #[v, .bool true]) W := by kernel_rfl
theorem as_no_165_163 (v : Value) (W : World) : (Instr.typeAssert (.iface 165 v) 104 163 true).run Tryd.prog W = .ok (.tuple #[.agg #[.pointer none, .int .u64 0], .bool false]) W := by kernel_rfl
theorem as_no_168_163 (v : Value) (W : World) : (Instr.typeAssert (.iface 168 v) 104 163 true).run Tryd.prog W = .ok (.tuple #[.agg #[.pointer none, .int .u64 0], .bool false]) W := by kernel_rfl
theorem as_no_171_163 (v : Value) (W : World) : (Instr.typeAssert (.iface 171 v) 104 163 true).run Tryd.prog W = .ok (.tuple #[.agg #[.pointer none, .int .u64 0], .bool false]) W := by kernel_rfl
theorem as_no_168_165 (v : Value) (W : World) : (Instr.typeAssert (.iface 168 v) 104 165 true).run Tryd.prog W = .ok (.tuple #[.agg #[.pointer none, .string ⟨#[]⟩], .bool false]) W := by kernel_rfl
theorem as_no_171_165 (v : Value) (W : World) : (Instr.typeAssert (.iface 171 v) 104 165 true).run Tryd.prog W = .ok (.tuple #[.agg #[.pointer none, .string ⟨#[]⟩], .bool false]) W := by kernel_rfl
theorem as_no_171_168 (v : Value) (W : World) : (Instr.typeAssert (.iface 171 v) 104 168 true).run Tryd.prog W = .ok (.tuple #[.agg #[.pointer none, .slice none 0 0], .bool false]) W := by kernel_rfl
theorem as_no_163_168 (v : Value) (W : World) : (Instr.typeAssert (.iface 163 v) 104 168 true).run Tryd.prog W = .ok (.tuple #[.agg #[.pointer none, .slice none 0 0], .bool false]) W := by kernel_rfl
theorem as_no_165_168 (v : Value) (W : World) : (Instr.typeAssert (.iface 165 v) 104 168 true).run Tryd.prog W = .ok (.tuple #[.agg #[.pointer none, .slice none 0 0], .bool false]) W := by kernel_rfl
theorem as_no_163_171 (v : Value) (W : World) : (Instr.typeAssert (.iface 163 v) 104 171 true).run Tryd.prog W = .ok (.tuple #[.agg #[.pointer none, .int .u64 0, .nilIface], .bool false]) W := by kernel_rfl
theorem as_no_165_171 (v : Value) (W : World) : (Instr.typeAssert (.iface 165 v) 104 171 true).run Tryd.prog W = .ok (.tuple #[.agg #[.pointer none, .int .u64 0, .nilIface], .bool false]) W := by kernel_rfl
end Go.Proofs.YtogadhfickojcaaDoor
