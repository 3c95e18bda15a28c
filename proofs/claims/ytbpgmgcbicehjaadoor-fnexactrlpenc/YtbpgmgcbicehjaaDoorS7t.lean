/- A value's kind, asked of its tree: the type switch's facts. -/
import Derived.Test.YtbpgmgcbicehjaaDoorS3f
namespace Go.Proofs.YtbpgmgcbicehjaaDoor
open Go.RowKit Go.Sort
set_option linter.unusedVariables false
theorem as_yes_97 (v : Value) (W : World) : (Instr.typeAssert (.iface 97 v) 71 97 true).run Tryd.prog W = .ok (.tuple #[v, .bool true]) W := by kernel_rfl
theorem as_yes_99 (v : Value) (W : World) : (Instr.typeAssert (.iface 99 v) 71 99 true).run Tryd.prog W = .ok (.tuple #[v, .bool true]) W := by kernel_rfl
theorem as_yes_106 (v : Value) (W : World) : (Instr.typeAssert (.iface 106 v) 71 106 true).run Tryd.prog W = .ok (.tuple #[v, .bool true]) W := by kernel_rfl
theorem as_yes_109 (v : Value) (W : World) : (Instr.typeAssert (.iface 109 v) 71 109 true).run Tryd.prog W = .ok (.tuple #[v, .bool true]) W := by kernel_rfl
theorem as_no_99_97 (v : Value) (W : World) : (Instr.typeAssert (.iface 99 v) 71 97 true).run Tryd.prog W = .ok (.tuple #[.agg #[.pointer none, .int .u64 0], .bool false]) W := by kernel_rfl
theorem as_no_106_97 (v : Value) (W : World) : (Instr.typeAssert (.iface 106 v) 71 97 true).run Tryd.prog W = .ok (.tuple #[.agg #[.pointer none, .int .u64 0], .bool false]) W := by kernel_rfl
theorem as_no_109_97 (v : Value) (W : World) : (Instr.typeAssert (.iface 109 v) 71 97 true).run Tryd.prog W = .ok (.tuple #[.agg #[.pointer none, .int .u64 0], .bool false]) W := by kernel_rfl
theorem as_no_106_99 (v : Value) (W : World) : (Instr.typeAssert (.iface 106 v) 71 99 true).run Tryd.prog W = .ok (.tuple #[.agg #[.pointer none, .string ⟨#[]⟩], .bool false]) W := by kernel_rfl
theorem as_no_109_99 (v : Value) (W : World) : (Instr.typeAssert (.iface 109 v) 71 99 true).run Tryd.prog W = .ok (.tuple #[.agg #[.pointer none, .string ⟨#[]⟩], .bool false]) W := by kernel_rfl
theorem as_no_109_106 (v : Value) (W : World) : (Instr.typeAssert (.iface 109 v) 71 106 true).run Tryd.prog W = .ok (.tuple #[.agg #[.pointer none, .slice none 0 0], .bool false]) W := by kernel_rfl
theorem as_no_97_106 (v : Value) (W : World) : (Instr.typeAssert (.iface 97 v) 71 106 true).run Tryd.prog W = .ok (.tuple #[.agg #[.pointer none, .slice none 0 0], .bool false]) W := by kernel_rfl
theorem as_no_99_106 (v : Value) (W : World) : (Instr.typeAssert (.iface 99 v) 71 106 true).run Tryd.prog W = .ok (.tuple #[.agg #[.pointer none, .slice none 0 0], .bool false]) W := by kernel_rfl
theorem as_no_97_109 (v : Value) (W : World) : (Instr.typeAssert (.iface 97 v) 71 109 true).run Tryd.prog W = .ok (.tuple #[.agg #[.pointer none, .int .u64 0, .nilIface], .bool false]) W := by kernel_rfl
theorem as_no_99_109 (v : Value) (W : World) : (Instr.typeAssert (.iface 99 v) 71 109 true).run Tryd.prog W = .ok (.tuple #[.agg #[.pointer none, .int .u64 0, .nilIface], .bool false]) W := by kernel_rfl
end Go.Proofs.YtbpgmgcbicehjaaDoor
