/- A value's kind, asked of its tree: the type switch's facts. -/
import Derived.Test.YtdjdkokgcailhaaDoorS3f
namespace Go.Proofs.YtdjdkokgcailhaaDoor
open Go.RowKit Go.Sort
set_option linter.unusedVariables false
theorem as_yes_107 (v : Value) (W : World) : (Instr.typeAssert (.iface 107 v) 53 107 true).run Tryd.prog W = .ok (.tuple #[v, .bool true]) W := by kernel_rfl
theorem as_yes_109 (v : Value) (W : World) : (Instr.typeAssert (.iface 109 v) 53 109 true).run Tryd.prog W = .ok (.tuple #[v, .bool true]) W := by kernel_rfl
theorem as_yes_103 (v : Value) (W : World) : (Instr.typeAssert (.iface 103 v) 53 103 true).run Tryd.prog W = .ok (.tuple #[v, .bool true]) W := by kernel_rfl
theorem as_yes_105 (v : Value) (W : World) : (Instr.typeAssert (.iface 105 v) 53 105 true).run Tryd.prog W = .ok (.tuple #[v, .bool true]) W := by kernel_rfl
theorem as_no_109_107 (v : Value) (W : World) : (Instr.typeAssert (.iface 109 v) 53 107 true).run Tryd.prog W = .ok (.tuple #[.agg #[.pointer none, .int .u64 0], .bool false]) W := by kernel_rfl
theorem as_no_103_107 (v : Value) (W : World) : (Instr.typeAssert (.iface 103 v) 53 107 true).run Tryd.prog W = .ok (.tuple #[.agg #[.pointer none, .int .u64 0], .bool false]) W := by kernel_rfl
theorem as_no_105_107 (v : Value) (W : World) : (Instr.typeAssert (.iface 105 v) 53 107 true).run Tryd.prog W = .ok (.tuple #[.agg #[.pointer none, .int .u64 0], .bool false]) W := by kernel_rfl
theorem as_no_103_109 (v : Value) (W : World) : (Instr.typeAssert (.iface 103 v) 53 109 true).run Tryd.prog W = .ok (.tuple #[.agg #[.pointer none, .string ⟨#[]⟩], .bool false]) W := by kernel_rfl
theorem as_no_105_109 (v : Value) (W : World) : (Instr.typeAssert (.iface 105 v) 53 109 true).run Tryd.prog W = .ok (.tuple #[.agg #[.pointer none, .string ⟨#[]⟩], .bool false]) W := by kernel_rfl
theorem as_no_105_103 (v : Value) (W : World) : (Instr.typeAssert (.iface 105 v) 53 103 true).run Tryd.prog W = .ok (.tuple #[.agg #[.pointer none, .slice none 0 0], .bool false]) W := by kernel_rfl
end Go.Proofs.YtdjdkokgcailhaaDoor
