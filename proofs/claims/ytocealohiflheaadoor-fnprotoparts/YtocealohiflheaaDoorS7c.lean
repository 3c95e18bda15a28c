/- A value's bytes, as the formats with counts write them: contracts, a case each. -/
import Derived.Test.YtocealohiflheaaDoorS7b
import Derived.Test.YtocealohiflheaaDoorS7t
namespace Go.Proofs.YtocealohiflheaaDoor
open Go.RowKit Go.Sort
set_option linter.unusedVariables false
theorem cell_2 {w : World} {u i : Nat} {v : Value} (h : w.cell? ⟨u, i, none⟩ = some v) (hu : u < w.heap.size) (o o' : Obj) : ((w.alloc o).alloc o').cell? ⟨u, i, none⟩ = some v := by
  rw [(bel2 w o o').cell (p := ⟨u, i, none⟩) hu]; exact h
theorem heap_2 (w : World) (o o' : Obj) : ((w.alloc o).alloc o').heap[w.heap.size]? = some o := by
  rw [Below.heap_alloc _ _ _ (by simp), heap_alloc_new]
set_option maxHeartbeats 1000000 in
theorem parts_nil (u m : Nat) (w : World) : Calls Tryd.prog 110 #[.iface 134 (.agg #[.pointer (some ⟨u, 0, none⟩), .int .u64 m, .nilIface])] w fun e w' => e = .returned (.slice none 0 0) ∧ Below w.heap.size w w' := by
  have y1 := as_yes_134
  have n1 := as_no_134_131
  go_enter Tryd.func110, Tryd.ntmps110
  go_wp2_with fail
  go_ret
  exact ⟨rfl, bel1 _ _⟩
set_option maxHeartbeats 1000000 in
theorem parts_one (u m : Nat) (T : TypeId) (z : Value) (w : World) : Calls Tryd.prog 110 #[.iface 134 (.agg #[.pointer (some ⟨u, 0, none⟩), .int .u64 m, .iface T z])] w fun e w' => (∃ g, e = .returned (.slice (some ⟨g, 0, none⟩) 1 1) ∧ w.heap.size ≤ g ∧ g < w'.heap.size ∧ w'.cell? ⟨g, 0, none⟩ = some (.iface T z)) ∧ Below w.heap.size w w' := by
  have y1 := as_yes_134
  have n1 := as_no_134_131
  go_enter Tryd.func110, Tryd.ntmps110
  go_wp2_with fail
  go_ret
  exact ⟨⟨w.heap.size + 1, rfl, by omega, by simp, by simp [go_sem]⟩, bel2 _ _ _⟩
set_option maxHeartbeats 1000000 in
theorem parts_ser (u M cap : Nat) (ad : Option Addr) (w : World) : Calls Tryd.prog 110 #[.iface 131 (.agg #[.pointer (some ⟨u, 0, none⟩), .slice ad M cap])] w fun e w' => e = .returned (.slice ad M cap) ∧ Below w.heap.size w w' := by
  have y1 := as_yes_131
  go_enter Tryd.func110, Tryd.ntmps110
  go_wp2_with fail
  go_ret
  exact ⟨rfl, bel1 _ _⟩
set_option maxHeartbeats 1000000 in
theorem parts_num (u : Nat) (m : Nat) (w : World) : Calls Tryd.prog 110 #[.iface 122 (.agg #[.pointer (some ⟨u, 0, none⟩), .int .u64 m])] w fun e w' => e = .returned (.slice none 0 0) ∧ Below w.heap.size w w' := by
  have n1 := as_no_122_131
  have n2 := as_no_122_134
  go_enter Tryd.func110, Tryd.ntmps110
  go_wp2_with fail
  go_ret
  exact ⟨rfl, Below.refl _ _⟩
set_option maxHeartbeats 1000000 in
theorem parts_byt (u : Nat) (m : ByteArray) (w : World) : Calls Tryd.prog 110 #[.iface 124 (.agg #[.pointer (some ⟨u, 0, none⟩), .string m])] w fun e w' => e = .returned (.slice none 0 0) ∧ Below w.heap.size w w' := by
  have n1 := as_no_124_131
  have n2 := as_no_124_134
  go_enter Tryd.func110, Tryd.ntmps110
  go_wp2_with fail
  go_ret
  exact ⟨rfl, Below.refl _ _⟩
end Go.Proofs.YtocealohiflheaaDoor
