/- A value's bytes, as the formats with counts write them: contracts, a case each. -/
import Derived.Test.YtjpdhenmhffmeaaDoorS7b
import Derived.Test.YtjpdhenmhffmeaaDoorS7t
namespace Go.Proofs.YtjpdhenmhffmeaaDoor
open Go.RowKit Go.Sort
set_option linter.unusedVariables false
theorem cell_2 {w : World} {u i : Nat} {v : Value} (h : w.cell? ⟨u, i, none⟩ = some v) (hu : u < w.heap.size) (o o' : Obj) : ((w.alloc o).alloc o').cell? ⟨u, i, none⟩ = some v := by
  rw [(bel2 w o o').cell (p := ⟨u, i, none⟩) hu]; exact h
theorem heap_2 (w : World) (o o' : Obj) : ((w.alloc o).alloc o').heap[w.heap.size]? = some o := by
  rw [Below.heap_alloc _ _ _ (by simp), heap_alloc_new]
set_option maxHeartbeats 1000000 in
theorem parts_nil (u m : Nat) (w : World) : Calls Tryd.prog 119 #[.iface 134 (.agg #[.pointer (some ⟨u, 0, none⟩), .int .u64 m, .nilIface])] w fun e w' => e = .returned (.slice none 0 0) ∧ Below w.heap.size w w' := by
  have y1 := as_yes_134
  have n1 := as_no_134_131
  go_enter Tryd.func119, Tryd.ntmps119
  go_wp2_with fail
  go_ret
  exact ⟨rfl, bel1 _ _⟩
set_option maxHeartbeats 1000000 in
theorem parts_one (u m : Nat) (T : TypeId) (z : Value) (w : World) : Calls Tryd.prog 119 #[.iface 134 (.agg #[.pointer (some ⟨u, 0, none⟩), .int .u64 m, .iface T z])] w fun e w' => (∃ g, e = .returned (.slice (some ⟨g, 0, none⟩) 1 1) ∧ w.heap.size ≤ g ∧ g < w'.heap.size ∧ w'.cell? ⟨g, 0, none⟩ = some (.iface T z)) ∧ Below w.heap.size w w' := by
  have y1 := as_yes_134
  have n1 := as_no_134_131
  go_enter Tryd.func119, Tryd.ntmps119
  go_wp2_with fail
  go_ret
  exact ⟨⟨w.heap.size + 1, rfl, by omega, by simp, by simp [go_sem]⟩, bel2 _ _ _⟩
set_option maxHeartbeats 1000000 in
theorem parts_ser (u M cap : Nat) (ad : Option Addr) (w : World) : Calls Tryd.prog 119 #[.iface 131 (.agg #[.pointer (some ⟨u, 0, none⟩), .slice ad M cap])] w fun e w' => e = .returned (.slice ad M cap) ∧ Below w.heap.size w w' := by
  have y1 := as_yes_131
  go_enter Tryd.func119, Tryd.ntmps119
  go_wp2_with fail
  go_ret
  exact ⟨rfl, bel1 _ _⟩
set_option maxHeartbeats 1000000 in
theorem parts_num (u : Nat) (m : Nat) (w : World) : Calls Tryd.prog 119 #[.iface 120 (.agg #[.pointer (some ⟨u, 0, none⟩), .int .u64 m])] w fun e w' => e = .returned (.slice none 0 0) ∧ Below w.heap.size w w' := by
  have n1 := as_no_120_131
  have n2 := as_no_120_134
  go_enter Tryd.func119, Tryd.ntmps119
  go_wp2_with fail
  go_ret
  exact ⟨rfl, Below.refl _ _⟩
set_option maxHeartbeats 1000000 in
theorem parts_byt (u : Nat) (m : ByteArray) (w : World) : Calls Tryd.prog 119 #[.iface 122 (.agg #[.pointer (some ⟨u, 0, none⟩), .string m])] w fun e w' => e = .returned (.slice none 0 0) ∧ Below w.heap.size w w' := by
  have n1 := as_no_122_131
  have n2 := as_no_122_134
  go_enter Tryd.func119, Tryd.ntmps119
  go_wp2_with fail
  go_ret
  exact ⟨rfl, Below.refl _ _⟩
set_option maxHeartbeats 1000000 in
theorem chParts_ssz (u m : Nat) (y : Value) (E : List UInt8) (w : World) (hE : E.length ≤ 1000000000000) (hy : (y = .nilIface ∧ E = []) ∨ ((∃ T z, y = .iface T z) ∧ ∀ w', Below w.heap.size w w' → Calls Tryd.prog 112 #[.agg #[], y] w' fun e w'' => e = .returned (.string ⟨E.toArray⟩) ∧ Below w'.heap.size w' w'')) :
    ∀ w', Below w.heap.size w w' → Calls Tryd.prog 119 #[.iface 134 (.agg #[.pointer (some ⟨u, 0, none⟩), .int .u64 m, y])] w' fun e w'' => (∃ ad n, e = .returned (.slice ad n n) ∧ ∀ w3, Below w''.heap.size w'' w3 → Calls Tryd.prog 104 #[.iface 59 (.agg #[]), .slice ad n n] w3 fun e w4 => e = .returned (.string ⟨E.toArray⟩) ∧ Below w3.heap.size w3 w4) ∧ Below w'.heap.size w' w'' := by
  intro w' hb
  rcases hy with ⟨rfl, rfl⟩ | ⟨⟨T, z, rfl⟩, hyc⟩
  · refine (parts_nil u m w').mono ?_
    rintro e w1 ⟨rfl, hb1⟩
    exact ⟨⟨none, 0, rfl, fun w3 hb3 => writeAll_ssz 0 0 none (fun _ => .nilIface) (fun _ => []) w3 (by omega) (Nat.le_refl _) (by simp [maxLen]) (.inl rfl) (by simp) (fun j hj => by omega)⟩, hb1⟩
  · refine (parts_one u m T z w').mono ?_
    rintro e w1 ⟨⟨g, rfl, hg0, hg1, hc⟩, hb1⟩
    refine ⟨⟨_, 1, rfl, fun w3 hb3 => ?_⟩, hb1⟩
    have h1 := writeAll_ssz 1 1 (some ⟨g, 0, none⟩) (fun _ => .iface T z) (fun _ => E) w3 (by omega) (Nat.le_refl _) (by simp [maxLen]) (.inr ⟨g, rfl, by have := hb3.size; omega, fun j hj => by
      have ej : j = 0 := by omega
      subst ej
      rw [hb3.cell (p := ⟨g, 0, none⟩) hg1]; exact hc⟩) (fun _ _ => hE) (fun j hj w4 hb4 => hyc w4 (hb.trans ((hb1.mono hb.size).trans ((hb3.mono (by have := hb.size; have := hb1.size; omega)).trans (hb4.mono (by have := hb.size; have := hb1.size; have := hb3.size; omega))))))
    simpa [catE] using h1
end Go.Proofs.YtjpdhenmhffmeaaDoor
