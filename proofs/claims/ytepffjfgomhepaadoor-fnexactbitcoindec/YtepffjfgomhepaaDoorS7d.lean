/- S7c, S7w, S7d: one text. -/
import Derived.Test.YtepffjfgomhepaaDoorS7b
import Derived.Test.YtepffjfgomhepaaDoorS7t
import Derived.Deep.RegionHeld3
namespace Go.Proofs.YtepffjfgomhepaaDoor
open Go.RowKit Go.Sort
set_option linter.unusedVariables false
theorem cell_2 {w : World} {u i : Nat} {v : Value} (h : w.cell? ⟨u, i, none⟩ = some v) (hu : u < w.heap.size) (o o' : Obj) : ((w.alloc o).alloc o').cell? ⟨u, i, none⟩ = some v := by
  rw [(bel2 w o o').cell (p := ⟨u, i, none⟩) hu]; exact h
theorem heap_2 (w : World) (o o' : Obj) : ((w.alloc o).alloc o').heap[w.heap.size]? = some o := by
  rw [Below.heap_alloc _ _ _ (by simp), heap_alloc_new]
set_option maxHeartbeats 1000000 in
theorem parts_nil (u m : Nat) (w : World) : Calls Tryd.prog 47 #[.iface 116 (.agg #[.pointer (some ⟨u, 0, none⟩), .int .u64 m, .nilIface])] w fun e w' => e = .returned (.slice none 0 0) ∧ Below w.heap.size w w' := by
  have y1 := as_yes_116
  have n1 := as_no_116_114
  go_enter Tryd.func47, Tryd.ntmps47
  go_wp2_with fail
  go_ret
  exact ⟨rfl, bel1 _ _⟩
set_option maxHeartbeats 1000000 in
theorem parts_one (u m : Nat) (T : TypeId) (z : Value) (w : World) : Calls Tryd.prog 47 #[.iface 116 (.agg #[.pointer (some ⟨u, 0, none⟩), .int .u64 m, .iface T z])] w fun e w' => (∃ g, e = .returned (.slice (some ⟨g, 0, none⟩) 1 1) ∧ w.heap.size ≤ g ∧ g < w'.heap.size ∧ w'.cell? ⟨g, 0, none⟩ = some (.iface T z)) ∧ Below w.heap.size w w' := by
  have y1 := as_yes_116
  have n1 := as_no_116_114
  go_enter Tryd.func47, Tryd.ntmps47
  go_wp2_with fail
  go_ret
  exact ⟨⟨w.heap.size + 1, rfl, by omega, by simp, by simp [go_sem]⟩, bel2 _ _ _⟩
set_option maxHeartbeats 1000000 in
theorem parts_ser (u M cap : Nat) (ad : Option Addr) (w : World) : Calls Tryd.prog 47 #[.iface 114 (.agg #[.pointer (some ⟨u, 0, none⟩), .slice ad M cap])] w fun e w' => e = .returned (.slice ad M cap) ∧ Below w.heap.size w w' := by
  have y1 := as_yes_114
  go_enter Tryd.func47, Tryd.ntmps47
  go_wp2_with fail
  go_ret
  exact ⟨rfl, bel1 _ _⟩
set_option maxHeartbeats 1000000 in
theorem parts_num (u : Nat) (m : Nat) (w : World) : Calls Tryd.prog 47 #[.iface 163 (.agg #[.pointer (some ⟨u, 0, none⟩), .int .u64 m])] w fun e w' => e = .returned (.slice none 0 0) ∧ Below w.heap.size w w' := by
  have n1 := as_no_163_114
  have n2 := as_no_163_116
  go_enter Tryd.func47, Tryd.ntmps47
  go_wp2_with fail
  go_ret
  exact ⟨rfl, Below.refl _ _⟩
set_option maxHeartbeats 1000000 in
theorem parts_byt (u : Nat) (m : ByteArray) (w : World) : Calls Tryd.prog 47 #[.iface 169 (.agg #[.pointer (some ⟨u, 0, none⟩), .string m])] w fun e w' => e = .returned (.slice none 0 0) ∧ Below w.heap.size w w' := by
  have n1 := as_no_169_114
  have n2 := as_no_169_116
  go_enter Tryd.func47, Tryd.ntmps47
  go_wp2_with fail
  go_ret
  exact ⟨rfl, Below.refl _ _⟩
end Go.Proofs.YtepffjfgomhepaaDoor
namespace Go.Proofs.YtepffjfgomhepaaDoor
open Go.RowKit Go.Sort
set_option linter.unusedVariables false
end Go.Proofs.YtepffjfgomhepaaDoor
namespace Go.Proofs.YtepffjfgomhepaaDoor
open Go.RowKit Go.Sort
set_option linter.unusedVariables false
theorem VAt.iface {ts : List (Int × Int)} {vs : List It} {f : Nat} {w : World} {S : Nat → Prop} {x : Value} {a q : Nat} (h : VAt ts vs f w S x a q) : ∃ T z, x = .iface T z := by
  cases f with
  | zero => exact h.elim
  | succ f =>
    obtain ⟨u, ha, hq, ht, hf, h⟩ := h
    rcases h with ⟨_, h⟩ | ⟨_, h⟩ | ⟨_, ad, cap, h, _⟩ | ⟨_, y, h, _⟩
    all_goals exact ⟨_, _, h⟩
theorem VAt.bel {ts : List (Int × Int)} {vs : List It} {f : Nat} {w w' : World} {S : Nat → Prop} {x : Value} {a q : Nat} (h : VAt ts vs f w S x a q) (hS : ∀ c, S c → c < w.heap.size) (hb : Below w.heap.size w w') : VAt ts vs f w' S x a q :=
  h.keep (fun _ h => h) (fun c hc => hb.block c (hS c hc))
theorem own_num {cnt : Nat → List UInt8} {k n : Int} {x : It} (hk : x.k = k) (h : k = 1 ∨ k = 2 ∨ k = 8 ∨ k = 9) : own cnt n x = leL x.n (wid k n) := by
  subst hk
  unfold own wid
  rcases h with h | h | h | h <;> simp [h]
theorem own_bytes {cnt : Nat → List UInt8} {k n : Int} {x : It} (hk : x.k = k) (h : k = 3 ∨ k = 4) : own cnt n x = (if k = 3 ∨ k = 5 then cnt x.s.size else []) ++ x.s.data.toList := by
  subst hk
  unfold own
  rcases h with h | h <;> simp [h]
theorem own_series {cnt : Nat → List UInt8} {k n : Int} {x : It} (hk : x.k = k) (h : k = 5 ∨ k = 6 ∨ k = 7) : own cnt n x = if k = 3 ∨ k = 5 then cnt x.n else [] := by
  subst hk
  unfold own
  rcases h with h | h | h <;> simp [h]
theorem scE_le {cnt : Nat → List UInt8} {ts : List (Int × Int)} {vs : List It} (hc : ∀ m, (cnt m).length ≤ 9) (hs : ∀ x ∈ vs, x.s.size ≤ 1048577) (hl : vs.length ≤ 200) {f a e q q' : Nat} (he : en ts f a = some e) (hv : ve ts vs f a q = some q') : (scE cnt ts vs f a q).length ≤ 1000000000 := by
  have h1 := scE_len hc hs he hv
  have h2 := (ve_lt hv).2
  have h3 : q' * 1048590 ≤ 200 * 1048590 := Nat.mul_le_mul_right _ (by omega)
  omega
end Go.Proofs.YtepffjfgomhepaaDoor
