/- Schemas in memory; the specification's functions on schemas: contracts. -/
import Derived.Test.YtepffjfgomhepaaGreatDoorPt
namespace Go.Proofs.YtepffjfgomhepaaGreatDoor
open Go.RowKit
set_option linter.unusedVariables false
def inI (n : Int) : Prop := -9223372036854775808 ≤ n ∧ n ≤ 9223372036854775807
/-- A slice of types in memory: its elements, each in two cells, in blocks below B. -/
structure IsTyps (B : Nat) (w : World) (v : Value) (ts : List (Int × Int)) : Prop where
  small : ts.length ≤ 1048577
  wf : ∀ t ∈ ts, inI t.1 ∧ inI t.2
  form : ∃ ad cap, v = .slice ad ts.length cap ∧ ts.length ≤ cap ∧ cap ≤ maxLen ∧
    (ts.length = 0 ∨ ∃ b o : Nat, ad = some ⟨b, o, none⟩ ∧ b < B ∧ ∀ i (h : i < ts.length), w.cell? ⟨b, o + i * 2, none⟩ = some (.int .i64 ts[i].1) ∧ w.cell? ⟨b, o + i * 2 + 1, none⟩ = some (.int .i64 ts[i].2))
theorem IsTyps.below {B : Nat} {w w' : World} {v : Value} {ts : List (Int × Int)} (h : IsTyps B w v ts) (hb : Below B w w') : IsTyps B w' v ts := by
  obtain ⟨ad, cap, hv, h1, h2, h3⟩ := h.form
  refine ⟨h.small, h.wf, ad, cap, hv, h1, h2, ?_⟩
  rcases h3 with h3 | ⟨b, o, ha, hlt, hc⟩
  · exact .inl h3
  · exact .inr ⟨b, o, ha, hlt, fun i hi => by rw [hb.cell (p := ⟨b, o + i * 2, none⟩) hlt, hb.cell (p := ⟨b, o + i * 2 + 1, none⟩) hlt]; exact hc i hi⟩
theorem IsTyps.up {B B' : Nat} {w : World} {v : Value} {ts : List (Int × Int)} (h : IsTyps B w v ts) (hB : B ≤ B') : IsTyps B' w v ts := by
  obtain ⟨ad, cap, hv, h1, h2, h3⟩ := h.form
  refine ⟨h.small, h.wf, ad, cap, hv, h1, h2, ?_⟩
  rcases h3 with h3 | ⟨b, o, ha, hlt, hc⟩
  · exact .inl h3
  · exact .inr ⟨b, o, ha, by omega, hc⟩
/-- The type at a place, as the walk reads it. -/
theorem IsTyps.at {B : Nat} {w : World} {v : Value} {ts : List (Int × Int)} (h : IsTyps B w v ts) {i : Nat} (hi : i < ts.length) :
    ∃ b o cap : Nat, v = .slice (some ⟨b, o, none⟩) ts.length cap ∧ b < B ∧ ts.length ≤ cap ∧ cap ≤ maxLen ∧ w.cell? ⟨b, o + i * 2, none⟩ = some (.int .i64 ts[i].1) ∧ w.cell? ⟨b, o + i * 2 + 1, none⟩ = some (.int .i64 ts[i].2) := by
  obtain ⟨ad, cap, hv, h1, h2, h3⟩ := h.form
  rcases h3 with h3 | ⟨b, o, ha, hlt, hc⟩
  · omega
  · exact ⟨b, o, cap, by rw [hv, ha], hlt, h1, h2, (hc i hi).1, (hc i hi).2⟩
theorem l1InW_any (n a b : Int) (w : World) : Calls Tryz.prog 74 #[.int .i64 n, .int .i64 a, .int .i64 b] w fun e w' => e = .returned (.bool (decide (a ≤ n ∧ n ≤ b))) ∧ w' = w := by
  by_cases h1 : a ≤ n <;> by_cases h2 : n ≤ b
  all_goals
    go_enter Tryz.func74, Tryz.ntmps74
    go_wp2
    go_ret
    exact ⟨by simp [h1, h2], rfl⟩
theorem bel1 (w : World) (o : Obj) : Below w.heap.size w (w.alloc o) := (Below.refl _ _).alloc (Nat.le_refl _) _
set_option maxHeartbeats 400000 in
theorem l2Kids_any (k n : Int) (w : World) (hok : tyOk k n = true) : Calls Tryz.prog 70 #[.agg #[.int .i64 k, .int .i64 n]] w fun e w' => e = .returned (.int .i64 (kids k n)) ∧ Below w.heap.size w w' := by
  simp only [tyOk, decide_eq_true_eq] at hok
  have hk : k = 1 ∨ k = 2 ∨ k = 3 ∨ k = 4 ∨ k = 5 ∨ k = 6 ∨ k = 7 ∨ k = 8 ∨ k = 9 := by omega
  rcases hk with rfl | rfl | rfl | rfl | rfl | rfl | rfl | rfl | rfl
  all_goals
    go_enter Tryz.func70, Tryz.ntmps70
    go_wp2
    go_ret
    exact ⟨by simp [kids] <;> omega, bel1 _ _⟩
theorem ret_b {a b : Bool} (h : a = b) : Ending.returned (.bool a) = .returned (.bool b) := by rw [h]
theorem ret_i {k : IntKind} {a b : Int} (h : a = b) : Ending.returned (.int k a) = .returned (.int k b) := by rw [h]
theorem ret_ii {a b c d : Int} (h : a = c) (h' : b = d) : Ending.returned (.tuple #[.int .i64 a, .int .i64 b]) = .returned (.tuple #[.int .i64 c, .int .i64 d]) := by rw [h, h']
theorem beqF {a b : Int} (h : a ≠ b) : (a == b) = false := by simp [h]
theorem beq_dec (a b : Int) : (a == b) = decide (a = b) := by by_cases h : a = b <;> simp [h]
theorem tyOk_other {k n : Int} (h : k < 1 ∨ 9 < k) : tyOk k n = false := by
  simp only [tyOk, decide_eq_false_iff_not]; omega
set_option maxHeartbeats 400000 in
theorem l2Typ_any (k n : Int) (w : World) : Calls Tryz.prog 73 #[.agg #[.int .i64 k, .int .i64 n]] w fun e w' => e = .returned (.bool (tyOk k n)) ∧ Below w.heap.size w w' := by
  by_cases hr : k < 1 ∨ 9 < k
  · rw [tyOk_other hr]
    have k1 := beqF (show k ≠ 1 by omega)
    have k2 := beqF (show k ≠ 2 by omega)
    have k3 := beqF (show k ≠ 3 by omega)
    have k4 := beqF (show k ≠ 4 by omega)
    have k5 := beqF (show k ≠ 5 by omega)
    have k6 := beqF (show k ≠ 6 by omega)
    have k7 := beqF (show k ≠ 7 by omega)
    have k8 := beqF (show k ≠ 8 by omega)
    have k9 := beqF (show k ≠ 9 by omega)
    clear hr
    go_enter Tryz.func73, Tryz.ntmps73
    go_wp2
    go_ret
    exact ⟨rfl, bel1 _ _⟩
  · have hk : k = 1 ∨ k = 2 ∨ k = 3 ∨ k = 4 ∨ k = 5 ∨ k = 6 ∨ k = 7 ∨ k = 8 ∨ k = 9 := by omega
    clear hr
    rcases hk with rfl | hk
    · by_cases h1 : n = 8
      · subst h1
        go_enter Tryz.func73, Tryz.ntmps73
        go_wp2
        go_ret
        exact ⟨rfl, bel1 _ _⟩
      by_cases h2 : n = 16
      · subst h2
        go_enter Tryz.func73, Tryz.ntmps73
        go_wp2
        go_ret
        exact ⟨rfl, bel1 _ _⟩
      by_cases h3 : n = 32
      · subst h3
        go_enter Tryz.func73, Tryz.ntmps73
        go_wp2
        go_ret
        exact ⟨rfl, bel1 _ _⟩
      have h1 := beqF h1
      have h2 := beqF h2
      have h3 := beqF h3
      go_enter Tryz.func73, Tryz.ntmps73
      go_wp2
      go_ret
      exact ⟨ret_b (by simp at h1 h2 h3; simp [tyOk, h1, h2, h3, beq_dec]), bel1 _ _⟩
    · rcases hk with rfl | rfl | rfl | rfl | rfl | rfl | rfl | rfl
      all_goals
        go_enter Tryz.func73, Tryz.ntmps73
        go_wp2_with (go_at_call 74; refine (l1InW_any _ _ _ _).mono ?_; rintro e w' ⟨rfl, rfl⟩)
        go_ret
        exact ⟨ret_b (by simp [tyOk, beq_dec]), bel1 _ _⟩
end Go.Proofs.YtepffjfgomhepaaGreatDoor
