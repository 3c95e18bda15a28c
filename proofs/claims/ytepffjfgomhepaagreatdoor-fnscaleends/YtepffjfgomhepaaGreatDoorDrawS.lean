/- The draws of schemas: contracts. -/
import Derived.Test.YtepffjfgomhepaaGreatDoorDrawX
import Derived.Test.YtepffjfgomhepaaGreatDoorSRt
namespace Go.Proofs.YtepffjfgomhepaaGreatDoor
open Go.RowKit
set_option linter.unusedVariables false
/-- A pair of cells of one's own, set. -/
theorem pair_set {w w1 : World} {B0 B N : Nat} {a : Option Addr} {len cap : Nat} {u0 u1 : Value} {T : TypeId} (hN : w1.heap[N]? = some (.cells #[u0, u1] T (0, 0))) (hr : RdAt B0 B a len cap w1) (hB : B < N) (hw : w.heap.size ≤ N) (hg : w.grownBy w1 (some B)) (k n : Value) :
    ((w1.setCell ⟨N, 0, none⟩ k).setCell ⟨N, 1, none⟩ n).heap[N]? = some (.cells #[k, n] T (0, 0)) ∧ RdAt B0 B a len cap ((w1.setCell ⟨N, 0, none⟩ k).setCell ⟨N, 1, none⟩ n) ∧ w.grownBy ((w1.setCell ⟨N, 0, none⟩ k).setCell ⟨N, 1, none⟩ n) (some B) := by
  have e1 := set_block (i := 0) hN k
  have e2 := set_block (i := 1) e1 n
  refine ⟨by rw [e2]; simp, hr.keep (((Below.refl _ _).setCell (p := ⟨N, 0, none⟩) hB _).setCell (p := ⟨N, 1, none⟩) hB _), ?_⟩
  exact gb_app (gb_app hg (gb_setCell _ N 0 k) (fun q hq => by cases hq; exact hw)) (gb_setCell _ N 1 n) (fun q hq => by cases hq; exact hw)
theorem inI_of {n : Int} (h : 0 ≤ n) (h' : n ≤ 1000) : inI n := ⟨by omega, by omega⟩
theorem beqN {x c : Nat} (h : x ≠ c) : ((x : Int) == (c : Int)) = false := by simp; omega
set_option maxHeartbeats 1000000 in
theorem flat_any (B0 B : Nat) (a : Option Addr) (len cap : Nat) (w : World) (h : RdAt B0 B a len cap w) : Calls Tryz.prog 69 #[.pointer (some ⟨B, 0, none⟩)] w fun e w' => (∃ k n : Int, inI k ∧ inI n ∧ (tyOk k n = true ∧ kids k n = 0) ∧ e = .returned (.agg #[.int .i64 k, .int .i64 n])) ∧ RdAt B0 B a len cap w' ∧ w.grownBy w' (some B) := by
  have hsz := h.size
  have hal : Below w.heap.size w (w.alloc (.cells #[.int .i64 0, .int .i64 0] 83)) := bel1 _ _
  have h0 := h.full hal
  have hg0 := gb_full hal (some B)
  have hnew : (w.alloc (.cells #[.int .i64 0, .int .i64 0] 83)).heap[w.heap.size]? = some (.cells #[.int .i64 0, .int .i64 0] 83 (0, 0)) := heap_alloc_new w _
  go_enter Tryz.func69, Tryz.ntmps69
  go_wp2_with fail
  refine (below_any B0 B a len cap 8 _ h0 (by decide) (by decide)).mono ?_
  rintro e w1 ⟨⟨x, hx, rfl⟩, hr1, hb1⟩
  have hs1 : w.heap.size < w1.heap.size := by have := hb1.size; simp at this; omega
  have hN1 : w1.heap[w.heap.size]? = some (.cells #[.int .i64 0, .int .i64 0] 83 (0, 0)) := by rw [hb1.block _ (by simp) (by simp; omega)]; exact hnew
  have hg1 := gb_trans hg0 hb1
  clear hnew hg0 h0 hb1 hal
  obtain ⟨c0, c1, f0, f1⟩ := pair_cells hN1
  have HS : Hid (∀ k n : Value, ((w1.setCell ⟨w.heap.size, 0, none⟩ k).setCell ⟨w.heap.size, 1, none⟩ n).heap[w.heap.size]? = some (.cells #[k, n] 83 (0, 0)) ∧ RdAt B0 B a len cap ((w1.setCell ⟨w.heap.size, 0, none⟩ k).setCell ⟨w.heap.size, 1, none⟩ n) ∧ w.grownBy ((w1.setCell ⟨w.heap.size, 0, none⟩ k).setCell ⟨w.heap.size, 1, none⟩ n) (some B)) := pair_set hN1 hr1 hsz (Nat.le_refl _) hg1
  have HR1 : Hid (RdAt B0 B a len cap w1) := hr1
  have HG1 : Hid (w.grownBy w1 (some B)) := hg1
  have HN1 : Hid (w1.heap[w.heap.size]? = some (.cells #[.int .i64 0, .int .i64 0] 83 (0, 0))) := hN1
  clear hr1 hg1 hN1 h
  by_cases x0 : x = 0
  · subst x0
    go_wp2_with fail
    exact bodyPost_ret (v := .agg #[.int .i64 2, .int .i64 0]) (results_cell_row Tryz.results69 _ _ w.heap.size _ _ _ _ rfl (HS.out _ _).1 Tryz.underlying83 rfl Tryz.szTyp) rfl ⟨⟨2, 0, inI_of (by omega) (by omega), inI_of (by omega) (by omega), ⟨rfl, rfl⟩, rfl⟩, (HS.out _ _).2⟩
  have q0 := beqN x0
  by_cases x1 : x = 1
  · subst x1
    go_wp2_with fail
    refine (below_any B0 B a len cap 12 _ HR1.out (by decide) (by decide)).mono ?_
    rintro e w2 ⟨⟨y, hy, rfl⟩, hr2, hb2⟩
    have hN2 : w2.heap[w.heap.size]? = some (.cells #[.int .i64 0, .int .i64 0] 83 (0, 0)) := by rw [hb2.block _ hs1 (by simp; omega)]; exact HN1.out
    clear c0 c1 f0 f1 HS
    obtain ⟨c0, c1, f0, f1⟩ := pair_cells hN2
    have HS : Hid (∀ k n : Value, ((w2.setCell ⟨w.heap.size, 0, none⟩ k).setCell ⟨w.heap.size, 1, none⟩ n).heap[w.heap.size]? = some (.cells #[k, n] 83 (0, 0)) ∧ RdAt B0 B a len cap ((w2.setCell ⟨w.heap.size, 0, none⟩ k).setCell ⟨w.heap.size, 1, none⟩ n) ∧ w.grownBy ((w2.setCell ⟨w.heap.size, 0, none⟩ k).setCell ⟨w.heap.size, 1, none⟩ n) (some B)) := pair_set hN2 hr2 hsz (Nat.le_refl _) (gb_trans HG1.out hb2)
    clear hN2 hr2 hb2
    go_wp2_with fail
    exact bodyPost_ret (v := .agg #[.int .i64 3, .int .i64 ((y : Int))]) (results_cell_row Tryz.results69 _ _ w.heap.size _ _ _ _ rfl (HS.out _ _).1 Tryz.underlying83 rfl Tryz.szTyp) rfl ⟨⟨3, (y : Int), inI_of (by omega) (by omega), inI_of (by omega) (by omega), ⟨by simp [tyOk]; omega, by simp [kids]⟩, rfl⟩, (HS.out _ _).2⟩
  have q1 := beqN x1
  by_cases x2 : x = 2
  · subst x2
    go_wp2_with fail
    refine (below_any B0 B a len cap 12 _ HR1.out (by decide) (by decide)).mono ?_
    rintro e w2 ⟨⟨y, hy, rfl⟩, hr2, hb2⟩
    have hN2 : w2.heap[w.heap.size]? = some (.cells #[.int .i64 0, .int .i64 0] 83 (0, 0)) := by rw [hb2.block _ hs1 (by simp; omega)]; exact HN1.out
    clear c0 c1 f0 f1 HS
    obtain ⟨c0, c1, f0, f1⟩ := pair_cells hN2
    have HS : Hid (∀ k n : Value, ((w2.setCell ⟨w.heap.size, 0, none⟩ k).setCell ⟨w.heap.size, 1, none⟩ n).heap[w.heap.size]? = some (.cells #[k, n] 83 (0, 0)) ∧ RdAt B0 B a len cap ((w2.setCell ⟨w.heap.size, 0, none⟩ k).setCell ⟨w.heap.size, 1, none⟩ n) ∧ w.grownBy ((w2.setCell ⟨w.heap.size, 0, none⟩ k).setCell ⟨w.heap.size, 1, none⟩ n) (some B)) := pair_set hN2 hr2 hsz (Nat.le_refl _) (gb_trans HG1.out hb2)
    clear hN2 hr2 hb2
    go_wp2_with fail
    exact bodyPost_ret (v := .agg #[.int .i64 3, .int .i64 ((y : Int))]) (results_cell_row Tryz.results69 _ _ w.heap.size _ _ _ _ rfl (HS.out _ _).1 Tryz.underlying83 rfl Tryz.szTyp) rfl ⟨⟨3, (y : Int), inI_of (by omega) (by omega), inI_of (by omega) (by omega), ⟨by simp [tyOk]; omega, by simp [kids]⟩, rfl⟩, (HS.out _ _).2⟩
  have q2 := beqN x2
  by_cases x3 : x = 3
  · subst x3
    go_wp2_with fail
    refine (below_any B0 B a len cap 5 _ HR1.out (by decide) (by decide)).mono ?_
    rintro e w2 ⟨⟨y, hy, rfl⟩, hr2, hb2⟩
    have hN2 : w2.heap[w.heap.size]? = some (.cells #[.int .i64 0, .int .i64 0] 83 (0, 0)) := by rw [hb2.block _ hs1 (by simp; omega)]; exact HN1.out
    clear c0 c1 f0 f1 HS
    obtain ⟨c0, c1, f0, f1⟩ := pair_cells hN2
    have HS : Hid (∀ k n : Value, ((w2.setCell ⟨w.heap.size, 0, none⟩ k).setCell ⟨w.heap.size, 1, none⟩ n).heap[w.heap.size]? = some (.cells #[k, n] 83 (0, 0)) ∧ RdAt B0 B a len cap ((w2.setCell ⟨w.heap.size, 0, none⟩ k).setCell ⟨w.heap.size, 1, none⟩ n) ∧ w.grownBy ((w2.setCell ⟨w.heap.size, 0, none⟩ k).setCell ⟨w.heap.size, 1, none⟩ n) (some B)) := pair_set hN2 hr2 hsz (Nat.le_refl _) (gb_trans HG1.out hb2)
    clear hN2 hr2 hb2
    go_wp2_with fail
    exact bodyPost_ret (v := .agg #[.int .i64 4, .int .i64 (1 + (y : Int))]) (results_cell_row Tryz.results69 _ _ w.heap.size _ _ _ _ rfl (HS.out _ _).1 Tryz.underlying83 rfl Tryz.szTyp) rfl ⟨⟨4, 1 + (y : Int), inI_of (by omega) (by omega), inI_of (by omega) (by omega), ⟨by simp [tyOk]; omega, by simp [kids]⟩, rfl⟩, (HS.out _ _).2⟩
  · have q3 := beqN x3
    have hal : Below w1.heap.size w1 (w1.alloc (.cells #[.int .i64 8, .int .i64 16, .int .i64 32, .int .i64 64] 2)) := bel1 _ _
    go_wp2_with fail
    refine (below_any B0 B a len cap 4 _ (HR1.out.full hal) (by decide) (by decide)).mono ?_
    rintro e w2 ⟨⟨y, hy, rfl⟩, hr2, hb2⟩
    have hN2 : w2.heap[w.heap.size]? = some (.cells #[.int .i64 0, .int .i64 0] 83 (0, 0)) := by rw [hb2.block _ (by simp; omega) (by simp; omega)]; exact (Below.heap_alloc _ _ _ hs1).trans HN1.out
    clear c0 c1 f0 f1 HS
    obtain ⟨c0, c1, f0, f1⟩ := pair_cells hN2
    have HS : Hid (∀ k n : Value, ((w2.setCell ⟨w.heap.size, 0, none⟩ k).setCell ⟨w.heap.size, 1, none⟩ n).heap[w.heap.size]? = some (.cells #[k, n] 83 (0, 0)) ∧ RdAt B0 B a len cap ((w2.setCell ⟨w.heap.size, 0, none⟩ k).setCell ⟨w.heap.size, 1, none⟩ n) ∧ w.grownBy ((w2.setCell ⟨w.heap.size, 0, none⟩ k).setCell ⟨w.heap.size, 1, none⟩ n) (some B)) := pair_set hN2 hr2 hsz (Nat.le_refl _) (gb_trans (gb_trans HG1.out (gb_full hal _)) hb2)
    have hcell : ∃ v : Int, 0 ≤ v ∧ v ≤ 64 ∧ (v = 8 ∨ v = 16 ∨ v = 32 ∨ v = 64) ∧ w2.cell? ⟨w1.heap.size, y, none⟩ = some (.int .i64 v) := by
      rw [gb_cell hb2 (p := ⟨w1.heap.size, y, none⟩) (by simp) (by simp; omega), World.cell?_alloc_new]
      match y, hy with
      | 0, _ => exact ⟨8, by omega, by omega, by omega, rfl⟩
      | 1, _ => exact ⟨16, by omega, by omega, by omega, rfl⟩
      | 2, _ => exact ⟨32, by omega, by omega, by omega, rfl⟩
      | 3, _ => exact ⟨64, by omega, by omega, by omega, rfl⟩
      | y + 4, h => exact absurd h (by omega)
    obtain ⟨v, hv0, hv1, hv8, hcv⟩ := hcell
    have HV8 : Hid (tyOk 1 v = true) := by show _ = _; simp [tyOk]; omega
    clear hv8
    clear hN2 hr2 hb2 hal
    go_wp2_with fail
    exact bodyPost_ret (v := .agg #[.int .i64 1, .int .i64 (v)]) (results_cell_row Tryz.results69 _ _ w.heap.size _ _ _ _ rfl (HS.out _ _).1 Tryz.underlying83 rfl Tryz.szTyp) rfl ⟨⟨1, v, inI_of (by omega) (by omega), inI_of (by omega) (by omega), ⟨HV8.out, by simp [kids]⟩, rfl⟩, (HS.out _ _).2⟩
end Go.Proofs.YtepffjfgomhepaaGreatDoor
