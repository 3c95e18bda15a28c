/- The draws of schemas: contracts. -/
import Derived.Test.YtogadhfickojcaaGreatDoorDrawX
import Derived.Test.YtogadhfickojcaaGreatDoorS2e
namespace Go.Proofs.YtogadhfickojcaaGreatDoor
open Go.RowKit
set_option linter.unusedVariables false
def flatT (ts : List (Int × Int)) : List Value := ts.flatMap fun t => [.int .i64 t.1, .int .i64 t.2]
theorem flatT_nil : flatT [] = [] := rfl
theorem flatT_one (k n : Int) : flatT [(k, n)] = [.int .i64 k, .int .i64 n] := rfl
theorem flatT_app (a b : List (Int × Int)) : flatT (a ++ b) = flatT a ++ flatT b := by simp [flatT]
theorem flatT_len (ts : List (Int × Int)) : (flatT ts).length = ts.length * 2 := by
  induction ts with
  | nil => rfl
  | cons t ts ih => have e : flatT (t :: ts) = [.int .i64 t.1, .int .i64 t.2] ++ flatT ts := rfl
                    rw [e, List.length_append, ih]; simp; omega
theorem flatT_at : ∀ (ts : List (Int × Int)) (i : Nat) (h : i < ts.length), (flatT ts)[i * 2]? = some (.int .i64 ts[i].1) ∧ (flatT ts)[i * 2 + 1]? = some (.int .i64 ts[i].2)
  | t :: ts, 0, _ => ⟨rfl, rfl⟩
  | t :: ts, i + 1, h => by
    have e : flatT (t :: ts) = [.int .i64 t.1, .int .i64 t.2] ++ flatT ts := rfl
    have := flatT_at ts i (by simpa using h)
    rw [e, List.getElem?_append_right (by simp; omega), List.getElem?_append_right (by simp; omega)]
    simp only [List.length_cons, List.length_nil, List.getElem_cons_succ]
    rw [show (i + 1) * 2 - (0 + 1 + 1) = i * 2 by omega, show (i + 1) * 2 + 1 - (0 + 1 + 1) = i * 2 + 1 by omega]
    exact this
theorem flatT_int (ts : List (Int × Int)) : ∀ u ∈ flatT ts, ∃ z, u = .int .i64 z := by
  intro u hu
  simp only [flatT, List.mem_flatMap] at hu
  obtain ⟨t, _, hu⟩ := hu
  simp at hu
  rcases hu with rfl | rfl
  · exact ⟨_, rfl⟩
  · exact ⟨_, rfl⟩
def wfT (ts : List (Int × Int)) : Prop := ∀ t ∈ ts, inI t.1 ∧ inI t.2
theorem wfT_app {a b : List (Int × Int)} (ha : wfT a) (hb : wfT b) : wfT (a ++ b) := fun t ht => by
  rcases List.mem_append.1 ht with h | h
  · exact ha t h
  · exact hb t h
/-- A row of types of one's own, as a slice of types. -/
theorem own_typs {w : World} {base : Nat} {v : Value} {ts : List (Int × Int)} (h : w.ownsRow base 41 2 v ts.length (flatT ts)) (hs : ts.length ≤ 1048577) (hw : wfT ts) : IsTyps w.heap.size w v ts := by
  rcases h.2 with ⟨hv, h0⟩ | ⟨g, cap, cur, hv, _, hg, h1, h2, h3, h4⟩
  · exact ⟨hs, hw, none, 0, by rw [hv, h0], by omega, by simp [maxLen], .inl h0⟩
  · refine ⟨hs, hw, _, cap, hv, h1, h2, .inr ⟨g, 0, rfl, blk_lt hg, fun i hi => ?_⟩⟩
    have hc : ∀ m, m < ts.length * 2 → w.cell? ⟨g, m, none⟩ = (flatT ts)[m]? := fun m hm => by
      rw [cell_of_row w g m cur _ _ hg, ← h4, List.getElem?_take, if_pos hm]; simp
    rw [Nat.zero_add, hc _ (by omega), hc _ (by omega)]
    exact flatT_at ts i hi
/-- A pair of cells of one's own, set. -/
theorem pair_set {w w1 : World} {B0 B N : Nat} {a : Option Addr} {len cap : Nat} {u0 u1 : Value} {T : TypeId} (hN : w1.heap[N]? = some (.cells #[u0, u1] T (0, 0))) (hr : RdAt B0 B a len cap w1) (hB : B < N) (hw : w.heap.size ≤ N) (hg : w.grownBy w1 (some B)) (k n : Value) :
    ((w1.setCell ⟨N, 0, none⟩ k).setCell ⟨N, 1, none⟩ n).heap[N]? = some (.cells #[k, n] T (0, 0)) ∧ RdAt B0 B a len cap ((w1.setCell ⟨N, 0, none⟩ k).setCell ⟨N, 1, none⟩ n) ∧ w.grownBy ((w1.setCell ⟨N, 0, none⟩ k).setCell ⟨N, 1, none⟩ n) (some B) := by
  have e1 := set_block (i := 0) hN k
  have e2 := set_block (i := 1) e1 n
  refine ⟨by rw [e2]; simp, hr.keep (((Below.refl _ _).setCell (p := ⟨N, 0, none⟩) hB _).setCell (p := ⟨N, 1, none⟩) hB _), ?_⟩
  exact gb_app (gb_app hg (gb_setCell _ N 0 k) (fun q hq => by cases hq; exact hw)) (gb_setCell _ N 1 n) (fun q hq => by cases hq; exact hw)
theorem pair_cells {w1 : World} {N : Nat} {u0 u1 : Value} {T : TypeId} (hN : w1.heap[N]? = some (.cells #[u0, u1] T (0, 0))) : w1.cell? ⟨N, 0, none⟩ = some u0 ∧ w1.cell? ⟨N, 1, none⟩ = some u1 ∧ w1.frozen? ⟨N, 0, none⟩ = false ∧ w1.frozen? ⟨N, 1, none⟩ = false := by
  refine ⟨by rw [cell_of_row w1 N 0 _ _ _ hN]; simp, by rw [cell_of_row w1 N 1 _ _ _ hN]; simp, by simp [World.frozen?, hN], by simp [World.frozen?, hN]⟩
theorem Tryz.szTyp : (Tryz.prog.info? 41).map (·.size) = some 2 := by kernel_rfl
theorem inI_of {n : Int} (h : 0 ≤ n) (h' : n ≤ 1000) : inI n := ⟨by omega, by omega⟩
theorem beqN {x c : Nat} (h : x ≠ c) : ((x : Int) == (c : Int)) = false := by simp; omega
set_option maxHeartbeats 1000000 in
theorem flat_any (B0 B : Nat) (a : Option Addr) (len cap : Nat) (w : World) (h : RdAt B0 B a len cap w) : Calls Tryz.prog 95 #[.pointer (some ⟨B, 0, none⟩)] w fun e w' => (∃ k n : Int, inI k ∧ inI n ∧ (tyOk k n = true ∧ kids k n = 0) ∧ e = .returned (.agg #[.int .i64 k, .int .i64 n])) ∧ RdAt B0 B a len cap w' ∧ w.grownBy w' (some B) := by
  have hsz := h.size
  have hal : Below w.heap.size w (w.alloc (.cells #[.int .i64 0, .int .i64 0] 41)) := bel1 _ _
  have h0 := h.full hal
  have hg0 := gb_full hal (some B)
  have hnew : (w.alloc (.cells #[.int .i64 0, .int .i64 0] 41)).heap[w.heap.size]? = some (.cells #[.int .i64 0, .int .i64 0] 41 (0, 0)) := heap_alloc_new w _
  go_enter Tryz.func95, Tryz.ntmps95
  go_wp2_with fail
  refine (below_any B0 B a len cap 8 _ h0 (by decide) (by decide)).mono ?_
  rintro e w1 ⟨⟨x, hx, rfl⟩, hr1, hb1⟩
  have hs1 : w.heap.size < w1.heap.size := by have := hb1.size; simp at this; omega
  have hN1 : w1.heap[w.heap.size]? = some (.cells #[.int .i64 0, .int .i64 0] 41 (0, 0)) := by rw [hb1.block _ (by simp) (by simp; omega)]; exact hnew
  have hg1 := gb_trans hg0 hb1
  clear hnew hg0 h0 hb1 hal
  obtain ⟨c0, c1, f0, f1⟩ := pair_cells hN1
  have HS : Hid (∀ k n : Value, ((w1.setCell ⟨w.heap.size, 0, none⟩ k).setCell ⟨w.heap.size, 1, none⟩ n).heap[w.heap.size]? = some (.cells #[k, n] 41 (0, 0)) ∧ RdAt B0 B a len cap ((w1.setCell ⟨w.heap.size, 0, none⟩ k).setCell ⟨w.heap.size, 1, none⟩ n) ∧ w.grownBy ((w1.setCell ⟨w.heap.size, 0, none⟩ k).setCell ⟨w.heap.size, 1, none⟩ n) (some B)) := pair_set hN1 hr1 hsz (Nat.le_refl _) hg1
  have HR1 : Hid (RdAt B0 B a len cap w1) := hr1
  have HG1 : Hid (w.grownBy w1 (some B)) := hg1
  have HN1 : Hid (w1.heap[w.heap.size]? = some (.cells #[.int .i64 0, .int .i64 0] 41 (0, 0))) := hN1
  clear hr1 hg1 hN1 h
  by_cases x0 : x = 0
  · subst x0
    go_wp2_with fail
    exact bodyPost_ret (v := .agg #[.int .i64 2, .int .i64 0]) (results_cell_row Tryz.results95 _ _ w.heap.size _ _ _ _ rfl (HS.out _ _).1 Tryz.underlying41 rfl Tryz.szTyp) rfl ⟨⟨2, 0, inI_of (by omega) (by omega), inI_of (by omega) (by omega), ⟨rfl, rfl⟩, rfl⟩, (HS.out _ _).2⟩
  have q0 := beqN x0
  by_cases x1 : x = 1
  · subst x1
    go_wp2_with fail
    refine (below_any B0 B a len cap 12 _ HR1.out (by decide) (by decide)).mono ?_
    rintro e w2 ⟨⟨y, hy, rfl⟩, hr2, hb2⟩
    have hN2 : w2.heap[w.heap.size]? = some (.cells #[.int .i64 0, .int .i64 0] 41 (0, 0)) := by rw [hb2.block _ hs1 (by simp; omega)]; exact HN1.out
    clear c0 c1 f0 f1 HS
    obtain ⟨c0, c1, f0, f1⟩ := pair_cells hN2
    have HS : Hid (∀ k n : Value, ((w2.setCell ⟨w.heap.size, 0, none⟩ k).setCell ⟨w.heap.size, 1, none⟩ n).heap[w.heap.size]? = some (.cells #[k, n] 41 (0, 0)) ∧ RdAt B0 B a len cap ((w2.setCell ⟨w.heap.size, 0, none⟩ k).setCell ⟨w.heap.size, 1, none⟩ n) ∧ w.grownBy ((w2.setCell ⟨w.heap.size, 0, none⟩ k).setCell ⟨w.heap.size, 1, none⟩ n) (some B)) := pair_set hN2 hr2 hsz (Nat.le_refl _) (gb_trans HG1.out hb2)
    clear hN2 hr2 hb2
    go_wp2_with fail
    exact bodyPost_ret (v := .agg #[.int .i64 3, .int .i64 ((y : Int))]) (results_cell_row Tryz.results95 _ _ w.heap.size _ _ _ _ rfl (HS.out _ _).1 Tryz.underlying41 rfl Tryz.szTyp) rfl ⟨⟨3, (y : Int), inI_of (by omega) (by omega), inI_of (by omega) (by omega), ⟨by simp [tyOk]; omega, by simp [kids]⟩, rfl⟩, (HS.out _ _).2⟩
  have q1 := beqN x1
  by_cases x2 : x = 2
  · subst x2
    go_wp2_with fail
    refine (below_any B0 B a len cap 12 _ HR1.out (by decide) (by decide)).mono ?_
    rintro e w2 ⟨⟨y, hy, rfl⟩, hr2, hb2⟩
    have hN2 : w2.heap[w.heap.size]? = some (.cells #[.int .i64 0, .int .i64 0] 41 (0, 0)) := by rw [hb2.block _ hs1 (by simp; omega)]; exact HN1.out
    clear c0 c1 f0 f1 HS
    obtain ⟨c0, c1, f0, f1⟩ := pair_cells hN2
    have HS : Hid (∀ k n : Value, ((w2.setCell ⟨w.heap.size, 0, none⟩ k).setCell ⟨w.heap.size, 1, none⟩ n).heap[w.heap.size]? = some (.cells #[k, n] 41 (0, 0)) ∧ RdAt B0 B a len cap ((w2.setCell ⟨w.heap.size, 0, none⟩ k).setCell ⟨w.heap.size, 1, none⟩ n) ∧ w.grownBy ((w2.setCell ⟨w.heap.size, 0, none⟩ k).setCell ⟨w.heap.size, 1, none⟩ n) (some B)) := pair_set hN2 hr2 hsz (Nat.le_refl _) (gb_trans HG1.out hb2)
    clear hN2 hr2 hb2
    go_wp2_with fail
    exact bodyPost_ret (v := .agg #[.int .i64 3, .int .i64 ((y : Int))]) (results_cell_row Tryz.results95 _ _ w.heap.size _ _ _ _ rfl (HS.out _ _).1 Tryz.underlying41 rfl Tryz.szTyp) rfl ⟨⟨3, (y : Int), inI_of (by omega) (by omega), inI_of (by omega) (by omega), ⟨by simp [tyOk]; omega, by simp [kids]⟩, rfl⟩, (HS.out _ _).2⟩
  have q2 := beqN x2
  by_cases x3 : x = 3
  · subst x3
    go_wp2_with fail
    refine (below_any B0 B a len cap 5 _ HR1.out (by decide) (by decide)).mono ?_
    rintro e w2 ⟨⟨y, hy, rfl⟩, hr2, hb2⟩
    have hN2 : w2.heap[w.heap.size]? = some (.cells #[.int .i64 0, .int .i64 0] 41 (0, 0)) := by rw [hb2.block _ hs1 (by simp; omega)]; exact HN1.out
    clear c0 c1 f0 f1 HS
    obtain ⟨c0, c1, f0, f1⟩ := pair_cells hN2
    have HS : Hid (∀ k n : Value, ((w2.setCell ⟨w.heap.size, 0, none⟩ k).setCell ⟨w.heap.size, 1, none⟩ n).heap[w.heap.size]? = some (.cells #[k, n] 41 (0, 0)) ∧ RdAt B0 B a len cap ((w2.setCell ⟨w.heap.size, 0, none⟩ k).setCell ⟨w.heap.size, 1, none⟩ n) ∧ w.grownBy ((w2.setCell ⟨w.heap.size, 0, none⟩ k).setCell ⟨w.heap.size, 1, none⟩ n) (some B)) := pair_set hN2 hr2 hsz (Nat.le_refl _) (gb_trans HG1.out hb2)
    clear hN2 hr2 hb2
    go_wp2_with fail
    exact bodyPost_ret (v := .agg #[.int .i64 4, .int .i64 (1 + (y : Int))]) (results_cell_row Tryz.results95 _ _ w.heap.size _ _ _ _ rfl (HS.out _ _).1 Tryz.underlying41 rfl Tryz.szTyp) rfl ⟨⟨4, 1 + (y : Int), inI_of (by omega) (by omega), inI_of (by omega) (by omega), ⟨by simp [tyOk]; omega, by simp [kids]⟩, rfl⟩, (HS.out _ _).2⟩
  · have q3 := beqN x3
    have hal : Below w1.heap.size w1 (w1.alloc (.cells #[.int .i64 8, .int .i64 16, .int .i64 32, .int .i64 64] 2)) := bel1 _ _
    go_wp2_with fail
    refine (below_any B0 B a len cap 4 _ (HR1.out.full hal) (by decide) (by decide)).mono ?_
    rintro e w2 ⟨⟨y, hy, rfl⟩, hr2, hb2⟩
    have hN2 : w2.heap[w.heap.size]? = some (.cells #[.int .i64 0, .int .i64 0] 41 (0, 0)) := by rw [hb2.block _ (by simp; omega) (by simp; omega)]; exact (Below.heap_alloc _ _ _ hs1).trans HN1.out
    clear c0 c1 f0 f1 HS
    obtain ⟨c0, c1, f0, f1⟩ := pair_cells hN2
    have HS : Hid (∀ k n : Value, ((w2.setCell ⟨w.heap.size, 0, none⟩ k).setCell ⟨w.heap.size, 1, none⟩ n).heap[w.heap.size]? = some (.cells #[k, n] 41 (0, 0)) ∧ RdAt B0 B a len cap ((w2.setCell ⟨w.heap.size, 0, none⟩ k).setCell ⟨w.heap.size, 1, none⟩ n) ∧ w.grownBy ((w2.setCell ⟨w.heap.size, 0, none⟩ k).setCell ⟨w.heap.size, 1, none⟩ n) (some B)) := pair_set hN2 hr2 hsz (Nat.le_refl _) (gb_trans (gb_trans HG1.out (gb_full hal _)) hb2)
    have hcell : ∃ v : Int, 0 ≤ v ∧ v ≤ 64 ∧ (v = 8 ∨ v = 16 ∨ v = 32 ∨ v = 64) ∧ w2.cell? ⟨w1.heap.size, y, none⟩ = some (.int .i64 v) := by
      rw [gb_cell hb2 (p := ⟨w1.heap.size, y, none⟩) (by simp) (by simp; omega), World.cell?_alloc_new]
      match y, hy with
      | 0, _ => exact ⟨8, by omega, by omega, by omega, rfl⟩
      | 1, _ => exact ⟨16, by omega, by omega, by omega, rfl⟩
      | 2, _ => exact ⟨32, by omega, by omega, by omega, rfl⟩
      | 3, _ => exact ⟨64, by omega, by omega, by omega, rfl⟩
      | y + 4, h => exact absurd h (by omega)
    obtain ⟨v, hv0, hv1, hv8, hcv⟩ := hcell
    have HV8 : Hid (tyOk 1 v = true) := by show _ = _; simp [tyOk]; omega
    clear hv8
    clear hN2 hr2 hb2 hal
    go_wp2_with fail
    exact bodyPost_ret (v := .agg #[.int .i64 1, .int .i64 (v)]) (results_cell_row Tryz.results95 _ _ w.heap.size _ _ _ _ rfl (HS.out _ _).1 Tryz.underlying41 rfl Tryz.szTyp) rfl ⟨⟨1, v, inI_of (by omega) (by omega), inI_of (by omega) (by omega), ⟨HV8.out, by simp [kids]⟩, rfl⟩, (HS.out _ _).2⟩
end Go.Proofs.YtogadhfickojcaaGreatDoor
