/- SRt, DrawS, DrawT, DrawU, DrawV: one text. -/
import Derived.Test.YtdncnjmlicdamaaGreatDoorS2h
import Derived.Test.YtdncnjmlicdamaaGreatDoorDrawX
import Derived.Test.YtdncnjmlicdamaaGreatDoorPv
import Derived.Deep.DeepCutAuto
import Derived.Deep.CutBlock
import Derived.Deep.LoopGhost
namespace Go.Proofs.YtdncnjmlicdamaaGreatDoor
open Go.RowKit
set_option linter.unusedVariables false
def flatT (ts : List (Int × Int)) : List Value := ts.flatMap fun t => [.int .i64 t.1, .int .i64 t.2]
theorem flatT_nil : flatT [] = [] := rfl
theorem flatT_one (k n : Int) : flatT [(k, n)] = [.int .i64 k, .int .i64 n] := rfl
theorem flatT_app (a b : List (Int × Int)) : flatT (a ++ b) = flatT a ++ flatT b := by simp [flatT]
theorem flatT_len (ts : List (Int × Int)) : (flatT ts).length = ts.length * 2 := by
  induction ts with
  | nil => rfl
  | cons t ts ih => have e : flatT (t :: ts) = [.int .i64 t.1, .int .i64 t.2] ++ flatT ts := rfl
                    rw [e, List.length_append, ih]; simp; omega
theorem flatT_at : ∀ (ts : List (Int × Int)) (i : Nat) (h : i < ts.length), (flatT ts)[i * 2]? = some (.int .i64 ts[i].1) ∧ (flatT ts)[i * 2 + 1]? = some (.int .i64 ts[i].2)
  | t :: ts, 0, _ => ⟨rfl, rfl⟩
  | t :: ts, i + 1, h => by
    have e : flatT (t :: ts) = [.int .i64 t.1, .int .i64 t.2] ++ flatT ts := rfl
    have := flatT_at ts i (by simpa using h)
    rw [e, List.getElem?_append_right (by simp; omega), List.getElem?_append_right (by simp; omega)]
    simp only [List.length_cons, List.length_nil, List.getElem_cons_succ]
    rw [show (i + 1) * 2 - (0 + 1 + 1) = i * 2 by omega, show (i + 1) * 2 + 1 - (0 + 1 + 1) = i * 2 + 1 by omega]
    exact this
theorem flatT_int (ts : List (Int × Int)) : ∀ u ∈ flatT ts, ∃ z, u = .int .i64 z := by
  intro u hu
  simp only [flatT, List.mem_flatMap] at hu
  obtain ⟨t, _, hu⟩ := hu
  simp at hu
  rcases hu with rfl | rfl
  · exact ⟨_, rfl⟩
  · exact ⟨_, rfl⟩
def wfT (ts : List (Int × Int)) : Prop := ∀ t ∈ ts, inI t.1 ∧ inI t.2
theorem wfT_app {a b : List (Int × Int)} (ha : wfT a) (hb : wfT b) : wfT (a ++ b) := fun t ht => by
  rcases List.mem_append.1 ht with h | h
  · exact ha t h
  · exact hb t h
/-- A row of types of one's own, as a slice of types. -/
theorem own_typs {w : World} {base : Nat} {v : Value} {ts : List (Int × Int)} (h : w.ownsRow base 88 2 v ts.length (flatT ts)) (hs : ts.length ≤ 1048577) (hw : wfT ts) : IsTyps w.heap.size w v ts := by
  rcases h.2 with ⟨hv, h0⟩ | ⟨g, cap, cur, hv, _, hg, h1, h2, h3, h4⟩
  · exact ⟨hs, hw, none, 0, by rw [hv, h0], by omega, by simp [maxLen], .inl h0⟩
  · refine ⟨hs, hw, _, cap, hv, h1, h2, .inr ⟨g, 0, rfl, blk_lt hg, fun i hi => ?_⟩⟩
    have hc : ∀ m, m < ts.length * 2 → w.cell? ⟨g, m, none⟩ = (flatT ts)[m]? := fun m hm => by
      rw [cell_of_row w g m cur _ _ hg, ← h4, List.getElem?_take, if_pos hm]; simp
    rw [Nat.zero_add, hc _ (by omega), hc _ (by omega)]
    exact flatT_at ts i hi
theorem pair_cells {w1 : World} {N : Nat} {u0 u1 : Value} {T : TypeId} (hN : w1.heap[N]? = some (.cells #[u0, u1] T (0, 0))) : w1.cell? ⟨N, 0, none⟩ = some u0 ∧ w1.cell? ⟨N, 1, none⟩ = some u1 ∧ w1.frozen? ⟨N, 0, none⟩ = false ∧ w1.frozen? ⟨N, 1, none⟩ = false := by
  refine ⟨by rw [cell_of_row w1 N 0 _ _ _ hN]; simp, by rw [cell_of_row w1 N 1 _ _ _ hN]; simp, by simp [World.frozen?, hN], by simp [World.frozen?, hN]⟩
theorem Tryz.szTyp : (Tryz.prog.info? 88).map (·.size) = some 2 := by kernel_rfl
theorem results_cell_row2 {P : Program} {fn : Func} {p u : Tmp} {ty : TypeId} (h : fn.results = #[.cell p ty, .tmp u]) (tmps : Array Value) (w : World) (g : Nat) (t : TypeId) (cs : Array Value) (fr : Nat × Nat) (d : TypeDesc)
    (hp : tmps.getD p undef = .pointer (some ⟨g, 0, none⟩)) (hg : w.heap[g]? = some (.cells cs t fr))
    (hu : P.underlying ty = some d) (hd : (match d with | .struct _ | .array _ _ => true | _ => false) = true) (hi : (P.info? ty).map (·.size) = some cs.size) :
    (results fn tmps).run P w = .ok (.tuple #[.agg cs, tmps.getD u undef]) w := by
  have hp' : tmps[p]?.getD undef = .pointer (some ⟨g, 0, none⟩) := by simpa using hp
  simp [results, h, hp', asAddr, run_loadVar_row w g t ty cs fr d hg hu hd hi]
theorem two_set {w : World} {N : Nat} {u0 u1 k n : Value} {T : TypeId} (hN : w.heap[N]? = some (.cells #[u0, u1] T (0, 0))) : ((w.setCell ⟨N, 0, none⟩ k).setCell ⟨N, 1, none⟩ n).heap[N]? = some (.cells #[k, n] T (0, 0)) := by
  have e1 := set_block (i := 0) hN k
  have e2 := set_block (i := 1) e1 n
  rw [e2]; simp
end Go.Proofs.YtdncnjmlicdamaaGreatDoor
namespace Go.Proofs.YtdncnjmlicdamaaGreatDoor
open Go.RowKit
set_option linter.unusedVariables false
/-- A pair of cells of one's own, set. -/
theorem pair_set {w w1 : World} {B0 B N : Nat} {a : Option Addr} {len cap : Nat} {u0 u1 : Value} {T : TypeId} (hN : w1.heap[N]? = some (.cells #[u0, u1] T (0, 0))) (hr : RdAt B0 B a len cap w1) (hB : B < N) (hw : w.heap.size ≤ N) (hg : w.grownBy w1 (some B)) (k n : Value) :
    ((w1.setCell ⟨N, 0, none⟩ k).setCell ⟨N, 1, none⟩ n).heap[N]? = some (.cells #[k, n] T (0, 0)) ∧ RdAt B0 B a len cap ((w1.setCell ⟨N, 0, none⟩ k).setCell ⟨N, 1, none⟩ n) ∧ w.grownBy ((w1.setCell ⟨N, 0, none⟩ k).setCell ⟨N, 1, none⟩ n) (some B) := by
  have e1 := set_block (i := 0) hN k
  have e2 := set_block (i := 1) e1 n
  refine ⟨by rw [e2]; simp, hr.keep (((Below.refl _ _).setCell (p := ⟨N, 0, none⟩) hB _).setCell (p := ⟨N, 1, none⟩) hB _), ?_⟩
  exact gb_app (gb_app hg (gb_setCell _ N 0 k) (fun q hq => by cases hq; exact hw)) (gb_setCell _ N 1 n) (fun q hq => by cases hq; exact hw)
theorem inI_of {n : Int} (h : 0 ≤ n) (h' : n ≤ 1000) : inI n := ⟨by omega, by omega⟩
theorem beqN {x c : Nat} (h : x ≠ c) : ((x : Int) == (c : Int)) = false := by simp; omega
set_option maxHeartbeats 1000000 in
theorem flat_any (B0 B : Nat) (a : Option Addr) (len cap : Nat) (w : World) (h : RdAt B0 B a len cap w) : Calls Tryz.prog 59 #[.pointer (some ⟨B, 0, none⟩)] w fun e w' => (∃ k n : Int, inI k ∧ inI n ∧ (tyOk k n = true ∧ kids k n = 0) ∧ e = .returned (.agg #[.int .i64 k, .int .i64 n])) ∧ RdAt B0 B a len cap w' ∧ w.grownBy w' (some B) := by
  have hsz := h.size
  have hal : Below w.heap.size w (w.alloc (.cells #[.int .i64 0, .int .i64 0] 88)) := bel1 _ _
  have h0 := h.full hal
  have hg0 := gb_full hal (some B)
  have hnew : (w.alloc (.cells #[.int .i64 0, .int .i64 0] 88)).heap[w.heap.size]? = some (.cells #[.int .i64 0, .int .i64 0] 88 (0, 0)) := heap_alloc_new w _
  go_enter Tryz.func59, Tryz.ntmps59
  go_wp2_with fail
  refine (below_any B0 B a len cap 8 _ h0 (by decide) (by decide)).mono ?_
  rintro e w1 ⟨⟨x, hx, rfl⟩, hr1, hb1⟩
  have hs1 : w.heap.size < w1.heap.size := by have := hb1.size; simp at this; omega
  have hN1 : w1.heap[w.heap.size]? = some (.cells #[.int .i64 0, .int .i64 0] 88 (0, 0)) := by rw [hb1.block _ (by simp) (by simp; omega)]; exact hnew
  have hg1 := gb_trans hg0 hb1
  clear hnew hg0 h0 hb1 hal
  obtain ⟨c0, c1, f0, f1⟩ := pair_cells hN1
  have HS : Hid (∀ k n : Value, ((w1.setCell ⟨w.heap.size, 0, none⟩ k).setCell ⟨w.heap.size, 1, none⟩ n).heap[w.heap.size]? = some (.cells #[k, n] 88 (0, 0)) ∧ RdAt B0 B a len cap ((w1.setCell ⟨w.heap.size, 0, none⟩ k).setCell ⟨w.heap.size, 1, none⟩ n) ∧ w.grownBy ((w1.setCell ⟨w.heap.size, 0, none⟩ k).setCell ⟨w.heap.size, 1, none⟩ n) (some B)) := pair_set hN1 hr1 hsz (Nat.le_refl _) hg1
  have HR1 : Hid (RdAt B0 B a len cap w1) := hr1
  have HG1 : Hid (w.grownBy w1 (some B)) := hg1
  have HN1 : Hid (w1.heap[w.heap.size]? = some (.cells #[.int .i64 0, .int .i64 0] 88 (0, 0))) := hN1
  clear hr1 hg1 hN1 h
  by_cases x0 : x = 0
  · subst x0
    go_wp2_with fail
    exact bodyPost_ret (v := .agg #[.int .i64 2, .int .i64 0]) (results_cell_row Tryz.results59 _ _ w.heap.size _ _ _ _ rfl (HS.out _ _).1 Tryz.underlying88 rfl Tryz.szTyp) rfl ⟨⟨2, 0, inI_of (by omega) (by omega), inI_of (by omega) (by omega), ⟨rfl, rfl⟩, rfl⟩, (HS.out _ _).2⟩
  have q0 := beqN x0
  by_cases x1 : x = 1
  · subst x1
    go_wp2_with fail
    refine (below_any B0 B a len cap 12 _ HR1.out (by decide) (by decide)).mono ?_
    rintro e w2 ⟨⟨y, hy, rfl⟩, hr2, hb2⟩
    have hN2 : w2.heap[w.heap.size]? = some (.cells #[.int .i64 0, .int .i64 0] 88 (0, 0)) := by rw [hb2.block _ hs1 (by simp; omega)]; exact HN1.out
    clear c0 c1 f0 f1 HS
    obtain ⟨c0, c1, f0, f1⟩ := pair_cells hN2
    have HS : Hid (∀ k n : Value, ((w2.setCell ⟨w.heap.size, 0, none⟩ k).setCell ⟨w.heap.size, 1, none⟩ n).heap[w.heap.size]? = some (.cells #[k, n] 88 (0, 0)) ∧ RdAt B0 B a len cap ((w2.setCell ⟨w.heap.size, 0, none⟩ k).setCell ⟨w.heap.size, 1, none⟩ n) ∧ w.grownBy ((w2.setCell ⟨w.heap.size, 0, none⟩ k).setCell ⟨w.heap.size, 1, none⟩ n) (some B)) := pair_set hN2 hr2 hsz (Nat.le_refl _) (gb_trans HG1.out hb2)
    clear hN2 hr2 hb2
    go_wp2_with fail
    exact bodyPost_ret (v := .agg #[.int .i64 3, .int .i64 ((y : Int))]) (results_cell_row Tryz.results59 _ _ w.heap.size _ _ _ _ rfl (HS.out _ _).1 Tryz.underlying88 rfl Tryz.szTyp) rfl ⟨⟨3, (y : Int), inI_of (by omega) (by omega), inI_of (by omega) (by omega), ⟨by simp [tyOk]; omega, by simp [kids]⟩, rfl⟩, (HS.out _ _).2⟩
  have q1 := beqN x1
  by_cases x2 : x = 2
  · subst x2
    go_wp2_with fail
    refine (below_any B0 B a len cap 12 _ HR1.out (by decide) (by decide)).mono ?_
    rintro e w2 ⟨⟨y, hy, rfl⟩, hr2, hb2⟩
    have hN2 : w2.heap[w.heap.size]? = some (.cells #[.int .i64 0, .int .i64 0] 88 (0, 0)) := by rw [hb2.block _ hs1 (by simp; omega)]; exact HN1.out
    clear c0 c1 f0 f1 HS
    obtain ⟨c0, c1, f0, f1⟩ := pair_cells hN2
    have HS : Hid (∀ k n : Value, ((w2.setCell ⟨w.heap.size, 0, none⟩ k).setCell ⟨w.heap.size, 1, none⟩ n).heap[w.heap.size]? = some (.cells #[k, n] 88 (0, 0)) ∧ RdAt B0 B a len cap ((w2.setCell ⟨w.heap.size, 0, none⟩ k).setCell ⟨w.heap.size, 1, none⟩ n) ∧ w.grownBy ((w2.setCell ⟨w.heap.size, 0, none⟩ k).setCell ⟨w.heap.size, 1, none⟩ n) (some B)) := pair_set hN2 hr2 hsz (Nat.le_refl _) (gb_trans HG1.out hb2)
    clear hN2 hr2 hb2
    go_wp2_with fail
    exact bodyPost_ret (v := .agg #[.int .i64 3, .int .i64 ((y : Int))]) (results_cell_row Tryz.results59 _ _ w.heap.size _ _ _ _ rfl (HS.out _ _).1 Tryz.underlying88 rfl Tryz.szTyp) rfl ⟨⟨3, (y : Int), inI_of (by omega) (by omega), inI_of (by omega) (by omega), ⟨by simp [tyOk]; omega, by simp [kids]⟩, rfl⟩, (HS.out _ _).2⟩
  have q2 := beqN x2
  by_cases x3 : x = 3
  · subst x3
    go_wp2_with fail
    refine (below_any B0 B a len cap 5 _ HR1.out (by decide) (by decide)).mono ?_
    rintro e w2 ⟨⟨y, hy, rfl⟩, hr2, hb2⟩
    have hN2 : w2.heap[w.heap.size]? = some (.cells #[.int .i64 0, .int .i64 0] 88 (0, 0)) := by rw [hb2.block _ hs1 (by simp; omega)]; exact HN1.out
    clear c0 c1 f0 f1 HS
    obtain ⟨c0, c1, f0, f1⟩ := pair_cells hN2
    have HS : Hid (∀ k n : Value, ((w2.setCell ⟨w.heap.size, 0, none⟩ k).setCell ⟨w.heap.size, 1, none⟩ n).heap[w.heap.size]? = some (.cells #[k, n] 88 (0, 0)) ∧ RdAt B0 B a len cap ((w2.setCell ⟨w.heap.size, 0, none⟩ k).setCell ⟨w.heap.size, 1, none⟩ n) ∧ w.grownBy ((w2.setCell ⟨w.heap.size, 0, none⟩ k).setCell ⟨w.heap.size, 1, none⟩ n) (some B)) := pair_set hN2 hr2 hsz (Nat.le_refl _) (gb_trans HG1.out hb2)
    clear hN2 hr2 hb2
    go_wp2_with fail
    exact bodyPost_ret (v := .agg #[.int .i64 4, .int .i64 (1 + (y : Int))]) (results_cell_row Tryz.results59 _ _ w.heap.size _ _ _ _ rfl (HS.out _ _).1 Tryz.underlying88 rfl Tryz.szTyp) rfl ⟨⟨4, 1 + (y : Int), inI_of (by omega) (by omega), inI_of (by omega) (by omega), ⟨by simp [tyOk]; omega, by simp [kids]⟩, rfl⟩, (HS.out _ _).2⟩
  · have q3 := beqN x3
    have hal : Below w1.heap.size w1 (w1.alloc (.cells #[.int .i64 8, .int .i64 16, .int .i64 32, .int .i64 64] 2)) := bel1 _ _
    go_wp2_with fail
    refine (below_any B0 B a len cap 4 _ (HR1.out.full hal) (by decide) (by decide)).mono ?_
    rintro e w2 ⟨⟨y, hy, rfl⟩, hr2, hb2⟩
    have hN2 : w2.heap[w.heap.size]? = some (.cells #[.int .i64 0, .int .i64 0] 88 (0, 0)) := by rw [hb2.block _ (by simp; omega) (by simp; omega)]; exact (Below.heap_alloc _ _ _ hs1).trans HN1.out
    clear c0 c1 f0 f1 HS
    obtain ⟨c0, c1, f0, f1⟩ := pair_cells hN2
    have HS : Hid (∀ k n : Value, ((w2.setCell ⟨w.heap.size, 0, none⟩ k).setCell ⟨w.heap.size, 1, none⟩ n).heap[w.heap.size]? = some (.cells #[k, n] 88 (0, 0)) ∧ RdAt B0 B a len cap ((w2.setCell ⟨w.heap.size, 0, none⟩ k).setCell ⟨w.heap.size, 1, none⟩ n) ∧ w.grownBy ((w2.setCell ⟨w.heap.size, 0, none⟩ k).setCell ⟨w.heap.size, 1, none⟩ n) (some B)) := pair_set hN2 hr2 hsz (Nat.le_refl _) (gb_trans (gb_trans HG1.out (gb_full hal _)) hb2)
    have hcell : ∃ v : Int, 0 ≤ v ∧ v ≤ 64 ∧ (v = 8 ∨ v = 16 ∨ v = 32 ∨ v = 64) ∧ w2.cell? ⟨w1.heap.size, y, none⟩ = some (.int .i64 v) := by
      rw [gb_cell hb2 (p := ⟨w1.heap.size, y, none⟩) (by simp) (by simp; omega), World.cell?_alloc_new]
      match y, hy with
      | 0, _ => exact ⟨8, by omega, by omega, by omega, rfl⟩
      | 1, _ => exact ⟨16, by omega, by omega, by omega, rfl⟩
      | 2, _ => exact ⟨32, by omega, by omega, by omega, rfl⟩
      | 3, _ => exact ⟨64, by omega, by omega, by omega, rfl⟩
      | y + 4, h => exact absurd h (by omega)
    obtain ⟨v, hv0, hv1, hv8, hcv⟩ := hcell
    have HV8 : Hid (tyOk 1 v = true) := by show _ = _; simp [tyOk]; omega
    clear hv8
    clear hN2 hr2 hb2 hal
    go_wp2_with fail
    exact bodyPost_ret (v := .agg #[.int .i64 1, .int .i64 (v)]) (results_cell_row Tryz.results59 _ _ w.heap.size _ _ _ _ rfl (HS.out _ _).1 Tryz.underlying88 rfl Tryz.szTyp) rfl ⟨⟨1, v, inI_of (by omega) (by omega), inI_of (by omega) (by omega), ⟨HV8.out, by simp [kids]⟩, rfl⟩, (HS.out _ _).2⟩
end Go.Proofs.YtdncnjmlicdamaaGreatDoor
namespace Go.Proofs.YtdncnjmlicdamaaGreatDoor
open Go.RowKit
set_option linter.unusedVariables false
def Lb : Nat → Nat
  | 0 => 1
  | d + 1 => 1 + 3 * Lb d
/-- All of it is one type that lies no deeper than so. -/
def wfG (d : Nat) (ts : List (Int × Int)) : Prop := wfT ts ∧ en ts (d + 1) 0 = some ts.length
/-- A type's first j parts are there. -/
def wfJ (d : Nat) (k n : Int) (j : Nat) (ts : List (Int × Int)) : Prop := wfT ts ∧ ts[0]? = some (k, n) ∧ iter (en ts (d + 1)) 1 j = some ts.length
theorem flat_good {k n : Int} (h : tyOk k n = true ∧ kids k n = 0) (d : Nat) : en [(k, n)] (d + 1) 0 = some 1 := by
  rw [en_ok (ts := [(k, n)]) (by simp) (by simpa using h.1)]
  simp [h.2, iter]
theorem en_pre {ts l : List (Int × Int)} {f a e : Nat} (h : en ts f a = some e) : en (ts ++ l) f a = some e := by
  have h1 := (en_lt h).2
  have := (en_move (ts := ts) (ts' := ts ++ l) (s := 0) (s' := 0) (f := f) (a := a) (e := e) (by simpa using h) (fun i _ hi => by rw [Nat.add_zero, List.getElem?_append_left (by omega)])).1
  simpa using this
theorem en_post {ts l : List (Int × Int)} {f e : Nat} (h : en l f 0 = some e) : en (ts ++ l) f ts.length = some (ts.length + e) := by
  have := (en_move (ts := l) (ts' := ts ++ l) (s := 0) (s' := ts.length) (f := f) (a := 0) (e := e) (by simpa using h) (fun i _ hi => by rw [List.getElem?_append_right (by omega)]; simp)).1
  rw [Nat.zero_add] at this
  rw [this, Nat.add_comm]
theorem wfJ.next {d j : Nat} {k n : Int} {ts l : List (Int × Int)} (h : wfJ d k n j ts) (hl : wfG d l) : wfJ d k n (j + 1) (ts ++ l) := by
  obtain ⟨h1, h2, h3⟩ := h
  refine ⟨wfT_app h1 hl.1, ?_, ?_⟩
  · rw [List.getElem?_append_left (by
      rcases Nat.eq_zero_or_pos ts.length with h0 | h0
      · rw [List.eq_nil_of_length_eq_zero h0] at h2; cases h2
      · exact h0)]
    exact h2
  · rw [iter_succ, iter_mono (g' := en (ts ++ l) (d + 1)) (fun a e h => en_pre h) h3]
    show en (ts ++ l) (d + 1) ts.length = _
    rw [en_post hl.2, List.length_append]
theorem wfJ.done {d j : Nat} {k n : Int} {ts : List (Int × Int)} (h : wfJ d k n j ts) (hok : tyOk k n = true) (hk : kids k n = j) : wfG (d + 1) ts := by
  obtain ⟨h1, h2, h3⟩ := h
  have h0 : 0 < ts.length := by
    rcases Nat.eq_zero_or_pos ts.length with h0 | h0
    · rw [List.eq_nil_of_length_eq_zero h0] at h2; cases h2
    · exact h0
  have e0 : ts[0] = (k, n) := by rw [List.getElem?_eq_getElem h0] at h2; exact Option.some.inj h2
  refine ⟨h1, ?_⟩
  rw [en_ok h0 (by rw [e0]; exact hok), e0]
  show iter _ 1 (kids k n) = _
  rw [hk]; exact h3
/-- What typ leaves. -/
def TypPost (B0 B : Nat) (a : Option Addr) (len cap : Nat) (d : Nat) (w : World) (e : Ending) (w' : World) : Prop :=
  (∃ v ts, e = .returned v ∧ w'.ownsRow w.heap.size 88 2 v ts.length (flatT ts) ∧ 0 < ts.length ∧ ts.length ≤ Lb d ∧ wfG d ts) ∧ RdAt B0 B a len cap w' ∧ w.grownBy w' (some B)
/-- A slice of one type of one's own. -/
theorem own_one (w : World) (k n : Int) (hk : inI k) (hn : inI n) : (w.alloc (.cells #[.int .i64 k, .int .i64 n] 88)).ownsRow w.heap.size 88 2 (.slice (some ⟨w.heap.size, 0, none⟩) 1 1) 1 (flatT [(k, n)]) ∧ wfT [(k, n)] :=
  ⟨World.ownsRow_lit w #[.int .i64 k, .int .i64 n] 1 (Nat.le_refl _) (by decide) rfl, fun t ht => by simp at ht; subst ht; exact ⟨hk, hn⟩⟩
theorem own_base {w : World} {b b' e size : Nat} {v : Value} {n : Nat} {xs : List Value} (h : w.ownsRow b e size v n xs) (hb : b' ≤ b) : w.ownsRow b' e size v n xs := by
  refine ⟨h.1, ?_⟩
  rcases h.2 with h2 | ⟨g, cap, cur, hv, hg, r⟩
  · exact .inl h2
  · exact .inr ⟨g, cap, cur, hv, by omega, r⟩
theorem Tryz.infoTyp2 : (Tryz.prog.info? 88).map (fun i => (i.zero, i.size, i.bytes)) = some (some (.agg #[.int .i64 0, .int .i64 0]), 2, 16) := by kernel_rfl
theorem own_ne2 {w : World} {base e size : Nat} {v : Value} {n : Nat} {xs : List Value} {B : Nat} (h : w.ownsRow base e size v n xs) (hB : B < base) : v.ownBlock = none ∨ v.ownBlock ≠ some B := by
  cases hv : v.ownBlock with
  | none => exact .inl rfl
  | some k => exact .inr (fun e => by cases e; have := (h.lt B hv).1; omega)
/-- Where the draw of a type stands once its own type is known: in block N. -/
def TyAt (B0 B : Nat) (a : Option Addr) (len cap N : Nat) (w wz : World) : Prop :=
  ∃ k n : Int, tyOk k n = true ∧ kids k n ≤ 3 ∧ 0 ≤ k ∧ k ≤ 9 ∧ 0 ≤ n ∧ n ≤ 64 ∧ wz.heap[N]? = some (.cells #[.int .i64 k, .int .i64 n] 88 (0, 0)) ∧ RdAt B0 B a len cap wz ∧ w.grownBy wz (some B)
theorem TyAt.set {B0 B : Nat} {a : Option Addr} {len cap N : Nat} {w wz wz' : World} (hB : B < N) (hw : w.heap.size ≤ N) (h : TyAt B0 B a len cap N w wz) (hr : RdAt B0 B a len cap wz') (hg : wz.grownBy wz' (some B)) (k n : Int) (h1 : tyOk k n = true) (h2 : kids k n ≤ 3) (h3 : 0 ≤ k) (h4 : k ≤ 9) (h5 : 0 ≤ n) (h6 : n ≤ 64) :
    TyAt B0 B a len cap N w ((wz'.setCell ⟨N, 0, none⟩ (.int .i64 k)).setCell ⟨N, 1, none⟩ (.int .i64 n)) := by
  obtain ⟨k0, n0, _, _, _, _, _, _, hN, _, hgw⟩ := h
  have hN' : wz'.heap[N]? = some (.cells #[.int .i64 k0, .int .i64 n0] 88 (0, 0)) := by rw [hg.block N (blk_lt hN) (by simp; omega)]; exact hN
  have hp := pair_set hN' hr hB hw (gb_trans hgw hg) (.int .i64 k) (.int .i64 n)
  exact ⟨k, n, h1, h2, h3, h4, h5, h6, hp⟩
theorem TyAt.cells {B0 B : Nat} {a : Option Addr} {len cap N : Nat} {w wz wz' : World} (hB : B < N) (h : TyAt B0 B a len cap N w wz) (hg : wz.grownBy wz' (some B)) : ∃ k n : Int, wz'.cell? ⟨N, 0, none⟩ = some (.int .i64 k) ∧ wz'.cell? ⟨N, 1, none⟩ = some (.int .i64 n) ∧ wz'.frozen? ⟨N, 0, none⟩ = false ∧ wz'.frozen? ⟨N, 1, none⟩ = false := by
  obtain ⟨k0, n0, _, _, _, _, _, _, hN, _, hgw⟩ := h
  have hN' : wz'.heap[N]? = some (.cells #[.int .i64 k0, .int .i64 n0] 88 (0, 0)) := by rw [hg.block N (blk_lt hN) (by simp; omega)]; exact hN
  exact ⟨k0, n0, pair_cells hN'⟩
set_option maxRecDepth 100000 in
set_option maxHeartbeats 2000000 in
theorem typ_any (B0 B : Nat) (a : Option Addr) (len cap : Nat) : ∀ (d : Nat) (plain : Bool) (w : World), d ≤ 3 → RdAt B0 B a len cap w → Calls Tryz.prog 40 #[.pointer (some ⟨B, 0, none⟩), .int .i64 d, .bool plain] w fun e w' => TypPost B0 B a len cap d w e w' := by
  intro d
  induction d with
  | zero =>
    intro plain w hd h
    go_enter Tryz.func40, Tryz.ntmps40
    go_wp2_with fail
    refine (flat_any B0 B a len cap _ h).mono ?_
    rintro e w1 ⟨⟨k, n, hk, hn, hf, rfl⟩, hr1, hg1⟩
    have HF : Hid (tyOk k n = true ∧ kids k n = 0) := hf
    clear hf
    go_wp2_with fail
    go_ret
    have ho := own_one w1 k n hk hn
    exact ⟨⟨_, [(k, n)], rfl, own_base ho.1 hg1.size, by simp, by simp [Lb], ho.2, flat_good HF.out 0⟩, hr1.full (bel1 _ _), gb_trans hg1 (gb_alloc _ _ _)⟩
  | succ d ih =>
    intro plain w hd h
    have HI : Hid (∀ (plain : Bool) (w : World), d ≤ 3 → RdAt B0 B a len cap w → Calls Tryz.prog 40 #[.pointer (some ⟨B, 0, none⟩), .int .i64 d, .bool plain] w fun e w' => TypPost B0 B a len cap d w e w') := ih
    clear ih
    have hd0 : (((d + 1 : Nat) : Int) == 0) = false := beqF (by omega)
    go_enter Tryz.func40, Tryz.ntmps40
    go_wp2_with fail
    refine (once_any B0 B a len cap 3 _ h (by decide) (by decide)).mono ?_
    rintro e w1 ⟨⟨b, rfl⟩, hr1, hg1⟩
    have hsz := h.size
    clear h
    cases b
    · go_wp2_with fail
      refine (below_any B0 B a len cap 3 _ hr1 (by decide) (by decide)).mono ?_
      rintro e w2 ⟨⟨x, hx, rfl⟩, hr2, hg2⟩
      have hg12 := gb_trans hg1 hg2
      have hsz2 : B < w2.heap.size := hr2.size
      have hwz : w.heap.size ≤ w2.heap.size := hg12.size
      have HT0 : Hid (TyAt B0 B a len cap w2.heap.size w (w2.alloc (.cells #[.int .i64 7, .int .i64 (1 + (x : Int))] 88))) :=
        ⟨7, 1 + x, by simp [tyOk]; omega, by simp [kids]; omega, by omega, by omega, by omega, by omega, heap_alloc_new w2 _, hr2.full (bel1 _ _), gb_trans hg12 (gb_alloc _ _ _)⟩
      have HR2 : Hid (RdAt B0 B a len cap (w2.alloc (.cells #[.int .i64 7, .int .i64 (1 + (x : Int))] 88))) := hr2.full (bel1 _ _)
      clear hr1 hr2 hg2 hg12 hg1
      go_wp2_with fail
      refine (below_any B0 B a len cap 8 _ HR2.out (by decide) (by decide)).mono ?_
      rintro e w3 ⟨⟨y, hy, rfl⟩, hr3, hg3⟩
      have HT3 : Hid (TyAt B0 B a len cap w2.heap.size w w3) := by
        obtain ⟨k, n, q1, q2, q3, q4, q5, q6, q7, q8, q9⟩ := HT0.out
        exact ⟨k, n, q1, q2, q3, q4, q5, q6, by rw [hg3.block _ (by simp) (by simp; omega)]; exact q7, hr3, gb_trans q9 hg3⟩
      have HR3 : Hid (RdAt B0 B a len cap w3) := hr3
      clear hr3 hg3 HT0 HR2
      go_upto_block 0 with fail
      go_cut [] (fun wz => TyAt B0 B a len cap w2.heap.size w wz)
      case first =>
        by_cases y0 : y = 0
        · subst y0
          go_wp2_with fail
          refine (below_any B0 B a len cap 4 _ HR3.out (by decide) (by decide)).mono ?_
          rintro e w4 ⟨⟨z, hz, rfl⟩, hr4, hg4⟩
          obtain ⟨k0, n0, c0, c1, f0, f1⟩ := HT3.out.cells hsz2 hg4
          have HS : Hid (TyAt B0 B a len cap w2.heap.size w ((w4.setCell ⟨w2.heap.size, 0, none⟩ (.int .i64 5)).setCell ⟨w2.heap.size, 1, none⟩ (.int .i64 (1 + (z : Int))))) := HT3.out.set hsz2 hwz hr4 hg4 5 (1 + z) (by simp [tyOk]; omega) (by simp [kids] <;> omega) (by omega) (by omega) (by omega) (by omega)
          clear hr4 hg4
          go_wp2_with fail
          go_meet
          case rel => exact HS.out
        have q0 := beqN y0
        by_cases y1 : y = 1
        · subst y1
          go_wp2_with fail
          refine (below_any B0 B a len cap 4 _ HR3.out (by decide) (by decide)).mono ?_
          rintro e w4 ⟨⟨z, hz, rfl⟩, hr4, hg4⟩
          obtain ⟨k0, n0, c0, c1, f0, f1⟩ := HT3.out.cells hsz2 hg4
          have HS : Hid (TyAt B0 B a len cap w2.heap.size w ((w4.setCell ⟨w2.heap.size, 0, none⟩ (.int .i64 5)).setCell ⟨w2.heap.size, 1, none⟩ (.int .i64 (1 + (z : Int))))) := HT3.out.set hsz2 hwz hr4 hg4 5 (1 + z) (by simp [tyOk]; omega) (by simp [kids] <;> omega) (by omega) (by omega) (by omega) (by omega)
          clear hr4 hg4
          go_wp2_with fail
          go_meet
          case rel => exact HS.out
        have q1 := beqN y1
        by_cases y2 : y = 2
        · subst y2
          go_wp2_with fail
          refine (below_any B0 B a len cap 3 _ HR3.out (by decide) (by decide)).mono ?_
          rintro e w4 ⟨⟨z, hz, rfl⟩, hr4, hg4⟩
          obtain ⟨k0, n0, c0, c1, f0, f1⟩ := HT3.out.cells hsz2 hg4
          have HS : Hid (TyAt B0 B a len cap w2.heap.size w ((w4.setCell ⟨w2.heap.size, 0, none⟩ (.int .i64 6)).setCell ⟨w2.heap.size, 1, none⟩ (.int .i64 (1 + (z : Int))))) := HT3.out.set hsz2 hwz hr4 hg4 6 (1 + z) (by simp [tyOk]; omega) (by simp [kids] <;> omega) (by omega) (by omega) (by omega) (by omega)
          clear hr4 hg4
          go_wp2_with fail
          go_meet
          case rel => exact HS.out
        have q2 := beqN y2
        by_cases y3 : y = 3
        · subst y3
          obtain ⟨k0, n0, c0, c1, f0, f1⟩ := HT3.out.cells hsz2 (gb_refl _ _)
          have HS : Hid (TyAt B0 B a len cap w2.heap.size w ((w3.setCell ⟨w2.heap.size, 0, none⟩ (.int .i64 8)).setCell ⟨w2.heap.size, 1, none⟩ (.int .i64 0))) := HT3.out.set hsz2 hwz HR3.out (gb_refl _ _) 8 0 (by simp [tyOk]) (by simp [kids]) (by omega) (by omega) (by omega) (by omega)
          go_wp2_with fail
          go_meet
          case rel => exact HS.out
        have q3 := beqN y3
        by_cases y4 : y = 4
        · subst y4
          go_wp2_with fail
          refine (below_any B0 B a len cap 3 _ HR3.out (by decide) (by decide)).mono ?_
          rintro e w4 ⟨⟨z, hz, rfl⟩, hr4, hg4⟩
          obtain ⟨k0, n0, c0, c1, f0, f1⟩ := HT3.out.cells hsz2 hg4
          have HS : Hid (TyAt B0 B a len cap w2.heap.size w ((w4.setCell ⟨w2.heap.size, 0, none⟩ (.int .i64 9)).setCell ⟨w2.heap.size, 1, none⟩ (.int .i64 (1 + (z : Int))))) := HT3.out.set hsz2 hwz hr4 hg4 9 (1 + z) (by simp [tyOk]; omega) (by simp [kids] <;> omega) (by omega) (by omega) (by omega) (by omega)
          clear hr4 hg4
          go_wp2_with fail
          go_meet
          case rel => exact HS.out
        have q4 := beqN y4
        go_wp2_with fail
        go_meet
        case rel => exact HT3.out
      case rest =>
        have HC : Hid (TyAt B0 B a len cap w2.heap.size w wc) := hcut
        clear hcut HT3 HR3
        go_upto_region 14 with fail
        go_cut [52] (fun c wz => (∃ b, c = .bool b) ∧ TyAt B0 B a len cap w2.heap.size w wz)
        case first =>
          obtain ⟨k0, n0, c0, c1, f0, f1⟩ := HC.out.cells hsz2 (gb_refl _ _)
          cases plain
          · go_wp2_with fail
            go_meet
            case rel => exact ⟨⟨_, rfl⟩, HC.out⟩
          · go_wp2_with fail
            go_meet
            case rel => exact ⟨⟨_, rfl⟩, HC.out⟩
        case rest =>
          clear HC
          obtain ⟨⟨b, rfl⟩, hT⟩ := hcut
          have HC : Hid (TyAt B0 B a len cap w2.heap.size w wc) := hT
          clear hT
          go_upto_if 52 with fail
          go_cut [] (fun wz => TyAt B0 B a len cap w2.heap.size w wz)
          case first =>
            cases b
            · go_wp2_with fail
              go_meet
              case rel => exact HC.out
            · have HR3 : Hid (RdAt B0 B a len cap wc) := by obtain ⟨_, _, _, _, _, _, _, _, _, hr, _⟩ := HC.out; exact hr
              go_wp2_with fail
              refine (below_any B0 B a len cap 3 _ HR3.out (by decide) (by decide)).mono ?_
              rintro e w4 ⟨⟨z, hz, rfl⟩, hr4, hg4⟩
              obtain ⟨k0, n0, c0, c1, f0, f1⟩ := HC.out.cells hsz2 hg4
              have HS : Hid (TyAt B0 B a len cap w2.heap.size w ((w4.setCell ⟨w2.heap.size, 0, none⟩ (.int .i64 7)).setCell ⟨w2.heap.size, 1, none⟩ (.int .i64 (1 + (z : Int))))) := HC.out.set hsz2 hwz hr4 hg4 7 (1 + z) (by simp [tyOk]; omega) (by simp [kids] <;> omega) (by omega) (by omega) (by omega) (by omega)
              clear hr4 hg4
              go_wp2_with fail
              go_meet
              case rel => exact HS.out
          case rest =>
            clear HC
            obtain ⟨k, n, hok, hkd, hk0, hk9, hn0, hn64, hN, hrc, hgc⟩ := hcut
            have HN : Hid (_ = some (Obj.cells #[.int .i64 k, .int .i64 n] 88 (0, 0))) := hN
            obtain ⟨c0, c1, f0, f1⟩ := pair_cells hN
            have hNc : w2.heap.size < wc.heap.size := blk_lt hN
            clear hN
            obtain ⟨K, hK⟩ : ∃ K, kids k n = K := ⟨_, rfl⟩
            have HK : Hid (kids k n = K) := hK
            have HOK : Hid (tyOk k n = true) := hok
            rw [hK] at hkd
            clear hK
            have ho := own_one wc k n (inI_of hk0 (by omega)) (inI_of hn0 (by omega))
            have HO : Hid ((wc.alloc (.cells #[.int .i64 k, .int .i64 n] 88)).ownsRow (w2.heap.size + 1) 88 2 (.slice (some ⟨wc.heap.size, 0, none⟩) 1 1) 1 (flatT [(k, n)]) ∧ wfT [(k, n)]) := ⟨own_base ho.1 (by omega), ho.2⟩
            have HRc : Hid (RdAt B0 B a len cap (wc.alloc (.cells #[.int .i64 k, .int .i64 n] 88)) ∧ w.grownBy (wc.alloc (.cells #[.int .i64 k, .int .i64 n] 88)) (some B)) := ⟨hrc.full (bel1 _ _), gb_trans hgc (gb_alloc _ _ _)⟩
            have HNc : Hid ((wc.alloc (.cells #[.int .i64 k, .int .i64 n] 88)).heap[w2.heap.size]? = some (Obj.cells #[.int .i64 k, .int .i64 n] 88 (0, 0))) := by show _ = _; rw [Below.heap_alloc _ _ _ hNc]; exact HN.out
            obtain ⟨i0, hi, hz0, hz1, hz2⟩ := info_parts Tryz.infoTyp2
            obtain ⟨lb, hlb⟩ : ∃ m, Lb d = m := ⟨_, rfl⟩
            have hlb1 : 1 ≤ lb := by rw [← hlb]; cases d <;> simp [Lb]
            have hlb40 : lb ≤ 13 := by
              rw [← hlb]
              match d, hd with
              | 0, _ => simp [Lb]
              | 1, _ => simp [Lb]
              | 2, _ => simp [Lb]
            have HLB : Hid (Lb d = lb) := hlb
            clear ho hrc hgc HN hlb
            go_wp2_with fail
            go_loopg [8, 9] K (fun gk v i wr => ∃ (j : Nat) (ts : List (Int × Int)), j + gk = K ∧ i = .int .i64 j ∧ wr.ownsRow (w2.heap.size + 1) 88 2 v ts.length (flatT ts) ∧ 0 < ts.length ∧ ts.length ≤ 1 + j * lb ∧ wfJ d k n j ts ∧ RdAt B0 B a len cap wr ∧ w.grownBy wr (some B) ∧ wr.heap[w2.heap.size]? = some (Obj.cells #[.int .i64 k, .int .i64 n] 88 (0, 0)))
            case atStart => exact ⟨0, [(k, n)], by omega, rfl, HO.out.1, by simp, by simp, ⟨HO.out.2, rfl, rfl⟩, HRc.out.1, HRc.out.2, HNc.out⟩
            case round =>
              clear c0 c1 f0 f1
              obtain ⟨j, ts, hj', rfl, hown, hlen, hlen2, hwf, hr, hg, hN⟩ := hrel
              have HJ : Hid (j + gk = K) := hj'
              have hj : j ≤ K := by omega
              clear hj'
              have HN : Hid (wr.heap[w2.heap.size]? = some (Obj.cells #[.int .i64 k, .int .i64 n] 88 (0, 0))) := hN
              obtain ⟨c0, c1, _, _⟩ := pair_cells hN
              have HO1 : Hid (wr.ownsRow (w2.heap.size + 1) 88 2 u8 ts.length (flatT ts)) := hown
              have HW : Hid (wfJ d k n j ts) := hwf
              have HR : Hid (RdAt B0 B a len cap wr) := hr
              have HG : Hid (w.grownBy wr (some B)) := hg
              have hNr : w2.heap.size < wr.heap.size := blk_lt hN
              clear hN hown hwf hr hg
              go_wp2_with fail
              refine (l2Kids_any _ _ _ (by assumption)).mono ?_
              rintro e w5 ⟨rfl, hb5⟩
              rw [HK.out]
              have HO5 : Hid (w5.ownsRow (w2.heap.size + 1) 88 2 u8 ts.length (flatT ts)) := HO1.out.kept (gb_full hb5 none) (by cases u8.ownBlock <;> simp)
              have HR5 : Hid (RdAt B0 B a len cap w5) := HR.out.full hb5
              have HG5 : Hid (w.grownBy w5 (some B)) := gb_trans HG.out (gb_full hb5 _)
              have HN5 : Hid (w5.heap[w2.heap.size]? = some (Obj.cells #[.int .i64 k, .int .i64 n] 88 (0, 0))) := (hb5.block _ hNr).trans HN.out
              have hN5 : w2.heap.size < w5.heap.size := blk_lt HN5.out
              clear hb5 c0 c1
              by_cases hjk : j < K
              · go_wp2_with fail
                refine (HI.out plain w5 (by omega) HR5.out).mono ?_
                rintro e w6 ⟨⟨v6, ts6, rfl, hown6, hl6, hl6', hwf6⟩, hr6, hg6⟩
                rw [HLB.out] at hl6'
                obtain ⟨g6, cap6, rfl, hg6b, hg6l⟩ := hown6.form hl6
                have HO6 : Hid (w6.ownsRow (w2.heap.size + 1) 88 2 u8 ts.length (flatT ts)) := HO5.out.kept hg6 (own_ne2 HO5.out (by omega))
                have HC6 : Hid (w6.ownsRow w5.heap.size 88 2 (.slice (some ⟨g6, 0, none⟩) ts6.length cap6) ts6.length (flatT ts6)) := hown6
                have HR6 : Hid (RdAt B0 B a len cap w6 ∧ w.grownBy w6 (some B)) := ⟨hr6, gb_trans HG5.out hg6⟩
                have HN6 : Hid (w6.heap[w2.heap.size]? = some (Obj.cells #[.int .i64 k, .int .i64 n] 88 (0, 0))) := (hg6.block _ hN5 (by simp; omega)).trans HN5.out
                have HW6 : Hid (wfG d ts6) := hwf6
                have h6s : w2.heap.size < w6.heap.size := blk_lt HN6.out
                have hjl : j * lb ≤ 3 * 13 := Nat.mul_le_mul (by omega) hlb40
                have hlenA : ts.length + ts6.length ≤ 1000 := by omega
                have hjl2 : ts.length + ts6.length ≤ 1 + (j + 1) * lb := by rw [Nat.add_mul]; omega
                clear hown6 hr6 hg6 hwf6 HO1 HO5 HR HR5 HG HG5 HN HN5
                go_wp2_with (at_builtin; refine wpList_append_lies _ rfl _ _ 24 rfl (w2.heap.size + 1) 88 i0 (.agg #[.int .i64 0, .int .i64 0]) 2 16 Tryz.underlying24 hi hz0 hz1 hz2 rfl (by decide) u8 ts.length (flatT ts) rfl HO6.out ⟨g6, 0, none⟩ ts6.length cap6 (flatT ts6) rfl (flatT_len ts6) (fun j u hu => HC6.out.cells (g := g6) rfl j u hu) (fun u hu => by obtain ⟨z, rfl⟩ := flatT_int ts6 u hu; rfl) hl6 (by unfold maxLen; omega) (by omega) (by omega) _ rfl ?_)
                intro g7 cap7 w7 hown7 hgrow hat hlt7
                have R1 : w.grownBy w7 (some B) := gb_app HR6.out.2 hgrow (fun q hq => by have := HO6.out.lt q hq; omega)
                have R2 : RdAt B0 B a len cap w7 := HR6.out.1.app hgrow (fun q hq => by have := HO6.out.lt q hq; omega)
                have R3 : w7.heap[w2.heap.size]? = some (Obj.cells #[.int .i64 k, .int .i64 n] 88 (0, 0)) := by rw [hgrow.block _ h6s (fun e => by have := HO6.out.lt _ e.symm; omega)]; exact HN6.out
                have R4 : w7.ownsRow (w2.heap.size + 1) 88 2 (.slice (some ⟨g7, 0, none⟩) (ts.length + ts6.length) cap7) (ts ++ ts6).length (flatT (ts ++ ts6)) := by rw [flatT_app, List.length_append]; exact hown7
                have HX : Hid ((w7.ownsRow (w2.heap.size + 1) 88 2 (.slice (some ⟨g7, 0, none⟩) (ts.length + ts6.length) cap7) (ts ++ ts6).length (flatT (ts ++ ts6))) ∧ wfJ d k n (j + 1) (ts ++ ts6) ∧ RdAt B0 B a len cap w7 ∧ w.grownBy w7 (some B) ∧ w7.heap[w2.heap.size]? = some (Obj.cells #[.int .i64 k, .int .i64 n] 88 (0, 0))) := ⟨R4, HW.out.next HW6.out, R2, R1, R3⟩
                clear R1 R2 R3 R4 hown7 hgrow hat hlt7
                go_wp2_with fail
                go_roundg (gk - 1)
                case rel => exact ⟨j + 1, ts ++ ts6, by have := HJ.out; omega, by go_num, HX.out.1, by simp; omega, by simp; omega, HX.out.2⟩
                case measure => have := HJ.out; omega
              · have HFG : Hid (wfG (d + 1) ts) := HW.out.done HOK.out (by rw [HK.out]; omega)
                have hfin : ts.length ≤ Lb (d + 1) := by
                  have e1 : j = K := by omega
                  have e2 : j * lb ≤ 3 * lb := Nat.mul_le_mul_right _ (by omega)
                  simp only [Lb]; rw [HLB.out]; omega
                go_wp2_with fail
                go_ret
                exact ⟨⟨_, ts, rfl, own_base HO5.out (by omega), hlen, hfin, HFG.out⟩, HR5.out, HG5.out⟩
    · go_wp2_with fail
      refine (flat_any B0 B a len cap _ hr1).mono ?_
      rintro e w2 ⟨⟨k, n, hk, hn, hf, rfl⟩, hr2, hg2⟩
      have HF : Hid (tyOk k n = true ∧ kids k n = 0) := hf
      clear hf
      go_wp2_with fail
      go_ret
      have ho := own_one w2 k n hk hn
      have hg := gb_trans hg1 hg2
      exact ⟨⟨_, [(k, n)], rfl, own_base ho.1 hg.size, by simp, by simp [Lb], ho.2, flat_good HF.out (d + 1)⟩, hr2.full (bel1 _ _), gb_trans hg (gb_alloc _ _ _)⟩
end Go.Proofs.YtdncnjmlicdamaaGreatDoor
namespace Go.Proofs.YtdncnjmlicdamaaGreatDoor
open Go.RowKit
set_option linter.unusedVariables false
/-- What schema leaves. -/
def SchPost (B0 B : Nat) (a : Option Addr) (len cap : Nat) (w : World) (e : Ending) (w' : World) : Prop :=
  (∃ v ts, e = .returned v ∧ w'.ownsRow w.heap.size 88 2 v ts.length (flatT ts) ∧ 0 < ts.length ∧ ts.length ≤ 24 ∧ wfT ts ∧ schOk ts = true) ∧ RdAt B0 B a len cap w' ∧ w.grownBy w' (some B)
set_option maxHeartbeats 1000000 in
theorem schema_any (B0 B : Nat) (a : Option Addr) (len cap : Nat) (w : World) (h : RdAt B0 B a len cap w) : Calls Tryz.prog 23 #[.pointer (some ⟨B, 0, none⟩)] w fun e w' => SchPost B0 B a len cap w e w' := by
  go_enter Tryz.func23, Tryz.ntmps23
  go_wp2_with fail
  refine (below_any B0 B a len cap 3 _ h (by decide) (by decide)).mono ?_
  rintro e w1 ⟨⟨x, hx, rfl⟩, hr1, hg1⟩
  clear h
  go_wp2_with fail
  refine (once_any B0 B a len cap 3 _ hr1 (by decide) (by decide)).mono ?_
  rintro e w2 ⟨⟨b, rfl⟩, hr2, hg2⟩
  have hg12 := gb_trans hg1 hg2
  clear hr1 hg1 hg2
  go_wp2_with fail
  rw [show (1 + (x : Int)) = ((1 + x : Nat) : Int) from by omega]
  refine (typ_any B0 B a len cap (1 + x) b w2 (by omega) hr2).mono ?_
  rintro e w3 ⟨⟨v, ts, rfl, hown, hl, hl', hwf⟩, hr3, hg3⟩
  have HWG : Hid (wfG (1 + x) ts) := hwf
  clear hwf
  have hl40 : ts.length ≤ 40 := by
    have : Lb (1 + x) ≤ 40 := by
      match x, hx with
      | 0, _ => simp [Lb]
      | 1, _ => simp [Lb]
      | 2, _ => simp [Lb]
    omega
  have hg := gb_trans hg12 hg3
  have hown' := own_base hown (show w.heap.size ≤ w2.heap.size from hg12.size)
  obtain ⟨g, c, rfl, _, _⟩ := hown.form hl
  clear hr2 hg12 hg3 hown hl'
  by_cases h24 : 24 < ts.length
  · have hd : decide ((24 : Int) < ts.length) = true := by simp; omega
    have ho : (w3.alloc (.cells #[.int .i64 5, .int .i64 3, .int .i64 8, .int .i64 0, .int .i64 1, .int .i64 16] 88)).ownsRow w3.heap.size 88 2 (.slice (some ⟨w3.heap.size, 0, none⟩) 3 3) 3 (flatT [(5, 3), (8, 0), (1, 16)]) :=
      World.ownsRow_lit w3 #[.int .i64 5, .int .i64 3, .int .i64 8, .int .i64 0, .int .i64 1, .int .i64 16] 3 (Nat.le_refl _) (by decide) rfl
    go_wp2_with fail
    go_ret
    refine ⟨⟨_, [(5, 3), (8, 0), (1, 16)], rfl, own_base ho hg.size, by simp, by simp, fun t ht => ?_, rfl⟩, hr3.full (bel1 _ _), gb_trans hg (gb_alloc _ _ _)⟩
    simp at ht
    rcases ht with rfl | rfl | rfl <;> exact ⟨inI_of (by omega) (by omega), inI_of (by omega) (by omega)⟩
  · have hd : decide ((24 : Int) < ts.length) = false := by simp; omega
    go_wp2_with fail
    go_ret
    exact ⟨⟨_, ts, rfl, hown', hl, by omega, HWG.out.1, schOk_iff.2 ⟨by omega, en_mono (by omega) HWG.out.2⟩⟩, hr3, hg⟩
end Go.Proofs.YtdncnjmlicdamaaGreatDoor
namespace Go.Proofs.YtdncnjmlicdamaaGreatDoor
open Go.RowKit
set_option linter.unusedVariables false
/-- But for the reader's block and one's own all that was there is as it was. -/
def Kx (B : Nat) (G : Option Nat) (w w' : World) : Prop := w'.os = w.os ∧ w'.tape = w.tape ∧ w'.output = w.output ∧ w.heap.size ≤ w'.heap.size ∧ ∀ q, q < w.heap.size → q ≠ B → some q ≠ G → w'.heap[q]? = w.heap[q]?
theorem Kx.of_gb {B : Nat} {G : Option Nat} {w w' : World} (h : w.grownBy w' (some B)) : Kx B G w w' := ⟨h.os, h.tape, h.output, h.size, fun q hq hB _ => h.block q hq (fun e => hB (Option.some.inj e))⟩
theorem Kx.gb {B : Nat} {G : Option Nat} {w w1 w2 : World} (h : Kx B G w w1) (h' : w1.grownBy w2 (some B)) : Kx B G w w2 := ⟨h'.os.trans h.1, h'.tape.trans h.2.1, h'.output.trans h.2.2.1, Nat.le_trans h.2.2.2.1 h'.size, fun q hq hB hG => by rw [h'.block q (Nat.lt_of_lt_of_le hq h.2.2.2.1) (fun e => hB (Option.some.inj e))]; exact h.2.2.2.2 q hq hB hG⟩
theorem Kx.alloc {B : Nat} {G : Option Nat} {w w1 : World} (h : Kx B G w w1) (o : Obj) : Kx B G w (w1.alloc o) := h.gb (gb_alloc _ _ _)
theorem Kx.set {B g i : Nat} {u : Value} {w w1 : World} {G : Option Nat} (h : Kx B G w w1) (hG : G = some g) : Kx B G w (w1.setCell ⟨g, i, none⟩ u) := ⟨h.1, h.2.1, h.2.2.1, by simpa using h.2.2.2.1, fun q hq hB hne => by rw [Below.heap_setCell _ _ _ _ (fun e => hne (by rw [hG, e]))]; exact h.2.2.2.2 q hq hB hne⟩
theorem Kx.own {B : Nat} {G G' : Option Nat} {w w1 w2 : World} (h : Kx B G w w1) (h' : w1.grownBy w2 G') (hG : ∀ q, G' = some q → G = some q ∨ w.heap.size ≤ q) : Kx B G w w2 := ⟨h'.os.trans h.1, h'.tape.trans h.2.1, h'.output.trans h.2.2.1, Nat.le_trans h.2.2.2.1 h'.size, fun q hq hB hne => by
  rw [h'.block q (Nat.lt_of_lt_of_le hq h.2.2.2.1) (fun e => ?_)]
  · exact h.2.2.2.2 q hq hB hne
  · rcases hG q e.symm with h1 | h1
    · exact hne h1.symm
    · omega⟩
theorem Kx.below {B B0 : Nat} {G : Option Nat} {w w' : World} (h : Kx B G w w') (hB : B0 ≤ B) (hs : B0 ≤ w.heap.size) (hG : ∀ g, G = some g → B0 ≤ g) : Below B0 w w' := ⟨h.1, h.2.1, h.2.2.1, h.2.2.2.1, fun q hq => h.2.2.2.2 q (by omega) (by omega) (fun e => by have := hG q e.symm; omega)⟩
/-- What hurtSchema leaves. -/
def HurtPost (B0 B : Nat) (a : Option Addr) (len cap base : Nat) (v0 : Value) (w : World) (e : Ending) (w' : World) : Prop :=
  (∃ v ts, e = .returned v ∧ w'.ownsRow base 88 2 v ts.length (flatT ts) ∧ ts.length ≤ 41 ∧ wfT ts) ∧ RdAt B0 B a len cap w' ∧ Kx B v0.ownBlock w w'
theorem own_cut {w : World} {base : Nat} {g n cap : Nat} {ts : List (Int × Int)} (h : w.ownsRow base 88 2 (.slice (some ⟨g, 0, none⟩) ts.length cap) ts.length (flatT ts)) (hn : n ≤ ts.length) : w.ownsRow base 88 2 (.slice (some ⟨g, 0, none⟩) n cap) n (flatT (ts.take n)) := by
  rcases h.2 with ⟨h', _⟩ | ⟨g', cap', cur, h', hb, hg, h1, h2, h3, h4⟩
  · cases h'
  · simp only [Value.slice.injEq, Option.some.injEq, Addr.mk.injEq, and_true, true_and] at h'
    obtain ⟨rfl, rfl⟩ := h'
    refine ⟨by rw [flatT_len]; simp; omega, .inr ⟨g, cap, cur, rfl, hb, hg, by omega, h2, h3, ?_⟩⟩
    have e : flatT ts = flatT (ts.take n) ++ flatT (ts.drop n) := by rw [← flatT_app, List.take_append_drop]
    have hl : (flatT (ts.take n)).length = n * 2 := by rw [flatT_len]; simp; omega
    have e2 : cur.toList.take (n * 2) = (cur.toList.take (ts.length * 2)).take (n * 2) := by rw [List.take_take, Nat.min_eq_left (by omega)]
    rw [e2, h4, e, ← hl, List.take_left']
    rfl
theorem wfT_take {ts : List (Int × Int)} (h : wfT ts) (n : Nat) : wfT (ts.take n) := fun t ht => h t (List.mem_of_mem_take ht)
set_option maxRecDepth 100000 in
set_option maxHeartbeats 2000000 in
theorem hurtSchema_any (B0 B : Nat) (a : Option Addr) (len cap base : Nat) (v : Value) (ts : List (Int × Int)) (w : World) (h : RdAt B0 B a len cap w) (hB : B < base) (hbw : base ≤ w.heap.size) (hown : w.ownsRow base 88 2 v ts.length (flatT ts)) (hl : 0 < ts.length) (hl' : ts.length ≤ 24) (hwf : wfT ts) :
    Calls Tryz.prog 31 #[.pointer (some ⟨B, 0, none⟩), v] w fun e w' => HurtPost B0 B a len cap base v w e w' := by
  obtain ⟨i0, hi, hz0, hz1, hz2⟩ := info_parts Tryz.infoTyp2
  obtain ⟨g, c, rfl, hgb, hgl⟩ := hown.form hl
  have hsz := h.size
  have hcm : ts.length ≤ c ∧ c ≤ maxLen := by
    rcases hown.2 with ⟨h', _⟩ | ⟨g', cap', cur, h', _, _, h1, h2, _⟩
    · cases h'
    · simp only [Value.slice.injEq, Option.some.injEq, Addr.mk.injEq, and_true, true_and] at h'
      obtain ⟨rfl, rfl⟩ := h'
      exact ⟨h1, h2⟩
  have hcc := hcm.1
  have hcM := hcm.2
  unfold maxLen at hcM
  clear hcm
  have HW : Hid (wfT ts) := hwf
  have HO : Hid (w.ownsRow base 88 2 (.slice (some ⟨g, 0, none⟩) ts.length c) ts.length (flatT ts)) := hown
  clear hwf hown
  go_enter Tryz.func31, Tryz.ntmps31
  go_wp2_with fail
  refine (below_any B0 B a len cap 20 _ h (by decide) (by decide)).mono ?_
  rintro e w1 ⟨⟨x, hx, rfl⟩, hr1, hg1⟩
  have HO1 : Hid (w1.ownsRow base 88 2 (.slice (some ⟨g, 0, none⟩) ts.length c) ts.length (flatT ts)) := HO.out.kept hg1 (own_ne2 HO.out hB)
  have HR1 : Hid (RdAt B0 B a len cap w1) := hr1
  have HB1 : Hid (Kx B (some g) w w1) := Kx.of_gb hg1
  have hs1 : w.heap.size ≤ w1.heap.size := hg1.size
  clear hr1 hg1 h
  by_cases x0 : x = 0
  · subst x0
    go_wp2_with fail
    refine (off_any B0 B a len cap 0 20 _ HR1.out (by decide) (by decide) (by decide)).mono ?_
    rintro e w2 ⟨⟨z, hz1', hz2', rfl⟩, hr2, hg2⟩
    match ts, hl with
    | (k0, n0) :: rest, _ =>
      have ho2 := HO1.out.kept hg2 (own_ne2 HO1.out hB)
      have c1 : w2.cell? ⟨g, 1, none⟩ = some (.int .i64 n0) := by rw [ho2.cellAt 1 (by simp; omega)]; rfl
      have f1 := ho2.frozenAt 1
      have hst := (ho2.stored 1 (.int .i64 z)).1
      have HX : Hid (HurtPost B0 B a len cap base (.slice (some ⟨g, 0, none⟩) ((k0, n0) :: rest).length c) w (.returned (.slice (some ⟨g, 0, none⟩) ((k0, n0) :: rest).length c)) (w2.setCell ⟨g, 1, none⟩ (.int .i64 z))) :=
        ⟨⟨_, (k0, z) :: rest, rfl, hst, by simp at hl' ⊢; omega, fun t ht => by
          rcases List.mem_cons.1 ht with rfl | ht
          · exact ⟨(HW.out (k0, n0) (by simp)).1, hz1', hz2'⟩
          · exact HW.out t (by simp [ht])⟩, hr2.keep ((Below.refl _ _).setCell (p := ⟨g, 1, none⟩) (by simp; omega) _), (HB1.out.gb hg2).set rfl⟩
      clear ho2 hst hr2 hg2
      go_wp2_with fail
      go_ret
      exact HX.out
  have q0 := beqN x0
  by_cases x1 : x = 1
  · subst x1
    go_wp2_with fail
    refine (off_any B0 B a len cap 1 9 _ HR1.out (by decide) (by decide) (by decide)).mono ?_
    rintro e w2 ⟨⟨z, hz1', hz2', rfl⟩, hr2, hg2⟩
    match ts, hl with
    | (k0, n0) :: rest, _ =>
      have ho2 := HO1.out.kept hg2 (own_ne2 HO1.out hB)
      have c1 : w2.cell? ⟨g, 0, none⟩ = some (.int .i64 k0) := by rw [ho2.cellAt 0 (by simp)]; rfl
      have f1 := ho2.frozenAt 0
      have hst := (ho2.stored 0 (.int .i64 z)).1
      have HX : Hid (HurtPost B0 B a len cap base (.slice (some ⟨g, 0, none⟩) ((k0, n0) :: rest).length c) w (.returned (.slice (some ⟨g, 0, none⟩) ((k0, n0) :: rest).length c)) (w2.setCell ⟨g, 0, none⟩ (.int .i64 z))) :=
        ⟨⟨_, (z, n0) :: rest, rfl, hst, by simp at hl' ⊢; omega, fun t ht => by
          rcases List.mem_cons.1 ht with rfl | ht
          · exact ⟨⟨hz1', hz2'⟩, (HW.out (k0, n0) (by simp)).2⟩
          · exact HW.out t (by simp [ht])⟩, hr2.keep ((Below.refl _ _).setCell (p := ⟨g, 0, none⟩) (by simp; omega) _), (HB1.out.gb hg2).set rfl⟩
      clear ho2 hst hr2 hg2
      go_wp2_with fail
      go_ret
      exact HX.out
  have q1 := beqN x1
  by_cases x2 : x = 2
  · subst x2
    have HC : Hid (w1.ownsRow base 88 2 (.slice (some ⟨g, 0, none⟩) (ts.length - 1) c) (ts.length - 1) (flatT (ts.take (ts.length - 1)))) := own_cut HO1.out (by omega)
    have hlt : (ts.take (ts.length - 1)).length = ts.length - 1 := by simp
    have HL : Hid ((ts.take (ts.length - 1)).length = ts.length - 1) := hlt
    have h1c : (1 : Int) ≤ (ts.length : Int) := by omega
    clear hlt
    go_wp2_with fail
    go_ret
    exact ⟨⟨_, ts.take (ts.length - 1), rfl, by rw [HL.out]; exact HC.out, by rw [HL.out]; omega, wfT_take HW.out _⟩, HR1.out, HB1.out⟩
  have q2 := beqN x2
  by_cases x3 : x = 3
  · subst x3
    go_wp2_with (at_builtin; refine wpList_append_lies _ rfl _ _ 24 rfl base 88 i0 (.agg #[.int .i64 0, .int .i64 0]) 2 16 Tryz.underlying24 hi hz0 hz1 hz2 rfl (by decide) _ ts.length (flatT ts) rfl (HO1.out.alloc _) ⟨w1.heap.size, 0, none⟩ 1 1 (flatT [(2, 0)]) rfl rfl ?c1 ?c2 (by omega) ?c3 ?c4 ?c5 (w1.heap.size + 1) (by simp) ?_)
    case c1 => exact World.news_of_block (heap_alloc_new w1 _)
    case c2 => intro u hu; obtain ⟨z, rfl⟩ := flatT_int _ u hu; rfl
    case c3 => unfold maxLen; omega
    case c4 => omega
    case c5 => simp; omega
    intro g7 cap7 w7 hown7 hgrow hat hlt7
    have R1 : Kx B (some g) w w7 := (HB1.out.alloc _).own hgrow (fun q hq => .inl hq)
    have R2 : RdAt B0 B a len cap w7 := (HR1.out.full (bel1 _ _)).app hgrow (fun q hq => by have := HO1.out.lt q hq; omega)
    have R4 : w7.ownsRow base 88 2 (.slice (some ⟨g7, 0, none⟩) (ts.length + 1) cap7) (ts ++ [(2, 0)]).length (flatT (ts ++ [(2, 0)])) := by rw [flatT_app, List.length_append]; exact hown7
    have HX : Hid (HurtPost B0 B a len cap base (.slice (some ⟨g, 0, none⟩) ts.length c) w (.returned (.slice (some ⟨g7, 0, none⟩) (ts.length + 1) cap7)) w7) :=
      ⟨⟨_, ts ++ [(2, 0)], rfl, R4, by simp; omega, wfT_app HW.out (fun t ht => by simp at ht; subst ht; exact ⟨inI_of (by omega) (by omega), inI_of (by omega) (by omega)⟩)⟩, R2, R1⟩
    clear R1 R2 R4 hown7 hgrow hat hlt7
    go_wp2_with fail
    go_ret
    exact HX.out
  have q3 := beqN x3
  by_cases x4 : x = 4
  · subst x4
    have hal : Below w1.heap.size w1 (w1.alloc (.cells #[] 88)) := bel1 _ _
    have HR2 : Hid (RdAt B0 B a len cap (w1.alloc (.cells #[] 88))) := HR1.out.full hal
    go_wp2_with fail
    refine (below_any B0 B a len cap 3 _ HR2.out (by decide) (by decide)).mono ?_
    rintro e w2 ⟨⟨y, hy, rfl⟩, hr2, hg2⟩
    have HO2 : Hid (w2.ownsRow w.heap.size 88 2 (.slice (some ⟨w1.heap.size, 0, none⟩) 0 0) 0 (flatT [])) :=
      World.ownsRow.kept (World.ownsRow_lit (base := w.heap.size) w1 #[] 0 hs1 (by decide) rfl) hg2 (.inr (by simp [Value.ownBlock]; omega))
    have HB2 : Hid (Kx B (some g) w w2) := (HB1.out.alloc _).gb hg2
    have HR2' : Hid (RdAt B0 B a len cap w2) := hr2
    clear hr2 hg2 hal HR2 HR1 HB1
    go_wp2_with fail
    go_loopg [5, 6] (y + 5) (fun gk v i wr => ∃ ts' : List (Int × Int), i = .int .i64 gk ∧ ts'.length + gk = y + 5 ∧ wr.ownsRow w.heap.size 88 2 v ts'.length (flatT ts') ∧ wfT ts' ∧ RdAt B0 B a len cap wr ∧ Kx B (some g) w wr)
    case atStart => exact ⟨[], by go_num, by simp, HO2.out, fun t ht => by simp at ht, HR2'.out, HB2.out⟩
    case round =>
      obtain ⟨ts', rfl, hlen, ho3, hw3, hr3, hb3⟩ := hrel
      have hl12 : ts'.length ≤ 8 := by omega
      have hgk7 : gk ≤ 7 := by omega
      have HL : Hid (ts'.length + gk = y + 5) := hlen
      have HO3 : Hid (wr.ownsRow w.heap.size 88 2 u5 ts'.length (flatT ts')) := ho3
      have HW3 : Hid (wfT ts') := hw3
      have HR3 : Hid (RdAt B0 B a len cap wr) := hr3
      have HB3 : Hid (Kx B (some g) w wr) := hb3
      have hs3 : w.heap.size ≤ wr.heap.size := hb3.2.2.2.1
      clear hlen ho3 hw3 hr3 hb3 HO2 HB2 HR2'
      by_cases hgk : 0 < gk
      · have HGK : Hid ((gk : Int) - 1 = ((gk - 1 : Nat) : Int)) := by show _ = _; omega
        go_wp2_with (at_builtin; refine wpList_append_lies _ rfl _ _ 24 rfl w.heap.size 88 i0 (.agg #[.int .i64 0, .int .i64 0]) 2 16 Tryz.underlying24 hi hz0 hz1 hz2 rfl (by decide) _ ts'.length (flatT ts') rfl (HO3.out.alloc _) ⟨wr.heap.size, 0, none⟩ 1 1 (flatT [(8, 0)]) rfl rfl ?c1 ?c2 (by omega) ?c3 ?c4 ?c5 (wr.heap.size + 1) (by simp) ?_)
        case c1 => exact World.news_of_block (heap_alloc_new wr _)
        case c2 => intro u hu; obtain ⟨z, rfl⟩ := flatT_int _ u hu; rfl
        case c3 => unfold maxLen; omega
        case c4 => omega
        case c5 => simp; omega
        intro g7 cap7 w7 hown7 hgrow hat hlt7
        have R1 : Kx B (some g) w w7 := (HB3.out.alloc _).own hgrow (fun q hq => .inr (HO3.out.lt q hq).1)
        have R2 : RdAt B0 B a len cap w7 := (HR3.out.full (bel1 _ _)).app hgrow (fun q hq => by have := HO3.out.lt q hq; omega)
        have R4 : w7.ownsRow w.heap.size 88 2 (.slice (some ⟨g7, 0, none⟩) (ts'.length + 1) cap7) (ts' ++ [(8, 0)]).length (flatT (ts' ++ [(8, 0)])) := by rw [flatT_app, List.length_append]; exact hown7
        have R5 : wfT (ts' ++ [(8, 0)]) := wfT_app HW3.out (fun t ht => by simp at ht; subst ht; exact ⟨inI_of (by omega) (by omega), inI_of (by omega) (by omega)⟩)
        have HX : Hid (w7.ownsRow w.heap.size 88 2 (.slice (some ⟨g7, 0, none⟩) (ts'.length + 1) cap7) (ts' ++ [(8, 0)]).length (flatT (ts' ++ [(8, 0)])) ∧ wfT (ts' ++ [(8, 0)]) ∧ RdAt B0 B a len cap w7 ∧ Kx B (some g) w w7) := ⟨R4, R5, R2, R1⟩
        clear R1 R2 R4 R5 hown7 hgrow hat hlt7
        go_wp2_with fail
        go_roundg (gk - 1)
        case rel => exact ⟨ts' ++ [(8, 0)], by rw [← HGK.out]; try rfl, by have := HL.out; simp; omega, HX.out⟩
        case measure => omega
      · have hgk0 : gk = 0 := by omega
        subst hgk0
        go_wp2_with (at_builtin; refine wpList_append_lies _ rfl _ _ 24 rfl w.heap.size 88 i0 (.agg #[.int .i64 0, .int .i64 0]) 2 16 Tryz.underlying24 hi hz0 hz1 hz2 rfl (by decide) _ ts'.length (flatT ts') rfl (HO3.out.alloc _) ⟨wr.heap.size, 0, none⟩ 1 1 (flatT [(2, 0)]) rfl rfl ?c1 ?c2 (by omega) ?c3 ?c4 ?c5 (wr.heap.size + 1) (by simp) ?_)
        case c1 => exact World.news_of_block (heap_alloc_new wr _)
        case c2 => intro u hu; obtain ⟨z, rfl⟩ := flatT_int _ u hu; rfl
        case c3 => unfold maxLen; omega
        case c4 => omega
        case c5 => simp; omega
        intro g7 cap7 w7 hown7 hgrow hat hlt7
        have R1 : Kx B (some g) w w7 := (HB3.out.alloc _).own hgrow (fun q hq => .inr (HO3.out.lt q hq).1)
        have R2 : RdAt B0 B a len cap w7 := (HR3.out.full (bel1 _ _)).app hgrow (fun q hq => by have := HO3.out.lt q hq; omega)
        have R4 : w7.ownsRow w.heap.size 88 2 (.slice (some ⟨g7, 0, none⟩) (ts'.length + 1) cap7) (ts' ++ [(2, 0)]).length (flatT (ts' ++ [(2, 0)])) := by rw [flatT_app, List.length_append]; exact hown7
        have R5 : wfT (ts' ++ [(2, 0)]) := wfT_app HW3.out (fun t ht => by simp at ht; subst ht; exact ⟨inI_of (by omega) (by omega), inI_of (by omega) (by omega)⟩)
        have HX : Hid (HurtPost B0 B a len cap base (.slice (some ⟨g, 0, none⟩) ts.length c) w (.returned (.slice (some ⟨g7, 0, none⟩) (ts'.length + 1) cap7)) w7) := ⟨⟨_, _, rfl, own_base R4 hbw, by simp; omega, R5⟩, R2, R1⟩
        clear R1 R2 R4 R5 hown7 hgrow hat hlt7
        go_wp2_with fail
        go_ret
        exact HX.out
  have q4 := beqN x4
  go_wp2_with fail
  go_ret
  exact ⟨⟨_, ts, rfl, HO1.out, by omega, HW.out⟩, HR1.out, HB1.out⟩
end Go.Proofs.YtdncnjmlicdamaaGreatDoor
