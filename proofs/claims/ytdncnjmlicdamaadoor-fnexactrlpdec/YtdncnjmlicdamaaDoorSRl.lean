/- SRt, SRl: one text. -/
import Derived.Test.YtdncnjmlicdamaaDoorS2h
import Derived.Test.YtdncnjmlicdamaaDoorS3l
namespace Go.Proofs.YtdncnjmlicdamaaDoor
open Go.RowKit
set_option linter.unusedVariables false
def flatT (ts : List (Int × Int)) : List Value := ts.flatMap fun t => [.int .i64 t.1, .int .i64 t.2]
theorem flatT_nil : flatT [] = [] := rfl
theorem flatT_one (k n : Int) : flatT [(k, n)] = [.int .i64 k, .int .i64 n] := rfl
theorem flatT_app (a b : List (Int × Int)) : flatT (a ++ b) = flatT a ++ flatT b := by simp [flatT]
theorem flatT_len (ts : List (Int × Int)) : (flatT ts).length = ts.length * 2 := by
  induction ts with
  | nil => rfl
  | cons t ts ih => have e : flatT (t :: ts) = [.int .i64 t.1, .int .i64 t.2] ++ flatT ts := rfl
                    rw [e, List.length_append, ih]; simp; omega
theorem flatT_at : ∀ (ts : List (Int × Int)) (i : Nat) (h : i < ts.length), (flatT ts)[i * 2]? = some (.int .i64 ts[i].1) ∧ (flatT ts)[i * 2 + 1]? = some (.int .i64 ts[i].2)
  | t :: ts, 0, _ => ⟨rfl, rfl⟩
  | t :: ts, i + 1, h => by
    have e : flatT (t :: ts) = [.int .i64 t.1, .int .i64 t.2] ++ flatT ts := rfl
    have := flatT_at ts i (by simpa using h)
    rw [e, List.getElem?_append_right (by simp; omega), List.getElem?_append_right (by simp; omega)]
    simp only [List.length_cons, List.length_nil, List.getElem_cons_succ]
    rw [show (i + 1) * 2 - (0 + 1 + 1) = i * 2 by omega, show (i + 1) * 2 + 1 - (0 + 1 + 1) = i * 2 + 1 by omega]
    exact this
theorem flatT_int (ts : List (Int × Int)) : ∀ u ∈ flatT ts, ∃ z, u = .int .i64 z := by
  intro u hu
  simp only [flatT, List.mem_flatMap] at hu
  obtain ⟨t, _, hu⟩ := hu
  simp at hu
  rcases hu with rfl | rfl
  · exact ⟨_, rfl⟩
  · exact ⟨_, rfl⟩
def wfT (ts : List (Int × Int)) : Prop := ∀ t ∈ ts, inI t.1 ∧ inI t.2
theorem wfT_app {a b : List (Int × Int)} (ha : wfT a) (hb : wfT b) : wfT (a ++ b) := fun t ht => by
  rcases List.mem_append.1 ht with h | h
  · exact ha t h
  · exact hb t h
/-- A row of types of one's own, as a slice of types. -/
theorem own_typs {w : World} {base : Nat} {v : Value} {ts : List (Int × Int)} (h : w.ownsRow base 40 2 v ts.length (flatT ts)) (hs : ts.length ≤ 1048577) (hw : wfT ts) : IsTyps w.heap.size w v ts := by
  rcases h.2 with ⟨hv, h0⟩ | ⟨g, cap, cur, hv, _, hg, h1, h2, h3, h4⟩
  · exact ⟨hs, hw, none, 0, by rw [hv, h0], by omega, by simp [maxLen], .inl h0⟩
  · refine ⟨hs, hw, _, cap, hv, h1, h2, .inr ⟨g, 0, rfl, blk_lt hg, fun i hi => ?_⟩⟩
    have hc : ∀ m, m < ts.length * 2 → w.cell? ⟨g, m, none⟩ = (flatT ts)[m]? := fun m hm => by
      rw [cell_of_row w g m cur _ _ hg, ← h4, List.getElem?_take, if_pos hm]; simp
    rw [Nat.zero_add, hc _ (by omega), hc _ (by omega)]
    exact flatT_at ts i hi
theorem pair_cells {w1 : World} {N : Nat} {u0 u1 : Value} {T : TypeId} (hN : w1.heap[N]? = some (.cells #[u0, u1] T (0, 0))) : w1.cell? ⟨N, 0, none⟩ = some u0 ∧ w1.cell? ⟨N, 1, none⟩ = some u1 ∧ w1.frozen? ⟨N, 0, none⟩ = false ∧ w1.frozen? ⟨N, 1, none⟩ = false := by
  refine ⟨by rw [cell_of_row w1 N 0 _ _ _ hN]; simp, by rw [cell_of_row w1 N 1 _ _ _ hN]; simp, by simp [World.frozen?, hN], by simp [World.frozen?, hN]⟩
theorem Tryd.szTyp : (Tryd.prog.info? 40).map (·.size) = some 2 := by kernel_rfl
theorem results_cell_row2 {P : Program} {fn : Func} {p u : Tmp} {ty : TypeId} (h : fn.results = #[.cell p ty, .tmp u]) (tmps : Array Value) (w : World) (g : Nat) (t : TypeId) (cs : Array Value) (fr : Nat × Nat) (d : TypeDesc)
    (hp : tmps.getD p undef = .pointer (some ⟨g, 0, none⟩)) (hg : w.heap[g]? = some (.cells cs t fr))
    (hu : P.underlying ty = some d) (hd : (match d with | .struct _ | .array _ _ => true | _ => false) = true) (hi : (P.info? ty).map (·.size) = some cs.size) :
    (results fn tmps).run P w = .ok (.tuple #[.agg cs, tmps.getD u undef]) w := by
  have hp' : tmps[p]?.getD undef = .pointer (some ⟨g, 0, none⟩) := by simpa using hp
  simp [results, h, hp', asAddr, run_loadVar_row w g t ty cs fr d hg hu hd hi]
theorem two_set {w : World} {N : Nat} {u0 u1 k n : Value} {T : TypeId} (hN : w.heap[N]? = some (.cells #[u0, u1] T (0, 0))) : ((w.setCell ⟨N, 0, none⟩ k).setCell ⟨N, 1, none⟩ n).heap[N]? = some (.cells #[k, n] T (0, 0)) := by
  have e1 := set_block (i := 0) hN k
  have e2 := set_block (i := 1) e1 n
  rw [e2]; simp
end Go.Proofs.YtdncnjmlicdamaaDoor
namespace Go.Proofs.YtdncnjmlicdamaaDoor
open Go.RowKit Go.Sort
set_option linter.unusedVariables false
/-- A row of types of which the first j bear their marks. -/
def MkAt (k n cap : Nat) (w : World) (g j : Nat) : Prop := ∃ cs : Array Value, w.heap[g]? = some (.cells cs 40 (0, 0)) ∧ cs.size = cap * 2 ∧
  (∀ i, i < j → cs[i * 2]? = some (.int .i64 ((k + 2 * i : Nat) : Int)) ∧ cs[i * 2 + 1]? = some (.int .i64 ((k + 2 * i + 1 : Nat) : Int))) ∧ ∀ m, m < n * 2 → ∃ z, cs[m]? = some (.int .i64 z)
theorem MkAt.cell {k n cap g j : Nat} {w : World} (h : MkAt k n cap w g j) {m : Nat} (hm : m < n * 2) : (∃ z, w.cell? ⟨g, m, none⟩ = some (.int .i64 z)) ∧ w.frozen? ⟨g, m, none⟩ = false := by
  obtain ⟨cs, h1, h2, h3, h4⟩ := h
  obtain ⟨z, hz⟩ := h4 m hm
  exact ⟨⟨z, by rw [cell_of_row w g m cs _ _ h1]; exact hz⟩, by simp [World.frozen?, h1]⟩
theorem MkAt.next {k n cap g j : Nat} {w : World} (h : MkAt k n cap w g j) (hj : j < n) (hc : n ≤ cap) : MkAt k n cap ((w.setCell ⟨g, j * 2, none⟩ (.int .i64 ((k + 2 * j : Nat) : Int))).setCell ⟨g, j * 2 + 1, none⟩ (.int .i64 ((k + 2 * j + 1 : Nat) : Int))) g (j + 1) := by
  obtain ⟨cs, h1, h2, h3, h4⟩ := h
  have e1 := set_block (i := j * 2) h1 (.int .i64 ((k + 2 * j : Nat) : Int))
  have e2 := set_block (i := j * 2 + 1) e1 (.int .i64 ((k + 2 * j + 1 : Nat) : Int))
  refine ⟨_, e2, by simp [h2], fun i hi => ?_, fun m hm => ?_⟩
  · by_cases e : i = j
    · subst e
      constructor
      · rw [Array.getElem?_setIfInBounds_ne (by omega), Array.getElem?_setIfInBounds_self_of_lt (by omega)]
      · rw [Array.getElem?_setIfInBounds_self_of_lt (by simp; omega)]
    · rw [Array.getElem?_setIfInBounds_ne (by omega), Array.getElem?_setIfInBounds_ne (by omega), Array.getElem?_setIfInBounds_ne (by omega), Array.getElem?_setIfInBounds_ne (by omega)]
      exact h3 i (by omega)
  · by_cases e : m = j * 2 + 1
    · subst e; exact ⟨_, by rw [Array.getElem?_setIfInBounds_self_of_lt (by simp; omega)]⟩
    · by_cases e' : m = j * 2
      · subst e'; exact ⟨_, by rw [Array.getElem?_setIfInBounds_ne (by omega), Array.getElem?_setIfInBounds_self_of_lt (by omega)]⟩
      · rw [Array.getElem?_setIfInBounds_ne (by omega), Array.getElem?_setIfInBounds_ne (by omega)]
        exact h4 m hm
theorem MkAt.start {k g cap : Nat} {w : World} {cur : Array Value} {ts : List (Int × Int)} (h1 : w.heap[g]? = some (.cells cur 40 (0, 0))) (h2 : cur.size = cap * 2) (h3 : cur.toList.take (ts.length * 2) = flatT ts) : MkAt k ts.length cap w g 0 := by
  refine ⟨cur, h1, h2, fun i hi => by omega, fun m hm => ?_⟩
  have e : (cur.toList.take (ts.length * 2))[m]? = cur.toList[m]? := by rw [List.getElem?_take, if_pos hm]
  rw [h3] at e
  have hl : m < (flatT ts).length := by rw [flatT_len]; exact hm
  obtain ⟨z, hz⟩ := flatT_int ts ((flatT ts)[m]'hl) (List.getElem_mem _)
  refine ⟨z, ?_⟩
  rw [List.getElem?_eq_getElem hl, hz] at e
  simpa using e.symm
/-- A slice of types that bears its marks, in a block from B on. -/
def MkV (k n B : Nat) (w : World) (v : Value) : Prop := ∃ (ad : Option Addr) (cap : Nat), v = .slice ad n cap ∧ n ≤ cap ∧ cap ≤ maxLen ∧ (n = 0 ∨ ∃ g, ad = some ⟨g, 0, none⟩ ∧ B ≤ g ∧ g < w.heap.size ∧ MkAt k n cap w g n)
theorem MkV.below {k n B : Nat} {w w' : World} {v : Value} (h : MkV k n B w v) (hb : Below w.heap.size w w') : MkV k n B w' v := by
  obtain ⟨ad, cap, h1, h2, h3, h4⟩ := h
  refine ⟨ad, cap, h1, h2, h3, ?_⟩
  rcases h4 with h4 | ⟨g, a1, a2, a3, cs, b1, b2⟩
  · exact .inl h4
  · exact .inr ⟨g, a1, a2, by have := hb.size; omega, cs, by rw [hb.block g a3]; exact b1, b2⟩
theorem mkt_refl (w : World) (row : Option Nat) : w.grownBy w row := ⟨rfl, rfl, rfl, Nat.le_refl _, fun _ _ _ => rfl⟩
theorem mkt_set {w wr : World} {g : Nat} (h : w.grownBy wr (some g)) (i : Nat) (x : Value) : w.grownBy (wr.setCell ⟨g, i, none⟩ x) (some g) :=
  ⟨h.os, h.tape, h.output, by simpa [World.setCell] using h.size, fun k hk hne => by rw [Below.heap_setCell _ _ _ _ (fun e => hne (by rw [e]))]; exact h.block k hk hne⟩
theorem mkt_below {w w' : World} {g base : Nat} (h : w.grownBy w' (some g)) (hg : base ≤ g) (hl : g < w.heap.size) : Below base w w' :=
  ⟨h.os, h.tape, h.output, h.size, fun k hk => h.block k (by omega) (by simp; omega)⟩
set_option maxRecDepth 100000 in
set_option maxHeartbeats 2000000 in
theorem markTypS_at (k base n cap g : Nat) (w : World) (hk : k ≤ 10000) (hl : n ≤ 1048577) (hst : MkAt k n cap w g 0) (hgw : g < w.heap.size) (hg : base ≤ g) (h1 : n ≤ cap) (h2 : cap ≤ maxLen) : Calls Tryd.prog 10 #[.slice (some ⟨g, 0, none⟩) n cap, .int .i64 k] w fun e w' => (e = .returned (.int .i64 ((k + 2 * n : Nat) : Int)) ∧ MkV k n base w' (.slice (some ⟨g, 0, none⟩) n cap)) ∧ w.grownBy w' (some g) := by
  unfold maxLen at h2
  go_enter Tryd.func10, Tryd.ntmps10
  go_wp2_with fail
  go_loopg [1, 5] n (fun gk kv i wr => ∃ j : Nat, j + gk = n ∧ i = .int .i64 j ∧ kv = .int .i64 ((k + 2 * j : Nat) : Int) ∧ MkAt k n cap wr g j ∧ w.grownBy wr (some g) ∧ wr.heap.size = w.heap.size)
  case atStart => exact ⟨0, by omega, rfl, by simp, hst, mkt_refl _ _, rfl⟩
  case round =>
    obtain ⟨j, hj', rfl, rfl, hm, hb, hsz⟩ := hrel
    have HJ : Hid (j + gk = n) := hj'
    have HM : Hid (MkAt k n cap wr g j) := hm
    have HB : Hid (w.grownBy wr (some g)) := hb
    have HSZ : Hid (wr.heap.size = w.heap.size) := hsz
    have hj : j ≤ n := by omega
    have hgr : g < wr.heap.size := by omega
    clear hj' hb hsz hst
    by_cases hlt : j < n
    · obtain ⟨⟨z0, c0⟩, f0⟩ := hm.cell (m := j * 2) (by omega)
      obtain ⟨⟨z1, c1⟩, f1⟩ := hm.cell (m := j * 2 + 1) (by omega)
      have HN : Hid (MkAt k n cap ((wr.setCell ⟨g, j * 2, none⟩ (.int .i64 ((k + 2 * j : Nat) : Int))).setCell ⟨g, j * 2 + 1, none⟩ (.int .i64 ((k + 2 * j + 1 : Nat) : Int))) g (j + 1)) := hm.next hlt h1
      have HB2 : Hid (w.grownBy ((wr.setCell ⟨g, j * 2, none⟩ (.int .i64 ((k + 2 * j : Nat) : Int))).setCell ⟨g, j * 2 + 1, none⟩ (.int .i64 ((k + 2 * j + 1 : Nat) : Int))) (some g)) := mkt_set (mkt_set HB.out _ _) _ _
      obtain ⟨K, hK⟩ : ∃ K : Nat, k + 2 * j = K := ⟨_, rfl⟩
      have hK2 : K ≤ 3000000 := by omega
      have HKE : Hid (k + 2 * j = K) := hK
      rw [hK] at HN HB2 ⊢
      have c1' : (wr.setCell ⟨g, j * 2, none⟩ (.int .i64 (K : Int))).cell? ⟨g, j * 2 + 1, none⟩ = some (.int .i64 z1) := by rw [World.cell?_setCell_other _ _ _ _ (by simp)]; exact c1
      have f1' : (wr.setCell ⟨g, j * 2, none⟩ (.int .i64 (K : Int))).frozen? ⟨g, j * 2 + 1, none⟩ = false := by rw [World.frozen?_setCell]; exact f1
      clear hm hK c1 f1
      go_wp2_with fail
      go_roundg (gk - 1)
      case rel => exact ⟨j + 1, by have := HJ.out; omega, by go_num, by have := HKE.out; first | go_num | (congr 1; omega), HN.out, HB2.out, by simp [World.setCell]; exact HSZ.out⟩
      case measure => have := HJ.out; omega
    · have ej : j = n := by omega
      have HX : Hid (MkV k n base wr (.slice (some ⟨g, 0, none⟩) n cap)) := ⟨_, cap, rfl, h1, by unfold maxLen; exact h2, .inr ⟨g, rfl, hg, hgr, by have := HM.out; rw [ej] at this; exact this⟩⟩
      clear hm hlt
      subst ej
      go_wp2_with fail
      go_ret
      exact ⟨⟨rfl, HX.out⟩, HB.out⟩

theorem markTypS_any (k base : Nat) (ts : List (Int × Int)) (v : Value) (w : World) (hk : k ≤ 10000) (hl : ts.length ≤ 1000) (ho : w.ownsRow base 40 2 v ts.length (flatT ts)) : Calls Tryd.prog 10 #[v, .int .i64 k] w fun e w' => (e = .returned (.int .i64 ((k + 2 * ts.length : Nat) : Int)) ∧ MkV k ts.length base w' v) ∧ Below base w w' := by
  rcases ho.2 with ⟨rfl, h0⟩ | ⟨g, cap, cur, rfl, hg, hh, h1, h2, h3, h4⟩
  · have HX : Hid (MkV k ts.length base w (.slice none 0 0)) := ⟨none, 0, by rw [h0], by omega, by simp [maxLen], .inl h0⟩
    have e : ((k + 2 * ts.length : Nat) : Int) = (k : Int) := by omega
    rw [e]
    clear e
    go_enter Tryd.func10, Tryd.ntmps10
    go_wp2_with fail
    go_loopg [1, 5] 1 (fun gk kv i wr => kv = .int .i64 k ∧ i = .int .i64 0 ∧ wr = w)
    case atStart => exact ⟨rfl, rfl, rfl⟩
    case round =>
      obtain ⟨rfl, rfl, hw⟩ := hrel
      subst hw
      go_wp2_with fail
      go_ret
      exact ⟨⟨rfl, HX.out⟩, Below.refl _ _⟩
  · refine (markTypS_at k base ts.length cap g w hk (by omega) (MkAt.start hh h3 h4) (blk_lt hh) hg h1 h2).mono ?_
    rintro e w' ⟨h, hgb⟩
    exact ⟨h, mkt_below hgb hg (blk_lt hh)⟩
/-- A row of types that a call has made, marked. -/
theorem markTypS_row (k : Nat) (ts : List (Int × Int)) (g : Nat) (w : World) (hk : k ≤ 10000) (hl : ts.length ≤ 1048577) (h : RowTo ts w g ts.length) : Calls Tryd.prog 10 #[.slice (some ⟨g, 0, none⟩) ts.length ts.length, .int .i64 k] w fun e w' => e = .returned (.int .i64 ((k + 2 * ts.length : Nat) : Int)) ∧ w.grownBy w' (some g) := by
  obtain ⟨cs, a1, a2, a3, a4⟩ := h
  refine (markTypS_at k g ts.length ts.length g w hk hl ⟨cs, a1, a2, fun i hi => by omega, a4⟩ (blk_lt a1) (Nat.le_refl _) (Nat.le_refl _) (by unfold maxLen; omega)).mono ?_
  rintro e w' ⟨⟨rfl, _⟩, hb⟩
  exact ⟨rfl, hb⟩
end Go.Proofs.YtdncnjmlicdamaaDoor
