/- Rows of types that a call owns. -/
import Derived.Test.YtichgnddbnibjaaGreatDoorS2h
namespace Go.Proofs.YtichgnddbnibjaaGreatDoor
open Go.RowKit
set_option linter.unusedVariables false
def flatT (ts : List (Int × Int)) : List Value := ts.flatMap fun t => [.int .i64 t.1, .int .i64 t.2]
theorem flatT_nil : flatT [] = [] := rfl
theorem flatT_one (k n : Int) : flatT [(k, n)] = [.int .i64 k, .int .i64 n] := rfl
theorem flatT_app (a b : List (Int × Int)) : flatT (a ++ b) = flatT a ++ flatT b := by simp [flatT]
theorem flatT_len (ts : List (Int × Int)) : (flatT ts).length = ts.length * 2 := by
  induction ts with
  | nil => rfl
  | cons t ts ih => have e : flatT (t :: ts) = [.int .i64 t.1, .int .i64 t.2] ++ flatT ts := rfl
                    rw [e, List.length_append, ih]; simp; omega
theorem flatT_at : ∀ (ts : List (Int × Int)) (i : Nat) (h : i < ts.length), (flatT ts)[i * 2]? = some (.int .i64 ts[i].1) ∧ (flatT ts)[i * 2 + 1]? = some (.int .i64 ts[i].2)
  | t :: ts, 0, _ => ⟨rfl, rfl⟩
  | t :: ts, i + 1, h => by
    have e : flatT (t :: ts) = [.int .i64 t.1, .int .i64 t.2] ++ flatT ts := rfl
    have := flatT_at ts i (by simpa using h)
    rw [e, List.getElem?_append_right (by simp; omega), List.getElem?_append_right (by simp; omega)]
    simp only [List.length_cons, List.length_nil, List.getElem_cons_succ]
    rw [show (i + 1) * 2 - (0 + 1 + 1) = i * 2 by omega, show (i + 1) * 2 + 1 - (0 + 1 + 1) = i * 2 + 1 by omega]
    exact this
theorem flatT_int (ts : List (Int × Int)) : ∀ u ∈ flatT ts, ∃ z, u = .int .i64 z := by
  intro u hu
  simp only [flatT, List.mem_flatMap] at hu
  obtain ⟨t, _, hu⟩ := hu
  simp at hu
  rcases hu with rfl | rfl
  · exact ⟨_, rfl⟩
  · exact ⟨_, rfl⟩
def wfT (ts : List (Int × Int)) : Prop := ∀ t ∈ ts, inI t.1 ∧ inI t.2
theorem wfT_app {a b : List (Int × Int)} (ha : wfT a) (hb : wfT b) : wfT (a ++ b) := fun t ht => by
  rcases List.mem_append.1 ht with h | h
  · exact ha t h
  · exact hb t h
/-- A row of types of one's own, as a slice of types. -/
theorem own_typs {w : World} {base : Nat} {v : Value} {ts : List (Int × Int)} (h : w.ownsRow base 70 2 v ts.length (flatT ts)) (hs : ts.length ≤ 1048577) (hw : wfT ts) : IsTyps w.heap.size w v ts := by
  rcases h.2 with ⟨hv, h0⟩ | ⟨g, cap, cur, hv, _, hg, h1, h2, h3, h4⟩
  · exact ⟨hs, hw, none, 0, by rw [hv, h0], by omega, by simp [maxLen], .inl h0⟩
  · refine ⟨hs, hw, _, cap, hv, h1, h2, .inr ⟨g, 0, rfl, blk_lt hg, fun i hi => ?_⟩⟩
    have hc : ∀ m, m < ts.length * 2 → w.cell? ⟨g, m, none⟩ = (flatT ts)[m]? := fun m hm => by
      rw [cell_of_row w g m cur _ _ hg, ← h4, List.getElem?_take, if_pos hm]; simp
    rw [Nat.zero_add, hc _ (by omega), hc _ (by omega)]
    exact flatT_at ts i hi
theorem pair_cells {w1 : World} {N : Nat} {u0 u1 : Value} {T : TypeId} (hN : w1.heap[N]? = some (.cells #[u0, u1] T (0, 0))) : w1.cell? ⟨N, 0, none⟩ = some u0 ∧ w1.cell? ⟨N, 1, none⟩ = some u1 ∧ w1.frozen? ⟨N, 0, none⟩ = false ∧ w1.frozen? ⟨N, 1, none⟩ = false := by
  refine ⟨by rw [cell_of_row w1 N 0 _ _ _ hN]; simp, by rw [cell_of_row w1 N 1 _ _ _ hN]; simp, by simp [World.frozen?, hN], by simp [World.frozen?, hN]⟩
theorem Tryz.szTyp : (Tryz.prog.info? 70).map (·.size) = some 2 := by kernel_rfl
theorem results_cell_row2 {P : Program} {fn : Func} {p u : Tmp} {ty : TypeId} (h : fn.results = #[.cell p ty, .tmp u]) (tmps : Array Value) (w : World) (g : Nat) (t : TypeId) (cs : Array Value) (fr : Nat × Nat) (d : TypeDesc)
    (hp : tmps.getD p undef = .pointer (some ⟨g, 0, none⟩)) (hg : w.heap[g]? = some (.cells cs t fr))
    (hu : P.underlying ty = some d) (hd : (match d with | .struct _ | .array _ _ => true | _ => false) = true) (hi : (P.info? ty).map (·.size) = some cs.size) :
    (results fn tmps).run P w = .ok (.tuple #[.agg cs, tmps.getD u undef]) w := by
  have hp' : tmps[p]?.getD undef = .pointer (some ⟨g, 0, none⟩) := by simpa using hp
  simp [results, h, hp', asAddr, run_loadVar_row w g t ty cs fr d hg hu hd hi]
theorem two_set {w : World} {N : Nat} {u0 u1 k n : Value} {T : TypeId} (hN : w.heap[N]? = some (.cells #[u0, u1] T (0, 0))) : ((w.setCell ⟨N, 0, none⟩ k).setCell ⟨N, 1, none⟩ n).heap[N]? = some (.cells #[k, n] T (0, 0)) := by
  have e1 := set_block (i := 0) hN k
  have e2 := set_block (i := 1) e1 n
  rw [e2]; simp
end Go.Proofs.YtichgnddbnibjaaGreatDoor
