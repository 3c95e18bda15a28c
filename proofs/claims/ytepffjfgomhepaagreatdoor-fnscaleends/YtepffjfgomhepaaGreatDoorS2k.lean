/- The table of kinds, off what its text lays; arguments that are slices of types, opened. -/
import Derived.Test.YtepffjfgomhepaaGreatDoorS2d
import Derived.ProofKit
import Derived.OpenShut
import Derived.ShutString
import Derived.ChangeOld
import Derived.LaidMore
import Derived.LaidOnce
import Derived.Stop.Joined
import Derived.Stop.LaidErr
import Derived.Deep.SlicePairs
namespace Go.Proofs.YtepffjfgomhepaaGreatDoor
open Go.ChangeShapes Go.WideShapes Go.ChangeAt Go.RowKit
open Go.ChangeMaps (open_string shut_string)
set_option linter.unusedVariables false
theorem Tryz.own : ownKnob Tryz.prog.godebug = none := by kernel_rfl
theorem Tryz.laidOut : laidOutB Tryz.prog = true := by kernel_rfl
theorem Tryz.gKR : Tryz.prog.globalNamed "loop.example/g00774/impl.kindRows" = some 2 := by kernel_rfl
theorem Tryz.tKR : (Tryz.prog.globals[2]?).map (·.type) = some 161 := by kernel_rfl
abbrev laidKR : List (String × DataW Unit) := [("loop.example/g00774/impl.kindRows", Rows.laid_loop_example_g00774_impl_kindRows)]
/-- A row of the table, as data and as cells. -/
def rowD {H : Type} (j : Nat) : DataW H := .agg [.lit (.int .i64 ((j : Int) + 1)), .lit (.string (rs j).data.toList), .lit (.bool (rb j)), .lit (.int .i64 (rlo j)), .lit (.int .i64 (rhi j))]
def rowC (j : Nat) : List Value := [.int .i64 ((j : Int) + 1), .string (rs j), .bool (rb j), .int .i64 (rlo j), .int .i64 (rhi j)]
theorem laid_rows {H : Type} : (Rows.laid_loop_example_g00774_impl_kindRows : DataW H) = .agg ((List.range 9).map rowD) := rfl
theorem kc_rows : ∀ j, j < 9 → (kc.toList.drop (j * 5)).take 5 = rowC j
  | 0, _ => rfl
  | 1, _ => rfl
  | 2, _ => rfl
  | 3, _ => rfl
  | 4, _ => rfl
  | 5, _ => rfl
  | 6, _ => rfl
  | 7, _ => rfl
  | 8, _ => rfl
theorem chunks_ext {α : Type} {a b : List α} {n m : Nat} (hm : 0 < m) (ha : a.length = n * m) (hb : b.length = n * m) (h : ∀ i, i < n → (a.drop (i * m)).take m = (b.drop (i * m)).take m) : a = b := by
  apply List.ext_getElem?
  intro j
  by_cases hj : j < n * m
  · have hq : j / m < n := Nat.div_lt_of_lt_mul (by rw [Nat.mul_comm]; exact hj)
    have hr : j % m < m := Nat.mod_lt _ hm
    have e : j / m * m + j % m = j := by rw [Nat.mul_comm]; exact Nat.div_add_mod j m
    have h1 := congrArg (fun l : List α => l[j % m]?) (h (j / m) hq)
    simpa [List.getElem?_take, hr, List.getElem?_drop, e] using h1
  · rw [List.getElem?_eq_none (by omega), List.getElem?_eq_none (by omega)]
theorem str_inj {a b : ByteArray} (h : a.data.toList = b.data.toList) : a = b := by
  obtain ⟨⟨l⟩⟩ := a
  obtain ⟨⟨l'⟩⟩ := b
  simp at h
  subst h
  rfl
theorem drop_one {α : Type} {cs : List α} {i : Nat} {c : α} (h : (cs.drop i).take 1 = [c]) : cs[i]? = some c := by
  have := congrArg (fun l : List α => l[0]?) h
  simpa using this
set_option maxRecDepth 100000 in
/-- A row's cells, off its data. -/
theorem row_cells {H : Type} {enc : TypeId × Value → H} {w : World} {base : Nat} {sp : Nat → Bool} {held : Bool} {fuel : Nat} {cs : List Value} {p : List MemPlace} {j : Nat}
    (h : DataW.trod enc Tryz.prog w base sp held fuel 160 cs = some (rowD j, p)) : cs = rowC j := by
  obtain ⟨xs, m, _, hx, hlen, hxl, hf⟩ := DataW.trod_struct Tryz.underlying160 h
  have c72 : Tryz.prog.cellsOf 160 = 5 := by kernel_rfl
  have c2 : Tryz.prog.cellsOf 2 = 1 := by kernel_rfl
  have c9 : Tryz.prog.cellsOf 9 = 1 := by kernel_rfl
  have c4 : Tryz.prog.cellsOf 4 = 1 := by kernel_rfl
  rw [c72] at hlen
  have h0 : DataW.trod enc Tryz.prog w base sp held m 2 ((cs.drop 0).take (Tryz.prog.cellsOf 2)) = xs[0]? := hf 0 _ rfl
  rw [c2] at h0
  have h1 : DataW.trod enc Tryz.prog w base sp held m 9 ((cs.drop 1).take (Tryz.prog.cellsOf 9)) = xs[1]? := hf 1 _ rfl
  rw [c9] at h1
  have h2 : DataW.trod enc Tryz.prog w base sp held m 4 ((cs.drop 2).take (Tryz.prog.cellsOf 4)) = xs[2]? := hf 2 _ rfl
  rw [c4] at h2
  have h3 : DataW.trod enc Tryz.prog w base sp held m 2 ((cs.drop 3).take (Tryz.prog.cellsOf 2)) = xs[3]? := hf 3 _ rfl
  rw [c2] at h3
  have h4 : DataW.trod enc Tryz.prog w base sp held m 2 ((cs.drop 4).take (Tryz.prog.cellsOf 2)) = xs[4]? := hf 4 _ rfl
  rw [c2] at h4
  have hx1 := (DataW.agg.inj (Prod.mk.inj hx).1)
  match xs, hxl with
  | [x0, x1, x2, x3, x4], _ =>
    simp only [List.map_cons, List.map_nil, List.cons.injEq, and_true] at hx1
    obtain ⟨e0, e1, e2, e3, e4⟩ := hx1
    obtain ⟨n0, q0, r0, _⟩ := DataW.trod_int Tryz.underlying2 (show DataW.trod enc Tryz.prog w base sp held m 2 _ = some x0 from h0)
    obtain ⟨s1, q1, r1, _⟩ := DataW.trod_string Tryz.underlying9 (show DataW.trod enc Tryz.prog w base sp held m 9 _ = some x1 from h1)
    obtain ⟨b2, q2, r2⟩ := DataW.trod_bool Tryz.underlying4 (show DataW.trod enc Tryz.prog w base sp held m 4 _ = some x2 from h2)
    obtain ⟨n3, q3, r3, _⟩ := DataW.trod_int Tryz.underlying2 (show DataW.trod enc Tryz.prog w base sp held m 2 _ = some x3 from h3)
    obtain ⟨n4, q4, r4, _⟩ := DataW.trod_int Tryz.underlying2 (show DataW.trod enc Tryz.prog w base sp held m 2 _ = some x4 from h4)
    subst r0 r1 r2 r3 r4
    simp only [DataW.lit.injEq, Lit.int.injEq, Lit.string.injEq, Lit.bool.injEq, true_and] at e0 e1 e2 e3 e4
    have e1' := str_inj e1
    subst e0 e1' e2 e3 e4
    have g0 := drop_one q0
    have g1 := drop_one q1
    have g2 := drop_one q2
    have g3 := drop_one q3
    have g4 := drop_one q4
    match cs, hlen with
    | [a0, a1, a2, a3, a4], _ =>
      simp at g0 g1 g2 g3 g4
      subst g0 g1 g2 g3 g4
      rfl
set_option maxRecDepth 100000 in
theorem kr_of_laid {W : World} (h : laidMetH Tryz.prog laidKR W) : W.var? Tryz.prog "loop.example/g00774/impl.kindRows" = some kc := by
  rw [MakeChecks.laidMetH_plain _ _ _ (by kernel_rfl)] at h
  have h := h
  obtain ⟨ps, ⟨g, t, cs, fuel, p, q, hg, ht, hv, hd, _, _⟩, _, _⟩ := h
  obtain rfl := Option.some.inj (Tryz.gKR.symm.trans hg)
  obtain rfl := Option.some.inj (Tryz.tKR.symm.trans ht)
  have c73 : Tryz.prog.cellsOf 161 = 45 := by kernel_rfl
  have c72 : Tryz.prog.cellsOf 160 = 5 := by kernel_rfl
  obtain ⟨xs, m, _, ex, hlen, hl, hel⟩ := DataW.trod_array Tryz.underlying161 hd
  rw [c73] at hlen
  rw [laid_rows] at ex
  have e3 := (DataW.agg.inj (Prod.mk.inj ex).1)
  have : cs.toList = kc.toList := by
    refine chunks_ext (n := 9) (m := 5) (by omega) hlen (by rfl) (fun i hi => ?_)
    rw [kc_rows i hi]
    have h1 := hel i hi
    rw [c72] at h1
    have hx : xs[i]? = some xs[i] := List.getElem?_eq_getElem (by omega)
    rw [hx] at h1
    have h2 : xs[i].1 = rowD i := by
      have h3 := congrArg (fun l : List (DataW Unit) => l[i]?) e3
      simp [hx, hi] at h3
      exact h3.symm
    have h4 : xs[i] = (rowD i, xs[i].2) := by rw [← h2]
    rw [h4] at h1
    exact row_cells h1
  rw [hv]
  congr 1
  exact Array.ext' this
set_option maxRecDepth 100000 in
theorem KR.of_laid {W : World} (h : laidMetH Tryz.prog laidKR W) : KR W := by
  have hv := kr_of_laid h
  unfold World.var? at hv
  rw [Tryz.gKR] at hv
  simp only [Option.bind_some] at hv
  split at hv
  · rename_i cs t fr heq
    simp only [Option.some.injEq] at hv
    subst hv
    exact ⟨by rcases Nat.lt_or_ge 2 W.heap.size with h' | h'; exact h'; simp [Array.getElem?_eq_none h'] at heq, t, fr, heq⟩
  · cases hv
theorem reads_kr {H : Type} (enc : TypeId × Value → H) (W : World) (sp : Nat → Bool) : DataW.trod enc Tryz.prog W 0 sp true 4 161 kc.toList = some (Rows.laid_loop_example_g00774_impl_kindRows, []) := by kernel_rfl
theorem list_of {α : Type} {Q : Nat → α → Prop} : ∀ {n : Nat}, (∀ i, i < n → ∃ p, Q i p) → ∃ l : List α, l.length = n ∧ ∀ i (h : i < l.length), Q i l[i] := by
  intro n
  induction n with
  | zero => intro _; exact ⟨[], rfl, fun i h => by simp at h⟩
  | succ n ih =>
    intro h
    obtain ⟨l, hl, hq⟩ := ih (fun i hi => h i (by omega))
    obtain ⟨p, hp⟩ := h n (by omega)
    refine ⟨l ++ [p], by simp [hl], fun i hi => ?_⟩
    by_cases hi' : i < l.length
    · rw [List.getElem_append_left hi']; exact hq i hi'
    · have : i = l.length := by simp at hi; omega
      subst this
      simp [hl, hp]
/-- An argument that is a slice of types. -/
def ArgTyps (w : World) (ad : Option Addr) (len cap : Nat) : Prop := len ≤ cap ∧ cap ≤ maxLen ∧ (len ≤ 1048577 → ∃ ts : List (Int × Int), ts.length = len ∧ IsTyps w.heap.size w (.slice ad len cap) ts)
theorem wf_inI {n : Int} (h : (Lit.int .i64 n).wf = true) : inI n := by
  have := bounds_i64 h
  exact this
end Go.Proofs.YtepffjfgomhepaaGreatDoor
