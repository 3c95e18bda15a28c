/- S2i, S2j, S2k, S3k, S3l: one text. -/
import Derived.Test.YtdncnjmlicdamaaGreatDoorS2h
import Derived.Lib.QuietBelow
import Derived.BigQuiet
import Derived.ProofKit
import Derived.OpenShut
import Derived.ShutString
import Derived.ChangeOld
import Derived.LaidMore
import Derived.LaidOnce
import Derived.Stop.Joined
import Derived.Stop.LaidErr
import Derived.Deep.SlicePairs
import Derived.Test.YtdncnjmlicdamaaGreatDoorS3j
namespace Go.Proofs.YtdncnjmlicdamaaGreatDoor
open Go.RowKit Go.Sort
set_option linter.unusedVariables false
theorem below_step3 {W w w' : World} {B : Nat} (h : Below B W w) (k : Below w.heap.size w w') (hB : B ≤ w.heap.size) : Below B W w' := h.trans (k.mono hB)
theorem Tryz.infoTyp : (Tryz.prog.info? 88).map (fun i => (i.zero, i.size, i.bytes)) = some (some (.agg #[.int .i64 0, .int .i64 0]), 2, 16) := by kernel_rfl
/-- A row of types that a call has made, its first j elements set. -/
def RowTo (ts : List (Int × Int)) (w : World) (g j : Nat) : Prop := ∃ cs : Array Value, w.heap[g]? = some (.cells cs 88 (0, 0)) ∧ cs.size = ts.length * 2 ∧
  (∀ i (h : i < ts.length), i < j → cs[i * 2]? = some (.int .i64 ts[i].1) ∧ cs[i * 2 + 1]? = some (.int .i64 ts[i].2)) ∧ ∀ m, m < ts.length * 2 → ∃ z, cs[m]? = some (.int .i64 z)
theorem RowTo.keep {ts : List (Int × Int)} {w w' : World} {g j : Nat} (h : RowTo ts w g j) (hb : w'.heap[g]? = w.heap[g]?) : RowTo ts w' g j := by
  obtain ⟨cs, h1, h2, h3, h4⟩ := h
  exact ⟨cs, hb.trans h1, h2, h3, h4⟩
theorem RowTo.cell {ts : List (Int × Int)} {w : World} {g j : Nat} (h : RowTo ts w g j) {m : Nat} (hm : m < ts.length * 2) : (∃ z, w.cell? ⟨g, m, none⟩ = some (.int .i64 z)) ∧ w.frozen? ⟨g, m, none⟩ = false := by
  obtain ⟨cs, h1, h2, h3, h4⟩ := h
  obtain ⟨z, hz⟩ := h4 m hm
  exact ⟨⟨z, by rw [cell_of_row w g m cs _ _ h1]; exact hz⟩, by simp [World.frozen?, h1]⟩
theorem RowTo.next {ts : List (Int × Int)} {w : World} {g j : Nat} (h : RowTo ts w g j) (hj : j < ts.length) : RowTo ts ((w.setCell ⟨g, j * 2, none⟩ (.int .i64 ts[j].1)).setCell ⟨g, j * 2 + 1, none⟩ (.int .i64 ts[j].2)) g (j + 1) := by
  obtain ⟨cs, h1, h2, h3, h4⟩ := h
  have e1 := set_block (i := j * 2) h1 (.int .i64 ts[j].1)
  have e2 := set_block (i := j * 2 + 1) e1 (.int .i64 ts[j].2)
  refine ⟨_, e2, by simp [h2], fun i hi hij => ?_, fun m hm => ?_⟩
  · by_cases e : i = j
    · subst e
      constructor
      · rw [Array.getElem?_setIfInBounds_ne (by omega), Array.getElem?_setIfInBounds_self_of_lt (by omega)]
      · rw [Array.getElem?_setIfInBounds_self_of_lt (by simp; omega)]
    · rw [Array.getElem?_setIfInBounds_ne (by omega), Array.getElem?_setIfInBounds_ne (by omega), Array.getElem?_setIfInBounds_ne (by omega), Array.getElem?_setIfInBounds_ne (by omega)]
      exact h3 i hi (by omega)
  · by_cases e : m = j * 2 + 1
    · subst e; exact ⟨_, by rw [Array.getElem?_setIfInBounds_self_of_lt (by simp; omega)]⟩
    · rw [Array.getElem?_setIfInBounds_ne (by omega)]
      by_cases e' : m = j * 2
      · subst e'; exact ⟨_, by rw [Array.getElem?_setIfInBounds_self_of_lt (by omega)]⟩
      · rw [Array.getElem?_setIfInBounds_ne (by omega)]; exact h4 m hm
theorem RowTo.done {ts : List (Int × Int)} {w : World} {g : Nat} (h : RowTo ts w g ts.length) (hs : ts.length ≤ 1048577) (hwf : ∀ t ∈ ts, inI t.1 ∧ inI t.2) : IsTyps w.heap.size w (.slice (some ⟨g, 0, none⟩) ts.length ts.length) ts := by
  obtain ⟨cs, h1, h2, h3, h4⟩ := h
  refine ⟨hs, hwf, some ⟨g, 0, none⟩, ts.length, rfl, Nat.le_refl _, by unfold maxLen; omega, .inr ⟨g, 0, rfl, blk_lt h1, fun i hi => ?_⟩⟩
  rw [cell_of_row w g _ cs _ _ h1, cell_of_row w g _ cs _ _ h1]
  simpa using h3 i hi hi
theorem RowTo.made {ts : List (Int × Int)} {w : World} {base g : Nat} (h : w.ownsRow base 88 2 (.slice (some ⟨g, 0, none⟩) ts.length ts.length) ts.length (madeCells #[.int .i64 0, .int .i64 0] (ts.length * 2)).toList) : RowTo ts w g 0 := by
  rcases h.2 with ⟨h', _⟩ | ⟨g', cap, cur, h', _, hg, _, _, hsz, htake⟩
  · cases h'
  · simp only [Value.slice.injEq, Option.some.injEq, Addr.mk.injEq, and_true, true_and] at h'
    obtain ⟨rfl, rfl⟩ := h'
    refine ⟨cur, hg, hsz, fun i _ hi => by omega, fun m hm => ⟨0, ?_⟩⟩
    have e : cur.toList[m]? = (madeCells #[.int .i64 0, .int .i64 0] (ts.length * 2)).toList[m]? := by rw [← htake, List.getElem?_take, if_pos hm]
    have e2 : cur[m]? = (madeCells #[.int .i64 0, .int .i64 0] (ts.length * 2))[m]? := by simpa using e
    rw [e2]
    have : m % 2 = 0 ∨ m % 2 = 1 := by omega
    rcases this with h2 | h2 <;> simp [madeCells, hm, h2]
end Go.Proofs.YtdncnjmlicdamaaGreatDoor
namespace Go.Proofs.YtdncnjmlicdamaaGreatDoor
open Go.RowKit Go.Sort
set_option linter.unusedVariables false
theorem cells_re {w : World} {a : Addr} {v : Value} (h : w.cell? a = some v) : ∀ d os, (grow (redrawn w d) os).cell? a = some v := fun d os => cell_regrown h d os
end Go.Proofs.YtdncnjmlicdamaaGreatDoor
namespace Go.Proofs.YtdncnjmlicdamaaGreatDoor
open Go.ChangeShapes Go.WideShapes Go.ChangeAt Go.RowKit
open Go.ChangeMaps (open_string shut_string)
set_option linter.unusedVariables false
theorem Tryz.own : ownKnob Tryz.prog.godebug = none := by kernel_rfl
theorem Tryz.laidOut : laidOutB Tryz.prog = true := by kernel_rfl
theorem Tryz.gKR : Tryz.prog.globalNamed "loop.example/g00774/impl.kindRows" = some 2 := by kernel_rfl
theorem Tryz.tKR : (Tryz.prog.globals[2]?).map (·.type) = some 139 := by kernel_rfl
abbrev laidKR : List (String × DataW Unit) := [("loop.example/g00774/impl.kindRows", Rows.laid_loop_example_g00774_impl_kindRows)]
/-- A row of the table, as data and as cells. -/
def rowD {H : Type} (j : Nat) : DataW H := .agg [.lit (.int .i64 ((j : Int) + 1)), .lit (.string (rs j).data.toList), .lit (.bool (rb j)), .lit (.int .i64 (rlo j)), .lit (.int .i64 (rhi j))]
def rowC (j : Nat) : List Value := [.int .i64 ((j : Int) + 1), .string (rs j), .bool (rb j), .int .i64 (rlo j), .int .i64 (rhi j)]
theorem laid_rows {H : Type} : (Rows.laid_loop_example_g00774_impl_kindRows : DataW H) = .agg ((List.range 9).map rowD) := rfl
theorem kc_rows : ∀ j, j < 9 → (kc.toList.drop (j * 5)).take 5 = rowC j
  | 0, _ => rfl
  | 1, _ => rfl
  | 2, _ => rfl
  | 3, _ => rfl
  | 4, _ => rfl
  | 5, _ => rfl
  | 6, _ => rfl
  | 7, _ => rfl
  | 8, _ => rfl
theorem chunks_ext {α : Type} {a b : List α} {n m : Nat} (hm : 0 < m) (ha : a.length = n * m) (hb : b.length = n * m) (h : ∀ i, i < n → (a.drop (i * m)).take m = (b.drop (i * m)).take m) : a = b := by
  apply List.ext_getElem?
  intro j
  by_cases hj : j < n * m
  · have hq : j / m < n := Nat.div_lt_of_lt_mul (by rw [Nat.mul_comm]; exact hj)
    have hr : j % m < m := Nat.mod_lt _ hm
    have e : j / m * m + j % m = j := by rw [Nat.mul_comm]; exact Nat.div_add_mod j m
    have h1 := congrArg (fun l : List α => l[j % m]?) (h (j / m) hq)
    simpa [List.getElem?_take, hr, List.getElem?_drop, e] using h1
  · rw [List.getElem?_eq_none (by omega), List.getElem?_eq_none (by omega)]
theorem str_inj {a b : ByteArray} (h : a.data.toList = b.data.toList) : a = b := by
  obtain ⟨⟨l⟩⟩ := a
  obtain ⟨⟨l'⟩⟩ := b
  simp at h
  subst h
  rfl
theorem drop_one {α : Type} {cs : List α} {i : Nat} {c : α} (h : (cs.drop i).take 1 = [c]) : cs[i]? = some c := by
  have := congrArg (fun l : List α => l[0]?) h
  simpa using this
set_option maxRecDepth 100000 in
/-- A row's cells, off its data. -/
theorem row_cells {H : Type} {enc : TypeId × Value → H} {w : World} {base : Nat} {sp : Nat → Bool} {held : Bool} {fuel : Nat} {cs : List Value} {p : List MemPlace} {j : Nat}
    (h : DataW.trod enc Tryz.prog w base sp held fuel 138 cs = some (rowD j, p)) : cs = rowC j := by
  obtain ⟨xs, m, _, hx, hlen, hxl, hf⟩ := DataW.trod_struct Tryz.underlying138 h
  have c72 : Tryz.prog.cellsOf 138 = 5 := by kernel_rfl
  have c2 : Tryz.prog.cellsOf 2 = 1 := by kernel_rfl
  have c9 : Tryz.prog.cellsOf 9 = 1 := by kernel_rfl
  have c4 : Tryz.prog.cellsOf 4 = 1 := by kernel_rfl
  rw [c72] at hlen
  have h0 : DataW.trod enc Tryz.prog w base sp held m 2 ((cs.drop 0).take (Tryz.prog.cellsOf 2)) = xs[0]? := hf 0 _ rfl
  rw [c2] at h0
  have h1 : DataW.trod enc Tryz.prog w base sp held m 9 ((cs.drop 1).take (Tryz.prog.cellsOf 9)) = xs[1]? := hf 1 _ rfl
  rw [c9] at h1
  have h2 : DataW.trod enc Tryz.prog w base sp held m 4 ((cs.drop 2).take (Tryz.prog.cellsOf 4)) = xs[2]? := hf 2 _ rfl
  rw [c4] at h2
  have h3 : DataW.trod enc Tryz.prog w base sp held m 2 ((cs.drop 3).take (Tryz.prog.cellsOf 2)) = xs[3]? := hf 3 _ rfl
  rw [c2] at h3
  have h4 : DataW.trod enc Tryz.prog w base sp held m 2 ((cs.drop 4).take (Tryz.prog.cellsOf 2)) = xs[4]? := hf 4 _ rfl
  rw [c2] at h4
  have hx1 := (DataW.agg.inj (Prod.mk.inj hx).1)
  match xs, hxl with
  | [x0, x1, x2, x3, x4], _ =>
    simp only [List.map_cons, List.map_nil, List.cons.injEq, and_true] at hx1
    obtain ⟨e0, e1, e2, e3, e4⟩ := hx1
    obtain ⟨n0, q0, r0, _⟩ := DataW.trod_int Tryz.underlying2 (show DataW.trod enc Tryz.prog w base sp held m 2 _ = some x0 from h0)
    obtain ⟨s1, q1, r1, _⟩ := DataW.trod_string Tryz.underlying9 (show DataW.trod enc Tryz.prog w base sp held m 9 _ = some x1 from h1)
    obtain ⟨b2, q2, r2⟩ := DataW.trod_bool Tryz.underlying4 (show DataW.trod enc Tryz.prog w base sp held m 4 _ = some x2 from h2)
    obtain ⟨n3, q3, r3, _⟩ := DataW.trod_int Tryz.underlying2 (show DataW.trod enc Tryz.prog w base sp held m 2 _ = some x3 from h3)
    obtain ⟨n4, q4, r4, _⟩ := DataW.trod_int Tryz.underlying2 (show DataW.trod enc Tryz.prog w base sp held m 2 _ = some x4 from h4)
    subst r0 r1 r2 r3 r4
    simp only [DataW.lit.injEq, Lit.int.injEq, Lit.string.injEq, Lit.bool.injEq, true_and] at e0 e1 e2 e3 e4
    have e1' := str_inj e1
    subst e0 e1' e2 e3 e4
    have g0 := drop_one q0
    have g1 := drop_one q1
    have g2 := drop_one q2
    have g3 := drop_one q3
    have g4 := drop_one q4
    match cs, hlen with
    | [a0, a1, a2, a3, a4], _ =>
      simp at g0 g1 g2 g3 g4
      subst g0 g1 g2 g3 g4
      rfl
set_option maxRecDepth 100000 in
theorem kr_of_laid {W : World} (h : laidMetH Tryz.prog laidKR W) : W.var? Tryz.prog "loop.example/g00774/impl.kindRows" = some kc := by
  rw [MakeChecks.laidMetH_plain _ _ _ (by kernel_rfl)] at h
  have h := h
  obtain ⟨ps, ⟨g, t, cs, fuel, p, q, hg, ht, hv, hd, _, _⟩, _, _⟩ := h
  obtain rfl := Option.some.inj (Tryz.gKR.symm.trans hg)
  obtain rfl := Option.some.inj (Tryz.tKR.symm.trans ht)
  have c73 : Tryz.prog.cellsOf 139 = 45 := by kernel_rfl
  have c72 : Tryz.prog.cellsOf 138 = 5 := by kernel_rfl
  obtain ⟨xs, m, _, ex, hlen, hl, hel⟩ := DataW.trod_array Tryz.underlying139 hd
  rw [c73] at hlen
  rw [laid_rows] at ex
  have e3 := (DataW.agg.inj (Prod.mk.inj ex).1)
  have : cs.toList = kc.toList := by
    refine chunks_ext (n := 9) (m := 5) (by omega) hlen (by rfl) (fun i hi => ?_)
    rw [kc_rows i hi]
    have h1 := hel i hi
    rw [c72] at h1
    have hx : xs[i]? = some xs[i] := List.getElem?_eq_getElem (by omega)
    rw [hx] at h1
    have h2 : xs[i].1 = rowD i := by
      have h3 := congrArg (fun l : List (DataW Unit) => l[i]?) e3
      simp [hx, hi] at h3
      exact h3.symm
    have h4 : xs[i] = (rowD i, xs[i].2) := by rw [← h2]
    rw [h4] at h1
    exact row_cells h1
  rw [hv]
  congr 1
  exact Array.ext' this
set_option maxRecDepth 100000 in
theorem KR.of_laid {W : World} (h : laidMetH Tryz.prog laidKR W) : KR W := by
  have hv := kr_of_laid h
  unfold World.var? at hv
  rw [Tryz.gKR] at hv
  simp only [Option.bind_some] at hv
  split at hv
  · rename_i cs t fr heq
    simp only [Option.some.injEq] at hv
    subst hv
    exact ⟨by rcases Nat.lt_or_ge 2 W.heap.size with h' | h'; exact h'; simp [Array.getElem?_eq_none h'] at heq, t, fr, heq⟩
  · cases hv
theorem reads_kr {H : Type} (enc : TypeId × Value → H) (W : World) (sp : Nat → Bool) : DataW.trod enc Tryz.prog W 0 sp true 4 139 kc.toList = some (Rows.laid_loop_example_g00774_impl_kindRows, []) := by kernel_rfl
theorem list_of {α : Type} {Q : Nat → α → Prop} : ∀ {n : Nat}, (∀ i, i < n → ∃ p, Q i p) → ∃ l : List α, l.length = n ∧ ∀ i (h : i < l.length), Q i l[i] := by
  intro n
  induction n with
  | zero => intro _; exact ⟨[], rfl, fun i h => by simp at h⟩
  | succ n ih =>
    intro h
    obtain ⟨l, hl, hq⟩ := ih (fun i hi => h i (by omega))
    obtain ⟨p, hp⟩ := h n (by omega)
    refine ⟨l ++ [p], by simp [hl], fun i hi => ?_⟩
    by_cases hi' : i < l.length
    · rw [List.getElem_append_left hi']; exact hq i hi'
    · have : i = l.length := by simp at hi; omega
      subst this
      simp [hl, hp]
/-- An argument that is a slice of types. -/
def ArgTyps (w : World) (ad : Option Addr) (len cap : Nat) : Prop := len ≤ cap ∧ cap ≤ maxLen ∧ (len ≤ 1048577 → ∃ ts : List (Int × Int), ts.length = len ∧ IsTyps w.heap.size w (.slice ad len cap) ts)
theorem wf_inI {n : Int} (h : (Lit.int .i64 n).wf = true) : inI n := by
  have := bounds_i64 h
  exact this
end Go.Proofs.YtdncnjmlicdamaaGreatDoor
namespace Go.Proofs.YtdncnjmlicdamaaGreatDoor
open Go.RowKit Go.Sort
set_option linter.unusedVariables false
/-- Items in memory, their strings of any length. -/
def RawItems (w : World) (ad : Option Addr) (vs : List It) : Prop := (∀ x ∈ vs, inI x.k ∧ x.n < 18446744073709551616 ∧ x.s.size ≤ maxLen) ∧ (vs.length = 0 ∨ ∃ b o, ad = some ⟨b, o, none⟩ ∧ b < w.heap.size ∧
  ∀ i (h : i < vs.length), w.cell? ⟨b, o + i * 3, none⟩ = some (.int .i64 vs[i].k) ∧ w.cell? ⟨b, o + i * 3 + 1, none⟩ = some (.int .u64 vs[i].n) ∧ w.cell? ⟨b, o + i * 3 + 2, none⟩ = some (.string vs[i].s))
theorem RawItems.below {w w' : World} {ad : Option Addr} {vs : List It} (h : RawItems w ad vs) (hb : Below w.heap.size w w') : RawItems w' ad vs := by
  refine ⟨h.1, h.2.imp id ?_⟩
  rintro ⟨b, o, e, hlt, hc⟩
  refine ⟨b, o, e, by have := hb.size; omega, fun i hi => ?_⟩
  rw [hb.cell (p := ⟨b, o + i * 3, none⟩) hlt, hb.cell (p := ⟨b, o + i * 3 + 1, none⟩) hlt, hb.cell (p := ⟨b, o + i * 3 + 2, none⟩) hlt]
  exact hc i hi
theorem RawItems.items {w : World} {ad : Option Addr} {vs : List It} {cap : Nat} (h : RawItems w ad vs) (hl : vs.length ≤ 1048577) (hc : vs.length ≤ cap) (hm : cap ≤ maxLen) (hs : ∀ x ∈ vs, x.s.size ≤ 1048577) : IsItems w.heap.size w (.slice ad vs.length cap) vs := by
  rcases h.2 with h0 | ⟨b, o, rfl, hlt, hcs⟩
  · exact ⟨0, 0, cap, ⟨hl, hc, hm, fun x hx => ⟨(h.1 x hx).1, (h.1 x hx).2.1, hs x hx⟩, .inl h0, fun i hi => by omega⟩, ad, by simp, .inl (by omega)⟩
  · exact ⟨b, o, cap, ⟨hl, hc, hm, fun x hx => ⟨(h.1 x hx).1, (h.1 x hx).2.1, hs x hx⟩, .inr hlt, hcs⟩, some ⟨b, o, none⟩, by simp, .inr (by simp)⟩
/-- An argument that is a slice of items. -/
def ArgItems (w : World) (ad : Option Addr) (len cap : Nat) : Prop := len ≤ cap ∧ cap ≤ maxLen ∧ ∃ vs : List It, vs.length = len ∧ RawItems w ad vs
theorem u64_nat {n : Int} (h : (Lit.int .u64 n).wf = true) : ∃ m : Nat, n = (m : Int) ∧ m < 18446744073709551616 := by
  have := bounds_u64 h
  exact ⟨n.toNat, by omega, by omega⟩
end Go.Proofs.YtdncnjmlicdamaaGreatDoor
namespace Go.Proofs.YtdncnjmlicdamaaGreatDoor
open Go.RowKit Go.Sort
set_option linter.unusedVariables false
theorem Tryz.infoItem : (Tryz.prog.info? 52).map (fun i => (i.zero, i.size, i.bytes)) = some (some (.agg #[.int .i64 0, .int .u64 0, .string ByteArray.empty]), 3, 32) := by kernel_rfl
/-- A row of items that a call has made, its first j elements set. -/
def RowIt (vs : List It) (w : World) (g j : Nat) : Prop := ∃ cs : Array Value, w.heap[g]? = some (.cells cs 52 (0, 0)) ∧ cs.size = vs.length * 3 ∧
  (∀ i (h : i < vs.length), i < j → cs[i * 3]? = some (.int .i64 vs[i].k) ∧ cs[i * 3 + 1]? = some (.int .u64 vs[i].n) ∧ cs[i * 3 + 2]? = some (.string vs[i].s)) ∧
  ∀ i, i < vs.length → (∃ z, cs[i * 3]? = some (.int .i64 z)) ∧ (∃ z, cs[i * 3 + 1]? = some (.int .u64 z)) ∧ ∃ z, cs[i * 3 + 2]? = some (.string z)
theorem RowIt.keep {vs : List It} {w w' : World} {g j : Nat} (h : RowIt vs w g j) (hb : w'.heap[g]? = w.heap[g]?) : RowIt vs w' g j := by
  obtain ⟨cs, h1, h2, h3, h4⟩ := h
  exact ⟨cs, hb.trans h1, h2, h3, h4⟩
theorem RowIt.cell {vs : List It} {w : World} {g j : Nat} (h : RowIt vs w g j) {i : Nat} (hi : i < vs.length) : ((∃ z, w.cell? ⟨g, i * 3, none⟩ = some (.int .i64 z)) ∧ (∃ z, w.cell? ⟨g, i * 3 + 1, none⟩ = some (.int .u64 z)) ∧ ∃ z, w.cell? ⟨g, i * 3 + 2, none⟩ = some (.string z)) ∧ ∀ m, w.frozen? ⟨g, m, none⟩ = false := by
  obtain ⟨cs, h1, h2, h3, h4⟩ := h
  obtain ⟨⟨z0, e0⟩, ⟨z1, e1⟩, ⟨z2, e2⟩⟩ := h4 i hi
  exact ⟨⟨⟨z0, by rw [cell_of_row w g _ cs _ _ h1]; exact e0⟩, ⟨z1, by rw [cell_of_row w g _ cs _ _ h1]; exact e1⟩, ⟨z2, by rw [cell_of_row w g _ cs _ _ h1]; exact e2⟩⟩, fun m => by simp [World.frozen?, h1]⟩
theorem RowIt.next {vs : List It} {w : World} {g j : Nat} (h : RowIt vs w g j) (hj : j < vs.length) : RowIt vs (((w.setCell ⟨g, j * 3, none⟩ (.int .i64 vs[j].k)).setCell ⟨g, j * 3 + 1, none⟩ (.int .u64 vs[j].n)).setCell ⟨g, j * 3 + 2, none⟩ (.string vs[j].s)) g (j + 1) := by
  obtain ⟨cs, h1, h2, h3, h4⟩ := h
  have e1 := set_block (i := j * 3) h1 (.int .i64 vs[j].k)
  have e2 := set_block (i := j * 3 + 1) e1 (.int .u64 vs[j].n)
  have e3 := set_block (i := j * 3 + 2) e2 (.string vs[j].s)
  have hat : ∀ c0 c1 c2 : Value, ((((cs.setIfInBounds (j * 3) c0).setIfInBounds (j * 3 + 1) c1).setIfInBounds (j * 3 + 2) c2)[j * 3]? = some c0) ∧ ((((cs.setIfInBounds (j * 3) c0).setIfInBounds (j * 3 + 1) c1).setIfInBounds (j * 3 + 2) c2)[j * 3 + 1]? = some c1) ∧ ((((cs.setIfInBounds (j * 3) c0).setIfInBounds (j * 3 + 1) c1).setIfInBounds (j * 3 + 2) c2)[j * 3 + 2]? = some c2) := fun c0 c1 c2 => by
    refine ⟨?_, ?_, ?_⟩
    · rw [Array.getElem?_setIfInBounds_ne (by omega), Array.getElem?_setIfInBounds_ne (by omega), Array.getElem?_setIfInBounds_self_of_lt (by omega)]
    · rw [Array.getElem?_setIfInBounds_ne (by omega), Array.getElem?_setIfInBounds_self_of_lt (by simp; omega)]
    · rw [Array.getElem?_setIfInBounds_self_of_lt (by simp; omega)]
  have hoff : ∀ (c0 c1 c2 : Value) i m, i ≠ j → m < 3 → (((cs.setIfInBounds (j * 3) c0).setIfInBounds (j * 3 + 1) c1).setIfInBounds (j * 3 + 2) c2)[i * 3 + m]? = cs[i * 3 + m]? := fun c0 c1 c2 i m hne hm => by
    rw [Array.getElem?_setIfInBounds_ne (by omega), Array.getElem?_setIfInBounds_ne (by omega), Array.getElem?_setIfInBounds_ne (by omega)]
  refine ⟨_, e3, by simp [h2], fun i hi hij => ?_, fun i hi => ?_⟩
  · by_cases e : i = j
    · subst e
      exact hat _ _ _
    · have q0 := hoff (.int .i64 vs[j].k) (.int .u64 vs[j].n) (.string vs[j].s) i 0 e (by omega)
      simp only [Nat.add_zero] at q0
      rw [q0, hoff _ _ _ i 1 e (by omega), hoff _ _ _ i 2 e (by omega)]
      exact h3 i hi (by omega)
  · by_cases e : i = j
    · subst e
      obtain ⟨q0, q1, q2⟩ := hat (.int .i64 vs[i].k) (.int .u64 vs[i].n) (.string vs[i].s)
      exact ⟨⟨_, q0⟩, ⟨_, q1⟩, ⟨_, q2⟩⟩
    · have q0 := hoff (.int .i64 vs[j].k) (.int .u64 vs[j].n) (.string vs[j].s) i 0 e (by omega)
      simp only [Nat.add_zero] at q0
      rw [q0, hoff _ _ _ i 1 e (by omega), hoff _ _ _ i 2 e (by omega)]
      exact h4 i hi
theorem RowIt.done {vs : List It} {w : World} {g : Nat} (h : RowIt vs w g vs.length) (hs : vs.length ≤ 1048577) (hwf : ∀ x ∈ vs, inI x.k ∧ x.n < 18446744073709551616 ∧ x.s.size ≤ 1048577) : IsItems w.heap.size w (.slice (some ⟨g, 0, none⟩) vs.length vs.length) vs := by
  obtain ⟨cs, h1, h2, h3, h4⟩ := h
  refine ⟨g, 0, vs.length, ⟨hs, Nat.le_refl _, by unfold maxLen; omega, hwf, .inr (blk_lt h1), fun i hi => ?_⟩, some ⟨g, 0, none⟩, by simp, .inr (by simp)⟩
  rw [cell_of_row w g _ cs _ _ h1, cell_of_row w g _ cs _ _ h1, cell_of_row w g _ cs _ _ h1]
  simpa using h3 i hi hi
theorem RowIt.made {vs : List It} {w : World} {base g : Nat} (h : w.ownsRow base 52 3 (.slice (some ⟨g, 0, none⟩) vs.length vs.length) vs.length (madeCells #[.int .i64 0, .int .u64 0, .string ByteArray.empty] (vs.length * 3)).toList) : RowIt vs w g 0 := by
  rcases h.2 with ⟨h', _⟩ | ⟨g', cap, cur, h', _, hg, _, _, hsz, htake⟩
  · cases h'
  · simp only [Value.slice.injEq, Option.some.injEq, Addr.mk.injEq, and_true, true_and] at h'
    obtain ⟨rfl, rfl⟩ := h'
    have key : ∀ m, m < vs.length * 3 → cur[m]? = (madeCells #[.int .i64 0, .int .u64 0, .string ByteArray.empty] (vs.length * 3))[m]? := fun m hm => by
      have e : cur.toList[m]? = (madeCells #[.int .i64 0, .int .u64 0, .string ByteArray.empty] (vs.length * 3)).toList[m]? := by rw [← htake, List.getElem?_take, if_pos hm]
      simpa using e
    refine ⟨cur, hg, hsz, fun i _ hi => by omega, fun i hi => ⟨⟨0, ?_⟩, ⟨0, ?_⟩, ⟨ByteArray.empty, ?_⟩⟩⟩
    · rw [key _ (by omega)]
      have h1 : i * 3 < vs.length * 3 := by omega
      have h2 : i * 3 % 3 = 0 := by omega
      simp [madeCells, h1, h2]
    · rw [key _ (by omega)]
      have h1 : i * 3 + 1 < vs.length * 3 := by omega
      have h2 : (i * 3 + 1) % 3 = 1 := by omega
      simp [madeCells, h1, h2]
    · rw [key _ (by omega)]
      have h1 : i * 3 + 2 < vs.length * 3 := by omega
      have h2 : (i * 3 + 2) % 3 = 2 := by omega
      simp [madeCells, h1, h2]
theorem IsItems.form {B : Nat} {w : World} {v : Value} {vs : List It} (h : IsItems B w v vs) : ∃ ad C, v = .slice ad vs.length C ∧ vs.length ≤ 1048577 ∧ vs.length ≤ C ∧ C ≤ maxLen ∧ ∀ x ∈ vs, inI x.k ∧ x.n < 18446744073709551616 ∧ x.s.size ≤ 1048577 := by
  obtain ⟨b, o, C, hI, ad, rfl, _⟩ := h
  exact ⟨ad, C, by simp, hI.small, hI.room, hI.most, hI.wf⟩
theorem IsItems.at {B : Nat} {w : World} {v : Value} {vs : List It} (h : IsItems B w v vs) {i : Nat} (hi : i < vs.length) : ∃ b o C, v = .slice (some ⟨b, o, none⟩) vs.length C ∧ b < B ∧ vs.length ≤ C ∧ C ≤ maxLen ∧ w.cell? ⟨b, o + i * 3, none⟩ = some (.int .i64 vs[i].k) ∧ w.cell? ⟨b, o + i * 3 + 1, none⟩ = some (.int .u64 vs[i].n) ∧ w.cell? ⟨b, o + i * 3 + 2, none⟩ = some (.string vs[i].s) := by
  obtain ⟨b, o, C, hI, hF⟩ := h
  have hv := hF.at (show 0 < vs.length by omega)
  rw [Nat.sub_zero, Nat.sub_zero, Nat.zero_mul, Nat.add_zero] at hv
  exact ⟨b, o, C, hv, hI.low.resolve_left (by omega), hI.room, hI.most, hI.cells i hi⟩
end Go.Proofs.YtdncnjmlicdamaaGreatDoor
