/- Items in memory, where no schema is there; the exact laws' own helpers on items: contracts. -/
import Derived.Test.YtknbmheenfdebaaDoorPv
import Derived.Test.YtknbmheenfdebaaDoorBase
import Derived.Lib.QuietBelow
import Derived.BigQuiet
import Derived.Lib.Strings
import Derived.Deep.LoopGhost
import Derived.Deep.SlicePairs
import Derived.LaidMore
import Derived.LaidOnce
import Derived.LaidSub
namespace Go.Proofs.YtknbmheenfdebaaDoor
open Go.RowKit Go.Sort
set_option linter.unusedVariables false
def inI (n : Int) : Prop := -9223372036854775808 ≤ n ∧ n ≤ 9223372036854775807
theorem bel1 (w : World) (o : Obj) : Below w.heap.size w (w.alloc o) := (Below.refl _ _).alloc (Nat.le_refl _) _
theorem ret_b {a b : Bool} (h : a = b) : Ending.returned (.bool a) = .returned (.bool b) := by rw [h]
theorem ret_i {k : IntKind} {a b : Int} (h : a = b) : Ending.returned (.int k a) = .returned (.int k b) := by rw [h]
theorem beqF {a b : Int} (h : a ≠ b) : (a == b) = false := by simp [h]
theorem beq_dec (a b : Int) : (a == b) = decide (a = b) := by by_cases h : a = b <;> simp [h]
theorem set_block {w : World} {N i : Nat} {cs : Array Value} {t : TypeId} {fr : Nat × Nat} (h : w.heap[N]? = some (.cells cs t fr)) (v : Value) : (w.setCell ⟨N, i, none⟩ v).heap[N]? = some (.cells (cs.setIfInBounds i v) t fr) := by
  have hlt : N < w.heap.size := by
    rcases Nat.lt_or_ge N w.heap.size with h' | h'
    · exact h'
    · simp [Array.getElem?_eq_none h'] at h
  have h' : w.heap[N] = .cells cs t fr := by simpa [Array.getElem?_eq_getElem hlt] using h
  show (w.heap.modify N _)[N]? = _
  rw [Array.getElem?_eq_getElem (by simpa using hlt), Array.getElem_modify_self, h']
  rfl
theorem blk_lt {w : World} {b : Nat} {o : Obj} (h : w.heap[b]? = some o) : b < w.heap.size := by
  rcases Nat.lt_or_ge b w.heap.size with h' | h'
  · exact h'
  · simp [Array.getElem?_eq_none h'] at h
theorem below_step3 {W w w' : World} {B : Nat} (h : Below B W w) (k : Below w.heap.size w w') (hB : B ≤ w.heap.size) : Below B W w' := h.trans (k.mono hB)
theorem cells_re {w : World} {a : Addr} {v : Value} (h : w.cell? a = some v) : ∀ d os, (grow (redrawn w d) os).cell? a = some v := fun d os => cell_regrown h d os
theorem bel2 (w : World) (o o' : Obj) : Below w.heap.size w ((w.alloc o).alloc o') := ((Below.refl _ _).alloc (Nat.le_refl _) _).alloc (by simp) _
/-- Items in memory: from block b, offset o on, three cells each; C: how many there is room for. -/
structure ItemsAt (B : Nat) (w : World) (b o C : Nat) (vs : List It) : Prop where
  small : vs.length ≤ 1048577
  room : vs.length ≤ C
  most : C ≤ maxLen
  wf : ∀ x ∈ vs, inI x.k ∧ x.n < 18446744073709551616 ∧ x.s.size ≤ 1048577
  low : vs.length = 0 ∨ b < B
  cells : ∀ i (h : i < vs.length), w.cell? ⟨b, o + i * 3, none⟩ = some (.int .i64 vs[i].k) ∧ w.cell? ⟨b, o + i * 3 + 1, none⟩ = some (.int .u64 vs[i].n) ∧ w.cell? ⟨b, o + i * 3 + 2, none⟩ = some (.string vs[i].s)
theorem ItemsAt.below {B : Nat} {w w' : World} {b o C : Nat} {vs : List It} (h : ItemsAt B w b o C vs) (hb : Below B w w') : ItemsAt B w' b o C vs := by
  refine ⟨h.small, h.room, h.most, h.wf, h.low, fun i hi => ?_⟩
  have hlt : b < B := h.low.resolve_left (by omega)
  rw [hb.cell (p := ⟨b, o + i * 3, none⟩) hlt, hb.cell (p := ⟨b, o + i * 3 + 1, none⟩) hlt, hb.cell (p := ⟨b, o + i * 3 + 2, none⟩) hlt]
  exact h.cells i hi
theorem ItemsAt.up {B B' : Nat} {w : World} {b o C : Nat} {vs : List It} (h : ItemsAt B w b o C vs) (hB : B ≤ B') : ItemsAt B' w b o C vs :=
  ⟨h.small, h.room, h.most, h.wf, h.low.imp id (fun h => by omega), h.cells⟩
/-- The slice of what stands from place q on. -/
def FromQ (b o C : Nat) (vs : List It) (q : Nat) (v : Value) : Prop := ∃ ad, v = .slice ad (vs.length - q) (C - q) ∧ (vs.length ≤ q ∨ ad = some ⟨b, o + q * 3, none⟩)
theorem FromQ.at {b o C : Nat} {vs : List It} {q : Nat} {v : Value} (h : FromQ b o C vs q v) (hq : q < vs.length) : v = .slice (some ⟨b, o + q * 3, none⟩) (vs.length - q) (C - q) := by
  obtain ⟨ad, rfl, h1⟩ := h
  rcases h1 with h1 | rfl
  · omega
  · rfl
theorem str_empty (s : ByteArray) : s.toList.isEmpty = decide (s.size = 0) := by
  rw [ByteArray.toList_eq]
  obtain ⟨⟨l⟩⟩ := s
  cases l with
  | nil => rfl
  | cons a l => simp [ByteArray.size]
def IsItems (B : Nat) (w : World) (v : Value) (vs : List It) : Prop := ∃ b o C, ItemsAt B w b o C vs ∧ FromQ b o C vs 0 v
theorem IsItems.below {B : Nat} {w w' : World} {v : Value} {vs : List It} (h : IsItems B w v vs) (hb : Below B w w') : IsItems B w' v vs := by
  obtain ⟨b, o, C, h1, h2⟩ := h
  exact ⟨b, o, C, h1.below hb, h2⟩
theorem IsItems.up {B B' : Nat} {w : World} {v : Value} {vs : List It} (h : IsItems B w v vs) (hB : B ≤ B') : IsItems B' w v vs := by
  obtain ⟨b, o, C, h1, h2⟩ := h
  exact ⟨b, o, C, h1.up hB, h2⟩
theorem typedB_no {ts : List (Int × Int)} {vs : List It} (h : schOk ts = false) : typedB ts vs = false := by simp [typedB, h]
theorem typedB_big {ts : List (Int × Int)} {vs : List It} (h : 200 < vs.length) : typedB ts vs = false := by
  have : decide (vs.length ≤ 200) = false := by simp; omega
  simp [typedB, this]
theorem typedB_none {ts : List (Int × Int)} {vs : List It} (h : ve ts vs 7 0 0 = none) : typedB ts vs = false := by simp [typedB, h]
theorem typedB_some {ts : List (Int × Int)} {vs : List It} {q : Nat} (hs : schOk ts = true) (hl : vs.length ≤ 200) (h : ve ts vs 7 0 0 = some q) : typedB ts vs = decide (vs.length - q = 0) := by
  have h2 := (ve_lt h).2
  have hl' : decide (vs.length ≤ 200) = true := by simpa using hl
  unfold typedB
  rw [hs, hl', h]
  simp only [Bool.true_and]
  by_cases e : q = vs.length
  · subst e; simp
  · have e1 : (some q == some vs.length) = false := by simp [e]
    rw [e1]
    symm
    simp only [decide_eq_false_iff_not]
    omega
theorem list_of {α : Type} {Q : Nat → α → Prop} : ∀ {n : Nat}, (∀ i, i < n → ∃ p, Q i p) → ∃ l : List α, l.length = n ∧ ∀ i (h : i < l.length), Q i l[i] := by
  intro n
  induction n with
  | zero => intro _; exact ⟨[], rfl, fun i h => by simp at h⟩
  | succ n ih =>
    intro h
    obtain ⟨l, hl, hq⟩ := ih (fun i hi => h i (by omega))
    obtain ⟨p, hp⟩ := h n (by omega)
    refine ⟨l ++ [p], by simp [hl], fun i hi => ?_⟩
    by_cases hi' : i < l.length
    · rw [List.getElem_append_left hi']; exact hq i hi'
    · have : i = l.length := by simp at hi; omega
      subst this
      simp [hl, hp]
theorem wf_inI {n : Int} (h : (Lit.int .i64 n).wf = true) : inI n := by
  have := bounds_i64 h
  exact this
/-- Items in memory, their strings of any length. -/
def RawItems (w : World) (ad : Option Addr) (vs : List It) : Prop := (∀ x ∈ vs, inI x.k ∧ x.n < 18446744073709551616 ∧ x.s.size ≤ maxLen) ∧ (vs.length = 0 ∨ ∃ b o, ad = some ⟨b, o, none⟩ ∧ b < w.heap.size ∧
  ∀ i (h : i < vs.length), w.cell? ⟨b, o + i * 3, none⟩ = some (.int .i64 vs[i].k) ∧ w.cell? ⟨b, o + i * 3 + 1, none⟩ = some (.int .u64 vs[i].n) ∧ w.cell? ⟨b, o + i * 3 + 2, none⟩ = some (.string vs[i].s))
theorem RawItems.below {w w' : World} {ad : Option Addr} {vs : List It} (h : RawItems w ad vs) (hb : Below w.heap.size w w') : RawItems w' ad vs := by
  refine ⟨h.1, h.2.imp id ?_⟩
  rintro ⟨b, o, e, hlt, hc⟩
  refine ⟨b, o, e, by have := hb.size; omega, fun i hi => ?_⟩
  rw [hb.cell (p := ⟨b, o + i * 3, none⟩) hlt, hb.cell (p := ⟨b, o + i * 3 + 1, none⟩) hlt, hb.cell (p := ⟨b, o + i * 3 + 2, none⟩) hlt]
  exact hc i hi
theorem RawItems.items {w : World} {ad : Option Addr} {vs : List It} {cap : Nat} (h : RawItems w ad vs) (hl : vs.length ≤ 1048577) (hc : vs.length ≤ cap) (hm : cap ≤ maxLen) (hs : ∀ x ∈ vs, x.s.size ≤ 1048577) : IsItems w.heap.size w (.slice ad vs.length cap) vs := by
  rcases h.2 with h0 | ⟨b, o, rfl, hlt, hcs⟩
  · exact ⟨0, 0, cap, ⟨hl, hc, hm, fun x hx => ⟨(h.1 x hx).1, (h.1 x hx).2.1, hs x hx⟩, .inl h0, fun i hi => by omega⟩, ad, by simp, .inl (by omega)⟩
  · exact ⟨b, o, cap, ⟨hl, hc, hm, fun x hx => ⟨(h.1 x hx).1, (h.1 x hx).2.1, hs x hx⟩, .inr hlt, hcs⟩, some ⟨b, o, none⟩, by simp, .inr (by simp)⟩
/-- An argument that is a slice of items. -/
def ArgItems (w : World) (ad : Option Addr) (len cap : Nat) : Prop := len ≤ cap ∧ cap ≤ maxLen ∧ ∃ vs : List It, vs.length = len ∧ RawItems w ad vs
theorem u64_nat {n : Int} (h : (Lit.int .u64 n).wf = true) : ∃ m : Nat, n = (m : Int) ∧ m < 18446744073709551616 := by
  have := bounds_u64 h
  exact ⟨n.toNat, by omega, by omega⟩
set_option maxRecDepth 100000 in
theorem open_items {H : Type} {enc : TypeId × Value → H} {w : World} {sp : Nat → Bool} {held : Bool} {fuel : Nat} {ad : Option Addr} {len cap : Nat} {x : DataW H × List MemPlace} (h : DataW.trod enc Tryd.prog w 0 sp held fuel 22 [.slice ad len cap] = some x) : ArgItems w ad len cap := by
  have ce : Tryd.prog.cellsOf 32 = 3 := by kernel_rfl
  have c0 : Tryd.prog.cellsOf 2 = 1 := by kernel_rfl
  have c1 : Tryd.prog.cellsOf 30 = 1 := by kernel_rfl
  have c2 : Tryd.prog.cellsOf 9 = 1 := by kernel_rfl
  rcases Deep.open_slice Tryd.underlying22 h with ⟨hcs, _⟩ | ⟨a, len', cap', m, n, D, Pl, hcs, _, hl, hm, hmm, _, hx⟩
  · simp at hcs
    obtain ⟨rfl, rfl, rfl⟩ := hcs
    exact ⟨Nat.le_refl _, by simp [maxLen], [], rfl, by simp, .inl rfl⟩
  · simp at hcs
    obtain ⟨rfl, rfl, rfl⟩ := hcs
    have hlm : len ≤ m := by rw [hmm]; split <;> omega
    refine ⟨hl, hm, ?_⟩
    obtain ⟨vs, hvs, hq⟩ := list_of (α := It) (n := len) (Q := fun i p => w.cell? (a.add (i * 3)) = some (.int .i64 p.k) ∧ w.cell? (a.add (i * 3 + 1)) = some (.int .u64 p.n) ∧ w.cell? (a.add (i * 3 + 2)) = some (.string p.s) ∧ inI p.k ∧ p.n < 18446744073709551616 ∧ p.s.size ≤ maxLen) (fun i hi' => by
      obtain ⟨cs', h1, h2⟩ := hx i (by omega)
      rw [ce] at h1
      obtain ⟨_, hlen, hcell⟩ := World.cells?_some h1
      obtain ⟨xs, k, hk, hxy, _, hxl, hf⟩ := DataW.trod_struct Tryd.underlying32 h2
      match xs, hxl, cs', hlen with
      | [y0, y1, y2], _, [v0, v1, v2], _ =>
        have g0 := hf 0 _ rfl
        have g1 := hf 1 _ rfl
        have g2 := hf 2 _ rfl
        simp [c0, c1, c2] at g0 g1 g2
        have e0 := hcell 0 (by omega)
        have e1 := hcell 1 (by omega)
        have e2 := hcell 2 (by omega)
        rw [Deep.add_add] at e0 e1 e2
        obtain ⟨n0, q0, _, w0⟩ := DataW.trod_int Tryd.underlying2 g0
        obtain ⟨n1, q1, _, w1⟩ := DataW.trod_int Tryd.underlying30 g1
        obtain ⟨s2, q2, _, w2⟩ := DataW.trod_string Tryd.underlying9 g2
        simp at q0 q1 q2
        subst q0 q1 q2
        obtain ⟨m1, rfl, hm1⟩ := u64_nat w1
        exact ⟨⟨n0, m1, s2⟩, by simpa using e0, by simpa using e1, by simpa using e2, wf_inI w0, hm1, w2⟩)
    refine ⟨vs, hvs, fun x hx => ?_, ?_⟩
    · obtain ⟨i, hi', rfl⟩ := List.getElem_of_mem hx
      exact (hq i hi').2.2.2
    · by_cases h0 : vs.length = 0
      · exact .inl h0
      · obtain ⟨b, off, spot⟩ := a
        have hc := (hq 0 (by omega)).1
        have hspot : spot = none := by simpa [Addr.add] using World.cell?_spot hc
        subst hspot
        have hadd : ∀ k, (⟨b, off, none⟩ : Addr).add k = ⟨b, off + k, none⟩ := fun k => by unfold Addr.add; split <;> simp_all
        refine .inr ⟨b, off, rfl, ?_, fun i hi' => ?_⟩
        · rw [hadd] at hc; exact World.block_lt_of_cell? w _ hc
        · have := hq i hi'
          rw [hadd, hadd, hadd] at this
          exact ⟨this.1, by rw [Nat.add_assoc]; exact this.2.1, by rw [Nat.add_assoc]; exact this.2.2.1⟩
set_option maxHeartbeats 400000 in
theorem szItem_any (x : It) (L : Nat) (w : World) (hL : L ≤ 1048576) (hs : x.s.size ≤ maxLen) : Calls Tryd.prog 9 #[.agg #[.int .i64 x.k, .int .u64 x.n, .string x.s], .int .i64 (L : Int)] w fun e w' => e = .returned (.int .i64 (if L < x.s.size then -1 else (L : Int) - x.s.size)) ∧ Below w.heap.size w w' := by
  unfold maxLen at hs
  obtain ⟨k, n, s⟩ := x
  simp only at hs ⊢
  by_cases h : L < s.size
  · rw [if_pos h]
    have h' : (L : Int) - (s.size : Int) < 0 := by omega
    go_enter Tryd.func9, Tryd.ntmps9
    go_wp2
    go_ret
    exact ⟨rfl, bel1 _ _⟩
  · rw [if_neg h]
    have h' : ¬ (L : Int) - (s.size : Int) < 0 := by omega
    go_enter Tryd.func9, Tryd.ntmps9
    go_wp2
    go_ret
    exact ⟨rfl, bel1 _ _⟩
set_option maxHeartbeats 400000 in
theorem szItemS_big (ad : Option Addr) (len cap L : Nat) (w : World) (hL : L ≤ 1048576) (hl : len ≤ maxLen) (h : L < len) : Calls Tryd.prog 4 #[.slice ad len cap, .int .i64 (L : Int)] w fun e w' => e = .returned (.int .i64 (-1)) ∧ Below w.heap.size w w' := by
  unfold maxLen at hl
  have h' : (L : Int) - (len : Int) < 0 := by omega
  go_enter Tryd.func4, Tryd.ntmps4
  go_wp2
  go_ret
  exact ⟨rfl, Below.refl _ _⟩
set_option maxRecDepth 100000 in
set_option maxHeartbeats 1000000 in
theorem szItemS_any (vs : List It) (ad : Option Addr) (cap L : Nat) (w : World) (hL : L ≤ 1048576) (hc : vs.length ≤ cap) (hm : cap ≤ maxLen) (h : vs.length ≤ L) (hv : RawItems w ad vs) : Calls Tryd.prog 4 #[.slice ad vs.length cap, .int .i64 (L : Int)] w fun e w' => (∃ r : Int, e = .returned (.int .i64 r) ∧ (r = -1 ∨ (0 ≤ r ∧ ∀ x ∈ vs, x.s.size ≤ 1048577))) ∧ Below w.heap.size w w' := by
  have HV : Hid (RawItems w ad vs) := hv
  unfold maxLen at hm
  obtain ⟨M, hM⟩ : ∃ M : Nat, (L : Int) - (vs.length : Int) = (M : Int) := ⟨L - vs.length, by omega⟩
  have hMl : M ≤ 1048576 := by omega
  have hMn : ¬ (M : Int) < 0 := by omega
  clear hv
  go_enter Tryd.func4, Tryd.ntmps4
  go_wp2_with fail
  go_loopg [1, 5] vs.length (fun gk l i wr => ∃ j y : Nat, j + gk = vs.length ∧ i = .int .i64 j ∧ l = .int .i64 y ∧ y ≤ 1048576 ∧ (∀ x ∈ vs.take j, x.s.size ≤ 1048577) ∧ Below w.heap.size w wr)
  case atStart => exact ⟨0, M, by omega, rfl, by first | rfl | (rw [← hM]; first | rfl | go_num), hMl, by simp, Below.refl _ _⟩
  case round =>
    clear hM hMl hMn
    obtain ⟨j, y, hj', rfl, rfl, hy, hall, hbel⟩ := hrel
    have HJ : Hid (j + gk = vs.length) := hj'
    have HA : Hid (∀ x ∈ vs.take j, x.s.size ≤ 1048577) := hall
    have HB : Hid (Below w.heap.size w wr) := hbel
    have hj : j ≤ vs.length := by omega
    clear hj' hall
    by_cases hlt : j < vs.length
    · obtain ⟨_, h0 | ⟨b, o, rfl, hb, hcs⟩⟩ := HV.out.below hbel
      · omega
      have hsz := (HV.out.1 vs[j] (List.getElem_mem hlt)).2.2
      obtain ⟨c0, c1, c2⟩ := hcs j hlt
      have HC : Hid (Calls Tryd.prog 9 #[.agg #[.int .i64 vs[j].k, .int .u64 vs[j].n, .string vs[j].s], .int .i64 (y : Int)] wr fun e w' => e = .returned (.int .i64 (if y < vs[j].s.size then -1 else (y : Int) - vs[j].s.size)) ∧ Below wr.heap.size wr w') := szItem_any vs[j] y wr hy hsz
      have HT : Hid (vs[j].s.size ≤ y → ∀ x ∈ vs.take (j + 1), x.s.size ≤ 1048577) := fun hs x hx => by
        rw [List.take_succ_eq_append_getElem hlt] at hx
        rcases List.mem_append.1 hx with hx | hx
        · exact HA.out x hx
        · simp at hx; subst hx; omega
      clear hcs hbel hsz
      generalize vs[j] = it at *
      obtain ⟨ik, im, is⟩ := it
      simp only at c0 c1 c2 HC HT
      by_cases hs : y < is.size
      · rw [if_pos hs] at HC
        clear HT
        go_wp2_with fail
        refine Calls.mono HC.out ?_
        rintro e w2 ⟨rfl, hb2⟩
        have HB2 : Hid (Below w.heap.size w w2) := HB.out.trans (hb2.mono HB.out.size)
        clear hb2 c0 c1 c2
        go_wp2_with fail
        go_ret
        exact ⟨⟨-1, by first | rfl | simp, .inl rfl⟩, HB2.out⟩
      · rw [if_neg hs] at HC
        obtain ⟨y1, hy1⟩ : ∃ y1 : Nat, (y : Int) - (is.size : Int) = (y1 : Int) := ⟨y - is.size, by omega⟩
        have hy1l : y1 ≤ 1048576 := by omega
        have HT2 : Hid (∀ x ∈ vs.take (j + 1), x.s.size ≤ 1048577) := HT.out (by omega)
        rw [hy1] at HC
        have hyn : ¬ (y1 : Int) < 0 := by omega
        clear HT hs hy1
        go_wp2_with fail
        refine Calls.mono HC.out ?_
        rintro e w2 ⟨rfl, hb2⟩
        have HB2 : Hid (Below w.heap.size w w2) := HB.out.trans (hb2.mono HB.out.size)
        clear hb2 c0 c1 c2
        go_wp2_with fail
        go_roundg (gk - 1)
        case rel => exact ⟨j + 1, y1, by have := HJ.out; omega, by go_num, rfl, hy1l, HT2.out, HB2.out⟩
        case measure => have := HJ.out; omega
    · have e1 : j = vs.length := by omega
      subst e1
      have HT : Hid (∀ x ∈ vs, x.s.size ≤ 1048577) := by have := HA.out; rwa [List.take_length] at this
      clear HA hbel
      go_wp2_with fail
      go_ret
      exact ⟨⟨_, rfl, .inr ⟨by omega, HT.out⟩⟩, HB.out⟩
set_option maxHeartbeats 400000 in
theorem toItem_any (k : Int) (n : Nat) (s : ByteArray) (w : World) : Calls Tryd.prog 12 #[.agg #[.int .i64 k, .int .u64 n, .string s]] w fun e w' => e = .returned (.agg #[.int .i64 k, .int .u64 n, .string s]) ∧ Below w.heap.size w w' := by
  go_enter Tryd.func12, Tryd.ntmps12
  go_wp2
  exact bodyPost_ret (v := .agg #[.int .i64 k, .int .u64 n, .string s]) (by simp [results, Tryd.results12, go_sem]) rfl ⟨rfl, (((Below.refl _ _).alloc (Nat.le_refl _) _).alloc (by simp) _).alloc (by simp; omega) _⟩
theorem Tryd.infoItem : (Tryd.prog.info? 34).map (fun i => (i.zero, i.size, i.bytes)) = some (some (.agg #[.int .i64 0, .int .u64 0, .string ByteArray.empty]), 3, 32) := by kernel_rfl
/-- A row of items that a call has made, its first j elements set. -/
def RowIt (vs : List It) (w : World) (g j : Nat) : Prop := ∃ cs : Array Value, w.heap[g]? = some (.cells cs 34 (0, 0)) ∧ cs.size = vs.length * 3 ∧
  (∀ i (h : i < vs.length), i < j → cs[i * 3]? = some (.int .i64 vs[i].k) ∧ cs[i * 3 + 1]? = some (.int .u64 vs[i].n) ∧ cs[i * 3 + 2]? = some (.string vs[i].s)) ∧
  ∀ i, i < vs.length → (∃ z, cs[i * 3]? = some (.int .i64 z)) ∧ (∃ z, cs[i * 3 + 1]? = some (.int .u64 z)) ∧ ∃ z, cs[i * 3 + 2]? = some (.string z)
theorem RowIt.keep {vs : List It} {w w' : World} {g j : Nat} (h : RowIt vs w g j) (hb : w'.heap[g]? = w.heap[g]?) : RowIt vs w' g j := by
  obtain ⟨cs, h1, h2, h3, h4⟩ := h
  exact ⟨cs, hb.trans h1, h2, h3, h4⟩
theorem RowIt.cell {vs : List It} {w : World} {g j : Nat} (h : RowIt vs w g j) {i : Nat} (hi : i < vs.length) : ((∃ z, w.cell? ⟨g, i * 3, none⟩ = some (.int .i64 z)) ∧ (∃ z, w.cell? ⟨g, i * 3 + 1, none⟩ = some (.int .u64 z)) ∧ ∃ z, w.cell? ⟨g, i * 3 + 2, none⟩ = some (.string z)) ∧ ∀ m, w.frozen? ⟨g, m, none⟩ = false := by
  obtain ⟨cs, h1, h2, h3, h4⟩ := h
  obtain ⟨⟨z0, e0⟩, ⟨z1, e1⟩, ⟨z2, e2⟩⟩ := h4 i hi
  exact ⟨⟨⟨z0, by rw [cell_of_row w g _ cs _ _ h1]; exact e0⟩, ⟨z1, by rw [cell_of_row w g _ cs _ _ h1]; exact e1⟩, ⟨z2, by rw [cell_of_row w g _ cs _ _ h1]; exact e2⟩⟩, fun m => by simp [World.frozen?, h1]⟩
theorem RowIt.next {vs : List It} {w : World} {g j : Nat} (h : RowIt vs w g j) (hj : j < vs.length) : RowIt vs (((w.setCell ⟨g, j * 3, none⟩ (.int .i64 vs[j].k)).setCell ⟨g, j * 3 + 1, none⟩ (.int .u64 vs[j].n)).setCell ⟨g, j * 3 + 2, none⟩ (.string vs[j].s)) g (j + 1) := by
  obtain ⟨cs, h1, h2, h3, h4⟩ := h
  have e1 := set_block (i := j * 3) h1 (.int .i64 vs[j].k)
  have e2 := set_block (i := j * 3 + 1) e1 (.int .u64 vs[j].n)
  have e3 := set_block (i := j * 3 + 2) e2 (.string vs[j].s)
  have hat : ∀ c0 c1 c2 : Value, ((((cs.setIfInBounds (j * 3) c0).setIfInBounds (j * 3 + 1) c1).setIfInBounds (j * 3 + 2) c2)[j * 3]? = some c0) ∧ ((((cs.setIfInBounds (j * 3) c0).setIfInBounds (j * 3 + 1) c1).setIfInBounds (j * 3 + 2) c2)[j * 3 + 1]? = some c1) ∧ ((((cs.setIfInBounds (j * 3) c0).setIfInBounds (j * 3 + 1) c1).setIfInBounds (j * 3 + 2) c2)[j * 3 + 2]? = some c2) := fun c0 c1 c2 => by
    refine ⟨?_, ?_, ?_⟩
    · rw [Array.getElem?_setIfInBounds_ne (by omega), Array.getElem?_setIfInBounds_ne (by omega), Array.getElem?_setIfInBounds_self_of_lt (by omega)]
    · rw [Array.getElem?_setIfInBounds_ne (by omega), Array.getElem?_setIfInBounds_self_of_lt (by simp; omega)]
    · rw [Array.getElem?_setIfInBounds_self_of_lt (by simp; omega)]
  have hoff : ∀ (c0 c1 c2 : Value) i m, i ≠ j → m < 3 → (((cs.setIfInBounds (j * 3) c0).setIfInBounds (j * 3 + 1) c1).setIfInBounds (j * 3 + 2) c2)[i * 3 + m]? = cs[i * 3 + m]? := fun c0 c1 c2 i m hne hm => by
    rw [Array.getElem?_setIfInBounds_ne (by omega), Array.getElem?_setIfInBounds_ne (by omega), Array.getElem?_setIfInBounds_ne (by omega)]
  refine ⟨_, e3, by simp [h2], fun i hi hij => ?_, fun i hi => ?_⟩
  · by_cases e : i = j
    · subst e
      exact hat _ _ _
    · have q0 := hoff (.int .i64 vs[j].k) (.int .u64 vs[j].n) (.string vs[j].s) i 0 e (by omega)
      simp only [Nat.add_zero] at q0
      rw [q0, hoff _ _ _ i 1 e (by omega), hoff _ _ _ i 2 e (by omega)]
      exact h3 i hi (by omega)
  · by_cases e : i = j
    · subst e
      obtain ⟨q0, q1, q2⟩ := hat (.int .i64 vs[i].k) (.int .u64 vs[i].n) (.string vs[i].s)
      exact ⟨⟨_, q0⟩, ⟨_, q1⟩, ⟨_, q2⟩⟩
    · have q0 := hoff (.int .i64 vs[j].k) (.int .u64 vs[j].n) (.string vs[j].s) i 0 e (by omega)
      simp only [Nat.add_zero] at q0
      rw [q0, hoff _ _ _ i 1 e (by omega), hoff _ _ _ i 2 e (by omega)]
      exact h4 i hi
theorem RowIt.done {vs : List It} {w : World} {g : Nat} (h : RowIt vs w g vs.length) (hs : vs.length ≤ 1048577) (hwf : ∀ x ∈ vs, inI x.k ∧ x.n < 18446744073709551616 ∧ x.s.size ≤ 1048577) : IsItems w.heap.size w (.slice (some ⟨g, 0, none⟩) vs.length vs.length) vs := by
  obtain ⟨cs, h1, h2, h3, h4⟩ := h
  refine ⟨g, 0, vs.length, ⟨hs, Nat.le_refl _, by unfold maxLen; omega, hwf, .inr (blk_lt h1), fun i hi => ?_⟩, some ⟨g, 0, none⟩, by simp, .inr (by simp)⟩
  rw [cell_of_row w g _ cs _ _ h1, cell_of_row w g _ cs _ _ h1, cell_of_row w g _ cs _ _ h1]
  simpa using h3 i hi hi
theorem RowIt.made {vs : List It} {w : World} {base g : Nat} (h : w.ownsRow base 34 3 (.slice (some ⟨g, 0, none⟩) vs.length vs.length) vs.length (madeCells #[.int .i64 0, .int .u64 0, .string ByteArray.empty] (vs.length * 3)).toList) : RowIt vs w g 0 := by
  rcases h.2 with ⟨h', _⟩ | ⟨g', cap, cur, h', _, hg, _, _, hsz, htake⟩
  · cases h'
  · simp only [Value.slice.injEq, Option.some.injEq, Addr.mk.injEq, and_true, true_and] at h'
    obtain ⟨rfl, rfl⟩ := h'
    have key : ∀ m, m < vs.length * 3 → cur[m]? = (madeCells #[.int .i64 0, .int .u64 0, .string ByteArray.empty] (vs.length * 3))[m]? := fun m hm => by
      have e : cur.toList[m]? = (madeCells #[.int .i64 0, .int .u64 0, .string ByteArray.empty] (vs.length * 3)).toList[m]? := by rw [← htake, List.getElem?_take, if_pos hm]
      simpa using e
    refine ⟨cur, hg, hsz, fun i _ hi => by omega, fun i hi => ⟨⟨0, ?_⟩, ⟨0, ?_⟩, ⟨ByteArray.empty, ?_⟩⟩⟩
    · rw [key _ (by omega)]
      have h1 : i * 3 < vs.length * 3 := by omega
      have h2 : i * 3 % 3 = 0 := by omega
      simp [madeCells, h1, h2]
    · rw [key _ (by omega)]
      have h1 : i * 3 + 1 < vs.length * 3 := by omega
      have h2 : (i * 3 + 1) % 3 = 1 := by omega
      simp [madeCells, h1, h2]
    · rw [key _ (by omega)]
      have h1 : i * 3 + 2 < vs.length * 3 := by omega
      have h2 : (i * 3 + 2) % 3 = 2 := by omega
      simp [madeCells, h1, h2]
theorem IsItems.at {B : Nat} {w : World} {v : Value} {vs : List It} (h : IsItems B w v vs) {i : Nat} (hi : i < vs.length) : ∃ b o C, v = .slice (some ⟨b, o, none⟩) vs.length C ∧ b < B ∧ vs.length ≤ C ∧ C ≤ maxLen ∧ w.cell? ⟨b, o + i * 3, none⟩ = some (.int .i64 vs[i].k) ∧ w.cell? ⟨b, o + i * 3 + 1, none⟩ = some (.int .u64 vs[i].n) ∧ w.cell? ⟨b, o + i * 3 + 2, none⟩ = some (.string vs[i].s) := by
  obtain ⟨b, o, C, hI, hF⟩ := h
  have hv := hF.at (show 0 < vs.length by omega)
  rw [Nat.sub_zero, Nat.sub_zero, Nat.zero_mul, Nat.add_zero] at hv
  exact ⟨b, o, C, hv, hI.low.resolve_left (by omega), hI.room, hI.most, hI.cells i hi⟩
theorem IsItems.form {B : Nat} {w : World} {v : Value} {vs : List It} (h : IsItems B w v vs) : ∃ ad C, v = .slice ad vs.length C ∧ vs.length ≤ 1048577 ∧ vs.length ≤ C ∧ C ≤ maxLen ∧ ∀ x ∈ vs, inI x.k ∧ x.n < 18446744073709551616 ∧ x.s.size ≤ 1048577 := by
  obtain ⟨b, o, C, hI, ad, rfl, _⟩ := h
  exact ⟨ad, C, by simp, hI.small, hI.room, hI.most, hI.wf⟩
set_option maxRecDepth 100000 in
set_option maxHeartbeats 1000000 in
theorem toItemS_any (vs : List It) (v : Value) (w : World) (hv : IsItems w.heap.size w v vs) : Calls Tryd.prog 6 #[v] w fun e w' => ∃ v', e = .returned v' ∧ IsItems w'.heap.size w' v' vs ∧ Below w.heap.size w w' := by
  obtain ⟨i0, hi, hz0, hz1, hz2⟩ := info_parts Tryd.infoItem
  have HV : Hid (IsItems w.heap.size w v vs) := hv
  obtain ⟨ad, cap, rfl, hsm, h1, h2, h3⟩ := hv.form
  have HW : Hid (∀ x ∈ vs, inI x.k ∧ x.n < 18446744073709551616 ∧ x.s.size ≤ 1048577) := h3
  unfold maxLen at h2
  clear h3 hv
  go_enter Tryd.func6, Tryd.ntmps6
  go_wp2_with (at_make; refine wpList_make_full _ rfl _ _ 25 rfl w.heap.size 34 i0 (.agg #[.int .i64 0, .int .u64 0, .string ByteArray.empty]) 3 Tryd.underlying25 hi hz0 hz1 _ _ _ _ vs.length rfl rfl rfl rfl ?b2 ?b3 (Nat.le_refl _) ?_)
  case b2 => rw [hz2]; omega
  case b3 => unfold maxLen; omega
  intro w1 hown0 hgrow
  have hr0 : RowIt vs w1 w.heap.size 0 := RowIt.made (base := w.heap.size) (by simpa [Value.cells] using hown0)
  have hb1 : Below w.heap.size w w1 := (Below.refl _ _).grown hgrow (Nat.le_refl _) (by simp)
  clear hown0 hgrow
  go_wp2_with fail
  go_loopg [4] vs.length (fun gk i wr => ∃ j : Nat, j + gk = vs.length ∧ i = .int .i64 j ∧ RowIt vs wr w.heap.size j ∧ Below w.heap.size w wr)
  case atStart => exact ⟨0, by omega, rfl, hr0, hb1⟩
  case round =>
    clear hr0 hb1 w1
    obtain ⟨j, hj', rfl, hr, hb⟩ := hrel
    have HJ : Hid (j + gk = vs.length) := hj'
    have hj : j ≤ vs.length := by omega
    clear hj'
    by_cases hlt : j < vs.length
    · obtain ⟨b, o, cap', hv', hbl, _, _, c0, c1, c2⟩ := (HV.out.below hb).at hlt
      cases hv'
      have hsz : w.heap.size < wr.heap.size := by obtain ⟨cs, h, _⟩ := hr; exact blk_lt h
      have HR : Hid (RowIt vs wr w.heap.size j) := hr
      have HB : Hid (Below w.heap.size w wr) := hb
      clear hr hb
      obtain ⟨it, hit⟩ : ∃ it, vs[j] = it := ⟨_, rfl⟩
      have Hit : Hid (vs[j] = it) := hit
      rw [hit] at c0 c1 c2
      clear hit
      obtain ⟨ik, im, is⟩ := it
      simp only at c0 c1 c2
      have HTI : Hid (∀ w, Calls Tryd.prog 12 #[.agg #[.int .i64 ik, .int .u64 im, .string is]] w fun e w' => e = .returned (.agg #[.int .i64 ik, .int .u64 im, .string is]) ∧ Below w.heap.size w w') := fun w => toItem_any ik im is w
      go_wp2_with fail
      refine (HTI.out _).mono ?_
      rintro e w2 ⟨rfl, hb2⟩
      have hr2 : RowIt vs w2 w.heap.size j := HR.out.keep (hb2.block _ hsz)
      obtain ⟨⟨⟨z0, d0⟩, ⟨z1, d1⟩, ⟨z2, d2⟩⟩, hfz⟩ := hr2.cell hlt
      have f0 := hfz (j * 3)
      have f1 := hfz (j * 3 + 1)
      have f2 := hfz (j * 3 + 2)
      have hnx := hr2.next hlt
      rw [Hit.out] at hnx
      have HN : Hid (RowIt vs (((w2.setCell ⟨w.heap.size, j * 3, none⟩ (.int .i64 ik)).setCell ⟨w.heap.size, j * 3 + 1, none⟩ (.int .u64 im)).setCell ⟨w.heap.size, j * 3 + 2, none⟩ (.string is)) w.heap.size (j + 1)) := hnx
      have HB2 : Hid (Below w.heap.size w (((w2.setCell ⟨w.heap.size, j * 3, none⟩ (.int .i64 ik)).setCell ⟨w.heap.size, j * 3 + 1, none⟩ (.int .u64 im)).setCell ⟨w.heap.size, j * 3 + 2, none⟩ (.string is))) := (((HB.out.trans (hb2.mono HB.out.size)).setCell (p := ⟨w.heap.size, j * 3, none⟩) (Nat.le_refl _) _).setCell (p := ⟨w.heap.size, j * 3 + 1, none⟩) (Nat.le_refl _) _).setCell (p := ⟨w.heap.size, j * 3 + 2, none⟩) (Nat.le_refl _) _
      clear hr2 hnx hb2 c0 c1 c2 hfz
      go_wp2_with fail
      go_roundg (gk - 1)
      case rel => exact ⟨j + 1, by have := HJ.out; omega, by go_num, HN.out, HB2.out⟩
      case measure => have := HJ.out; omega
    · have e1 : j = vs.length := by omega
      rw [e1] at hr
      have hfin := hr.done hsm HW.out
      have HF : Hid (IsItems wr.heap.size wr (.slice (some ⟨w.heap.size, 0, none⟩) vs.length vs.length) vs) := hfin
      clear hfin hr e1
      go_wp2_with fail
      go_ret
      exact ⟨_, rfl, HF.out, hb⟩
set_option maxHeartbeats 400000 in
theorem eqItem_same (k : Int) (n : Nat) (s : ByteArray) (w : World) : Calls Tryd.prog 15 #[.agg #[.int .i64 k, .int .u64 n, .string s], .agg #[.int .i64 k, .int .u64 n, .string s]] w fun e w' => e = .returned (.bool true) ∧ Below w.heap.size w w' := by
  go_enter Tryd.func15, Tryd.ntmps15
  go_wp2
  go_ret
  exact ⟨ret_b (by simp), bel2 _ _ _⟩
set_option maxRecDepth 100000 in
set_option maxHeartbeats 1000000 in
theorem eqItemS_same (vs : List It) (v v' : Value) (w : World) (hv : IsItems w.heap.size w v vs) (hv' : IsItems w.heap.size w v' vs) : Calls Tryd.prog 8 #[v, v'] w fun e w' => e = .returned (.bool true) ∧ Below w.heap.size w w' := by
  have HV : Hid (IsItems w.heap.size w v vs) := hv
  have HV' : Hid (IsItems w.heap.size w v' vs) := hv'
  obtain ⟨ad, cap, rfl, hsm, h1, h2, _⟩ := hv.form
  obtain ⟨ad', cap', rfl, _, h1', h2', _⟩ := hv'.form
  unfold maxLen at h2 h2'
  clear hv hv'
  go_enter Tryd.func8, Tryd.ntmps8
  go_wp2_with fail
  go_loopg [5] vs.length (fun gk i wr => ∃ j : Nat, j + gk = vs.length ∧ i = .int .i64 j ∧ Below w.heap.size w wr)
  case atStart => exact ⟨0, by omega, rfl, Below.refl _ _⟩
  case round =>
    obtain ⟨j, hj', rfl, hb⟩ := hrel
    have HJ : Hid (j + gk = vs.length) := hj'
    have hj : j ≤ vs.length := by omega
    clear hj'
    by_cases hlt : j < vs.length
    · have HB : Hid (Below w.heap.size w wr) := hb
      obtain ⟨b, o, cap2, e1, hbl, _, _, c0, c1, c2⟩ := (HV.out.below hb).at hlt
      obtain ⟨b', o', cap2', e1', hbl', _, _, c0', c1', c2'⟩ := (HV'.out.below hb).at hlt
      cases e1
      cases e1'
      generalize vs[j] = it at c0 c1 c2 c0' c1' c2'
      obtain ⟨ik, im, is⟩ := it
      simp only at c0 c1 c2 c0' c1' c2'
      have r0 := cells_re c0
      have r1 := cells_re c1
      have r2 := cells_re c2
      have r0' := cells_re c0'
      have r1' := cells_re c1'
      have r2' := cells_re c2'
      have HC : Hid (∀ w, Calls Tryd.prog 15 #[.agg #[.int .i64 ik, .int .u64 im, .string is], .agg #[.int .i64 ik, .int .u64 im, .string is]] w fun e w' => e = .returned (.bool true) ∧ Below w.heap.size w w') := fun w => eqItem_same ik im is w
      clear c0 c1 c2 c0' c1' c2' hb
      go_wp2_with fail
      refine wp_region_quiet_below (by kernel_rfl) (by kernel_rfl) ?_
      repeat (go_big_quiet_step (exact Calls.regrown_of (HC.out _)))
      refine wpQuiet_nil ?_
      intro w6 hw'
      obtain ⟨⟨dq, osq⟩, hw''⟩ := hw'
      have hb2 : Below w.heap.size w w6 := by rw [hw'']; exact below_step3 HB.out (below_regrown _ dq osq) HB.out.size
      clear hw'' r0 r1 r2 r0' r1' r2'
      go_wp2_with fail
      go_roundg (gk - 1)
      case rel => exact ⟨j + 1, by have := HJ.out; omega, by go_num, hb2⟩
      case measure => have := HJ.out; omega
    · have e1 : j = vs.length := by omega
      subst e1
      go_wp2_with fail
      go_ret
      exact ⟨rfl, hb⟩
end Go.Proofs.YtknbmheenfdebaaDoor
