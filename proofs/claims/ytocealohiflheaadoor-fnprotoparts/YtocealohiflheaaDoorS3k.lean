/- The exact laws' own helpers on items: contracts. -/
import Derived.Test.YtocealohiflheaaDoorS3j
import Derived.Test.YtocealohiflheaaDoorS2j
import Derived.Test.YtocealohiflheaaDoorS2k
namespace Go.Proofs.YtocealohiflheaaDoor
open Go.RowKit Go.Sort
set_option linter.unusedVariables false
/-- Items in memory, their strings of any length. -/
def RawItems (w : World) (ad : Option Addr) (vs : List It) : Prop := (∀ x ∈ vs, inI x.k ∧ x.n < 18446744073709551616 ∧ x.s.size ≤ maxLen) ∧ (vs.length = 0 ∨ ∃ b o, ad = some ⟨b, o, none⟩ ∧ b < w.heap.size ∧
  ∀ i (h : i < vs.length), w.cell? ⟨b, o + i * 3, none⟩ = some (.int .i64 vs[i].k) ∧ w.cell? ⟨b, o + i * 3 + 1, none⟩ = some (.int .u64 vs[i].n) ∧ w.cell? ⟨b, o + i * 3 + 2, none⟩ = some (.string vs[i].s))
theorem RawItems.below {w w' : World} {ad : Option Addr} {vs : List It} (h : RawItems w ad vs) (hb : Below w.heap.size w w') : RawItems w' ad vs := by
  refine ⟨h.1, h.2.imp id ?_⟩
  rintro ⟨b, o, e, hlt, hc⟩
  refine ⟨b, o, e, by have := hb.size; omega, fun i hi => ?_⟩
  rw [hb.cell (p := ⟨b, o + i * 3, none⟩) hlt, hb.cell (p := ⟨b, o + i * 3 + 1, none⟩) hlt, hb.cell (p := ⟨b, o + i * 3 + 2, none⟩) hlt]
  exact hc i hi
theorem RawItems.items {w : World} {ad : Option Addr} {vs : List It} {cap : Nat} (h : RawItems w ad vs) (hl : vs.length ≤ 1048577) (hc : vs.length ≤ cap) (hm : cap ≤ maxLen) (hs : ∀ x ∈ vs, x.s.size ≤ 1048577) : IsItems w.heap.size w (.slice ad vs.length cap) vs := by
  rcases h.2 with h0 | ⟨b, o, rfl, hlt, hcs⟩
  · exact ⟨0, 0, cap, ⟨hl, hc, hm, fun x hx => ⟨(h.1 x hx).1, (h.1 x hx).2.1, hs x hx⟩, .inl h0, fun i hi => by omega⟩, ad, by simp, .inl (by omega)⟩
  · exact ⟨b, o, cap, ⟨hl, hc, hm, fun x hx => ⟨(h.1 x hx).1, (h.1 x hx).2.1, hs x hx⟩, .inr hlt, hcs⟩, some ⟨b, o, none⟩, by simp, .inr (by simp)⟩
/-- An argument that is a slice of items. -/
def ArgItems (w : World) (ad : Option Addr) (len cap : Nat) : Prop := len ≤ cap ∧ cap ≤ maxLen ∧ ∃ vs : List It, vs.length = len ∧ RawItems w ad vs
theorem u64_nat {n : Int} (h : (Lit.int .u64 n).wf = true) : ∃ m : Nat, n = (m : Int) ∧ m < 18446744073709551616 := by
  have := bounds_u64 h
  exact ⟨n.toNat, by omega, by omega⟩
set_option maxRecDepth 100000 in
theorem open_items {H : Type} {enc : TypeId × Value → H} {w : World} {sp : Nat → Bool} {held : Bool} {fuel : Nat} {ad : Option Addr} {len cap : Nat} {x : DataW H × List MemPlace} (h : DataW.trod enc Tryd.prog w 0 sp held fuel 23 [.slice ad len cap] = some x) : ArgItems w ad len cap := by
  have ce : Tryd.prog.cellsOf 52 = 3 := by kernel_rfl
  have c0 : Tryd.prog.cellsOf 2 = 1 := by kernel_rfl
  have c1 : Tryd.prog.cellsOf 37 = 1 := by kernel_rfl
  have c2 : Tryd.prog.cellsOf 9 = 1 := by kernel_rfl
  rcases Deep.open_slice Tryd.underlying23 h with ⟨hcs, _⟩ | ⟨a, len', cap', m, n, D, Pl, hcs, _, hl, hm, hmm, _, hx⟩
  · simp at hcs
    obtain ⟨rfl, rfl, rfl⟩ := hcs
    exact ⟨Nat.le_refl _, by simp [maxLen], [], rfl, by simp, .inl rfl⟩
  · simp at hcs
    obtain ⟨rfl, rfl, rfl⟩ := hcs
    have hlm : len ≤ m := by rw [hmm]; split <;> omega
    refine ⟨hl, hm, ?_⟩
    obtain ⟨vs, hvs, hq⟩ := list_of (α := It) (n := len) (Q := fun i p => w.cell? (a.add (i * 3)) = some (.int .i64 p.k) ∧ w.cell? (a.add (i * 3 + 1)) = some (.int .u64 p.n) ∧ w.cell? (a.add (i * 3 + 2)) = some (.string p.s) ∧ inI p.k ∧ p.n < 18446744073709551616 ∧ p.s.size ≤ maxLen) (fun i hi' => by
      obtain ⟨cs', h1, h2⟩ := hx i (by omega)
      rw [ce] at h1
      obtain ⟨_, hlen, hcell⟩ := World.cells?_some h1
      obtain ⟨xs, k, hk, hxy, _, hxl, hf⟩ := DataW.trod_struct Tryd.underlying52 h2
      match xs, hxl, cs', hlen with
      | [y0, y1, y2], _, [v0, v1, v2], _ =>
        have g0 := hf 0 _ rfl
        have g1 := hf 1 _ rfl
        have g2 := hf 2 _ rfl
        simp [c0, c1, c2] at g0 g1 g2
        have e0 := hcell 0 (by omega)
        have e1 := hcell 1 (by omega)
        have e2 := hcell 2 (by omega)
        rw [Deep.add_add] at e0 e1 e2
        obtain ⟨n0, q0, _, w0⟩ := DataW.trod_int Tryd.underlying2 g0
        obtain ⟨n1, q1, _, w1⟩ := DataW.trod_int Tryd.underlying37 g1
        obtain ⟨s2, q2, _, w2⟩ := DataW.trod_string Tryd.underlying9 g2
        simp at q0 q1 q2
        subst q0 q1 q2
        obtain ⟨m1, rfl, hm1⟩ := u64_nat w1
        exact ⟨⟨n0, m1, s2⟩, by simpa using e0, by simpa using e1, by simpa using e2, wf_inI w0, hm1, w2⟩)
    refine ⟨vs, hvs, fun x hx => ?_, ?_⟩
    · obtain ⟨i, hi', rfl⟩ := List.getElem_of_mem hx
      exact (hq i hi').2.2.2
    · by_cases h0 : vs.length = 0
      · exact .inl h0
      · obtain ⟨b, off, spot⟩ := a
        have hc := (hq 0 (by omega)).1
        have hspot : spot = none := by simpa [Addr.add] using World.cell?_spot hc
        subst hspot
        have hadd : ∀ k, (⟨b, off, none⟩ : Addr).add k = ⟨b, off + k, none⟩ := fun k => by unfold Addr.add; split <;> simp_all
        refine .inr ⟨b, off, rfl, ?_, fun i hi' => ?_⟩
        · rw [hadd] at hc; exact World.block_lt_of_cell? w _ hc
        · have := hq i hi'
          rw [hadd, hadd, hadd] at this
          exact ⟨this.1, by rw [Nat.add_assoc]; exact this.2.1, by rw [Nat.add_assoc]; exact this.2.2.1⟩
set_option maxHeartbeats 400000 in
theorem szItem_any (x : It) (L : Nat) (w : World) (hL : L ≤ 1048576) (hs : x.s.size ≤ maxLen) : Calls Tryd.prog 23 #[.agg #[.int .i64 x.k, .int .u64 x.n, .string x.s], .int .i64 (L : Int)] w fun e w' => e = .returned (.int .i64 (if L < x.s.size then -1 else (L : Int) - x.s.size)) ∧ Below w.heap.size w w' := by
  unfold maxLen at hs
  obtain ⟨k, n, s⟩ := x
  simp only at hs ⊢
  by_cases h : L < s.size
  · rw [if_pos h]
    have h' : (L : Int) - (s.size : Int) < 0 := by omega
    go_enter Tryd.func23, Tryd.ntmps23
    go_wp2
    go_ret
    exact ⟨rfl, bel1 _ _⟩
  · rw [if_neg h]
    have h' : ¬ (L : Int) - (s.size : Int) < 0 := by omega
    go_enter Tryd.func23, Tryd.ntmps23
    go_wp2
    go_ret
    exact ⟨rfl, bel1 _ _⟩
set_option maxHeartbeats 400000 in
theorem szItemS_big (ad : Option Addr) (len cap L : Nat) (w : World) (hL : L ≤ 1048576) (hl : len ≤ maxLen) (h : L < len) : Calls Tryd.prog 8 #[.slice ad len cap, .int .i64 (L : Int)] w fun e w' => e = .returned (.int .i64 (-1)) ∧ Below w.heap.size w w' := by
  unfold maxLen at hl
  have h' : (L : Int) - (len : Int) < 0 := by omega
  go_enter Tryd.func8, Tryd.ntmps8
  go_wp2
  go_ret
  exact ⟨rfl, Below.refl _ _⟩
set_option maxRecDepth 100000 in
set_option maxHeartbeats 1000000 in
theorem szItemS_any (vs : List It) (ad : Option Addr) (cap L : Nat) (w : World) (hL : L ≤ 1048576) (hc : vs.length ≤ cap) (hm : cap ≤ maxLen) (h : vs.length ≤ L) (hv : RawItems w ad vs) : Calls Tryd.prog 8 #[.slice ad vs.length cap, .int .i64 (L : Int)] w fun e w' => (∃ r : Int, e = .returned (.int .i64 r) ∧ (r = -1 ∨ (0 ≤ r ∧ ∀ x ∈ vs, x.s.size ≤ 1048577))) ∧ Below w.heap.size w w' := by
  have HV : Hid (RawItems w ad vs) := hv
  unfold maxLen at hm
  obtain ⟨M, hM⟩ : ∃ M : Nat, (L : Int) - (vs.length : Int) = (M : Int) := ⟨L - vs.length, by omega⟩
  have hMl : M ≤ 1048576 := by omega
  have hMn : ¬ (M : Int) < 0 := by omega
  clear hv
  go_enter Tryd.func8, Tryd.ntmps8
  go_wp2_with fail
  go_loopg [1, 5] vs.length (fun gk l i wr => ∃ j y : Nat, j + gk = vs.length ∧ i = .int .i64 j ∧ l = .int .i64 y ∧ y ≤ 1048576 ∧ (∀ x ∈ vs.take j, x.s.size ≤ 1048577) ∧ Below w.heap.size w wr)
  case atStart => exact ⟨0, M, by omega, rfl, by first | rfl | (rw [← hM]; first | rfl | go_num), hMl, by simp, Below.refl _ _⟩
  case round =>
    clear hM hMl hMn
    obtain ⟨j, y, hj', rfl, rfl, hy, hall, hbel⟩ := hrel
    have HJ : Hid (j + gk = vs.length) := hj'
    have HA : Hid (∀ x ∈ vs.take j, x.s.size ≤ 1048577) := hall
    have HB : Hid (Below w.heap.size w wr) := hbel
    have hj : j ≤ vs.length := by omega
    clear hj' hall
    by_cases hlt : j < vs.length
    · obtain ⟨_, h0 | ⟨b, o, rfl, hb, hcs⟩⟩ := HV.out.below hbel
      · omega
      have hsz := (HV.out.1 vs[j] (List.getElem_mem hlt)).2.2
      obtain ⟨c0, c1, c2⟩ := hcs j hlt
      have HC : Hid (Calls Tryd.prog 23 #[.agg #[.int .i64 vs[j].k, .int .u64 vs[j].n, .string vs[j].s], .int .i64 (y : Int)] wr fun e w' => e = .returned (.int .i64 (if y < vs[j].s.size then -1 else (y : Int) - vs[j].s.size)) ∧ Below wr.heap.size wr w') := szItem_any vs[j] y wr hy hsz
      have HT : Hid (vs[j].s.size ≤ y → ∀ x ∈ vs.take (j + 1), x.s.size ≤ 1048577) := fun hs x hx => by
        rw [List.take_succ_eq_append_getElem hlt] at hx
        rcases List.mem_append.1 hx with hx | hx
        · exact HA.out x hx
        · simp at hx; subst hx; omega
      clear hcs hbel hsz
      generalize vs[j] = it at *
      obtain ⟨ik, im, is⟩ := it
      simp only at c0 c1 c2 HC HT
      by_cases hs : y < is.size
      · rw [if_pos hs] at HC
        clear HT
        go_wp2_with fail
        refine Calls.mono HC.out ?_
        rintro e w2 ⟨rfl, hb2⟩
        have HB2 : Hid (Below w.heap.size w w2) := HB.out.trans (hb2.mono HB.out.size)
        clear hb2 c0 c1 c2
        go_wp2_with fail
        go_ret
        exact ⟨⟨-1, by first | rfl | simp, .inl rfl⟩, HB2.out⟩
      · rw [if_neg hs] at HC
        obtain ⟨y1, hy1⟩ : ∃ y1 : Nat, (y : Int) - (is.size : Int) = (y1 : Int) := ⟨y - is.size, by omega⟩
        have hy1l : y1 ≤ 1048576 := by omega
        have HT2 : Hid (∀ x ∈ vs.take (j + 1), x.s.size ≤ 1048577) := HT.out (by omega)
        rw [hy1] at HC
        have hyn : ¬ (y1 : Int) < 0 := by omega
        clear HT hs hy1
        go_wp2_with fail
        refine Calls.mono HC.out ?_
        rintro e w2 ⟨rfl, hb2⟩
        have HB2 : Hid (Below w.heap.size w w2) := HB.out.trans (hb2.mono HB.out.size)
        clear hb2 c0 c1 c2
        go_wp2_with fail
        go_roundg (gk - 1)
        case rel => exact ⟨j + 1, y1, by have := HJ.out; omega, by go_num, rfl, hy1l, HT2.out, HB2.out⟩
        case measure => have := HJ.out; omega
    · have e1 : j = vs.length := by omega
      subst e1
      have HT : Hid (∀ x ∈ vs, x.s.size ≤ 1048577) := by have := HA.out; rwa [List.take_length] at this
      clear HA hbel
      go_wp2_with fail
      go_ret
      exact ⟨⟨_, rfl, .inr ⟨by omega, HT.out⟩⟩, HB.out⟩
end Go.Proofs.YtocealohiflheaaDoor
