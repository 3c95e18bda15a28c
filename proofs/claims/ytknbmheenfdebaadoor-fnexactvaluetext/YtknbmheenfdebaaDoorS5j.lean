/- The program's text of a value: contract; the tables off their texts. -/
import Derived.Test.YtknbmheenfdebaaDoorS5i
import Derived.ProofKit
import Derived.OpenShut
import Derived.ShutString
import Derived.ChangeOld
import Derived.LaidMore
import Derived.LaidOnce
import Derived.Stop.Joined
import Derived.Stop.LaidErr
import Derived.Deep.SlicePairs
import Derived.Deep.AppendLies
import Derived.Lib.LaidTab
namespace Go.Proofs.YtknbmheenfdebaaDoor
open Go.ChangeShapes Go.WideShapes Go.ChangeAt Go.RowKit Go.Sort
open Go.ChangeMaps (open_string shut_string)
set_option linter.unusedVariables false
theorem Tryd.infoStr : (Tryd.prog.info? 9).map (fun i => (i.zero, i.size, i.bytes)) = some (some (.string ByteArray.empty), 1, 16) := by kernel_rfl
theorem gb_bel {w w' : World} (h : Below w.heap.size w w') : w.grownBy w' none := ⟨h.os, h.tape, h.output, h.size, fun k hk _ => h.block k hk⟩
/-- Strings as values. -/
def strs (xs : List ByteArray) : List Value := xs.map fun x => .string x
def wdi (vs : List It) (j : Nat) : List ByteArray := (vs.take j).map fun x => ⟨(itText x).toArray⟩
theorem wdi_len {vs : List It} {j : Nat} (h : j ≤ vs.length) : (wdi vs j).length = j := by simp [wdi]; omega
theorem wdi_succ {vs : List It} {j : Nat} (h : j < vs.length) : wdi vs (j + 1) = wdi vs j ++ [⟨(itText vs[j]).toArray⟩] := by
  unfold wdi
  rw [List.take_succ_eq_append_getElem h, List.map_append]; rfl
theorem wdi_txs (vs : List It) (j : Nat) : (wdi vs j).map (·.data.toList) = itx vs j := by
  unfold wdi itx
  rw [List.map_map]
  apply List.map_congr_left
  intro t _
  rfl
theorem itemT_ok {x : It} (h : aloneI x = true) : itemT x = itText x := by unfold itemT; rw [if_pos h]
theorem itemT_no {x : It} (h : aloneI x = false) : itemT x = [] := by unfold itemT; rw [h]; rfl
theorem itText_pos (x : It) : (⟨(itText x).toArray⟩ : ByteArray).toList.isEmpty = false := by
  rw [str_empty]
  have := itText_ne x
  cases h : itText x with
  | nil => exact absurd h this
  | cons a l => simp [ByteArray.size]
set_option maxRecDepth 100000 in
set_option maxHeartbeats 2000000 in
theorem implValueText_any (vs : List It) (v : Value) (w : World) (hv : IsItems w.heap.size w v vs) (hw : KR w) (hp : PW w) : Calls Tryd.prog 7 #[v] w fun e w' => e = .returned (.string ⟨(vText vs).toArray⟩) ∧ Below w.heap.size w w' := by
  obtain ⟨i0, hi, hz0, hz1, hz2⟩ := info_parts Tryd.infoStr
  have HV : Hid (IsItems w.heap.size w v vs) := hv
  obtain ⟨ad, cap, rfl, h0, h1, h2, hwf⟩ := hv.form
  have HWF : Hid (∀ x ∈ vs, inI x.k ∧ x.n < 18446744073709551616 ∧ x.s.size ≤ 1048577) := hwf
  have HJL : Hid ((Lib.join (itx vs vs.length) [32]).length ≤ 2097157 * vs.length) := itj_len (fun x hx => ⟨(hwf x hx).2.1, (hwf x hx).2.2⟩) _ (Nat.le_refl _)
  have HT : Hid (∀ i (hi : i < vs.length) w', Below w.heap.size w w' → Calls Tryd.prog 13 #[.agg #[.int .i64 vs[i].k, .int .u64 vs[i].n, .string vs[i].s]] w' fun e w'' => e = .returned (.string ⟨(itemT vs[i]).toArray⟩) ∧ Below w'.heap.size w' w'') := fun i hi w' hb => itemText_any vs[i] w' (hwf vs[i] (List.getElem_mem _)).2.1 (hwf vs[i] (List.getElem_mem _)).2.2 (hw.below hb) (hp.below hb)
  obtain ⟨R, hR⟩ : ∃ R, vText vs = R := ⟨_, rfl⟩
  have HR : Hid (vText vs = R) := hR
  rw [hR]
  unfold maxLen at h2
  clear hv hwf hR hw hp
  by_cases hbig : 200 < vs.length
  · have HE : Hid (R = []) := by show _ = _; rw [← HR.out]; exact vText_out (.inr hbig)
    have hb' : decide (200 < vs.length) = true := by simpa using hbig
    have hb'' : decide ((200 : Int) < vs.length) = true := by simp; omega
    clear hbig
    go_enter Tryd.func7, Tryd.ntmps7
    go_wp2_with fail
    go_ret
    exact ⟨by rw [HE.out]; try rfl, Below.refl _ _⟩
  have hb' : decide (200 < vs.length) = false := by simp; omega
  have hb'' : decide ((200 : Int) < vs.length) = false := by simp; omega
  have h200 : vs.length ≤ 200 := by omega
  clear hbig
  go_enter Tryd.func7, Tryd.ntmps7
  go_wp2_with fail
  go_loopg [3, 12] vs.length (fun gk ws i wr => ∃ j : Nat, j + gk = vs.length ∧ i = .int .i64 j ∧ wr.ownsRow w.heap.size 9 1 ws j (strs (wdi vs j)) ∧ (∀ i (hi : i < vs.length), i < j → aloneI vs[i] = true) ∧ Below w.heap.size w wr)
  case atStart => exact ⟨0, by omega, rfl, World.ownsRow_nil _ _ _ _, fun i _ h => by omega, Below.refl _ _⟩
  case round =>
    obtain ⟨j, hj', rfl, hown, hal, hbel⟩ := hrel
    have HJ : Hid (j + gk = vs.length) := hj'
    have hj : j ≤ vs.length := by omega
    have HO : Hid (wr.ownsRow w.heap.size 9 1 u3 j (strs (wdi vs j))) := hown
    have HB : Hid (Below w.heap.size w wr) := hbel
    have HAL : Hid (∀ i (hi : i < vs.length), i < j → aloneI vs[i] = true) := hal
    have hsr : w.heap.size ≤ wr.heap.size := hbel.size
    clear hj' hown hal
    by_cases hlt : j < vs.length
    · obtain ⟨b', o', cap', hv', hbl, _, _, c0, c1, c2⟩ := (HV.out.below hbel).at hlt
      cases hv'
      cases hae : aloneI vs[j] with
      | false =>
        have HE : Hid (R = []) := by show _ = _; rw [← HR.out]; exact vText_bad hlt hae
        have HCJ : Hid (∀ w', Below w.heap.size w w' → Calls Tryd.prog 13 #[.agg #[.int .i64 vs[j].k, .int .u64 vs[j].n, .string vs[j].s]] w' fun e w'' => e = .returned (.string ⟨#[]⟩) ∧ Below w'.heap.size w' w'') := fun w' hb => by
          have := HT.out j hlt w' hb
          rw [itemT_no hae] at this
          exact this
        clear hae hbel
        generalize vs[j].k = k at *
        generalize vs[j].n = n at *
        generalize vs[j].s = s at *
        go_wp2_with fail
        refine (HCJ.out _ (HB.out.alloc hsr _)).mono ?_
        rintro e w3 ⟨rfl, hb3⟩
        have HB3 : Hid (Below w.heap.size w w3) := (HB.out.alloc hsr _).trans (hb3.mono (by simp; omega))
        clear hb3 c0 c1 c2
        go_wp2_with fail
        go_ret
        exact ⟨by rw [HE.out]; try rfl, HB3.out⟩
      | true =>
        obtain ⟨T, hT⟩ : ∃ T : ByteArray, (⟨(itText vs[j]).toArray⟩ : ByteArray) = T := ⟨_, rfl⟩
        have hTe : T.toList.isEmpty = false := by rw [← hT]; exact itText_pos _
        have HCJ : Hid (∀ w', Below w.heap.size w w' → Calls Tryd.prog 13 #[.agg #[.int .i64 vs[j].k, .int .u64 vs[j].n, .string vs[j].s]] w' fun e w'' => e = .returned (.string T) ∧ Below w'.heap.size w' w'') := fun w' hb => by
          have := HT.out j hlt w' hb
          rw [itemT_ok hae, hT] at this
          exact this
        have HRW : Hid (strs (wdi vs (j + 1)) = strs (wdi vs j) ++ [.string T]) := by show _ = _; rw [wdi_succ hlt, hT]; simp [strs]
        have HAL2 : Hid (∀ i (hi : i < vs.length), i < j + 1 → aloneI vs[i] = true) := fun i hi h => by
          by_cases e : i = j
          · subst e; exact hae
          · exact HAL.out i hi (by omega)
        clear hT hae hbel
        generalize vs[j].k = k at *
        generalize vs[j].n = n at *
        generalize vs[j].s = s at *
        go_wp2_with fail
        refine (HCJ.out _ (HB.out.alloc hsr _)).mono ?_
        rintro e w3 ⟨rfl, hb3⟩
        have HO3 : Hid (w3.ownsRow w.heap.size 9 1 u3 j (strs (wdi vs j))) := (HO.out.alloc _).kept (gb_bel hb3) (by cases u3.ownBlock <;> simp)
        have HB3 : Hid (Below w.heap.size w w3) := (HB.out.alloc hsr _).trans (hb3.mono (by simp; omega))
        have hs3 : w.heap.size ≤ w3.heap.size := HB3.out.size
        clear hb3 c0 c1 c2
        go_wp2_with (at_builtin; refine wpList_append_lies _ rfl _ _ 37 rfl w.heap.size 9 i0 (.string ByteArray.empty) 1 16 Tryd.underlying37 hi hz0 hz1 hz2 rfl (by decide) u3 j _ rfl (HO3.out.alloc _) ⟨w3.heap.size, 0, none⟩ 1 1 [.string T] rfl rfl ?c1 ?c2 (by omega) ?c3 ?c4 ?c5 (w3.heap.size + 1) (by simp) ?_)
        case c1 =>
          intro i u hi
          match i, hi with
          | 0, hi => simp at hi; subst hi; simp [Addr.add]
        case c2 => intro u hu; simp at hu; subst hu; rfl
        case c3 => unfold maxLen; omega
        case c4 => omega
        case c5 => simp; omega
        intro g cap2 w4 hown' hgrow hat hlt'
        have HX : Hid (w4.ownsRow w.heap.size 9 1 (.slice (some ⟨g, 0, none⟩) (j + 1) cap2) (j + 1) (strs (wdi vs (j + 1))) ∧ Below w.heap.size w w4) := by
          refine ⟨by rw [HRW.out]; exact hown', (HB3.out.alloc hs3 _).grown hgrow (by simp; omega) (fun q hq => (HO3.out.lt q hq).1)⟩
        clear hown' hgrow hat hlt'
        go_wp2_with fail
        go_roundg (gk - 1)
        case rel => exact ⟨j + 1, by have := HJ.out; omega, by go_num, HX.out.1, HAL2.out, HX.out.2⟩
        case measure => have := HJ.out; omega
    · have ej : j = vs.length := by omega
      subst ej
      by_cases hz : vs.length = 0
      · have HE : Hid (R = []) := by show _ = _; rw [← HR.out]; exact vText_out (.inl hz)
        have h2' := HO.out.2
        rcases h2' with ⟨rfl, _⟩ | ⟨g, cp, cur, rfl, hg, hh, hcp, hcm, _, _⟩
        · have HK : Hid (∀ w', Calls Tryd.prog 14 #[.slice none 0 0, .string ⟨#[32]⟩] w' fun e w'' => e = .returned (.string ⟨#[]⟩) ∧ w'' = w') := fun w' => Tryd.strings_Join_none none 0 ⟨#[32]⟩ w'
          clear hbel
          go_wp2_with fail
          refine (HK.out _).mono ?_
          rintro e w5 ⟨rfl, rfl⟩
          go_wp2_with fail
          go_ret
          exact ⟨by rw [HE.out]; first | rfl | simp, HB.out⟩
        · have HK : Hid (∀ w', Calls Tryd.prog 14 #[.slice (some ⟨g, 0, none⟩) 0 cp, .string ⟨#[32]⟩] w' fun e w'' => e = .returned (.string ⟨#[]⟩) ∧ w'' = w') := fun w' => Tryd.strings_Join_none (some ⟨g, 0, none⟩) cp ⟨#[32]⟩ w'
          rw [hz]
          clear hbel hh
          go_wp2_with fail
          refine (HK.out _).mono ?_
          rintro e w5 ⟨rfl, rfl⟩
          go_wp2_with fail
          go_ret
          exact ⟨by rw [HE.out]; first | rfl | simp, HB.out⟩
      · have h2' := HO.out.2
        rcases h2' with ⟨_, hn0⟩ | ⟨g, cp, cur, rfl, hg, _, hcp, hcm, _, _⟩
        · omega
        have HST : Hid (R = Lib.join (itx vs vs.length) [32]) := by show _ = _; rw [← HR.out]; exact vText_ok (by omega) h200 (fun i hi => HAL.out i hi hi)
        have hgw : g < wr.heap.size := (HO.out.lt g rfl).2
        have HK : Hid (Calls Tryd.prog 14 #[.slice (some ⟨g, 0, none⟩) vs.length cp, .string ⟨#[32]⟩] wr fun e w' => e = .returned (.string ⟨R.toArray⟩) ∧ Below wr.heap.size wr w') := by
          have hl := wdi_len (vs := vs) (j := vs.length) (Nat.le_refl _)
          have := Tryd.strings_Join g 0 cp (wdi vs vs.length) ⟨#[32]⟩ wr (fun q x hx => by
            have h5 := HO.out.cells (g := g) rfl q (.string x) (by unfold strs; simp [hx])
            have hadd : (⟨g, 0, none⟩ : Addr).add q = ⟨g, 0 + q, none⟩ := by unfold Addr.add; split <;> simp_all
            rwa [hadd] at h5) hgw (by omega) (by omega) (by rw [wdi_txs]; have := HJL.out; show (Lib.join (itx vs vs.length) [32]).length ≤ _; omega)
          rw [hl, wdi_txs] at this
          rw [HST.out]
          exact this
        clear hbel
        go_wp2_with fail
        refine Calls.mono HK.out ?_
        rintro e w5 ⟨rfl, hb5⟩
        have HB5 : Hid (Below w.heap.size w w5) := HB.out.trans (hb5.mono HB.out.size)
        clear hb5
        go_wp2_with fail
        go_ret
        exact ⟨by first | rfl | simp, HB5.out⟩
theorem Tryd.own : ownKnob Tryd.prog.godebug = none := by kernel_rfl
theorem Tryd.laidOut : laidOutB Tryd.prog = true := by kernel_rfl
theorem Tryd.gIR : Tryd.prog.globalNamed "loop.example/g00774/impl.itemRows" = some 0 := by kernel_rfl
theorem Tryd.tIR : (Tryd.prog.globals[0]?).map (·.type) = some 45 := by kernel_rfl
abbrev laidKR : List (String × DataW Unit) := [("math/bits.deBruijn32tab", Rows.laid_math_bits_deBruijn32tab), ("math/bits.deBruijn64tab", Rows.laid_math_bits_deBruijn64tab), ("internal/strconv.uint64pow10", Rows.laid_internal_strconv_uint64pow10), ("loop.example/g00774/impl.itemRows", Rows.laid_loop_example_g00774_impl_itemRows)]
/-- A row of the table, as data and as cells. -/
def rowD {H : Type} (j : Nat) : DataW H := .agg [.lit (.int .i64 (irK j)), .lit (.string (irW j).data.toList), .lit (.int .i64 (irT j)), .lit (.int .u64 (irN j))]
def rowC (j : Nat) : List Value := [.int .i64 (irK j), .string (irW j), .int .i64 (irT j), .int .u64 (irN j)]
theorem laid_rows {H : Type} : (Rows.laid_loop_example_g00774_impl_itemRows : DataW H) = .agg ((List.range 11).map rowD) := rfl
theorem ic_rows : ∀ j, j < 11 → (ic.toList.drop (j * 4)).take 4 = rowC j
  | 0, _ => rfl
  | 1, _ => rfl
  | 2, _ => rfl
  | 3, _ => rfl
  | 4, _ => rfl
  | 5, _ => rfl
  | 6, _ => rfl
  | 7, _ => rfl
  | 8, _ => rfl
  | 9, _ => rfl
  | 10, _ => rfl
theorem chunks_ext {α : Type} {a b : List α} {n m : Nat} (hm : 0 < m) (ha : a.length = n * m) (hb : b.length = n * m) (h : ∀ i, i < n → (a.drop (i * m)).take m = (b.drop (i * m)).take m) : a = b := by
  apply List.ext_getElem?
  intro j
  by_cases hj : j < n * m
  · have hq : j / m < n := Nat.div_lt_of_lt_mul (by rw [Nat.mul_comm]; exact hj)
    have hr : j % m < m := Nat.mod_lt _ hm
    have e : j / m * m + j % m = j := by rw [Nat.mul_comm]; exact Nat.div_add_mod j m
    have h1 := congrArg (fun l : List α => l[j % m]?) (h (j / m) hq)
    simpa [List.getElem?_take, hr, List.getElem?_drop, e] using h1
  · rw [List.getElem?_eq_none (by omega), List.getElem?_eq_none (by omega)]
theorem str_inj {a b : ByteArray} (h : a.data.toList = b.data.toList) : a = b := by
  obtain ⟨⟨l⟩⟩ := a
  obtain ⟨⟨l'⟩⟩ := b
  simp at h
  subst h
  rfl
theorem drop_one {α : Type} {cs : List α} {i : Nat} {c : α} (h : (cs.drop i).take 1 = [c]) : cs[i]? = some c := by
  have := congrArg (fun l : List α => l[0]?) h
  simpa using this
set_option maxRecDepth 100000 in
/-- A row's cells, off its data. -/
theorem row_cells {H : Type} {enc : TypeId × Value → H} {w : World} {base : Nat} {sp : Nat → Bool} {held : Bool} {fuel : Nat} {cs : List Value} {p : List MemPlace} {j : Nat}
    (h : DataW.trod enc Tryd.prog w base sp held fuel 44 cs = some (rowD j, p)) : cs = rowC j := by
  obtain ⟨xs, m, _, hx, hlen, hxl, hf⟩ := DataW.trod_struct Tryd.underlying44 h
  have c72 : Tryd.prog.cellsOf 44 = 4 := by kernel_rfl
  have c2 : Tryd.prog.cellsOf 2 = 1 := by kernel_rfl
  have c9 : Tryd.prog.cellsOf 9 = 1 := by kernel_rfl
  have c3 : Tryd.prog.cellsOf 3 = 1 := by kernel_rfl
  have c8 : Tryd.prog.cellsOf 30 = 1 := by kernel_rfl
  rw [c72] at hlen
  have h0 : DataW.trod enc Tryd.prog w base sp held m 2 ((cs.drop 0).take (Tryd.prog.cellsOf 2)) = xs[0]? := hf 0 _ rfl
  rw [c2] at h0
  have h1 : DataW.trod enc Tryd.prog w base sp held m 9 ((cs.drop 1).take (Tryd.prog.cellsOf 9)) = xs[1]? := hf 1 _ rfl
  rw [c9] at h1
  have h2 : DataW.trod enc Tryd.prog w base sp held m 3 ((cs.drop 2).take (Tryd.prog.cellsOf 3)) = xs[2]? := hf 2 _ rfl
  rw [c3] at h2
  have h3 : DataW.trod enc Tryd.prog w base sp held m 30 ((cs.drop 3).take (Tryd.prog.cellsOf 30)) = xs[3]? := hf 3 _ rfl
  rw [c8] at h3
  have hx1 := (DataW.agg.inj (Prod.mk.inj hx).1)
  match xs, hxl with
  | [x0, x1, x2, x3], _ =>
    simp only [List.map_cons, List.map_nil, List.cons.injEq, and_true] at hx1
    obtain ⟨e0, e1, e2, e3⟩ := hx1
    obtain ⟨n0, q0, r0, _⟩ := DataW.trod_int Tryd.underlying2 (show DataW.trod enc Tryd.prog w base sp held m 2 _ = some x0 from h0)
    obtain ⟨s1, q1, r1, _⟩ := DataW.trod_string Tryd.underlying9 (show DataW.trod enc Tryd.prog w base sp held m 9 _ = some x1 from h1)
    obtain ⟨n2, q2, r2, _⟩ := DataW.trod_int Tryd.underlying3 (show DataW.trod enc Tryd.prog w base sp held m 3 _ = some x2 from h2)
    obtain ⟨n3, q3, r3, _⟩ := DataW.trod_int Tryd.underlying30 (show DataW.trod enc Tryd.prog w base sp held m 30 _ = some x3 from h3)
    subst r0 r1 r2 r3
    simp only [DataW.lit.injEq, Lit.int.injEq, Lit.string.injEq, true_and] at e0 e1 e2 e3
    have e1' := str_inj e1
    subst e0 e1' e2 e3
    have g0 := drop_one q0
    have g1 := drop_one q1
    have g2 := drop_one q2
    have g3 := drop_one q3
    match cs, hlen with
    | [a0, a1, a2, a3], _ =>
      simp at g0 g1 g2 g3
      subst g0 g1 g2 g3
      rfl
set_option maxRecDepth 100000 in
theorem ir_of_laid {W : World} (h : laidMetH Tryd.prog laidKR W) : W.var? Tryd.prog "loop.example/g00774/impl.itemRows" = some ic := by
  rw [MakeChecks.laidMetH_plain _ _ _ (by kernel_rfl)] at h
  have h := h.tail.tail.tail
  obtain ⟨ps, ⟨g, t, cs, fuel, p, q, hg, ht, hv, hd, _, _⟩, _, _⟩ := h
  obtain rfl := Option.some.inj (Tryd.gIR.symm.trans hg)
  obtain rfl := Option.some.inj (Tryd.tIR.symm.trans ht)
  have c73 : Tryd.prog.cellsOf 45 = 44 := by kernel_rfl
  have c72 : Tryd.prog.cellsOf 44 = 4 := by kernel_rfl
  obtain ⟨xs, m, _, ex, hlen, hl, hel⟩ := DataW.trod_array Tryd.underlying45 hd
  rw [c73] at hlen
  rw [laid_rows] at ex
  have e3 := (DataW.agg.inj (Prod.mk.inj ex).1)
  have : cs.toList = ic.toList := by
    refine chunks_ext (n := 11) (m := 4) (by omega) hlen (by rfl) (fun i hi => ?_)
    rw [ic_rows i hi]
    have h1 := hel i hi
    rw [c72] at h1
    have hx : xs[i]? = some xs[i] := List.getElem?_eq_getElem (by omega)
    rw [hx] at h1
    have h2 : xs[i].1 = rowD i := by
      have h3 := congrArg (fun l : List (DataW Unit) => l[i]?) e3
      simp [hx, hi] at h3
      exact h3.symm
    have h4 : xs[i] = (rowD i, xs[i].2) := by rw [← h2]
    rw [h4] at h1
    exact row_cells h1
  rw [hv]
  congr 1
  exact Array.ext' this
set_option maxRecDepth 100000 in
theorem KR.of_laid {W : World} (h : laidMetH Tryd.prog laidKR W) : KR W := by
  have hv := ir_of_laid h
  unfold World.var? at hv
  rw [Tryd.gIR] at hv
  simp only [Option.bind_some] at hv
  split at hv
  · rename_i cs t fr heq
    simp only [Option.some.injEq] at hv
    subst hv
    exact ⟨by rcases Nat.lt_or_ge 0 W.heap.size with h' | h'; exact h'; simp [Array.getElem?_eq_none h'] at heq, t, fr, heq⟩
  · cases hv
theorem reads_ir {H : Type} (enc : TypeId × Value → H) (W : World) (sp : Nat → Bool) : DataW.trod enc Tryd.prog W 0 sp true 4 45 ic.toList = some (Rows.laid_loop_example_g00774_impl_itemRows, []) := by kernel_rfl
theorem pow_of_laid {W : World} (h : laidMetH Tryd.prog laidKR W) : Lib.TabIs Tryd.prog W "internal/strconv.uint64pow10" .u64 Lib.pow10Tab := by
  rw [MakeChecks.laidMetH_plain _ _ _ (by kernel_rfl)] at h
  have h := h.tail.tail
  have e : (Rows.laid_internal_strconv_uint64pow10 : DataW Unit) = Lib.tabData .u64 Lib.pow10Tab := by kernel_rfl
  rw [e] at h
  exact Lib.tabIs_of_head Tryd.gPW (show (Tryd.prog.globals[1]?).map (·.type) = some 70 by kernel_rfl) Tryd.underlying70 Tryd.underlying30 (by kernel_rfl) (by kernel_rfl) h
end Go.Proofs.YtknbmheenfdebaaDoor
