/- Parsing a series, a choice: contracts, out of the one of a value. -/
import Derived.Test.YtepffjfgomhepaaGreatDoorS3b
namespace Go.Proofs.YtepffjfgomhepaaGreatDoor
open Go.RowKit
set_option linter.unusedVariables false
/-- The contract of parseValue, f levels being left. -/
def PvHyp (ts : List (Int × Int)) (vs : List It) (b o C f : Nat) : Prop :=
  ∀ (a q u : Nat) (S0 : Nat → Prop) (v : Value) (w : World), TreeAt ts f w S0 u a → (∀ c, S0 c → c < w.heap.size) → ItemsAt w.heap.size w b o C vs → q ≤ vs.length → FromQ b o C vs q v →
    Calls Tryz.prog 53 #[.pointer (some ⟨u, 0, none⟩), v] w fun e w' => PvPost ts vs f a q b o C S0 w e w'
theorem TreeAt.bel {ts : List (Int × Int)} {f u a : Nat} {w w' : World} {S : Nat → Prop} (h : TreeAt ts f w S u a) (hS : ∀ c, S c → c < w.heap.size) (hb : Below w.heap.size w w') : TreeAt ts f w' S u a :=
  h.keep (fun _ h => h) (fun c hc => hb.block c (hS c hc))
theorem fits_n {k n : Int} {x : It} (h : fitsI k n x = true) : fitsN k n x.n = true := by simp [fitsI] at h; exact h.2.1
theorem Tryz.infoVN : (Tryz.prog.info? 70).map (fun i => (i.zero, i.size, i.bytes)) = some (some .nilIface, 1, 16) := by kernel_rfl
set_option maxHeartbeats 2000000 in
theorem series_any (ts : List (Int × Int)) (vs : List It) (b o C f : Nat) (hp : PvHyp ts vs b o C f) (a q u : Nat) (S0 : Nat → Prop) (v : Value) (w : World) (ht : TreeAt ts (f + 1) w S0 u a) (hS0 : ∀ c, S0 c → c < w.heap.size) (hI : ItemsAt w.heap.size w b o C vs)
    (ha : a < ts.length) (hq : q < vs.length) (hfit : fitsI ts[a].1 ts[a].2 vs[q] = true) (hk : ts[a].1 = 5 ∨ ts[a].1 = 6 ∨ ts[a].1 = 7) (hv : FromQ b o C vs (q + 1) v) :
    Calls Tryz.prog 82 #[.pointer (some ⟨u, 0, none⟩), .int .u64 vs[q].n, v] w fun e w' => PvPost ts vs (f + 1) a q b o C S0 w e w' := by
  obtain ⟨i0, hi, hz0, hz1, hz2⟩ := info_parts Tryz.infoVN
  have HT : Hid (TreeAt ts (f + 1) w S0 u a) := ht
  have HS : Hid (∀ c, S0 c → c < w.heap.size) := hS0
  have HI : Hid (ItemsAt w.heap.size w b o C vs) := hI
  have HP : Hid (PvHyp ts vs b o C f) := hp
  have HV : Hid (FromQ b o C vs (q + 1) v) := hv
  have hok : tyOk ts[a].1 ts[a].2 = true := by obtain ⟨_, _, _, _, h1, _⟩ := ht.openT; exact h1
  have hM20 : vs[q].n ≤ 20 := by have := np_le hok (fits_n hfit); unfold np at this; rw [if_pos (by omega)] at this; exact this
  have HE : Hid (ve ts vs (f + 1) a q = vit (ve ts vs f) (pl ts f a ts[a].1 vs[q].n) (q + 1) vs[q].n) := by
    show _ = _
    have e : np ts[a].1 vs[q].n = vs[q].n := by unfold np; rw [if_pos (by omega)]
    rw [ve_ok ha hq hfit, e]
  have HFI : Hid (fitsI ts[a].1 ts[a].2 vs[q] = true) := hfit
  have HKK : Hid (ts[a].1 = 5 ∨ ts[a].1 = 6 ∨ ts[a].1 = 7) := hk
  obtain ⟨ps, hps⟩ : ∃ ps, pl ts f a ts[a].1 vs[q].n = ps := ⟨_, rfl⟩
  have HPS : Hid (pl ts f a ts[a].1 vs[q].n = ps) := hps
  rw [hps] at HE
  obtain ⟨M, hM⟩ : ∃ M, vs[q].n = M := ⟨_, rfl⟩
  have HM : Hid (vs[q].n = M) := hM
  rw [hM] at hM20 HE ⊢
  clear ht hS0 hI hp hv hok hfit hk hps hM
  have hst : SeInv ts vs f a q u w.heap.size S0 ps w (w.alloc (.cells #[.pointer (some ⟨u, 0, none⟩), .slice none 0 0] 155)) 0 (q + 1) (.slice none 0 0) [] := SeInv.start
  go_enter Tryz.func82, Tryz.ntmps82
  go_wp2_with fail
  go_loopg [2, 17] M (fun gk v2 i wr => ∃ (j x : Nat) (vv : Value) (ys : List Value), j + gk = M ∧ i = .int .u64 j ∧ FromQ b o C vs x v2 ∧ SeInv ts vs f a q u w.heap.size S0 ps w wr j x vv ys)
  case atStart => exact ⟨0, q + 1, _, _, by omega, rfl, HV.out, hst⟩
  case round =>
    clear hst
    obtain ⟨j, x, vv, ys, hj', rfl, hfq, hse⟩ := hrel
    have HJ : Hid (j + gk = M) := hj'
    have hj : j ≤ M := by omega
    have HFQ : Hid (FromQ b o C vs x u2) := hfq
    have HSE : Hid (SeInv ts vs f a q u w.heap.size S0 ps w wr j x vv ys) := hse
    have hnl : w.heap.size < wr.heap.size := blk_lt hse.node
    clear hj' hfq
    by_cases hjM : j < M
    · clear hse
      go_wp2_with fail
      refine (part_any ts f u a wr S0 j M j (HT.out.bel HS.out HSE.out.bel) ha (by rw [← HM.out]; exact fits_n HFI.out) (by unfold np; rw [if_pos (by have := HKK.out; omega)]; exact hjM) ⟨fun h => by have := HKK.out; omega, fun _ => rfl⟩ (by omega)).mono ?_
      rintro e w1 ⟨⟨c, rfl, htc⟩, rfl⟩
      have hpj : pl ts f a ts[a].1 M j = ps j := by rw [← HPS.out, HM.out]
      rw [hpj] at htc
      have HTC : Hid (TreeAt ts f w1 S0 c (ps j)) := htc
      clear htc hpj
      have hxl : x ≤ vs.length := (vit_lt (by omega) HSE.out.pos).2
      go_wp2_with fail
      refine (HP.out (ps j) x c S0 u2 w1 HTC.out (fun c hc => by have := HS.out c hc; omega) ((HI.out.below HSE.out.bel).up HSE.out.bel.size) hxl HFQ.out).mono ?_
      rintro e w3 ⟨hb3, ⟨he, y, hy1, rfl⟩ | ⟨q', T, yv, v3, he, hfq3, rfl, hva⟩⟩
      · have HR : Hid (ve ts vs (f + 1) a q = none) := by show _ = _; rw [HE.out]; exact vit_none (j := j + 1) (by rw [vit_succ, HSE.out.pos]; exact he) M (by omega)
        have HB : Hid (Below w.heap.size w w3) := HSE.out.bel.trans (hb3.mono HSE.out.bel.size)
        clear he hb3
        go_wp2_with fail
        go_ret3
        exact ⟨HB.out, .inl ⟨HR.out, _, .inl rfl, rfl⟩⟩
      · have HY : Hid (ve ts vs f (ps j) x = some q') := he
        have HF3 : Hid (FromQ b o C vs q' v3) := hfq3
        have HVA : Hid (VAt ts vs f w3 (fun c => S0 c ∨ (w1.heap.size ≤ c ∧ c < w3.heap.size)) (.iface T yv) (ps j) x) := hva
        have HB3 : Hid (Below w1.heap.size w1 w3) := hb3
        have hN3 : w3.heap[w.heap.size]? = some (.cells #[.pointer (some ⟨u, 0, none⟩), vv] 155 (0, 0)) := (hb3.block _ hnl).trans HSE.out.node
        have HN3 : Hid (w3.heap[w.heap.size]? = some (.cells #[.pointer (some ⟨u, 0, none⟩), vv] 155 (0, 0))) := hN3
        have n1 : w3.cell? ⟨w.heap.size, 1, none⟩ = some vv := by rw [cell_of_row w3 _ 1 _ _ _ hN3]; simp
        have HR3 : Hid (w3.ownsRow (w.heap.size + 1) 70 1 vv j ys) := HSE.out.row.kept (gb_bel hb3) (by cases vv.ownBlock <;> simp)
        have hs3 : w.heap.size < w3.heap.size := by have := hb3.size; omega
        clear he hfq3 hva hb3 hN3
        go_wp2_with (at_builtin; refine wpList_append_lies _ rfl _ _ 124 rfl (w.heap.size + 1) 70 i0 .nilIface 1 16 Tryz.underlying124 hi hz0 hz1 hz2 rfl (by decide) vv j _ rfl (HR3.out.alloc _) ⟨w3.heap.size, 0, none⟩ 1 1 [.iface T yv] rfl rfl ?c1 ?c2 (by omega) ?c3 ?c4 ?c5 (w3.heap.size + 1) (by simp) ?_)
        case c1 =>
          intro i u hi
          match i, hi with
          | 0, hi => simp at hi; subst hi; simp [Addr.add]
        case c2 => intro u hu; simp at hu; subst hu; rfl
        case c3 => unfold maxLen; omega
        case c4 => omega
        case c5 => simp; omega
        intro g cap' w4 hown' hgrow hat hlt'
        have hNo : some w.heap.size ≠ vv.ownBlock := fun e => by have := HR3.out.lt _ e.symm; omega
        have hN4 : w4.heap[w.heap.size]? = some (.cells #[.pointer (some ⟨u, 0, none⟩), vv] 155 (0, 0)) := by rw [hgrow.block _ (by simp; omega) hNo, Below.heap_alloc _ _ _ hs3]; exact HN3.out
        have m1 : w4.cell? ⟨w.heap.size, 1, none⟩ = some vv := by rw [cell_of_row w4 _ 1 _ _ _ hN4]; simp
        have f1 : w4.frozen? ⟨w.heap.size, 1, none⟩ = false := by simp [World.frozen?, hN4]
        have HQ : Hid (SeInv ts vs f a q u w.heap.size S0 ps w (w4.setCell ⟨w.heap.size, 1, none⟩ (.slice (some ⟨g, 0, none⟩) (j + 1) cap')) (j + 1) q' (.slice (some ⟨g, 0, none⟩) (j + 1) cap') (ys ++ [.iface T yv])) :=
          HSE.out.next HS.out HB3.out rfl HVA.out HY.out hgrow hat hlt' hown'
        clear hown' hgrow hat hlt' hN4 hNo n1
        go_wp2_with fail
        go_roundg (gk - 1)
        case rel => exact ⟨j + 1, q', _, ys ++ [.iface T yv], by have := HJ.out; omega, by go_num, HF3.out, HQ.out⟩
        case measure => have := HJ.out; omega
    · have e1 : j = M := by omega
      obtain ⟨n0, n1, _, _⟩ := (⟨by rw [cell_of_row wr _ 0 _ _ _ hse.node]; simp, by rw [cell_of_row wr _ 1 _ _ _ hse.node]; simp, trivial, trivial⟩ : wr.cell? ⟨w.heap.size, 0, none⟩ = some (.pointer (some ⟨u, 0, none⟩)) ∧ wr.cell? ⟨w.heap.size, 1, none⟩ = some vv ∧ True ∧ True)
      have hform : ∃ ad cap, vv = .slice ad M cap ∧ M ≤ cap ∧ cap ≤ maxLen ∧ (M = 0 ∨ ∃ g, ad = some ⟨g, 0, none⟩ ∧ w.heap.size < g ∧ g < wr.heap.size ∧ ∀ i (h : i < ys.length), wr.cell? ⟨g, i, none⟩ = some ys[i]) := by
        rcases hse.row.2 with ⟨hv, h0⟩ | ⟨g, cap, cur, hv, hg, hh, h1, h2, h3, h4⟩
        · have e0 : M = 0 := by omega
          exact ⟨none, 0, by rw [hv, e0], by omega, by simp [maxLen], .inl e0⟩
        · refine ⟨_, cap, by rw [hv, e1], by omega, h2, .inr ⟨g, rfl, by omega, blk_lt hh, fun i hi => ?_⟩⟩
          have hl := hse.len
          rw [cell_of_row wr g i cur _ _ hh]
          have : ys[i]? = cur.toList[i]? := by rw [← h4, List.getElem?_take, if_pos (by omega)]
          rw [List.getElem?_eq_getElem hi] at this
          simpa using this.symm
      obtain ⟨ad, cap, rfl, q1, q2, q3⟩ := hform
      have hfin : VAt ts vs (f + 1) wr (fun c => S0 c ∨ (w.heap.size ≤ c ∧ c < wr.heap.size)) (.iface 155 (.agg #[.pointer (some ⟨u, 0, none⟩), .slice ad M cap])) a q := by
        refine ⟨u, ha, hq, (HT.out.bel HS.out hse.bel).keep (fun c hc => .inl hc) (fun _ _ => rfl), HFI.out, .inr (.inr (.inl ⟨HKK.out, ad, cap, by rw [HM.out], by rw [HM.out]; exact q1, q2, ?_⟩))⟩
        rw [HM.out]
        rcases q3 with q3 | ⟨g, hg, g1, g2, g3⟩
        · exact .inl q3
        · refine .inr ⟨g, hg, .inr ⟨by omega, g2⟩, fun i hi => ?_⟩
          have hi' : i < ys.length := by rw [hse.len]; omega
          obtain ⟨p, hp1, hp2⟩ := hse.kin i hi'
          have hps : pl ts f a ts[a].1 M = ps := by rw [← HPS.out, HM.out]
          rw [hps]
          exact ⟨ys[i], p, hp1, g3 i hi', hp2.keep (fun c hc => hc.imp id (fun ⟨r1, r2, _⟩ => ⟨by omega, r2⟩)) (fun _ _ => rfl)⟩
      have HFIN : Hid (VAt ts vs (f + 1) wr (fun c => S0 c ∨ (w.heap.size ≤ c ∧ c < wr.heap.size)) (.iface 155 (.agg #[.pointer (some ⟨u, 0, none⟩), .slice ad M cap])) a q) := hfin
      have HVE : Hid (ve ts vs (f + 1) a q = some x) := by show _ = _; rw [HE.out, ← e1]; exact hse.pos
      clear hfin q3 hse e1
      go_wp2_with fail
      go_ret3
      exact ⟨HSE.out.bel, .inr ⟨x, _, _, _, HVE.out, HFQ.out, rfl, HFIN.out⟩⟩
set_option maxHeartbeats 1000000 in
theorem chosen_no (ts : List (Int × Int)) (f u a : Nat) (w : World) (S : Nat → Prop) (h : TreeAt ts (f + 1) w S u a) (ha : a < ts.length) (hk : ts[a].1 = 8) :
    Calls Tryz.prog 100 #[.pointer (some ⟨u, 0, none⟩), .int .u64 0] w fun e w' => e = .returned (.pointer none) ∧ w' = w := by
  obtain ⟨_, e, ad, cap, hok, hit, hu, c0, c1, c5, h3, h4, h5⟩ := h.openT
  rw [hk] at c0
  clear h hok hit c1 c5 h3 h4 h5 hk hu
  go_enter Tryz.func100, Tryz.ntmps100
  go_wp2_with fail
  go_ret
  exact ⟨rfl, rfl⟩
set_option maxHeartbeats 1000000 in
theorem chosen_any (ts : List (Int × Int)) (f u a : Nat) (w : World) (S : Nat → Prop) (m : Nat) (h : TreeAt ts (f + 1) w S u a) (ha : a < ts.length) (hk : ts[a].1 = 8 ∨ ts[a].1 = 9) (hf : fitsN ts[a].1 ts[a].2 m = true) (hz : ¬ (ts[a].1 = 8 ∧ m = 0)) (hm : m < 18446744073709551616) :
    Calls Tryz.prog 100 #[.pointer (some ⟨u, 0, none⟩), .int .u64 m] w fun e w' => (∃ c, e = .returned (.pointer (some ⟨c, 0, none⟩)) ∧ TreeAt ts f w S c (pl ts f a ts[a].1 m 0)) ∧ w' = w := by
  have hnp : np ts[a].1 m = 1 := by
    unfold np
    unfold fitsN at hf
    rcases hk with h8 | h9
    · rw [if_pos (by omega)]
      rw [if_neg (by omega), if_pos (by omega)] at hf
      have := of_decide_eq_true hf
      have : m ≠ 0 := fun e => hz ⟨h8, e⟩
      omega
    · rw [if_neg (by omega), if_pos h9]
  have HPA : Hid (Calls Tryz.prog 99 #[.pointer (some ⟨u, 0, none⟩), .int .u64 m] w fun e w' => (∃ c, e = .returned (.pointer (some ⟨c, 0, none⟩)) ∧ TreeAt ts f w S c (pl ts f a ts[a].1 m 0)) ∧ w' = w) :=
    part_any ts f u a w S m m 0 h ha hf (by rw [hnp]; omega) ⟨fun _ => rfl, fun h => by omega⟩ hm
  obtain ⟨_, e, ad, cap, hok, hit, hu, c0, c1, c5, h3, h4, h5⟩ := h.openT
  have hkk : (ts[a].1 == 8) = true ∧ ((m : Int) == 0) = false ∨ (ts[a].1 == 8) = false := by
    rcases hk with h8 | h9
    · exact .inl ⟨by simp [h8], by simp; intro e; exact hz ⟨h8, e⟩⟩
    · exact .inr (by simp [h9])
  obtain ⟨k, hkE⟩ : ∃ k, ts[a].1 = k := ⟨_, rfl⟩
  have HKE : Hid (ts[a].1 = k) := hkE
  rw [hkE] at c0 hkk
  clear h hok hit c1 c5 h3 h4 h5 hk hu hz hf hnp hkE
  rcases hkk with ⟨h8, hn0⟩ | h8
  all_goals
    go_enter Tryz.func100, Tryz.ntmps100
    go_wp2_with fail
    refine Calls.mono HPA.out ?_
    rintro e w1 ⟨⟨c, rfl, htc⟩, rfl⟩
    have HTC : Hid (TreeAt ts f w1 S c (pl ts f a ts[a].1 m 0)) := htc
    clear htc
    go_wp2_with fail
    go_ret
    exact ⟨⟨c, rfl, HTC.out⟩, rfl⟩
set_option maxHeartbeats 2000000 in
theorem choice_any (ts : List (Int × Int)) (vs : List It) (b o C f : Nat) (hp : PvHyp ts vs b o C f) (a q u : Nat) (S0 : Nat → Prop) (v : Value) (w : World) (ht : TreeAt ts (f + 1) w S0 u a) (hS0 : ∀ c, S0 c → c < w.heap.size) (hI : ItemsAt w.heap.size w b o C vs)
    (ha : a < ts.length) (hq : q < vs.length) (hfit : fitsI ts[a].1 ts[a].2 vs[q] = true) (hk : ts[a].1 = 8 ∨ ts[a].1 = 9) (hv : FromQ b o C vs (q + 1) v) :
    Calls Tryz.prog 83 #[.pointer (some ⟨u, 0, none⟩), .int .u64 vs[q].n, v] w fun e w' => PvPost ts vs (f + 1) a q b o C S0 w e w' := by
  have HT : Hid (TreeAt ts (f + 1) w S0 u a) := ht
  have HS : Hid (∀ c, S0 c → c < w.heap.size) := hS0
  have HI : Hid (ItemsAt w.heap.size w b o C vs) := hI
  have HP : Hid (PvHyp ts vs b o C f) := hp
  have HV : Hid (FromQ b o C vs (q + 1) v) := hv
  obtain ⟨_, e0, ad0, cap0, hok, _, _, c0, _⟩ := ht.openT
  have hM : vs[q].n < 18446744073709551616 := (hI.wf vs[q] (List.getElem_mem hq)).2.1
  have hfn := fits_n hfit
  have HE : Hid (ve ts vs (f + 1) a q = vit (ve ts vs f) (pl ts f a ts[a].1 vs[q].n) (q + 1) (np ts[a].1 vs[q].n)) := ve_ok ha hq hfit
  have HFI : Hid (fitsI ts[a].1 ts[a].2 vs[q] = true) := hfit
  have HKK : Hid (ts[a].1 = 8 ∨ ts[a].1 = 9) := hk
  have HFN : Hid (fitsN ts[a].1 ts[a].2 vs[q].n = true) := hfn
  by_cases hz : ts[a].1 = 8 ∧ vs[q].n = 0
  · have HFIN : Hid (VAt ts vs (f + 1) w (fun c => S0 c ∨ (w.heap.size ≤ c ∧ c < w.heap.size)) (.iface 157 (.agg #[.pointer (some ⟨u, 0, none⟩), .int .u64 0, .nilIface])) a q) :=
      ⟨u, ha, hq, ht.keep (fun c hc => .inl hc) (fun _ _ => rfl), hfit, .inr (.inr (.inr ⟨hk, .nilIface, by rw [hz.2]; rfl, .inl ⟨by unfold np; rw [if_pos (by omega)]; exact hz.2, rfl⟩⟩))⟩
    have HVE : Hid (ve ts vs (f + 1) a q = some (q + 1)) := by
      show _ = _
      have e : np ts[a].1 vs[q].n = 0 := by unfold np; rw [if_pos (by omega)]; exact hz.2
      rw [HE.out, e]; rfl
    rw [hz.2]
    have HCN : Hid (Calls Tryz.prog 100 #[.pointer (some ⟨u, 0, none⟩), .int .u64 0] w fun e w' => e = .returned (.pointer none) ∧ w' = w) := chosen_no ts f u a w S0 ht ha hz.1
    clear c0
    clear ht hS0 hI hp hv hok hfit hk hfn hz HE HFI HKK hM HFN
    go_enter Tryz.func83, Tryz.ntmps83
    go_wp2_with fail
    refine Calls.mono HCN.out ?_
    rintro e w1 ⟨rfl, rfl⟩
    go_wp2_with fail
    go_ret3
    exact ⟨Below.refl _ _, .inr ⟨q + 1, _, _, _, HVE.out, HV.out, rfl, HFIN.out⟩⟩
  · have hnp : np ts[a].1 vs[q].n = 1 := by
      unfold np
      unfold fitsN at hfn
      rcases hk with h8 | h9
      · rw [if_pos (by omega)]
        rw [if_neg (by omega), if_pos (by omega)] at hfn
        have := of_decide_eq_true hfn
        have : vs[q].n ≠ 0 := fun e => hz ⟨h8, e⟩
        omega
      · rw [if_neg (by omega), if_pos h9]
    have HNP : Hid (np ts[a].1 vs[q].n = 1) := hnp
    have HZ : Hid (¬ (ts[a].1 = 8 ∧ vs[q].n = 0)) := hz
    have HMn : Hid (∀ j, j < np ts[a].1 vs[q].n → j = 0) := fun j hj => by omega
    obtain ⟨k, hkE⟩ : ∃ k, ts[a].1 = k := ⟨_, rfl⟩
    obtain ⟨M, hME⟩ : ∃ M, vs[q].n = M := ⟨_, rfl⟩
    have HKE : Hid (ts[a].1 = k) := hkE
    have HME : Hid (vs[q].n = M) := hME
    rw [hME] at hM ⊢
    clear c0
    clear ht hS0 hI hp hv hok hfit hk hfn hz hnp hkE hME
    have HPA : Hid (Calls Tryz.prog 100 #[.pointer (some ⟨u, 0, none⟩), .int .u64 M] w fun e w' => (∃ c, e = .returned (.pointer (some ⟨c, 0, none⟩)) ∧ TreeAt ts f w S0 c (pl ts f a ts[a].1 vs[q].n 0)) ∧ w' = w) := by
      have := chosen_any ts f u a w S0 vs[q].n HT.out ha HKK.out HFN.out HZ.out (by rw [HME.out]; exact hM)
      rwa [HME.out] at this ⊢
    go_enter Tryz.func83, Tryz.ntmps83
    go_wp2_with fail
    refine Calls.mono HPA.out ?_
    rintro e w1 ⟨⟨c, rfl, htc⟩, rfl⟩
    have HTC : Hid (TreeAt ts f w1 S0 c (pl ts f a ts[a].1 vs[q].n 0)) := htc
    clear htc
    go_wp2_with fail
    refine (HP.out (pl ts f a ts[a].1 vs[q].n 0) (q + 1) c S0 v w1 HTC.out HS.out HI.out (by omega) HV.out).mono ?_
    rintro e w3 ⟨hb3, ⟨he, y, hy1, rfl⟩ | ⟨q', T, yv, v3, he, hfq3, rfl, hva⟩⟩
    · have HR : Hid (ve ts vs (f + 1) a q = none) := by show _ = _; rw [HE.out, HNP.out]; exact he
      clear he
      rcases hy1 with rfl | ⟨T, z, rfl⟩
      · go_wp2_with fail
        go_ret3
        exact ⟨hb3, .inl ⟨HR.out, _, .inr ⟨_, _, rfl⟩, rfl⟩⟩
      · go_wp2_with fail
        go_ret3
        exact ⟨hb3, .inl ⟨HR.out, _, .inr ⟨_, _, rfl⟩, rfl⟩⟩
    · have HVE : Hid (ve ts vs (f + 1) a q = some q') := by show _ = _; rw [HE.out, HNP.out]; exact he
      have HF3 : Hid (FromQ b o C vs q' v3) := hfq3
      have HFIN : Hid (VAt ts vs (f + 1) w3 (fun c => S0 c ∨ (w1.heap.size ≤ c ∧ c < w3.heap.size)) (.iface 157 (.agg #[.pointer (some ⟨u, 0, none⟩), .int .u64 M, .iface T yv])) a q) :=
        ⟨u, ha, hq, (HT.out.bel HS.out hb3).keep (fun c hc => .inl hc) (fun _ _ => rfl), HFI.out, .inr (.inr (.inr ⟨HKK.out, .iface T yv, by rw [HME.out], .inr ⟨by rw [HNP.out]; omega, hva⟩⟩))⟩
      clear he hfq3 hva
      go_wp2_with fail
      go_ret3
      exact ⟨hb3, .inr ⟨q', _, _, _, HVE.out, HF3.out, rfl, HFIN.out⟩⟩
end Go.Proofs.YtepffjfgomhepaaGreatDoor
