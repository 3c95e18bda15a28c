/- WPk, WPl: one text. -/
import Derived.Test.YtocealohiflheaaDoorWPj
import Derived.Test.YtocealohiflheaaDoorWPg
import Derived.Test.YtocealohiflheaaDoorSPb
import Derived.Test.YtocealohiflheaaDoorSPc
import Derived.Test.YtocealohiflheaaDoorS7q
namespace Go.Proofs.YtocealohiflheaaDoor
open Go.RowKit Go.Sort
set_option linter.unusedVariables false
set_option maxRecDepth 100000 in
set_option maxHeartbeats 4000000 in
theorem l7Enc_of (ts : List (Int × Int)) (vs : List It) (hl : vs.length ≤ 200) (f : Nat) (hF : F7Hyp ts vs f) : E7Hyp ts vs (f + 1) := by
  intro a q q' e0 vt vv w hf7 he hv hp hT hI
  have hen := he
  have hve := hv
  obtain ⟨ha, hok, hit⟩ := en_inv he
  obtain ⟨_, hq, hfit, hvit⟩ := ve_inv hv
  have hsm : vs.length ≤ 1048577 := by obtain ⟨_, _, _, h, _⟩ := hI.form; exact h
  have hwf : ∀ x ∈ vs, inI x.k ∧ x.n < 18446744073709551616 ∧ x.s.size ≤ 1048577 := by obtain ⟨_, _, _, _, _, _, h⟩ := hI.form; exact h
  obtain ⟨wk, wn, ws⟩ := hwf vs[q] (List.getElem_mem hq)
  have hfit' : vs[q].k = ts[a].1 ∧ fitsN ts[a].1 ts[a].2 vs[q].n = true := by simp [fitsI] at hfit; exact ⟨hfit.1, hfit.2.1⟩
  have hk7 := pm_kind ha hp
  rw [pm_ok ha] at hp
  simp only [Bool.and_eq_true, decide_eq_true_eq] at hp
  have hall := hp.2
  have hnp : np ts[a].1 vs[q].n = vs[q].n := by unfold np; rw [if_pos (by omega)]
  have hkn : kids ts[a].1 ts[a].2 = vs[q].n ∧ 1 ≤ vs[q].n := by
    have h := hfit'.2
    have := hok
    simp only [tyOk, decide_eq_true_eq] at this
    unfold fitsN at h
    rw [if_neg (by omega), if_neg (by omega), if_neg (by omega), if_pos (by omega)] at h
    have := of_decide_eq_true h
    unfold kids
    rw [if_neg (by omega), if_pos (by omega)]
    omega
  have h20 := np_le hok hfit'.2
  have hpart : ∀ j, j < vs[q].n → ∃ y y' e', vit (ve ts vs f) (pl ts f a ts[a].1 vs[q].n) (q + 1) j = some y ∧ vit (ve ts vs f) (pl ts f a ts[a].1 vs[q].n) (q + 1) (j + 1) = some y' ∧ ve ts vs f (pl ts f a ts[a].1 vs[q].n j) y = some y' ∧ en ts f (pl ts f a ts[a].1 vs[q].n j) = some e' ∧ fdB ts (pm ts f) (pl ts f a ts[a].1 vs[q].n j) = true ∧ (prX ts vs f (some j) (pl ts f a ts[a].1 vs[q].n j) y).length ≤ 60000 := fun j hj => by
    rw [hnp] at hvit
    obtain ⟨y, hy⟩ := vit_part hvit (show j ≤ vs[q].n by omega)
    obtain ⟨y', hy'⟩ := vit_part hvit (show j + 1 ≤ vs[q].n by omega)
    have h := hy'
    rw [vit_succ, hy] at h
    have h' : ve ts vs f (pl ts f a ts[a].1 vs[q].n j) y = some y' := h
    obtain ⟨e', he'⟩ := pl_ok ha hok hit hfit'.2 (show j < np ts[a].1 vs[q].n by omega)
    refine ⟨y, y', e', hy, hy', h', he', ?_, prX_le hl (some j) he' h'⟩
    obtain ⟨p, hpj⟩ := iter_part hit (show j ≤ kids ts[a].1 ts[a].2 by omega)
    have hpl : pl ts f a ts[a].1 vs[q].n j = p := by unfold pl; rw [if_pos hk7, hpj]; rfl
    have ha1 : allTo (en ts f) (fdB ts (pm ts f)) (a + 1) (j + 1) = true := by
      cases hx : allTo (en ts f) (fdB ts (pm ts f)) (a + 1) (j + 1) with
      | true => rfl
      | false => rw [allTo_false hx _ (show j + 1 ≤ kids ts[a].1 ts[a].2 by omega)] at hall; cases hall
    rw [allTo_succ hpj] at ha1
    simp only [Bool.and_eq_true] at ha1
    rw [hpl]; exact ha1.2
  obtain ⟨Y, hY⟩ : ∃ Y : Nat → Nat, Y = fun j => (vit (ve ts vs f) (pl ts f a ts[a].1 vs[q].n) (q + 1) j).getD 0 := ⟨_, rfl⟩
  obtain ⟨E, hE⟩ : ∃ E : Nat → List UInt8, E = fun j => prX ts vs f (some j) (pl ts f a ts[a].1 vs[q].n j) (Y j) := ⟨_, rfl⟩
  rw [hnp] at hvit
  have HYN : Hid (Y vs[q].n = q') := by show _ = _; rw [hY]; simp only [hvit, Option.getD_some]
  have HY0 : Hid (Y 0 = q + 1) := by show _ = _; rw [hY]; rfl
  have HYl : Hid (∀ j, j ≤ vs[q].n → Y j ≤ 1048577) := fun j hj => by
    obtain ⟨y, hy⟩ := vit_part hvit hj
    have := (vit_lt (show q + 1 ≤ vs.length by omega) hy).2
    rw [hY]; simp only [hy, Option.getD_some]; omega
  have HEl : Hid (∀ j, j < vs[q].n → (E j).length ≤ 60000) := fun j hj => by
    obtain ⟨y, y', e', hy, hy', hv', he', hfd, hlen⟩ := hpart j hj
    rw [hE, hY]; simp only [hy, Option.getD_some]; exact hlen
  have HRE : Hid (prX ts vs (f + 1) none a q = catE E vs[q].n) := by
    show _ = _
    rw [prX_none ha hq]
    unfold prW
    rw [if_neg (by omega), if_neg (by omega), if_pos hk7, hnp, hE, hY]
  have HFd : Hid (∀ j, j < vs[q].n → ∀ w', Below w.heap.size w w' → Calls Tryd.prog 44 #[vt, .int .i64 (pl ts f a ts[a].1 vs[q].n j : Nat), vv, .int .i64 (Y j), .int .i64 j] w' fun e w'' => e = .returned (.tuple #[.string ⟨(E j).toArray⟩, .int .i64 (Y (j + 1))]) ∧ Below w'.heap.size w' w'') := fun j hj w' hb => by
    obtain ⟨y, y', e', hy, hy', hv', he', hfd, hlen⟩ := hpart j hj
    have := hF j _ y y' e' vt vv w' (by omega) (by omega) he' hv' hfd ((hT.below hb).up hb.size) ((hI.below hb).up hb.size)
    have e1 : Y j = y := by rw [hY]; simp only [hy, Option.getD_some]
    have e2 : Y (j + 1) = y' := by rw [hY]; simp only [hy', Option.getD_some]
    have e3 : E j = prX ts vs f (some j) (pl ts f a ts[a].1 vs[q].n j) y := by rw [hE]; simp only [e1]
    rw [e1, e2, e3]
    exact this
  have HPN : Hid (∀ w', Below w.heap.size w w' → Calls Tryd.prog 43 #[vt, .int .i64 a, .agg #[.int .i64 vs[q].k, .int .u64 vs[q].n, .string vs[q].s]] w' fun e w'' => PlPost ts f a ts[a].1 vs[q].n w' e w'') := fun w' hb => l3Plan_any ts f a e0 vs[q] vt w' (by omega) ((hT.below hb).up hb.size) ha hok hit hfit'.2
  have HPB : Hid (∀ j, j < vs[q].n → pl ts f a ts[a].1 vs[q].n j ≤ 1048577) := fun j hj => by
    obtain ⟨y, y', e', hy, hy', hv', he', hfd, hlen⟩ := hpart j hj
    have := en_lt he'; have := hT.small; omega
  obtain ⟨b', o', C, hvv, hbl', h1', h2', i0, i1, i2⟩ := hI.at hq
  subst hvv
  rw [HRE.out]
  generalize hN : vs[q].n = N at *
  have HNP : Hid (np ts[a].1 N = N) := hnp
  have HNPE : Hid (∀ w', PlPost ts f a ts[a].1 N w' = PlPost ts f a ts[a].1 N w') := fun _ => rfl
  obtain ⟨K, hK⟩ : ∃ K, ts[a].1 = K := ⟨_, rfl⟩
  rw [hK] at HPN HFd HPB HNP
  have hq2 : q ≤ 1048577 := by omega
  have hN20 : N ≤ 20 := by rw [← hnp]; exact h20
  have hN1 : 1 ≤ N := hkn.2
  unfold maxLen at h2'
  generalize vs[q].k = ik at *
  generalize vs[q].s = is at *
  clear hen hve he hv hp hT hI hwf hfit hfit' hok hit hvit hpart hall hnp h20 hk7 hK hE hY hF HRE wk ws hN hkn
  go_enter Tryd.func26, Tryd.ntmps26
  go_wp2_with fail
  refine (HPN.out _ (Below.refl _ _)).mono ?_
  rintro e w1 ⟨vp, rfl, hown, hb1⟩
  have HB1 : Hid (Below w.heap.size w w1) := hb1
  have h2o := hown.2
  rw [HNP.out] at h2o
  rcases h2o with ⟨rfl, hn0⟩ | ⟨g, cp, cur, rfl, _, hg, hcp, hcm, _, _⟩
  · omega
  · have hgl := blk_lt hg
    have HRW : Hid (∀ j, j < N → w1.cell? ⟨g, j, none⟩ = some (.int .i64 (pl ts f a K N j : Nat))) := fun j hj => by
      have h := hown
      rw [HNP.out] at h
      have hx := row_at (ts := ts) (f := f) (a := a) (k := K) (m := N) (w := w1) (B := w.heap.size) (g := g) (cap := cp) (by rw [HNP.out]; exact h) (i := j) (by rw [HNP.out]; exact hj)
      exact hx
    clear hown hb1 hg
    go_wp2_with fail
    go_loopg [3, 10, 12] N (fun gk x o i wr => ∃ (j : Nat) (X : ByteArray), j + gk = N ∧ i = .int .i64 j ∧ x = .int .i64 (Y j) ∧ o = .string X ∧ X = ⟨(catE E j).toArray⟩ ∧ Below w1.heap.size w1 wr)
    case atStart => exact ⟨0, ⟨#[]⟩, by omega, rfl, by rw [HY0.out]; go_num, rfl, rfl, Below.refl _ _⟩
    case round =>
      obtain ⟨j, X, hj', rfl, rfl, rfl, hX, hb⟩ := hrel
      have HJ : Hid (j + gk = N) := hj'
      have HXE : Hid (X = ⟨(catE E j).toArray⟩) := hX
      have HBr : Hid (Below w1.heap.size w1 wr) := hb
      have HBw : Hid (Below w.heap.size w wr) := HB1.out.trans (hb.mono HB1.out.size)
      have hj : j ≤ N := by omega
      have hXs : X.size ≤ 1300000 := by
        rw [hX, show ByteArray.size ⟨(catE E j).toArray⟩ = (catE E j).length from ba_ph _]
        have h1 := catE_len HEl.out j hj
        have h2 : j * 60000 ≤ 20 * 60000 := Nat.mul_le_mul_right _ (by omega)
        omega
      have hyj := HYl.out j hj
      clear hj' hX
      by_cases hjN : j < N
      · have HFj := HFd.out j hjN wr HBw.out
        have cj : wr.cell? ⟨g, j, none⟩ = some (.int .i64 (pl ts f a K N j : Nat)) := by rw [hb.cell (p := ⟨g, j, none⟩) hgl]; exact HRW.out j hjN
        have hpb := HPB.out j hjN
        have hyj1 := HYl.out (j + 1) (by omega)
        have HCS : Hid (catE E (j + 1) = catE E j ++ E j) := rfl
        have hDs : ByteArray.size ⟨(E j).toArray⟩ ≤ 60000 := by rw [ba_ph]; exact HEl.out j hjN
        obtain ⟨D, hD⟩ : ∃ D : ByteArray, (⟨(E j).toArray⟩ : ByteArray) = D := ⟨_, rfl⟩
        have HDE : Hid ((⟨(E j).toArray⟩ : ByteArray) = D) := hD
        obtain ⟨y', hy'⟩ : ∃ y', Y (j + 1) = y' := ⟨_, rfl⟩
        have HYE : Hid (Y (j + 1) = y') := hy'
        rw [hD, hy'] at HFj
        rw [hD] at hDs
        rw [hy'] at hyj1
        obtain ⟨y, hy⟩ : ∃ y, Y j = y := ⟨_, rfl⟩
        rw [hy] at HFj hyj ⊢
        obtain ⟨p, hp⟩ : ∃ p, pl ts f a K N j = p := ⟨_, rfl⟩
        rw [hp] at HFj cj hpb
        have HFJ : Hid (Calls Tryd.prog 44 #[vt, .int .i64 p, .slice (some ⟨b', o', none⟩) vs.length C, .int .i64 y, .int .i64 j] wr fun e w'' => e = .returned (.tuple #[.string D, .int .i64 y']) ∧ Below wr.heap.size wr w'') := HFj
        have hgr : g < wr.heap.size := by have := hb.size; omega
        clear HFj hD hy' hy hp hb
        go_wp2_with fail
        refine HFJ.out.mono ?_
        rintro e w2 ⟨rfl, hb2⟩
        have HB2 : Hid (Below w1.heap.size w1 w2) := HBr.out.trans (hb2.mono HBr.out.size)
        have HXN : Hid (X ++ D = ⟨(catE E (j + 1)).toArray⟩) := by
          show _ = _
          rw [HCS.out, HXE.out, ← HDE.out, cat_list]
        clear hb2 cj
        go_wp2_with fail
        go_roundg (gk - 1)
        case rel => exact ⟨j + 1, X ++ D, by have := HJ.out; omega, by go_num, by rw [HYE.out], rfl, HXN.out, HB2.out⟩
        case measure => have := HJ.out; omega
      · have ej : j = N := by omega
        subst ej
        have HR2 : Hid ((Ending.returned (.tuple #[.string X, .int .i64 (Y j : Nat)])) = Ending.returned (.tuple #[.string ⟨(catE E j).toArray⟩, .int .i64 q'])) := by show _ = _; rw [HXE.out, HYN.out]
        clear hb
        go_wp2_with fail
        go_ret2
        exact ⟨HR2.out, HBw.out⟩
theorem l7Enc_all (ts : List (Int × Int)) (vs : List It) (hl : vs.length ≤ 200) : ∀ F f, f ≤ F → E7Hyp ts vs f := by
  intro F
  induction F with
  | zero =>
    intro f hf
    have : f = 0 := by omega
    subst this
    intro a q q' e0 vt vv w _ h
    cases h
  | succ F ih =>
    intro f hf
    by_cases hfF : f ≤ F
    · exact ih f hfF
    · have : f = F + 1 := by omega
      subst this
      refine l7Enc_of ts vs hl F ?_
      cases F with
      | zero =>
        intro i a q q' e0 vt vv w _ _ h
        cases h
      | succ F => exact l7Field_of ts vs hl F (l7Body_of ts vs hl (F + 1) (ih (F + 1) (Nat.le_refl _))) (l7Body_of ts vs hl F (ih F (by omega)))
end Go.Proofs.YtocealohiflheaaDoor
namespace Go.Proofs.YtocealohiflheaaDoor
open Go.RowKit Go.Sort
set_option linter.unusedVariables false
def proL (ts : List (Int × Int)) (vs : List It) : List UInt8 := prX ts vs 7 none 0 0
set_option maxHeartbeats 1000000 in
theorem specProtoEnc_any (ts : List (Int × Int)) (vs : List It) (v v' : Value) (w : World) (hv : IsTyps w.heap.size w v ts) (hv' : IsItems w.heap.size w v' vs) :
    Calls Tryd.prog 9 #[v, v'] w fun e w' => e = .returned (.tuple #[.string (encB (pm ts 7 0 && typedB ts vs) (proL ts vs)), .bool (pm ts 7 0 && typedB ts vs)]) ∧ Below w.heap.size w w' := by
  have HO : Hid (Calls Tryd.prog 24 #[v] w fun e w' => e = .returned (.bool (schOk ts && pm ts 7 0)) ∧ Below w.heap.size w w') := specProtoOk_any ts v w hv
  have HC : Hid (∀ w', Below w.heap.size w w' → Calls Tryd.prog 25 #[v, v'] w' fun e w'' => e = .returned (.bool (typedB ts vs)) ∧ Below w'.heap.size w' w'') := fun w' hb => specTyped_any ts vs v v' w' ((hv.below hb).up hb.size) ((hv'.below hb).up hb.size)
  have HE : Hid ((schOk ts && pm ts 7 0) = true → typedB ts vs = true → ∀ w', Below w.heap.size w w' → Calls Tryd.prog 26 #[v, .int .i64 0, v', .int .i64 0] w' fun e w'' => e = .returned (.tuple #[.string ⟨(proL ts vs).toArray⟩, .int .i64 vs.length]) ∧ Below w'.heap.size w' w'') := fun hop ht w' hb => by
    obtain ⟨hs, hl, hve⟩ := typed_ve ht
    have hpm : pm ts 7 0 = true := by simp only [Bool.and_eq_true] at hop; exact hop.2
    exact l7Enc_all ts vs hl 7 7 (Nat.le_refl _) 0 0 vs.length ts.length v v' w' (Nat.le_refl _) (schOk_iff.1 hs).2 hve hpm ((hv.below hb).up hb.size) ((hv'.below hb).up hb.size)
  obtain ⟨o, ho⟩ : ∃ o, (schOk ts && pm ts 7 0) = o := ⟨_, rfl⟩
  obtain ⟨t, ht⟩ : ∃ t, typedB ts vs = t := ⟨_, rfl⟩
  have HEQ : Hid ((pm ts 7 0 && t) = (o && t)) := by
    show _ = _
    rw [← ho]
    cases t with
    | false => simp
    | true => rw [(typed_ve ht).1]; rfl
  rw [ho] at HO HE
  rw [ht] at HC HE ⊢
  rw [HEQ.out]
  clear hv hv' ho ht HEQ
  cases o with
  | false =>
    go_enter Tryd.func9, Tryd.ntmps9
    go_wp2_with fail
    refine Calls.mono HO.out ?_
    rintro e w1 ⟨rfl, hb1⟩
    go_wp2_with fail
    go_ret2
    exact ⟨rfl, hb1⟩
  | true =>
    cases t with
    | false =>
      go_enter Tryd.func9, Tryd.ntmps9
      go_wp2_with fail
      refine Calls.mono HO.out ?_
      rintro e w1 ⟨rfl, hb1⟩
      have HB1 : Hid (Below w.heap.size w w1) := hb1
      clear hb1
      go_wp2_with fail
      refine (HC.out _ HB1.out).mono ?_
      rintro e w2 ⟨rfl, hb2⟩
      have HB2 : Hid (Below w.heap.size w w2) := HB1.out.trans (hb2.mono HB1.out.size)
      clear hb2
      go_wp2_with fail
      go_ret2
      exact ⟨rfl, HB2.out⟩
    | true =>
      have HE2 : Hid (∀ w', Below w.heap.size w w' → Calls Tryd.prog 26 #[v, .int .i64 0, v', .int .i64 0] w' fun e w'' => e = .returned (.tuple #[.string ⟨(proL ts vs).toArray⟩, .int .i64 vs.length]) ∧ Below w'.heap.size w' w'') := HE.out rfl rfl
      clear HE
      go_enter Tryd.func9, Tryd.ntmps9
      go_wp2_with fail
      refine Calls.mono HO.out ?_
      rintro e w1 ⟨rfl, hb1⟩
      have HB1 : Hid (Below w.heap.size w w1) := hb1
      clear hb1
      go_wp2_with fail
      refine (HC.out _ HB1.out).mono ?_
      rintro e w2 ⟨rfl, hb2⟩
      have HB2 : Hid (Below w.heap.size w w2) := HB1.out.trans (hb2.mono HB1.out.size)
      clear hb2
      go_wp2_with fail
      refine (HE2.out w2 HB2.out).mono ?_
      rintro e w3 ⟨rfl, hb3⟩
      have HB3 : Hid (Below w.heap.size w w3) := HB2.out.trans (hb3.mono HB2.out.size)
      clear hb3
      go_wp2_with fail
      go_ret2
      exact ⟨rfl, HB3.out⟩
set_option maxHeartbeats 2000000 in
theorem encodeBy_pr (b : Bool) (ts : List (Int × Int)) (vs : List It) (v v' : Value) (w : World) (hv : IsTyps w.heap.size w v ts) (hv' : IsItems w.heap.size w v' vs) (hw : KR w) (he : ET w)
    (hA : schOk ts = true → ∀ (u : Nat) (w : World) (S : Nat → Prop), TreeAt ts 7 w S u 0 → (∀ c, S c → c < w.heap.size) → Calls Tryd.prog 100 #[.agg #[], .pointer (some ⟨u, 0, none⟩)] w fun e w' => e = .returned (.bool b) ∧ Below w.heap.size w w') :
    Calls Tryd.prog 29 #[.iface 64 (.agg #[]), v, v'] w fun e w' => EncPost (b && typedB ts vs) (proL ts vs) w e w' := by
  have HC : Hid (Calls Tryd.prog 45 #[.iface 64 (.agg #[]), v] w fun e w' => SfPost ts (schOk ts && b) w e w') := schemaFor_pr b ts v w hv hw he hA
  have HE : Hid (ET w) := he
  have HI : Hid (IsItems w.heap.size w v' vs) := hv'
  have hvs := items_wf hv'
  clear hv hv' hw he hA
  obtain ⟨o, ho⟩ : ∃ o, (b && typedB ts vs) = o := ⟨_, rfl⟩
  have HOE : Hid ((b && typedB ts vs) = o) := ho
  rw [ho]
  clear ho
  go_enter Tryd.func29, Tryd.ntmps29
  go_wp2_with fail
  refine Calls.mono HC.out ?_
  rintro e w1 ⟨hb1, ⟨hs, T0, z0, rfl⟩ | ⟨hs, u, rfl, htr⟩⟩
  · have HO : Hid (o = false) := by
      show _ = _
      rw [← HOE.out]
      cases ht : typedB ts vs with
      | false => simp
      | true => rw [(typed_ve ht).1] at hs; simpa using hs
    clear hs hvs
    go_wp2_with fail
    go_ret2
    exact ⟨⟨_, by rw [HO.out]; try rfl, .inr ⟨HO.out, T0, z0, rfl⟩⟩, hb1⟩
  · have hs' : schOk ts = true ∧ b = true := by simpa using hs
    obtain ⟨hsch, rfl⟩ := hs'
    have HV : Hid (Calls Tryd.prog 46 #[.pointer (some ⟨u, 0, none⟩), v'] w1 fun e w' => VoPost ts vs (fun b => w.heap.size ≤ b ∧ b < w1.heap.size) w1 e w') := valueOf_any ts vs u _ v' w1 hsch htr (fun c hc => hc.2) ((HI.out.below hb1).up hb1.size)
    have HB1 : Hid (Below w.heap.size w w1) := hb1
    clear hs htr hb1
    rcases Bool.eq_false_or_eq_true (typedB ts vs) with ht | ht
    · obtain ⟨hs, hl, hve⟩ := typed_ve ht
      have HO : Hid (o = true) := by show _ = _; rw [← HOE.out, ht]; rfl
      have hsz : (proL ts vs).length ≤ 1000000000 := by have := prX_le hl none (schOk_iff.1 hs).2 hve; show (prX ts vs 7 none 0 0).length ≤ _; omega
      have hsz2 : ByteArray.size ⟨(proL ts vs).toArray⟩ ≤ 1000000000 := by rw [ba_size]; exact hsz
      have HCL : Hid (∀ w, Calls Tryd.prog 47 #[.string ⟨(proL ts vs).toArray⟩] w fun e w' => e = .returned (.string ⟨(proL ts vs).toArray⟩) ∧ Below w.heap.size w w') := fun w => clone_any _ w (by omega)
      have HW : Hid (∀ x (S : Nat → Prop) w'', (∀ c, S c → c < w''.heap.size) → VAt ts vs 7 w'' S x 0 0 → Calls Tryd.prog 101 #[.agg #[], x] w'' fun e w3 => e = .returned (.string ⟨(proL ts vs).toArray⟩) ∧ Below w''.heap.size w'' w3) := fun x S w'' hS hx => write_pr ts vs hvs hl 7 7 (Nat.le_refl _) 0 0 vs.length S x w'' hve hx hS
      have HTB : Hid (typedB ts vs = true) := ht
      clear hsz hsz2 hs hl hve hvs ht hsch
      go_wp2_with fail
      refine Calls.mono HV.out ?_
      rintro e w2 ⟨hb2, x, rfl, hx⟩
      obtain ⟨⟨T, z, rfl⟩, hva⟩ := hx HTB.out
      rw [HTB.out]
      have HB2 : Hid (Below w.heap.size w w2) := HB1.out.trans (hb2.mono HB1.out.size)
      have HSS : Hid (∀ c, ((w.heap.size ≤ c ∧ c < w1.heap.size) ∨ (w1.heap.size ≤ c ∧ c < w2.heap.size)) → c < w2.heap.size) := fun c hc => by have := hb2.size; omega
      have HX : Hid (VAt ts vs 7 w2 (fun c => (w.heap.size ≤ c ∧ c < w1.heap.size) ∨ (w1.heap.size ≤ c ∧ c < w2.heap.size)) (.iface T z) 0 0) := hva
      clear hb2 hva hx
      go_wp2_with fail
      refine (HW.out _ _ w2 HSS.out HX.out).mono ?_
      rintro e w3 ⟨rfl, hb3⟩
      have HB3 : Hid (Below w.heap.size w w3) := HB2.out.trans (hb3.mono HB2.out.size)
      clear hb3
      go_wp2_with fail
      refine (HCL.out _).mono ?_
      rintro e w4 ⟨rfl, hb4⟩
      have HB4 : Hid (Below w.heap.size w w4) := HB3.out.trans (hb4.mono HB3.out.size)
      clear hb4
      go_wp2_with fail
      go_ret2
      exact ⟨⟨_, by rw [HO.out]; rfl, .inl ⟨HO.out, rfl⟩⟩, HB4.out⟩
    · have HO : Hid (o = false) := by show _ = _; rw [← HOE.out, ht]; rfl
      have HTB : Hid (typedB ts vs = false) := ht
      clear hvs ht hsch
      go_wp2_with fail
      refine Calls.mono HV.out ?_
      rintro e w2 ⟨hb2, x, rfl, _⟩
      rw [HTB.out]
      have HB2 : Hid (Below w.heap.size w w2) := HB1.out.trans (hb2.mono HB1.out.size)
      obtain ⟨e1, T, z, e2⟩ := ET.below (B := 0) HE.out HB2.out
      clear hb2
      go_wp2_with fail
      go_region
      all_goals
        go_wp2_with fail
        go_ret2
        exact ⟨⟨_, by rw [HO.out]; try rfl, .inr ⟨HO.out, T, z, rfl⟩⟩, by first | exact HB2.out | exact HB2.out.drew⟩
set_option maxHeartbeats 2000000 in
theorem implProtoEnc_any (ts : List (Int × Int)) (vs : List It) (v v' : Value) (w : World) (hv : IsTyps w.heap.size w v ts) (hv' : IsItems w.heap.size w v' vs) (hw : KR w) (he : ET w) :
    Calls Tryd.prog 12 #[v, v'] w fun e w' => e = .returned (.tuple #[.string (encB (pm ts 7 0 && typedB ts vs) (proL ts vs)), .bool (pm ts 7 0 && typedB ts vs)]) ∧ Below w.heap.size w w' := by
  have HC : Hid (∀ w', Below w.heap.size w w' → Calls Tryd.prog 29 #[.iface 64 (.agg #[]), v, v'] w' fun e w'' => EncPost (pm ts 7 0 && typedB ts vs) (proL ts vs) w' e w'') := fun w' hb => encodeBy_pr (pm ts 7 0) ts vs v v' w' ((hv.below hb).up hb.size) ((hv'.below hb).up hb.size) (hw.below hb) (ET.below (B := 0) he hb) (fun hs u w S h hS => prAdmits ts 7 7 (Nat.le_refl _) u 0 w S h hS)
  clear hv hv' hw he
  generalize (pm ts 7 0 && typedB ts vs) = o at HC ⊢
  go_enter Tryd.func12, Tryd.ntmps12
  go_wp2_with fail
  have HB1 : Hid (Below w.heap.size w w) := Below.refl _ _
  refine (HC.out w HB1.out).mono ?_
  rintro e w2 ⟨⟨x, rfl, hx⟩, hb2⟩
  have HB2 : Hid (Below w.heap.size w w2) := HB1.out.trans (hb2.mono HB1.out.size)
  clear hb2
  rcases hx with ⟨rfl, rfl⟩ | ⟨rfl, T, z, rfl⟩
  all_goals
    go_wp2_with fail
    go_region
    all_goals
      go_wp2_with fail
      go_ret2
      exact ⟨rfl, by first | exact HB2.out | exact HB2.out.drew⟩
end Go.Proofs.YtocealohiflheaaDoor
