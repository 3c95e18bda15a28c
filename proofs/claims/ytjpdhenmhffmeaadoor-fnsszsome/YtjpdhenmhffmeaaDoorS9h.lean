/- The specification's SSZ of a series: contract. -/
import Derived.Test.YtjpdhenmhffmeaaDoorS9g
namespace Go.Proofs.YtjpdhenmhffmeaaDoor
open Go.RowKit Go.Sort
set_option linter.unusedVariables false
theorem items_wf' {B : Nat} {w : World} {v : Value} {vs : List It} (h : IsItems B w v vs) : ∀ x ∈ vs, x.n < 18446744073709551616 ∧ x.s.size ≤ 1048577 := by
  obtain ⟨b, o, C, h1, _⟩ := h
  exact fun x hx => (h1.wf x hx).2
set_option maxHeartbeats 1000000 in
theorem l5Heads_nil (vt : Value) (w : World) : Calls Tryd.prog 50 #[vt, .slice none 0 0] w fun e w' => e = .returned (.int .i64 0) ∧ w' = w := by
  go_enter Tryd.func50, Tryd.ntmps50
  go_wp2_with fail
  go_loopg [5, 6] 0 (fun gk s i wr => s = .int .i64 0 ∧ i = .int .i64 0 ∧ wr = w)
  case atStart => exact ⟨rfl, rfl, rfl⟩
  case round =>
    obtain ⟨rfl, rfl, rfl⟩ := hrel
    go_wp2_with fail
    go_ret
    exact ⟨rfl, rfl⟩
set_option maxRecDepth 100000 in
set_option maxHeartbeats 4000000 in
theorem e5_5 (ts : List (Int × Int)) (vs : List It) (hl : vs.length ≤ 200) (f : Nat) (hp : E5Hyp ts vs f) (a q q' e0 : Nat) (vt vv : Value) (w : World) (hf7 : f ≤ 7) (hT : IsTyps w.heap.size w vt ts) (hI : IsItems w.heap.size w vv vs) (ha : a < ts.length) (hq : q < vs.length) (hok : tyOk ts[a].1 ts[a].2 = true) (hit : iter (en ts f) (a + 1) (kids ts[a].1 ts[a].2) = some e0) (hfi : fitsI ts[a].1 ts[a].2 vs[q] = true)
    (hv : vit (ve ts vs f) (pl ts f a ts[a].1 vs[q].n) (q + 1) (np ts[a].1 vs[q].n) = some q') (hk : ts[a].1 = 5) (sz : Nat → Int) (E : Nat → List UInt8) (fr : Nat) (HSZ : ∀ j, szT ts f (pl ts f a ts[a].1 vs[q].n j) = sz j) (HEE0 : ∀ j x, vit (ve ts vs f) (pl ts f a ts[a].1 vs[q].n) (q + 1) j = some x → ssE ts vs f (pl ts f a ts[a].1 vs[q].n j) x = E j) (HFE0 : frt (fun j => slt (szT ts f (pl ts f a ts[a].1 vs[q].n j))) (np ts[a].1 vs[q].n) = fr) (hlenE : ∀ j, j ≤ np ts[a].1 vs[q].n → (hts (fun j => decide (sz j < 0)) E fr j).1.length + (hts (fun j => decide (sz j < 0)) E fr j).2.length ≤ 209720000) (hfrl : fr ≤ 2684354560) :
    Calls Tryd.prog 26 #[vt, .int .i64 a, vv, .int .i64 q] w fun e w' => e = .returned (.tuple #[.string ⟨((hts (fun j => decide (sz j < 0)) E fr (np ts[a].1 vs[q].n)).1 ++ (hts (fun j => decide (sz j < 0)) E fr (np ts[a].1 vs[q].n)).2).toArray⟩, .int .i64 q']) ∧ Below w.heap.size w w' := by
  have hfi' : vs[q].k = ts[a].1 ∧ fitsN ts[a].1 ts[a].2 vs[q].n = true ∧ fitsS ts[a].1 ts[a].2 vs[q].s.size = true := by simpa [fitsI] using hfi
  have hfn := hfi'.2.1
  have hvk := hfi'.1
  have hnp : np ts[a].1 vs[q].n ≤ 20 := np_le hok hfn
  have HPL : Hid (∀ j, j < np ts[a].1 vs[q].n → ∃ e', en ts f (pl ts f a ts[a].1 vs[q].n j) = some e') := fun j hj => pl_ok ha hok hit hfn hj
  have HPV : Hid (∀ j, j < np ts[a].1 vs[q].n → ∃ y y', vit (ve ts vs f) (pl ts f a ts[a].1 vs[q].n) (q + 1) j = some y ∧ ve ts vs f (pl ts f a ts[a].1 vs[q].n j) y = some y') := fun j hj => by
    obtain ⟨y, hy⟩ := vit_part hv (show j ≤ np ts[a].1 vs[q].n by omega)
    obtain ⟨y', hy'⟩ := vit_part hv (show j + 1 ≤ np ts[a].1 vs[q].n by omega)
    rw [vit_succ, hy] at hy'
    exact ⟨y, y', hy, hy'⟩
  have HV : Hid (vit (ve ts vs f) (pl ts f a ts[a].1 vs[q].n) (q + 1) (np ts[a].1 vs[q].n) = some q') := hv
  have HPN : Hid (∀ w', Below w.heap.size w w' → Calls Tryd.prog 44 #[vt, .int .i64 a, .agg #[.int .i64 vs[q].k, .int .u64 vs[q].n, .string vs[q].s]] w' fun e w'' => PlPost ts f a ts[a].1 vs[q].n w' e w'') := fun w' hb => l3Plan_any ts f a e0 vs[q] vt w' hf7 ((hT.below hb).up hb.size) ha hok hit hfn
  have HP : Hid (∀ a q q' e0 w', en ts f a = some e0 → ve ts vs f a q = some q' → Below w.heap.size w w' → Calls Tryd.prog 26 #[vt, .int .i64 a, vv, .int .i64 q] w' fun e w'' => e = .returned (.tuple #[.string ⟨(ssE ts vs f a q).toArray⟩, .int .i64 q']) ∧ Below w'.heap.size w' w'') := fun a q q' e0 w' he hve hb => hp a q q' e0 vt vv w' hf7 he hve ((hT.below hb).up hb.size) ((hI.below hb).up hb.size)
  obtain ⟨b, o, C, hI, hF⟩ := hI
  have hvv := hF.at (by omega)
  rw [Nat.sub_zero, Nat.sub_zero, Nat.zero_mul, Nat.add_zero] at hvv
  have hsm := hI.small
  have hst := hT.small
  have hbB : b < w.heap.size := hI.low.resolve_left (by omega)
  obtain ⟨i0, i1, i2⟩ := hI.cells q hq
  obtain ⟨wk, wn, ws⟩ := hI.wf vs[q] (List.getElem_mem hq)
  have HLT : Hid (∀ j x, vit (ve ts vs f) (pl ts f a ts[a].1 vs[q].n) (q + 1) j = some x → x ≤ vs.length) := fun j x h => (vit_lt (by omega) h).2
  have hss : ∀ x ∈ vs, x.s.size ≤ 1048577 := fun x h => (hI.wf x h).2.2
  have HSL : Hid (∀ a q e0 q', en ts f a = some e0 → ve ts vs f a q = some q' → (ssE ts vs f a q).length ≤ 209720000) := fun a q e0 q' he hv => ssE_le hss hl he hv
  obtain ⟨b', o', cap', hv', hb', h1, h2, c0, c1⟩ := hT.at ha
  have HSR : Hid (∀ j, -1 ≤ sz j ∧ sz j ≤ 134217728) := fun j => by rw [← HSZ j]; exact szT_small (by omega)
  have HEE : Hid (∀ j x, vit (ve ts vs f) (pl ts f a ts[a].1 vs[q].n) (q + 1) j = some x → ssE ts vs f (pl ts f a ts[a].1 vs[q].n j) x = E j) := HEE0
  obtain ⟨hd, hhd⟩ : ∃ hd : Nat → List UInt8, hd = fun j => (hts (fun j => decide (sz j < 0)) E fr j).1 := ⟨_, rfl⟩
  obtain ⟨tl, htl⟩ : ∃ tl : Nat → List UInt8, tl = fun j => (hts (fun j => decide (sz j < 0)) E fr j).2 := ⟨_, rfl⟩
  have HZ0 : Hid (hd 0 = [] ∧ tl 0 = []) := by rw [hhd, htl]; exact ⟨rfl, rfl⟩
  have HFX : Hid (∀ j, ¬ sz j < 0 → hd (j + 1) = hd j ++ E j ∧ tl (j + 1) = tl j) := fun j hj => by
    have h := hts_fix (vr := fun j => decide (sz j < 0)) (E := E) (fr := fr) (j := j) (by simpa using hj)
    rw [hhd, htl]; simp only [h]; exact ⟨trivial, trivial⟩
  have HVR : Hid (∀ j, sz j < 0 → hd (j + 1) = hd j ++ leL (fr + (tl j).length) 4 ∧ tl (j + 1) = tl j ++ E j) := fun j hj => by
    have h := hts_var (vr := fun j => decide (sz j < 0)) (E := E) (fr := fr) (j := j) (by simpa using hj)
    rw [hhd, htl]; simp only [h]; exact ⟨trivial, trivial⟩
  have HLN : Hid (∀ j, j ≤ np ts[a].1 vs[q].n → (hd j).length + (tl j).length ≤ 209720000) := fun j hj => by rw [hhd, htl]; exact hlenE j hj
  have HRS : Hid ((⟨(hd (np ts[a].1 vs[q].n) ++ tl (np ts[a].1 vs[q].n)).toArray⟩ : ByteArray) = ⟨((hts (fun j => decide (sz j < 0)) E fr (np ts[a].1 vs[q].n)).1 ++ (hts (fun j => decide (sz j < 0)) E fr (np ts[a].1 vs[q].n)).2).toArray⟩) := by show _ = _; rw [hhd, htl]
  have HHD : Hid (∀ w' g cp, Below w.heap.size w w' → g < w'.heap.size → np ts[a].1 vs[q].n ≤ cp → cp ≤ 9223372036854775807 → (∀ i, i < np ts[a].1 vs[q].n → w'.cell? ⟨g, i, none⟩ = some (.int .i64 (pl ts f a ts[a].1 vs[q].n i : Nat))) → Calls Tryd.prog 50 #[vt, .slice (some ⟨g, 0, none⟩) (np ts[a].1 vs[q].n) cp] w' fun e w'' => e = .returned (.int .i64 fr) ∧ Below w'.heap.size w' w'') := fun w' g cp hb hg h1 h2 hc => by
    have h := l5Heads_any ts f (pl ts f a ts[a].1 vs[q].n) (np ts[a].1 vs[q].n) g cp vt w' (by omega) hnp h1 h2 hg ((hT.below hb).up hb.size) hc (fun i hi => pl_ok ha hok hit hfn hi)
    rw [HFE0] at h
    exact h
  have HSI : Hid (∀ j w', j < np ts[a].1 vs[q].n → Below w.heap.size w w' → Calls Tryd.prog 51 #[vt, .int .i64 (pl ts f a ts[a].1 vs[q].n j : Nat)] w' fun e w'' => e = .returned (.int .i64 (sz j)) ∧ Below w'.heap.size w' w'') := fun j w' hj hb => by
    obtain ⟨e, he⟩ := pl_ok ha hok hit hfn hj
    have h := l5Size_any ts f _ e vt w' (by omega) he ((hT.below hb).up hb.size)
    rw [HSZ j] at h
    exact h
  have HOE : Hid True := trivial
  clear HSZ HEE0 HFE0 hlenE hhd htl hss hfi hit hfn hv hp hfi' hok
  rw [hk] at hnp HPL HPV HV HPN HLT HEE HLN HRS HHD HSI hvk c0 ⊢
  clear hk
  obtain ⟨n, hn2⟩ : ∃ n, ts[a].2 = n := ⟨_, rfl⟩
  rw [hn2] at c1
  clear hn2
  obtain ⟨it, hit0⟩ : ∃ it, vs[q] = it := ⟨_, rfl⟩
  rw [hit0] at i0 i1 i2 hnp HPL HPV HV HPN HLT HEE HLN HRS HHD HSI hvk wn ws ⊢
  clear hit0
  obtain ⟨ik, im, is⟩ := it
  simp only at i0 i1 i2 hnp HPL HPN HLT HPV HV HEE HLN HRS HHD HSI hvk wn ws ⊢
  subst hvk
  have hr := hI.room
  have hm := hI.most
  unfold maxLen at h2 hm
  subst hvv hv'
  have hql : q ≤ 200 := by omega
  clear hI hF hT wk
  have HB2 : Hid (Below w.heap.size w (w.alloc (.cells #[.int .i64 5, .int .u64 (im : Int), .string is] 40))) := bel1 _ _
  have x0 : (w.alloc (.cells #[.int .i64 5, .int .u64 (im : Int), .string is] 40)).cell? ⟨w.heap.size, 0, none⟩ = some (.int .i64 5) := by simp [go_sem]
  go_enter Tryd.func26, Tryd.ntmps26
  go_wp2_with fail
  refine (HPN.out _ HB2.out).mono ?_
  rintro e w7 ⟨vp, rfl, hown, hb7⟩
  have HO : Hid (w7.ownsRow _ 2 1 vp (np 5 im) (plRow ts f a 5 im)) := hown
  have HB7 : Hid (Below w.heap.size w w7) := HB2.out.trans (hb7.mono (HB2.out.size))
  obtain ⟨N, hN⟩ : ∃ N, np 5 im = N := ⟨_, rfl⟩
  have HNE : Hid (np 5 im = N) := hN
  have h2' := hown.2
  rw [hN] at h2' hnp HV HLN HHD HSI
  have hgl := hown.lt
  have u0 : w7.cell? ⟨w.heap.size, 0, none⟩ = some (.int .i64 5) := by rw [hb7.cell (p := ⟨w.heap.size, 0, none⟩) (by simp)]; exact x0
  clear hown hN hb7 x0
  rcases h2' with ⟨rfl, hn0⟩ | ⟨g, cp, cur, rfl, hg, _, hcp, hcm, _, _⟩
  · clear hgl
    go_wp2_with fail
    refine (l5Heads_nil _ w7).mono ?_
    rintro e w8 ⟨rfl, rfl⟩
    have HE : Hid ((⟨#[]⟩ : ByteArray) = ⟨(hd (np 5 im) ++ tl (np 5 im)).toArray⟩ ∧ q' = q + 1) := by
      have hv0 := HV.out
      rw [hn0] at hv0
      cases hv0
      exact ⟨by rw [HNE.out, hn0, HZ0.out.1, HZ0.out.2]; rfl, rfl⟩
    clear u0
    go_wp2_with fail
    go_loopg [3, 16, 17, 19] 0 (fun gk x h t i wr => x = .int .i64 ((q + 1 : Nat) : Int) ∧ h = .string ⟨#[]⟩ ∧ t = .string ⟨#[]⟩ ∧ i = .int .i64 0 ∧ wr = w8)
    case atStart => exact ⟨by go_num, rfl, rfl, rfl, rfl⟩
    case round =>
      obtain ⟨rfl, rfl, rfl, rfl, rfl⟩ := hrel
      go_wp2_with fail
      go_ret2
      exact ⟨by rw [← HRS.out, ← HE.out.1, HE.out.2]; first | rfl | simp, HB7.out⟩
  · have hgw : g < w7.heap.size := (hgl g rfl).2
    have HC : Hid (∀ i, i < N → w7.cell? ⟨g, i, none⟩ = some (.int .i64 (pl ts f a 5 im i : Nat))) := fun i hi => by
      have ho := HO.out
      rw [← HNE.out] at ho hi
      exact row_at ho hi
    clear hgl
    unfold maxLen at hcm
    go_wp2_with fail
    refine (HHD.out w7 g cp HB7.out hgw hcp (by omega) HC.out).mono ?_
    rintro e w8 ⟨rfl, hb8⟩
    have HB8 : Hid (Below w.heap.size w w8) := HB7.out.trans (hb8.mono HB7.out.size)
    have HC8 : Hid (∀ i, i < N → w8.cell? ⟨g, i, none⟩ = some (.int .i64 (pl ts f a 5 im i : Nat))) := fun i hi => by rw [hb8.cell (p := ⟨g, i, none⟩) hgw]; exact HC.out i hi
    have hgw8 : g < w8.heap.size := by have := hb8.size; omega
    clear hb8 u0
    go_wp2_with fail
    go_loopg [3, 16, 17, 19] N (fun gk x h t i wr => ∃ (j y : Nat) (X Y : ByteArray), j + gk = N ∧ i = .int .i64 j ∧ x = .int .i64 y ∧ vit (ve ts vs f) (pl ts f a 5 im) (q + 1) j = some y ∧ h = .string X ∧ X = ⟨(hd j).toArray⟩ ∧ t = .string Y ∧ Y = ⟨(tl j).toArray⟩ ∧ Below w8.heap.size w8 wr)
    case atStart => exact ⟨0, q + 1, _, _, by omega, rfl, by go_num, rfl, rfl, by rw [HZ0.out.1], rfl, by rw [HZ0.out.2], Below.refl _ _⟩
    case round =>
      obtain ⟨j, y, X, Y, hj', rfl, rfl, hy, rfl, hX, rfl, hY, hbel⟩ := hrel
      have HJ : Hid (j + gk = N) := hj'
      have HY : Hid (vit (ve ts vs f) (pl ts f a 5 im) (q + 1) j = some y) := hy
      have HX : Hid (X = ⟨(hd j).toArray⟩) := hX
      have HYY : Hid (Y = ⟨(tl j).toArray⟩) := hY
      have hyl : y ≤ vs.length := HLT.out j y hy
      have hj : j ≤ N := by omega
      have hln := HLN.out j hj
      have hXs : X.size = (hd j).length := by rw [hX, ba_ss]
      have hYs : Y.size = (tl j).length := by rw [hY, ba_ss]
      have HYS : Hid (Y.size = (tl j).length) := hYs
      have hX2 : X.size ≤ 209720000 := by omega
      have hY2 : Y.size ≤ 209720000 := by omega
      have HBW : Hid (Below w.heap.size w wr) := HB8.out.trans (hbel.mono HB8.out.size)
      have HBE : Hid (Below w8.heap.size w8 wr) := hbel
      clear hj' hy hX hY hXs hYs hln
      by_cases hjm : j < N
      · obtain ⟨e1, he1⟩ := HPL.out j (by rw [HNE.out]; exact hjm)
        obtain ⟨z, y1, hz, hy1⟩ := HPV.out j (by rw [HNE.out]; exact hjm)
        have ez : z = y := by rw [HY.out] at hz; injection hz with hz; exact hz.symm
        subst ez
        have hpl : pl ts f a 5 im j ≤ 1048577 := by have := en_lt he1; omega
        have cj : wr.cell? ⟨g, j, none⟩ = some (.int .i64 (pl ts f a 5 im j : Nat)) := by rw [hbel.cell (p := ⟨g, j, none⟩) hgw8]; exact HC8.out j hjm
        have HCK := HP.out (pl ts f a 5 im j) z y1 e1 wr he1 hy1 HBW.out
        have HNX : Hid (vit (ve ts vs f) (pl ts f a 5 im) (q + 1) (j + 1) = some y1) := by show _ = _; rw [vit_succ, HY.out]; exact hy1
        have hEj := HEE.out j z HY.out
        have hPs : ByteArray.size ⟨(ssE ts vs f (pl ts f a 5 im j) z).toArray⟩ ≤ 209720000 := by rw [ba_ss]; exact HSL.out _ _ _ _ he1 hy1
        have hyl1 : y1 ≤ vs.length := (ve_lt hy1).2
        have hsz := HSR.out j
        have HSJ := HSI.out j
        have HF1 := HFX.out j
        have HV1 := HVR.out j
        rw [hEj] at HCK hPs
        obtain ⟨Ej, hEe⟩ : ∃ Ej, E j = Ej := ⟨_, rfl⟩
        rw [hEe] at HCK hPs HF1 HV1
        obtain ⟨s, hse⟩ : ∃ s, sz j = s := ⟨_, rfl⟩
        rw [hse] at hsz HSJ HF1 HV1
        generalize pl ts f a 5 im j = p at cj hpl HCK HSJ
        have HSJ' : Hid (∀ w', j < N → Below w.heap.size w w' → Calls Tryd.prog 51 #[.slice (some ⟨b', o', none⟩) ts.length cap', .int .i64 (p : Nat)] w' fun e w'' => e = .returned (.int .i64 s) ∧ Below w'.heap.size w' w'') := HSJ
        have HXF : Hid (¬ s < 0 → X ++ ⟨Ej.toArray⟩ = ⟨(hd (j + 1)).toArray⟩ ∧ Y = ⟨(tl (j + 1)).toArray⟩) := fun h => ⟨by rw [(HF1 (by omega)).1, HX.out, cat_list], by rw [(HF1 (by omega)).2]; exact HYY.out⟩
        have HXV : Hid (s < 0 → X ++ ⟨(leL (fr + Y.size) 4).toArray⟩ = ⟨(hd (j + 1)).toArray⟩ ∧ Y ++ ⟨Ej.toArray⟩ = ⟨(tl (j + 1)).toArray⟩) := fun h => ⟨by rw [(HV1 (by omega)).1, HX.out, cat_list, HYS.out], by rw [(HV1 (by omega)).2, HYY.out, cat_list]⟩
        obtain ⟨P, hP⟩ : ∃ P : ByteArray, (⟨Ej.toArray⟩ : ByteArray) = P := ⟨_, rfl⟩
        rw [hP] at hPs HCK HXF HXV
        have HK : Hid (Calls Tryd.prog 26 #[.slice (some ⟨b', o', none⟩) ts.length cap', .int .i64 p, .slice (some ⟨b, o, none⟩) vs.length C, .int .i64 z] wr fun e w' => e = .returned (.tuple #[.string P, .int .i64 y1]) ∧ Below wr.heap.size wr w') := HCK
        have hgr : g < wr.heap.size := by have := hbel.size; omega
        have hXP2 : ¬ (9223372036854775807 < X.size + P.size) := by omega
        have hYP2 : ¬ (9223372036854775807 < Y.size + P.size) := by omega
        clear HCK hP HSJ HF1 HV1 hEj hEe hse he1 hy1 hz hbel
        go_wp2_with fail
        refine Calls.mono HK.out ?_
        rintro e w9 ⟨rfl, hb9⟩
        have HB9 : Hid (Below w8.heap.size w8 w9) := HBE.out.trans (hb9.mono HBE.out.size)
        have HW9 : Hid (Below w.heap.size w w9) := HBW.out.trans (hb9.mono HBW.out.size)
        have cj9 : w9.cell? ⟨g, j, none⟩ = some (.int .i64 (p : Nat)) := by rw [hb9.cell (p := ⟨g, j, none⟩) hgr]; exact cj
        clear hb9 cj
        go_wp2_with fail
        refine (HSJ'.out w9 hjm HW9.out).mono ?_
        rintro e wa ⟨rfl, hba⟩
        have HBa : Hid (Below w8.heap.size w8 wa) := HB9.out.trans (hba.mono HB9.out.size)
        clear hba cj9
        by_cases hsv : s < 0
        · have hsd : decide ((0 : Int) ≤ s) = false := by simp; omega
          have hv := HXV.out hsv
          have HXV' : Hid (X ++ ⟨(leL (fr + Y.size) 4).toArray⟩ = ⟨(hd (j + 1)).toArray⟩ ∧ Y ++ P = ⟨(tl (j + 1)).toArray⟩) := hv
          have HLE : Hid (∀ w, Calls Tryd.prog 49 #[.int .u64 ((fr : Int) + (Y.size : Int)), .int .i64 4] w fun e w' => e = .returned (.string ⟨(leL (fr + Y.size) 4).toArray⟩) ∧ Below w.heap.size w w') := fun w => by
            have := l1Le_any (fr + Y.size) 4 w (by omega) (by omega)
            rw [Int.natCast_add] at this
            exact this
          have hos : ByteArray.size ⟨(leL (fr + Y.size) 4).toArray⟩ = 4 := by rw [ba_ss, leL_len]
          obtain ⟨O, hO⟩ : ∃ O : ByteArray, (⟨(leL (fr + Y.size) 4).toArray⟩ : ByteArray) = O := ⟨_, rfl⟩
          rw [hO] at HLE hos HXV'
          have hXO : ¬ (9223372036854775807 < X.size + O.size) := by omega
          clear hv hO hsv HXV HXF hsz hos
          go_wp2_with fail
          refine (HLE.out _).mono ?_
          rintro e wb ⟨rfl, hbb⟩
          have HBb : Hid (Below w8.heap.size w8 wb) := HBa.out.trans (hbb.mono HBa.out.size)
          clear hbb
          go_wp2_with fail
          go_roundg (gk - 1)
          case rel => exact ⟨j + 1, y1, _, _, by have := HJ.out; omega, by go_num, rfl, HNX.out, rfl, HXV'.out.1, rfl, HXV'.out.2, HBb.out⟩
          case measure => have := HJ.out; omega
        · have hsd : decide ((0 : Int) ≤ s) = true := by simp; omega
          have HXF' : Hid (X ++ P = ⟨(hd (j + 1)).toArray⟩ ∧ Y = ⟨(tl (j + 1)).toArray⟩) := HXF.out (by omega)
          clear HXV HXF hsz hsv
          go_wp2_with fail
          go_roundg (gk - 1)
          case rel => exact ⟨j + 1, y1, _, _, by have := HJ.out; omega, by go_num, rfl, HNX.out, rfl, HXF'.out.1, rfl, HXF'.out.2, HBa.out⟩
          case measure => have := HJ.out; omega
      · have ej : j = N := by omega
        subst ej
        have HE : Hid (X ++ Y = ⟨(hd (np 5 im) ++ tl (np 5 im)).toArray⟩ ∧ q' = y) := ⟨by show _ = _; rw [HNE.out, HX.out, HYY.out, cat_list], by have h1 := HV.out; rw [HY.out] at h1; injection h1 with h1; exact h1.symm⟩
        have hXY : ¬ (9223372036854775807 < X.size + Y.size) := by omega
        clear hbel
        go_wp2_with fail
        go_ret2
        exact ⟨by rw [← HRS.out, ← HE.out.1, HE.out.2]; try rfl, HBW.out⟩
set_option maxRecDepth 100000 in
set_option maxHeartbeats 4000000 in
theorem e5_6 (ts : List (Int × Int)) (vs : List It) (hl : vs.length ≤ 200) (f : Nat) (hp : E5Hyp ts vs f) (a q q' e0 : Nat) (vt vv : Value) (w : World) (hf7 : f ≤ 7) (hT : IsTyps w.heap.size w vt ts) (hI : IsItems w.heap.size w vv vs) (ha : a < ts.length) (hq : q < vs.length) (hok : tyOk ts[a].1 ts[a].2 = true) (hit : iter (en ts f) (a + 1) (kids ts[a].1 ts[a].2) = some e0) (hfi : fitsI ts[a].1 ts[a].2 vs[q] = true)
    (hv : vit (ve ts vs f) (pl ts f a ts[a].1 vs[q].n) (q + 1) (np ts[a].1 vs[q].n) = some q') (hk : ts[a].1 = 6) (sz : Nat → Int) (E : Nat → List UInt8) (fr : Nat) (HSZ : ∀ j, szT ts f (pl ts f a ts[a].1 vs[q].n j) = sz j) (HEE0 : ∀ j x, vit (ve ts vs f) (pl ts f a ts[a].1 vs[q].n) (q + 1) j = some x → ssE ts vs f (pl ts f a ts[a].1 vs[q].n j) x = E j) (HFE0 : frt (fun j => slt (szT ts f (pl ts f a ts[a].1 vs[q].n j))) (np ts[a].1 vs[q].n) = fr) (hlenE : ∀ j, j ≤ np ts[a].1 vs[q].n → (hts (fun j => decide (sz j < 0)) E fr j).1.length + (hts (fun j => decide (sz j < 0)) E fr j).2.length ≤ 209720000) (hfrl : fr ≤ 2684354560) :
    Calls Tryd.prog 26 #[vt, .int .i64 a, vv, .int .i64 q] w fun e w' => e = .returned (.tuple #[.string ⟨((hts (fun j => decide (sz j < 0)) E fr (np ts[a].1 vs[q].n)).1 ++ (hts (fun j => decide (sz j < 0)) E fr (np ts[a].1 vs[q].n)).2).toArray⟩, .int .i64 q']) ∧ Below w.heap.size w w' := by
  have hfi' : vs[q].k = ts[a].1 ∧ fitsN ts[a].1 ts[a].2 vs[q].n = true ∧ fitsS ts[a].1 ts[a].2 vs[q].s.size = true := by simpa [fitsI] using hfi
  have hfn := hfi'.2.1
  have hvk := hfi'.1
  have hnp : np ts[a].1 vs[q].n ≤ 20 := np_le hok hfn
  have HPL : Hid (∀ j, j < np ts[a].1 vs[q].n → ∃ e', en ts f (pl ts f a ts[a].1 vs[q].n j) = some e') := fun j hj => pl_ok ha hok hit hfn hj
  have HPV : Hid (∀ j, j < np ts[a].1 vs[q].n → ∃ y y', vit (ve ts vs f) (pl ts f a ts[a].1 vs[q].n) (q + 1) j = some y ∧ ve ts vs f (pl ts f a ts[a].1 vs[q].n j) y = some y') := fun j hj => by
    obtain ⟨y, hy⟩ := vit_part hv (show j ≤ np ts[a].1 vs[q].n by omega)
    obtain ⟨y', hy'⟩ := vit_part hv (show j + 1 ≤ np ts[a].1 vs[q].n by omega)
    rw [vit_succ, hy] at hy'
    exact ⟨y, y', hy, hy'⟩
  have HV : Hid (vit (ve ts vs f) (pl ts f a ts[a].1 vs[q].n) (q + 1) (np ts[a].1 vs[q].n) = some q') := hv
  have HPN : Hid (∀ w', Below w.heap.size w w' → Calls Tryd.prog 44 #[vt, .int .i64 a, .agg #[.int .i64 vs[q].k, .int .u64 vs[q].n, .string vs[q].s]] w' fun e w'' => PlPost ts f a ts[a].1 vs[q].n w' e w'') := fun w' hb => l3Plan_any ts f a e0 vs[q] vt w' hf7 ((hT.below hb).up hb.size) ha hok hit hfn
  have HP : Hid (∀ a q q' e0 w', en ts f a = some e0 → ve ts vs f a q = some q' → Below w.heap.size w w' → Calls Tryd.prog 26 #[vt, .int .i64 a, vv, .int .i64 q] w' fun e w'' => e = .returned (.tuple #[.string ⟨(ssE ts vs f a q).toArray⟩, .int .i64 q']) ∧ Below w'.heap.size w' w'') := fun a q q' e0 w' he hve hb => hp a q q' e0 vt vv w' hf7 he hve ((hT.below hb).up hb.size) ((hI.below hb).up hb.size)
  obtain ⟨b, o, C, hI, hF⟩ := hI
  have hvv := hF.at (by omega)
  rw [Nat.sub_zero, Nat.sub_zero, Nat.zero_mul, Nat.add_zero] at hvv
  have hsm := hI.small
  have hst := hT.small
  have hbB : b < w.heap.size := hI.low.resolve_left (by omega)
  obtain ⟨i0, i1, i2⟩ := hI.cells q hq
  obtain ⟨wk, wn, ws⟩ := hI.wf vs[q] (List.getElem_mem hq)
  have HLT : Hid (∀ j x, vit (ve ts vs f) (pl ts f a ts[a].1 vs[q].n) (q + 1) j = some x → x ≤ vs.length) := fun j x h => (vit_lt (by omega) h).2
  have hss : ∀ x ∈ vs, x.s.size ≤ 1048577 := fun x h => (hI.wf x h).2.2
  have HSL : Hid (∀ a q e0 q', en ts f a = some e0 → ve ts vs f a q = some q' → (ssE ts vs f a q).length ≤ 209720000) := fun a q e0 q' he hv => ssE_le hss hl he hv
  obtain ⟨b', o', cap', hv', hb', h1, h2, c0, c1⟩ := hT.at ha
  have HSR : Hid (∀ j, -1 ≤ sz j ∧ sz j ≤ 134217728) := fun j => by rw [← HSZ j]; exact szT_small (by omega)
  have HEE : Hid (∀ j x, vit (ve ts vs f) (pl ts f a ts[a].1 vs[q].n) (q + 1) j = some x → ssE ts vs f (pl ts f a ts[a].1 vs[q].n j) x = E j) := HEE0
  obtain ⟨hd, hhd⟩ : ∃ hd : Nat → List UInt8, hd = fun j => (hts (fun j => decide (sz j < 0)) E fr j).1 := ⟨_, rfl⟩
  obtain ⟨tl, htl⟩ : ∃ tl : Nat → List UInt8, tl = fun j => (hts (fun j => decide (sz j < 0)) E fr j).2 := ⟨_, rfl⟩
  have HZ0 : Hid (hd 0 = [] ∧ tl 0 = []) := by rw [hhd, htl]; exact ⟨rfl, rfl⟩
  have HFX : Hid (∀ j, ¬ sz j < 0 → hd (j + 1) = hd j ++ E j ∧ tl (j + 1) = tl j) := fun j hj => by
    have h := hts_fix (vr := fun j => decide (sz j < 0)) (E := E) (fr := fr) (j := j) (by simpa using hj)
    rw [hhd, htl]; simp only [h]; exact ⟨trivial, trivial⟩
  have HVR : Hid (∀ j, sz j < 0 → hd (j + 1) = hd j ++ leL (fr + (tl j).length) 4 ∧ tl (j + 1) = tl j ++ E j) := fun j hj => by
    have h := hts_var (vr := fun j => decide (sz j < 0)) (E := E) (fr := fr) (j := j) (by simpa using hj)
    rw [hhd, htl]; simp only [h]; exact ⟨trivial, trivial⟩
  have HLN : Hid (∀ j, j ≤ np ts[a].1 vs[q].n → (hd j).length + (tl j).length ≤ 209720000) := fun j hj => by rw [hhd, htl]; exact hlenE j hj
  have HRS : Hid ((⟨(hd (np ts[a].1 vs[q].n) ++ tl (np ts[a].1 vs[q].n)).toArray⟩ : ByteArray) = ⟨((hts (fun j => decide (sz j < 0)) E fr (np ts[a].1 vs[q].n)).1 ++ (hts (fun j => decide (sz j < 0)) E fr (np ts[a].1 vs[q].n)).2).toArray⟩) := by show _ = _; rw [hhd, htl]
  have HHD : Hid (∀ w' g cp, Below w.heap.size w w' → g < w'.heap.size → np ts[a].1 vs[q].n ≤ cp → cp ≤ 9223372036854775807 → (∀ i, i < np ts[a].1 vs[q].n → w'.cell? ⟨g, i, none⟩ = some (.int .i64 (pl ts f a ts[a].1 vs[q].n i : Nat))) → Calls Tryd.prog 50 #[vt, .slice (some ⟨g, 0, none⟩) (np ts[a].1 vs[q].n) cp] w' fun e w'' => e = .returned (.int .i64 fr) ∧ Below w'.heap.size w' w'') := fun w' g cp hb hg h1 h2 hc => by
    have h := l5Heads_any ts f (pl ts f a ts[a].1 vs[q].n) (np ts[a].1 vs[q].n) g cp vt w' (by omega) hnp h1 h2 hg ((hT.below hb).up hb.size) hc (fun i hi => pl_ok ha hok hit hfn hi)
    rw [HFE0] at h
    exact h
  have HSI : Hid (∀ j w', j < np ts[a].1 vs[q].n → Below w.heap.size w w' → Calls Tryd.prog 51 #[vt, .int .i64 (pl ts f a ts[a].1 vs[q].n j : Nat)] w' fun e w'' => e = .returned (.int .i64 (sz j)) ∧ Below w'.heap.size w' w'') := fun j w' hj hb => by
    obtain ⟨e, he⟩ := pl_ok ha hok hit hfn hj
    have h := l5Size_any ts f _ e vt w' (by omega) he ((hT.below hb).up hb.size)
    rw [HSZ j] at h
    exact h
  have HOE : Hid True := trivial
  clear HSZ HEE0 HFE0 hlenE hhd htl hss hfi hit hfn hv hp hfi' hok
  rw [hk] at hnp HPL HPV HV HPN HLT HEE HLN HRS HHD HSI hvk c0 ⊢
  clear hk
  obtain ⟨n, hn2⟩ : ∃ n, ts[a].2 = n := ⟨_, rfl⟩
  rw [hn2] at c1
  clear hn2
  obtain ⟨it, hit0⟩ : ∃ it, vs[q] = it := ⟨_, rfl⟩
  rw [hit0] at i0 i1 i2 hnp HPL HPV HV HPN HLT HEE HLN HRS HHD HSI hvk wn ws ⊢
  clear hit0
  obtain ⟨ik, im, is⟩ := it
  simp only at i0 i1 i2 hnp HPL HPN HLT HPV HV HEE HLN HRS HHD HSI hvk wn ws ⊢
  subst hvk
  have hr := hI.room
  have hm := hI.most
  unfold maxLen at h2 hm
  subst hvv hv'
  have hql : q ≤ 200 := by omega
  clear hI hF hT wk
  have HB2 : Hid (Below w.heap.size w (w.alloc (.cells #[.int .i64 6, .int .u64 (im : Int), .string is] 40))) := bel1 _ _
  have x0 : (w.alloc (.cells #[.int .i64 6, .int .u64 (im : Int), .string is] 40)).cell? ⟨w.heap.size, 0, none⟩ = some (.int .i64 6) := by simp [go_sem]
  go_enter Tryd.func26, Tryd.ntmps26
  go_wp2_with fail
  refine (HPN.out _ HB2.out).mono ?_
  rintro e w7 ⟨vp, rfl, hown, hb7⟩
  have HO : Hid (w7.ownsRow _ 2 1 vp (np 6 im) (plRow ts f a 6 im)) := hown
  have HB7 : Hid (Below w.heap.size w w7) := HB2.out.trans (hb7.mono (HB2.out.size))
  obtain ⟨N, hN⟩ : ∃ N, np 6 im = N := ⟨_, rfl⟩
  have HNE : Hid (np 6 im = N) := hN
  have h2' := hown.2
  rw [hN] at h2' hnp HV HLN HHD HSI
  have hgl := hown.lt
  have u0 : w7.cell? ⟨w.heap.size, 0, none⟩ = some (.int .i64 6) := by rw [hb7.cell (p := ⟨w.heap.size, 0, none⟩) (by simp)]; exact x0
  clear hown hN hb7 x0
  rcases h2' with ⟨rfl, hn0⟩ | ⟨g, cp, cur, rfl, hg, _, hcp, hcm, _, _⟩
  · clear hgl
    go_wp2_with fail
    refine (l5Heads_nil _ w7).mono ?_
    rintro e w8 ⟨rfl, rfl⟩
    have HE : Hid ((⟨#[]⟩ : ByteArray) = ⟨(hd (np 6 im) ++ tl (np 6 im)).toArray⟩ ∧ q' = q + 1) := by
      have hv0 := HV.out
      rw [hn0] at hv0
      cases hv0
      exact ⟨by rw [HNE.out, hn0, HZ0.out.1, HZ0.out.2]; rfl, rfl⟩
    clear u0
    go_wp2_with fail
    go_loopg [3, 16, 17, 19] 0 (fun gk x h t i wr => x = .int .i64 ((q + 1 : Nat) : Int) ∧ h = .string ⟨#[]⟩ ∧ t = .string ⟨#[]⟩ ∧ i = .int .i64 0 ∧ wr = w8)
    case atStart => exact ⟨by go_num, rfl, rfl, rfl, rfl⟩
    case round =>
      obtain ⟨rfl, rfl, rfl, rfl, rfl⟩ := hrel
      go_wp2_with fail
      go_ret2
      exact ⟨by rw [← HRS.out, ← HE.out.1, HE.out.2]; first | rfl | simp, HB7.out⟩
  · have hgw : g < w7.heap.size := (hgl g rfl).2
    have HC : Hid (∀ i, i < N → w7.cell? ⟨g, i, none⟩ = some (.int .i64 (pl ts f a 6 im i : Nat))) := fun i hi => by
      have ho := HO.out
      rw [← HNE.out] at ho hi
      exact row_at ho hi
    clear hgl
    unfold maxLen at hcm
    go_wp2_with fail
    refine (HHD.out w7 g cp HB7.out hgw hcp (by omega) HC.out).mono ?_
    rintro e w8 ⟨rfl, hb8⟩
    have HB8 : Hid (Below w.heap.size w w8) := HB7.out.trans (hb8.mono HB7.out.size)
    have HC8 : Hid (∀ i, i < N → w8.cell? ⟨g, i, none⟩ = some (.int .i64 (pl ts f a 6 im i : Nat))) := fun i hi => by rw [hb8.cell (p := ⟨g, i, none⟩) hgw]; exact HC.out i hi
    have hgw8 : g < w8.heap.size := by have := hb8.size; omega
    clear hb8 u0
    go_wp2_with fail
    go_loopg [3, 16, 17, 19] N (fun gk x h t i wr => ∃ (j y : Nat) (X Y : ByteArray), j + gk = N ∧ i = .int .i64 j ∧ x = .int .i64 y ∧ vit (ve ts vs f) (pl ts f a 6 im) (q + 1) j = some y ∧ h = .string X ∧ X = ⟨(hd j).toArray⟩ ∧ t = .string Y ∧ Y = ⟨(tl j).toArray⟩ ∧ Below w8.heap.size w8 wr)
    case atStart => exact ⟨0, q + 1, _, _, by omega, rfl, by go_num, rfl, rfl, by rw [HZ0.out.1], rfl, by rw [HZ0.out.2], Below.refl _ _⟩
    case round =>
      obtain ⟨j, y, X, Y, hj', rfl, rfl, hy, rfl, hX, rfl, hY, hbel⟩ := hrel
      have HJ : Hid (j + gk = N) := hj'
      have HY : Hid (vit (ve ts vs f) (pl ts f a 6 im) (q + 1) j = some y) := hy
      have HX : Hid (X = ⟨(hd j).toArray⟩) := hX
      have HYY : Hid (Y = ⟨(tl j).toArray⟩) := hY
      have hyl : y ≤ vs.length := HLT.out j y hy
      have hj : j ≤ N := by omega
      have hln := HLN.out j hj
      have hXs : X.size = (hd j).length := by rw [hX, ba_ss]
      have hYs : Y.size = (tl j).length := by rw [hY, ba_ss]
      have HYS : Hid (Y.size = (tl j).length) := hYs
      have hX2 : X.size ≤ 209720000 := by omega
      have hY2 : Y.size ≤ 209720000 := by omega
      have HBW : Hid (Below w.heap.size w wr) := HB8.out.trans (hbel.mono HB8.out.size)
      have HBE : Hid (Below w8.heap.size w8 wr) := hbel
      clear hj' hy hX hY hXs hYs hln
      by_cases hjm : j < N
      · obtain ⟨e1, he1⟩ := HPL.out j (by rw [HNE.out]; exact hjm)
        obtain ⟨z, y1, hz, hy1⟩ := HPV.out j (by rw [HNE.out]; exact hjm)
        have ez : z = y := by rw [HY.out] at hz; injection hz with hz; exact hz.symm
        subst ez
        have hpl : pl ts f a 6 im j ≤ 1048577 := by have := en_lt he1; omega
        have cj : wr.cell? ⟨g, j, none⟩ = some (.int .i64 (pl ts f a 6 im j : Nat)) := by rw [hbel.cell (p := ⟨g, j, none⟩) hgw8]; exact HC8.out j hjm
        have HCK := HP.out (pl ts f a 6 im j) z y1 e1 wr he1 hy1 HBW.out
        have HNX : Hid (vit (ve ts vs f) (pl ts f a 6 im) (q + 1) (j + 1) = some y1) := by show _ = _; rw [vit_succ, HY.out]; exact hy1
        have hEj := HEE.out j z HY.out
        have hPs : ByteArray.size ⟨(ssE ts vs f (pl ts f a 6 im j) z).toArray⟩ ≤ 209720000 := by rw [ba_ss]; exact HSL.out _ _ _ _ he1 hy1
        have hyl1 : y1 ≤ vs.length := (ve_lt hy1).2
        have hsz := HSR.out j
        have HSJ := HSI.out j
        have HF1 := HFX.out j
        have HV1 := HVR.out j
        rw [hEj] at HCK hPs
        obtain ⟨Ej, hEe⟩ : ∃ Ej, E j = Ej := ⟨_, rfl⟩
        rw [hEe] at HCK hPs HF1 HV1
        obtain ⟨s, hse⟩ : ∃ s, sz j = s := ⟨_, rfl⟩
        rw [hse] at hsz HSJ HF1 HV1
        generalize pl ts f a 6 im j = p at cj hpl HCK HSJ
        have HSJ' : Hid (∀ w', j < N → Below w.heap.size w w' → Calls Tryd.prog 51 #[.slice (some ⟨b', o', none⟩) ts.length cap', .int .i64 (p : Nat)] w' fun e w'' => e = .returned (.int .i64 s) ∧ Below w'.heap.size w' w'') := HSJ
        have HXF : Hid (¬ s < 0 → X ++ ⟨Ej.toArray⟩ = ⟨(hd (j + 1)).toArray⟩ ∧ Y = ⟨(tl (j + 1)).toArray⟩) := fun h => ⟨by rw [(HF1 (by omega)).1, HX.out, cat_list], by rw [(HF1 (by omega)).2]; exact HYY.out⟩
        have HXV : Hid (s < 0 → X ++ ⟨(leL (fr + Y.size) 4).toArray⟩ = ⟨(hd (j + 1)).toArray⟩ ∧ Y ++ ⟨Ej.toArray⟩ = ⟨(tl (j + 1)).toArray⟩) := fun h => ⟨by rw [(HV1 (by omega)).1, HX.out, cat_list, HYS.out], by rw [(HV1 (by omega)).2, HYY.out, cat_list]⟩
        obtain ⟨P, hP⟩ : ∃ P : ByteArray, (⟨Ej.toArray⟩ : ByteArray) = P := ⟨_, rfl⟩
        rw [hP] at hPs HCK HXF HXV
        have HK : Hid (Calls Tryd.prog 26 #[.slice (some ⟨b', o', none⟩) ts.length cap', .int .i64 p, .slice (some ⟨b, o, none⟩) vs.length C, .int .i64 z] wr fun e w' => e = .returned (.tuple #[.string P, .int .i64 y1]) ∧ Below wr.heap.size wr w') := HCK
        have hgr : g < wr.heap.size := by have := hbel.size; omega
        have hXP2 : ¬ (9223372036854775807 < X.size + P.size) := by omega
        have hYP2 : ¬ (9223372036854775807 < Y.size + P.size) := by omega
        clear HCK hP HSJ HF1 HV1 hEj hEe hse he1 hy1 hz hbel
        go_wp2_with fail
        refine Calls.mono HK.out ?_
        rintro e w9 ⟨rfl, hb9⟩
        have HB9 : Hid (Below w8.heap.size w8 w9) := HBE.out.trans (hb9.mono HBE.out.size)
        have HW9 : Hid (Below w.heap.size w w9) := HBW.out.trans (hb9.mono HBW.out.size)
        have cj9 : w9.cell? ⟨g, j, none⟩ = some (.int .i64 (p : Nat)) := by rw [hb9.cell (p := ⟨g, j, none⟩) hgr]; exact cj
        clear hb9 cj
        go_wp2_with fail
        refine (HSJ'.out w9 hjm HW9.out).mono ?_
        rintro e wa ⟨rfl, hba⟩
        have HBa : Hid (Below w8.heap.size w8 wa) := HB9.out.trans (hba.mono HB9.out.size)
        clear hba cj9
        by_cases hsv : s < 0
        · have hsd : decide ((0 : Int) ≤ s) = false := by simp; omega
          have hv := HXV.out hsv
          have HXV' : Hid (X ++ ⟨(leL (fr + Y.size) 4).toArray⟩ = ⟨(hd (j + 1)).toArray⟩ ∧ Y ++ P = ⟨(tl (j + 1)).toArray⟩) := hv
          have HLE : Hid (∀ w, Calls Tryd.prog 49 #[.int .u64 ((fr : Int) + (Y.size : Int)), .int .i64 4] w fun e w' => e = .returned (.string ⟨(leL (fr + Y.size) 4).toArray⟩) ∧ Below w.heap.size w w') := fun w => by
            have := l1Le_any (fr + Y.size) 4 w (by omega) (by omega)
            rw [Int.natCast_add] at this
            exact this
          have hos : ByteArray.size ⟨(leL (fr + Y.size) 4).toArray⟩ = 4 := by rw [ba_ss, leL_len]
          obtain ⟨O, hO⟩ : ∃ O : ByteArray, (⟨(leL (fr + Y.size) 4).toArray⟩ : ByteArray) = O := ⟨_, rfl⟩
          rw [hO] at HLE hos HXV'
          have hXO : ¬ (9223372036854775807 < X.size + O.size) := by omega
          clear hv hO hsv HXV HXF hsz hos
          go_wp2_with fail
          refine (HLE.out _).mono ?_
          rintro e wb ⟨rfl, hbb⟩
          have HBb : Hid (Below w8.heap.size w8 wb) := HBa.out.trans (hbb.mono HBa.out.size)
          clear hbb
          go_wp2_with fail
          go_roundg (gk - 1)
          case rel => exact ⟨j + 1, y1, _, _, by have := HJ.out; omega, by go_num, rfl, HNX.out, rfl, HXV'.out.1, rfl, HXV'.out.2, HBb.out⟩
          case measure => have := HJ.out; omega
        · have hsd : decide ((0 : Int) ≤ s) = true := by simp; omega
          have HXF' : Hid (X ++ P = ⟨(hd (j + 1)).toArray⟩ ∧ Y = ⟨(tl (j + 1)).toArray⟩) := HXF.out (by omega)
          clear HXV HXF hsz hsv
          go_wp2_with fail
          go_roundg (gk - 1)
          case rel => exact ⟨j + 1, y1, _, _, by have := HJ.out; omega, by go_num, rfl, HNX.out, rfl, HXF'.out.1, rfl, HXF'.out.2, HBa.out⟩
          case measure => have := HJ.out; omega
      · have ej : j = N := by omega
        subst ej
        have HE : Hid (X ++ Y = ⟨(hd (np 6 im) ++ tl (np 6 im)).toArray⟩ ∧ q' = y) := ⟨by show _ = _; rw [HNE.out, HX.out, HYY.out, cat_list], by have h1 := HV.out; rw [HY.out] at h1; injection h1 with h1; exact h1.symm⟩
        have hXY : ¬ (9223372036854775807 < X.size + Y.size) := by omega
        clear hbel
        go_wp2_with fail
        go_ret2
        exact ⟨by rw [← HRS.out, ← HE.out.1, HE.out.2]; try rfl, HBW.out⟩
set_option maxRecDepth 100000 in
set_option maxHeartbeats 4000000 in
theorem e5_7 (ts : List (Int × Int)) (vs : List It) (hl : vs.length ≤ 200) (f : Nat) (hp : E5Hyp ts vs f) (a q q' e0 : Nat) (vt vv : Value) (w : World) (hf7 : f ≤ 7) (hT : IsTyps w.heap.size w vt ts) (hI : IsItems w.heap.size w vv vs) (ha : a < ts.length) (hq : q < vs.length) (hok : tyOk ts[a].1 ts[a].2 = true) (hit : iter (en ts f) (a + 1) (kids ts[a].1 ts[a].2) = some e0) (hfi : fitsI ts[a].1 ts[a].2 vs[q] = true)
    (hv : vit (ve ts vs f) (pl ts f a ts[a].1 vs[q].n) (q + 1) (np ts[a].1 vs[q].n) = some q') (hk : ts[a].1 = 7) (sz : Nat → Int) (E : Nat → List UInt8) (fr : Nat) (HSZ : ∀ j, szT ts f (pl ts f a ts[a].1 vs[q].n j) = sz j) (HEE0 : ∀ j x, vit (ve ts vs f) (pl ts f a ts[a].1 vs[q].n) (q + 1) j = some x → ssE ts vs f (pl ts f a ts[a].1 vs[q].n j) x = E j) (HFE0 : frt (fun j => slt (szT ts f (pl ts f a ts[a].1 vs[q].n j))) (np ts[a].1 vs[q].n) = fr) (hlenE : ∀ j, j ≤ np ts[a].1 vs[q].n → (hts (fun j => decide (sz j < 0)) E fr j).1.length + (hts (fun j => decide (sz j < 0)) E fr j).2.length ≤ 209720000) (hfrl : fr ≤ 2684354560) :
    Calls Tryd.prog 26 #[vt, .int .i64 a, vv, .int .i64 q] w fun e w' => e = .returned (.tuple #[.string ⟨((hts (fun j => decide (sz j < 0)) E fr (np ts[a].1 vs[q].n)).1 ++ (hts (fun j => decide (sz j < 0)) E fr (np ts[a].1 vs[q].n)).2).toArray⟩, .int .i64 q']) ∧ Below w.heap.size w w' := by
  have hfi' : vs[q].k = ts[a].1 ∧ fitsN ts[a].1 ts[a].2 vs[q].n = true ∧ fitsS ts[a].1 ts[a].2 vs[q].s.size = true := by simpa [fitsI] using hfi
  have hfn := hfi'.2.1
  have hvk := hfi'.1
  have hnp : np ts[a].1 vs[q].n ≤ 20 := np_le hok hfn
  have HPL : Hid (∀ j, j < np ts[a].1 vs[q].n → ∃ e', en ts f (pl ts f a ts[a].1 vs[q].n j) = some e') := fun j hj => pl_ok ha hok hit hfn hj
  have HPV : Hid (∀ j, j < np ts[a].1 vs[q].n → ∃ y y', vit (ve ts vs f) (pl ts f a ts[a].1 vs[q].n) (q + 1) j = some y ∧ ve ts vs f (pl ts f a ts[a].1 vs[q].n j) y = some y') := fun j hj => by
    obtain ⟨y, hy⟩ := vit_part hv (show j ≤ np ts[a].1 vs[q].n by omega)
    obtain ⟨y', hy'⟩ := vit_part hv (show j + 1 ≤ np ts[a].1 vs[q].n by omega)
    rw [vit_succ, hy] at hy'
    exact ⟨y, y', hy, hy'⟩
  have HV : Hid (vit (ve ts vs f) (pl ts f a ts[a].1 vs[q].n) (q + 1) (np ts[a].1 vs[q].n) = some q') := hv
  have HPN : Hid (∀ w', Below w.heap.size w w' → Calls Tryd.prog 44 #[vt, .int .i64 a, .agg #[.int .i64 vs[q].k, .int .u64 vs[q].n, .string vs[q].s]] w' fun e w'' => PlPost ts f a ts[a].1 vs[q].n w' e w'') := fun w' hb => l3Plan_any ts f a e0 vs[q] vt w' hf7 ((hT.below hb).up hb.size) ha hok hit hfn
  have HP : Hid (∀ a q q' e0 w', en ts f a = some e0 → ve ts vs f a q = some q' → Below w.heap.size w w' → Calls Tryd.prog 26 #[vt, .int .i64 a, vv, .int .i64 q] w' fun e w'' => e = .returned (.tuple #[.string ⟨(ssE ts vs f a q).toArray⟩, .int .i64 q']) ∧ Below w'.heap.size w' w'') := fun a q q' e0 w' he hve hb => hp a q q' e0 vt vv w' hf7 he hve ((hT.below hb).up hb.size) ((hI.below hb).up hb.size)
  obtain ⟨b, o, C, hI, hF⟩ := hI
  have hvv := hF.at (by omega)
  rw [Nat.sub_zero, Nat.sub_zero, Nat.zero_mul, Nat.add_zero] at hvv
  have hsm := hI.small
  have hst := hT.small
  have hbB : b < w.heap.size := hI.low.resolve_left (by omega)
  obtain ⟨i0, i1, i2⟩ := hI.cells q hq
  obtain ⟨wk, wn, ws⟩ := hI.wf vs[q] (List.getElem_mem hq)
  have HLT : Hid (∀ j x, vit (ve ts vs f) (pl ts f a ts[a].1 vs[q].n) (q + 1) j = some x → x ≤ vs.length) := fun j x h => (vit_lt (by omega) h).2
  have hss : ∀ x ∈ vs, x.s.size ≤ 1048577 := fun x h => (hI.wf x h).2.2
  have HSL : Hid (∀ a q e0 q', en ts f a = some e0 → ve ts vs f a q = some q' → (ssE ts vs f a q).length ≤ 209720000) := fun a q e0 q' he hv => ssE_le hss hl he hv
  obtain ⟨b', o', cap', hv', hb', h1, h2, c0, c1⟩ := hT.at ha
  have HSR : Hid (∀ j, -1 ≤ sz j ∧ sz j ≤ 134217728) := fun j => by rw [← HSZ j]; exact szT_small (by omega)
  have HEE : Hid (∀ j x, vit (ve ts vs f) (pl ts f a ts[a].1 vs[q].n) (q + 1) j = some x → ssE ts vs f (pl ts f a ts[a].1 vs[q].n j) x = E j) := HEE0
  obtain ⟨hd, hhd⟩ : ∃ hd : Nat → List UInt8, hd = fun j => (hts (fun j => decide (sz j < 0)) E fr j).1 := ⟨_, rfl⟩
  obtain ⟨tl, htl⟩ : ∃ tl : Nat → List UInt8, tl = fun j => (hts (fun j => decide (sz j < 0)) E fr j).2 := ⟨_, rfl⟩
  have HZ0 : Hid (hd 0 = [] ∧ tl 0 = []) := by rw [hhd, htl]; exact ⟨rfl, rfl⟩
  have HFX : Hid (∀ j, ¬ sz j < 0 → hd (j + 1) = hd j ++ E j ∧ tl (j + 1) = tl j) := fun j hj => by
    have h := hts_fix (vr := fun j => decide (sz j < 0)) (E := E) (fr := fr) (j := j) (by simpa using hj)
    rw [hhd, htl]; simp only [h]; exact ⟨trivial, trivial⟩
  have HVR : Hid (∀ j, sz j < 0 → hd (j + 1) = hd j ++ leL (fr + (tl j).length) 4 ∧ tl (j + 1) = tl j ++ E j) := fun j hj => by
    have h := hts_var (vr := fun j => decide (sz j < 0)) (E := E) (fr := fr) (j := j) (by simpa using hj)
    rw [hhd, htl]; simp only [h]; exact ⟨trivial, trivial⟩
  have HLN : Hid (∀ j, j ≤ np ts[a].1 vs[q].n → (hd j).length + (tl j).length ≤ 209720000) := fun j hj => by rw [hhd, htl]; exact hlenE j hj
  have HRS : Hid ((⟨(hd (np ts[a].1 vs[q].n) ++ tl (np ts[a].1 vs[q].n)).toArray⟩ : ByteArray) = ⟨((hts (fun j => decide (sz j < 0)) E fr (np ts[a].1 vs[q].n)).1 ++ (hts (fun j => decide (sz j < 0)) E fr (np ts[a].1 vs[q].n)).2).toArray⟩) := by show _ = _; rw [hhd, htl]
  have HHD : Hid (∀ w' g cp, Below w.heap.size w w' → g < w'.heap.size → np ts[a].1 vs[q].n ≤ cp → cp ≤ 9223372036854775807 → (∀ i, i < np ts[a].1 vs[q].n → w'.cell? ⟨g, i, none⟩ = some (.int .i64 (pl ts f a ts[a].1 vs[q].n i : Nat))) → Calls Tryd.prog 50 #[vt, .slice (some ⟨g, 0, none⟩) (np ts[a].1 vs[q].n) cp] w' fun e w'' => e = .returned (.int .i64 fr) ∧ Below w'.heap.size w' w'') := fun w' g cp hb hg h1 h2 hc => by
    have h := l5Heads_any ts f (pl ts f a ts[a].1 vs[q].n) (np ts[a].1 vs[q].n) g cp vt w' (by omega) hnp h1 h2 hg ((hT.below hb).up hb.size) hc (fun i hi => pl_ok ha hok hit hfn hi)
    rw [HFE0] at h
    exact h
  have HSI : Hid (∀ j w', j < np ts[a].1 vs[q].n → Below w.heap.size w w' → Calls Tryd.prog 51 #[vt, .int .i64 (pl ts f a ts[a].1 vs[q].n j : Nat)] w' fun e w'' => e = .returned (.int .i64 (sz j)) ∧ Below w'.heap.size w' w'') := fun j w' hj hb => by
    obtain ⟨e, he⟩ := pl_ok ha hok hit hfn hj
    have h := l5Size_any ts f _ e vt w' (by omega) he ((hT.below hb).up hb.size)
    rw [HSZ j] at h
    exact h
  have HOE : Hid True := trivial
  clear HSZ HEE0 HFE0 hlenE hhd htl hss hfi hit hfn hv hp hfi' hok
  rw [hk] at hnp HPL HPV HV HPN HLT HEE HLN HRS HHD HSI hvk c0 ⊢
  clear hk
  obtain ⟨n, hn2⟩ : ∃ n, ts[a].2 = n := ⟨_, rfl⟩
  rw [hn2] at c1
  clear hn2
  obtain ⟨it, hit0⟩ : ∃ it, vs[q] = it := ⟨_, rfl⟩
  rw [hit0] at i0 i1 i2 hnp HPL HPV HV HPN HLT HEE HLN HRS HHD HSI hvk wn ws ⊢
  clear hit0
  obtain ⟨ik, im, is⟩ := it
  simp only at i0 i1 i2 hnp HPL HPN HLT HPV HV HEE HLN HRS HHD HSI hvk wn ws ⊢
  subst hvk
  have hr := hI.room
  have hm := hI.most
  unfold maxLen at h2 hm
  subst hvv hv'
  have hql : q ≤ 200 := by omega
  clear hI hF hT wk
  have HB2 : Hid (Below w.heap.size w (w.alloc (.cells #[.int .i64 7, .int .u64 (im : Int), .string is] 40))) := bel1 _ _
  have x0 : (w.alloc (.cells #[.int .i64 7, .int .u64 (im : Int), .string is] 40)).cell? ⟨w.heap.size, 0, none⟩ = some (.int .i64 7) := by simp [go_sem]
  go_enter Tryd.func26, Tryd.ntmps26
  go_wp2_with fail
  refine (HPN.out _ HB2.out).mono ?_
  rintro e w7 ⟨vp, rfl, hown, hb7⟩
  have HO : Hid (w7.ownsRow _ 2 1 vp (np 7 im) (plRow ts f a 7 im)) := hown
  have HB7 : Hid (Below w.heap.size w w7) := HB2.out.trans (hb7.mono (HB2.out.size))
  obtain ⟨N, hN⟩ : ∃ N, np 7 im = N := ⟨_, rfl⟩
  have HNE : Hid (np 7 im = N) := hN
  have h2' := hown.2
  rw [hN] at h2' hnp HV HLN HHD HSI
  have hgl := hown.lt
  have u0 : w7.cell? ⟨w.heap.size, 0, none⟩ = some (.int .i64 7) := by rw [hb7.cell (p := ⟨w.heap.size, 0, none⟩) (by simp)]; exact x0
  clear hown hN hb7 x0
  rcases h2' with ⟨rfl, hn0⟩ | ⟨g, cp, cur, rfl, hg, _, hcp, hcm, _, _⟩
  · clear hgl
    go_wp2_with fail
    refine (l5Heads_nil _ w7).mono ?_
    rintro e w8 ⟨rfl, rfl⟩
    have HE : Hid ((⟨#[]⟩ : ByteArray) = ⟨(hd (np 7 im) ++ tl (np 7 im)).toArray⟩ ∧ q' = q + 1) := by
      have hv0 := HV.out
      rw [hn0] at hv0
      cases hv0
      exact ⟨by rw [HNE.out, hn0, HZ0.out.1, HZ0.out.2]; rfl, rfl⟩
    clear u0
    go_wp2_with fail
    go_loopg [3, 16, 17, 19] 0 (fun gk x h t i wr => x = .int .i64 ((q + 1 : Nat) : Int) ∧ h = .string ⟨#[]⟩ ∧ t = .string ⟨#[]⟩ ∧ i = .int .i64 0 ∧ wr = w8)
    case atStart => exact ⟨by go_num, rfl, rfl, rfl, rfl⟩
    case round =>
      obtain ⟨rfl, rfl, rfl, rfl, rfl⟩ := hrel
      go_wp2_with fail
      go_ret2
      exact ⟨by rw [← HRS.out, ← HE.out.1, HE.out.2]; first | rfl | simp, HB7.out⟩
  · have hgw : g < w7.heap.size := (hgl g rfl).2
    have HC : Hid (∀ i, i < N → w7.cell? ⟨g, i, none⟩ = some (.int .i64 (pl ts f a 7 im i : Nat))) := fun i hi => by
      have ho := HO.out
      rw [← HNE.out] at ho hi
      exact row_at ho hi
    clear hgl
    unfold maxLen at hcm
    go_wp2_with fail
    refine (HHD.out w7 g cp HB7.out hgw hcp (by omega) HC.out).mono ?_
    rintro e w8 ⟨rfl, hb8⟩
    have HB8 : Hid (Below w.heap.size w w8) := HB7.out.trans (hb8.mono HB7.out.size)
    have HC8 : Hid (∀ i, i < N → w8.cell? ⟨g, i, none⟩ = some (.int .i64 (pl ts f a 7 im i : Nat))) := fun i hi => by rw [hb8.cell (p := ⟨g, i, none⟩) hgw]; exact HC.out i hi
    have hgw8 : g < w8.heap.size := by have := hb8.size; omega
    clear hb8 u0
    go_wp2_with fail
    go_loopg [3, 16, 17, 19] N (fun gk x h t i wr => ∃ (j y : Nat) (X Y : ByteArray), j + gk = N ∧ i = .int .i64 j ∧ x = .int .i64 y ∧ vit (ve ts vs f) (pl ts f a 7 im) (q + 1) j = some y ∧ h = .string X ∧ X = ⟨(hd j).toArray⟩ ∧ t = .string Y ∧ Y = ⟨(tl j).toArray⟩ ∧ Below w8.heap.size w8 wr)
    case atStart => exact ⟨0, q + 1, _, _, by omega, rfl, by go_num, rfl, rfl, by rw [HZ0.out.1], rfl, by rw [HZ0.out.2], Below.refl _ _⟩
    case round =>
      obtain ⟨j, y, X, Y, hj', rfl, rfl, hy, rfl, hX, rfl, hY, hbel⟩ := hrel
      have HJ : Hid (j + gk = N) := hj'
      have HY : Hid (vit (ve ts vs f) (pl ts f a 7 im) (q + 1) j = some y) := hy
      have HX : Hid (X = ⟨(hd j).toArray⟩) := hX
      have HYY : Hid (Y = ⟨(tl j).toArray⟩) := hY
      have hyl : y ≤ vs.length := HLT.out j y hy
      have hj : j ≤ N := by omega
      have hln := HLN.out j hj
      have hXs : X.size = (hd j).length := by rw [hX, ba_ss]
      have hYs : Y.size = (tl j).length := by rw [hY, ba_ss]
      have HYS : Hid (Y.size = (tl j).length) := hYs
      have hX2 : X.size ≤ 209720000 := by omega
      have hY2 : Y.size ≤ 209720000 := by omega
      have HBW : Hid (Below w.heap.size w wr) := HB8.out.trans (hbel.mono HB8.out.size)
      have HBE : Hid (Below w8.heap.size w8 wr) := hbel
      clear hj' hy hX hY hXs hYs hln
      by_cases hjm : j < N
      · obtain ⟨e1, he1⟩ := HPL.out j (by rw [HNE.out]; exact hjm)
        obtain ⟨z, y1, hz, hy1⟩ := HPV.out j (by rw [HNE.out]; exact hjm)
        have ez : z = y := by rw [HY.out] at hz; injection hz with hz; exact hz.symm
        subst ez
        have hpl : pl ts f a 7 im j ≤ 1048577 := by have := en_lt he1; omega
        have cj : wr.cell? ⟨g, j, none⟩ = some (.int .i64 (pl ts f a 7 im j : Nat)) := by rw [hbel.cell (p := ⟨g, j, none⟩) hgw8]; exact HC8.out j hjm
        have HCK := HP.out (pl ts f a 7 im j) z y1 e1 wr he1 hy1 HBW.out
        have HNX : Hid (vit (ve ts vs f) (pl ts f a 7 im) (q + 1) (j + 1) = some y1) := by show _ = _; rw [vit_succ, HY.out]; exact hy1
        have hEj := HEE.out j z HY.out
        have hPs : ByteArray.size ⟨(ssE ts vs f (pl ts f a 7 im j) z).toArray⟩ ≤ 209720000 := by rw [ba_ss]; exact HSL.out _ _ _ _ he1 hy1
        have hyl1 : y1 ≤ vs.length := (ve_lt hy1).2
        have hsz := HSR.out j
        have HSJ := HSI.out j
        have HF1 := HFX.out j
        have HV1 := HVR.out j
        rw [hEj] at HCK hPs
        obtain ⟨Ej, hEe⟩ : ∃ Ej, E j = Ej := ⟨_, rfl⟩
        rw [hEe] at HCK hPs HF1 HV1
        obtain ⟨s, hse⟩ : ∃ s, sz j = s := ⟨_, rfl⟩
        rw [hse] at hsz HSJ HF1 HV1
        generalize pl ts f a 7 im j = p at cj hpl HCK HSJ
        have HSJ' : Hid (∀ w', j < N → Below w.heap.size w w' → Calls Tryd.prog 51 #[.slice (some ⟨b', o', none⟩) ts.length cap', .int .i64 (p : Nat)] w' fun e w'' => e = .returned (.int .i64 s) ∧ Below w'.heap.size w' w'') := HSJ
        have HXF : Hid (¬ s < 0 → X ++ ⟨Ej.toArray⟩ = ⟨(hd (j + 1)).toArray⟩ ∧ Y = ⟨(tl (j + 1)).toArray⟩) := fun h => ⟨by rw [(HF1 (by omega)).1, HX.out, cat_list], by rw [(HF1 (by omega)).2]; exact HYY.out⟩
        have HXV : Hid (s < 0 → X ++ ⟨(leL (fr + Y.size) 4).toArray⟩ = ⟨(hd (j + 1)).toArray⟩ ∧ Y ++ ⟨Ej.toArray⟩ = ⟨(tl (j + 1)).toArray⟩) := fun h => ⟨by rw [(HV1 (by omega)).1, HX.out, cat_list, HYS.out], by rw [(HV1 (by omega)).2, HYY.out, cat_list]⟩
        obtain ⟨P, hP⟩ : ∃ P : ByteArray, (⟨Ej.toArray⟩ : ByteArray) = P := ⟨_, rfl⟩
        rw [hP] at hPs HCK HXF HXV
        have HK : Hid (Calls Tryd.prog 26 #[.slice (some ⟨b', o', none⟩) ts.length cap', .int .i64 p, .slice (some ⟨b, o, none⟩) vs.length C, .int .i64 z] wr fun e w' => e = .returned (.tuple #[.string P, .int .i64 y1]) ∧ Below wr.heap.size wr w') := HCK
        have hgr : g < wr.heap.size := by have := hbel.size; omega
        have hXP2 : ¬ (9223372036854775807 < X.size + P.size) := by omega
        have hYP2 : ¬ (9223372036854775807 < Y.size + P.size) := by omega
        clear HCK hP HSJ HF1 HV1 hEj hEe hse he1 hy1 hz hbel
        go_wp2_with fail
        refine Calls.mono HK.out ?_
        rintro e w9 ⟨rfl, hb9⟩
        have HB9 : Hid (Below w8.heap.size w8 w9) := HBE.out.trans (hb9.mono HBE.out.size)
        have HW9 : Hid (Below w.heap.size w w9) := HBW.out.trans (hb9.mono HBW.out.size)
        have cj9 : w9.cell? ⟨g, j, none⟩ = some (.int .i64 (p : Nat)) := by rw [hb9.cell (p := ⟨g, j, none⟩) hgr]; exact cj
        clear hb9 cj
        go_wp2_with fail
        refine (HSJ'.out w9 hjm HW9.out).mono ?_
        rintro e wa ⟨rfl, hba⟩
        have HBa : Hid (Below w8.heap.size w8 wa) := HB9.out.trans (hba.mono HB9.out.size)
        clear hba cj9
        by_cases hsv : s < 0
        · have hsd : decide ((0 : Int) ≤ s) = false := by simp; omega
          have hv := HXV.out hsv
          have HXV' : Hid (X ++ ⟨(leL (fr + Y.size) 4).toArray⟩ = ⟨(hd (j + 1)).toArray⟩ ∧ Y ++ P = ⟨(tl (j + 1)).toArray⟩) := hv
          have HLE : Hid (∀ w, Calls Tryd.prog 49 #[.int .u64 ((fr : Int) + (Y.size : Int)), .int .i64 4] w fun e w' => e = .returned (.string ⟨(leL (fr + Y.size) 4).toArray⟩) ∧ Below w.heap.size w w') := fun w => by
            have := l1Le_any (fr + Y.size) 4 w (by omega) (by omega)
            rw [Int.natCast_add] at this
            exact this
          have hos : ByteArray.size ⟨(leL (fr + Y.size) 4).toArray⟩ = 4 := by rw [ba_ss, leL_len]
          obtain ⟨O, hO⟩ : ∃ O : ByteArray, (⟨(leL (fr + Y.size) 4).toArray⟩ : ByteArray) = O := ⟨_, rfl⟩
          rw [hO] at HLE hos HXV'
          have hXO : ¬ (9223372036854775807 < X.size + O.size) := by omega
          clear hv hO hsv HXV HXF hsz hos
          go_wp2_with fail
          refine (HLE.out _).mono ?_
          rintro e wb ⟨rfl, hbb⟩
          have HBb : Hid (Below w8.heap.size w8 wb) := HBa.out.trans (hbb.mono HBa.out.size)
          clear hbb
          go_wp2_with fail
          go_roundg (gk - 1)
          case rel => exact ⟨j + 1, y1, _, _, by have := HJ.out; omega, by go_num, rfl, HNX.out, rfl, HXV'.out.1, rfl, HXV'.out.2, HBb.out⟩
          case measure => have := HJ.out; omega
        · have hsd : decide ((0 : Int) ≤ s) = true := by simp; omega
          have HXF' : Hid (X ++ P = ⟨(hd (j + 1)).toArray⟩ ∧ Y = ⟨(tl (j + 1)).toArray⟩) := HXF.out (by omega)
          clear HXV HXF hsz hsv
          go_wp2_with fail
          go_roundg (gk - 1)
          case rel => exact ⟨j + 1, y1, _, _, by have := HJ.out; omega, by go_num, rfl, HNX.out, rfl, HXF'.out.1, rfl, HXF'.out.2, HBa.out⟩
          case measure => have := HJ.out; omega
      · have ej : j = N := by omega
        subst ej
        have HE : Hid (X ++ Y = ⟨(hd (np 7 im) ++ tl (np 7 im)).toArray⟩ ∧ q' = y) := ⟨by show _ = _; rw [HNE.out, HX.out, HYY.out, cat_list], by have h1 := HV.out; rw [HY.out] at h1; injection h1 with h1; exact h1.symm⟩
        have hXY : ¬ (9223372036854775807 < X.size + Y.size) := by omega
        clear hbel
        go_wp2_with fail
        go_ret2
        exact ⟨by rw [← HRS.out, ← HE.out.1, HE.out.2]; try rfl, HBW.out⟩
theorem l5Enc_all (ts : List (Int × Int)) (vs : List It) (hl : vs.length ≤ 200) : ∀ f, E5Hyp ts vs f := by
  intro f
  induction f with
  | zero => intro a q q' e0 vt vv w _ h; cases h
  | succ f ih =>
    intro a q q' e0 vt vv w hf7 he hv hT hI
    obtain ⟨_, hok, hit⟩ := en_inv he
    obtain ⟨ha, hq, hfi, hvt⟩ := ve_inv hv
    have hfi' : vs[q].k = ts[a].1 ∧ fitsN ts[a].1 ts[a].2 vs[q].n = true := by simp [fitsI] at hfi; exact ⟨hfi.1, hfi.2.1⟩
    have hss : ∀ x ∈ vs, x.s.size ≤ 1048577 := fun x h => (items_wf' hI x h).2
    have hnp := np_le hok hfi'.2
    have h9 := hok
    simp only [tyOk, decide_eq_true_eq] at h9
    by_cases hser : ts[a].1 = 5 ∨ ts[a].1 = 6 ∨ ts[a].1 = 7
    · rw [ssE_ser ha hq hser]
      have hfrl : frt (fun j => slt (szT ts f (pl ts f a ts[a].1 vs[q].n j))) (np ts[a].1 vs[q].n) ≤ 2684354560 := by
        have h4 := frt_le (s := fun j => slt (szT ts f (pl ts f a ts[a].1 vs[q].n j))) (L := 134217728) (n := np ts[a].1 vs[q].n) (fun j _ => slt_le (by omega)) (np ts[a].1 vs[q].n) (Nat.le_refl _)
        have h5 : np ts[a].1 vs[q].n * 134217728 ≤ 20 * 134217728 := Nat.mul_le_mul_right _ hnp
        omega
      have hlen := fun (j : Nat) (hj : j ≤ np ts[a].1 vs[q].n) => Exists.elim (vit_part hvt hj) fun x hx => ht_le (fr := frt (fun j => slt (szT ts f (pl ts f a ts[a].1 vs[q].n j))) (np ts[a].1 vs[q].n)) hss hl ha hq hok hit hfi hj hx
      rcases hser with h | h | h
      · exact e5_5 ts vs hl f ih a q q' e0 vt vv w (by omega) hT hI ha hq hok hit hfi hvt h (fun j => szT ts f (pl ts f a ts[a].1 vs[q].n j)) (fun j => ssE ts vs f (pl ts f a ts[a].1 vs[q].n j) ((vit (ve ts vs f) (pl ts f a ts[a].1 vs[q].n) (q + 1) j).getD 0)) _ (fun j => rfl) (fun j x hx => by simp only [hx, Option.getD_some]) rfl hlen hfrl
      · exact e5_6 ts vs hl f ih a q q' e0 vt vv w (by omega) hT hI ha hq hok hit hfi hvt h (fun j => szT ts f (pl ts f a ts[a].1 vs[q].n j)) (fun j => ssE ts vs f (pl ts f a ts[a].1 vs[q].n j) ((vit (ve ts vs f) (pl ts f a ts[a].1 vs[q].n) (q + 1) j).getD 0)) _ (fun j => rfl) (fun j x hx => by simp only [hx, Option.getD_some]) rfl hlen hfrl
      · exact e5_7 ts vs hl f ih a q q' e0 vt vv w (by omega) hT hI ha hq hok hit hfi hvt h (fun j => szT ts f (pl ts f a ts[a].1 vs[q].n j)) (fun j => ssE ts vs f (pl ts f a ts[a].1 vs[q].n j) ((vit (ve ts vs f) (pl ts f a ts[a].1 vs[q].n) (q + 1) j).getD 0)) _ (fun j => rfl) (fun j x hx => by simp only [hx, Option.getD_some]) rfl hlen hfrl
    · rw [ssE_flat ha hq hser]
      by_cases h89 : ts[a].1 = 8 ∨ ts[a].1 = 9
      · rcases h89 with h | h
        · exact e5_8 ts vs hl f ih a q q' e0 vt vv w (by omega) hT hI ha hq hok hit hfi hvt h
        · exact e5_9 ts vs hl f ih a q q' e0 vt vv w (by omega) hT hI ha hq hok hit hfi hvt h
      · have e0 : np ts[a].1 vs[q].n = 0 := by unfold np; rw [if_neg (by omega), if_neg (by omega)]
        rw [e0] at hvt ⊢
        cases hvt
        simp only [cat, List.append_nil]
        have hc : (ts[a].1 = 1 ∧ ts[a].2 = 8) ∨ (ts[a].1 = 1 ∧ ts[a].2 = 16) ∨ (ts[a].1 = 1 ∧ ts[a].2 = 32) ∨ (ts[a].1 = 1 ∧ ts[a].2 = 64) ∨ ts[a].1 = 2 ∨ ts[a].1 = 3 ∨ ts[a].1 = 4 := by omega
        rcases hc with h | h | h | h | h | h | h
        · exact e5_1_8 ts vs a q vt vv w hT hI ha hq hl hfi'.1 h
        · exact e5_1_16 ts vs a q vt vv w hT hI ha hq hl hfi'.1 h
        · exact e5_1_32 ts vs a q vt vv w hT hI ha hq hl hfi'.1 h
        · exact e5_1_64 ts vs a q vt vv w hT hI ha hq hl hfi'.1 h
        · exact e5_2 ts vs a q vt vv w hT hI ha hq hl hfi'.1 h
        · exact e5_3 ts vs a q vt vv w hT hI ha hq hl hfi'.1 h
        · exact e5_4 ts vs a q vt vv w hT hI ha hq hl hfi'.1 h
end Go.Proofs.YtjpdhenmhffmeaaDoor
