/- S7h, S7i: one text. -/
import Derived.Test.YtichgnddbnibjaaGreatDoorS7d
import Derived.Test.YtichgnddbnibjaaGreatDoorS7q
namespace Go.Proofs.YtichgnddbnibjaaGreatDoor
open Go.RowKit Go.Sort
set_option linter.unusedVariables false
theorem l6CountB_any (m : Nat) (w : World) (hm : m < 18446744073709551616) : Calls Tryz.prog 49 #[.int .u64 m, .bool true] w fun e w' => e = .returned (.string ⟨(cb_bc m).toArray⟩) ∧ Below w.heap.size w w' := by
  have HC : Hid (∀ w, Calls Tryz.prog 72 #[.int .u64 m] w fun e w' => e = .returned (.string ⟨(putSize m).toArray⟩) ∧ Below w.heap.size w w') := fun w => specPutSize_any m w hm
  have HR : Hid (cb_bc m = putSize m) := if_pos hm
  clear hm
  go_enter Tryz.func49, Tryz.ntmps49
  go_wp2_with fail
  refine (HC.out _).mono ?_
  rintro e w1 ⟨rfl, hb1⟩
  go_wp2_with fail
  go_ret
  exact ⟨by rw [HR.out]; try rfl, hb1⟩
/-- The contract of l6Enc, f levels being left. -/
def B6Hyp (ts : List (Int × Int)) (vs : List It) (f : Nat) : Prop :=
  ∀ (a q q' e0 : Nat) (vt vv : Value) (w : World), f ≤ 7 → en ts f a = some e0 → ve ts vs f a q = some q' → IsTyps w.heap.size w vt ts → IsItems w.heap.size w vv vs →
    Calls Tryz.prog 27 #[vt, .int .i64 a, vv, .int .i64 q, .bool true] w fun e w' => e = .returned (.tuple #[.string ⟨(scE cb_bc ts vs f a q).toArray⟩, .int .i64 q']) ∧ Below w.heap.size w w'
set_option maxRecDepth 100000 in
set_option maxHeartbeats 8000000 in
theorem b6_1_8 (ts : List (Int × Int)) (vs : List It) (hl : vs.length ≤ 200) (f : Nat) (hp : B6Hyp ts vs f) (a q q' e0 : Nat) (vt vv : Value) (w : World) (hf7 : f ≤ 7) (hT : IsTyps w.heap.size w vt ts) (hI : IsItems w.heap.size w vv vs) (ha : a < ts.length) (hq : q < vs.length) (hok : tyOk ts[a].1 ts[a].2 = true) (hit : iter (en ts f) (a + 1) (kids ts[a].1 ts[a].2) = some e0) (hfi : fitsI ts[a].1 ts[a].2 vs[q] = true)
    (hv : vit (ve ts vs f) (pl ts f a ts[a].1 vs[q].n) (q + 1) (np ts[a].1 vs[q].n) = some q') (hk : ts[a].1 = 1 ∧ ts[a].2 = 8) :
    Calls Tryz.prog 27 #[vt, .int .i64 a, vv, .int .i64 q, .bool true] w fun e w' => e = .returned (.tuple #[.string ⟨(own cb_bc ts[a].2 vs[q] ++ cat (scE cb_bc ts vs f) (ve ts vs f) (pl ts f a ts[a].1 vs[q].n) (q + 1) (np ts[a].1 vs[q].n)).toArray⟩, .int .i64 q']) ∧ Below w.heap.size w w' := by
  have hfi' : vs[q].k = ts[a].1 ∧ fitsN ts[a].1 ts[a].2 vs[q].n = true ∧ fitsS ts[a].1 ts[a].2 vs[q].s.size = true := by simpa [fitsI] using hfi
  have hfn := hfi'.2.1
  have hvk := hfi'.1
  have hnp : np ts[a].1 vs[q].n ≤ 20 := np_le hok hfn
  have HPL : Hid (∀ j, j < np ts[a].1 vs[q].n → ∃ e', en ts f (pl ts f a ts[a].1 vs[q].n j) = some e') := fun j hj => pl_ok ha hok hit hfn hj
  have HPV : Hid (∀ j, j < np ts[a].1 vs[q].n → ∃ y y', vit (ve ts vs f) (pl ts f a ts[a].1 vs[q].n) (q + 1) j = some y ∧ ve ts vs f (pl ts f a ts[a].1 vs[q].n j) y = some y') := fun j hj => by
    obtain ⟨y, hy⟩ := vit_part hv (show j ≤ np ts[a].1 vs[q].n by omega)
    obtain ⟨y', hy'⟩ := vit_part hv (show j + 1 ≤ np ts[a].1 vs[q].n by omega)
    rw [vit_succ, hy] at hy'
    exact ⟨y, y', hy, hy'⟩
  have HV : Hid (vit (ve ts vs f) (pl ts f a ts[a].1 vs[q].n) (q + 1) (np ts[a].1 vs[q].n) = some q') := hv
  have HPN : Hid (∀ w', Below w.heap.size w w' → Calls Tryz.prog 42 #[vt, .int .i64 a, .agg #[.int .i64 vs[q].k, .int .u64 vs[q].n, .string vs[q].s]] w' fun e w'' => PlPost ts f a ts[a].1 vs[q].n w' e w'') := fun w' hb => l3Plan_any ts f a e0 vs[q] vt w' hf7 ((hT.below hb).up hb.size) ha hok hit hfn
  have HP : Hid (∀ a q q' e0 w', en ts f a = some e0 → ve ts vs f a q = some q' → Below w.heap.size w w' → Calls Tryz.prog 27 #[vt, .int .i64 a, vv, .int .i64 q, .bool true] w' fun e w'' => e = .returned (.tuple #[.string ⟨(scE cb_bc ts vs f a q).toArray⟩, .int .i64 q']) ∧ Below w'.heap.size w' w'') := fun a q q' e0 w' he hve hb => hp a q q' e0 vt vv w' hf7 he hve ((hT.below hb).up hb.size) ((hI.below hb).up hb.size)
  obtain ⟨b, o, C, hI, hF⟩ := hI
  have hvv := hF.at (by omega)
  rw [Nat.sub_zero, Nat.sub_zero, Nat.zero_mul, Nat.add_zero] at hvv
  have hsm := hI.small
  have hst := hT.small
  have hbB : b < w.heap.size := hI.low.resolve_left (by omega)
  obtain ⟨i0, i1, i2⟩ := hI.cells q hq
  obtain ⟨wk, wn, ws⟩ := hI.wf vs[q] (List.getElem_mem hq)
  have HLT : Hid (∀ j x, vit (ve ts vs f) (pl ts f a ts[a].1 vs[q].n) (q + 1) j = some x → x ≤ vs.length) := fun j x h => (vit_lt (by omega) h).2
  have hss : ∀ x ∈ vs, x.s.size ≤ 1048577 := fun x h => (hI.wf x h).2.2
  have HSL : Hid (∀ a q e0 q', en ts f a = some e0 → ve ts vs f a q = some q' → (scE cb_bc ts vs f a q).length ≤ 1000000000) := fun a q e0 q' he hv => scE_le cb_len_bc hss hl he hv
  have HOL : Hid ((own cb_bc ts[a].2 vs[q]).length ≤ 1048590) := own_len cb_len_bc hok hvk ws
  have HCL : Hid (∀ j x, j ≤ np ts[a].1 vs[q].n → vit (ve ts vs f) (pl ts f a ts[a].1 vs[q].n) (q + 1) j = some x → (cat (scE cb_bc ts vs f) (ve ts vs f) (pl ts f a ts[a].1 vs[q].n) (q + 1) j).length ≤ 1000000000) := fun j x hj hx => by
    have h1 := cat_len cb_len_bc hss (k := ts[a].1) (n := ts[a].2) ha rfl hok hit hfn (q := q) j x hj hx
    have h2 := (vit_lt (by omega) hx).2
    have h3 : x * 1048590 ≤ 200 * 1048590 := Nat.mul_le_mul_right _ (by omega)
    omega
  obtain ⟨b', o', cap', hv', hb', h1, h2, c0, c1⟩ := hT.at ha
  obtain ⟨cc, hcc⟩ : ∃ cc, cat (scE cb_bc ts vs f) (ve ts vs f) (pl ts f a ts[a].1 vs[q].n) (q + 1) = cc := ⟨_, rfl⟩
  have HCS : Hid (∀ j x, vit (ve ts vs f) (pl ts f a ts[a].1 vs[q].n) (q + 1) j = some x → cc (j + 1) = cc j ++ scE cb_bc ts vs f (pl ts f a ts[a].1 vs[q].n j) x) := fun j x h => by rw [← hcc]; exact cat_succ h
  have HC0 : Hid (cc 0 = []) := by show _ = _; rw [← hcc]; rfl
  rw [hcc] at HCL ⊢
  obtain ⟨OW, hOW⟩ : ∃ OW, own cb_bc ts[a].2 vs[q] = OW := ⟨_, rfl⟩
  have HOE : Hid (OW = leL vs[q].n 1) := by show _ = _; rw [← hOW, own_num hvk (by omega), hk.1, hk.2]; rfl
  rw [hOW] at HOL ⊢
  generalize ts[a].1 = k at *
  generalize ts[a].2 = n at *
  generalize vs[q] = it at *
  obtain ⟨ik, im, is⟩ := it
  simp only at i0 i1 i2 hnp HPL HPN HLT HPV HV HCL HCS hvk hk HOE wn ws
  subst hvk
  have hr := hI.room
  have hm := hI.most
  unfold maxLen at h2 hm
  subst hvv hv'
  have hql : q ≤ 200 := by omega
  clear hI hF hT hfi hfi' wk hp hit hfn hv hss hcc hOW
  obtain ⟨rfl, rfl⟩ := hk
  have HL : Hid (∀ w, Calls Tryz.prog 48 #[.int .u64 im, .int .i64 1] w fun e w' => e = .returned (.string ⟨(leL im 1).toArray⟩) ∧ Below w.heap.size w w') := fun w => l1Le_any im 1 w wn (by omega)
  have r0 := cells_re3 (cell_1 c0 hb' (.cells #[.int .i64 1, .int .u64 (im : Int), .string is] 64))
  have r1 := cells_re3 (cell_1 c1 hb' (.cells #[.int .i64 1, .int .u64 (im : Int), .string is] 64))
  have s0 := cells_re3 (w := (w.alloc (.cells #[.int .i64 1, .int .u64 (im : Int), .string is] 64))) (a := ⟨w.heap.size, 0, none⟩) (v := .int .i64 1) (by simp [go_sem])
  have s1 := cells_re3 (w := (w.alloc (.cells #[.int .i64 1, .int .u64 (im : Int), .string is] 64))) (a := ⟨w.heap.size, 1, none⟩) (v := .int .u64 (im : Int)) (by simp [go_sem])
  have s2 := cells_re3 (w := (w.alloc (.cells #[.int .i64 1, .int .u64 (im : Int), .string is] 64))) (a := ⟨w.heap.size, 2, none⟩) (v := .string is) (by simp [go_sem])
  go_enter Tryz.func27, Tryz.ntmps27
  go_wp2_with fail
  refine wp_region_quiet_below (by kernel_rfl) (by kernel_rfl) ?_
  repeat (go_big_quiet_step (exact Calls.regrown_of (HL.out _)))
  refine wpQuiet_nil ?_
  intro w2 hw'
  obtain ⟨⟨dq, osq⟩, hw''⟩ := hw'
  have hb2 : Below w.heap.size w w2 := by rw [hw'']; exact (bel1 _ _).trans ((below_regrown _ dq osq).mono (by simp))
  have HB2 : Hid (Below w.heap.size w w2) := hb2
  have x0 : w2.cell? ⟨w.heap.size, 0, none⟩ = some (.int .i64 1) := by rw [hw'']; exact s0 _ _
  have x1 : w2.cell? ⟨w.heap.size, 1, none⟩ = some (.int .u64 im) := by rw [hw'']; exact s1 _ _
  have x2 : w2.cell? ⟨w.heap.size, 2, none⟩ = some (.string is) := by rw [hw'']; exact s2 _ _
  clear hw'' r0 r1 s0 s1 s2 hb2
  obtain ⟨D, hD⟩ : ∃ D : ByteArray, (⟨(leL im 1).toArray⟩ : ByteArray) = D := ⟨_, rfl⟩
  have HD : Hid (D = ⟨(OW).toArray⟩) := by show _ = _; rw [← hD, HOE.out]
  rw [hD]
  clear hD
  clear HOE
  go_wp2_with fail
  refine (HPN.out _ HB2.out).mono ?_
  rintro e w7 ⟨vp, rfl, hown, hb7⟩
  have HO : Hid (w7.ownsRow _ 2 1 vp (np 1 im) (plRow ts f a 1 im)) := hown
  have HB7 : Hid (Below w.heap.size w w7) := HB2.out.trans (hb7.mono (HB2.out.size))
  obtain ⟨N, hN⟩ : ∃ N, np 1 im = N := ⟨_, rfl⟩
  have HNE : Hid (np 1 im = N) := hN
  have h2' := hown.2
  rw [hN] at h2' hnp HV HCL
  have hgl := hown.lt
  clear hown hN hb7 x0 x1 x2
  rcases h2' with ⟨rfl, hn0⟩ | ⟨g, cp, cur, rfl, hg, _, hcp, hcm, _, _⟩
  · have HE : Hid (D = ⟨(OW ++ cc N).toArray⟩ ∧ q' = q + 1) := by
      have hv0 := HV.out
      rw [hn0] at hv0
      cases hv0
      exact ⟨by rw [HD.out, hn0, HC0.out, List.append_nil], rfl⟩
    clear hgl
    go_wp2_with fail
    go_loopg [3, 13, 15] 0 (fun gk x o i wr => x = .int .i64 ((q + 1 : Nat) : Int) ∧ o = .string D ∧ i = .int .i64 0 ∧ wr = w7)
    case atStart => exact ⟨by go_num, rfl, rfl, rfl⟩
    case round =>
      obtain ⟨rfl, rfl, rfl, rfl⟩ := hrel
      go_wp2_with fail
      go_ret2
      exact ⟨by rw [HNE.out, ← HE.out.1, HE.out.2]; try rfl, HB7.out⟩
  · have hgw : g < w7.heap.size := (hgl g rfl).2
    have HC : Hid (∀ i, i < N → w7.cell? ⟨g, i, none⟩ = some (.int .i64 (pl ts f a 1 im i : Nat))) := fun i hi => by
      have ho := HO.out
      rw [← HNE.out] at ho hi
      exact row_at ho hi
    clear hgl
    unfold maxLen at hcm
    go_wp2_with fail
    go_loopg [3, 13, 15] N (fun gk x o i wr => ∃ (j y : Nat) (X : ByteArray), j + gk = N ∧ i = .int .i64 j ∧ x = .int .i64 y ∧ vit (ve ts vs f) (pl ts f a 1 im) (q + 1) j = some y ∧ o = .string X ∧ X = ⟨(OW ++ cc j).toArray⟩ ∧ Below w7.heap.size w7 wr)
    case atStart => exact ⟨0, q + 1, _, by omega, rfl, by go_num, rfl, rfl, by rw [HD.out, HC0.out, List.append_nil], Below.refl _ _⟩
    case round =>
      obtain ⟨j, y, X, hj', rfl, rfl, hy, rfl, hX, hbel⟩ := hrel
      have HJ : Hid (j + gk = N) := hj'
      have HY : Hid (vit (ve ts vs f) (pl ts f a 1 im) (q + 1) j = some y) := hy
      have HX : Hid (X = ⟨(OW ++ cc j).toArray⟩) := hX
      have hyl : y ≤ vs.length := HLT.out j y hy
      have hj : j ≤ N := by omega
      have hXs : X.size ≤ 1001048590 := by
        rw [hX, ba_size, List.length_append]
        have := HOL.out
        have := HCL.out j y hj hy
        omega
      have HBW : Hid (Below w.heap.size w wr) := HB7.out.trans (hbel.mono HB7.out.size)
      have HBE : Hid (Below w7.heap.size w7 wr) := hbel
      clear hj' hy hX
      by_cases hjm : j < N
      · obtain ⟨e1, he1⟩ := HPL.out j (by rw [HNE.out]; exact hjm)
        obtain ⟨z, y1, hz, hy1⟩ := HPV.out j (by rw [HNE.out]; exact hjm)
        have ez : z = y := by rw [HY.out] at hz; injection hz with hz; exact hz.symm
        subst ez
        have hpl : pl ts f a 1 im j ≤ 1048577 := by have := en_lt he1; omega
        have cj : wr.cell? ⟨g, j, none⟩ = some (.int .i64 (pl ts f a 1 im j : Nat)) := by rw [hbel.cell (p := ⟨g, j, none⟩) hgw]; exact HC.out j hjm
        have HCK := HP.out (pl ts f a 1 im j) z y1 e1 wr he1 hy1 HBW.out
        have HNX : Hid (vit (ve ts vs f) (pl ts f a 1 im) (q + 1) (j + 1) = some y1) := by show _ = _; rw [vit_succ, HY.out]; exact hy1
        have HSX : Hid (cc (j + 1) = cc j ++ scE cb_bc ts vs f (pl ts f a 1 im j) z) := HCS.out j z HY.out
        have hPs : ByteArray.size ⟨(scE cb_bc ts vs f (pl ts f a 1 im j) z).toArray⟩ ≤ 1000000000 := by rw [ba_size]; exact HSL.out _ _ _ _ he1 hy1
        have hyl1 : y1 ≤ vs.length := (ve_lt hy1).2
        have HXP : Hid (X ++ ⟨(scE cb_bc ts vs f (pl ts f a 1 im j) z).toArray⟩ = ⟨(OW ++ cc (j + 1)).toArray⟩) := by
          show _ = _
          rw [HX.out, HSX.out, cat_list, List.append_assoc]
        clear hbel he1 hy1 hz
        generalize pl ts f a 1 im j = p at cj hpl HCK HSX hPs HXP
        obtain ⟨P, hP⟩ : ∃ P : ByteArray, (⟨(scE cb_bc ts vs f p z).toArray⟩ : ByteArray) = P := ⟨_, rfl⟩
        rw [hP] at hPs HCK HXP
        have HK : Hid (Calls Tryz.prog 27 #[.slice (some ⟨b', o', none⟩) ts.length cap', .int .i64 p, .slice (some ⟨b, o, none⟩) vs.length C, .int .i64 z, .bool true] wr fun e w' => e = .returned (.tuple #[.string P, .int .i64 y1]) ∧ Below wr.heap.size wr w') := HCK
        have hXP2 : ¬ (9223372036854775807 < X.size + P.size) := by omega
        clear HCK hP HSX
        go_wp2_with fail
        refine Calls.mono HK.out ?_
        rintro e w8 ⟨rfl, hb8⟩
        have HB8 : Hid (Below w7.heap.size w7 w8) := HBE.out.trans (hb8.mono HBE.out.size)
        clear hb8 cj
        go_wp2_with fail
        go_roundg (gk - 1)
        case rel => exact ⟨j + 1, y1, _, by have := HJ.out; omega, by go_num, rfl, HNX.out, rfl, HXP.out, HB8.out⟩
        case measure => have := HJ.out; omega
      · have ej : j = N := by omega
        subst ej
        have HE : Hid (X = ⟨(OW ++ cc j).toArray⟩ ∧ q' = y) := ⟨HX.out, by have h1 := HV.out; rw [HY.out] at h1; injection h1 with h1; exact h1.symm⟩
        clear hbel
        go_wp2_with fail
        go_ret2
        exact ⟨by rw [HNE.out, ← HE.out.1, HE.out.2]; try rfl, HBW.out⟩
set_option maxRecDepth 100000 in
set_option maxHeartbeats 8000000 in
theorem b6_1_16 (ts : List (Int × Int)) (vs : List It) (hl : vs.length ≤ 200) (f : Nat) (hp : B6Hyp ts vs f) (a q q' e0 : Nat) (vt vv : Value) (w : World) (hf7 : f ≤ 7) (hT : IsTyps w.heap.size w vt ts) (hI : IsItems w.heap.size w vv vs) (ha : a < ts.length) (hq : q < vs.length) (hok : tyOk ts[a].1 ts[a].2 = true) (hit : iter (en ts f) (a + 1) (kids ts[a].1 ts[a].2) = some e0) (hfi : fitsI ts[a].1 ts[a].2 vs[q] = true)
    (hv : vit (ve ts vs f) (pl ts f a ts[a].1 vs[q].n) (q + 1) (np ts[a].1 vs[q].n) = some q') (hk : ts[a].1 = 1 ∧ ts[a].2 = 16) :
    Calls Tryz.prog 27 #[vt, .int .i64 a, vv, .int .i64 q, .bool true] w fun e w' => e = .returned (.tuple #[.string ⟨(own cb_bc ts[a].2 vs[q] ++ cat (scE cb_bc ts vs f) (ve ts vs f) (pl ts f a ts[a].1 vs[q].n) (q + 1) (np ts[a].1 vs[q].n)).toArray⟩, .int .i64 q']) ∧ Below w.heap.size w w' := by
  have hfi' : vs[q].k = ts[a].1 ∧ fitsN ts[a].1 ts[a].2 vs[q].n = true ∧ fitsS ts[a].1 ts[a].2 vs[q].s.size = true := by simpa [fitsI] using hfi
  have hfn := hfi'.2.1
  have hvk := hfi'.1
  have hnp : np ts[a].1 vs[q].n ≤ 20 := np_le hok hfn
  have HPL : Hid (∀ j, j < np ts[a].1 vs[q].n → ∃ e', en ts f (pl ts f a ts[a].1 vs[q].n j) = some e') := fun j hj => pl_ok ha hok hit hfn hj
  have HPV : Hid (∀ j, j < np ts[a].1 vs[q].n → ∃ y y', vit (ve ts vs f) (pl ts f a ts[a].1 vs[q].n) (q + 1) j = some y ∧ ve ts vs f (pl ts f a ts[a].1 vs[q].n j) y = some y') := fun j hj => by
    obtain ⟨y, hy⟩ := vit_part hv (show j ≤ np ts[a].1 vs[q].n by omega)
    obtain ⟨y', hy'⟩ := vit_part hv (show j + 1 ≤ np ts[a].1 vs[q].n by omega)
    rw [vit_succ, hy] at hy'
    exact ⟨y, y', hy, hy'⟩
  have HV : Hid (vit (ve ts vs f) (pl ts f a ts[a].1 vs[q].n) (q + 1) (np ts[a].1 vs[q].n) = some q') := hv
  have HPN : Hid (∀ w', Below w.heap.size w w' → Calls Tryz.prog 42 #[vt, .int .i64 a, .agg #[.int .i64 vs[q].k, .int .u64 vs[q].n, .string vs[q].s]] w' fun e w'' => PlPost ts f a ts[a].1 vs[q].n w' e w'') := fun w' hb => l3Plan_any ts f a e0 vs[q] vt w' hf7 ((hT.below hb).up hb.size) ha hok hit hfn
  have HP : Hid (∀ a q q' e0 w', en ts f a = some e0 → ve ts vs f a q = some q' → Below w.heap.size w w' → Calls Tryz.prog 27 #[vt, .int .i64 a, vv, .int .i64 q, .bool true] w' fun e w'' => e = .returned (.tuple #[.string ⟨(scE cb_bc ts vs f a q).toArray⟩, .int .i64 q']) ∧ Below w'.heap.size w' w'') := fun a q q' e0 w' he hve hb => hp a q q' e0 vt vv w' hf7 he hve ((hT.below hb).up hb.size) ((hI.below hb).up hb.size)
  obtain ⟨b, o, C, hI, hF⟩ := hI
  have hvv := hF.at (by omega)
  rw [Nat.sub_zero, Nat.sub_zero, Nat.zero_mul, Nat.add_zero] at hvv
  have hsm := hI.small
  have hst := hT.small
  have hbB : b < w.heap.size := hI.low.resolve_left (by omega)
  obtain ⟨i0, i1, i2⟩ := hI.cells q hq
  obtain ⟨wk, wn, ws⟩ := hI.wf vs[q] (List.getElem_mem hq)
  have HLT : Hid (∀ j x, vit (ve ts vs f) (pl ts f a ts[a].1 vs[q].n) (q + 1) j = some x → x ≤ vs.length) := fun j x h => (vit_lt (by omega) h).2
  have hss : ∀ x ∈ vs, x.s.size ≤ 1048577 := fun x h => (hI.wf x h).2.2
  have HSL : Hid (∀ a q e0 q', en ts f a = some e0 → ve ts vs f a q = some q' → (scE cb_bc ts vs f a q).length ≤ 1000000000) := fun a q e0 q' he hv => scE_le cb_len_bc hss hl he hv
  have HOL : Hid ((own cb_bc ts[a].2 vs[q]).length ≤ 1048590) := own_len cb_len_bc hok hvk ws
  have HCL : Hid (∀ j x, j ≤ np ts[a].1 vs[q].n → vit (ve ts vs f) (pl ts f a ts[a].1 vs[q].n) (q + 1) j = some x → (cat (scE cb_bc ts vs f) (ve ts vs f) (pl ts f a ts[a].1 vs[q].n) (q + 1) j).length ≤ 1000000000) := fun j x hj hx => by
    have h1 := cat_len cb_len_bc hss (k := ts[a].1) (n := ts[a].2) ha rfl hok hit hfn (q := q) j x hj hx
    have h2 := (vit_lt (by omega) hx).2
    have h3 : x * 1048590 ≤ 200 * 1048590 := Nat.mul_le_mul_right _ (by omega)
    omega
  obtain ⟨b', o', cap', hv', hb', h1, h2, c0, c1⟩ := hT.at ha
  obtain ⟨cc, hcc⟩ : ∃ cc, cat (scE cb_bc ts vs f) (ve ts vs f) (pl ts f a ts[a].1 vs[q].n) (q + 1) = cc := ⟨_, rfl⟩
  have HCS : Hid (∀ j x, vit (ve ts vs f) (pl ts f a ts[a].1 vs[q].n) (q + 1) j = some x → cc (j + 1) = cc j ++ scE cb_bc ts vs f (pl ts f a ts[a].1 vs[q].n j) x) := fun j x h => by rw [← hcc]; exact cat_succ h
  have HC0 : Hid (cc 0 = []) := by show _ = _; rw [← hcc]; rfl
  rw [hcc] at HCL ⊢
  obtain ⟨OW, hOW⟩ : ∃ OW, own cb_bc ts[a].2 vs[q] = OW := ⟨_, rfl⟩
  have HOE : Hid (OW = leL vs[q].n 2) := by show _ = _; rw [← hOW, own_num hvk (by omega), hk.1, hk.2]; rfl
  rw [hOW] at HOL ⊢
  generalize ts[a].1 = k at *
  generalize ts[a].2 = n at *
  generalize vs[q] = it at *
  obtain ⟨ik, im, is⟩ := it
  simp only at i0 i1 i2 hnp HPL HPN HLT HPV HV HCL HCS hvk hk HOE wn ws
  subst hvk
  have hr := hI.room
  have hm := hI.most
  unfold maxLen at h2 hm
  subst hvv hv'
  have hql : q ≤ 200 := by omega
  clear hI hF hT hfi hfi' wk hp hit hfn hv hss hcc hOW
  obtain ⟨rfl, rfl⟩ := hk
  have HL : Hid (∀ w, Calls Tryz.prog 48 #[.int .u64 im, .int .i64 2] w fun e w' => e = .returned (.string ⟨(leL im 2).toArray⟩) ∧ Below w.heap.size w w') := fun w => l1Le_any im 2 w wn (by omega)
  have r0 := cells_re3 (cell_1 c0 hb' (.cells #[.int .i64 1, .int .u64 (im : Int), .string is] 64))
  have r1 := cells_re3 (cell_1 c1 hb' (.cells #[.int .i64 1, .int .u64 (im : Int), .string is] 64))
  have s0 := cells_re3 (w := (w.alloc (.cells #[.int .i64 1, .int .u64 (im : Int), .string is] 64))) (a := ⟨w.heap.size, 0, none⟩) (v := .int .i64 1) (by simp [go_sem])
  have s1 := cells_re3 (w := (w.alloc (.cells #[.int .i64 1, .int .u64 (im : Int), .string is] 64))) (a := ⟨w.heap.size, 1, none⟩) (v := .int .u64 (im : Int)) (by simp [go_sem])
  have s2 := cells_re3 (w := (w.alloc (.cells #[.int .i64 1, .int .u64 (im : Int), .string is] 64))) (a := ⟨w.heap.size, 2, none⟩) (v := .string is) (by simp [go_sem])
  go_enter Tryz.func27, Tryz.ntmps27
  go_wp2_with fail
  refine wp_region_quiet_below (by kernel_rfl) (by kernel_rfl) ?_
  repeat (go_big_quiet_step (exact Calls.regrown_of (HL.out _)))
  refine wpQuiet_nil ?_
  intro w2 hw'
  obtain ⟨⟨dq, osq⟩, hw''⟩ := hw'
  have hb2 : Below w.heap.size w w2 := by rw [hw'']; exact (bel1 _ _).trans ((below_regrown _ dq osq).mono (by simp))
  have HB2 : Hid (Below w.heap.size w w2) := hb2
  have x0 : w2.cell? ⟨w.heap.size, 0, none⟩ = some (.int .i64 1) := by rw [hw'']; exact s0 _ _
  have x1 : w2.cell? ⟨w.heap.size, 1, none⟩ = some (.int .u64 im) := by rw [hw'']; exact s1 _ _
  have x2 : w2.cell? ⟨w.heap.size, 2, none⟩ = some (.string is) := by rw [hw'']; exact s2 _ _
  clear hw'' r0 r1 s0 s1 s2 hb2
  obtain ⟨D, hD⟩ : ∃ D : ByteArray, (⟨(leL im 2).toArray⟩ : ByteArray) = D := ⟨_, rfl⟩
  have HD : Hid (D = ⟨(OW).toArray⟩) := by show _ = _; rw [← hD, HOE.out]
  rw [hD]
  clear hD
  clear HOE
  go_wp2_with fail
  refine (HPN.out _ HB2.out).mono ?_
  rintro e w7 ⟨vp, rfl, hown, hb7⟩
  have HO : Hid (w7.ownsRow _ 2 1 vp (np 1 im) (plRow ts f a 1 im)) := hown
  have HB7 : Hid (Below w.heap.size w w7) := HB2.out.trans (hb7.mono (HB2.out.size))
  obtain ⟨N, hN⟩ : ∃ N, np 1 im = N := ⟨_, rfl⟩
  have HNE : Hid (np 1 im = N) := hN
  have h2' := hown.2
  rw [hN] at h2' hnp HV HCL
  have hgl := hown.lt
  clear hown hN hb7 x0 x1 x2
  rcases h2' with ⟨rfl, hn0⟩ | ⟨g, cp, cur, rfl, hg, _, hcp, hcm, _, _⟩
  · have HE : Hid (D = ⟨(OW ++ cc N).toArray⟩ ∧ q' = q + 1) := by
      have hv0 := HV.out
      rw [hn0] at hv0
      cases hv0
      exact ⟨by rw [HD.out, hn0, HC0.out, List.append_nil], rfl⟩
    clear hgl
    go_wp2_with fail
    go_loopg [3, 13, 15] 0 (fun gk x o i wr => x = .int .i64 ((q + 1 : Nat) : Int) ∧ o = .string D ∧ i = .int .i64 0 ∧ wr = w7)
    case atStart => exact ⟨by go_num, rfl, rfl, rfl⟩
    case round =>
      obtain ⟨rfl, rfl, rfl, rfl⟩ := hrel
      go_wp2_with fail
      go_ret2
      exact ⟨by rw [HNE.out, ← HE.out.1, HE.out.2]; try rfl, HB7.out⟩
  · have hgw : g < w7.heap.size := (hgl g rfl).2
    have HC : Hid (∀ i, i < N → w7.cell? ⟨g, i, none⟩ = some (.int .i64 (pl ts f a 1 im i : Nat))) := fun i hi => by
      have ho := HO.out
      rw [← HNE.out] at ho hi
      exact row_at ho hi
    clear hgl
    unfold maxLen at hcm
    go_wp2_with fail
    go_loopg [3, 13, 15] N (fun gk x o i wr => ∃ (j y : Nat) (X : ByteArray), j + gk = N ∧ i = .int .i64 j ∧ x = .int .i64 y ∧ vit (ve ts vs f) (pl ts f a 1 im) (q + 1) j = some y ∧ o = .string X ∧ X = ⟨(OW ++ cc j).toArray⟩ ∧ Below w7.heap.size w7 wr)
    case atStart => exact ⟨0, q + 1, _, by omega, rfl, by go_num, rfl, rfl, by rw [HD.out, HC0.out, List.append_nil], Below.refl _ _⟩
    case round =>
      obtain ⟨j, y, X, hj', rfl, rfl, hy, rfl, hX, hbel⟩ := hrel
      have HJ : Hid (j + gk = N) := hj'
      have HY : Hid (vit (ve ts vs f) (pl ts f a 1 im) (q + 1) j = some y) := hy
      have HX : Hid (X = ⟨(OW ++ cc j).toArray⟩) := hX
      have hyl : y ≤ vs.length := HLT.out j y hy
      have hj : j ≤ N := by omega
      have hXs : X.size ≤ 1001048590 := by
        rw [hX, ba_size, List.length_append]
        have := HOL.out
        have := HCL.out j y hj hy
        omega
      have HBW : Hid (Below w.heap.size w wr) := HB7.out.trans (hbel.mono HB7.out.size)
      have HBE : Hid (Below w7.heap.size w7 wr) := hbel
      clear hj' hy hX
      by_cases hjm : j < N
      · obtain ⟨e1, he1⟩ := HPL.out j (by rw [HNE.out]; exact hjm)
        obtain ⟨z, y1, hz, hy1⟩ := HPV.out j (by rw [HNE.out]; exact hjm)
        have ez : z = y := by rw [HY.out] at hz; injection hz with hz; exact hz.symm
        subst ez
        have hpl : pl ts f a 1 im j ≤ 1048577 := by have := en_lt he1; omega
        have cj : wr.cell? ⟨g, j, none⟩ = some (.int .i64 (pl ts f a 1 im j : Nat)) := by rw [hbel.cell (p := ⟨g, j, none⟩) hgw]; exact HC.out j hjm
        have HCK := HP.out (pl ts f a 1 im j) z y1 e1 wr he1 hy1 HBW.out
        have HNX : Hid (vit (ve ts vs f) (pl ts f a 1 im) (q + 1) (j + 1) = some y1) := by show _ = _; rw [vit_succ, HY.out]; exact hy1
        have HSX : Hid (cc (j + 1) = cc j ++ scE cb_bc ts vs f (pl ts f a 1 im j) z) := HCS.out j z HY.out
        have hPs : ByteArray.size ⟨(scE cb_bc ts vs f (pl ts f a 1 im j) z).toArray⟩ ≤ 1000000000 := by rw [ba_size]; exact HSL.out _ _ _ _ he1 hy1
        have hyl1 : y1 ≤ vs.length := (ve_lt hy1).2
        have HXP : Hid (X ++ ⟨(scE cb_bc ts vs f (pl ts f a 1 im j) z).toArray⟩ = ⟨(OW ++ cc (j + 1)).toArray⟩) := by
          show _ = _
          rw [HX.out, HSX.out, cat_list, List.append_assoc]
        clear hbel he1 hy1 hz
        generalize pl ts f a 1 im j = p at cj hpl HCK HSX hPs HXP
        obtain ⟨P, hP⟩ : ∃ P : ByteArray, (⟨(scE cb_bc ts vs f p z).toArray⟩ : ByteArray) = P := ⟨_, rfl⟩
        rw [hP] at hPs HCK HXP
        have HK : Hid (Calls Tryz.prog 27 #[.slice (some ⟨b', o', none⟩) ts.length cap', .int .i64 p, .slice (some ⟨b, o, none⟩) vs.length C, .int .i64 z, .bool true] wr fun e w' => e = .returned (.tuple #[.string P, .int .i64 y1]) ∧ Below wr.heap.size wr w') := HCK
        have hXP2 : ¬ (9223372036854775807 < X.size + P.size) := by omega
        clear HCK hP HSX
        go_wp2_with fail
        refine Calls.mono HK.out ?_
        rintro e w8 ⟨rfl, hb8⟩
        have HB8 : Hid (Below w7.heap.size w7 w8) := HBE.out.trans (hb8.mono HBE.out.size)
        clear hb8 cj
        go_wp2_with fail
        go_roundg (gk - 1)
        case rel => exact ⟨j + 1, y1, _, by have := HJ.out; omega, by go_num, rfl, HNX.out, rfl, HXP.out, HB8.out⟩
        case measure => have := HJ.out; omega
      · have ej : j = N := by omega
        subst ej
        have HE : Hid (X = ⟨(OW ++ cc j).toArray⟩ ∧ q' = y) := ⟨HX.out, by have h1 := HV.out; rw [HY.out] at h1; injection h1 with h1; exact h1.symm⟩
        clear hbel
        go_wp2_with fail
        go_ret2
        exact ⟨by rw [HNE.out, ← HE.out.1, HE.out.2]; try rfl, HBW.out⟩
set_option maxRecDepth 100000 in
set_option maxHeartbeats 8000000 in
theorem b6_1_32 (ts : List (Int × Int)) (vs : List It) (hl : vs.length ≤ 200) (f : Nat) (hp : B6Hyp ts vs f) (a q q' e0 : Nat) (vt vv : Value) (w : World) (hf7 : f ≤ 7) (hT : IsTyps w.heap.size w vt ts) (hI : IsItems w.heap.size w vv vs) (ha : a < ts.length) (hq : q < vs.length) (hok : tyOk ts[a].1 ts[a].2 = true) (hit : iter (en ts f) (a + 1) (kids ts[a].1 ts[a].2) = some e0) (hfi : fitsI ts[a].1 ts[a].2 vs[q] = true)
    (hv : vit (ve ts vs f) (pl ts f a ts[a].1 vs[q].n) (q + 1) (np ts[a].1 vs[q].n) = some q') (hk : ts[a].1 = 1 ∧ ts[a].2 = 32) :
    Calls Tryz.prog 27 #[vt, .int .i64 a, vv, .int .i64 q, .bool true] w fun e w' => e = .returned (.tuple #[.string ⟨(own cb_bc ts[a].2 vs[q] ++ cat (scE cb_bc ts vs f) (ve ts vs f) (pl ts f a ts[a].1 vs[q].n) (q + 1) (np ts[a].1 vs[q].n)).toArray⟩, .int .i64 q']) ∧ Below w.heap.size w w' := by
  have hfi' : vs[q].k = ts[a].1 ∧ fitsN ts[a].1 ts[a].2 vs[q].n = true ∧ fitsS ts[a].1 ts[a].2 vs[q].s.size = true := by simpa [fitsI] using hfi
  have hfn := hfi'.2.1
  have hvk := hfi'.1
  have hnp : np ts[a].1 vs[q].n ≤ 20 := np_le hok hfn
  have HPL : Hid (∀ j, j < np ts[a].1 vs[q].n → ∃ e', en ts f (pl ts f a ts[a].1 vs[q].n j) = some e') := fun j hj => pl_ok ha hok hit hfn hj
  have HPV : Hid (∀ j, j < np ts[a].1 vs[q].n → ∃ y y', vit (ve ts vs f) (pl ts f a ts[a].1 vs[q].n) (q + 1) j = some y ∧ ve ts vs f (pl ts f a ts[a].1 vs[q].n j) y = some y') := fun j hj => by
    obtain ⟨y, hy⟩ := vit_part hv (show j ≤ np ts[a].1 vs[q].n by omega)
    obtain ⟨y', hy'⟩ := vit_part hv (show j + 1 ≤ np ts[a].1 vs[q].n by omega)
    rw [vit_succ, hy] at hy'
    exact ⟨y, y', hy, hy'⟩
  have HV : Hid (vit (ve ts vs f) (pl ts f a ts[a].1 vs[q].n) (q + 1) (np ts[a].1 vs[q].n) = some q') := hv
  have HPN : Hid (∀ w', Below w.heap.size w w' → Calls Tryz.prog 42 #[vt, .int .i64 a, .agg #[.int .i64 vs[q].k, .int .u64 vs[q].n, .string vs[q].s]] w' fun e w'' => PlPost ts f a ts[a].1 vs[q].n w' e w'') := fun w' hb => l3Plan_any ts f a e0 vs[q] vt w' hf7 ((hT.below hb).up hb.size) ha hok hit hfn
  have HP : Hid (∀ a q q' e0 w', en ts f a = some e0 → ve ts vs f a q = some q' → Below w.heap.size w w' → Calls Tryz.prog 27 #[vt, .int .i64 a, vv, .int .i64 q, .bool true] w' fun e w'' => e = .returned (.tuple #[.string ⟨(scE cb_bc ts vs f a q).toArray⟩, .int .i64 q']) ∧ Below w'.heap.size w' w'') := fun a q q' e0 w' he hve hb => hp a q q' e0 vt vv w' hf7 he hve ((hT.below hb).up hb.size) ((hI.below hb).up hb.size)
  obtain ⟨b, o, C, hI, hF⟩ := hI
  have hvv := hF.at (by omega)
  rw [Nat.sub_zero, Nat.sub_zero, Nat.zero_mul, Nat.add_zero] at hvv
  have hsm := hI.small
  have hst := hT.small
  have hbB : b < w.heap.size := hI.low.resolve_left (by omega)
  obtain ⟨i0, i1, i2⟩ := hI.cells q hq
  obtain ⟨wk, wn, ws⟩ := hI.wf vs[q] (List.getElem_mem hq)
  have HLT : Hid (∀ j x, vit (ve ts vs f) (pl ts f a ts[a].1 vs[q].n) (q + 1) j = some x → x ≤ vs.length) := fun j x h => (vit_lt (by omega) h).2
  have hss : ∀ x ∈ vs, x.s.size ≤ 1048577 := fun x h => (hI.wf x h).2.2
  have HSL : Hid (∀ a q e0 q', en ts f a = some e0 → ve ts vs f a q = some q' → (scE cb_bc ts vs f a q).length ≤ 1000000000) := fun a q e0 q' he hv => scE_le cb_len_bc hss hl he hv
  have HOL : Hid ((own cb_bc ts[a].2 vs[q]).length ≤ 1048590) := own_len cb_len_bc hok hvk ws
  have HCL : Hid (∀ j x, j ≤ np ts[a].1 vs[q].n → vit (ve ts vs f) (pl ts f a ts[a].1 vs[q].n) (q + 1) j = some x → (cat (scE cb_bc ts vs f) (ve ts vs f) (pl ts f a ts[a].1 vs[q].n) (q + 1) j).length ≤ 1000000000) := fun j x hj hx => by
    have h1 := cat_len cb_len_bc hss (k := ts[a].1) (n := ts[a].2) ha rfl hok hit hfn (q := q) j x hj hx
    have h2 := (vit_lt (by omega) hx).2
    have h3 : x * 1048590 ≤ 200 * 1048590 := Nat.mul_le_mul_right _ (by omega)
    omega
  obtain ⟨b', o', cap', hv', hb', h1, h2, c0, c1⟩ := hT.at ha
  obtain ⟨cc, hcc⟩ : ∃ cc, cat (scE cb_bc ts vs f) (ve ts vs f) (pl ts f a ts[a].1 vs[q].n) (q + 1) = cc := ⟨_, rfl⟩
  have HCS : Hid (∀ j x, vit (ve ts vs f) (pl ts f a ts[a].1 vs[q].n) (q + 1) j = some x → cc (j + 1) = cc j ++ scE cb_bc ts vs f (pl ts f a ts[a].1 vs[q].n j) x) := fun j x h => by rw [← hcc]; exact cat_succ h
  have HC0 : Hid (cc 0 = []) := by show _ = _; rw [← hcc]; rfl
  rw [hcc] at HCL ⊢
  obtain ⟨OW, hOW⟩ : ∃ OW, own cb_bc ts[a].2 vs[q] = OW := ⟨_, rfl⟩
  have HOE : Hid (OW = leL vs[q].n 4) := by show _ = _; rw [← hOW, own_num hvk (by omega), hk.1, hk.2]; rfl
  rw [hOW] at HOL ⊢
  generalize ts[a].1 = k at *
  generalize ts[a].2 = n at *
  generalize vs[q] = it at *
  obtain ⟨ik, im, is⟩ := it
  simp only at i0 i1 i2 hnp HPL HPN HLT HPV HV HCL HCS hvk hk HOE wn ws
  subst hvk
  have hr := hI.room
  have hm := hI.most
  unfold maxLen at h2 hm
  subst hvv hv'
  have hql : q ≤ 200 := by omega
  clear hI hF hT hfi hfi' wk hp hit hfn hv hss hcc hOW
  obtain ⟨rfl, rfl⟩ := hk
  have HL : Hid (∀ w, Calls Tryz.prog 48 #[.int .u64 im, .int .i64 4] w fun e w' => e = .returned (.string ⟨(leL im 4).toArray⟩) ∧ Below w.heap.size w w') := fun w => l1Le_any im 4 w wn (by omega)
  have r0 := cells_re3 (cell_1 c0 hb' (.cells #[.int .i64 1, .int .u64 (im : Int), .string is] 64))
  have r1 := cells_re3 (cell_1 c1 hb' (.cells #[.int .i64 1, .int .u64 (im : Int), .string is] 64))
  have s0 := cells_re3 (w := (w.alloc (.cells #[.int .i64 1, .int .u64 (im : Int), .string is] 64))) (a := ⟨w.heap.size, 0, none⟩) (v := .int .i64 1) (by simp [go_sem])
  have s1 := cells_re3 (w := (w.alloc (.cells #[.int .i64 1, .int .u64 (im : Int), .string is] 64))) (a := ⟨w.heap.size, 1, none⟩) (v := .int .u64 (im : Int)) (by simp [go_sem])
  have s2 := cells_re3 (w := (w.alloc (.cells #[.int .i64 1, .int .u64 (im : Int), .string is] 64))) (a := ⟨w.heap.size, 2, none⟩) (v := .string is) (by simp [go_sem])
  go_enter Tryz.func27, Tryz.ntmps27
  go_wp2_with fail
  refine wp_region_quiet_below (by kernel_rfl) (by kernel_rfl) ?_
  repeat (go_big_quiet_step (exact Calls.regrown_of (HL.out _)))
  refine wpQuiet_nil ?_
  intro w2 hw'
  obtain ⟨⟨dq, osq⟩, hw''⟩ := hw'
  have hb2 : Below w.heap.size w w2 := by rw [hw'']; exact (bel1 _ _).trans ((below_regrown _ dq osq).mono (by simp))
  have HB2 : Hid (Below w.heap.size w w2) := hb2
  have x0 : w2.cell? ⟨w.heap.size, 0, none⟩ = some (.int .i64 1) := by rw [hw'']; exact s0 _ _
  have x1 : w2.cell? ⟨w.heap.size, 1, none⟩ = some (.int .u64 im) := by rw [hw'']; exact s1 _ _
  have x2 : w2.cell? ⟨w.heap.size, 2, none⟩ = some (.string is) := by rw [hw'']; exact s2 _ _
  clear hw'' r0 r1 s0 s1 s2 hb2
  obtain ⟨D, hD⟩ : ∃ D : ByteArray, (⟨(leL im 4).toArray⟩ : ByteArray) = D := ⟨_, rfl⟩
  have HD : Hid (D = ⟨(OW).toArray⟩) := by show _ = _; rw [← hD, HOE.out]
  rw [hD]
  clear hD
  clear HOE
  go_wp2_with fail
  refine (HPN.out _ HB2.out).mono ?_
  rintro e w7 ⟨vp, rfl, hown, hb7⟩
  have HO : Hid (w7.ownsRow _ 2 1 vp (np 1 im) (plRow ts f a 1 im)) := hown
  have HB7 : Hid (Below w.heap.size w w7) := HB2.out.trans (hb7.mono (HB2.out.size))
  obtain ⟨N, hN⟩ : ∃ N, np 1 im = N := ⟨_, rfl⟩
  have HNE : Hid (np 1 im = N) := hN
  have h2' := hown.2
  rw [hN] at h2' hnp HV HCL
  have hgl := hown.lt
  clear hown hN hb7 x0 x1 x2
  rcases h2' with ⟨rfl, hn0⟩ | ⟨g, cp, cur, rfl, hg, _, hcp, hcm, _, _⟩
  · have HE : Hid (D = ⟨(OW ++ cc N).toArray⟩ ∧ q' = q + 1) := by
      have hv0 := HV.out
      rw [hn0] at hv0
      cases hv0
      exact ⟨by rw [HD.out, hn0, HC0.out, List.append_nil], rfl⟩
    clear hgl
    go_wp2_with fail
    go_loopg [3, 13, 15] 0 (fun gk x o i wr => x = .int .i64 ((q + 1 : Nat) : Int) ∧ o = .string D ∧ i = .int .i64 0 ∧ wr = w7)
    case atStart => exact ⟨by go_num, rfl, rfl, rfl⟩
    case round =>
      obtain ⟨rfl, rfl, rfl, rfl⟩ := hrel
      go_wp2_with fail
      go_ret2
      exact ⟨by rw [HNE.out, ← HE.out.1, HE.out.2]; try rfl, HB7.out⟩
  · have hgw : g < w7.heap.size := (hgl g rfl).2
    have HC : Hid (∀ i, i < N → w7.cell? ⟨g, i, none⟩ = some (.int .i64 (pl ts f a 1 im i : Nat))) := fun i hi => by
      have ho := HO.out
      rw [← HNE.out] at ho hi
      exact row_at ho hi
    clear hgl
    unfold maxLen at hcm
    go_wp2_with fail
    go_loopg [3, 13, 15] N (fun gk x o i wr => ∃ (j y : Nat) (X : ByteArray), j + gk = N ∧ i = .int .i64 j ∧ x = .int .i64 y ∧ vit (ve ts vs f) (pl ts f a 1 im) (q + 1) j = some y ∧ o = .string X ∧ X = ⟨(OW ++ cc j).toArray⟩ ∧ Below w7.heap.size w7 wr)
    case atStart => exact ⟨0, q + 1, _, by omega, rfl, by go_num, rfl, rfl, by rw [HD.out, HC0.out, List.append_nil], Below.refl _ _⟩
    case round =>
      obtain ⟨j, y, X, hj', rfl, rfl, hy, rfl, hX, hbel⟩ := hrel
      have HJ : Hid (j + gk = N) := hj'
      have HY : Hid (vit (ve ts vs f) (pl ts f a 1 im) (q + 1) j = some y) := hy
      have HX : Hid (X = ⟨(OW ++ cc j).toArray⟩) := hX
      have hyl : y ≤ vs.length := HLT.out j y hy
      have hj : j ≤ N := by omega
      have hXs : X.size ≤ 1001048590 := by
        rw [hX, ba_size, List.length_append]
        have := HOL.out
        have := HCL.out j y hj hy
        omega
      have HBW : Hid (Below w.heap.size w wr) := HB7.out.trans (hbel.mono HB7.out.size)
      have HBE : Hid (Below w7.heap.size w7 wr) := hbel
      clear hj' hy hX
      by_cases hjm : j < N
      · obtain ⟨e1, he1⟩ := HPL.out j (by rw [HNE.out]; exact hjm)
        obtain ⟨z, y1, hz, hy1⟩ := HPV.out j (by rw [HNE.out]; exact hjm)
        have ez : z = y := by rw [HY.out] at hz; injection hz with hz; exact hz.symm
        subst ez
        have hpl : pl ts f a 1 im j ≤ 1048577 := by have := en_lt he1; omega
        have cj : wr.cell? ⟨g, j, none⟩ = some (.int .i64 (pl ts f a 1 im j : Nat)) := by rw [hbel.cell (p := ⟨g, j, none⟩) hgw]; exact HC.out j hjm
        have HCK := HP.out (pl ts f a 1 im j) z y1 e1 wr he1 hy1 HBW.out
        have HNX : Hid (vit (ve ts vs f) (pl ts f a 1 im) (q + 1) (j + 1) = some y1) := by show _ = _; rw [vit_succ, HY.out]; exact hy1
        have HSX : Hid (cc (j + 1) = cc j ++ scE cb_bc ts vs f (pl ts f a 1 im j) z) := HCS.out j z HY.out
        have hPs : ByteArray.size ⟨(scE cb_bc ts vs f (pl ts f a 1 im j) z).toArray⟩ ≤ 1000000000 := by rw [ba_size]; exact HSL.out _ _ _ _ he1 hy1
        have hyl1 : y1 ≤ vs.length := (ve_lt hy1).2
        have HXP : Hid (X ++ ⟨(scE cb_bc ts vs f (pl ts f a 1 im j) z).toArray⟩ = ⟨(OW ++ cc (j + 1)).toArray⟩) := by
          show _ = _
          rw [HX.out, HSX.out, cat_list, List.append_assoc]
        clear hbel he1 hy1 hz
        generalize pl ts f a 1 im j = p at cj hpl HCK HSX hPs HXP
        obtain ⟨P, hP⟩ : ∃ P : ByteArray, (⟨(scE cb_bc ts vs f p z).toArray⟩ : ByteArray) = P := ⟨_, rfl⟩
        rw [hP] at hPs HCK HXP
        have HK : Hid (Calls Tryz.prog 27 #[.slice (some ⟨b', o', none⟩) ts.length cap', .int .i64 p, .slice (some ⟨b, o, none⟩) vs.length C, .int .i64 z, .bool true] wr fun e w' => e = .returned (.tuple #[.string P, .int .i64 y1]) ∧ Below wr.heap.size wr w') := HCK
        have hXP2 : ¬ (9223372036854775807 < X.size + P.size) := by omega
        clear HCK hP HSX
        go_wp2_with fail
        refine Calls.mono HK.out ?_
        rintro e w8 ⟨rfl, hb8⟩
        have HB8 : Hid (Below w7.heap.size w7 w8) := HBE.out.trans (hb8.mono HBE.out.size)
        clear hb8 cj
        go_wp2_with fail
        go_roundg (gk - 1)
        case rel => exact ⟨j + 1, y1, _, by have := HJ.out; omega, by go_num, rfl, HNX.out, rfl, HXP.out, HB8.out⟩
        case measure => have := HJ.out; omega
      · have ej : j = N := by omega
        subst ej
        have HE : Hid (X = ⟨(OW ++ cc j).toArray⟩ ∧ q' = y) := ⟨HX.out, by have h1 := HV.out; rw [HY.out] at h1; injection h1 with h1; exact h1.symm⟩
        clear hbel
        go_wp2_with fail
        go_ret2
        exact ⟨by rw [HNE.out, ← HE.out.1, HE.out.2]; try rfl, HBW.out⟩
set_option maxRecDepth 100000 in
set_option maxHeartbeats 8000000 in
theorem b6_1_64 (ts : List (Int × Int)) (vs : List It) (hl : vs.length ≤ 200) (f : Nat) (hp : B6Hyp ts vs f) (a q q' e0 : Nat) (vt vv : Value) (w : World) (hf7 : f ≤ 7) (hT : IsTyps w.heap.size w vt ts) (hI : IsItems w.heap.size w vv vs) (ha : a < ts.length) (hq : q < vs.length) (hok : tyOk ts[a].1 ts[a].2 = true) (hit : iter (en ts f) (a + 1) (kids ts[a].1 ts[a].2) = some e0) (hfi : fitsI ts[a].1 ts[a].2 vs[q] = true)
    (hv : vit (ve ts vs f) (pl ts f a ts[a].1 vs[q].n) (q + 1) (np ts[a].1 vs[q].n) = some q') (hk : ts[a].1 = 1 ∧ ts[a].2 = 64) :
    Calls Tryz.prog 27 #[vt, .int .i64 a, vv, .int .i64 q, .bool true] w fun e w' => e = .returned (.tuple #[.string ⟨(own cb_bc ts[a].2 vs[q] ++ cat (scE cb_bc ts vs f) (ve ts vs f) (pl ts f a ts[a].1 vs[q].n) (q + 1) (np ts[a].1 vs[q].n)).toArray⟩, .int .i64 q']) ∧ Below w.heap.size w w' := by
  have hfi' : vs[q].k = ts[a].1 ∧ fitsN ts[a].1 ts[a].2 vs[q].n = true ∧ fitsS ts[a].1 ts[a].2 vs[q].s.size = true := by simpa [fitsI] using hfi
  have hfn := hfi'.2.1
  have hvk := hfi'.1
  have hnp : np ts[a].1 vs[q].n ≤ 20 := np_le hok hfn
  have HPL : Hid (∀ j, j < np ts[a].1 vs[q].n → ∃ e', en ts f (pl ts f a ts[a].1 vs[q].n j) = some e') := fun j hj => pl_ok ha hok hit hfn hj
  have HPV : Hid (∀ j, j < np ts[a].1 vs[q].n → ∃ y y', vit (ve ts vs f) (pl ts f a ts[a].1 vs[q].n) (q + 1) j = some y ∧ ve ts vs f (pl ts f a ts[a].1 vs[q].n j) y = some y') := fun j hj => by
    obtain ⟨y, hy⟩ := vit_part hv (show j ≤ np ts[a].1 vs[q].n by omega)
    obtain ⟨y', hy'⟩ := vit_part hv (show j + 1 ≤ np ts[a].1 vs[q].n by omega)
    rw [vit_succ, hy] at hy'
    exact ⟨y, y', hy, hy'⟩
  have HV : Hid (vit (ve ts vs f) (pl ts f a ts[a].1 vs[q].n) (q + 1) (np ts[a].1 vs[q].n) = some q') := hv
  have HPN : Hid (∀ w', Below w.heap.size w w' → Calls Tryz.prog 42 #[vt, .int .i64 a, .agg #[.int .i64 vs[q].k, .int .u64 vs[q].n, .string vs[q].s]] w' fun e w'' => PlPost ts f a ts[a].1 vs[q].n w' e w'') := fun w' hb => l3Plan_any ts f a e0 vs[q] vt w' hf7 ((hT.below hb).up hb.size) ha hok hit hfn
  have HP : Hid (∀ a q q' e0 w', en ts f a = some e0 → ve ts vs f a q = some q' → Below w.heap.size w w' → Calls Tryz.prog 27 #[vt, .int .i64 a, vv, .int .i64 q, .bool true] w' fun e w'' => e = .returned (.tuple #[.string ⟨(scE cb_bc ts vs f a q).toArray⟩, .int .i64 q']) ∧ Below w'.heap.size w' w'') := fun a q q' e0 w' he hve hb => hp a q q' e0 vt vv w' hf7 he hve ((hT.below hb).up hb.size) ((hI.below hb).up hb.size)
  obtain ⟨b, o, C, hI, hF⟩ := hI
  have hvv := hF.at (by omega)
  rw [Nat.sub_zero, Nat.sub_zero, Nat.zero_mul, Nat.add_zero] at hvv
  have hsm := hI.small
  have hst := hT.small
  have hbB : b < w.heap.size := hI.low.resolve_left (by omega)
  obtain ⟨i0, i1, i2⟩ := hI.cells q hq
  obtain ⟨wk, wn, ws⟩ := hI.wf vs[q] (List.getElem_mem hq)
  have HLT : Hid (∀ j x, vit (ve ts vs f) (pl ts f a ts[a].1 vs[q].n) (q + 1) j = some x → x ≤ vs.length) := fun j x h => (vit_lt (by omega) h).2
  have hss : ∀ x ∈ vs, x.s.size ≤ 1048577 := fun x h => (hI.wf x h).2.2
  have HSL : Hid (∀ a q e0 q', en ts f a = some e0 → ve ts vs f a q = some q' → (scE cb_bc ts vs f a q).length ≤ 1000000000) := fun a q e0 q' he hv => scE_le cb_len_bc hss hl he hv
  have HOL : Hid ((own cb_bc ts[a].2 vs[q]).length ≤ 1048590) := own_len cb_len_bc hok hvk ws
  have HCL : Hid (∀ j x, j ≤ np ts[a].1 vs[q].n → vit (ve ts vs f) (pl ts f a ts[a].1 vs[q].n) (q + 1) j = some x → (cat (scE cb_bc ts vs f) (ve ts vs f) (pl ts f a ts[a].1 vs[q].n) (q + 1) j).length ≤ 1000000000) := fun j x hj hx => by
    have h1 := cat_len cb_len_bc hss (k := ts[a].1) (n := ts[a].2) ha rfl hok hit hfn (q := q) j x hj hx
    have h2 := (vit_lt (by omega) hx).2
    have h3 : x * 1048590 ≤ 200 * 1048590 := Nat.mul_le_mul_right _ (by omega)
    omega
  obtain ⟨b', o', cap', hv', hb', h1, h2, c0, c1⟩ := hT.at ha
  obtain ⟨cc, hcc⟩ : ∃ cc, cat (scE cb_bc ts vs f) (ve ts vs f) (pl ts f a ts[a].1 vs[q].n) (q + 1) = cc := ⟨_, rfl⟩
  have HCS : Hid (∀ j x, vit (ve ts vs f) (pl ts f a ts[a].1 vs[q].n) (q + 1) j = some x → cc (j + 1) = cc j ++ scE cb_bc ts vs f (pl ts f a ts[a].1 vs[q].n j) x) := fun j x h => by rw [← hcc]; exact cat_succ h
  have HC0 : Hid (cc 0 = []) := by show _ = _; rw [← hcc]; rfl
  rw [hcc] at HCL ⊢
  obtain ⟨OW, hOW⟩ : ∃ OW, own cb_bc ts[a].2 vs[q] = OW := ⟨_, rfl⟩
  have HOE : Hid (OW = leL vs[q].n 8) := by show _ = _; rw [← hOW, own_num hvk (by omega), hk.1, hk.2]; rfl
  rw [hOW] at HOL ⊢
  generalize ts[a].1 = k at *
  generalize ts[a].2 = n at *
  generalize vs[q] = it at *
  obtain ⟨ik, im, is⟩ := it
  simp only at i0 i1 i2 hnp HPL HPN HLT HPV HV HCL HCS hvk hk HOE wn ws
  subst hvk
  have hr := hI.room
  have hm := hI.most
  unfold maxLen at h2 hm
  subst hvv hv'
  have hql : q ≤ 200 := by omega
  clear hI hF hT hfi hfi' wk hp hit hfn hv hss hcc hOW
  obtain ⟨rfl, rfl⟩ := hk
  have HL : Hid (∀ w, Calls Tryz.prog 48 #[.int .u64 im, .int .i64 8] w fun e w' => e = .returned (.string ⟨(leL im 8).toArray⟩) ∧ Below w.heap.size w w') := fun w => l1Le_any im 8 w wn (by omega)
  have r0 := cells_re3 (cell_1 c0 hb' (.cells #[.int .i64 1, .int .u64 (im : Int), .string is] 64))
  have r1 := cells_re3 (cell_1 c1 hb' (.cells #[.int .i64 1, .int .u64 (im : Int), .string is] 64))
  have s0 := cells_re3 (w := (w.alloc (.cells #[.int .i64 1, .int .u64 (im : Int), .string is] 64))) (a := ⟨w.heap.size, 0, none⟩) (v := .int .i64 1) (by simp [go_sem])
  have s1 := cells_re3 (w := (w.alloc (.cells #[.int .i64 1, .int .u64 (im : Int), .string is] 64))) (a := ⟨w.heap.size, 1, none⟩) (v := .int .u64 (im : Int)) (by simp [go_sem])
  have s2 := cells_re3 (w := (w.alloc (.cells #[.int .i64 1, .int .u64 (im : Int), .string is] 64))) (a := ⟨w.heap.size, 2, none⟩) (v := .string is) (by simp [go_sem])
  go_enter Tryz.func27, Tryz.ntmps27
  go_wp2_with fail
  refine wp_region_quiet_below (by kernel_rfl) (by kernel_rfl) ?_
  repeat (go_big_quiet_step (exact Calls.regrown_of (HL.out _)))
  refine wpQuiet_nil ?_
  intro w2 hw'
  obtain ⟨⟨dq, osq⟩, hw''⟩ := hw'
  have hb2 : Below w.heap.size w w2 := by rw [hw'']; exact (bel1 _ _).trans ((below_regrown _ dq osq).mono (by simp))
  have HB2 : Hid (Below w.heap.size w w2) := hb2
  have x0 : w2.cell? ⟨w.heap.size, 0, none⟩ = some (.int .i64 1) := by rw [hw'']; exact s0 _ _
  have x1 : w2.cell? ⟨w.heap.size, 1, none⟩ = some (.int .u64 im) := by rw [hw'']; exact s1 _ _
  have x2 : w2.cell? ⟨w.heap.size, 2, none⟩ = some (.string is) := by rw [hw'']; exact s2 _ _
  clear hw'' r0 r1 s0 s1 s2 hb2
  obtain ⟨D, hD⟩ : ∃ D : ByteArray, (⟨(leL im 8).toArray⟩ : ByteArray) = D := ⟨_, rfl⟩
  have HD : Hid (D = ⟨(OW).toArray⟩) := by show _ = _; rw [← hD, HOE.out]
  rw [hD]
  clear hD
  clear HOE
  go_wp2_with fail
  refine (HPN.out _ HB2.out).mono ?_
  rintro e w7 ⟨vp, rfl, hown, hb7⟩
  have HO : Hid (w7.ownsRow _ 2 1 vp (np 1 im) (plRow ts f a 1 im)) := hown
  have HB7 : Hid (Below w.heap.size w w7) := HB2.out.trans (hb7.mono (HB2.out.size))
  obtain ⟨N, hN⟩ : ∃ N, np 1 im = N := ⟨_, rfl⟩
  have HNE : Hid (np 1 im = N) := hN
  have h2' := hown.2
  rw [hN] at h2' hnp HV HCL
  have hgl := hown.lt
  clear hown hN hb7 x0 x1 x2
  rcases h2' with ⟨rfl, hn0⟩ | ⟨g, cp, cur, rfl, hg, _, hcp, hcm, _, _⟩
  · have HE : Hid (D = ⟨(OW ++ cc N).toArray⟩ ∧ q' = q + 1) := by
      have hv0 := HV.out
      rw [hn0] at hv0
      cases hv0
      exact ⟨by rw [HD.out, hn0, HC0.out, List.append_nil], rfl⟩
    clear hgl
    go_wp2_with fail
    go_loopg [3, 13, 15] 0 (fun gk x o i wr => x = .int .i64 ((q + 1 : Nat) : Int) ∧ o = .string D ∧ i = .int .i64 0 ∧ wr = w7)
    case atStart => exact ⟨by go_num, rfl, rfl, rfl⟩
    case round =>
      obtain ⟨rfl, rfl, rfl, rfl⟩ := hrel
      go_wp2_with fail
      go_ret2
      exact ⟨by rw [HNE.out, ← HE.out.1, HE.out.2]; try rfl, HB7.out⟩
  · have hgw : g < w7.heap.size := (hgl g rfl).2
    have HC : Hid (∀ i, i < N → w7.cell? ⟨g, i, none⟩ = some (.int .i64 (pl ts f a 1 im i : Nat))) := fun i hi => by
      have ho := HO.out
      rw [← HNE.out] at ho hi
      exact row_at ho hi
    clear hgl
    unfold maxLen at hcm
    go_wp2_with fail
    go_loopg [3, 13, 15] N (fun gk x o i wr => ∃ (j y : Nat) (X : ByteArray), j + gk = N ∧ i = .int .i64 j ∧ x = .int .i64 y ∧ vit (ve ts vs f) (pl ts f a 1 im) (q + 1) j = some y ∧ o = .string X ∧ X = ⟨(OW ++ cc j).toArray⟩ ∧ Below w7.heap.size w7 wr)
    case atStart => exact ⟨0, q + 1, _, by omega, rfl, by go_num, rfl, rfl, by rw [HD.out, HC0.out, List.append_nil], Below.refl _ _⟩
    case round =>
      obtain ⟨j, y, X, hj', rfl, rfl, hy, rfl, hX, hbel⟩ := hrel
      have HJ : Hid (j + gk = N) := hj'
      have HY : Hid (vit (ve ts vs f) (pl ts f a 1 im) (q + 1) j = some y) := hy
      have HX : Hid (X = ⟨(OW ++ cc j).toArray⟩) := hX
      have hyl : y ≤ vs.length := HLT.out j y hy
      have hj : j ≤ N := by omega
      have hXs : X.size ≤ 1001048590 := by
        rw [hX, ba_size, List.length_append]
        have := HOL.out
        have := HCL.out j y hj hy
        omega
      have HBW : Hid (Below w.heap.size w wr) := HB7.out.trans (hbel.mono HB7.out.size)
      have HBE : Hid (Below w7.heap.size w7 wr) := hbel
      clear hj' hy hX
      by_cases hjm : j < N
      · obtain ⟨e1, he1⟩ := HPL.out j (by rw [HNE.out]; exact hjm)
        obtain ⟨z, y1, hz, hy1⟩ := HPV.out j (by rw [HNE.out]; exact hjm)
        have ez : z = y := by rw [HY.out] at hz; injection hz with hz; exact hz.symm
        subst ez
        have hpl : pl ts f a 1 im j ≤ 1048577 := by have := en_lt he1; omega
        have cj : wr.cell? ⟨g, j, none⟩ = some (.int .i64 (pl ts f a 1 im j : Nat)) := by rw [hbel.cell (p := ⟨g, j, none⟩) hgw]; exact HC.out j hjm
        have HCK := HP.out (pl ts f a 1 im j) z y1 e1 wr he1 hy1 HBW.out
        have HNX : Hid (vit (ve ts vs f) (pl ts f a 1 im) (q + 1) (j + 1) = some y1) := by show _ = _; rw [vit_succ, HY.out]; exact hy1
        have HSX : Hid (cc (j + 1) = cc j ++ scE cb_bc ts vs f (pl ts f a 1 im j) z) := HCS.out j z HY.out
        have hPs : ByteArray.size ⟨(scE cb_bc ts vs f (pl ts f a 1 im j) z).toArray⟩ ≤ 1000000000 := by rw [ba_size]; exact HSL.out _ _ _ _ he1 hy1
        have hyl1 : y1 ≤ vs.length := (ve_lt hy1).2
        have HXP : Hid (X ++ ⟨(scE cb_bc ts vs f (pl ts f a 1 im j) z).toArray⟩ = ⟨(OW ++ cc (j + 1)).toArray⟩) := by
          show _ = _
          rw [HX.out, HSX.out, cat_list, List.append_assoc]
        clear hbel he1 hy1 hz
        generalize pl ts f a 1 im j = p at cj hpl HCK HSX hPs HXP
        obtain ⟨P, hP⟩ : ∃ P : ByteArray, (⟨(scE cb_bc ts vs f p z).toArray⟩ : ByteArray) = P := ⟨_, rfl⟩
        rw [hP] at hPs HCK HXP
        have HK : Hid (Calls Tryz.prog 27 #[.slice (some ⟨b', o', none⟩) ts.length cap', .int .i64 p, .slice (some ⟨b, o, none⟩) vs.length C, .int .i64 z, .bool true] wr fun e w' => e = .returned (.tuple #[.string P, .int .i64 y1]) ∧ Below wr.heap.size wr w') := HCK
        have hXP2 : ¬ (9223372036854775807 < X.size + P.size) := by omega
        clear HCK hP HSX
        go_wp2_with fail
        refine Calls.mono HK.out ?_
        rintro e w8 ⟨rfl, hb8⟩
        have HB8 : Hid (Below w7.heap.size w7 w8) := HBE.out.trans (hb8.mono HBE.out.size)
        clear hb8 cj
        go_wp2_with fail
        go_roundg (gk - 1)
        case rel => exact ⟨j + 1, y1, _, by have := HJ.out; omega, by go_num, rfl, HNX.out, rfl, HXP.out, HB8.out⟩
        case measure => have := HJ.out; omega
      · have ej : j = N := by omega
        subst ej
        have HE : Hid (X = ⟨(OW ++ cc j).toArray⟩ ∧ q' = y) := ⟨HX.out, by have h1 := HV.out; rw [HY.out] at h1; injection h1 with h1; exact h1.symm⟩
        clear hbel
        go_wp2_with fail
        go_ret2
        exact ⟨by rw [HNE.out, ← HE.out.1, HE.out.2]; try rfl, HBW.out⟩
set_option maxRecDepth 100000 in
set_option maxHeartbeats 8000000 in
theorem b6_2 (ts : List (Int × Int)) (vs : List It) (hl : vs.length ≤ 200) (f : Nat) (hp : B6Hyp ts vs f) (a q q' e0 : Nat) (vt vv : Value) (w : World) (hf7 : f ≤ 7) (hT : IsTyps w.heap.size w vt ts) (hI : IsItems w.heap.size w vv vs) (ha : a < ts.length) (hq : q < vs.length) (hok : tyOk ts[a].1 ts[a].2 = true) (hit : iter (en ts f) (a + 1) (kids ts[a].1 ts[a].2) = some e0) (hfi : fitsI ts[a].1 ts[a].2 vs[q] = true)
    (hv : vit (ve ts vs f) (pl ts f a ts[a].1 vs[q].n) (q + 1) (np ts[a].1 vs[q].n) = some q') (hk : ts[a].1 = 2) :
    Calls Tryz.prog 27 #[vt, .int .i64 a, vv, .int .i64 q, .bool true] w fun e w' => e = .returned (.tuple #[.string ⟨(own cb_bc ts[a].2 vs[q] ++ cat (scE cb_bc ts vs f) (ve ts vs f) (pl ts f a ts[a].1 vs[q].n) (q + 1) (np ts[a].1 vs[q].n)).toArray⟩, .int .i64 q']) ∧ Below w.heap.size w w' := by
  have hfi' : vs[q].k = ts[a].1 ∧ fitsN ts[a].1 ts[a].2 vs[q].n = true ∧ fitsS ts[a].1 ts[a].2 vs[q].s.size = true := by simpa [fitsI] using hfi
  have hfn := hfi'.2.1
  have hvk := hfi'.1
  have hnp : np ts[a].1 vs[q].n ≤ 20 := np_le hok hfn
  have HPL : Hid (∀ j, j < np ts[a].1 vs[q].n → ∃ e', en ts f (pl ts f a ts[a].1 vs[q].n j) = some e') := fun j hj => pl_ok ha hok hit hfn hj
  have HPV : Hid (∀ j, j < np ts[a].1 vs[q].n → ∃ y y', vit (ve ts vs f) (pl ts f a ts[a].1 vs[q].n) (q + 1) j = some y ∧ ve ts vs f (pl ts f a ts[a].1 vs[q].n j) y = some y') := fun j hj => by
    obtain ⟨y, hy⟩ := vit_part hv (show j ≤ np ts[a].1 vs[q].n by omega)
    obtain ⟨y', hy'⟩ := vit_part hv (show j + 1 ≤ np ts[a].1 vs[q].n by omega)
    rw [vit_succ, hy] at hy'
    exact ⟨y, y', hy, hy'⟩
  have HV : Hid (vit (ve ts vs f) (pl ts f a ts[a].1 vs[q].n) (q + 1) (np ts[a].1 vs[q].n) = some q') := hv
  have HPN : Hid (∀ w', Below w.heap.size w w' → Calls Tryz.prog 42 #[vt, .int .i64 a, .agg #[.int .i64 vs[q].k, .int .u64 vs[q].n, .string vs[q].s]] w' fun e w'' => PlPost ts f a ts[a].1 vs[q].n w' e w'') := fun w' hb => l3Plan_any ts f a e0 vs[q] vt w' hf7 ((hT.below hb).up hb.size) ha hok hit hfn
  have HP : Hid (∀ a q q' e0 w', en ts f a = some e0 → ve ts vs f a q = some q' → Below w.heap.size w w' → Calls Tryz.prog 27 #[vt, .int .i64 a, vv, .int .i64 q, .bool true] w' fun e w'' => e = .returned (.tuple #[.string ⟨(scE cb_bc ts vs f a q).toArray⟩, .int .i64 q']) ∧ Below w'.heap.size w' w'') := fun a q q' e0 w' he hve hb => hp a q q' e0 vt vv w' hf7 he hve ((hT.below hb).up hb.size) ((hI.below hb).up hb.size)
  obtain ⟨b, o, C, hI, hF⟩ := hI
  have hvv := hF.at (by omega)
  rw [Nat.sub_zero, Nat.sub_zero, Nat.zero_mul, Nat.add_zero] at hvv
  have hsm := hI.small
  have hst := hT.small
  have hbB : b < w.heap.size := hI.low.resolve_left (by omega)
  obtain ⟨i0, i1, i2⟩ := hI.cells q hq
  obtain ⟨wk, wn, ws⟩ := hI.wf vs[q] (List.getElem_mem hq)
  have HLT : Hid (∀ j x, vit (ve ts vs f) (pl ts f a ts[a].1 vs[q].n) (q + 1) j = some x → x ≤ vs.length) := fun j x h => (vit_lt (by omega) h).2
  have hss : ∀ x ∈ vs, x.s.size ≤ 1048577 := fun x h => (hI.wf x h).2.2
  have HSL : Hid (∀ a q e0 q', en ts f a = some e0 → ve ts vs f a q = some q' → (scE cb_bc ts vs f a q).length ≤ 1000000000) := fun a q e0 q' he hv => scE_le cb_len_bc hss hl he hv
  have HOL : Hid ((own cb_bc ts[a].2 vs[q]).length ≤ 1048590) := own_len cb_len_bc hok hvk ws
  have HCL : Hid (∀ j x, j ≤ np ts[a].1 vs[q].n → vit (ve ts vs f) (pl ts f a ts[a].1 vs[q].n) (q + 1) j = some x → (cat (scE cb_bc ts vs f) (ve ts vs f) (pl ts f a ts[a].1 vs[q].n) (q + 1) j).length ≤ 1000000000) := fun j x hj hx => by
    have h1 := cat_len cb_len_bc hss (k := ts[a].1) (n := ts[a].2) ha rfl hok hit hfn (q := q) j x hj hx
    have h2 := (vit_lt (by omega) hx).2
    have h3 : x * 1048590 ≤ 200 * 1048590 := Nat.mul_le_mul_right _ (by omega)
    omega
  obtain ⟨b', o', cap', hv', hb', h1, h2, c0, c1⟩ := hT.at ha
  obtain ⟨cc, hcc⟩ : ∃ cc, cat (scE cb_bc ts vs f) (ve ts vs f) (pl ts f a ts[a].1 vs[q].n) (q + 1) = cc := ⟨_, rfl⟩
  have HCS : Hid (∀ j x, vit (ve ts vs f) (pl ts f a ts[a].1 vs[q].n) (q + 1) j = some x → cc (j + 1) = cc j ++ scE cb_bc ts vs f (pl ts f a ts[a].1 vs[q].n j) x) := fun j x h => by rw [← hcc]; exact cat_succ h
  have HC0 : Hid (cc 0 = []) := by show _ = _; rw [← hcc]; rfl
  rw [hcc] at HCL ⊢
  obtain ⟨OW, hOW⟩ : ∃ OW, own cb_bc ts[a].2 vs[q] = OW := ⟨_, rfl⟩
  have HOE : Hid (OW = leL vs[q].n 1) := by show _ = _; rw [← hOW, own_num hvk (by omega), hk]; rfl
  rw [hOW] at HOL ⊢
  generalize ts[a].1 = k at *
  generalize ts[a].2 = n at *
  generalize vs[q] = it at *
  obtain ⟨ik, im, is⟩ := it
  simp only at i0 i1 i2 hnp HPL HPN HLT HPV HV HCL HCS hvk hk HOE wn ws
  subst hvk
  have hr := hI.room
  have hm := hI.most
  unfold maxLen at h2 hm
  subst hvv hv'
  have hql : q ≤ 200 := by omega
  clear hI hF hT hfi hfi' wk hp hit hfn hv hss hcc hOW
  subst hk
  have HL : Hid (∀ w, Calls Tryz.prog 48 #[.int .u64 im, .int .i64 1] w fun e w' => e = .returned (.string ⟨(leL im 1).toArray⟩) ∧ Below w.heap.size w w') := fun w => l1Le_any im 1 w wn (by omega)
  go_enter Tryz.func27, Tryz.ntmps27
  go_wp2_with fail
  refine (HL.out _).mono ?_
  rintro e w2 ⟨rfl, hb2⟩
  have hB2 : Below w.heap.size w w2 := (bel1 _ _).trans (hb2.mono (by simp))
  have HB2 : Hid (Below w.heap.size w w2) := hB2
  have x0 : w2.cell? ⟨w.heap.size, 0, none⟩ = some (.int .i64 2) := by rw [hb2.cell (p := ⟨w.heap.size, 0, none⟩) (by simp)]; simp [go_sem]
  have x1 : w2.cell? ⟨w.heap.size, 1, none⟩ = some (.int .u64 im) := by rw [hb2.cell (p := ⟨w.heap.size, 1, none⟩) (by simp)]; simp [go_sem]
  have x2 : w2.cell? ⟨w.heap.size, 2, none⟩ = some (.string is) := by rw [hb2.cell (p := ⟨w.heap.size, 2, none⟩) (by simp)]; simp [go_sem]
  clear hb2 hB2
  obtain ⟨D, hD⟩ : ∃ D : ByteArray, (⟨(leL im 1).toArray⟩ : ByteArray) = D := ⟨_, rfl⟩
  have HD : Hid (D = ⟨(OW).toArray⟩) := by show _ = _; rw [← hD, HOE.out]
  rw [hD]
  clear hD
  clear HOE
  go_wp2_with fail
  refine (HPN.out _ HB2.out).mono ?_
  rintro e w7 ⟨vp, rfl, hown, hb7⟩
  have HO : Hid (w7.ownsRow _ 2 1 vp (np 2 im) (plRow ts f a 2 im)) := hown
  have HB7 : Hid (Below w.heap.size w w7) := HB2.out.trans (hb7.mono (HB2.out.size))
  obtain ⟨N, hN⟩ : ∃ N, np 2 im = N := ⟨_, rfl⟩
  have HNE : Hid (np 2 im = N) := hN
  have h2' := hown.2
  rw [hN] at h2' hnp HV HCL
  have hgl := hown.lt
  clear hown hN hb7 x0 x1 x2
  rcases h2' with ⟨rfl, hn0⟩ | ⟨g, cp, cur, rfl, hg, _, hcp, hcm, _, _⟩
  · have HE : Hid (D = ⟨(OW ++ cc N).toArray⟩ ∧ q' = q + 1) := by
      have hv0 := HV.out
      rw [hn0] at hv0
      cases hv0
      exact ⟨by rw [HD.out, hn0, HC0.out, List.append_nil], rfl⟩
    clear hgl
    go_wp2_with fail
    go_loopg [3, 13, 15] 0 (fun gk x o i wr => x = .int .i64 ((q + 1 : Nat) : Int) ∧ o = .string D ∧ i = .int .i64 0 ∧ wr = w7)
    case atStart => exact ⟨by go_num, rfl, rfl, rfl⟩
    case round =>
      obtain ⟨rfl, rfl, rfl, rfl⟩ := hrel
      go_wp2_with fail
      go_ret2
      exact ⟨by rw [HNE.out, ← HE.out.1, HE.out.2]; try rfl, HB7.out⟩
  · have hgw : g < w7.heap.size := (hgl g rfl).2
    have HC : Hid (∀ i, i < N → w7.cell? ⟨g, i, none⟩ = some (.int .i64 (pl ts f a 2 im i : Nat))) := fun i hi => by
      have ho := HO.out
      rw [← HNE.out] at ho hi
      exact row_at ho hi
    clear hgl
    unfold maxLen at hcm
    go_wp2_with fail
    go_loopg [3, 13, 15] N (fun gk x o i wr => ∃ (j y : Nat) (X : ByteArray), j + gk = N ∧ i = .int .i64 j ∧ x = .int .i64 y ∧ vit (ve ts vs f) (pl ts f a 2 im) (q + 1) j = some y ∧ o = .string X ∧ X = ⟨(OW ++ cc j).toArray⟩ ∧ Below w7.heap.size w7 wr)
    case atStart => exact ⟨0, q + 1, _, by omega, rfl, by go_num, rfl, rfl, by rw [HD.out, HC0.out, List.append_nil], Below.refl _ _⟩
    case round =>
      obtain ⟨j, y, X, hj', rfl, rfl, hy, rfl, hX, hbel⟩ := hrel
      have HJ : Hid (j + gk = N) := hj'
      have HY : Hid (vit (ve ts vs f) (pl ts f a 2 im) (q + 1) j = some y) := hy
      have HX : Hid (X = ⟨(OW ++ cc j).toArray⟩) := hX
      have hyl : y ≤ vs.length := HLT.out j y hy
      have hj : j ≤ N := by omega
      have hXs : X.size ≤ 1001048590 := by
        rw [hX, ba_size, List.length_append]
        have := HOL.out
        have := HCL.out j y hj hy
        omega
      have HBW : Hid (Below w.heap.size w wr) := HB7.out.trans (hbel.mono HB7.out.size)
      have HBE : Hid (Below w7.heap.size w7 wr) := hbel
      clear hj' hy hX
      by_cases hjm : j < N
      · obtain ⟨e1, he1⟩ := HPL.out j (by rw [HNE.out]; exact hjm)
        obtain ⟨z, y1, hz, hy1⟩ := HPV.out j (by rw [HNE.out]; exact hjm)
        have ez : z = y := by rw [HY.out] at hz; injection hz with hz; exact hz.symm
        subst ez
        have hpl : pl ts f a 2 im j ≤ 1048577 := by have := en_lt he1; omega
        have cj : wr.cell? ⟨g, j, none⟩ = some (.int .i64 (pl ts f a 2 im j : Nat)) := by rw [hbel.cell (p := ⟨g, j, none⟩) hgw]; exact HC.out j hjm
        have HCK := HP.out (pl ts f a 2 im j) z y1 e1 wr he1 hy1 HBW.out
        have HNX : Hid (vit (ve ts vs f) (pl ts f a 2 im) (q + 1) (j + 1) = some y1) := by show _ = _; rw [vit_succ, HY.out]; exact hy1
        have HSX : Hid (cc (j + 1) = cc j ++ scE cb_bc ts vs f (pl ts f a 2 im j) z) := HCS.out j z HY.out
        have hPs : ByteArray.size ⟨(scE cb_bc ts vs f (pl ts f a 2 im j) z).toArray⟩ ≤ 1000000000 := by rw [ba_size]; exact HSL.out _ _ _ _ he1 hy1
        have hyl1 : y1 ≤ vs.length := (ve_lt hy1).2
        have HXP : Hid (X ++ ⟨(scE cb_bc ts vs f (pl ts f a 2 im j) z).toArray⟩ = ⟨(OW ++ cc (j + 1)).toArray⟩) := by
          show _ = _
          rw [HX.out, HSX.out, cat_list, List.append_assoc]
        clear hbel he1 hy1 hz
        generalize pl ts f a 2 im j = p at cj hpl HCK HSX hPs HXP
        obtain ⟨P, hP⟩ : ∃ P : ByteArray, (⟨(scE cb_bc ts vs f p z).toArray⟩ : ByteArray) = P := ⟨_, rfl⟩
        rw [hP] at hPs HCK HXP
        have HK : Hid (Calls Tryz.prog 27 #[.slice (some ⟨b', o', none⟩) ts.length cap', .int .i64 p, .slice (some ⟨b, o, none⟩) vs.length C, .int .i64 z, .bool true] wr fun e w' => e = .returned (.tuple #[.string P, .int .i64 y1]) ∧ Below wr.heap.size wr w') := HCK
        have hXP2 : ¬ (9223372036854775807 < X.size + P.size) := by omega
        clear HCK hP HSX
        go_wp2_with fail
        refine Calls.mono HK.out ?_
        rintro e w8 ⟨rfl, hb8⟩
        have HB8 : Hid (Below w7.heap.size w7 w8) := HBE.out.trans (hb8.mono HBE.out.size)
        clear hb8 cj
        go_wp2_with fail
        go_roundg (gk - 1)
        case rel => exact ⟨j + 1, y1, _, by have := HJ.out; omega, by go_num, rfl, HNX.out, rfl, HXP.out, HB8.out⟩
        case measure => have := HJ.out; omega
      · have ej : j = N := by omega
        subst ej
        have HE : Hid (X = ⟨(OW ++ cc j).toArray⟩ ∧ q' = y) := ⟨HX.out, by have h1 := HV.out; rw [HY.out] at h1; injection h1 with h1; exact h1.symm⟩
        clear hbel
        go_wp2_with fail
        go_ret2
        exact ⟨by rw [HNE.out, ← HE.out.1, HE.out.2]; try rfl, HBW.out⟩
set_option maxRecDepth 100000 in
set_option maxHeartbeats 8000000 in
theorem b6_8 (ts : List (Int × Int)) (vs : List It) (hl : vs.length ≤ 200) (f : Nat) (hp : B6Hyp ts vs f) (a q q' e0 : Nat) (vt vv : Value) (w : World) (hf7 : f ≤ 7) (hT : IsTyps w.heap.size w vt ts) (hI : IsItems w.heap.size w vv vs) (ha : a < ts.length) (hq : q < vs.length) (hok : tyOk ts[a].1 ts[a].2 = true) (hit : iter (en ts f) (a + 1) (kids ts[a].1 ts[a].2) = some e0) (hfi : fitsI ts[a].1 ts[a].2 vs[q] = true)
    (hv : vit (ve ts vs f) (pl ts f a ts[a].1 vs[q].n) (q + 1) (np ts[a].1 vs[q].n) = some q') (hk : ts[a].1 = 8) :
    Calls Tryz.prog 27 #[vt, .int .i64 a, vv, .int .i64 q, .bool true] w fun e w' => e = .returned (.tuple #[.string ⟨(own cb_bc ts[a].2 vs[q] ++ cat (scE cb_bc ts vs f) (ve ts vs f) (pl ts f a ts[a].1 vs[q].n) (q + 1) (np ts[a].1 vs[q].n)).toArray⟩, .int .i64 q']) ∧ Below w.heap.size w w' := by
  have hfi' : vs[q].k = ts[a].1 ∧ fitsN ts[a].1 ts[a].2 vs[q].n = true ∧ fitsS ts[a].1 ts[a].2 vs[q].s.size = true := by simpa [fitsI] using hfi
  have hfn := hfi'.2.1
  have hvk := hfi'.1
  have hnp : np ts[a].1 vs[q].n ≤ 20 := np_le hok hfn
  have HPL : Hid (∀ j, j < np ts[a].1 vs[q].n → ∃ e', en ts f (pl ts f a ts[a].1 vs[q].n j) = some e') := fun j hj => pl_ok ha hok hit hfn hj
  have HPV : Hid (∀ j, j < np ts[a].1 vs[q].n → ∃ y y', vit (ve ts vs f) (pl ts f a ts[a].1 vs[q].n) (q + 1) j = some y ∧ ve ts vs f (pl ts f a ts[a].1 vs[q].n j) y = some y') := fun j hj => by
    obtain ⟨y, hy⟩ := vit_part hv (show j ≤ np ts[a].1 vs[q].n by omega)
    obtain ⟨y', hy'⟩ := vit_part hv (show j + 1 ≤ np ts[a].1 vs[q].n by omega)
    rw [vit_succ, hy] at hy'
    exact ⟨y, y', hy, hy'⟩
  have HV : Hid (vit (ve ts vs f) (pl ts f a ts[a].1 vs[q].n) (q + 1) (np ts[a].1 vs[q].n) = some q') := hv
  have HPN : Hid (∀ w', Below w.heap.size w w' → Calls Tryz.prog 42 #[vt, .int .i64 a, .agg #[.int .i64 vs[q].k, .int .u64 vs[q].n, .string vs[q].s]] w' fun e w'' => PlPost ts f a ts[a].1 vs[q].n w' e w'') := fun w' hb => l3Plan_any ts f a e0 vs[q] vt w' hf7 ((hT.below hb).up hb.size) ha hok hit hfn
  have HP : Hid (∀ a q q' e0 w', en ts f a = some e0 → ve ts vs f a q = some q' → Below w.heap.size w w' → Calls Tryz.prog 27 #[vt, .int .i64 a, vv, .int .i64 q, .bool true] w' fun e w'' => e = .returned (.tuple #[.string ⟨(scE cb_bc ts vs f a q).toArray⟩, .int .i64 q']) ∧ Below w'.heap.size w' w'') := fun a q q' e0 w' he hve hb => hp a q q' e0 vt vv w' hf7 he hve ((hT.below hb).up hb.size) ((hI.below hb).up hb.size)
  obtain ⟨b, o, C, hI, hF⟩ := hI
  have hvv := hF.at (by omega)
  rw [Nat.sub_zero, Nat.sub_zero, Nat.zero_mul, Nat.add_zero] at hvv
  have hsm := hI.small
  have hst := hT.small
  have hbB : b < w.heap.size := hI.low.resolve_left (by omega)
  obtain ⟨i0, i1, i2⟩ := hI.cells q hq
  obtain ⟨wk, wn, ws⟩ := hI.wf vs[q] (List.getElem_mem hq)
  have HLT : Hid (∀ j x, vit (ve ts vs f) (pl ts f a ts[a].1 vs[q].n) (q + 1) j = some x → x ≤ vs.length) := fun j x h => (vit_lt (by omega) h).2
  have hss : ∀ x ∈ vs, x.s.size ≤ 1048577 := fun x h => (hI.wf x h).2.2
  have HSL : Hid (∀ a q e0 q', en ts f a = some e0 → ve ts vs f a q = some q' → (scE cb_bc ts vs f a q).length ≤ 1000000000) := fun a q e0 q' he hv => scE_le cb_len_bc hss hl he hv
  have HOL : Hid ((own cb_bc ts[a].2 vs[q]).length ≤ 1048590) := own_len cb_len_bc hok hvk ws
  have HCL : Hid (∀ j x, j ≤ np ts[a].1 vs[q].n → vit (ve ts vs f) (pl ts f a ts[a].1 vs[q].n) (q + 1) j = some x → (cat (scE cb_bc ts vs f) (ve ts vs f) (pl ts f a ts[a].1 vs[q].n) (q + 1) j).length ≤ 1000000000) := fun j x hj hx => by
    have h1 := cat_len cb_len_bc hss (k := ts[a].1) (n := ts[a].2) ha rfl hok hit hfn (q := q) j x hj hx
    have h2 := (vit_lt (by omega) hx).2
    have h3 : x * 1048590 ≤ 200 * 1048590 := Nat.mul_le_mul_right _ (by omega)
    omega
  obtain ⟨b', o', cap', hv', hb', h1, h2, c0, c1⟩ := hT.at ha
  obtain ⟨cc, hcc⟩ : ∃ cc, cat (scE cb_bc ts vs f) (ve ts vs f) (pl ts f a ts[a].1 vs[q].n) (q + 1) = cc := ⟨_, rfl⟩
  have HCS : Hid (∀ j x, vit (ve ts vs f) (pl ts f a ts[a].1 vs[q].n) (q + 1) j = some x → cc (j + 1) = cc j ++ scE cb_bc ts vs f (pl ts f a ts[a].1 vs[q].n j) x) := fun j x h => by rw [← hcc]; exact cat_succ h
  have HC0 : Hid (cc 0 = []) := by show _ = _; rw [← hcc]; rfl
  rw [hcc] at HCL ⊢
  obtain ⟨OW, hOW⟩ : ∃ OW, own cb_bc ts[a].2 vs[q] = OW := ⟨_, rfl⟩
  have HOE : Hid (OW = leL vs[q].n 1) := by show _ = _; rw [← hOW, own_num hvk (by omega), hk]; rfl
  rw [hOW] at HOL ⊢
  generalize ts[a].1 = k at *
  generalize ts[a].2 = n at *
  generalize vs[q] = it at *
  obtain ⟨ik, im, is⟩ := it
  simp only at i0 i1 i2 hnp HPL HPN HLT HPV HV HCL HCS hvk hk HOE wn ws
  subst hvk
  have hr := hI.room
  have hm := hI.most
  unfold maxLen at h2 hm
  subst hvv hv'
  have hql : q ≤ 200 := by omega
  clear hI hF hT hfi hfi' wk hp hit hfn hv hss hcc hOW
  subst hk
  have HL : Hid (∀ w, Calls Tryz.prog 48 #[.int .u64 im, .int .i64 1] w fun e w' => e = .returned (.string ⟨(leL im 1).toArray⟩) ∧ Below w.heap.size w w') := fun w => l1Le_any im 1 w wn (by omega)
  go_enter Tryz.func27, Tryz.ntmps27
  go_wp2_with fail
  refine (HL.out _).mono ?_
  rintro e w2 ⟨rfl, hb2⟩
  have hB2 : Below w.heap.size w w2 := (bel1 _ _).trans (hb2.mono (by simp))
  have HB2 : Hid (Below w.heap.size w w2) := hB2
  have x0 : w2.cell? ⟨w.heap.size, 0, none⟩ = some (.int .i64 8) := by rw [hb2.cell (p := ⟨w.heap.size, 0, none⟩) (by simp)]; simp [go_sem]
  have x1 : w2.cell? ⟨w.heap.size, 1, none⟩ = some (.int .u64 im) := by rw [hb2.cell (p := ⟨w.heap.size, 1, none⟩) (by simp)]; simp [go_sem]
  have x2 : w2.cell? ⟨w.heap.size, 2, none⟩ = some (.string is) := by rw [hb2.cell (p := ⟨w.heap.size, 2, none⟩) (by simp)]; simp [go_sem]
  clear hb2 hB2
  obtain ⟨D, hD⟩ : ∃ D : ByteArray, (⟨(leL im 1).toArray⟩ : ByteArray) = D := ⟨_, rfl⟩
  have HD : Hid (D = ⟨(OW).toArray⟩) := by show _ = _; rw [← hD, HOE.out]
  rw [hD]
  clear hD
  clear HOE
  go_wp2_with fail
  refine (HPN.out _ HB2.out).mono ?_
  rintro e w7 ⟨vp, rfl, hown, hb7⟩
  have HO : Hid (w7.ownsRow _ 2 1 vp (np 8 im) (plRow ts f a 8 im)) := hown
  have HB7 : Hid (Below w.heap.size w w7) := HB2.out.trans (hb7.mono (HB2.out.size))
  obtain ⟨N, hN⟩ : ∃ N, np 8 im = N := ⟨_, rfl⟩
  have HNE : Hid (np 8 im = N) := hN
  have h2' := hown.2
  rw [hN] at h2' hnp HV HCL
  have hgl := hown.lt
  clear hown hN hb7 x0 x1 x2
  rcases h2' with ⟨rfl, hn0⟩ | ⟨g, cp, cur, rfl, hg, _, hcp, hcm, _, _⟩
  · have HE : Hid (D = ⟨(OW ++ cc N).toArray⟩ ∧ q' = q + 1) := by
      have hv0 := HV.out
      rw [hn0] at hv0
      cases hv0
      exact ⟨by rw [HD.out, hn0, HC0.out, List.append_nil], rfl⟩
    clear hgl
    go_wp2_with fail
    go_loopg [3, 13, 15] 0 (fun gk x o i wr => x = .int .i64 ((q + 1 : Nat) : Int) ∧ o = .string D ∧ i = .int .i64 0 ∧ wr = w7)
    case atStart => exact ⟨by go_num, rfl, rfl, rfl⟩
    case round =>
      obtain ⟨rfl, rfl, rfl, rfl⟩ := hrel
      go_wp2_with fail
      go_ret2
      exact ⟨by rw [HNE.out, ← HE.out.1, HE.out.2]; try rfl, HB7.out⟩
  · have hgw : g < w7.heap.size := (hgl g rfl).2
    have HC : Hid (∀ i, i < N → w7.cell? ⟨g, i, none⟩ = some (.int .i64 (pl ts f a 8 im i : Nat))) := fun i hi => by
      have ho := HO.out
      rw [← HNE.out] at ho hi
      exact row_at ho hi
    clear hgl
    unfold maxLen at hcm
    go_wp2_with fail
    go_loopg [3, 13, 15] N (fun gk x o i wr => ∃ (j y : Nat) (X : ByteArray), j + gk = N ∧ i = .int .i64 j ∧ x = .int .i64 y ∧ vit (ve ts vs f) (pl ts f a 8 im) (q + 1) j = some y ∧ o = .string X ∧ X = ⟨(OW ++ cc j).toArray⟩ ∧ Below w7.heap.size w7 wr)
    case atStart => exact ⟨0, q + 1, _, by omega, rfl, by go_num, rfl, rfl, by rw [HD.out, HC0.out, List.append_nil], Below.refl _ _⟩
    case round =>
      obtain ⟨j, y, X, hj', rfl, rfl, hy, rfl, hX, hbel⟩ := hrel
      have HJ : Hid (j + gk = N) := hj'
      have HY : Hid (vit (ve ts vs f) (pl ts f a 8 im) (q + 1) j = some y) := hy
      have HX : Hid (X = ⟨(OW ++ cc j).toArray⟩) := hX
      have hyl : y ≤ vs.length := HLT.out j y hy
      have hj : j ≤ N := by omega
      have hXs : X.size ≤ 1001048590 := by
        rw [hX, ba_size, List.length_append]
        have := HOL.out
        have := HCL.out j y hj hy
        omega
      have HBW : Hid (Below w.heap.size w wr) := HB7.out.trans (hbel.mono HB7.out.size)
      have HBE : Hid (Below w7.heap.size w7 wr) := hbel
      clear hj' hy hX
      by_cases hjm : j < N
      · obtain ⟨e1, he1⟩ := HPL.out j (by rw [HNE.out]; exact hjm)
        obtain ⟨z, y1, hz, hy1⟩ := HPV.out j (by rw [HNE.out]; exact hjm)
        have ez : z = y := by rw [HY.out] at hz; injection hz with hz; exact hz.symm
        subst ez
        have hpl : pl ts f a 8 im j ≤ 1048577 := by have := en_lt he1; omega
        have cj : wr.cell? ⟨g, j, none⟩ = some (.int .i64 (pl ts f a 8 im j : Nat)) := by rw [hbel.cell (p := ⟨g, j, none⟩) hgw]; exact HC.out j hjm
        have HCK := HP.out (pl ts f a 8 im j) z y1 e1 wr he1 hy1 HBW.out
        have HNX : Hid (vit (ve ts vs f) (pl ts f a 8 im) (q + 1) (j + 1) = some y1) := by show _ = _; rw [vit_succ, HY.out]; exact hy1
        have HSX : Hid (cc (j + 1) = cc j ++ scE cb_bc ts vs f (pl ts f a 8 im j) z) := HCS.out j z HY.out
        have hPs : ByteArray.size ⟨(scE cb_bc ts vs f (pl ts f a 8 im j) z).toArray⟩ ≤ 1000000000 := by rw [ba_size]; exact HSL.out _ _ _ _ he1 hy1
        have hyl1 : y1 ≤ vs.length := (ve_lt hy1).2
        have HXP : Hid (X ++ ⟨(scE cb_bc ts vs f (pl ts f a 8 im j) z).toArray⟩ = ⟨(OW ++ cc (j + 1)).toArray⟩) := by
          show _ = _
          rw [HX.out, HSX.out, cat_list, List.append_assoc]
        clear hbel he1 hy1 hz
        generalize pl ts f a 8 im j = p at cj hpl HCK HSX hPs HXP
        obtain ⟨P, hP⟩ : ∃ P : ByteArray, (⟨(scE cb_bc ts vs f p z).toArray⟩ : ByteArray) = P := ⟨_, rfl⟩
        rw [hP] at hPs HCK HXP
        have HK : Hid (Calls Tryz.prog 27 #[.slice (some ⟨b', o', none⟩) ts.length cap', .int .i64 p, .slice (some ⟨b, o, none⟩) vs.length C, .int .i64 z, .bool true] wr fun e w' => e = .returned (.tuple #[.string P, .int .i64 y1]) ∧ Below wr.heap.size wr w') := HCK
        have hXP2 : ¬ (9223372036854775807 < X.size + P.size) := by omega
        clear HCK hP HSX
        go_wp2_with fail
        refine Calls.mono HK.out ?_
        rintro e w8 ⟨rfl, hb8⟩
        have HB8 : Hid (Below w7.heap.size w7 w8) := HBE.out.trans (hb8.mono HBE.out.size)
        clear hb8 cj
        go_wp2_with fail
        go_roundg (gk - 1)
        case rel => exact ⟨j + 1, y1, _, by have := HJ.out; omega, by go_num, rfl, HNX.out, rfl, HXP.out, HB8.out⟩
        case measure => have := HJ.out; omega
      · have ej : j = N := by omega
        subst ej
        have HE : Hid (X = ⟨(OW ++ cc j).toArray⟩ ∧ q' = y) := ⟨HX.out, by have h1 := HV.out; rw [HY.out] at h1; injection h1 with h1; exact h1.symm⟩
        clear hbel
        go_wp2_with fail
        go_ret2
        exact ⟨by rw [HNE.out, ← HE.out.1, HE.out.2]; try rfl, HBW.out⟩
set_option maxRecDepth 100000 in
set_option maxHeartbeats 8000000 in
theorem b6_9 (ts : List (Int × Int)) (vs : List It) (hl : vs.length ≤ 200) (f : Nat) (hp : B6Hyp ts vs f) (a q q' e0 : Nat) (vt vv : Value) (w : World) (hf7 : f ≤ 7) (hT : IsTyps w.heap.size w vt ts) (hI : IsItems w.heap.size w vv vs) (ha : a < ts.length) (hq : q < vs.length) (hok : tyOk ts[a].1 ts[a].2 = true) (hit : iter (en ts f) (a + 1) (kids ts[a].1 ts[a].2) = some e0) (hfi : fitsI ts[a].1 ts[a].2 vs[q] = true)
    (hv : vit (ve ts vs f) (pl ts f a ts[a].1 vs[q].n) (q + 1) (np ts[a].1 vs[q].n) = some q') (hk : ts[a].1 = 9) :
    Calls Tryz.prog 27 #[vt, .int .i64 a, vv, .int .i64 q, .bool true] w fun e w' => e = .returned (.tuple #[.string ⟨(own cb_bc ts[a].2 vs[q] ++ cat (scE cb_bc ts vs f) (ve ts vs f) (pl ts f a ts[a].1 vs[q].n) (q + 1) (np ts[a].1 vs[q].n)).toArray⟩, .int .i64 q']) ∧ Below w.heap.size w w' := by
  have hfi' : vs[q].k = ts[a].1 ∧ fitsN ts[a].1 ts[a].2 vs[q].n = true ∧ fitsS ts[a].1 ts[a].2 vs[q].s.size = true := by simpa [fitsI] using hfi
  have hfn := hfi'.2.1
  have hvk := hfi'.1
  have hnp : np ts[a].1 vs[q].n ≤ 20 := np_le hok hfn
  have HPL : Hid (∀ j, j < np ts[a].1 vs[q].n → ∃ e', en ts f (pl ts f a ts[a].1 vs[q].n j) = some e') := fun j hj => pl_ok ha hok hit hfn hj
  have HPV : Hid (∀ j, j < np ts[a].1 vs[q].n → ∃ y y', vit (ve ts vs f) (pl ts f a ts[a].1 vs[q].n) (q + 1) j = some y ∧ ve ts vs f (pl ts f a ts[a].1 vs[q].n j) y = some y') := fun j hj => by
    obtain ⟨y, hy⟩ := vit_part hv (show j ≤ np ts[a].1 vs[q].n by omega)
    obtain ⟨y', hy'⟩ := vit_part hv (show j + 1 ≤ np ts[a].1 vs[q].n by omega)
    rw [vit_succ, hy] at hy'
    exact ⟨y, y', hy, hy'⟩
  have HV : Hid (vit (ve ts vs f) (pl ts f a ts[a].1 vs[q].n) (q + 1) (np ts[a].1 vs[q].n) = some q') := hv
  have HPN : Hid (∀ w', Below w.heap.size w w' → Calls Tryz.prog 42 #[vt, .int .i64 a, .agg #[.int .i64 vs[q].k, .int .u64 vs[q].n, .string vs[q].s]] w' fun e w'' => PlPost ts f a ts[a].1 vs[q].n w' e w'') := fun w' hb => l3Plan_any ts f a e0 vs[q] vt w' hf7 ((hT.below hb).up hb.size) ha hok hit hfn
  have HP : Hid (∀ a q q' e0 w', en ts f a = some e0 → ve ts vs f a q = some q' → Below w.heap.size w w' → Calls Tryz.prog 27 #[vt, .int .i64 a, vv, .int .i64 q, .bool true] w' fun e w'' => e = .returned (.tuple #[.string ⟨(scE cb_bc ts vs f a q).toArray⟩, .int .i64 q']) ∧ Below w'.heap.size w' w'') := fun a q q' e0 w' he hve hb => hp a q q' e0 vt vv w' hf7 he hve ((hT.below hb).up hb.size) ((hI.below hb).up hb.size)
  obtain ⟨b, o, C, hI, hF⟩ := hI
  have hvv := hF.at (by omega)
  rw [Nat.sub_zero, Nat.sub_zero, Nat.zero_mul, Nat.add_zero] at hvv
  have hsm := hI.small
  have hst := hT.small
  have hbB : b < w.heap.size := hI.low.resolve_left (by omega)
  obtain ⟨i0, i1, i2⟩ := hI.cells q hq
  obtain ⟨wk, wn, ws⟩ := hI.wf vs[q] (List.getElem_mem hq)
  have HLT : Hid (∀ j x, vit (ve ts vs f) (pl ts f a ts[a].1 vs[q].n) (q + 1) j = some x → x ≤ vs.length) := fun j x h => (vit_lt (by omega) h).2
  have hss : ∀ x ∈ vs, x.s.size ≤ 1048577 := fun x h => (hI.wf x h).2.2
  have HSL : Hid (∀ a q e0 q', en ts f a = some e0 → ve ts vs f a q = some q' → (scE cb_bc ts vs f a q).length ≤ 1000000000) := fun a q e0 q' he hv => scE_le cb_len_bc hss hl he hv
  have HOL : Hid ((own cb_bc ts[a].2 vs[q]).length ≤ 1048590) := own_len cb_len_bc hok hvk ws
  have HCL : Hid (∀ j x, j ≤ np ts[a].1 vs[q].n → vit (ve ts vs f) (pl ts f a ts[a].1 vs[q].n) (q + 1) j = some x → (cat (scE cb_bc ts vs f) (ve ts vs f) (pl ts f a ts[a].1 vs[q].n) (q + 1) j).length ≤ 1000000000) := fun j x hj hx => by
    have h1 := cat_len cb_len_bc hss (k := ts[a].1) (n := ts[a].2) ha rfl hok hit hfn (q := q) j x hj hx
    have h2 := (vit_lt (by omega) hx).2
    have h3 : x * 1048590 ≤ 200 * 1048590 := Nat.mul_le_mul_right _ (by omega)
    omega
  obtain ⟨b', o', cap', hv', hb', h1, h2, c0, c1⟩ := hT.at ha
  obtain ⟨cc, hcc⟩ : ∃ cc, cat (scE cb_bc ts vs f) (ve ts vs f) (pl ts f a ts[a].1 vs[q].n) (q + 1) = cc := ⟨_, rfl⟩
  have HCS : Hid (∀ j x, vit (ve ts vs f) (pl ts f a ts[a].1 vs[q].n) (q + 1) j = some x → cc (j + 1) = cc j ++ scE cb_bc ts vs f (pl ts f a ts[a].1 vs[q].n j) x) := fun j x h => by rw [← hcc]; exact cat_succ h
  have HC0 : Hid (cc 0 = []) := by show _ = _; rw [← hcc]; rfl
  rw [hcc] at HCL ⊢
  obtain ⟨OW, hOW⟩ : ∃ OW, own cb_bc ts[a].2 vs[q] = OW := ⟨_, rfl⟩
  have HOE : Hid (OW = leL vs[q].n 1) := by show _ = _; rw [← hOW, own_num hvk (by omega), hk]; rfl
  rw [hOW] at HOL ⊢
  generalize ts[a].1 = k at *
  generalize ts[a].2 = n at *
  generalize vs[q] = it at *
  obtain ⟨ik, im, is⟩ := it
  simp only at i0 i1 i2 hnp HPL HPN HLT HPV HV HCL HCS hvk hk HOE wn ws
  subst hvk
  have hr := hI.room
  have hm := hI.most
  unfold maxLen at h2 hm
  subst hvv hv'
  have hql : q ≤ 200 := by omega
  clear hI hF hT hfi hfi' wk hp hit hfn hv hss hcc hOW
  subst hk
  have HL : Hid (∀ w, Calls Tryz.prog 48 #[.int .u64 im, .int .i64 1] w fun e w' => e = .returned (.string ⟨(leL im 1).toArray⟩) ∧ Below w.heap.size w w') := fun w => l1Le_any im 1 w wn (by omega)
  go_enter Tryz.func27, Tryz.ntmps27
  go_wp2_with fail
  refine (HL.out _).mono ?_
  rintro e w2 ⟨rfl, hb2⟩
  have hB2 : Below w.heap.size w w2 := (bel1 _ _).trans (hb2.mono (by simp))
  have HB2 : Hid (Below w.heap.size w w2) := hB2
  have x0 : w2.cell? ⟨w.heap.size, 0, none⟩ = some (.int .i64 9) := by rw [hb2.cell (p := ⟨w.heap.size, 0, none⟩) (by simp)]; simp [go_sem]
  have x1 : w2.cell? ⟨w.heap.size, 1, none⟩ = some (.int .u64 im) := by rw [hb2.cell (p := ⟨w.heap.size, 1, none⟩) (by simp)]; simp [go_sem]
  have x2 : w2.cell? ⟨w.heap.size, 2, none⟩ = some (.string is) := by rw [hb2.cell (p := ⟨w.heap.size, 2, none⟩) (by simp)]; simp [go_sem]
  clear hb2 hB2
  obtain ⟨D, hD⟩ : ∃ D : ByteArray, (⟨(leL im 1).toArray⟩ : ByteArray) = D := ⟨_, rfl⟩
  have HD : Hid (D = ⟨(OW).toArray⟩) := by show _ = _; rw [← hD, HOE.out]
  rw [hD]
  clear hD
  clear HOE
  go_wp2_with fail
  refine (HPN.out _ HB2.out).mono ?_
  rintro e w7 ⟨vp, rfl, hown, hb7⟩
  have HO : Hid (w7.ownsRow _ 2 1 vp (np 9 im) (plRow ts f a 9 im)) := hown
  have HB7 : Hid (Below w.heap.size w w7) := HB2.out.trans (hb7.mono (HB2.out.size))
  obtain ⟨N, hN⟩ : ∃ N, np 9 im = N := ⟨_, rfl⟩
  have HNE : Hid (np 9 im = N) := hN
  have h2' := hown.2
  rw [hN] at h2' hnp HV HCL
  have hgl := hown.lt
  clear hown hN hb7 x0 x1 x2
  rcases h2' with ⟨rfl, hn0⟩ | ⟨g, cp, cur, rfl, hg, _, hcp, hcm, _, _⟩
  · have HE : Hid (D = ⟨(OW ++ cc N).toArray⟩ ∧ q' = q + 1) := by
      have hv0 := HV.out
      rw [hn0] at hv0
      cases hv0
      exact ⟨by rw [HD.out, hn0, HC0.out, List.append_nil], rfl⟩
    clear hgl
    go_wp2_with fail
    go_loopg [3, 13, 15] 0 (fun gk x o i wr => x = .int .i64 ((q + 1 : Nat) : Int) ∧ o = .string D ∧ i = .int .i64 0 ∧ wr = w7)
    case atStart => exact ⟨by go_num, rfl, rfl, rfl⟩
    case round =>
      obtain ⟨rfl, rfl, rfl, rfl⟩ := hrel
      go_wp2_with fail
      go_ret2
      exact ⟨by rw [HNE.out, ← HE.out.1, HE.out.2]; try rfl, HB7.out⟩
  · have hgw : g < w7.heap.size := (hgl g rfl).2
    have HC : Hid (∀ i, i < N → w7.cell? ⟨g, i, none⟩ = some (.int .i64 (pl ts f a 9 im i : Nat))) := fun i hi => by
      have ho := HO.out
      rw [← HNE.out] at ho hi
      exact row_at ho hi
    clear hgl
    unfold maxLen at hcm
    go_wp2_with fail
    go_loopg [3, 13, 15] N (fun gk x o i wr => ∃ (j y : Nat) (X : ByteArray), j + gk = N ∧ i = .int .i64 j ∧ x = .int .i64 y ∧ vit (ve ts vs f) (pl ts f a 9 im) (q + 1) j = some y ∧ o = .string X ∧ X = ⟨(OW ++ cc j).toArray⟩ ∧ Below w7.heap.size w7 wr)
    case atStart => exact ⟨0, q + 1, _, by omega, rfl, by go_num, rfl, rfl, by rw [HD.out, HC0.out, List.append_nil], Below.refl _ _⟩
    case round =>
      obtain ⟨j, y, X, hj', rfl, rfl, hy, rfl, hX, hbel⟩ := hrel
      have HJ : Hid (j + gk = N) := hj'
      have HY : Hid (vit (ve ts vs f) (pl ts f a 9 im) (q + 1) j = some y) := hy
      have HX : Hid (X = ⟨(OW ++ cc j).toArray⟩) := hX
      have hyl : y ≤ vs.length := HLT.out j y hy
      have hj : j ≤ N := by omega
      have hXs : X.size ≤ 1001048590 := by
        rw [hX, ba_size, List.length_append]
        have := HOL.out
        have := HCL.out j y hj hy
        omega
      have HBW : Hid (Below w.heap.size w wr) := HB7.out.trans (hbel.mono HB7.out.size)
      have HBE : Hid (Below w7.heap.size w7 wr) := hbel
      clear hj' hy hX
      by_cases hjm : j < N
      · obtain ⟨e1, he1⟩ := HPL.out j (by rw [HNE.out]; exact hjm)
        obtain ⟨z, y1, hz, hy1⟩ := HPV.out j (by rw [HNE.out]; exact hjm)
        have ez : z = y := by rw [HY.out] at hz; injection hz with hz; exact hz.symm
        subst ez
        have hpl : pl ts f a 9 im j ≤ 1048577 := by have := en_lt he1; omega
        have cj : wr.cell? ⟨g, j, none⟩ = some (.int .i64 (pl ts f a 9 im j : Nat)) := by rw [hbel.cell (p := ⟨g, j, none⟩) hgw]; exact HC.out j hjm
        have HCK := HP.out (pl ts f a 9 im j) z y1 e1 wr he1 hy1 HBW.out
        have HNX : Hid (vit (ve ts vs f) (pl ts f a 9 im) (q + 1) (j + 1) = some y1) := by show _ = _; rw [vit_succ, HY.out]; exact hy1
        have HSX : Hid (cc (j + 1) = cc j ++ scE cb_bc ts vs f (pl ts f a 9 im j) z) := HCS.out j z HY.out
        have hPs : ByteArray.size ⟨(scE cb_bc ts vs f (pl ts f a 9 im j) z).toArray⟩ ≤ 1000000000 := by rw [ba_size]; exact HSL.out _ _ _ _ he1 hy1
        have hyl1 : y1 ≤ vs.length := (ve_lt hy1).2
        have HXP : Hid (X ++ ⟨(scE cb_bc ts vs f (pl ts f a 9 im j) z).toArray⟩ = ⟨(OW ++ cc (j + 1)).toArray⟩) := by
          show _ = _
          rw [HX.out, HSX.out, cat_list, List.append_assoc]
        clear hbel he1 hy1 hz
        generalize pl ts f a 9 im j = p at cj hpl HCK HSX hPs HXP
        obtain ⟨P, hP⟩ : ∃ P : ByteArray, (⟨(scE cb_bc ts vs f p z).toArray⟩ : ByteArray) = P := ⟨_, rfl⟩
        rw [hP] at hPs HCK HXP
        have HK : Hid (Calls Tryz.prog 27 #[.slice (some ⟨b', o', none⟩) ts.length cap', .int .i64 p, .slice (some ⟨b, o, none⟩) vs.length C, .int .i64 z, .bool true] wr fun e w' => e = .returned (.tuple #[.string P, .int .i64 y1]) ∧ Below wr.heap.size wr w') := HCK
        have hXP2 : ¬ (9223372036854775807 < X.size + P.size) := by omega
        clear HCK hP HSX
        go_wp2_with fail
        refine Calls.mono HK.out ?_
        rintro e w8 ⟨rfl, hb8⟩
        have HB8 : Hid (Below w7.heap.size w7 w8) := HBE.out.trans (hb8.mono HBE.out.size)
        clear hb8 cj
        go_wp2_with fail
        go_roundg (gk - 1)
        case rel => exact ⟨j + 1, y1, _, by have := HJ.out; omega, by go_num, rfl, HNX.out, rfl, HXP.out, HB8.out⟩
        case measure => have := HJ.out; omega
      · have ej : j = N := by omega
        subst ej
        have HE : Hid (X = ⟨(OW ++ cc j).toArray⟩ ∧ q' = y) := ⟨HX.out, by have h1 := HV.out; rw [HY.out] at h1; injection h1 with h1; exact h1.symm⟩
        clear hbel
        go_wp2_with fail
        go_ret2
        exact ⟨by rw [HNE.out, ← HE.out.1, HE.out.2]; try rfl, HBW.out⟩
set_option maxRecDepth 100000 in
set_option maxHeartbeats 8000000 in
theorem b6_3 (ts : List (Int × Int)) (vs : List It) (hl : vs.length ≤ 200) (f : Nat) (hp : B6Hyp ts vs f) (a q q' e0 : Nat) (vt vv : Value) (w : World) (hf7 : f ≤ 7) (hT : IsTyps w.heap.size w vt ts) (hI : IsItems w.heap.size w vv vs) (ha : a < ts.length) (hq : q < vs.length) (hok : tyOk ts[a].1 ts[a].2 = true) (hit : iter (en ts f) (a + 1) (kids ts[a].1 ts[a].2) = some e0) (hfi : fitsI ts[a].1 ts[a].2 vs[q] = true)
    (hv : vit (ve ts vs f) (pl ts f a ts[a].1 vs[q].n) (q + 1) (np ts[a].1 vs[q].n) = some q') (hk : ts[a].1 = 3) :
    Calls Tryz.prog 27 #[vt, .int .i64 a, vv, .int .i64 q, .bool true] w fun e w' => e = .returned (.tuple #[.string ⟨(own cb_bc ts[a].2 vs[q] ++ cat (scE cb_bc ts vs f) (ve ts vs f) (pl ts f a ts[a].1 vs[q].n) (q + 1) (np ts[a].1 vs[q].n)).toArray⟩, .int .i64 q']) ∧ Below w.heap.size w w' := by
  have hfi' : vs[q].k = ts[a].1 ∧ fitsN ts[a].1 ts[a].2 vs[q].n = true ∧ fitsS ts[a].1 ts[a].2 vs[q].s.size = true := by simpa [fitsI] using hfi
  have hfn := hfi'.2.1
  have hvk := hfi'.1
  have hnp : np ts[a].1 vs[q].n ≤ 20 := np_le hok hfn
  have HPL : Hid (∀ j, j < np ts[a].1 vs[q].n → ∃ e', en ts f (pl ts f a ts[a].1 vs[q].n j) = some e') := fun j hj => pl_ok ha hok hit hfn hj
  have HPV : Hid (∀ j, j < np ts[a].1 vs[q].n → ∃ y y', vit (ve ts vs f) (pl ts f a ts[a].1 vs[q].n) (q + 1) j = some y ∧ ve ts vs f (pl ts f a ts[a].1 vs[q].n j) y = some y') := fun j hj => by
    obtain ⟨y, hy⟩ := vit_part hv (show j ≤ np ts[a].1 vs[q].n by omega)
    obtain ⟨y', hy'⟩ := vit_part hv (show j + 1 ≤ np ts[a].1 vs[q].n by omega)
    rw [vit_succ, hy] at hy'
    exact ⟨y, y', hy, hy'⟩
  have HV : Hid (vit (ve ts vs f) (pl ts f a ts[a].1 vs[q].n) (q + 1) (np ts[a].1 vs[q].n) = some q') := hv
  have HPN : Hid (∀ w', Below w.heap.size w w' → Calls Tryz.prog 42 #[vt, .int .i64 a, .agg #[.int .i64 vs[q].k, .int .u64 vs[q].n, .string vs[q].s]] w' fun e w'' => PlPost ts f a ts[a].1 vs[q].n w' e w'') := fun w' hb => l3Plan_any ts f a e0 vs[q] vt w' hf7 ((hT.below hb).up hb.size) ha hok hit hfn
  have HP : Hid (∀ a q q' e0 w', en ts f a = some e0 → ve ts vs f a q = some q' → Below w.heap.size w w' → Calls Tryz.prog 27 #[vt, .int .i64 a, vv, .int .i64 q, .bool true] w' fun e w'' => e = .returned (.tuple #[.string ⟨(scE cb_bc ts vs f a q).toArray⟩, .int .i64 q']) ∧ Below w'.heap.size w' w'') := fun a q q' e0 w' he hve hb => hp a q q' e0 vt vv w' hf7 he hve ((hT.below hb).up hb.size) ((hI.below hb).up hb.size)
  obtain ⟨b, o, C, hI, hF⟩ := hI
  have hvv := hF.at (by omega)
  rw [Nat.sub_zero, Nat.sub_zero, Nat.zero_mul, Nat.add_zero] at hvv
  have hsm := hI.small
  have hst := hT.small
  have hbB : b < w.heap.size := hI.low.resolve_left (by omega)
  obtain ⟨i0, i1, i2⟩ := hI.cells q hq
  obtain ⟨wk, wn, ws⟩ := hI.wf vs[q] (List.getElem_mem hq)
  have HLT : Hid (∀ j x, vit (ve ts vs f) (pl ts f a ts[a].1 vs[q].n) (q + 1) j = some x → x ≤ vs.length) := fun j x h => (vit_lt (by omega) h).2
  have hss : ∀ x ∈ vs, x.s.size ≤ 1048577 := fun x h => (hI.wf x h).2.2
  have HSL : Hid (∀ a q e0 q', en ts f a = some e0 → ve ts vs f a q = some q' → (scE cb_bc ts vs f a q).length ≤ 1000000000) := fun a q e0 q' he hv => scE_le cb_len_bc hss hl he hv
  have HOL : Hid ((own cb_bc ts[a].2 vs[q]).length ≤ 1048590) := own_len cb_len_bc hok hvk ws
  have HCL : Hid (∀ j x, j ≤ np ts[a].1 vs[q].n → vit (ve ts vs f) (pl ts f a ts[a].1 vs[q].n) (q + 1) j = some x → (cat (scE cb_bc ts vs f) (ve ts vs f) (pl ts f a ts[a].1 vs[q].n) (q + 1) j).length ≤ 1000000000) := fun j x hj hx => by
    have h1 := cat_len cb_len_bc hss (k := ts[a].1) (n := ts[a].2) ha rfl hok hit hfn (q := q) j x hj hx
    have h2 := (vit_lt (by omega) hx).2
    have h3 : x * 1048590 ≤ 200 * 1048590 := Nat.mul_le_mul_right _ (by omega)
    omega
  obtain ⟨b', o', cap', hv', hb', h1, h2, c0, c1⟩ := hT.at ha
  obtain ⟨cc, hcc⟩ : ∃ cc, cat (scE cb_bc ts vs f) (ve ts vs f) (pl ts f a ts[a].1 vs[q].n) (q + 1) = cc := ⟨_, rfl⟩
  have HCS : Hid (∀ j x, vit (ve ts vs f) (pl ts f a ts[a].1 vs[q].n) (q + 1) j = some x → cc (j + 1) = cc j ++ scE cb_bc ts vs f (pl ts f a ts[a].1 vs[q].n j) x) := fun j x h => by rw [← hcc]; exact cat_succ h
  have HC0 : Hid (cc 0 = []) := by show _ = _; rw [← hcc]; rfl
  rw [hcc] at HCL ⊢
  obtain ⟨OW, hOW⟩ : ∃ OW, own cb_bc ts[a].2 vs[q] = OW := ⟨_, rfl⟩
  have HOE : Hid (OW = cb_bc vs[q].s.size ++ vs[q].s.data.toList) := by show _ = _; rw [← hOW, own_bytes hvk (by omega), hk]; rfl
  rw [hOW] at HOL ⊢
  generalize ts[a].1 = k at *
  generalize ts[a].2 = n at *
  generalize vs[q] = it at *
  obtain ⟨ik, im, is⟩ := it
  simp only at i0 i1 i2 hnp HPL HPN HLT HPV HV HCL HCS hvk hk HOE wn ws
  subst hvk
  have hr := hI.room
  have hm := hI.most
  unfold maxLen at h2 hm
  subst hvv hv'
  have hql : q ≤ 200 := by omega
  clear hI hF hT hfi hfi' wk hp hit hfn hv hss hcc hOW
  subst hk
  have HL : Hid (∀ w, Calls Tryz.prog 49 #[.int .u64 is.size, .bool true] w fun e w' => e = .returned (.string ⟨(cb_bc is.size).toArray⟩) ∧ Below w.heap.size w w') := fun w => l6CountB_any is.size w (by omega)
  have hcs : ByteArray.size ⟨(cb_bc is.size).toArray⟩ ≤ 9 := by rw [ba_size]; exact cb_len_bc _
  obtain ⟨X, hX⟩ : ∃ X : ByteArray, (⟨(cb_bc is.size).toArray⟩ : ByteArray) = X := ⟨_, rfl⟩
  have HXE : Hid (X ++ is = ⟨(OW).toArray⟩) := by
    show _ = _
    rw [← hX, HOE.out]
    obtain ⟨⟨l⟩⟩ := is
    exact cat_list _ _
  rw [hX] at HL hcs
  have hD2 : ¬ (9223372036854775807 < X.size + is.size) := by omega
  clear hX
  have r0 := cells_re3 (cell_1 c0 hb' (.cells #[.int .i64 3, .int .u64 (im : Int), .string is] 64))
  have r1 := cells_re3 (cell_1 c1 hb' (.cells #[.int .i64 3, .int .u64 (im : Int), .string is] 64))
  have s0 := cells_re3 (w := (w.alloc (.cells #[.int .i64 3, .int .u64 (im : Int), .string is] 64))) (a := ⟨w.heap.size, 0, none⟩) (v := .int .i64 3) (by simp [go_sem])
  have s1 := cells_re3 (w := (w.alloc (.cells #[.int .i64 3, .int .u64 (im : Int), .string is] 64))) (a := ⟨w.heap.size, 1, none⟩) (v := .int .u64 (im : Int)) (by simp [go_sem])
  have s2 := cells_re3 (w := (w.alloc (.cells #[.int .i64 3, .int .u64 (im : Int), .string is] 64))) (a := ⟨w.heap.size, 2, none⟩) (v := .string is) (by simp [go_sem])
  go_enter Tryz.func27, Tryz.ntmps27
  go_wp2_with fail
  refine wp_region_quiet_below (by kernel_rfl) (by kernel_rfl) ?_
  repeat (go_big_quiet_step (exact Calls.regrown_of (HL.out _)))
  refine wpQuiet_nil ?_
  intro w2 hw'
  obtain ⟨⟨dq, osq⟩, hw''⟩ := hw'
  have hb2 : Below w.heap.size w w2 := by rw [hw'']; exact (bel1 _ _).trans ((below_regrown _ dq osq).mono (by simp))
  have HB2 : Hid (Below w.heap.size w w2) := hb2
  have x0 : w2.cell? ⟨w.heap.size, 0, none⟩ = some (.int .i64 3) := by rw [hw'']; exact s0 _ _
  have x1 : w2.cell? ⟨w.heap.size, 1, none⟩ = some (.int .u64 im) := by rw [hw'']; exact s1 _ _
  have x2 : w2.cell? ⟨w.heap.size, 2, none⟩ = some (.string is) := by rw [hw'']; exact s2 _ _
  clear hw'' r0 r1 s0 s1 s2 hb2
  obtain ⟨D, hD⟩ : ∃ D : ByteArray, X ++ is = D := ⟨_, rfl⟩
  have HD : Hid (D = ⟨(OW).toArray⟩) := by show _ = _; rw [← hD, HXE.out]
  rw [hD]
  clear hD hD2 hcs
  clear HOE
  go_wp2_with fail
  refine (HPN.out _ HB2.out).mono ?_
  rintro e w7 ⟨vp, rfl, hown, hb7⟩
  have HO : Hid (w7.ownsRow _ 2 1 vp (np 3 im) (plRow ts f a 3 im)) := hown
  have HB7 : Hid (Below w.heap.size w w7) := HB2.out.trans (hb7.mono (HB2.out.size))
  obtain ⟨N, hN⟩ : ∃ N, np 3 im = N := ⟨_, rfl⟩
  have HNE : Hid (np 3 im = N) := hN
  have h2' := hown.2
  rw [hN] at h2' hnp HV HCL
  have hgl := hown.lt
  clear hown hN hb7 x0 x1 x2
  rcases h2' with ⟨rfl, hn0⟩ | ⟨g, cp, cur, rfl, hg, _, hcp, hcm, _, _⟩
  · have HE : Hid (D = ⟨(OW ++ cc N).toArray⟩ ∧ q' = q + 1) := by
      have hv0 := HV.out
      rw [hn0] at hv0
      cases hv0
      exact ⟨by rw [HD.out, hn0, HC0.out, List.append_nil], rfl⟩
    clear hgl
    go_wp2_with fail
    go_loopg [3, 13, 15] 0 (fun gk x o i wr => x = .int .i64 ((q + 1 : Nat) : Int) ∧ o = .string D ∧ i = .int .i64 0 ∧ wr = w7)
    case atStart => exact ⟨by go_num, rfl, rfl, rfl⟩
    case round =>
      obtain ⟨rfl, rfl, rfl, rfl⟩ := hrel
      go_wp2_with fail
      go_ret2
      exact ⟨by rw [HNE.out, ← HE.out.1, HE.out.2]; try rfl, HB7.out⟩
  · have hgw : g < w7.heap.size := (hgl g rfl).2
    have HC : Hid (∀ i, i < N → w7.cell? ⟨g, i, none⟩ = some (.int .i64 (pl ts f a 3 im i : Nat))) := fun i hi => by
      have ho := HO.out
      rw [← HNE.out] at ho hi
      exact row_at ho hi
    clear hgl
    unfold maxLen at hcm
    go_wp2_with fail
    go_loopg [3, 13, 15] N (fun gk x o i wr => ∃ (j y : Nat) (X : ByteArray), j + gk = N ∧ i = .int .i64 j ∧ x = .int .i64 y ∧ vit (ve ts vs f) (pl ts f a 3 im) (q + 1) j = some y ∧ o = .string X ∧ X = ⟨(OW ++ cc j).toArray⟩ ∧ Below w7.heap.size w7 wr)
    case atStart => exact ⟨0, q + 1, _, by omega, rfl, by go_num, rfl, rfl, by rw [HD.out, HC0.out, List.append_nil], Below.refl _ _⟩
    case round =>
      obtain ⟨j, y, X, hj', rfl, rfl, hy, rfl, hX, hbel⟩ := hrel
      have HJ : Hid (j + gk = N) := hj'
      have HY : Hid (vit (ve ts vs f) (pl ts f a 3 im) (q + 1) j = some y) := hy
      have HX : Hid (X = ⟨(OW ++ cc j).toArray⟩) := hX
      have hyl : y ≤ vs.length := HLT.out j y hy
      have hj : j ≤ N := by omega
      have hXs : X.size ≤ 1001048590 := by
        rw [hX, ba_size, List.length_append]
        have := HOL.out
        have := HCL.out j y hj hy
        omega
      have HBW : Hid (Below w.heap.size w wr) := HB7.out.trans (hbel.mono HB7.out.size)
      have HBE : Hid (Below w7.heap.size w7 wr) := hbel
      clear hj' hy hX
      by_cases hjm : j < N
      · obtain ⟨e1, he1⟩ := HPL.out j (by rw [HNE.out]; exact hjm)
        obtain ⟨z, y1, hz, hy1⟩ := HPV.out j (by rw [HNE.out]; exact hjm)
        have ez : z = y := by rw [HY.out] at hz; injection hz with hz; exact hz.symm
        subst ez
        have hpl : pl ts f a 3 im j ≤ 1048577 := by have := en_lt he1; omega
        have cj : wr.cell? ⟨g, j, none⟩ = some (.int .i64 (pl ts f a 3 im j : Nat)) := by rw [hbel.cell (p := ⟨g, j, none⟩) hgw]; exact HC.out j hjm
        have HCK := HP.out (pl ts f a 3 im j) z y1 e1 wr he1 hy1 HBW.out
        have HNX : Hid (vit (ve ts vs f) (pl ts f a 3 im) (q + 1) (j + 1) = some y1) := by show _ = _; rw [vit_succ, HY.out]; exact hy1
        have HSX : Hid (cc (j + 1) = cc j ++ scE cb_bc ts vs f (pl ts f a 3 im j) z) := HCS.out j z HY.out
        have hPs : ByteArray.size ⟨(scE cb_bc ts vs f (pl ts f a 3 im j) z).toArray⟩ ≤ 1000000000 := by rw [ba_size]; exact HSL.out _ _ _ _ he1 hy1
        have hyl1 : y1 ≤ vs.length := (ve_lt hy1).2
        have HXP : Hid (X ++ ⟨(scE cb_bc ts vs f (pl ts f a 3 im j) z).toArray⟩ = ⟨(OW ++ cc (j + 1)).toArray⟩) := by
          show _ = _
          rw [HX.out, HSX.out, cat_list, List.append_assoc]
        clear hbel he1 hy1 hz
        generalize pl ts f a 3 im j = p at cj hpl HCK HSX hPs HXP
        obtain ⟨P, hP⟩ : ∃ P : ByteArray, (⟨(scE cb_bc ts vs f p z).toArray⟩ : ByteArray) = P := ⟨_, rfl⟩
        rw [hP] at hPs HCK HXP
        have HK : Hid (Calls Tryz.prog 27 #[.slice (some ⟨b', o', none⟩) ts.length cap', .int .i64 p, .slice (some ⟨b, o, none⟩) vs.length C, .int .i64 z, .bool true] wr fun e w' => e = .returned (.tuple #[.string P, .int .i64 y1]) ∧ Below wr.heap.size wr w') := HCK
        have hXP2 : ¬ (9223372036854775807 < X.size + P.size) := by omega
        clear HCK hP HSX
        go_wp2_with fail
        refine Calls.mono HK.out ?_
        rintro e w8 ⟨rfl, hb8⟩
        have HB8 : Hid (Below w7.heap.size w7 w8) := HBE.out.trans (hb8.mono HBE.out.size)
        clear hb8 cj
        go_wp2_with fail
        go_roundg (gk - 1)
        case rel => exact ⟨j + 1, y1, _, by have := HJ.out; omega, by go_num, rfl, HNX.out, rfl, HXP.out, HB8.out⟩
        case measure => have := HJ.out; omega
      · have ej : j = N := by omega
        subst ej
        have HE : Hid (X = ⟨(OW ++ cc j).toArray⟩ ∧ q' = y) := ⟨HX.out, by have h1 := HV.out; rw [HY.out] at h1; injection h1 with h1; exact h1.symm⟩
        clear hbel
        go_wp2_with fail
        go_ret2
        exact ⟨by rw [HNE.out, ← HE.out.1, HE.out.2]; try rfl, HBW.out⟩
set_option maxRecDepth 100000 in
set_option maxHeartbeats 8000000 in
theorem b6_4 (ts : List (Int × Int)) (vs : List It) (hl : vs.length ≤ 200) (f : Nat) (hp : B6Hyp ts vs f) (a q q' e0 : Nat) (vt vv : Value) (w : World) (hf7 : f ≤ 7) (hT : IsTyps w.heap.size w vt ts) (hI : IsItems w.heap.size w vv vs) (ha : a < ts.length) (hq : q < vs.length) (hok : tyOk ts[a].1 ts[a].2 = true) (hit : iter (en ts f) (a + 1) (kids ts[a].1 ts[a].2) = some e0) (hfi : fitsI ts[a].1 ts[a].2 vs[q] = true)
    (hv : vit (ve ts vs f) (pl ts f a ts[a].1 vs[q].n) (q + 1) (np ts[a].1 vs[q].n) = some q') (hk : ts[a].1 = 4) :
    Calls Tryz.prog 27 #[vt, .int .i64 a, vv, .int .i64 q, .bool true] w fun e w' => e = .returned (.tuple #[.string ⟨(own cb_bc ts[a].2 vs[q] ++ cat (scE cb_bc ts vs f) (ve ts vs f) (pl ts f a ts[a].1 vs[q].n) (q + 1) (np ts[a].1 vs[q].n)).toArray⟩, .int .i64 q']) ∧ Below w.heap.size w w' := by
  have hfi' : vs[q].k = ts[a].1 ∧ fitsN ts[a].1 ts[a].2 vs[q].n = true ∧ fitsS ts[a].1 ts[a].2 vs[q].s.size = true := by simpa [fitsI] using hfi
  have hfn := hfi'.2.1
  have hvk := hfi'.1
  have hnp : np ts[a].1 vs[q].n ≤ 20 := np_le hok hfn
  have HPL : Hid (∀ j, j < np ts[a].1 vs[q].n → ∃ e', en ts f (pl ts f a ts[a].1 vs[q].n j) = some e') := fun j hj => pl_ok ha hok hit hfn hj
  have HPV : Hid (∀ j, j < np ts[a].1 vs[q].n → ∃ y y', vit (ve ts vs f) (pl ts f a ts[a].1 vs[q].n) (q + 1) j = some y ∧ ve ts vs f (pl ts f a ts[a].1 vs[q].n j) y = some y') := fun j hj => by
    obtain ⟨y, hy⟩ := vit_part hv (show j ≤ np ts[a].1 vs[q].n by omega)
    obtain ⟨y', hy'⟩ := vit_part hv (show j + 1 ≤ np ts[a].1 vs[q].n by omega)
    rw [vit_succ, hy] at hy'
    exact ⟨y, y', hy, hy'⟩
  have HV : Hid (vit (ve ts vs f) (pl ts f a ts[a].1 vs[q].n) (q + 1) (np ts[a].1 vs[q].n) = some q') := hv
  have HPN : Hid (∀ w', Below w.heap.size w w' → Calls Tryz.prog 42 #[vt, .int .i64 a, .agg #[.int .i64 vs[q].k, .int .u64 vs[q].n, .string vs[q].s]] w' fun e w'' => PlPost ts f a ts[a].1 vs[q].n w' e w'') := fun w' hb => l3Plan_any ts f a e0 vs[q] vt w' hf7 ((hT.below hb).up hb.size) ha hok hit hfn
  have HP : Hid (∀ a q q' e0 w', en ts f a = some e0 → ve ts vs f a q = some q' → Below w.heap.size w w' → Calls Tryz.prog 27 #[vt, .int .i64 a, vv, .int .i64 q, .bool true] w' fun e w'' => e = .returned (.tuple #[.string ⟨(scE cb_bc ts vs f a q).toArray⟩, .int .i64 q']) ∧ Below w'.heap.size w' w'') := fun a q q' e0 w' he hve hb => hp a q q' e0 vt vv w' hf7 he hve ((hT.below hb).up hb.size) ((hI.below hb).up hb.size)
  obtain ⟨b, o, C, hI, hF⟩ := hI
  have hvv := hF.at (by omega)
  rw [Nat.sub_zero, Nat.sub_zero, Nat.zero_mul, Nat.add_zero] at hvv
  have hsm := hI.small
  have hst := hT.small
  have hbB : b < w.heap.size := hI.low.resolve_left (by omega)
  obtain ⟨i0, i1, i2⟩ := hI.cells q hq
  obtain ⟨wk, wn, ws⟩ := hI.wf vs[q] (List.getElem_mem hq)
  have HLT : Hid (∀ j x, vit (ve ts vs f) (pl ts f a ts[a].1 vs[q].n) (q + 1) j = some x → x ≤ vs.length) := fun j x h => (vit_lt (by omega) h).2
  have hss : ∀ x ∈ vs, x.s.size ≤ 1048577 := fun x h => (hI.wf x h).2.2
  have HSL : Hid (∀ a q e0 q', en ts f a = some e0 → ve ts vs f a q = some q' → (scE cb_bc ts vs f a q).length ≤ 1000000000) := fun a q e0 q' he hv => scE_le cb_len_bc hss hl he hv
  have HOL : Hid ((own cb_bc ts[a].2 vs[q]).length ≤ 1048590) := own_len cb_len_bc hok hvk ws
  have HCL : Hid (∀ j x, j ≤ np ts[a].1 vs[q].n → vit (ve ts vs f) (pl ts f a ts[a].1 vs[q].n) (q + 1) j = some x → (cat (scE cb_bc ts vs f) (ve ts vs f) (pl ts f a ts[a].1 vs[q].n) (q + 1) j).length ≤ 1000000000) := fun j x hj hx => by
    have h1 := cat_len cb_len_bc hss (k := ts[a].1) (n := ts[a].2) ha rfl hok hit hfn (q := q) j x hj hx
    have h2 := (vit_lt (by omega) hx).2
    have h3 : x * 1048590 ≤ 200 * 1048590 := Nat.mul_le_mul_right _ (by omega)
    omega
  obtain ⟨b', o', cap', hv', hb', h1, h2, c0, c1⟩ := hT.at ha
  obtain ⟨cc, hcc⟩ : ∃ cc, cat (scE cb_bc ts vs f) (ve ts vs f) (pl ts f a ts[a].1 vs[q].n) (q + 1) = cc := ⟨_, rfl⟩
  have HCS : Hid (∀ j x, vit (ve ts vs f) (pl ts f a ts[a].1 vs[q].n) (q + 1) j = some x → cc (j + 1) = cc j ++ scE cb_bc ts vs f (pl ts f a ts[a].1 vs[q].n j) x) := fun j x h => by rw [← hcc]; exact cat_succ h
  have HC0 : Hid (cc 0 = []) := by show _ = _; rw [← hcc]; rfl
  rw [hcc] at HCL ⊢
  obtain ⟨OW, hOW⟩ : ∃ OW, own cb_bc ts[a].2 vs[q] = OW := ⟨_, rfl⟩
  have HOE : Hid (OW = vs[q].s.data.toList) := by show _ = _; rw [← hOW, own_bytes hvk (by omega), hk]; rfl
  rw [hOW] at HOL ⊢
  generalize ts[a].1 = k at *
  generalize ts[a].2 = n at *
  generalize vs[q] = it at *
  obtain ⟨ik, im, is⟩ := it
  simp only at i0 i1 i2 hnp HPL HPN HLT HPV HV HCL HCS hvk hk HOE wn ws
  subst hvk
  have hr := hI.room
  have hm := hI.most
  unfold maxLen at h2 hm
  subst hvv hv'
  have hql : q ≤ 200 := by omega
  clear hI hF hT hfi hfi' wk hp hit hfn hv hss hcc hOW
  subst hk
  have HB2 : Hid (Below w.heap.size w (w.alloc (.cells #[.int .i64 4, .int .u64 (im : Int), .string is] 64))) := bel1 _ _
  have HD : Hid (is = ⟨(OW).toArray⟩) := by show _ = _; rw [HOE.out]
  go_enter Tryz.func27, Tryz.ntmps27
  go_wp2_with fail
  clear HOE
  go_wp2_with fail
  refine (HPN.out _ HB2.out).mono ?_
  rintro e w7 ⟨vp, rfl, hown, hb7⟩
  have HO : Hid (w7.ownsRow _ 2 1 vp (np 4 im) (plRow ts f a 4 im)) := hown
  have HB7 : Hid (Below w.heap.size w w7) := HB2.out.trans (hb7.mono (HB2.out.size))
  obtain ⟨N, hN⟩ : ∃ N, np 4 im = N := ⟨_, rfl⟩
  have HNE : Hid (np 4 im = N) := hN
  have h2' := hown.2
  rw [hN] at h2' hnp HV HCL
  have hgl := hown.lt
  clear hown hN hb7
  rcases h2' with ⟨rfl, hn0⟩ | ⟨g, cp, cur, rfl, hg, _, hcp, hcm, _, _⟩
  · have HE : Hid (is = ⟨(OW ++ cc N).toArray⟩ ∧ q' = q + 1) := by
      have hv0 := HV.out
      rw [hn0] at hv0
      cases hv0
      exact ⟨by rw [HD.out, hn0, HC0.out, List.append_nil], rfl⟩
    clear hgl
    go_wp2_with fail
    go_loopg [3, 13, 15] 0 (fun gk x o i wr => x = .int .i64 ((q + 1 : Nat) : Int) ∧ o = .string is ∧ i = .int .i64 0 ∧ wr = w7)
    case atStart => exact ⟨by go_num, rfl, rfl, rfl⟩
    case round =>
      obtain ⟨rfl, rfl, rfl, rfl⟩ := hrel
      go_wp2_with fail
      go_ret2
      exact ⟨by rw [HNE.out, ← HE.out.1, HE.out.2]; try rfl, HB7.out⟩
  · have hgw : g < w7.heap.size := (hgl g rfl).2
    have HC : Hid (∀ i, i < N → w7.cell? ⟨g, i, none⟩ = some (.int .i64 (pl ts f a 4 im i : Nat))) := fun i hi => by
      have ho := HO.out
      rw [← HNE.out] at ho hi
      exact row_at ho hi
    clear hgl
    unfold maxLen at hcm
    go_wp2_with fail
    go_loopg [3, 13, 15] N (fun gk x o i wr => ∃ (j y : Nat) (X : ByteArray), j + gk = N ∧ i = .int .i64 j ∧ x = .int .i64 y ∧ vit (ve ts vs f) (pl ts f a 4 im) (q + 1) j = some y ∧ o = .string X ∧ X = ⟨(OW ++ cc j).toArray⟩ ∧ Below w7.heap.size w7 wr)
    case atStart => exact ⟨0, q + 1, _, by omega, rfl, by go_num, rfl, rfl, by rw [HD.out, HC0.out, List.append_nil], Below.refl _ _⟩
    case round =>
      obtain ⟨j, y, X, hj', rfl, rfl, hy, rfl, hX, hbel⟩ := hrel
      have HJ : Hid (j + gk = N) := hj'
      have HY : Hid (vit (ve ts vs f) (pl ts f a 4 im) (q + 1) j = some y) := hy
      have HX : Hid (X = ⟨(OW ++ cc j).toArray⟩) := hX
      have hyl : y ≤ vs.length := HLT.out j y hy
      have hj : j ≤ N := by omega
      have hXs : X.size ≤ 1001048590 := by
        rw [hX, ba_size, List.length_append]
        have := HOL.out
        have := HCL.out j y hj hy
        omega
      have HBW : Hid (Below w.heap.size w wr) := HB7.out.trans (hbel.mono HB7.out.size)
      have HBE : Hid (Below w7.heap.size w7 wr) := hbel
      clear hj' hy hX
      by_cases hjm : j < N
      · obtain ⟨e1, he1⟩ := HPL.out j (by rw [HNE.out]; exact hjm)
        obtain ⟨z, y1, hz, hy1⟩ := HPV.out j (by rw [HNE.out]; exact hjm)
        have ez : z = y := by rw [HY.out] at hz; injection hz with hz; exact hz.symm
        subst ez
        have hpl : pl ts f a 4 im j ≤ 1048577 := by have := en_lt he1; omega
        have cj : wr.cell? ⟨g, j, none⟩ = some (.int .i64 (pl ts f a 4 im j : Nat)) := by rw [hbel.cell (p := ⟨g, j, none⟩) hgw]; exact HC.out j hjm
        have HCK := HP.out (pl ts f a 4 im j) z y1 e1 wr he1 hy1 HBW.out
        have HNX : Hid (vit (ve ts vs f) (pl ts f a 4 im) (q + 1) (j + 1) = some y1) := by show _ = _; rw [vit_succ, HY.out]; exact hy1
        have HSX : Hid (cc (j + 1) = cc j ++ scE cb_bc ts vs f (pl ts f a 4 im j) z) := HCS.out j z HY.out
        have hPs : ByteArray.size ⟨(scE cb_bc ts vs f (pl ts f a 4 im j) z).toArray⟩ ≤ 1000000000 := by rw [ba_size]; exact HSL.out _ _ _ _ he1 hy1
        have hyl1 : y1 ≤ vs.length := (ve_lt hy1).2
        have HXP : Hid (X ++ ⟨(scE cb_bc ts vs f (pl ts f a 4 im j) z).toArray⟩ = ⟨(OW ++ cc (j + 1)).toArray⟩) := by
          show _ = _
          rw [HX.out, HSX.out, cat_list, List.append_assoc]
        clear hbel he1 hy1 hz
        generalize pl ts f a 4 im j = p at cj hpl HCK HSX hPs HXP
        obtain ⟨P, hP⟩ : ∃ P : ByteArray, (⟨(scE cb_bc ts vs f p z).toArray⟩ : ByteArray) = P := ⟨_, rfl⟩
        rw [hP] at hPs HCK HXP
        have HK : Hid (Calls Tryz.prog 27 #[.slice (some ⟨b', o', none⟩) ts.length cap', .int .i64 p, .slice (some ⟨b, o, none⟩) vs.length C, .int .i64 z, .bool true] wr fun e w' => e = .returned (.tuple #[.string P, .int .i64 y1]) ∧ Below wr.heap.size wr w') := HCK
        have hXP2 : ¬ (9223372036854775807 < X.size + P.size) := by omega
        clear HCK hP HSX
        go_wp2_with fail
        refine Calls.mono HK.out ?_
        rintro e w8 ⟨rfl, hb8⟩
        have HB8 : Hid (Below w7.heap.size w7 w8) := HBE.out.trans (hb8.mono HBE.out.size)
        clear hb8 cj
        go_wp2_with fail
        go_roundg (gk - 1)
        case rel => exact ⟨j + 1, y1, _, by have := HJ.out; omega, by go_num, rfl, HNX.out, rfl, HXP.out, HB8.out⟩
        case measure => have := HJ.out; omega
      · have ej : j = N := by omega
        subst ej
        have HE : Hid (X = ⟨(OW ++ cc j).toArray⟩ ∧ q' = y) := ⟨HX.out, by have h1 := HV.out; rw [HY.out] at h1; injection h1 with h1; exact h1.symm⟩
        clear hbel
        go_wp2_with fail
        go_ret2
        exact ⟨by rw [HNE.out, ← HE.out.1, HE.out.2]; try rfl, HBW.out⟩
set_option maxRecDepth 100000 in
set_option maxHeartbeats 8000000 in
theorem b6_5 (ts : List (Int × Int)) (vs : List It) (hl : vs.length ≤ 200) (f : Nat) (hp : B6Hyp ts vs f) (a q q' e0 : Nat) (vt vv : Value) (w : World) (hf7 : f ≤ 7) (hT : IsTyps w.heap.size w vt ts) (hI : IsItems w.heap.size w vv vs) (ha : a < ts.length) (hq : q < vs.length) (hok : tyOk ts[a].1 ts[a].2 = true) (hit : iter (en ts f) (a + 1) (kids ts[a].1 ts[a].2) = some e0) (hfi : fitsI ts[a].1 ts[a].2 vs[q] = true)
    (hv : vit (ve ts vs f) (pl ts f a ts[a].1 vs[q].n) (q + 1) (np ts[a].1 vs[q].n) = some q') (hk : ts[a].1 = 5) :
    Calls Tryz.prog 27 #[vt, .int .i64 a, vv, .int .i64 q, .bool true] w fun e w' => e = .returned (.tuple #[.string ⟨(own cb_bc ts[a].2 vs[q] ++ cat (scE cb_bc ts vs f) (ve ts vs f) (pl ts f a ts[a].1 vs[q].n) (q + 1) (np ts[a].1 vs[q].n)).toArray⟩, .int .i64 q']) ∧ Below w.heap.size w w' := by
  have hfi' : vs[q].k = ts[a].1 ∧ fitsN ts[a].1 ts[a].2 vs[q].n = true ∧ fitsS ts[a].1 ts[a].2 vs[q].s.size = true := by simpa [fitsI] using hfi
  have hfn := hfi'.2.1
  have hvk := hfi'.1
  have hnp : np ts[a].1 vs[q].n ≤ 20 := np_le hok hfn
  have HPL : Hid (∀ j, j < np ts[a].1 vs[q].n → ∃ e', en ts f (pl ts f a ts[a].1 vs[q].n j) = some e') := fun j hj => pl_ok ha hok hit hfn hj
  have HPV : Hid (∀ j, j < np ts[a].1 vs[q].n → ∃ y y', vit (ve ts vs f) (pl ts f a ts[a].1 vs[q].n) (q + 1) j = some y ∧ ve ts vs f (pl ts f a ts[a].1 vs[q].n j) y = some y') := fun j hj => by
    obtain ⟨y, hy⟩ := vit_part hv (show j ≤ np ts[a].1 vs[q].n by omega)
    obtain ⟨y', hy'⟩ := vit_part hv (show j + 1 ≤ np ts[a].1 vs[q].n by omega)
    rw [vit_succ, hy] at hy'
    exact ⟨y, y', hy, hy'⟩
  have HV : Hid (vit (ve ts vs f) (pl ts f a ts[a].1 vs[q].n) (q + 1) (np ts[a].1 vs[q].n) = some q') := hv
  have HPN : Hid (∀ w', Below w.heap.size w w' → Calls Tryz.prog 42 #[vt, .int .i64 a, .agg #[.int .i64 vs[q].k, .int .u64 vs[q].n, .string vs[q].s]] w' fun e w'' => PlPost ts f a ts[a].1 vs[q].n w' e w'') := fun w' hb => l3Plan_any ts f a e0 vs[q] vt w' hf7 ((hT.below hb).up hb.size) ha hok hit hfn
  have HP : Hid (∀ a q q' e0 w', en ts f a = some e0 → ve ts vs f a q = some q' → Below w.heap.size w w' → Calls Tryz.prog 27 #[vt, .int .i64 a, vv, .int .i64 q, .bool true] w' fun e w'' => e = .returned (.tuple #[.string ⟨(scE cb_bc ts vs f a q).toArray⟩, .int .i64 q']) ∧ Below w'.heap.size w' w'') := fun a q q' e0 w' he hve hb => hp a q q' e0 vt vv w' hf7 he hve ((hT.below hb).up hb.size) ((hI.below hb).up hb.size)
  obtain ⟨b, o, C, hI, hF⟩ := hI
  have hvv := hF.at (by omega)
  rw [Nat.sub_zero, Nat.sub_zero, Nat.zero_mul, Nat.add_zero] at hvv
  have hsm := hI.small
  have hst := hT.small
  have hbB : b < w.heap.size := hI.low.resolve_left (by omega)
  obtain ⟨i0, i1, i2⟩ := hI.cells q hq
  obtain ⟨wk, wn, ws⟩ := hI.wf vs[q] (List.getElem_mem hq)
  have HLT : Hid (∀ j x, vit (ve ts vs f) (pl ts f a ts[a].1 vs[q].n) (q + 1) j = some x → x ≤ vs.length) := fun j x h => (vit_lt (by omega) h).2
  have hss : ∀ x ∈ vs, x.s.size ≤ 1048577 := fun x h => (hI.wf x h).2.2
  have HSL : Hid (∀ a q e0 q', en ts f a = some e0 → ve ts vs f a q = some q' → (scE cb_bc ts vs f a q).length ≤ 1000000000) := fun a q e0 q' he hv => scE_le cb_len_bc hss hl he hv
  have HOL : Hid ((own cb_bc ts[a].2 vs[q]).length ≤ 1048590) := own_len cb_len_bc hok hvk ws
  have HCL : Hid (∀ j x, j ≤ np ts[a].1 vs[q].n → vit (ve ts vs f) (pl ts f a ts[a].1 vs[q].n) (q + 1) j = some x → (cat (scE cb_bc ts vs f) (ve ts vs f) (pl ts f a ts[a].1 vs[q].n) (q + 1) j).length ≤ 1000000000) := fun j x hj hx => by
    have h1 := cat_len cb_len_bc hss (k := ts[a].1) (n := ts[a].2) ha rfl hok hit hfn (q := q) j x hj hx
    have h2 := (vit_lt (by omega) hx).2
    have h3 : x * 1048590 ≤ 200 * 1048590 := Nat.mul_le_mul_right _ (by omega)
    omega
  obtain ⟨b', o', cap', hv', hb', h1, h2, c0, c1⟩ := hT.at ha
  obtain ⟨cc, hcc⟩ : ∃ cc, cat (scE cb_bc ts vs f) (ve ts vs f) (pl ts f a ts[a].1 vs[q].n) (q + 1) = cc := ⟨_, rfl⟩
  have HCS : Hid (∀ j x, vit (ve ts vs f) (pl ts f a ts[a].1 vs[q].n) (q + 1) j = some x → cc (j + 1) = cc j ++ scE cb_bc ts vs f (pl ts f a ts[a].1 vs[q].n j) x) := fun j x h => by rw [← hcc]; exact cat_succ h
  have HC0 : Hid (cc 0 = []) := by show _ = _; rw [← hcc]; rfl
  rw [hcc] at HCL ⊢
  obtain ⟨OW, hOW⟩ : ∃ OW, own cb_bc ts[a].2 vs[q] = OW := ⟨_, rfl⟩
  have HOE : Hid (OW = cb_bc vs[q].n) := by show _ = _; rw [← hOW, own_series hvk (by omega), hk]; rfl
  rw [hOW] at HOL ⊢
  generalize ts[a].1 = k at *
  generalize ts[a].2 = n at *
  generalize vs[q] = it at *
  obtain ⟨ik, im, is⟩ := it
  simp only at i0 i1 i2 hnp HPL HPN HLT HPV HV HCL HCS hvk hk HOE wn ws
  subst hvk
  have hr := hI.room
  have hm := hI.most
  unfold maxLen at h2 hm
  subst hvv hv'
  have hql : q ≤ 200 := by omega
  clear hI hF hT hfi hfi' wk hp hit hfn hv hss hcc hOW
  subst hk
  have HL : Hid (∀ w, Calls Tryz.prog 49 #[.int .u64 im, .bool true] w fun e w' => e = .returned (.string ⟨(cb_bc im).toArray⟩) ∧ Below w.heap.size w w') := fun w => l6CountB_any im w wn
  go_enter Tryz.func27, Tryz.ntmps27
  go_wp2_with fail
  refine (HL.out _).mono ?_
  rintro e w2 ⟨rfl, hb2⟩
  have hB2 : Below w.heap.size w w2 := (bel1 _ _).trans (hb2.mono (by simp))
  have HB2 : Hid (Below w.heap.size w w2) := hB2
  have x0 : w2.cell? ⟨w.heap.size, 0, none⟩ = some (.int .i64 5) := by rw [hb2.cell (p := ⟨w.heap.size, 0, none⟩) (by simp)]; simp [go_sem]
  have x1 : w2.cell? ⟨w.heap.size, 1, none⟩ = some (.int .u64 im) := by rw [hb2.cell (p := ⟨w.heap.size, 1, none⟩) (by simp)]; simp [go_sem]
  have x2 : w2.cell? ⟨w.heap.size, 2, none⟩ = some (.string is) := by rw [hb2.cell (p := ⟨w.heap.size, 2, none⟩) (by simp)]; simp [go_sem]
  clear hb2 hB2
  obtain ⟨D, hD⟩ : ∃ D : ByteArray, (⟨(cb_bc im).toArray⟩ : ByteArray) = D := ⟨_, rfl⟩
  have HD : Hid (D = ⟨(OW).toArray⟩) := by show _ = _; rw [← hD, HOE.out]
  rw [hD]
  clear hD
  clear HOE
  go_wp2_with fail
  refine (HPN.out _ HB2.out).mono ?_
  rintro e w7 ⟨vp, rfl, hown, hb7⟩
  have HO : Hid (w7.ownsRow _ 2 1 vp (np 5 im) (plRow ts f a 5 im)) := hown
  have HB7 : Hid (Below w.heap.size w w7) := HB2.out.trans (hb7.mono (HB2.out.size))
  obtain ⟨N, hN⟩ : ∃ N, np 5 im = N := ⟨_, rfl⟩
  have HNE : Hid (np 5 im = N) := hN
  have h2' := hown.2
  rw [hN] at h2' hnp HV HCL
  have hgl := hown.lt
  clear hown hN hb7 x0 x1 x2
  rcases h2' with ⟨rfl, hn0⟩ | ⟨g, cp, cur, rfl, hg, _, hcp, hcm, _, _⟩
  · have HE : Hid (D = ⟨(OW ++ cc N).toArray⟩ ∧ q' = q + 1) := by
      have hv0 := HV.out
      rw [hn0] at hv0
      cases hv0
      exact ⟨by rw [HD.out, hn0, HC0.out, List.append_nil], rfl⟩
    clear hgl
    go_wp2_with fail
    go_loopg [3, 13, 15] 0 (fun gk x o i wr => x = .int .i64 ((q + 1 : Nat) : Int) ∧ o = .string D ∧ i = .int .i64 0 ∧ wr = w7)
    case atStart => exact ⟨by go_num, rfl, rfl, rfl⟩
    case round =>
      obtain ⟨rfl, rfl, rfl, rfl⟩ := hrel
      go_wp2_with fail
      go_ret2
      exact ⟨by rw [HNE.out, ← HE.out.1, HE.out.2]; try rfl, HB7.out⟩
  · have hgw : g < w7.heap.size := (hgl g rfl).2
    have HC : Hid (∀ i, i < N → w7.cell? ⟨g, i, none⟩ = some (.int .i64 (pl ts f a 5 im i : Nat))) := fun i hi => by
      have ho := HO.out
      rw [← HNE.out] at ho hi
      exact row_at ho hi
    clear hgl
    unfold maxLen at hcm
    go_wp2_with fail
    go_loopg [3, 13, 15] N (fun gk x o i wr => ∃ (j y : Nat) (X : ByteArray), j + gk = N ∧ i = .int .i64 j ∧ x = .int .i64 y ∧ vit (ve ts vs f) (pl ts f a 5 im) (q + 1) j = some y ∧ o = .string X ∧ X = ⟨(OW ++ cc j).toArray⟩ ∧ Below w7.heap.size w7 wr)
    case atStart => exact ⟨0, q + 1, _, by omega, rfl, by go_num, rfl, rfl, by rw [HD.out, HC0.out, List.append_nil], Below.refl _ _⟩
    case round =>
      obtain ⟨j, y, X, hj', rfl, rfl, hy, rfl, hX, hbel⟩ := hrel
      have HJ : Hid (j + gk = N) := hj'
      have HY : Hid (vit (ve ts vs f) (pl ts f a 5 im) (q + 1) j = some y) := hy
      have HX : Hid (X = ⟨(OW ++ cc j).toArray⟩) := hX
      have hyl : y ≤ vs.length := HLT.out j y hy
      have hj : j ≤ N := by omega
      have hXs : X.size ≤ 1001048590 := by
        rw [hX, ba_size, List.length_append]
        have := HOL.out
        have := HCL.out j y hj hy
        omega
      have HBW : Hid (Below w.heap.size w wr) := HB7.out.trans (hbel.mono HB7.out.size)
      have HBE : Hid (Below w7.heap.size w7 wr) := hbel
      clear hj' hy hX
      by_cases hjm : j < N
      · obtain ⟨e1, he1⟩ := HPL.out j (by rw [HNE.out]; exact hjm)
        obtain ⟨z, y1, hz, hy1⟩ := HPV.out j (by rw [HNE.out]; exact hjm)
        have ez : z = y := by rw [HY.out] at hz; injection hz with hz; exact hz.symm
        subst ez
        have hpl : pl ts f a 5 im j ≤ 1048577 := by have := en_lt he1; omega
        have cj : wr.cell? ⟨g, j, none⟩ = some (.int .i64 (pl ts f a 5 im j : Nat)) := by rw [hbel.cell (p := ⟨g, j, none⟩) hgw]; exact HC.out j hjm
        have HCK := HP.out (pl ts f a 5 im j) z y1 e1 wr he1 hy1 HBW.out
        have HNX : Hid (vit (ve ts vs f) (pl ts f a 5 im) (q + 1) (j + 1) = some y1) := by show _ = _; rw [vit_succ, HY.out]; exact hy1
        have HSX : Hid (cc (j + 1) = cc j ++ scE cb_bc ts vs f (pl ts f a 5 im j) z) := HCS.out j z HY.out
        have hPs : ByteArray.size ⟨(scE cb_bc ts vs f (pl ts f a 5 im j) z).toArray⟩ ≤ 1000000000 := by rw [ba_size]; exact HSL.out _ _ _ _ he1 hy1
        have hyl1 : y1 ≤ vs.length := (ve_lt hy1).2
        have HXP : Hid (X ++ ⟨(scE cb_bc ts vs f (pl ts f a 5 im j) z).toArray⟩ = ⟨(OW ++ cc (j + 1)).toArray⟩) := by
          show _ = _
          rw [HX.out, HSX.out, cat_list, List.append_assoc]
        clear hbel he1 hy1 hz
        generalize pl ts f a 5 im j = p at cj hpl HCK HSX hPs HXP
        obtain ⟨P, hP⟩ : ∃ P : ByteArray, (⟨(scE cb_bc ts vs f p z).toArray⟩ : ByteArray) = P := ⟨_, rfl⟩
        rw [hP] at hPs HCK HXP
        have HK : Hid (Calls Tryz.prog 27 #[.slice (some ⟨b', o', none⟩) ts.length cap', .int .i64 p, .slice (some ⟨b, o, none⟩) vs.length C, .int .i64 z, .bool true] wr fun e w' => e = .returned (.tuple #[.string P, .int .i64 y1]) ∧ Below wr.heap.size wr w') := HCK
        have hXP2 : ¬ (9223372036854775807 < X.size + P.size) := by omega
        clear HCK hP HSX
        go_wp2_with fail
        refine Calls.mono HK.out ?_
        rintro e w8 ⟨rfl, hb8⟩
        have HB8 : Hid (Below w7.heap.size w7 w8) := HBE.out.trans (hb8.mono HBE.out.size)
        clear hb8 cj
        go_wp2_with fail
        go_roundg (gk - 1)
        case rel => exact ⟨j + 1, y1, _, by have := HJ.out; omega, by go_num, rfl, HNX.out, rfl, HXP.out, HB8.out⟩
        case measure => have := HJ.out; omega
      · have ej : j = N := by omega
        subst ej
        have HE : Hid (X = ⟨(OW ++ cc j).toArray⟩ ∧ q' = y) := ⟨HX.out, by have h1 := HV.out; rw [HY.out] at h1; injection h1 with h1; exact h1.symm⟩
        clear hbel
        go_wp2_with fail
        go_ret2
        exact ⟨by rw [HNE.out, ← HE.out.1, HE.out.2]; try rfl, HBW.out⟩
set_option maxRecDepth 100000 in
set_option maxHeartbeats 8000000 in
theorem b6_6 (ts : List (Int × Int)) (vs : List It) (hl : vs.length ≤ 200) (f : Nat) (hp : B6Hyp ts vs f) (a q q' e0 : Nat) (vt vv : Value) (w : World) (hf7 : f ≤ 7) (hT : IsTyps w.heap.size w vt ts) (hI : IsItems w.heap.size w vv vs) (ha : a < ts.length) (hq : q < vs.length) (hok : tyOk ts[a].1 ts[a].2 = true) (hit : iter (en ts f) (a + 1) (kids ts[a].1 ts[a].2) = some e0) (hfi : fitsI ts[a].1 ts[a].2 vs[q] = true)
    (hv : vit (ve ts vs f) (pl ts f a ts[a].1 vs[q].n) (q + 1) (np ts[a].1 vs[q].n) = some q') (hk : ts[a].1 = 6) :
    Calls Tryz.prog 27 #[vt, .int .i64 a, vv, .int .i64 q, .bool true] w fun e w' => e = .returned (.tuple #[.string ⟨(own cb_bc ts[a].2 vs[q] ++ cat (scE cb_bc ts vs f) (ve ts vs f) (pl ts f a ts[a].1 vs[q].n) (q + 1) (np ts[a].1 vs[q].n)).toArray⟩, .int .i64 q']) ∧ Below w.heap.size w w' := by
  have hfi' : vs[q].k = ts[a].1 ∧ fitsN ts[a].1 ts[a].2 vs[q].n = true ∧ fitsS ts[a].1 ts[a].2 vs[q].s.size = true := by simpa [fitsI] using hfi
  have hfn := hfi'.2.1
  have hvk := hfi'.1
  have hnp : np ts[a].1 vs[q].n ≤ 20 := np_le hok hfn
  have HPL : Hid (∀ j, j < np ts[a].1 vs[q].n → ∃ e', en ts f (pl ts f a ts[a].1 vs[q].n j) = some e') := fun j hj => pl_ok ha hok hit hfn hj
  have HPV : Hid (∀ j, j < np ts[a].1 vs[q].n → ∃ y y', vit (ve ts vs f) (pl ts f a ts[a].1 vs[q].n) (q + 1) j = some y ∧ ve ts vs f (pl ts f a ts[a].1 vs[q].n j) y = some y') := fun j hj => by
    obtain ⟨y, hy⟩ := vit_part hv (show j ≤ np ts[a].1 vs[q].n by omega)
    obtain ⟨y', hy'⟩ := vit_part hv (show j + 1 ≤ np ts[a].1 vs[q].n by omega)
    rw [vit_succ, hy] at hy'
    exact ⟨y, y', hy, hy'⟩
  have HV : Hid (vit (ve ts vs f) (pl ts f a ts[a].1 vs[q].n) (q + 1) (np ts[a].1 vs[q].n) = some q') := hv
  have HPN : Hid (∀ w', Below w.heap.size w w' → Calls Tryz.prog 42 #[vt, .int .i64 a, .agg #[.int .i64 vs[q].k, .int .u64 vs[q].n, .string vs[q].s]] w' fun e w'' => PlPost ts f a ts[a].1 vs[q].n w' e w'') := fun w' hb => l3Plan_any ts f a e0 vs[q] vt w' hf7 ((hT.below hb).up hb.size) ha hok hit hfn
  have HP : Hid (∀ a q q' e0 w', en ts f a = some e0 → ve ts vs f a q = some q' → Below w.heap.size w w' → Calls Tryz.prog 27 #[vt, .int .i64 a, vv, .int .i64 q, .bool true] w' fun e w'' => e = .returned (.tuple #[.string ⟨(scE cb_bc ts vs f a q).toArray⟩, .int .i64 q']) ∧ Below w'.heap.size w' w'') := fun a q q' e0 w' he hve hb => hp a q q' e0 vt vv w' hf7 he hve ((hT.below hb).up hb.size) ((hI.below hb).up hb.size)
  obtain ⟨b, o, C, hI, hF⟩ := hI
  have hvv := hF.at (by omega)
  rw [Nat.sub_zero, Nat.sub_zero, Nat.zero_mul, Nat.add_zero] at hvv
  have hsm := hI.small
  have hst := hT.small
  have hbB : b < w.heap.size := hI.low.resolve_left (by omega)
  obtain ⟨i0, i1, i2⟩ := hI.cells q hq
  obtain ⟨wk, wn, ws⟩ := hI.wf vs[q] (List.getElem_mem hq)
  have HLT : Hid (∀ j x, vit (ve ts vs f) (pl ts f a ts[a].1 vs[q].n) (q + 1) j = some x → x ≤ vs.length) := fun j x h => (vit_lt (by omega) h).2
  have hss : ∀ x ∈ vs, x.s.size ≤ 1048577 := fun x h => (hI.wf x h).2.2
  have HSL : Hid (∀ a q e0 q', en ts f a = some e0 → ve ts vs f a q = some q' → (scE cb_bc ts vs f a q).length ≤ 1000000000) := fun a q e0 q' he hv => scE_le cb_len_bc hss hl he hv
  have HOL : Hid ((own cb_bc ts[a].2 vs[q]).length ≤ 1048590) := own_len cb_len_bc hok hvk ws
  have HCL : Hid (∀ j x, j ≤ np ts[a].1 vs[q].n → vit (ve ts vs f) (pl ts f a ts[a].1 vs[q].n) (q + 1) j = some x → (cat (scE cb_bc ts vs f) (ve ts vs f) (pl ts f a ts[a].1 vs[q].n) (q + 1) j).length ≤ 1000000000) := fun j x hj hx => by
    have h1 := cat_len cb_len_bc hss (k := ts[a].1) (n := ts[a].2) ha rfl hok hit hfn (q := q) j x hj hx
    have h2 := (vit_lt (by omega) hx).2
    have h3 : x * 1048590 ≤ 200 * 1048590 := Nat.mul_le_mul_right _ (by omega)
    omega
  obtain ⟨b', o', cap', hv', hb', h1, h2, c0, c1⟩ := hT.at ha
  obtain ⟨cc, hcc⟩ : ∃ cc, cat (scE cb_bc ts vs f) (ve ts vs f) (pl ts f a ts[a].1 vs[q].n) (q + 1) = cc := ⟨_, rfl⟩
  have HCS : Hid (∀ j x, vit (ve ts vs f) (pl ts f a ts[a].1 vs[q].n) (q + 1) j = some x → cc (j + 1) = cc j ++ scE cb_bc ts vs f (pl ts f a ts[a].1 vs[q].n j) x) := fun j x h => by rw [← hcc]; exact cat_succ h
  have HC0 : Hid (cc 0 = []) := by show _ = _; rw [← hcc]; rfl
  rw [hcc] at HCL ⊢
  obtain ⟨OW, hOW⟩ : ∃ OW, own cb_bc ts[a].2 vs[q] = OW := ⟨_, rfl⟩
  have HOE : Hid (OW = []) := by show _ = _; rw [← hOW, own_series hvk (by omega), hk]; rfl
  rw [hOW] at HOL ⊢
  generalize ts[a].1 = k at *
  generalize ts[a].2 = n at *
  generalize vs[q] = it at *
  obtain ⟨ik, im, is⟩ := it
  simp only at i0 i1 i2 hnp HPL HPN HLT HPV HV HCL HCS hvk hk HOE wn ws
  subst hvk
  have hr := hI.room
  have hm := hI.most
  unfold maxLen at h2 hm
  subst hvv hv'
  have hql : q ≤ 200 := by omega
  clear hI hF hT hfi hfi' wk hp hit hfn hv hss hcc hOW
  subst hk
  have HB2 : Hid (Below w.heap.size w (w.alloc (.cells #[.int .i64 6, .int .u64 (im : Int), .string is] 64))) := bel1 _ _
  have HD : Hid ((⟨#[]⟩ : ByteArray) = ⟨(OW).toArray⟩) := by show _ = _; rw [HOE.out]
  go_enter Tryz.func27, Tryz.ntmps27
  go_wp2_with fail
  clear HOE
  go_wp2_with fail
  refine (HPN.out _ HB2.out).mono ?_
  rintro e w7 ⟨vp, rfl, hown, hb7⟩
  have HO : Hid (w7.ownsRow _ 2 1 vp (np 6 im) (plRow ts f a 6 im)) := hown
  have HB7 : Hid (Below w.heap.size w w7) := HB2.out.trans (hb7.mono (HB2.out.size))
  obtain ⟨N, hN⟩ : ∃ N, np 6 im = N := ⟨_, rfl⟩
  have HNE : Hid (np 6 im = N) := hN
  have h2' := hown.2
  rw [hN] at h2' hnp HV HCL
  have hgl := hown.lt
  clear hown hN hb7
  rcases h2' with ⟨rfl, hn0⟩ | ⟨g, cp, cur, rfl, hg, _, hcp, hcm, _, _⟩
  · have HE : Hid ((⟨#[]⟩ : ByteArray) = ⟨(OW ++ cc N).toArray⟩ ∧ q' = q + 1) := by
      have hv0 := HV.out
      rw [hn0] at hv0
      cases hv0
      exact ⟨by rw [HD.out, hn0, HC0.out, List.append_nil], rfl⟩
    clear hgl
    go_wp2_with fail
    go_loopg [3, 13, 15] 0 (fun gk x o i wr => x = .int .i64 ((q + 1 : Nat) : Int) ∧ o = .string (⟨#[]⟩ : ByteArray) ∧ i = .int .i64 0 ∧ wr = w7)
    case atStart => exact ⟨by go_num, rfl, rfl, rfl⟩
    case round =>
      obtain ⟨rfl, rfl, rfl, rfl⟩ := hrel
      go_wp2_with fail
      go_ret2
      exact ⟨by rw [HNE.out, ← HE.out.1, HE.out.2]; try rfl, HB7.out⟩
  · have hgw : g < w7.heap.size := (hgl g rfl).2
    have HC : Hid (∀ i, i < N → w7.cell? ⟨g, i, none⟩ = some (.int .i64 (pl ts f a 6 im i : Nat))) := fun i hi => by
      have ho := HO.out
      rw [← HNE.out] at ho hi
      exact row_at ho hi
    clear hgl
    unfold maxLen at hcm
    go_wp2_with fail
    go_loopg [3, 13, 15] N (fun gk x o i wr => ∃ (j y : Nat) (X : ByteArray), j + gk = N ∧ i = .int .i64 j ∧ x = .int .i64 y ∧ vit (ve ts vs f) (pl ts f a 6 im) (q + 1) j = some y ∧ o = .string X ∧ X = ⟨(OW ++ cc j).toArray⟩ ∧ Below w7.heap.size w7 wr)
    case atStart => exact ⟨0, q + 1, _, by omega, rfl, by go_num, rfl, rfl, by rw [HD.out, HC0.out, List.append_nil], Below.refl _ _⟩
    case round =>
      obtain ⟨j, y, X, hj', rfl, rfl, hy, rfl, hX, hbel⟩ := hrel
      have HJ : Hid (j + gk = N) := hj'
      have HY : Hid (vit (ve ts vs f) (pl ts f a 6 im) (q + 1) j = some y) := hy
      have HX : Hid (X = ⟨(OW ++ cc j).toArray⟩) := hX
      have hyl : y ≤ vs.length := HLT.out j y hy
      have hj : j ≤ N := by omega
      have hXs : X.size ≤ 1001048590 := by
        rw [hX, ba_size, List.length_append]
        have := HOL.out
        have := HCL.out j y hj hy
        omega
      have HBW : Hid (Below w.heap.size w wr) := HB7.out.trans (hbel.mono HB7.out.size)
      have HBE : Hid (Below w7.heap.size w7 wr) := hbel
      clear hj' hy hX
      by_cases hjm : j < N
      · obtain ⟨e1, he1⟩ := HPL.out j (by rw [HNE.out]; exact hjm)
        obtain ⟨z, y1, hz, hy1⟩ := HPV.out j (by rw [HNE.out]; exact hjm)
        have ez : z = y := by rw [HY.out] at hz; injection hz with hz; exact hz.symm
        subst ez
        have hpl : pl ts f a 6 im j ≤ 1048577 := by have := en_lt he1; omega
        have cj : wr.cell? ⟨g, j, none⟩ = some (.int .i64 (pl ts f a 6 im j : Nat)) := by rw [hbel.cell (p := ⟨g, j, none⟩) hgw]; exact HC.out j hjm
        have HCK := HP.out (pl ts f a 6 im j) z y1 e1 wr he1 hy1 HBW.out
        have HNX : Hid (vit (ve ts vs f) (pl ts f a 6 im) (q + 1) (j + 1) = some y1) := by show _ = _; rw [vit_succ, HY.out]; exact hy1
        have HSX : Hid (cc (j + 1) = cc j ++ scE cb_bc ts vs f (pl ts f a 6 im j) z) := HCS.out j z HY.out
        have hPs : ByteArray.size ⟨(scE cb_bc ts vs f (pl ts f a 6 im j) z).toArray⟩ ≤ 1000000000 := by rw [ba_size]; exact HSL.out _ _ _ _ he1 hy1
        have hyl1 : y1 ≤ vs.length := (ve_lt hy1).2
        have HXP : Hid (X ++ ⟨(scE cb_bc ts vs f (pl ts f a 6 im j) z).toArray⟩ = ⟨(OW ++ cc (j + 1)).toArray⟩) := by
          show _ = _
          rw [HX.out, HSX.out, cat_list, List.append_assoc]
        clear hbel he1 hy1 hz
        generalize pl ts f a 6 im j = p at cj hpl HCK HSX hPs HXP
        obtain ⟨P, hP⟩ : ∃ P : ByteArray, (⟨(scE cb_bc ts vs f p z).toArray⟩ : ByteArray) = P := ⟨_, rfl⟩
        rw [hP] at hPs HCK HXP
        have HK : Hid (Calls Tryz.prog 27 #[.slice (some ⟨b', o', none⟩) ts.length cap', .int .i64 p, .slice (some ⟨b, o, none⟩) vs.length C, .int .i64 z, .bool true] wr fun e w' => e = .returned (.tuple #[.string P, .int .i64 y1]) ∧ Below wr.heap.size wr w') := HCK
        have hXP2 : ¬ (9223372036854775807 < X.size + P.size) := by omega
        clear HCK hP HSX
        go_wp2_with fail
        refine Calls.mono HK.out ?_
        rintro e w8 ⟨rfl, hb8⟩
        have HB8 : Hid (Below w7.heap.size w7 w8) := HBE.out.trans (hb8.mono HBE.out.size)
        clear hb8 cj
        go_wp2_with fail
        go_roundg (gk - 1)
        case rel => exact ⟨j + 1, y1, _, by have := HJ.out; omega, by go_num, rfl, HNX.out, rfl, HXP.out, HB8.out⟩
        case measure => have := HJ.out; omega
      · have ej : j = N := by omega
        subst ej
        have HE : Hid (X = ⟨(OW ++ cc j).toArray⟩ ∧ q' = y) := ⟨HX.out, by have h1 := HV.out; rw [HY.out] at h1; injection h1 with h1; exact h1.symm⟩
        clear hbel
        go_wp2_with fail
        go_ret2
        exact ⟨by rw [HNE.out, ← HE.out.1, HE.out.2]; try rfl, HBW.out⟩
set_option maxRecDepth 100000 in
set_option maxHeartbeats 8000000 in
theorem b6_7 (ts : List (Int × Int)) (vs : List It) (hl : vs.length ≤ 200) (f : Nat) (hp : B6Hyp ts vs f) (a q q' e0 : Nat) (vt vv : Value) (w : World) (hf7 : f ≤ 7) (hT : IsTyps w.heap.size w vt ts) (hI : IsItems w.heap.size w vv vs) (ha : a < ts.length) (hq : q < vs.length) (hok : tyOk ts[a].1 ts[a].2 = true) (hit : iter (en ts f) (a + 1) (kids ts[a].1 ts[a].2) = some e0) (hfi : fitsI ts[a].1 ts[a].2 vs[q] = true)
    (hv : vit (ve ts vs f) (pl ts f a ts[a].1 vs[q].n) (q + 1) (np ts[a].1 vs[q].n) = some q') (hk : ts[a].1 = 7) :
    Calls Tryz.prog 27 #[vt, .int .i64 a, vv, .int .i64 q, .bool true] w fun e w' => e = .returned (.tuple #[.string ⟨(own cb_bc ts[a].2 vs[q] ++ cat (scE cb_bc ts vs f) (ve ts vs f) (pl ts f a ts[a].1 vs[q].n) (q + 1) (np ts[a].1 vs[q].n)).toArray⟩, .int .i64 q']) ∧ Below w.heap.size w w' := by
  have hfi' : vs[q].k = ts[a].1 ∧ fitsN ts[a].1 ts[a].2 vs[q].n = true ∧ fitsS ts[a].1 ts[a].2 vs[q].s.size = true := by simpa [fitsI] using hfi
  have hfn := hfi'.2.1
  have hvk := hfi'.1
  have hnp : np ts[a].1 vs[q].n ≤ 20 := np_le hok hfn
  have HPL : Hid (∀ j, j < np ts[a].1 vs[q].n → ∃ e', en ts f (pl ts f a ts[a].1 vs[q].n j) = some e') := fun j hj => pl_ok ha hok hit hfn hj
  have HPV : Hid (∀ j, j < np ts[a].1 vs[q].n → ∃ y y', vit (ve ts vs f) (pl ts f a ts[a].1 vs[q].n) (q + 1) j = some y ∧ ve ts vs f (pl ts f a ts[a].1 vs[q].n j) y = some y') := fun j hj => by
    obtain ⟨y, hy⟩ := vit_part hv (show j ≤ np ts[a].1 vs[q].n by omega)
    obtain ⟨y', hy'⟩ := vit_part hv (show j + 1 ≤ np ts[a].1 vs[q].n by omega)
    rw [vit_succ, hy] at hy'
    exact ⟨y, y', hy, hy'⟩
  have HV : Hid (vit (ve ts vs f) (pl ts f a ts[a].1 vs[q].n) (q + 1) (np ts[a].1 vs[q].n) = some q') := hv
  have HPN : Hid (∀ w', Below w.heap.size w w' → Calls Tryz.prog 42 #[vt, .int .i64 a, .agg #[.int .i64 vs[q].k, .int .u64 vs[q].n, .string vs[q].s]] w' fun e w'' => PlPost ts f a ts[a].1 vs[q].n w' e w'') := fun w' hb => l3Plan_any ts f a e0 vs[q] vt w' hf7 ((hT.below hb).up hb.size) ha hok hit hfn
  have HP : Hid (∀ a q q' e0 w', en ts f a = some e0 → ve ts vs f a q = some q' → Below w.heap.size w w' → Calls Tryz.prog 27 #[vt, .int .i64 a, vv, .int .i64 q, .bool true] w' fun e w'' => e = .returned (.tuple #[.string ⟨(scE cb_bc ts vs f a q).toArray⟩, .int .i64 q']) ∧ Below w'.heap.size w' w'') := fun a q q' e0 w' he hve hb => hp a q q' e0 vt vv w' hf7 he hve ((hT.below hb).up hb.size) ((hI.below hb).up hb.size)
  obtain ⟨b, o, C, hI, hF⟩ := hI
  have hvv := hF.at (by omega)
  rw [Nat.sub_zero, Nat.sub_zero, Nat.zero_mul, Nat.add_zero] at hvv
  have hsm := hI.small
  have hst := hT.small
  have hbB : b < w.heap.size := hI.low.resolve_left (by omega)
  obtain ⟨i0, i1, i2⟩ := hI.cells q hq
  obtain ⟨wk, wn, ws⟩ := hI.wf vs[q] (List.getElem_mem hq)
  have HLT : Hid (∀ j x, vit (ve ts vs f) (pl ts f a ts[a].1 vs[q].n) (q + 1) j = some x → x ≤ vs.length) := fun j x h => (vit_lt (by omega) h).2
  have hss : ∀ x ∈ vs, x.s.size ≤ 1048577 := fun x h => (hI.wf x h).2.2
  have HSL : Hid (∀ a q e0 q', en ts f a = some e0 → ve ts vs f a q = some q' → (scE cb_bc ts vs f a q).length ≤ 1000000000) := fun a q e0 q' he hv => scE_le cb_len_bc hss hl he hv
  have HOL : Hid ((own cb_bc ts[a].2 vs[q]).length ≤ 1048590) := own_len cb_len_bc hok hvk ws
  have HCL : Hid (∀ j x, j ≤ np ts[a].1 vs[q].n → vit (ve ts vs f) (pl ts f a ts[a].1 vs[q].n) (q + 1) j = some x → (cat (scE cb_bc ts vs f) (ve ts vs f) (pl ts f a ts[a].1 vs[q].n) (q + 1) j).length ≤ 1000000000) := fun j x hj hx => by
    have h1 := cat_len cb_len_bc hss (k := ts[a].1) (n := ts[a].2) ha rfl hok hit hfn (q := q) j x hj hx
    have h2 := (vit_lt (by omega) hx).2
    have h3 : x * 1048590 ≤ 200 * 1048590 := Nat.mul_le_mul_right _ (by omega)
    omega
  obtain ⟨b', o', cap', hv', hb', h1, h2, c0, c1⟩ := hT.at ha
  obtain ⟨cc, hcc⟩ : ∃ cc, cat (scE cb_bc ts vs f) (ve ts vs f) (pl ts f a ts[a].1 vs[q].n) (q + 1) = cc := ⟨_, rfl⟩
  have HCS : Hid (∀ j x, vit (ve ts vs f) (pl ts f a ts[a].1 vs[q].n) (q + 1) j = some x → cc (j + 1) = cc j ++ scE cb_bc ts vs f (pl ts f a ts[a].1 vs[q].n j) x) := fun j x h => by rw [← hcc]; exact cat_succ h
  have HC0 : Hid (cc 0 = []) := by show _ = _; rw [← hcc]; rfl
  rw [hcc] at HCL ⊢
  obtain ⟨OW, hOW⟩ : ∃ OW, own cb_bc ts[a].2 vs[q] = OW := ⟨_, rfl⟩
  have HOE : Hid (OW = []) := by show _ = _; rw [← hOW, own_series hvk (by omega), hk]; rfl
  rw [hOW] at HOL ⊢
  generalize ts[a].1 = k at *
  generalize ts[a].2 = n at *
  generalize vs[q] = it at *
  obtain ⟨ik, im, is⟩ := it
  simp only at i0 i1 i2 hnp HPL HPN HLT HPV HV HCL HCS hvk hk HOE wn ws
  subst hvk
  have hr := hI.room
  have hm := hI.most
  unfold maxLen at h2 hm
  subst hvv hv'
  have hql : q ≤ 200 := by omega
  clear hI hF hT hfi hfi' wk hp hit hfn hv hss hcc hOW
  subst hk
  have HB2 : Hid (Below w.heap.size w (w.alloc (.cells #[.int .i64 7, .int .u64 (im : Int), .string is] 64))) := bel1 _ _
  have HD : Hid ((⟨#[]⟩ : ByteArray) = ⟨(OW).toArray⟩) := by show _ = _; rw [HOE.out]
  go_enter Tryz.func27, Tryz.ntmps27
  go_wp2_with fail
  clear HOE
  go_wp2_with fail
  refine (HPN.out _ HB2.out).mono ?_
  rintro e w7 ⟨vp, rfl, hown, hb7⟩
  have HO : Hid (w7.ownsRow _ 2 1 vp (np 7 im) (plRow ts f a 7 im)) := hown
  have HB7 : Hid (Below w.heap.size w w7) := HB2.out.trans (hb7.mono (HB2.out.size))
  obtain ⟨N, hN⟩ : ∃ N, np 7 im = N := ⟨_, rfl⟩
  have HNE : Hid (np 7 im = N) := hN
  have h2' := hown.2
  rw [hN] at h2' hnp HV HCL
  have hgl := hown.lt
  clear hown hN hb7
  rcases h2' with ⟨rfl, hn0⟩ | ⟨g, cp, cur, rfl, hg, _, hcp, hcm, _, _⟩
  · have HE : Hid ((⟨#[]⟩ : ByteArray) = ⟨(OW ++ cc N).toArray⟩ ∧ q' = q + 1) := by
      have hv0 := HV.out
      rw [hn0] at hv0
      cases hv0
      exact ⟨by rw [HD.out, hn0, HC0.out, List.append_nil], rfl⟩
    clear hgl
    go_wp2_with fail
    go_loopg [3, 13, 15] 0 (fun gk x o i wr => x = .int .i64 ((q + 1 : Nat) : Int) ∧ o = .string (⟨#[]⟩ : ByteArray) ∧ i = .int .i64 0 ∧ wr = w7)
    case atStart => exact ⟨by go_num, rfl, rfl, rfl⟩
    case round =>
      obtain ⟨rfl, rfl, rfl, rfl⟩ := hrel
      go_wp2_with fail
      go_ret2
      exact ⟨by rw [HNE.out, ← HE.out.1, HE.out.2]; try rfl, HB7.out⟩
  · have hgw : g < w7.heap.size := (hgl g rfl).2
    have HC : Hid (∀ i, i < N → w7.cell? ⟨g, i, none⟩ = some (.int .i64 (pl ts f a 7 im i : Nat))) := fun i hi => by
      have ho := HO.out
      rw [← HNE.out] at ho hi
      exact row_at ho hi
    clear hgl
    unfold maxLen at hcm
    go_wp2_with fail
    go_loopg [3, 13, 15] N (fun gk x o i wr => ∃ (j y : Nat) (X : ByteArray), j + gk = N ∧ i = .int .i64 j ∧ x = .int .i64 y ∧ vit (ve ts vs f) (pl ts f a 7 im) (q + 1) j = some y ∧ o = .string X ∧ X = ⟨(OW ++ cc j).toArray⟩ ∧ Below w7.heap.size w7 wr)
    case atStart => exact ⟨0, q + 1, _, by omega, rfl, by go_num, rfl, rfl, by rw [HD.out, HC0.out, List.append_nil], Below.refl _ _⟩
    case round =>
      obtain ⟨j, y, X, hj', rfl, rfl, hy, rfl, hX, hbel⟩ := hrel
      have HJ : Hid (j + gk = N) := hj'
      have HY : Hid (vit (ve ts vs f) (pl ts f a 7 im) (q + 1) j = some y) := hy
      have HX : Hid (X = ⟨(OW ++ cc j).toArray⟩) := hX
      have hyl : y ≤ vs.length := HLT.out j y hy
      have hj : j ≤ N := by omega
      have hXs : X.size ≤ 1001048590 := by
        rw [hX, ba_size, List.length_append]
        have := HOL.out
        have := HCL.out j y hj hy
        omega
      have HBW : Hid (Below w.heap.size w wr) := HB7.out.trans (hbel.mono HB7.out.size)
      have HBE : Hid (Below w7.heap.size w7 wr) := hbel
      clear hj' hy hX
      by_cases hjm : j < N
      · obtain ⟨e1, he1⟩ := HPL.out j (by rw [HNE.out]; exact hjm)
        obtain ⟨z, y1, hz, hy1⟩ := HPV.out j (by rw [HNE.out]; exact hjm)
        have ez : z = y := by rw [HY.out] at hz; injection hz with hz; exact hz.symm
        subst ez
        have hpl : pl ts f a 7 im j ≤ 1048577 := by have := en_lt he1; omega
        have cj : wr.cell? ⟨g, j, none⟩ = some (.int .i64 (pl ts f a 7 im j : Nat)) := by rw [hbel.cell (p := ⟨g, j, none⟩) hgw]; exact HC.out j hjm
        have HCK := HP.out (pl ts f a 7 im j) z y1 e1 wr he1 hy1 HBW.out
        have HNX : Hid (vit (ve ts vs f) (pl ts f a 7 im) (q + 1) (j + 1) = some y1) := by show _ = _; rw [vit_succ, HY.out]; exact hy1
        have HSX : Hid (cc (j + 1) = cc j ++ scE cb_bc ts vs f (pl ts f a 7 im j) z) := HCS.out j z HY.out
        have hPs : ByteArray.size ⟨(scE cb_bc ts vs f (pl ts f a 7 im j) z).toArray⟩ ≤ 1000000000 := by rw [ba_size]; exact HSL.out _ _ _ _ he1 hy1
        have hyl1 : y1 ≤ vs.length := (ve_lt hy1).2
        have HXP : Hid (X ++ ⟨(scE cb_bc ts vs f (pl ts f a 7 im j) z).toArray⟩ = ⟨(OW ++ cc (j + 1)).toArray⟩) := by
          show _ = _
          rw [HX.out, HSX.out, cat_list, List.append_assoc]
        clear hbel he1 hy1 hz
        generalize pl ts f a 7 im j = p at cj hpl HCK HSX hPs HXP
        obtain ⟨P, hP⟩ : ∃ P : ByteArray, (⟨(scE cb_bc ts vs f p z).toArray⟩ : ByteArray) = P := ⟨_, rfl⟩
        rw [hP] at hPs HCK HXP
        have HK : Hid (Calls Tryz.prog 27 #[.slice (some ⟨b', o', none⟩) ts.length cap', .int .i64 p, .slice (some ⟨b, o, none⟩) vs.length C, .int .i64 z, .bool true] wr fun e w' => e = .returned (.tuple #[.string P, .int .i64 y1]) ∧ Below wr.heap.size wr w') := HCK
        have hXP2 : ¬ (9223372036854775807 < X.size + P.size) := by omega
        clear HCK hP HSX
        go_wp2_with fail
        refine Calls.mono HK.out ?_
        rintro e w8 ⟨rfl, hb8⟩
        have HB8 : Hid (Below w7.heap.size w7 w8) := HBE.out.trans (hb8.mono HBE.out.size)
        clear hb8 cj
        go_wp2_with fail
        go_roundg (gk - 1)
        case rel => exact ⟨j + 1, y1, _, by have := HJ.out; omega, by go_num, rfl, HNX.out, rfl, HXP.out, HB8.out⟩
        case measure => have := HJ.out; omega
      · have ej : j = N := by omega
        subst ej
        have HE : Hid (X = ⟨(OW ++ cc j).toArray⟩ ∧ q' = y) := ⟨HX.out, by have h1 := HV.out; rw [HY.out] at h1; injection h1 with h1; exact h1.symm⟩
        clear hbel
        go_wp2_with fail
        go_ret2
        exact ⟨by rw [HNE.out, ← HE.out.1, HE.out.2]; try rfl, HBW.out⟩
theorem l6EncB_all (ts : List (Int × Int)) (vs : List It) (hl : vs.length ≤ 200) : ∀ f, B6Hyp ts vs f := by
  intro f
  induction f with
  | zero => intro a q q' e0 vt vv w _ h; cases h
  | succ f ih =>
    intro a q q' e0 vt vv w hf7 he hv hT hI
    obtain ⟨_, hok, hit⟩ := en_inv he
    obtain ⟨ha, hq, hfi, hvt⟩ := ve_inv hv
    rw [scE_ok ha hq]
    have h9 := hok
    simp only [tyOk, decide_eq_true_eq] at h9
    have hc : (ts[a].1 = 1 ∧ ts[a].2 = 8) ∨ (ts[a].1 = 1 ∧ ts[a].2 = 16) ∨ (ts[a].1 = 1 ∧ ts[a].2 = 32) ∨ (ts[a].1 = 1 ∧ ts[a].2 = 64) ∨ ts[a].1 = 2 ∨ ts[a].1 = 8 ∨ ts[a].1 = 9 ∨ ts[a].1 = 3 ∨ ts[a].1 = 4 ∨ ts[a].1 = 5 ∨ ts[a].1 = 6 ∨ ts[a].1 = 7 := by omega
    rcases hc with h | h | h | h | h | h | h | h | h | h | h | h
    · exact b6_1_8 ts vs hl f ih a q q' e0 vt vv w (by omega) hT hI ha hq hok hit hfi hvt h
    · exact b6_1_16 ts vs hl f ih a q q' e0 vt vv w (by omega) hT hI ha hq hok hit hfi hvt h
    · exact b6_1_32 ts vs hl f ih a q q' e0 vt vv w (by omega) hT hI ha hq hok hit hfi hvt h
    · exact b6_1_64 ts vs hl f ih a q q' e0 vt vv w (by omega) hT hI ha hq hok hit hfi hvt h
    · exact b6_2 ts vs hl f ih a q q' e0 vt vv w (by omega) hT hI ha hq hok hit hfi hvt h
    · exact b6_8 ts vs hl f ih a q q' e0 vt vv w (by omega) hT hI ha hq hok hit hfi hvt h
    · exact b6_9 ts vs hl f ih a q q' e0 vt vv w (by omega) hT hI ha hq hok hit hfi hvt h
    · exact b6_3 ts vs hl f ih a q q' e0 vt vv w (by omega) hT hI ha hq hok hit hfi hvt h
    · exact b6_4 ts vs hl f ih a q q' e0 vt vv w (by omega) hT hI ha hq hok hit hfi hvt h
    · exact b6_5 ts vs hl f ih a q q' e0 vt vv w (by omega) hT hI ha hq hok hit hfi hvt h
    · exact b6_6 ts vs hl f ih a q q' e0 vt vv w (by omega) hT hI ha hq hok hit hfi hvt h
    · exact b6_7 ts vs hl f ih a q q' e0 vt vv w (by omega) hT hI ha hq hok hit hfi hvt h
end Go.Proofs.YtichgnddbnibjaaGreatDoor
namespace Go.Proofs.YtichgnddbnibjaaGreatDoor
open Go.RowKit Go.Sort
set_option linter.unusedVariables false
def bitL (ts : List (Int × Int)) (vs : List It) : List UInt8 := scE cb_bc ts vs 7 0 0
theorem btOk_no {ts : List (Int × Int)} {j : Nat} (hj : j < ts.length) (h : ts[j].1 = 8 ∨ ts[j].1 = 9) : btOk ts = false := by
  cases hb : btOk ts with
  | false => rfl
  | true =>
    unfold btOk at hb
    rw [List.all_eq_true] at hb
    have := hb ts[j] (List.getElem_mem hj)
    simp at this
    omega
theorem btOk_yes {ts : List (Int × Int)} (h : ∀ q (h : q < ts.length), ¬ (ts[q].1 = 8 ∨ ts[q].1 = 9)) : btOk ts = true := by
  unfold btOk
  rw [List.all_eq_true]
  intro t ht
  obtain ⟨i, hi, rfl⟩ := List.getElem_of_mem ht
  simpa using h i hi
set_option maxHeartbeats 2000000 in
theorem specBitcoinOk_any (ts : List (Int × Int)) (v : Value) (w : World) (hv : IsTyps w.heap.size w v ts) : Calls Tryz.prog 15 #[v] w fun e w' => e = .returned (.bool (schOk ts && btOk ts)) ∧ Below w.heap.size w w' := by
  have HC : Hid (∀ w', Below w.heap.size w w' → Calls Tryz.prog 32 #[v] w' fun e w'' => e = .returned (.bool (schOk ts)) ∧ Below w'.heap.size w' w'') := fun w' hb => specSchemaOk_any ts v w' ((hv.below hb).up hb.size)
  have HV : Hid (IsTyps w.heap.size w v ts) := hv
  have hst := hv.small
  obtain ⟨ad, cap, rfl, h1, h2, h3⟩ := hv.form
  clear h3 hv
  go_enter Tryz.func15, Tryz.ntmps15
  go_wp2_with fail
  go_loopg [3] ts.length (fun gk i wr => ∃ j : Nat, j + gk = ts.length ∧ i = .int .i64 j ∧ (∀ q (h : q < ts.length), q < j → ¬ (ts[q].1 = 8 ∨ ts[q].1 = 9)) ∧ Below w.heap.size w wr)
  case atStart => exact ⟨0, by omega, rfl, fun q h hq => by omega, Below.refl _ _⟩
  case round =>
    obtain ⟨j, hj', rfl, hall, hbel⟩ := hrel
    have HJ : Hid (j + gk = ts.length) := hj'
    have hj : j ≤ ts.length := by omega
    have HALL : Hid (∀ q (h : q < ts.length), q < j → ¬ (ts[q].1 = 8 ∨ ts[q].1 = 9)) := hall
    have HB : Hid (Below w.heap.size w wr) := hbel
    clear hj' hall
    by_cases hjk : j < ts.length
    · obtain ⟨b, o, cap', e1, hb, g1, g2, c0, c1⟩ := (HV.out.below hbel).at hjk
      cases e1
      have hgr : b < wr.heap.size := by have := hbel.size; omega
      obtain ⟨k, hk⟩ : ∃ k, ts[j].1 = k := ⟨_, rfl⟩
      have HKE : Hid (ts[j].1 = k) := hk
      rw [hk] at c0
      clear c1 hk hbel
      by_cases h8 : k = 8
      · have HR : Hid ((schOk ts && btOk ts) = false) := by show _ = _; rw [btOk_no hjk (.inl (HKE.out.trans h8)), Bool.and_false]
        subst h8
        go_wp2_with fail
        go_ret
        exact ⟨by rw [HR.out]; try rfl, HB.out⟩
      · by_cases h9 : k = 9
        · have HR : Hid ((schOk ts && btOk ts) = false) := by show _ = _; rw [btOk_no hjk (.inr (HKE.out.trans h9)), Bool.and_false]
          subst h9
          go_wp2_with fail
          go_ret
          exact ⟨by rw [HR.out]; try rfl, HB.out⟩
        · have HN : Hid (∀ q (h : q < ts.length), q < j + 1 → ¬ (ts[q].1 = 8 ∨ ts[q].1 = 9)) := fun q h hq => by
            by_cases hqj : q < j
            · exact HALL.out q h hqj
            · have e : q = j := by omega
              subst e
              rw [HKE.out]; omega
          have e8 := beqF h8
          have e9 := beqF h9
          clear h8 h9
          go_wp2_with fail
          go_roundg (gk - 1)
          case rel => exact ⟨j + 1, by have := HJ.out; omega, by go_num, HN.out, HB.out⟩
          case measure => have := HJ.out; omega
    · have HR : Hid (btOk ts = true) := btOk_yes (fun q h => HALL.out q h (by omega))
      clear hbel
      go_wp2_with fail
      refine (HC.out _ HB.out).mono ?_
      rintro e w1 ⟨rfl, hb1⟩
      have HB1 : Hid (Below w.heap.size w w1) := HB.out.trans (hb1.mono HB.out.size)
      clear hb1
      go_wp2_with fail
      go_ret
      exact ⟨by rw [HR.out, Bool.and_true]; try rfl, HB1.out⟩
set_option maxHeartbeats 1000000 in
theorem specBitcoinEnc_any (ts : List (Int × Int)) (vs : List It) (v v' : Value) (w : World) (hv : IsTyps w.heap.size w v ts) (hv' : IsItems w.heap.size w v' vs) :
    Calls Tryz.prog 9 #[v, v'] w fun e w' => e = .returned (.tuple #[.string (encB (btOk ts && typedB ts vs) (bitL ts vs)), .bool (btOk ts && typedB ts vs)]) ∧ Below w.heap.size w w' := by
  have HO : Hid (Calls Tryz.prog 15 #[v] w fun e w' => e = .returned (.bool (schOk ts && btOk ts)) ∧ Below w.heap.size w w') := specBitcoinOk_any ts v w hv
  have HC : Hid (∀ w', Below w.heap.size w w' → Calls Tryz.prog 26 #[v, v'] w' fun e w'' => e = .returned (.bool (typedB ts vs)) ∧ Below w'.heap.size w' w'') := fun w' hb => specTyped_any ts vs v v' w' ((hv.below hb).up hb.size) ((hv'.below hb).up hb.size)
  have HE : Hid (typedB ts vs = true → ∀ w', Below w.heap.size w w' → Calls Tryz.prog 27 #[v, .int .i64 0, v', .int .i64 0, .bool true] w' fun e w'' => e = .returned (.tuple #[.string ⟨(bitL ts vs).toArray⟩, .int .i64 vs.length]) ∧ Below w'.heap.size w' w'') := fun ht w' hb => by
    obtain ⟨hs, hl, hve⟩ := typed_ve ht
    exact l6EncB_all ts vs hl 7 0 0 vs.length ts.length v v' w' (Nat.le_refl _) (schOk_iff.1 hs).2 hve ((hv.below hb).up hb.size) ((hv'.below hb).up hb.size)
  obtain ⟨o, ho⟩ : ∃ o, (schOk ts && btOk ts) = o := ⟨_, rfl⟩
  obtain ⟨t, ht⟩ : ∃ t, typedB ts vs = t := ⟨_, rfl⟩
  have HEQ : Hid ((btOk ts && t) = (o && t)) := by
    show _ = _
    rw [← ho]
    cases t with
    | false => simp
    | true => rw [(typed_ve ht).1]; rfl
  rw [ho] at HO
  rw [ht] at HC HE ⊢
  rw [HEQ.out]
  clear hv hv' ho ht HEQ
  cases o with
  | false =>
    go_enter Tryz.func9, Tryz.ntmps9
    go_wp2_with fail
    refine Calls.mono HO.out ?_
    rintro e w1 ⟨rfl, hb1⟩
    go_wp2_with fail
    go_ret2
    exact ⟨rfl, hb1⟩
  | true =>
    cases t with
    | false =>
      go_enter Tryz.func9, Tryz.ntmps9
      go_wp2_with fail
      refine Calls.mono HO.out ?_
      rintro e w1 ⟨rfl, hb1⟩
      have HB1 : Hid (Below w.heap.size w w1) := hb1
      clear hb1
      go_wp2_with fail
      refine (HC.out _ HB1.out).mono ?_
      rintro e w2 ⟨rfl, hb2⟩
      have HB2 : Hid (Below w.heap.size w w2) := HB1.out.trans (hb2.mono HB1.out.size)
      clear hb2
      go_wp2_with fail
      go_ret2
      exact ⟨rfl, HB2.out⟩
    | true =>
      have HE2 : Hid (∀ w', Below w.heap.size w w' → Calls Tryz.prog 27 #[v, .int .i64 0, v', .int .i64 0, .bool true] w' fun e w'' => e = .returned (.tuple #[.string ⟨(bitL ts vs).toArray⟩, .int .i64 vs.length]) ∧ Below w'.heap.size w' w'') := HE.out rfl
      clear HE
      go_enter Tryz.func9, Tryz.ntmps9
      go_wp2_with fail
      refine Calls.mono HO.out ?_
      rintro e w1 ⟨rfl, hb1⟩
      have HB1 : Hid (Below w.heap.size w w1) := hb1
      clear hb1
      go_wp2_with fail
      refine (HC.out _ HB1.out).mono ?_
      rintro e w2 ⟨rfl, hb2⟩
      have HB2 : Hid (Below w.heap.size w w2) := HB1.out.trans (hb2.mono HB1.out.size)
      clear hb2
      go_wp2_with fail
      refine (HE2.out w2 HB2.out).mono ?_
      rintro e w3 ⟨rfl, hb3⟩
      have HB3 : Hid (Below w.heap.size w w3) := HB2.out.trans (hb3.mono HB2.out.size)
      clear hb3
      go_wp2_with fail
      go_ret2
      exact ⟨rfl, HB3.out⟩
set_option maxHeartbeats 2000000 in
theorem schemaFor_bc (b : Bool) (ts : List (Int × Int)) (v : Value) (w : World) (hv : IsTyps w.heap.size w v ts) (hw : KR w) (he : ET w)
    (hA : schOk ts = true → ∀ (u : Nat) (w : World) (S : Nat → Prop), TreeAt ts 7 w S u 0 → (∀ c, S c → c < w.heap.size) → Calls Tryz.prog 145 #[.agg #[.func (.func 45) #[] #[], .func (.func 46) #[] #[]], .pointer (some ⟨u, 0, none⟩)] w fun e w' => e = .returned (.bool b) ∧ Below w.heap.size w w') :
    Calls Tryz.prog 43 #[.iface 56 (.agg #[.func (.func 45) #[] #[], .func (.func 46) #[] #[]]), v] w fun e w' => SfPost ts (schOk ts && b) w e w' := by
  have HC : Hid (Calls Tryz.prog 33 #[v] w fun e w' => PsPost ts w e w') := parseSchema_any ts v w hv hw
  have HE : Hid (ET w) := he
  have HA : Hid (schOk ts = true → ∀ (u : Nat) (w : World) (S : Nat → Prop), TreeAt ts 7 w S u 0 → (∀ c, S c → c < w.heap.size) → Calls Tryz.prog 145 #[.agg #[.func (.func 45) #[] #[], .func (.func 46) #[] #[]], .pointer (some ⟨u, 0, none⟩)] w fun e w' => e = .returned (.bool b) ∧ Below w.heap.size w w') := hA
  clear hv hw he hA
  go_enter Tryz.func43, Tryz.ntmps43
  go_wp2_with fail
  refine Calls.mono HC.out ?_
  rintro e w1 ⟨hb1, ⟨hs, rfl⟩ | ⟨hs, u, rfl, htr⟩⟩
  · have HR : Hid ((schOk ts && b) = false) := by show _ = _; rw [hs]; rfl
    obtain ⟨e1, T, z, e2⟩ := ET.below (B := 0) HE.out hb1
    clear hs
    go_wp2_with fail
    go_region
    all_goals
      go_wp2_with fail
      go_ret2
      exact ⟨by first | exact hb1 | exact hb1.drew, .inl ⟨HR.out, T, z, rfl⟩⟩
  · have HB1 : Hid (Below w.heap.size w w1) := hb1
    have HT : Hid (TreeAt ts 7 w1 (fun b => w.heap.size ≤ b ∧ b < w1.heap.size) u 0) := htr
    have HS : Hid (schOk ts = true) := hs
    clear hs htr hb1
    go_wp2_with fail
    refine (HA.out HS.out u _ _ HT.out (fun c hc => hc.2)).mono ?_
    rintro e w2 ⟨rfl, hb2⟩
    have HB2 : Hid (Below w.heap.size w w2) := HB1.out.trans (hb2.mono HB1.out.size)
    have HT2 : Hid (TreeAt ts 7 w2 (fun b => w.heap.size ≤ b ∧ b < w2.heap.size) u 0) := (HT.out.bel (fun c hc => hc.2) hb2).keep (fun c hc => ⟨hc.1, by have := hb2.size; omega⟩) (fun _ _ => rfl)
    obtain ⟨e1, T, z, e2⟩ := ET.below (B := 0) HE.out HB2.out
    clear hb2
    cases b with
    | true =>
      have HR : Hid ((schOk ts && true) = true) := by show _ = _; rw [HS.out]; rfl
      clear e1 e2
      go_wp2_with fail
      go_ret2
      exact ⟨HB2.out, .inr ⟨HR.out, u, rfl, HT2.out⟩⟩
    | false =>
      have HR : Hid ((schOk ts && false) = false) := by show _ = _; rw [HS.out]; rfl
      go_wp2_with fail
      go_region
      all_goals
        go_wp2_with fail
        go_ret2
        exact ⟨by first | exact HB2.out | exact HB2.out.drew, .inl ⟨HR.out, T, z, rfl⟩⟩
set_option maxHeartbeats 2000000 in
theorem encodeBy_bc (b : Bool) (ts : List (Int × Int)) (vs : List It) (v v' : Value) (w : World) (hv : IsTyps w.heap.size w v ts) (hv' : IsItems w.heap.size w v' vs) (hw : KR w) (he : ET w)
    (hA : schOk ts = true → ∀ (u : Nat) (w : World) (S : Nat → Prop), TreeAt ts 7 w S u 0 → (∀ c, S c → c < w.heap.size) → Calls Tryz.prog 145 #[.agg #[.func (.func 45) #[] #[], .func (.func 46) #[] #[]], .pointer (some ⟨u, 0, none⟩)] w fun e w' => e = .returned (.bool b) ∧ Below w.heap.size w w') :
    Calls Tryz.prog 24 #[.iface 56 (.agg #[.func (.func 45) #[] #[], .func (.func 46) #[] #[]]), v, v'] w fun e w' => EncPost (b && typedB ts vs) (bitL ts vs) w e w' := by
  have HC : Hid (Calls Tryz.prog 43 #[.iface 56 (.agg #[.func (.func 45) #[] #[], .func (.func 46) #[] #[]]), v] w fun e w' => SfPost ts (schOk ts && b) w e w') := schemaFor_bc b ts v w hv hw he hA
  have HE : Hid (ET w) := he
  have HI : Hid (IsItems w.heap.size w v' vs) := hv'
  have hvs := items_wf hv'
  clear hv hv' hw he hA
  obtain ⟨o, ho⟩ : ∃ o, (b && typedB ts vs) = o := ⟨_, rfl⟩
  have HOE : Hid ((b && typedB ts vs) = o) := ho
  rw [ho]
  clear ho
  go_enter Tryz.func24, Tryz.ntmps24
  go_wp2_with fail
  refine Calls.mono HC.out ?_
  rintro e w1 ⟨hb1, ⟨hs, T0, z0, rfl⟩ | ⟨hs, u, rfl, htr⟩⟩
  · have HO : Hid (o = false) := by
      show _ = _
      rw [← HOE.out]
      cases ht : typedB ts vs with
      | false => simp
      | true => rw [(typed_ve ht).1] at hs; simpa using hs
    clear hs hvs
    go_wp2_with fail
    go_ret2
    exact ⟨⟨_, by rw [HO.out]; try rfl, .inr ⟨HO.out, T0, z0, rfl⟩⟩, hb1⟩
  · have hs' : schOk ts = true ∧ b = true := by simpa using hs
    obtain ⟨hsch, rfl⟩ := hs'
    have HV : Hid (Calls Tryz.prog 34 #[.pointer (some ⟨u, 0, none⟩), v'] w1 fun e w' => VoPost ts vs (fun b => w.heap.size ≤ b ∧ b < w1.heap.size) w1 e w') := valueOf_any ts vs u _ v' w1 hsch htr (fun c hc => hc.2) ((HI.out.below hb1).up hb1.size)
    have HB1 : Hid (Below w.heap.size w w1) := hb1
    clear hs htr hb1
    rcases Bool.eq_false_or_eq_true (typedB ts vs) with ht | ht
    · obtain ⟨hs, hl, hve⟩ := typed_ve ht
      have HO : Hid (o = true) := by show _ = _; rw [← HOE.out, ht]; rfl
      have hsz : (bitL ts vs).length ≤ 1000000000 := scE_le cb_len_bc (fun x h => (hvs x h).2) hl (schOk_iff.1 hs).2 hve
      have hsz2 : ByteArray.size ⟨(bitL ts vs).toArray⟩ ≤ 1000000000 := by rw [ba_size]; exact hsz
      have HCL : Hid (∀ w, Calls Tryz.prog 44 #[.string ⟨(bitL ts vs).toArray⟩] w fun e w' => e = .returned (.string ⟨(bitL ts vs).toArray⟩) ∧ Below w.heap.size w w') := fun w => clone_any _ w (by omega)
      have HW : Hid (∀ x (S : Nat → Prop) w'', (∀ c, S c → c < w''.heap.size) → VAt ts vs 7 w'' S x 0 0 → Calls Tryz.prog 127 #[.agg #[.func (.func 45) #[] #[], .func (.func 46) #[] #[]], x] w'' fun e w3 => e = .returned (.string ⟨(bitL ts vs).toArray⟩) ∧ Below w''.heap.size w'' w3) := fun x S w'' hS hx => write_bc ts vs hvs hl 7 0 0 vs.length S x w'' hve hx hS
      have HTB : Hid (typedB ts vs = true) := ht
      clear hsz hsz2 hs hl hve hvs ht hsch
      go_wp2_with fail
      refine Calls.mono HV.out ?_
      rintro e w2 ⟨hb2, x, rfl, hx⟩
      obtain ⟨⟨T, z, rfl⟩, hva⟩ := hx HTB.out
      rw [HTB.out]
      have HB2 : Hid (Below w.heap.size w w2) := HB1.out.trans (hb2.mono HB1.out.size)
      have HSS : Hid (∀ c, ((w.heap.size ≤ c ∧ c < w1.heap.size) ∨ (w1.heap.size ≤ c ∧ c < w2.heap.size)) → c < w2.heap.size) := fun c hc => by have := hb2.size; omega
      have HX : Hid (VAt ts vs 7 w2 (fun c => (w.heap.size ≤ c ∧ c < w1.heap.size) ∨ (w1.heap.size ≤ c ∧ c < w2.heap.size)) (.iface T z) 0 0) := hva
      clear hb2 hva hx
      go_wp2_with fail
      refine (HW.out _ _ w2 HSS.out HX.out).mono ?_
      rintro e w3 ⟨rfl, hb3⟩
      have HB3 : Hid (Below w.heap.size w w3) := HB2.out.trans (hb3.mono HB2.out.size)
      clear hb3
      go_wp2_with fail
      refine (HCL.out _).mono ?_
      rintro e w4 ⟨rfl, hb4⟩
      have HB4 : Hid (Below w.heap.size w w4) := HB3.out.trans (hb4.mono HB3.out.size)
      clear hb4
      go_wp2_with fail
      go_ret2
      exact ⟨⟨_, by rw [HO.out]; rfl, .inl ⟨HO.out, rfl⟩⟩, HB4.out⟩
    · have HO : Hid (o = false) := by show _ = _; rw [← HOE.out, ht]; rfl
      have HTB : Hid (typedB ts vs = false) := ht
      clear hvs ht hsch
      go_wp2_with fail
      refine Calls.mono HV.out ?_
      rintro e w2 ⟨hb2, x, rfl, _⟩
      rw [HTB.out]
      have HB2 : Hid (Below w.heap.size w w2) := HB1.out.trans (hb2.mono HB1.out.size)
      obtain ⟨e1, T, z, e2⟩ := ET.below (B := 0) HE.out HB2.out
      clear hb2
      go_wp2_with fail
      go_region
      all_goals
        go_wp2_with fail
        go_ret2
        exact ⟨⟨_, by rw [HO.out]; try rfl, .inr ⟨HO.out, T, z, rfl⟩⟩, by first | exact HB2.out | exact HB2.out.drew⟩
set_option maxHeartbeats 2000000 in
theorem implBitcoinEnc_any (ts : List (Int × Int)) (vs : List It) (v v' : Value) (w : World) (hv : IsTyps w.heap.size w v ts) (hv' : IsItems w.heap.size w v' vs) (hw : KR w) (he : ET w) :
    Calls Tryz.prog 8 #[v, v'] w fun e w' => e = .returned (.tuple #[.string (encB (btOk ts && typedB ts vs) (bitL ts vs)), .bool (btOk ts && typedB ts vs)]) ∧ Below w.heap.size w w' := by
  have HN : Hid (∀ w, Calls Tryz.prog 25 #[] w fun e w' => e = .returned (.agg #[.func (.func 45) #[] #[], .func (.func 46) #[] #[]]) ∧ Below w.heap.size w w') := fun w => newBitcoin_any w
  have HC : Hid (∀ w', Below w.heap.size w w' → Calls Tryz.prog 24 #[.iface 56 (.agg #[.func (.func 45) #[] #[], .func (.func 46) #[] #[]]), v, v'] w' fun e w'' => EncPost (btOk ts && typedB ts vs) (bitL ts vs) w' e w'') := fun w' hb => encodeBy_bc (btOk ts) ts vs v v' w' ((hv.below hb).up hb.size) ((hv'.below hb).up hb.size) (hw.below hb) (ET.below (B := 0) he hb) (fun hs u w S h hS => by have h1 := btAdmits ts 7 u 0 w S h hS; rw [bt_all hs] at h1; exact h1)
  clear hv hv' hw he
  generalize (btOk ts && typedB ts vs) = o at HC ⊢
  go_enter Tryz.func8, Tryz.ntmps8
  go_wp2_with fail
  refine (HN.out _).mono ?_
  rintro e w1 ⟨rfl, hb1⟩
  have HB1 : Hid (Below w.heap.size w w1) := hb1
  clear hb1
  go_wp2_with fail
  refine (HC.out w1 HB1.out).mono ?_
  rintro e w2 ⟨⟨x, rfl, hx⟩, hb2⟩
  have HB2 : Hid (Below w.heap.size w w2) := HB1.out.trans (hb2.mono HB1.out.size)
  clear hb2
  rcases hx with ⟨rfl, rfl⟩ | ⟨rfl, T, z, rfl⟩
  all_goals
    go_wp2_with fail
    go_region
    all_goals
      go_wp2_with fail
      go_ret2
      exact ⟨rfl, by first | exact HB2.out | exact HB2.out.drew⟩
set_option maxHeartbeats 1000000 in
theorem admitsBy_bc (ts : List (Int × Int)) (v : Value) (w : World) (hv : IsTyps w.heap.size w v ts) (hw : KR w) (he : ET w) : Calls Tryz.prog 31 #[.iface 56 (.agg #[.func (.func 45) #[] #[], .func (.func 46) #[] #[]]), v] w fun e w' => e = .returned (.bool (schOk ts && btOk ts)) ∧ Below w.heap.size w w' := by
  have HC : Hid (Calls Tryz.prog 43 #[.iface 56 (.agg #[.func (.func 45) #[] #[], .func (.func 46) #[] #[]]), v] w fun e w' => SfPost ts (schOk ts && btOk ts) w e w') := schemaFor_bc (btOk ts) ts v w hv hw he (fun hs u w S h hS => by have h1 := btAdmits ts 7 u 0 w S h hS; rw [bt_all hs] at h1; exact h1)
  clear hv hw he
  generalize (schOk ts && btOk ts) = o at HC ⊢
  go_enter Tryz.func31, Tryz.ntmps31
  go_wp2_with fail
  refine Calls.mono HC.out ?_
  rintro e w1 ⟨hb1, ⟨rfl, T, z, rfl⟩ | ⟨rfl, u, rfl, htr⟩⟩
  · go_wp2_with fail
    go_ret
    exact ⟨rfl, hb1⟩
  · clear htr
    go_wp2_with fail
    go_ret
    exact ⟨rfl, hb1⟩
set_option maxHeartbeats 1000000 in
theorem implBitcoinOk_any (ts : List (Int × Int)) (v : Value) (w : World) (hv : IsTyps w.heap.size w v ts) (hw : KR w) (he : ET w) : Calls Tryz.prog 14 #[v] w fun e w' => e = .returned (.bool (schOk ts && btOk ts)) ∧ Below w.heap.size w w' := by
  have HN : Hid (∀ w, Calls Tryz.prog 25 #[] w fun e w' => e = .returned (.agg #[.func (.func 45) #[] #[], .func (.func 46) #[] #[]]) ∧ Below w.heap.size w w') := fun w => newBitcoin_any w
  have HC : Hid (∀ w', Below w.heap.size w w' → Calls Tryz.prog 31 #[.iface 56 (.agg #[.func (.func 45) #[] #[], .func (.func 46) #[] #[]]), v] w' fun e w'' => e = .returned (.bool (schOk ts && btOk ts)) ∧ Below w'.heap.size w' w'') := fun w' hb => admitsBy_bc ts v w' ((hv.below hb).up hb.size) (hw.below hb) (ET.below (B := 0) he hb)
  clear hv hw he
  generalize (schOk ts && btOk ts) = o at HC ⊢
  go_enter Tryz.func14, Tryz.ntmps14
  go_wp2_with fail
  refine (HN.out _).mono ?_
  rintro e w1 ⟨rfl, hb1⟩
  have HB1 : Hid (Below w.heap.size w w1) := hb1
  clear hb1
  go_wp2_with fail
  refine (HC.out w1 HB1.out).mono ?_
  rintro e w2 ⟨rfl, hb2⟩
  have HB2 : Hid (Below w.heap.size w w2) := HB1.out.trans (hb2.mono HB1.out.size)
  clear hb2
  go_wp2_with fail
  go_ret
  exact ⟨rfl, HB2.out⟩
end Go.Proofs.YtichgnddbnibjaaGreatDoor
