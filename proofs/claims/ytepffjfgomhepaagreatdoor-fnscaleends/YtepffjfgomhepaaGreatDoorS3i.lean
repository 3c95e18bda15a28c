/- The specification's end of a value: contract. -/
import Derived.Test.YtepffjfgomhepaaGreatDoorS3h
namespace Go.Proofs.YtepffjfgomhepaaGreatDoor
open Go.RowKit Go.Sort
set_option linter.unusedVariables false
def vei (o : Option Nat) : Int := (o.map Int.ofNat).getD (-1)
def EnPost (ts : List (Int × Int)) (vs : List It) (f a q : Nat) (w : World) (e : Ending) (w' : World) : Prop := e = .returned (.int .i64 (vei (ve ts vs f a q))) ∧ Below w.heap.size w w'
def EnHyp (ts : List (Int × Int)) (vs : List It) (f : Nat) : Prop :=
  ∀ (a q e0 : Nat) (vt vv : Value) (w : World), f ≤ 7 → en ts f a = some e0 → IsTyps w.heap.size w vt ts → IsItems w.heap.size w vv vs → q ≤ vs.length →
    Calls Tryz.prog 37 #[vt, .int .i64 a, vv, .int .i64 q] w fun e w' => EnPost ts vs f a q w e w'
set_option maxRecDepth 100000 in
set_option maxHeartbeats 2000000 in
theorem end_short (ts : List (Int × Int)) (vs : List It) (f a : Nat) (vt vv : Value) (w : World) (hI : IsItems w.heap.size w vv vs) :
    Calls Tryz.prog 37 #[vt, .int .i64 a, vv, .int .i64 vs.length] w fun e w' => EnPost ts vs f a vs.length w e w' := by
  have HR : Hid (vei (ve ts vs f a vs.length) = -1) := by show _ = _; rw [ve_end (Nat.le_refl _)]; rfl
  obtain ⟨b, o, C, hI, ad, rfl, _⟩ := hI
  rw [Nat.sub_zero, Nat.sub_zero]
  have hsm := hI.small
  clear hI
  unfold EnPost
  go_enter Tryz.func37, Tryz.ntmps37
  go_wp2_with fail
  refine wp_region_quiet_below (by kernel_rfl) (by kernel_rfl) ?_
  repeat (go_big_quiet_step (fail))
  refine wpQuiet_nil ?_
  intro w6 hw'
  obtain ⟨⟨dq, osq⟩, hw''⟩ := hw'
  have hb2 : Below w.heap.size w w6 := by rw [hw'']; exact below_regrown _ dq osq
  clear hw''
  go_wp2_with fail
  go_ret
  exact ⟨by rw [HR.out]; try rfl, hb2⟩
set_option maxRecDepth 100000 in
set_option maxHeartbeats 2000000 in
theorem end_bad (ts : List (Int × Int)) (vs : List It) (f a q : Nat) (vt vv : Value) (w : World) (hT : IsTyps w.heap.size w vt ts) (hI : IsItems w.heap.size w vv vs) (ha : a < ts.length) (hq : q < vs.length) (hok : tyOk ts[a].1 ts[a].2 = true) (hfi : fitsI ts[a].1 ts[a].2 vs[q] = false) :
    Calls Tryz.prog 37 #[vt, .int .i64 a, vv, .int .i64 q] w fun e w' => EnPost ts vs (f + 1) a q w e w' := by
  have HR : Hid (vei (ve ts vs (f + 1) a q) = -1) := by show _ = _; rw [ve_bad ha hq hfi]; rfl
  obtain ⟨b, o, C, hI, hF⟩ := hI
  have hvv := hF.at (by omega)
  rw [Nat.sub_zero, Nat.sub_zero, Nat.zero_mul, Nat.add_zero] at hvv
  have hsm := hI.small
  have hst := hT.small
  obtain ⟨i0, i1, i2⟩ := hI.cells q hq
  obtain ⟨wk, wn, ws⟩ := hI.wf vs[q] (List.getElem_mem hq)
  have HF : Hid (∀ w, Calls Tryz.prog 51 #[.agg #[.int .i64 ts[a].1, .int .i64 ts[a].2], .agg #[.int .i64 vs[q].k, .int .u64 vs[q].n, .string vs[q].s]] w fun e w' => e = .returned (.bool false) ∧ Below w.heap.size w w') := fun w => by rw [← hfi]; exact l3Fits_any _ _ _ w hok wn ws
  obtain ⟨b', o', cap', hv', hb', h1, h2, c0, c1⟩ := hT.at ha
  unfold EnPost
  generalize ts[a].1 = k at *
  generalize ts[a].2 = n at *
  generalize vs[q] = it at *
  obtain ⟨ik, im, is⟩ := it
  simp only at i0 i1 i2 HF
  have r0 := cells_re3 c0
  have r1 := cells_re3 c1
  have s0 := cells_re3 i0
  have s1 := cells_re3 i1
  have s2 := cells_re3 i2
  have hr := hI.room
  have hm := hI.most
  unfold maxLen at h2 hm
  subst hvv hv'
  have hd : decide (vs.length ≤ q) = false := by simp; omega
  clear hI hF hT hfi hok wk wn ws c0 c1 i0 i1 i2
  go_enter Tryz.func37, Tryz.ntmps37
  go_wp2_with fail
  refine wp_region_quiet_below (by kernel_rfl) (by kernel_rfl) ?_
  repeat (go_big_quiet_step (exact Calls.regrown_of (HF.out _)))
  refine wpQuiet_nil ?_
  intro w6 hw'
  obtain ⟨⟨dq, osq⟩, hw''⟩ := hw'
  have hb2 : Below w.heap.size w w6 := by rw [hw'']; exact below_regrown _ dq osq
  clear hw'' r0 r1 s0 s1 s2
  go_wp2_with fail
  go_ret
  exact ⟨by rw [HR.out]; try rfl, hb2⟩
theorem row_at {ts : List (Int × Int)} {f a : Nat} {k : Int} {m : Nat} {w : World} {B g cap : Nat} (h : w.ownsRow B 2 1 (.slice (some ⟨g, 0, none⟩) (np k m) cap) (np k m) (plRow ts f a k m)) {i : Nat} (hi : i < np k m) : w.cell? ⟨g, i, none⟩ = some (.int .i64 (pl ts f a k m i : Nat)) := by
  have := h.cells (g := g) rfl i (.int .i64 (pl ts f a k m i : Nat)) (by unfold plRow; simp [hi])
  have hadd : (⟨g, 0, none⟩ : Addr).add i = ⟨g, i, none⟩ := by unfold Addr.add; split <;> simp_all
  rwa [hadd] at this
set_option maxRecDepth 100000 in
set_option maxHeartbeats 4000000 in
theorem end_yes (ts : List (Int × Int)) (vs : List It) (f : Nat) (hp : EnHyp ts vs f) (a q e0 : Nat) (vt vv : Value) (w : World) (hf7 : f ≤ 7) (hT : IsTyps w.heap.size w vt ts) (hI : IsItems w.heap.size w vv vs) (ha : a < ts.length) (hq : q < vs.length) (hok : tyOk ts[a].1 ts[a].2 = true) (hit : iter (en ts f) (a + 1) (kids ts[a].1 ts[a].2) = some e0) (hfi : fitsI ts[a].1 ts[a].2 vs[q] = true) :
    Calls Tryz.prog 37 #[vt, .int .i64 a, vv, .int .i64 q] w fun e w' => EnPost ts vs (f + 1) a q w e w' := by
  have hfn : fitsN ts[a].1 ts[a].2 vs[q].n = true := by
    have : vs[q].k = ts[a].1 ∧ fitsN ts[a].1 ts[a].2 vs[q].n = true ∧ fitsS ts[a].1 ts[a].2 vs[q].s.size = true := by simpa [fitsI] using hfi
    exact this.2.1
  have HVE : Hid (ve ts vs (f + 1) a q = vit (ve ts vs f) (pl ts f a ts[a].1 vs[q].n) (q + 1) (np ts[a].1 vs[q].n)) := ve_ok ha hq hfi
  have hnp : np ts[a].1 vs[q].n ≤ 20 := np_le hok hfn
  have HPL : Hid (∀ j, j < np ts[a].1 vs[q].n → ∃ e', en ts f (pl ts f a ts[a].1 vs[q].n j) = some e') := fun j hj => pl_ok ha hok hit hfn hj
  have HT : Hid (IsTyps w.heap.size w vt ts) := hT
  have HI : Hid (IsItems w.heap.size w vv vs) := hI
  have HPN : Hid (∀ w', Below w.heap.size w w' → Calls Tryz.prog 40 #[vt, .int .i64 a, .agg #[.int .i64 vs[q].k, .int .u64 vs[q].n, .string vs[q].s]] w' fun e w'' => PlPost ts f a ts[a].1 vs[q].n w' e w'') := fun w' hb => l3Plan_any ts f a e0 vs[q] vt w' hf7 ((hT.below hb).up hb.size) ha hok hit hfn
  have HP : Hid (∀ a q e0 w', en ts f a = some e0 → q ≤ vs.length → Below w.heap.size w w' → Calls Tryz.prog 37 #[vt, .int .i64 a, vv, .int .i64 q] w' fun e w'' => EnPost ts vs f a q w' e w'') := fun a q e0 w' he hq hb => hp a q e0 vt vv w' hf7 he ((hT.below hb).up hb.size) ((hI.below hb).up hb.size) hq
  obtain ⟨b, o, C, hI, hF⟩ := hI
  have hvv := hF.at (by omega)
  rw [Nat.sub_zero, Nat.sub_zero, Nat.zero_mul, Nat.add_zero] at hvv
  have hsm := hI.small
  have hst := hT.small
  have hbB : b < w.heap.size := hI.low.resolve_left (by omega)
  obtain ⟨i0, i1, i2⟩ := hI.cells q hq
  obtain ⟨wk, wn, ws⟩ := hI.wf vs[q] (List.getElem_mem hq)
  have HF : Hid (∀ w, Calls Tryz.prog 51 #[.agg #[.int .i64 ts[a].1, .int .i64 ts[a].2], .agg #[.int .i64 vs[q].k, .int .u64 vs[q].n, .string vs[q].s]] w fun e w' => e = .returned (.bool true) ∧ Below w.heap.size w w') := fun w => by rw [← hfi]; exact l3Fits_any _ _ _ w hok wn ws
  have HLT : Hid (∀ j x, vit (ve ts vs f) (pl ts f a ts[a].1 vs[q].n) (q + 1) j = some x → x ≤ vs.length) := fun j x h => (vit_lt (by omega) h).2
  obtain ⟨b', o', cap', hv', hb', h1, h2, c0, c1⟩ := hT.at ha
  unfold EnPost
  generalize ts[a].1 = k at *
  generalize ts[a].2 = n at *
  generalize vs[q] = it at *
  obtain ⟨ik, im, is⟩ := it
  simp only at i0 i1 i2 HF HVE hnp HPL HPN HLT
  have r0 := cells_re3 c0
  have r1 := cells_re3 c1
  have s0 := cells_re3 i0
  have s1 := cells_re3 i1
  have s2 := cells_re3 i2
  have hr := hI.room
  have hm := hI.most
  unfold maxLen at h2 hm
  subst hvv hv'
  have hd : decide (vs.length ≤ q) = false := by simp; omega
  clear hI hF hT hfi hok wk wn ws c0 c1 hp hit hfn
  go_enter Tryz.func37, Tryz.ntmps37
  go_wp2_with fail
  refine wp_region_quiet_below (by kernel_rfl) (by kernel_rfl) ?_
  repeat (go_big_quiet_step (exact Calls.regrown_of (HF.out _)))
  refine wpQuiet_nil ?_
  intro w6 hw'
  obtain ⟨⟨dq, osq⟩, hw''⟩ := hw'
  have hb6 : Below w.heap.size w w6 := by rw [hw'']; exact below_regrown _ dq osq
  have t0 : w6.cell? ⟨b, o + q * 3, none⟩ = some (.int .i64 ik) := by rw [hb6.cell (p := ⟨b, o + q * 3, none⟩) hbB]; exact i0
  have t1 : w6.cell? ⟨b, o + q * 3 + 1, none⟩ = some (.int .u64 im) := by rw [hb6.cell (p := ⟨b, o + q * 3 + 1, none⟩) hbB]; exact i1
  have t2 : w6.cell? ⟨b, o + q * 3 + 2, none⟩ = some (.string is) := by rw [hb6.cell (p := ⟨b, o + q * 3 + 2, none⟩) hbB]; exact i2
  have HB6 : Hid (Below w.heap.size w w6) := hb6
  clear hw'' r0 r1 s0 s1 s2 i0 i1 i2 hb6 HF
  go_wp2_with fail
  refine (HPN.out w6 HB6.out).mono ?_
  rintro e w7 ⟨vp, rfl, hown, hb7⟩
  have HO : Hid (w7.ownsRow w6.heap.size 2 1 vp (np k im) (plRow ts f a k im)) := hown
  have HB7 : Hid (Below w.heap.size w w7) := HB6.out.trans (hb7.mono (HB6.out.size))
  obtain ⟨N, hN⟩ : ∃ N, np k im = N := ⟨_, rfl⟩
  have HNE : Hid (np k im = N) := hN
  have h2' := hown.2
  rw [hN] at h2' hnp
  have hgl := hown.lt
  clear hown hN t0 t1 t2 hb7
  rcases h2' with ⟨rfl, hn0⟩ | ⟨g, cp, cur, rfl, hg, _, hcp, hcm, _, _⟩
  · have HE : Hid (vei (ve ts vs (f + 1) a q) = ((q + 1 : Nat) : Int)) := by show _ = _; rw [HVE.out, HNE.out, hn0]; rfl
    clear hgl
    go_wp2_with fail
    go_loopg [3, 10] 0 (fun gk x i wr => x = .int .i64 ((q + 1 : Nat) : Int) ∧ i = .int .i64 0 ∧ wr = w7)
    case atStart => exact ⟨by go_num, rfl, rfl⟩
    case round =>
      obtain ⟨rfl, rfl, rfl⟩ := hrel
      go_wp2_with fail
      go_ret
      exact ⟨by rw [HE.out]; simp, HB7.out⟩
  · have hgw : g < w7.heap.size := (hgl g rfl).2
    have HC : Hid (∀ i, i < N → w7.cell? ⟨g, i, none⟩ = some (.int .i64 (pl ts f a k im i : Nat))) := fun i hi => by
      have ho := HO.out
      rw [← HNE.out] at ho hi
      exact row_at ho hi
    clear hgl
    unfold maxLen at hcm
    go_wp2_with fail
    go_loopg [3, 10] N (fun gk x i wr => ∃ j y : Nat, j + gk = N ∧ i = .int .i64 j ∧ x = .int .i64 y ∧ vit (ve ts vs f) (pl ts f a k im) (q + 1) j = some y ∧ Below w7.heap.size w7 wr)
    case atStart => exact ⟨0, q + 1, by omega, rfl, by go_num, rfl, Below.refl _ _⟩
    case round =>
      obtain ⟨j, y, hj', rfl, rfl, hy, hbel⟩ := hrel
      have HJ : Hid (j + gk = N) := hj'
      have HY : Hid (vit (ve ts vs f) (pl ts f a k im) (q + 1) j = some y) := hy
      have hyl : y ≤ vs.length := HLT.out j y hy
      have hj : j ≤ N := by omega
      have HBW : Hid (Below w.heap.size w wr) := HB7.out.trans (hbel.mono HB7.out.size)
      have HBE : Hid (Below w7.heap.size w7 wr) := hbel
      clear hj' hy
      by_cases hjm : j < N
      · obtain ⟨e1, he1⟩ := HPL.out j (by rw [HNE.out]; exact hjm)
        have hpl : pl ts f a k im j ≤ 1048577 := by have := en_lt he1; omega
        have cj : wr.cell? ⟨g, j, none⟩ = some (.int .i64 (pl ts f a k im j : Nat)) := by rw [hbel.cell (p := ⟨g, j, none⟩) hgw]; exact HC.out j hjm
        have HCL := HP.out (pl ts f a k im j) y e1 wr he1 hyl HBW.out
        have HNX : Hid (vit (ve ts vs f) (pl ts f a k im) (q + 1) (j + 1) = ve ts vs f (pl ts f a k im j) y) := by show _ = _; rw [vit_succ, HY.out]; rfl
        clear hbel
        generalize pl ts f a k im j = p at cj hpl HCL HNX
        cases hve : ve ts vs f p y with
        | none =>
          unfold EnPost at HCL
          rw [hve] at HCL HNX
          have HK : Hid (Calls Tryz.prog 37 #[.slice (some ⟨b', o', none⟩) ts.length cap', .int .i64 p, .slice (some ⟨b, o, none⟩) vs.length C, .int .i64 y] wr fun e w' => e = .returned (.int .i64 (-1)) ∧ Below wr.heap.size wr w') := HCL
          have HE : Hid (vei (ve ts vs (f + 1) a q) = -1) := by show _ = _; rw [HVE.out, HNE.out, vit_none HNX.out N (by omega)]; rfl
          clear HCL hve he1
          go_wp2_with fail
          refine Calls.mono HK.out ?_
          rintro e w8 ⟨rfl, hb8⟩
          have HB8 : Hid (Below w.heap.size w w8) := HBW.out.trans (hb8.mono HBW.out.size)
          clear hb8 cj
          go_wp2_with fail
          go_ret
          exact ⟨by rw [HE.out]; first | rfl | simp, HB8.out⟩
        | some y1 =>
          unfold EnPost at HCL
          rw [hve] at HCL HNX
          have HK : Hid (Calls Tryz.prog 37 #[.slice (some ⟨b', o', none⟩) ts.length cap', .int .i64 p, .slice (some ⟨b, o, none⟩) vs.length C, .int .i64 y] wr fun e w' => e = .returned (.int .i64 (y1 : Int)) ∧ Below wr.heap.size wr w') := HCL
          have hy1 : y1 ≤ vs.length := (ve_lt hve).2
          clear HCL hve he1
          go_wp2_with fail
          refine Calls.mono HK.out ?_
          rintro e w8 ⟨rfl, hb8⟩
          have HB8 : Hid (Below w7.heap.size w7 w8) := HBE.out.trans (hb8.mono HBE.out.size)
          clear hb8 cj
          go_wp2_with fail
          go_roundg (gk - 1)
          case rel => exact ⟨j + 1, y1, by have := HJ.out; omega, by go_num, rfl, HNX.out, HB8.out⟩
          case measure => have := HJ.out; omega
      · have ej : j = N := by omega
        subst ej
        have HE : Hid (vei (ve ts vs (f + 1) a q) = (y : Int)) := by show _ = _; rw [HVE.out, HNE.out, HY.out]; rfl
        clear hbel
        go_wp2_with fail
        go_ret
        exact ⟨by rw [HE.out]; first | rfl | simp, HBW.out⟩
theorem l3End_all (ts : List (Int × Int)) (vs : List It) : ∀ f, EnHyp ts vs f := by
  intro f
  induction f with
  | zero => intro a q e0 vt vv w _ h; cases h
  | succ f ih =>
    intro a q e0 vt vv w hf7 he hT hI hq
    obtain ⟨ha, hok, hit⟩ := en_inv he
    by_cases hqe : q < vs.length
    · cases hfi : fitsI ts[a].1 ts[a].2 vs[q] with
      | true => exact end_yes ts vs f ih a q e0 vt vv w (by omega) hT hI ha hqe hok hit hfi
      | false => exact end_bad ts vs f a q vt vv w hT hI ha hqe hok hfi
    · have : q = vs.length := by omega
      subst this
      exact end_short ts vs (f + 1) a vt vv w hI
end Go.Proofs.YtepffjfgomhepaaGreatDoor
