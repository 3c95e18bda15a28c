/- The specification's SSZ of a value: contracts. -/
import Derived.Test.YtjpdhenmhffmeaaDoorS9f
import Derived.Test.YtjpdhenmhffmeaaDoorS3j
namespace Go.Proofs.YtjpdhenmhffmeaaDoor
open Go.RowKit Go.Sort
set_option linter.unusedVariables false
theorem ba_ss (l : List UInt8) : ByteArray.size ⟨l.toArray⟩ = l.length := by show l.toArray.size = _; simp
theorem cell_1 {w : World} {u i : Nat} {v : Value} (h : w.cell? ⟨u, i, none⟩ = some v) (hu : u < w.heap.size) (o : Obj) : (w.alloc o).cell? ⟨u, i, none⟩ = some v := by
  rw [(bel1 w o).cell (p := ⟨u, i, none⟩) hu]; exact h
set_option maxRecDepth 100000 in
set_option maxHeartbeats 2000000 in
theorem l5Heads_any (ts : List (Int × Int)) (f : Nat) (ps : Nat → Nat) (N g cp : Nat) (vt : Value) (w : World) (hf7 : f ≤ 7) (hN : N ≤ 20) (hcp : N ≤ cp) (hcm : cp ≤ 9223372036854775807) (hgl : g < w.heap.size) (hT : IsTyps w.heap.size w vt ts) (hc : ∀ i, i < N → w.cell? ⟨g, i, none⟩ = some (.int .i64 (ps i : Nat))) (he : ∀ i, i < N → ∃ e, en ts f (ps i) = some e) :
    Calls Tryd.prog 50 #[vt, .slice (some ⟨g, 0, none⟩) N cp] w fun e w' => e = .returned (.int .i64 (frt (fun j => slt (szT ts f (ps j))) N)) ∧ Below w.heap.size w w' := by
  have HC : Hid (∀ i, i < N → w.cell? ⟨g, i, none⟩ = some (.int .i64 (ps i : Nat))) := hc
  have HS : Hid (∀ i w', i < N → Below w.heap.size w w' → Calls Tryd.prog 51 #[vt, .int .i64 (ps i : Nat)] w' fun e w'' => e = .returned (.int .i64 (szT ts f (ps i))) ∧ Below w'.heap.size w' w'') := fun i w' hi hb => by
    obtain ⟨e, he'⟩ := he i hi
    exact l5Size_any ts f (ps i) e vt w' hf7 he' ((hT.below hb).up hb.size)
  have HZ : Hid (∀ i, -1 ≤ szT ts f (ps i) ∧ szT ts f (ps i) ≤ 134217728) := fun i => szT_small hf7
  have HPS : Hid (∀ i, i < N → ps i ≤ 1048577) := fun i hi => by obtain ⟨e, he'⟩ := he i hi; have := en_lt he'; have := hT.small; omega
  obtain ⟨sl, hsl⟩ : ∃ sl : Nat → Nat, (fun j => slt (szT ts f (ps j))) = sl := ⟨_, rfl⟩
  have HSL : Hid (∀ j, slt (szT ts f (ps j)) = sl j) := fun j => by rw [← hsl]
  have HFR : Hid (∀ j, j ≤ N → frt sl j ≤ j * 134217728) := frt_le (n := N) (fun j _ => by rw [← hsl]; exact slt_le hf7)
  rw [hsl]
  clear hc he hT hsl
  go_enter Tryd.func50, Tryd.ntmps50
  go_wp2_with fail
  go_loopg [5, 6] N (fun gk s i wr => ∃ j : Nat, j + gk = N ∧ i = .int .i64 j ∧ s = .int .i64 (frt sl j : Nat) ∧ Below w.heap.size w wr)
  case atStart => exact ⟨0, by omega, rfl, rfl, Below.refl _ _⟩
  case round =>
    obtain ⟨j, hj', rfl, rfl, hbel⟩ := hrel
    have HJ : Hid (j + gk = N) := hj'
    have hj : j ≤ N := by omega
    have HBW : Hid (Below w.heap.size w wr) := hbel
    have hfr := HFR.out j hj
    have hfr2 : j * 134217728 ≤ 20 * 134217728 := Nat.mul_le_mul_right _ (by omega)
    clear hj'
    by_cases hjM : j < N
    · have cj : wr.cell? ⟨g, j, none⟩ = some (.int .i64 (ps j : Nat)) := by rw [hbel.cell (p := ⟨g, j, none⟩) hgl]; exact HC.out j hjM
      have HSC := HS.out j wr hjM hbel
      have hz := HZ.out j
      have hpj := HPS.out j hjM
      have hsj := HSL.out j
      have HFS : Hid (frt sl (j + 1) = frt sl j + sl j) := rfl
      obtain ⟨z, hze⟩ : ∃ z, szT ts f (ps j) = z := ⟨_, rfl⟩
      rw [hze] at HSC hz hsj
      generalize ps j = p at cj HSC hpj
      have HSC' : Hid (Calls Tryd.prog 51 #[vt, .int .i64 (p : Nat)] wr fun e w'' => e = .returned (.int .i64 z) ∧ Below wr.heap.size wr w'') := HSC
      generalize frt sl j = fj at *
      clear HSC hze hbel
      by_cases hzv : z < 0
      · have e4 : sl j = 4 := by rw [← hsj]; exact slt_var hzv
        have HE : Hid (frt sl (j + 1) = fj + 4) := by rw [HFS.out, e4]; exact rfl
        clear hsj e4
        go_wp2_with fail
        refine Calls.mono HSC'.out ?_
        rintro e w1 ⟨rfl, hb1⟩
        have HB1 : Hid (Below w.heap.size w w1) := HBW.out.trans (hb1.mono HBW.out.size)
        clear hb1
        go_wp2_with fail
        go_roundg (gk - 1)
        case rel => exact ⟨j + 1, by have := HJ.out; omega, by go_num, by rw [HE.out]; go_num, HB1.out⟩
        case measure => have := HJ.out; omega
      · have e4 : (sl j : Int) = z := by rw [← hsj]; exact slt_fix hzv
        have HE : Hid (frt sl (j + 1) = fj + sl j) := HFS.out
        have hzn : sl j ≤ 134217728 := by omega
        obtain ⟨zn, hzne⟩ : ∃ zn, sl j = zn := ⟨_, rfl⟩
        rw [hzne] at e4 HE hzn
        subst e4
        have hzd : decide ((zn : Int) < 0) = false := by simp
        clear hsj hz hzv hzne
        go_wp2_with fail
        refine Calls.mono HSC'.out ?_
        rintro e w1 ⟨rfl, hb1⟩
        have HB1 : Hid (Below w.heap.size w w1) := HBW.out.trans (hb1.mono HBW.out.size)
        clear hb1
        go_wp2_with fail
        go_roundg (gk - 1)
        case rel => exact ⟨j + 1, by have := HJ.out; omega, by go_num, by rw [HE.out]; go_num, HB1.out⟩
        case measure => have := HJ.out; omega
    · have ej : j = N := by omega
      have HF : Hid (frt sl N = frt sl j) := by rw [ej]; exact rfl
      clear hbel ej
      generalize frt sl j = fj at *
      go_wp2_with fail
      go_ret
      exact ⟨by rw [HF.out]; try rfl, HBW.out⟩
/-- The contract of l5Enc, f levels being left. -/
def E5Hyp (ts : List (Int × Int)) (vs : List It) (f : Nat) : Prop :=
  ∀ (a q q' e0 : Nat) (vt vv : Value) (w : World), f ≤ 7 → en ts f a = some e0 → ve ts vs f a q = some q' → IsTyps w.heap.size w vt ts → IsItems w.heap.size w vv vs →
    Calls Tryd.prog 26 #[vt, .int .i64 a, vv, .int .i64 q] w fun e w' => e = .returned (.tuple #[.string ⟨(ssE ts vs f a q).toArray⟩, .int .i64 q']) ∧ Below w.heap.size w w'
set_option maxRecDepth 100000 in
set_option maxHeartbeats 4000000 in
theorem e5_1_8 (ts : List (Int × Int)) (vs : List It) (a q : Nat) (vt vv : Value) (w : World) (hT : IsTyps w.heap.size w vt ts) (hI : IsItems w.heap.size w vv vs) (ha : a < ts.length) (hq : q < vs.length) (hl : vs.length ≤ 200) (hvk : vs[q].k = ts[a].1) (hk : ts[a].1 = 1 ∧ ts[a].2 = 8) :
    Calls Tryd.prog 26 #[vt, .int .i64 a, vv, .int .i64 q] w fun e w' => e = .returned (.tuple #[.string ⟨(ssOwn ts[a].2 vs[q]).toArray⟩, .int .i64 ((q + 1 : Nat) : Int)]) ∧ Below w.heap.size w w' := by
  obtain ⟨b, o, C, hI, hF⟩ := hI
  have hvv := hF.at (by omega)
  rw [Nat.sub_zero, Nat.sub_zero, Nat.zero_mul, Nat.add_zero] at hvv
  have hsm := hI.small
  have hst := hT.small
  have hbB : b < w.heap.size := hI.low.resolve_left (by omega)
  obtain ⟨i0, i1, i2⟩ := hI.cells q hq
  obtain ⟨wk, wn, ws⟩ := hI.wf vs[q] (List.getElem_mem hq)
  obtain ⟨b', o', cap', hv', hb', h1, h2, c0, c1⟩ := hT.at ha
  have HOE : Hid ((⟨(leL vs[q].n 1).toArray⟩ : ByteArray) = ⟨(ssOwn ts[a].2 vs[q]).toArray⟩) := by show _ = _; unfold ssOwn; rw [if_pos (by omega), hvk, hk.1, hk.2]; rfl
  have hr := hI.room
  have hm := hI.most
  unfold maxLen at h2 hm
  obtain ⟨OW, hOW⟩ : ∃ OW : ByteArray, (⟨(ssOwn ts[a].2 vs[q]).toArray⟩ : ByteArray) = OW := ⟨_, rfl⟩
  rw [hOW] at HOE ⊢
  generalize ts[a].1 = k at *
  generalize ts[a].2 = n at *
  generalize vs[q] = it at *
  obtain ⟨ik, im, is⟩ := it
  simp only at i0 i1 i2 hvk hk HOE wn ws
  subst hvk
  subst hvv hv'
  have hql : q ≤ 200 := by omega
  clear hI hF hT wk hOW
  obtain ⟨rfl, rfl⟩ := hk
  have HL : Hid (∀ w, Calls Tryd.prog 49 #[.int .u64 im, .int .i64 1] w fun e w' => e = .returned (.string ⟨(leL im 1).toArray⟩) ∧ Below w.heap.size w w') := fun w => l1Le_any im 1 w wn (by omega)
  have r0 := cells_re3 (cell_1 c0 hb' (.cells #[.int .i64 1, .int .u64 (im : Int), .string is] 40))
  have r1 := cells_re3 (cell_1 c1 hb' (.cells #[.int .i64 1, .int .u64 (im : Int), .string is] 40))
  have s0 := cells_re3 (w := (w.alloc (.cells #[.int .i64 1, .int .u64 (im : Int), .string is] 40))) (a := ⟨w.heap.size, 0, none⟩) (v := .int .i64 1) (by simp [go_sem])
  have s1 := cells_re3 (w := (w.alloc (.cells #[.int .i64 1, .int .u64 (im : Int), .string is] 40))) (a := ⟨w.heap.size, 1, none⟩) (v := .int .u64 (im : Int)) (by simp [go_sem])
  have s2 := cells_re3 (w := (w.alloc (.cells #[.int .i64 1, .int .u64 (im : Int), .string is] 40))) (a := ⟨w.heap.size, 2, none⟩) (v := .string is) (by simp [go_sem])
  go_enter Tryd.func26, Tryd.ntmps26
  go_wp2_with fail
  refine wp_region_quiet_below (by kernel_rfl) (by kernel_rfl) ?_
  repeat (go_big_quiet_step (exact Calls.regrown_of (HL.out _)))
  refine wpQuiet_nil ?_
  intro w2 hw'
  obtain ⟨⟨dq, osq⟩, hw''⟩ := hw'
  have HB2 : Hid (Below w.heap.size w w2) := by rw [hw'']; exact (bel1 _ _).trans ((below_regrown _ dq osq).mono (by simp))
  clear hw'' r0 r1 s0 s1 s2
  go_wp2_with fail
  go_ret2
  exact ⟨by rw [← HOE.out]; try rfl, HB2.out⟩
set_option maxRecDepth 100000 in
set_option maxHeartbeats 4000000 in
theorem e5_1_16 (ts : List (Int × Int)) (vs : List It) (a q : Nat) (vt vv : Value) (w : World) (hT : IsTyps w.heap.size w vt ts) (hI : IsItems w.heap.size w vv vs) (ha : a < ts.length) (hq : q < vs.length) (hl : vs.length ≤ 200) (hvk : vs[q].k = ts[a].1) (hk : ts[a].1 = 1 ∧ ts[a].2 = 16) :
    Calls Tryd.prog 26 #[vt, .int .i64 a, vv, .int .i64 q] w fun e w' => e = .returned (.tuple #[.string ⟨(ssOwn ts[a].2 vs[q]).toArray⟩, .int .i64 ((q + 1 : Nat) : Int)]) ∧ Below w.heap.size w w' := by
  obtain ⟨b, o, C, hI, hF⟩ := hI
  have hvv := hF.at (by omega)
  rw [Nat.sub_zero, Nat.sub_zero, Nat.zero_mul, Nat.add_zero] at hvv
  have hsm := hI.small
  have hst := hT.small
  have hbB : b < w.heap.size := hI.low.resolve_left (by omega)
  obtain ⟨i0, i1, i2⟩ := hI.cells q hq
  obtain ⟨wk, wn, ws⟩ := hI.wf vs[q] (List.getElem_mem hq)
  obtain ⟨b', o', cap', hv', hb', h1, h2, c0, c1⟩ := hT.at ha
  have HOE : Hid ((⟨(leL vs[q].n 2).toArray⟩ : ByteArray) = ⟨(ssOwn ts[a].2 vs[q]).toArray⟩) := by show _ = _; unfold ssOwn; rw [if_pos (by omega), hvk, hk.1, hk.2]; rfl
  have hr := hI.room
  have hm := hI.most
  unfold maxLen at h2 hm
  obtain ⟨OW, hOW⟩ : ∃ OW : ByteArray, (⟨(ssOwn ts[a].2 vs[q]).toArray⟩ : ByteArray) = OW := ⟨_, rfl⟩
  rw [hOW] at HOE ⊢
  generalize ts[a].1 = k at *
  generalize ts[a].2 = n at *
  generalize vs[q] = it at *
  obtain ⟨ik, im, is⟩ := it
  simp only at i0 i1 i2 hvk hk HOE wn ws
  subst hvk
  subst hvv hv'
  have hql : q ≤ 200 := by omega
  clear hI hF hT wk hOW
  obtain ⟨rfl, rfl⟩ := hk
  have HL : Hid (∀ w, Calls Tryd.prog 49 #[.int .u64 im, .int .i64 2] w fun e w' => e = .returned (.string ⟨(leL im 2).toArray⟩) ∧ Below w.heap.size w w') := fun w => l1Le_any im 2 w wn (by omega)
  have r0 := cells_re3 (cell_1 c0 hb' (.cells #[.int .i64 1, .int .u64 (im : Int), .string is] 40))
  have r1 := cells_re3 (cell_1 c1 hb' (.cells #[.int .i64 1, .int .u64 (im : Int), .string is] 40))
  have s0 := cells_re3 (w := (w.alloc (.cells #[.int .i64 1, .int .u64 (im : Int), .string is] 40))) (a := ⟨w.heap.size, 0, none⟩) (v := .int .i64 1) (by simp [go_sem])
  have s1 := cells_re3 (w := (w.alloc (.cells #[.int .i64 1, .int .u64 (im : Int), .string is] 40))) (a := ⟨w.heap.size, 1, none⟩) (v := .int .u64 (im : Int)) (by simp [go_sem])
  have s2 := cells_re3 (w := (w.alloc (.cells #[.int .i64 1, .int .u64 (im : Int), .string is] 40))) (a := ⟨w.heap.size, 2, none⟩) (v := .string is) (by simp [go_sem])
  go_enter Tryd.func26, Tryd.ntmps26
  go_wp2_with fail
  refine wp_region_quiet_below (by kernel_rfl) (by kernel_rfl) ?_
  repeat (go_big_quiet_step (exact Calls.regrown_of (HL.out _)))
  refine wpQuiet_nil ?_
  intro w2 hw'
  obtain ⟨⟨dq, osq⟩, hw''⟩ := hw'
  have HB2 : Hid (Below w.heap.size w w2) := by rw [hw'']; exact (bel1 _ _).trans ((below_regrown _ dq osq).mono (by simp))
  clear hw'' r0 r1 s0 s1 s2
  go_wp2_with fail
  go_ret2
  exact ⟨by rw [← HOE.out]; try rfl, HB2.out⟩
set_option maxRecDepth 100000 in
set_option maxHeartbeats 4000000 in
theorem e5_1_32 (ts : List (Int × Int)) (vs : List It) (a q : Nat) (vt vv : Value) (w : World) (hT : IsTyps w.heap.size w vt ts) (hI : IsItems w.heap.size w vv vs) (ha : a < ts.length) (hq : q < vs.length) (hl : vs.length ≤ 200) (hvk : vs[q].k = ts[a].1) (hk : ts[a].1 = 1 ∧ ts[a].2 = 32) :
    Calls Tryd.prog 26 #[vt, .int .i64 a, vv, .int .i64 q] w fun e w' => e = .returned (.tuple #[.string ⟨(ssOwn ts[a].2 vs[q]).toArray⟩, .int .i64 ((q + 1 : Nat) : Int)]) ∧ Below w.heap.size w w' := by
  obtain ⟨b, o, C, hI, hF⟩ := hI
  have hvv := hF.at (by omega)
  rw [Nat.sub_zero, Nat.sub_zero, Nat.zero_mul, Nat.add_zero] at hvv
  have hsm := hI.small
  have hst := hT.small
  have hbB : b < w.heap.size := hI.low.resolve_left (by omega)
  obtain ⟨i0, i1, i2⟩ := hI.cells q hq
  obtain ⟨wk, wn, ws⟩ := hI.wf vs[q] (List.getElem_mem hq)
  obtain ⟨b', o', cap', hv', hb', h1, h2, c0, c1⟩ := hT.at ha
  have HOE : Hid ((⟨(leL vs[q].n 4).toArray⟩ : ByteArray) = ⟨(ssOwn ts[a].2 vs[q]).toArray⟩) := by show _ = _; unfold ssOwn; rw [if_pos (by omega), hvk, hk.1, hk.2]; rfl
  have hr := hI.room
  have hm := hI.most
  unfold maxLen at h2 hm
  obtain ⟨OW, hOW⟩ : ∃ OW : ByteArray, (⟨(ssOwn ts[a].2 vs[q]).toArray⟩ : ByteArray) = OW := ⟨_, rfl⟩
  rw [hOW] at HOE ⊢
  generalize ts[a].1 = k at *
  generalize ts[a].2 = n at *
  generalize vs[q] = it at *
  obtain ⟨ik, im, is⟩ := it
  simp only at i0 i1 i2 hvk hk HOE wn ws
  subst hvk
  subst hvv hv'
  have hql : q ≤ 200 := by omega
  clear hI hF hT wk hOW
  obtain ⟨rfl, rfl⟩ := hk
  have HL : Hid (∀ w, Calls Tryd.prog 49 #[.int .u64 im, .int .i64 4] w fun e w' => e = .returned (.string ⟨(leL im 4).toArray⟩) ∧ Below w.heap.size w w') := fun w => l1Le_any im 4 w wn (by omega)
  have r0 := cells_re3 (cell_1 c0 hb' (.cells #[.int .i64 1, .int .u64 (im : Int), .string is] 40))
  have r1 := cells_re3 (cell_1 c1 hb' (.cells #[.int .i64 1, .int .u64 (im : Int), .string is] 40))
  have s0 := cells_re3 (w := (w.alloc (.cells #[.int .i64 1, .int .u64 (im : Int), .string is] 40))) (a := ⟨w.heap.size, 0, none⟩) (v := .int .i64 1) (by simp [go_sem])
  have s1 := cells_re3 (w := (w.alloc (.cells #[.int .i64 1, .int .u64 (im : Int), .string is] 40))) (a := ⟨w.heap.size, 1, none⟩) (v := .int .u64 (im : Int)) (by simp [go_sem])
  have s2 := cells_re3 (w := (w.alloc (.cells #[.int .i64 1, .int .u64 (im : Int), .string is] 40))) (a := ⟨w.heap.size, 2, none⟩) (v := .string is) (by simp [go_sem])
  go_enter Tryd.func26, Tryd.ntmps26
  go_wp2_with fail
  refine wp_region_quiet_below (by kernel_rfl) (by kernel_rfl) ?_
  repeat (go_big_quiet_step (exact Calls.regrown_of (HL.out _)))
  refine wpQuiet_nil ?_
  intro w2 hw'
  obtain ⟨⟨dq, osq⟩, hw''⟩ := hw'
  have HB2 : Hid (Below w.heap.size w w2) := by rw [hw'']; exact (bel1 _ _).trans ((below_regrown _ dq osq).mono (by simp))
  clear hw'' r0 r1 s0 s1 s2
  go_wp2_with fail
  go_ret2
  exact ⟨by rw [← HOE.out]; try rfl, HB2.out⟩
set_option maxRecDepth 100000 in
set_option maxHeartbeats 4000000 in
theorem e5_1_64 (ts : List (Int × Int)) (vs : List It) (a q : Nat) (vt vv : Value) (w : World) (hT : IsTyps w.heap.size w vt ts) (hI : IsItems w.heap.size w vv vs) (ha : a < ts.length) (hq : q < vs.length) (hl : vs.length ≤ 200) (hvk : vs[q].k = ts[a].1) (hk : ts[a].1 = 1 ∧ ts[a].2 = 64) :
    Calls Tryd.prog 26 #[vt, .int .i64 a, vv, .int .i64 q] w fun e w' => e = .returned (.tuple #[.string ⟨(ssOwn ts[a].2 vs[q]).toArray⟩, .int .i64 ((q + 1 : Nat) : Int)]) ∧ Below w.heap.size w w' := by
  obtain ⟨b, o, C, hI, hF⟩ := hI
  have hvv := hF.at (by omega)
  rw [Nat.sub_zero, Nat.sub_zero, Nat.zero_mul, Nat.add_zero] at hvv
  have hsm := hI.small
  have hst := hT.small
  have hbB : b < w.heap.size := hI.low.resolve_left (by omega)
  obtain ⟨i0, i1, i2⟩ := hI.cells q hq
  obtain ⟨wk, wn, ws⟩ := hI.wf vs[q] (List.getElem_mem hq)
  obtain ⟨b', o', cap', hv', hb', h1, h2, c0, c1⟩ := hT.at ha
  have HOE : Hid ((⟨(leL vs[q].n 8).toArray⟩ : ByteArray) = ⟨(ssOwn ts[a].2 vs[q]).toArray⟩) := by show _ = _; unfold ssOwn; rw [if_pos (by omega), hvk, hk.1, hk.2]; rfl
  have hr := hI.room
  have hm := hI.most
  unfold maxLen at h2 hm
  obtain ⟨OW, hOW⟩ : ∃ OW : ByteArray, (⟨(ssOwn ts[a].2 vs[q]).toArray⟩ : ByteArray) = OW := ⟨_, rfl⟩
  rw [hOW] at HOE ⊢
  generalize ts[a].1 = k at *
  generalize ts[a].2 = n at *
  generalize vs[q] = it at *
  obtain ⟨ik, im, is⟩ := it
  simp only at i0 i1 i2 hvk hk HOE wn ws
  subst hvk
  subst hvv hv'
  have hql : q ≤ 200 := by omega
  clear hI hF hT wk hOW
  obtain ⟨rfl, rfl⟩ := hk
  have HL : Hid (∀ w, Calls Tryd.prog 49 #[.int .u64 im, .int .i64 8] w fun e w' => e = .returned (.string ⟨(leL im 8).toArray⟩) ∧ Below w.heap.size w w') := fun w => l1Le_any im 8 w wn (by omega)
  have r0 := cells_re3 (cell_1 c0 hb' (.cells #[.int .i64 1, .int .u64 (im : Int), .string is] 40))
  have r1 := cells_re3 (cell_1 c1 hb' (.cells #[.int .i64 1, .int .u64 (im : Int), .string is] 40))
  have s0 := cells_re3 (w := (w.alloc (.cells #[.int .i64 1, .int .u64 (im : Int), .string is] 40))) (a := ⟨w.heap.size, 0, none⟩) (v := .int .i64 1) (by simp [go_sem])
  have s1 := cells_re3 (w := (w.alloc (.cells #[.int .i64 1, .int .u64 (im : Int), .string is] 40))) (a := ⟨w.heap.size, 1, none⟩) (v := .int .u64 (im : Int)) (by simp [go_sem])
  have s2 := cells_re3 (w := (w.alloc (.cells #[.int .i64 1, .int .u64 (im : Int), .string is] 40))) (a := ⟨w.heap.size, 2, none⟩) (v := .string is) (by simp [go_sem])
  go_enter Tryd.func26, Tryd.ntmps26
  go_wp2_with fail
  refine wp_region_quiet_below (by kernel_rfl) (by kernel_rfl) ?_
  repeat (go_big_quiet_step (exact Calls.regrown_of (HL.out _)))
  refine wpQuiet_nil ?_
  intro w2 hw'
  obtain ⟨⟨dq, osq⟩, hw''⟩ := hw'
  have HB2 : Hid (Below w.heap.size w w2) := by rw [hw'']; exact (bel1 _ _).trans ((below_regrown _ dq osq).mono (by simp))
  clear hw'' r0 r1 s0 s1 s2
  go_wp2_with fail
  go_ret2
  exact ⟨by rw [← HOE.out]; try rfl, HB2.out⟩
set_option maxRecDepth 100000 in
set_option maxHeartbeats 4000000 in
theorem e5_2 (ts : List (Int × Int)) (vs : List It) (a q : Nat) (vt vv : Value) (w : World) (hT : IsTyps w.heap.size w vt ts) (hI : IsItems w.heap.size w vv vs) (ha : a < ts.length) (hq : q < vs.length) (hl : vs.length ≤ 200) (hvk : vs[q].k = ts[a].1) (hk : ts[a].1 = 2) :
    Calls Tryd.prog 26 #[vt, .int .i64 a, vv, .int .i64 q] w fun e w' => e = .returned (.tuple #[.string ⟨(ssOwn ts[a].2 vs[q]).toArray⟩, .int .i64 ((q + 1 : Nat) : Int)]) ∧ Below w.heap.size w w' := by
  obtain ⟨b, o, C, hI, hF⟩ := hI
  have hvv := hF.at (by omega)
  rw [Nat.sub_zero, Nat.sub_zero, Nat.zero_mul, Nat.add_zero] at hvv
  have hsm := hI.small
  have hst := hT.small
  have hbB : b < w.heap.size := hI.low.resolve_left (by omega)
  obtain ⟨i0, i1, i2⟩ := hI.cells q hq
  obtain ⟨wk, wn, ws⟩ := hI.wf vs[q] (List.getElem_mem hq)
  obtain ⟨b', o', cap', hv', hb', h1, h2, c0, c1⟩ := hT.at ha
  have HOE : Hid ((⟨(leL vs[q].n 1).toArray⟩ : ByteArray) = ⟨(ssOwn ts[a].2 vs[q]).toArray⟩) := by show _ = _; unfold ssOwn; rw [if_pos (by omega), hvk, hk]; rfl
  have hr := hI.room
  have hm := hI.most
  unfold maxLen at h2 hm
  obtain ⟨OW, hOW⟩ : ∃ OW : ByteArray, (⟨(ssOwn ts[a].2 vs[q]).toArray⟩ : ByteArray) = OW := ⟨_, rfl⟩
  rw [hOW] at HOE ⊢
  generalize ts[a].1 = k at *
  generalize ts[a].2 = n at *
  generalize vs[q] = it at *
  obtain ⟨ik, im, is⟩ := it
  simp only at i0 i1 i2 hvk hk HOE wn ws
  subst hvk
  subst hvv hv'
  have hql : q ≤ 200 := by omega
  clear hI hF hT wk hOW
  subst hk
  have HL : Hid (∀ w, Calls Tryd.prog 49 #[.int .u64 im, .int .i64 1] w fun e w' => e = .returned (.string ⟨(leL im 1).toArray⟩) ∧ Below w.heap.size w w') := fun w => l1Le_any im 1 w wn (by omega)
  go_enter Tryd.func26, Tryd.ntmps26
  go_wp2_with fail
  refine (HL.out _).mono ?_
  rintro e w2 ⟨rfl, hb2⟩
  have HB2 : Hid (Below w.heap.size w w2) := (bel1 _ _).trans (hb2.mono (by simp))
  clear hb2
  go_wp2_with fail
  go_ret2
  exact ⟨by rw [← HOE.out]; try rfl, HB2.out⟩
set_option maxRecDepth 100000 in
set_option maxHeartbeats 4000000 in
theorem e5_3 (ts : List (Int × Int)) (vs : List It) (a q : Nat) (vt vv : Value) (w : World) (hT : IsTyps w.heap.size w vt ts) (hI : IsItems w.heap.size w vv vs) (ha : a < ts.length) (hq : q < vs.length) (hl : vs.length ≤ 200) (hvk : vs[q].k = ts[a].1) (hk : ts[a].1 = 3) :
    Calls Tryd.prog 26 #[vt, .int .i64 a, vv, .int .i64 q] w fun e w' => e = .returned (.tuple #[.string ⟨(ssOwn ts[a].2 vs[q]).toArray⟩, .int .i64 ((q + 1 : Nat) : Int)]) ∧ Below w.heap.size w w' := by
  obtain ⟨b, o, C, hI, hF⟩ := hI
  have hvv := hF.at (by omega)
  rw [Nat.sub_zero, Nat.sub_zero, Nat.zero_mul, Nat.add_zero] at hvv
  have hsm := hI.small
  have hst := hT.small
  have hbB : b < w.heap.size := hI.low.resolve_left (by omega)
  obtain ⟨i0, i1, i2⟩ := hI.cells q hq
  obtain ⟨wk, wn, ws⟩ := hI.wf vs[q] (List.getElem_mem hq)
  obtain ⟨b', o', cap', hv', hb', h1, h2, c0, c1⟩ := hT.at ha
  have HOE : Hid (vs[q].s = ⟨(ssOwn ts[a].2 vs[q]).toArray⟩) := by show _ = _; unfold ssOwn; rw [if_neg (by omega), if_pos (by omega)]
  have hr := hI.room
  have hm := hI.most
  unfold maxLen at h2 hm
  obtain ⟨OW, hOW⟩ : ∃ OW : ByteArray, (⟨(ssOwn ts[a].2 vs[q]).toArray⟩ : ByteArray) = OW := ⟨_, rfl⟩
  rw [hOW] at HOE ⊢
  generalize ts[a].1 = k at *
  generalize ts[a].2 = n at *
  generalize vs[q] = it at *
  obtain ⟨ik, im, is⟩ := it
  simp only at i0 i1 i2 hvk hk HOE wn ws
  subst hvk
  subst hvv hv'
  have hql : q ≤ 200 := by omega
  clear hI hF hT wk hOW
  subst hk
  have HB2 : Hid (Below w.heap.size w (w.alloc (.cells #[.int .i64 3, .int .u64 (im : Int), .string is] 40))) := bel1 _ _
  go_enter Tryd.func26, Tryd.ntmps26
  go_wp2_with fail
  go_ret2
  exact ⟨by rw [← HOE.out]; try rfl, HB2.out⟩
set_option maxRecDepth 100000 in
set_option maxHeartbeats 4000000 in
theorem e5_4 (ts : List (Int × Int)) (vs : List It) (a q : Nat) (vt vv : Value) (w : World) (hT : IsTyps w.heap.size w vt ts) (hI : IsItems w.heap.size w vv vs) (ha : a < ts.length) (hq : q < vs.length) (hl : vs.length ≤ 200) (hvk : vs[q].k = ts[a].1) (hk : ts[a].1 = 4) :
    Calls Tryd.prog 26 #[vt, .int .i64 a, vv, .int .i64 q] w fun e w' => e = .returned (.tuple #[.string ⟨(ssOwn ts[a].2 vs[q]).toArray⟩, .int .i64 ((q + 1 : Nat) : Int)]) ∧ Below w.heap.size w w' := by
  obtain ⟨b, o, C, hI, hF⟩ := hI
  have hvv := hF.at (by omega)
  rw [Nat.sub_zero, Nat.sub_zero, Nat.zero_mul, Nat.add_zero] at hvv
  have hsm := hI.small
  have hst := hT.small
  have hbB : b < w.heap.size := hI.low.resolve_left (by omega)
  obtain ⟨i0, i1, i2⟩ := hI.cells q hq
  obtain ⟨wk, wn, ws⟩ := hI.wf vs[q] (List.getElem_mem hq)
  obtain ⟨b', o', cap', hv', hb', h1, h2, c0, c1⟩ := hT.at ha
  have HOE : Hid (vs[q].s = ⟨(ssOwn ts[a].2 vs[q]).toArray⟩) := by show _ = _; unfold ssOwn; rw [if_neg (by omega), if_pos (by omega)]
  have hr := hI.room
  have hm := hI.most
  unfold maxLen at h2 hm
  obtain ⟨OW, hOW⟩ : ∃ OW : ByteArray, (⟨(ssOwn ts[a].2 vs[q]).toArray⟩ : ByteArray) = OW := ⟨_, rfl⟩
  rw [hOW] at HOE ⊢
  generalize ts[a].1 = k at *
  generalize ts[a].2 = n at *
  generalize vs[q] = it at *
  obtain ⟨ik, im, is⟩ := it
  simp only at i0 i1 i2 hvk hk HOE wn ws
  subst hvk
  subst hvv hv'
  have hql : q ≤ 200 := by omega
  clear hI hF hT wk hOW
  subst hk
  have HB2 : Hid (Below w.heap.size w (w.alloc (.cells #[.int .i64 4, .int .u64 (im : Int), .string is] 40))) := bel1 _ _
  go_enter Tryd.func26, Tryd.ntmps26
  go_wp2_with fail
  go_ret2
  exact ⟨by rw [← HOE.out]; try rfl, HB2.out⟩
set_option maxRecDepth 100000 in
set_option maxHeartbeats 8000000 in
theorem e5_8 (ts : List (Int × Int)) (vs : List It) (hl : vs.length ≤ 200) (f : Nat) (hp : E5Hyp ts vs f) (a q q' e0 : Nat) (vt vv : Value) (w : World) (hf7 : f ≤ 7) (hT : IsTyps w.heap.size w vt ts) (hI : IsItems w.heap.size w vv vs) (ha : a < ts.length) (hq : q < vs.length) (hok : tyOk ts[a].1 ts[a].2 = true) (hit : iter (en ts f) (a + 1) (kids ts[a].1 ts[a].2) = some e0) (hfi : fitsI ts[a].1 ts[a].2 vs[q] = true)
    (hv : vit (ve ts vs f) (pl ts f a ts[a].1 vs[q].n) (q + 1) (np ts[a].1 vs[q].n) = some q') (hk : ts[a].1 = 8) :
    Calls Tryd.prog 26 #[vt, .int .i64 a, vv, .int .i64 q] w fun e w' => e = .returned (.tuple #[.string ⟨(ssOwn ts[a].2 vs[q] ++ cat (ssE ts vs f) (ve ts vs f) (pl ts f a ts[a].1 vs[q].n) (q + 1) (np ts[a].1 vs[q].n)).toArray⟩, .int .i64 q']) ∧ Below w.heap.size w w' := by
  have hfi' : vs[q].k = ts[a].1 ∧ fitsN ts[a].1 ts[a].2 vs[q].n = true ∧ fitsS ts[a].1 ts[a].2 vs[q].s.size = true := by simpa [fitsI] using hfi
  have hfn := hfi'.2.1
  have hvk := hfi'.1
  have hnp : np ts[a].1 vs[q].n ≤ 20 := np_le hok hfn
  have HPL : Hid (∀ j, j < np ts[a].1 vs[q].n → ∃ e', en ts f (pl ts f a ts[a].1 vs[q].n j) = some e') := fun j hj => pl_ok ha hok hit hfn hj
  have HPV : Hid (∀ j, j < np ts[a].1 vs[q].n → ∃ y y', vit (ve ts vs f) (pl ts f a ts[a].1 vs[q].n) (q + 1) j = some y ∧ ve ts vs f (pl ts f a ts[a].1 vs[q].n j) y = some y') := fun j hj => by
    obtain ⟨y, hy⟩ := vit_part hv (show j ≤ np ts[a].1 vs[q].n by omega)
    obtain ⟨y', hy'⟩ := vit_part hv (show j + 1 ≤ np ts[a].1 vs[q].n by omega)
    rw [vit_succ, hy] at hy'
    exact ⟨y, y', hy, hy'⟩
  have HV : Hid (vit (ve ts vs f) (pl ts f a ts[a].1 vs[q].n) (q + 1) (np ts[a].1 vs[q].n) = some q') := hv
  have HPN : Hid (∀ w', Below w.heap.size w w' → Calls Tryd.prog 44 #[vt, .int .i64 a, .agg #[.int .i64 vs[q].k, .int .u64 vs[q].n, .string vs[q].s]] w' fun e w'' => PlPost ts f a ts[a].1 vs[q].n w' e w'') := fun w' hb => l3Plan_any ts f a e0 vs[q] vt w' hf7 ((hT.below hb).up hb.size) ha hok hit hfn
  have HP : Hid (∀ a q q' e0 w', en ts f a = some e0 → ve ts vs f a q = some q' → Below w.heap.size w w' → Calls Tryd.prog 26 #[vt, .int .i64 a, vv, .int .i64 q] w' fun e w'' => e = .returned (.tuple #[.string ⟨(ssE ts vs f a q).toArray⟩, .int .i64 q']) ∧ Below w'.heap.size w' w'') := fun a q q' e0 w' he hve hb => hp a q q' e0 vt vv w' hf7 he hve ((hT.below hb).up hb.size) ((hI.below hb).up hb.size)
  obtain ⟨b, o, C, hI, hF⟩ := hI
  have hvv := hF.at (by omega)
  rw [Nat.sub_zero, Nat.sub_zero, Nat.zero_mul, Nat.add_zero] at hvv
  have hsm := hI.small
  have hst := hT.small
  have hbB : b < w.heap.size := hI.low.resolve_left (by omega)
  obtain ⟨i0, i1, i2⟩ := hI.cells q hq
  obtain ⟨wk, wn, ws⟩ := hI.wf vs[q] (List.getElem_mem hq)
  have HLT : Hid (∀ j x, vit (ve ts vs f) (pl ts f a ts[a].1 vs[q].n) (q + 1) j = some x → x ≤ vs.length) := fun j x h => (vit_lt (by omega) h).2
  have hss : ∀ x ∈ vs, x.s.size ≤ 1048577 := fun x h => (hI.wf x h).2.2
  have HSL : Hid (∀ a q e0 q', en ts f a = some e0 → ve ts vs f a q = some q' → (ssE ts vs f a q).length ≤ 209720000) := fun a q e0 q' he hv => ssE_le hss hl he hv
  have HOL : Hid ((ssOwn ts[a].2 vs[q]).length ≤ 1048590) := ssOwn_len hok hvk ws
  have HCL : Hid (∀ j x, j ≤ np ts[a].1 vs[q].n → vit (ve ts vs f) (pl ts f a ts[a].1 vs[q].n) (q + 1) j = some x → (cat (ssE ts vs f) (ve ts vs f) (pl ts f a ts[a].1 vs[q].n) (q + 1) j).length ≤ 1000000000) := fun j x hj hx => by
    have h1 := ss_parts_len (q := q) ha hok hit hfn (fun he hv => ssE_len hss he hv) j x hj hx
    have h2 := (vit_lt (show q + 1 ≤ vs.length by omega) hx).2
    have h3 : x * 1048600 ≤ 200 * 1048600 := Nat.mul_le_mul_right _ (by omega)
    omega
  obtain ⟨b', o', cap', hv', hb', h1, h2, c0, c1⟩ := hT.at ha
  obtain ⟨cc, hcc⟩ : ∃ cc, cat (ssE ts vs f) (ve ts vs f) (pl ts f a ts[a].1 vs[q].n) (q + 1) = cc := ⟨_, rfl⟩
  have HCS : Hid (∀ j x, vit (ve ts vs f) (pl ts f a ts[a].1 vs[q].n) (q + 1) j = some x → cc (j + 1) = cc j ++ ssE ts vs f (pl ts f a ts[a].1 vs[q].n j) x) := fun j x h => by rw [← hcc]; exact cat_succ h
  have HC0 : Hid (cc 0 = []) := by show _ = _; rw [← hcc]; rfl
  rw [hcc] at HCL ⊢
  obtain ⟨OW, hOW⟩ : ∃ OW, ssOwn ts[a].2 vs[q] = OW := ⟨_, rfl⟩
  have HOE : Hid (OW = leL vs[q].n 1) := by show _ = _; rw [← hOW]; unfold ssOwn; rw [if_pos (by omega), hvk, hk]; rfl
  rw [hOW] at HOL ⊢
  generalize ts[a].1 = k at *
  generalize ts[a].2 = n at *
  generalize vs[q] = it at *
  obtain ⟨ik, im, is⟩ := it
  simp only at i0 i1 i2 hnp HPL HPN HLT HPV HV HCL HCS hvk hk HOE wn ws
  subst hvk
  have hr := hI.room
  have hm := hI.most
  unfold maxLen at h2 hm
  subst hvv hv'
  have hql : q ≤ 200 := by omega
  clear hI hF hT hfi hfi' wk hp hit hfn hv hss hcc hOW
  subst hk
  have HL : Hid (∀ w, Calls Tryd.prog 49 #[.int .u64 im, .int .i64 1] w fun e w' => e = .returned (.string ⟨(leL im 1).toArray⟩) ∧ Below w.heap.size w w') := fun w => l1Le_any im 1 w wn (by omega)
  have HB2 : Hid (Below w.heap.size w (w.alloc (.cells #[.int .i64 8, .int .u64 (im : Int), .string is] 40))) := bel1 _ _
  have x0 : (w.alloc (.cells #[.int .i64 8, .int .u64 (im : Int), .string is] 40)).cell? ⟨w.heap.size, 0, none⟩ = some (.int .i64 8) := by simp [go_sem]
  have x1 : (w.alloc (.cells #[.int .i64 8, .int .u64 (im : Int), .string is] 40)).cell? ⟨w.heap.size, 1, none⟩ = some (.int .u64 im) := by simp [go_sem]
  go_enter Tryd.func26, Tryd.ntmps26
  go_wp2_with fail
  refine (HPN.out _ HB2.out).mono ?_
  rintro e w7 ⟨vp, rfl, hown, hb7⟩
  have HO : Hid (w7.ownsRow _ 2 1 vp (np 8 im) (plRow ts f a 8 im)) := hown
  have HB7 : Hid (Below w.heap.size w w7) := HB2.out.trans (hb7.mono (HB2.out.size))
  obtain ⟨N, hN⟩ : ∃ N, np 8 im = N := ⟨_, rfl⟩
  have HNE : Hid (np 8 im = N) := hN
  have h2' := hown.2
  rw [hN] at h2' hnp HV HCL
  have hgl := hown.lt
  have u0 : w7.cell? ⟨w.heap.size, 0, none⟩ = some (.int .i64 8) := by rw [hb7.cell (p := ⟨w.heap.size, 0, none⟩) (by simp)]; exact x0
  have u1 : w7.cell? ⟨w.heap.size, 1, none⟩ = some (.int .u64 im) := by rw [hb7.cell (p := ⟨w.heap.size, 1, none⟩) (by simp)]; exact x1
  clear hown hN hb7 x0 x1
  rcases h2' with ⟨rfl, hn0⟩ | ⟨g, cp, cur, rfl, hg, _, hcp, hcm, _, _⟩
  · clear hgl
    go_wp2_with fail
    refine (HL.out _).mono ?_
    rintro e w8 ⟨rfl, hb8⟩
    have HB8' : Hid (Below w.heap.size w w8) := HB7.out.trans (hb8.mono HB7.out.size)
    obtain ⟨D, hD⟩ : ∃ D : ByteArray, (⟨(leL im 1).toArray⟩ : ByteArray) = D := ⟨_, rfl⟩
    have HD : Hid (D = ⟨(OW).toArray⟩) := by show _ = _; rw [← hD, HOE.out]
    rw [hD]
    have HE : Hid (D = ⟨(OW ++ cc N).toArray⟩ ∧ q' = q + 1) := by
      have hv0 := HV.out
      rw [hn0] at hv0
      cases hv0
      exact ⟨by rw [HD.out, hn0, HC0.out, List.append_nil], rfl⟩
    clear hD hb8 u0 u1
    go_wp2_with fail
    go_loopg [3, 12, 13] 0 (fun gk x o i wr => x = .int .i64 ((q + 1 : Nat) : Int) ∧ o = .string D ∧ i = .int .i64 0 ∧ wr = w8)
    case atStart => exact ⟨by go_num, rfl, rfl, rfl⟩
    case round =>
      obtain ⟨rfl, rfl, rfl, rfl⟩ := hrel
      go_wp2_with fail
      go_ret2
      exact ⟨by rw [HNE.out, ← HE.out.1, HE.out.2]; try rfl, HB8'.out⟩
  · have hgw : g < w7.heap.size := (hgl g rfl).2
    have HC : Hid (∀ i, i < N → w7.cell? ⟨g, i, none⟩ = some (.int .i64 (pl ts f a 8 im i : Nat))) := fun i hi => by
      have ho := HO.out
      rw [← HNE.out] at ho hi
      exact row_at ho hi
    clear hgl
    unfold maxLen at hcm
    go_wp2_with fail
    refine (HL.out _).mono ?_
    rintro e w8 ⟨rfl, hb8⟩
    have HB8' : Hid (Below w.heap.size w w8) := HB7.out.trans (hb8.mono HB7.out.size)
    obtain ⟨D, hD⟩ : ∃ D : ByteArray, (⟨(leL im 1).toArray⟩ : ByteArray) = D := ⟨_, rfl⟩
    have HD : Hid (D = ⟨(OW).toArray⟩) := by show _ = _; rw [← hD, HOE.out]
    rw [hD]
    have HC8 : Hid (∀ i, i < N → w8.cell? ⟨g, i, none⟩ = some (.int .i64 (pl ts f a 8 im i : Nat))) := fun i hi => by rw [hb8.cell (p := ⟨g, i, none⟩) hgw]; exact HC.out i hi
    have hgw8 : g < w8.heap.size := by have := hb8.size; omega
    clear hD hb8 u0 u1
    go_wp2_with fail
    go_loopg [3, 12, 13] N (fun gk x o i wr => ∃ (j y : Nat) (X : ByteArray), j + gk = N ∧ i = .int .i64 j ∧ x = .int .i64 y ∧ vit (ve ts vs f) (pl ts f a 8 im) (q + 1) j = some y ∧ o = .string X ∧ X = ⟨(OW ++ cc j).toArray⟩ ∧ Below w8.heap.size w8 wr)
    case atStart => exact ⟨0, q + 1, _, by omega, rfl, by go_num, rfl, rfl, by rw [HD.out, HC0.out, List.append_nil], Below.refl _ _⟩
    case round =>
      obtain ⟨j, y, X, hj', rfl, rfl, hy, rfl, hX, hbel⟩ := hrel
      have HJ : Hid (j + gk = N) := hj'
      have HY : Hid (vit (ve ts vs f) (pl ts f a 8 im) (q + 1) j = some y) := hy
      have HX : Hid (X = ⟨(OW ++ cc j).toArray⟩) := hX
      have hyl : y ≤ vs.length := HLT.out j y hy
      have hj : j ≤ N := by omega
      have hXs : X.size ≤ 1001048590 := by
        rw [hX, ba_ss, List.length_append]
        have := HOL.out
        have := HCL.out j y hj hy
        omega
      have HBW : Hid (Below w.heap.size w wr) := HB8'.out.trans (hbel.mono HB8'.out.size)
      have HBE : Hid (Below w8.heap.size w8 wr) := hbel
      clear hj' hy hX
      by_cases hjm : j < N
      · obtain ⟨e1, he1⟩ := HPL.out j (by rw [HNE.out]; exact hjm)
        obtain ⟨z, y1, hz, hy1⟩ := HPV.out j (by rw [HNE.out]; exact hjm)
        have ez : z = y := by rw [HY.out] at hz; injection hz with hz; exact hz.symm
        subst ez
        have hpl : pl ts f a 8 im j ≤ 1048577 := by have := en_lt he1; omega
        have cj : wr.cell? ⟨g, j, none⟩ = some (.int .i64 (pl ts f a 8 im j : Nat)) := by rw [hbel.cell (p := ⟨g, j, none⟩) hgw8]; exact HC8.out j hjm
        have HCK := HP.out (pl ts f a 8 im j) z y1 e1 wr he1 hy1 HBW.out
        have HNX : Hid (vit (ve ts vs f) (pl ts f a 8 im) (q + 1) (j + 1) = some y1) := by show _ = _; rw [vit_succ, HY.out]; exact hy1
        have HSX : Hid (cc (j + 1) = cc j ++ ssE ts vs f (pl ts f a 8 im j) z) := HCS.out j z HY.out
        have hPs : ByteArray.size ⟨(ssE ts vs f (pl ts f a 8 im j) z).toArray⟩ ≤ 209720000 := by rw [ba_ss]; exact HSL.out _ _ _ _ he1 hy1
        have hyl1 : y1 ≤ vs.length := (ve_lt hy1).2
        have HXP : Hid (X ++ ⟨(ssE ts vs f (pl ts f a 8 im j) z).toArray⟩ = ⟨(OW ++ cc (j + 1)).toArray⟩) := by
          show _ = _
          rw [HX.out, HSX.out, cat_list, List.append_assoc]
        clear hbel he1 hy1 hz
        generalize pl ts f a 8 im j = p at cj hpl HCK HSX hPs HXP
        obtain ⟨P, hP⟩ : ∃ P : ByteArray, (⟨(ssE ts vs f p z).toArray⟩ : ByteArray) = P := ⟨_, rfl⟩
        rw [hP] at hPs HCK HXP
        have HK : Hid (Calls Tryd.prog 26 #[.slice (some ⟨b', o', none⟩) ts.length cap', .int .i64 p, .slice (some ⟨b, o, none⟩) vs.length C, .int .i64 z] wr fun e w' => e = .returned (.tuple #[.string P, .int .i64 y1]) ∧ Below wr.heap.size wr w') := HCK
        have hXP2 : ¬ (9223372036854775807 < X.size + P.size) := by omega
        clear HCK hP HSX
        go_wp2_with fail
        refine Calls.mono HK.out ?_
        rintro e w9 ⟨rfl, hb9⟩
        have HB8 : Hid (Below w8.heap.size w8 w9) := HBE.out.trans (hb9.mono HBE.out.size)
        clear hb9 cj
        go_wp2_with fail
        go_roundg (gk - 1)
        case rel => exact ⟨j + 1, y1, _, by have := HJ.out; omega, by go_num, rfl, HNX.out, rfl, HXP.out, HB8.out⟩
        case measure => have := HJ.out; omega
      · have ej : j = N := by omega
        subst ej
        have HE : Hid (X = ⟨(OW ++ cc j).toArray⟩ ∧ q' = y) := ⟨HX.out, by have h1 := HV.out; rw [HY.out] at h1; injection h1 with h1; exact h1.symm⟩
        clear hbel
        go_wp2_with fail
        go_ret2
        exact ⟨by rw [HNE.out, ← HE.out.1, HE.out.2]; try rfl, HBW.out⟩
set_option maxRecDepth 100000 in
set_option maxHeartbeats 8000000 in
theorem e5_9 (ts : List (Int × Int)) (vs : List It) (hl : vs.length ≤ 200) (f : Nat) (hp : E5Hyp ts vs f) (a q q' e0 : Nat) (vt vv : Value) (w : World) (hf7 : f ≤ 7) (hT : IsTyps w.heap.size w vt ts) (hI : IsItems w.heap.size w vv vs) (ha : a < ts.length) (hq : q < vs.length) (hok : tyOk ts[a].1 ts[a].2 = true) (hit : iter (en ts f) (a + 1) (kids ts[a].1 ts[a].2) = some e0) (hfi : fitsI ts[a].1 ts[a].2 vs[q] = true)
    (hv : vit (ve ts vs f) (pl ts f a ts[a].1 vs[q].n) (q + 1) (np ts[a].1 vs[q].n) = some q') (hk : ts[a].1 = 9) :
    Calls Tryd.prog 26 #[vt, .int .i64 a, vv, .int .i64 q] w fun e w' => e = .returned (.tuple #[.string ⟨(ssOwn ts[a].2 vs[q] ++ cat (ssE ts vs f) (ve ts vs f) (pl ts f a ts[a].1 vs[q].n) (q + 1) (np ts[a].1 vs[q].n)).toArray⟩, .int .i64 q']) ∧ Below w.heap.size w w' := by
  have hfi' : vs[q].k = ts[a].1 ∧ fitsN ts[a].1 ts[a].2 vs[q].n = true ∧ fitsS ts[a].1 ts[a].2 vs[q].s.size = true := by simpa [fitsI] using hfi
  have hfn := hfi'.2.1
  have hvk := hfi'.1
  have hnp : np ts[a].1 vs[q].n ≤ 20 := np_le hok hfn
  have HPL : Hid (∀ j, j < np ts[a].1 vs[q].n → ∃ e', en ts f (pl ts f a ts[a].1 vs[q].n j) = some e') := fun j hj => pl_ok ha hok hit hfn hj
  have HPV : Hid (∀ j, j < np ts[a].1 vs[q].n → ∃ y y', vit (ve ts vs f) (pl ts f a ts[a].1 vs[q].n) (q + 1) j = some y ∧ ve ts vs f (pl ts f a ts[a].1 vs[q].n j) y = some y') := fun j hj => by
    obtain ⟨y, hy⟩ := vit_part hv (show j ≤ np ts[a].1 vs[q].n by omega)
    obtain ⟨y', hy'⟩ := vit_part hv (show j + 1 ≤ np ts[a].1 vs[q].n by omega)
    rw [vit_succ, hy] at hy'
    exact ⟨y, y', hy, hy'⟩
  have HV : Hid (vit (ve ts vs f) (pl ts f a ts[a].1 vs[q].n) (q + 1) (np ts[a].1 vs[q].n) = some q') := hv
  have HPN : Hid (∀ w', Below w.heap.size w w' → Calls Tryd.prog 44 #[vt, .int .i64 a, .agg #[.int .i64 vs[q].k, .int .u64 vs[q].n, .string vs[q].s]] w' fun e w'' => PlPost ts f a ts[a].1 vs[q].n w' e w'') := fun w' hb => l3Plan_any ts f a e0 vs[q] vt w' hf7 ((hT.below hb).up hb.size) ha hok hit hfn
  have HP : Hid (∀ a q q' e0 w', en ts f a = some e0 → ve ts vs f a q = some q' → Below w.heap.size w w' → Calls Tryd.prog 26 #[vt, .int .i64 a, vv, .int .i64 q] w' fun e w'' => e = .returned (.tuple #[.string ⟨(ssE ts vs f a q).toArray⟩, .int .i64 q']) ∧ Below w'.heap.size w' w'') := fun a q q' e0 w' he hve hb => hp a q q' e0 vt vv w' hf7 he hve ((hT.below hb).up hb.size) ((hI.below hb).up hb.size)
  obtain ⟨b, o, C, hI, hF⟩ := hI
  have hvv := hF.at (by omega)
  rw [Nat.sub_zero, Nat.sub_zero, Nat.zero_mul, Nat.add_zero] at hvv
  have hsm := hI.small
  have hst := hT.small
  have hbB : b < w.heap.size := hI.low.resolve_left (by omega)
  obtain ⟨i0, i1, i2⟩ := hI.cells q hq
  obtain ⟨wk, wn, ws⟩ := hI.wf vs[q] (List.getElem_mem hq)
  have HLT : Hid (∀ j x, vit (ve ts vs f) (pl ts f a ts[a].1 vs[q].n) (q + 1) j = some x → x ≤ vs.length) := fun j x h => (vit_lt (by omega) h).2
  have hss : ∀ x ∈ vs, x.s.size ≤ 1048577 := fun x h => (hI.wf x h).2.2
  have HSL : Hid (∀ a q e0 q', en ts f a = some e0 → ve ts vs f a q = some q' → (ssE ts vs f a q).length ≤ 209720000) := fun a q e0 q' he hv => ssE_le hss hl he hv
  have HOL : Hid ((ssOwn ts[a].2 vs[q]).length ≤ 1048590) := ssOwn_len hok hvk ws
  have HCL : Hid (∀ j x, j ≤ np ts[a].1 vs[q].n → vit (ve ts vs f) (pl ts f a ts[a].1 vs[q].n) (q + 1) j = some x → (cat (ssE ts vs f) (ve ts vs f) (pl ts f a ts[a].1 vs[q].n) (q + 1) j).length ≤ 1000000000) := fun j x hj hx => by
    have h1 := ss_parts_len (q := q) ha hok hit hfn (fun he hv => ssE_len hss he hv) j x hj hx
    have h2 := (vit_lt (show q + 1 ≤ vs.length by omega) hx).2
    have h3 : x * 1048600 ≤ 200 * 1048600 := Nat.mul_le_mul_right _ (by omega)
    omega
  obtain ⟨b', o', cap', hv', hb', h1, h2, c0, c1⟩ := hT.at ha
  obtain ⟨cc, hcc⟩ : ∃ cc, cat (ssE ts vs f) (ve ts vs f) (pl ts f a ts[a].1 vs[q].n) (q + 1) = cc := ⟨_, rfl⟩
  have HCS : Hid (∀ j x, vit (ve ts vs f) (pl ts f a ts[a].1 vs[q].n) (q + 1) j = some x → cc (j + 1) = cc j ++ ssE ts vs f (pl ts f a ts[a].1 vs[q].n j) x) := fun j x h => by rw [← hcc]; exact cat_succ h
  have HC0 : Hid (cc 0 = []) := by show _ = _; rw [← hcc]; rfl
  rw [hcc] at HCL ⊢
  obtain ⟨OW, hOW⟩ : ∃ OW, ssOwn ts[a].2 vs[q] = OW := ⟨_, rfl⟩
  have HOE : Hid (OW = leL vs[q].n 1) := by show _ = _; rw [← hOW]; unfold ssOwn; rw [if_pos (by omega), hvk, hk]; rfl
  rw [hOW] at HOL ⊢
  generalize ts[a].1 = k at *
  generalize ts[a].2 = n at *
  generalize vs[q] = it at *
  obtain ⟨ik, im, is⟩ := it
  simp only at i0 i1 i2 hnp HPL HPN HLT HPV HV HCL HCS hvk hk HOE wn ws
  subst hvk
  have hr := hI.room
  have hm := hI.most
  unfold maxLen at h2 hm
  subst hvv hv'
  have hql : q ≤ 200 := by omega
  clear hI hF hT hfi hfi' wk hp hit hfn hv hss hcc hOW
  subst hk
  have HL : Hid (∀ w, Calls Tryd.prog 49 #[.int .u64 im, .int .i64 1] w fun e w' => e = .returned (.string ⟨(leL im 1).toArray⟩) ∧ Below w.heap.size w w') := fun w => l1Le_any im 1 w wn (by omega)
  have HB2 : Hid (Below w.heap.size w (w.alloc (.cells #[.int .i64 9, .int .u64 (im : Int), .string is] 40))) := bel1 _ _
  have x0 : (w.alloc (.cells #[.int .i64 9, .int .u64 (im : Int), .string is] 40)).cell? ⟨w.heap.size, 0, none⟩ = some (.int .i64 9) := by simp [go_sem]
  have x1 : (w.alloc (.cells #[.int .i64 9, .int .u64 (im : Int), .string is] 40)).cell? ⟨w.heap.size, 1, none⟩ = some (.int .u64 im) := by simp [go_sem]
  go_enter Tryd.func26, Tryd.ntmps26
  go_wp2_with fail
  refine (HPN.out _ HB2.out).mono ?_
  rintro e w7 ⟨vp, rfl, hown, hb7⟩
  have HO : Hid (w7.ownsRow _ 2 1 vp (np 9 im) (plRow ts f a 9 im)) := hown
  have HB7 : Hid (Below w.heap.size w w7) := HB2.out.trans (hb7.mono (HB2.out.size))
  obtain ⟨N, hN⟩ : ∃ N, np 9 im = N := ⟨_, rfl⟩
  have HNE : Hid (np 9 im = N) := hN
  have h2' := hown.2
  rw [hN] at h2' hnp HV HCL
  have hgl := hown.lt
  have u0 : w7.cell? ⟨w.heap.size, 0, none⟩ = some (.int .i64 9) := by rw [hb7.cell (p := ⟨w.heap.size, 0, none⟩) (by simp)]; exact x0
  have u1 : w7.cell? ⟨w.heap.size, 1, none⟩ = some (.int .u64 im) := by rw [hb7.cell (p := ⟨w.heap.size, 1, none⟩) (by simp)]; exact x1
  clear hown hN hb7 x0 x1
  rcases h2' with ⟨rfl, hn0⟩ | ⟨g, cp, cur, rfl, hg, _, hcp, hcm, _, _⟩
  · clear hgl
    go_wp2_with fail
    refine (HL.out _).mono ?_
    rintro e w8 ⟨rfl, hb8⟩
    have HB8' : Hid (Below w.heap.size w w8) := HB7.out.trans (hb8.mono HB7.out.size)
    obtain ⟨D, hD⟩ : ∃ D : ByteArray, (⟨(leL im 1).toArray⟩ : ByteArray) = D := ⟨_, rfl⟩
    have HD : Hid (D = ⟨(OW).toArray⟩) := by show _ = _; rw [← hD, HOE.out]
    rw [hD]
    have HE : Hid (D = ⟨(OW ++ cc N).toArray⟩ ∧ q' = q + 1) := by
      have hv0 := HV.out
      rw [hn0] at hv0
      cases hv0
      exact ⟨by rw [HD.out, hn0, HC0.out, List.append_nil], rfl⟩
    clear hD hb8 u0 u1
    go_wp2_with fail
    go_loopg [3, 12, 13] 0 (fun gk x o i wr => x = .int .i64 ((q + 1 : Nat) : Int) ∧ o = .string D ∧ i = .int .i64 0 ∧ wr = w8)
    case atStart => exact ⟨by go_num, rfl, rfl, rfl⟩
    case round =>
      obtain ⟨rfl, rfl, rfl, rfl⟩ := hrel
      go_wp2_with fail
      go_ret2
      exact ⟨by rw [HNE.out, ← HE.out.1, HE.out.2]; try rfl, HB8'.out⟩
  · have hgw : g < w7.heap.size := (hgl g rfl).2
    have HC : Hid (∀ i, i < N → w7.cell? ⟨g, i, none⟩ = some (.int .i64 (pl ts f a 9 im i : Nat))) := fun i hi => by
      have ho := HO.out
      rw [← HNE.out] at ho hi
      exact row_at ho hi
    clear hgl
    unfold maxLen at hcm
    go_wp2_with fail
    refine (HL.out _).mono ?_
    rintro e w8 ⟨rfl, hb8⟩
    have HB8' : Hid (Below w.heap.size w w8) := HB7.out.trans (hb8.mono HB7.out.size)
    obtain ⟨D, hD⟩ : ∃ D : ByteArray, (⟨(leL im 1).toArray⟩ : ByteArray) = D := ⟨_, rfl⟩
    have HD : Hid (D = ⟨(OW).toArray⟩) := by show _ = _; rw [← hD, HOE.out]
    rw [hD]
    have HC8 : Hid (∀ i, i < N → w8.cell? ⟨g, i, none⟩ = some (.int .i64 (pl ts f a 9 im i : Nat))) := fun i hi => by rw [hb8.cell (p := ⟨g, i, none⟩) hgw]; exact HC.out i hi
    have hgw8 : g < w8.heap.size := by have := hb8.size; omega
    clear hD hb8 u0 u1
    go_wp2_with fail
    go_loopg [3, 12, 13] N (fun gk x o i wr => ∃ (j y : Nat) (X : ByteArray), j + gk = N ∧ i = .int .i64 j ∧ x = .int .i64 y ∧ vit (ve ts vs f) (pl ts f a 9 im) (q + 1) j = some y ∧ o = .string X ∧ X = ⟨(OW ++ cc j).toArray⟩ ∧ Below w8.heap.size w8 wr)
    case atStart => exact ⟨0, q + 1, _, by omega, rfl, by go_num, rfl, rfl, by rw [HD.out, HC0.out, List.append_nil], Below.refl _ _⟩
    case round =>
      obtain ⟨j, y, X, hj', rfl, rfl, hy, rfl, hX, hbel⟩ := hrel
      have HJ : Hid (j + gk = N) := hj'
      have HY : Hid (vit (ve ts vs f) (pl ts f a 9 im) (q + 1) j = some y) := hy
      have HX : Hid (X = ⟨(OW ++ cc j).toArray⟩) := hX
      have hyl : y ≤ vs.length := HLT.out j y hy
      have hj : j ≤ N := by omega
      have hXs : X.size ≤ 1001048590 := by
        rw [hX, ba_ss, List.length_append]
        have := HOL.out
        have := HCL.out j y hj hy
        omega
      have HBW : Hid (Below w.heap.size w wr) := HB8'.out.trans (hbel.mono HB8'.out.size)
      have HBE : Hid (Below w8.heap.size w8 wr) := hbel
      clear hj' hy hX
      by_cases hjm : j < N
      · obtain ⟨e1, he1⟩ := HPL.out j (by rw [HNE.out]; exact hjm)
        obtain ⟨z, y1, hz, hy1⟩ := HPV.out j (by rw [HNE.out]; exact hjm)
        have ez : z = y := by rw [HY.out] at hz; injection hz with hz; exact hz.symm
        subst ez
        have hpl : pl ts f a 9 im j ≤ 1048577 := by have := en_lt he1; omega
        have cj : wr.cell? ⟨g, j, none⟩ = some (.int .i64 (pl ts f a 9 im j : Nat)) := by rw [hbel.cell (p := ⟨g, j, none⟩) hgw8]; exact HC8.out j hjm
        have HCK := HP.out (pl ts f a 9 im j) z y1 e1 wr he1 hy1 HBW.out
        have HNX : Hid (vit (ve ts vs f) (pl ts f a 9 im) (q + 1) (j + 1) = some y1) := by show _ = _; rw [vit_succ, HY.out]; exact hy1
        have HSX : Hid (cc (j + 1) = cc j ++ ssE ts vs f (pl ts f a 9 im j) z) := HCS.out j z HY.out
        have hPs : ByteArray.size ⟨(ssE ts vs f (pl ts f a 9 im j) z).toArray⟩ ≤ 209720000 := by rw [ba_ss]; exact HSL.out _ _ _ _ he1 hy1
        have hyl1 : y1 ≤ vs.length := (ve_lt hy1).2
        have HXP : Hid (X ++ ⟨(ssE ts vs f (pl ts f a 9 im j) z).toArray⟩ = ⟨(OW ++ cc (j + 1)).toArray⟩) := by
          show _ = _
          rw [HX.out, HSX.out, cat_list, List.append_assoc]
        clear hbel he1 hy1 hz
        generalize pl ts f a 9 im j = p at cj hpl HCK HSX hPs HXP
        obtain ⟨P, hP⟩ : ∃ P : ByteArray, (⟨(ssE ts vs f p z).toArray⟩ : ByteArray) = P := ⟨_, rfl⟩
        rw [hP] at hPs HCK HXP
        have HK : Hid (Calls Tryd.prog 26 #[.slice (some ⟨b', o', none⟩) ts.length cap', .int .i64 p, .slice (some ⟨b, o, none⟩) vs.length C, .int .i64 z] wr fun e w' => e = .returned (.tuple #[.string P, .int .i64 y1]) ∧ Below wr.heap.size wr w') := HCK
        have hXP2 : ¬ (9223372036854775807 < X.size + P.size) := by omega
        clear HCK hP HSX
        go_wp2_with fail
        refine Calls.mono HK.out ?_
        rintro e w9 ⟨rfl, hb9⟩
        have HB8 : Hid (Below w8.heap.size w8 w9) := HBE.out.trans (hb9.mono HBE.out.size)
        clear hb9 cj
        go_wp2_with fail
        go_roundg (gk - 1)
        case rel => exact ⟨j + 1, y1, _, by have := HJ.out; omega, by go_num, rfl, HNX.out, rfl, HXP.out, HB8.out⟩
        case measure => have := HJ.out; omega
      · have ej : j = N := by omega
        subst ej
        have HE : Hid (X = ⟨(OW ++ cc j).toArray⟩ ∧ q' = y) := ⟨HX.out, by have h1 := HV.out; rw [HY.out] at h1; injection h1 with h1; exact h1.symm⟩
        clear hbel
        go_wp2_with fail
        go_ret2
        exact ⟨by rw [HNE.out, ← HE.out.1, HE.out.2]; try rfl, HBW.out⟩
end Go.Proofs.YtjpdhenmhffmeaaDoor
