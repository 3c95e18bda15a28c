/- The exact laws' own helpers on slices of types: contracts. -/
import Derived.Test.YtocealohiflheaaDoorS2i
namespace Go.Proofs.YtocealohiflheaaDoor
open Go.RowKit Go.Sort
set_option linter.unusedVariables false
theorem cells_re {w : World} {a : Addr} {v : Value} (h : w.cell? a = some v) : ∀ d os, (grow (redrawn w d) os).cell? a = some v := fun d os => cell_regrown h d os
set_option maxHeartbeats 1000000 in
theorem toTypS_any (ts : List (Int × Int)) (v : Value) (w : World) (hv : IsTyps w.heap.size w v ts) : Calls Tryd.prog 10 #[v] w fun e w' => ∃ v', e = .returned v' ∧ IsTyps w'.heap.size w' v' ts ∧ Below w.heap.size w w' := by
  obtain ⟨i0, hi, hz0, hz1, hz2⟩ := info_parts Tryd.infoTyp
  have HV : Hid (IsTyps w.heap.size w v ts) := hv
  have hsm := hv.small
  obtain ⟨ad, cap, rfl, h1, h2, h3⟩ := hv.form
  clear h3 hv
  go_enter Tryd.func10, Tryd.ntmps10
  go_wp2_with (at_make; refine wpList_make_full _ rfl _ _ 28 rfl w.heap.size 40 i0 (.agg #[.int .i64 0, .int .i64 0]) 2 Tryd.underlying28 hi hz0 hz1 _ _ _ _ ts.length rfl rfl rfl rfl ?b2 ?b3 (Nat.le_refl _) ?_)
  case b2 => rw [hz2]; omega
  case b3 => unfold maxLen; omega
  intro w1 hown0 hgrow
  have hr0 : RowTo ts w1 w.heap.size 0 := RowTo.made (base := w.heap.size) (by simpa [Value.cells] using hown0)
  have hb1 : Below w.heap.size w w1 := (Below.refl _ _).grown hgrow (Nat.le_refl _) (by simp)
  clear hown0 hgrow
  go_wp2_with fail
  go_loopg [4] ts.length (fun gk i wr => ∃ j : Nat, j + gk = ts.length ∧ i = .int .i64 j ∧ RowTo ts wr w.heap.size j ∧ Below w.heap.size w wr)
  case atStart => exact ⟨0, by omega, rfl, hr0, hb1⟩
  case round =>
    clear hr0 hb1 w1
    obtain ⟨j, hj', rfl, hr, hb⟩ := hrel
    have HJ : Hid (j + gk = ts.length) := hj'
    have hj : j ≤ ts.length := by omega
    clear hj'
    by_cases hlt : j < ts.length
    · obtain ⟨b, o, cap', hv', hbl, _, _, c0, c1⟩ := (HV.out.below hb).at hlt
      cases hv'
      have hsz : w.heap.size < wr.heap.size := by obtain ⟨cs, h, _⟩ := hr; exact blk_lt h
      have HR : Hid (RowTo ts wr w.heap.size j) := hr
      have HB : Hid (Below w.heap.size w wr) := hb
      clear hr hb
      obtain ⟨k, hk⟩ : ∃ k, ts[j].1 = k := ⟨_, rfl⟩
      obtain ⟨n, hn⟩ : ∃ n, ts[j].2 = n := ⟨_, rfl⟩
      have Hk : Hid (ts[j].1 = k) := hk
      have Hn : Hid (ts[j].2 = n) := hn
      rw [hk] at c0
      rw [hn] at c1
      clear hk hn
      go_wp2_with fail
      refine (toTyp_any _ _ _).mono ?_
      rintro e w2 ⟨rfl, hb2⟩
      have hr2 : RowTo ts w2 w.heap.size j := HR.out.keep (hb2.block _ hsz)
      obtain ⟨⟨z0, d0⟩, f0⟩ := hr2.cell (m := j * 2) (by omega)
      obtain ⟨⟨z1, d1⟩, f1⟩ := hr2.cell (m := j * 2 + 1) (by omega)
      have hnx := hr2.next hlt
      rw [Hk.out, Hn.out] at hnx
      have HN : Hid (RowTo ts ((w2.setCell ⟨w.heap.size, j * 2, none⟩ (.int .i64 k)).setCell ⟨w.heap.size, j * 2 + 1, none⟩ (.int .i64 n)) w.heap.size (j + 1)) := hnx
      have HB2 : Hid (Below w.heap.size w ((w2.setCell ⟨w.heap.size, j * 2, none⟩ (.int .i64 k)).setCell ⟨w.heap.size, j * 2 + 1, none⟩ (.int .i64 n))) := ((HB.out.trans (hb2.mono HB.out.size)).setCell (p := ⟨w.heap.size, j * 2, none⟩) (Nat.le_refl _) _).setCell (p := ⟨w.heap.size, j * 2 + 1, none⟩) (Nat.le_refl _) _
      clear hr2 hnx hb2 c0 c1
      go_wp2_with fail
      go_roundg (gk - 1)
      case rel => exact ⟨j + 1, by have := HJ.out; omega, by go_num, HN.out, HB2.out⟩
      case measure => have := HJ.out; omega
    · have e1 : j = ts.length := by omega
      rw [e1] at hr
      have hfin := hr.done hsm HV.out.wf
      have HF : Hid (IsTyps wr.heap.size wr (.slice (some ⟨w.heap.size, 0, none⟩) ts.length ts.length) ts) := hfin
      clear hfin hr e1
      go_wp2_with fail
      go_ret
      exact ⟨_, rfl, HF.out, hb⟩
set_option maxHeartbeats 1000000 in
theorem eqTypS_any (ts ts' : List (Int × Int)) (v v' : Value) (w : World) (hv : IsTyps w.heap.size w v ts) (hv' : IsTyps w.heap.size w v' ts') : Calls Tryd.prog 13 #[v, v'] w fun e w' => e = .returned (.bool (decide (ts = ts'))) ∧ Below w.heap.size w w' := by
  have HV : Hid (IsTyps w.heap.size w v ts) := hv
  have HV' : Hid (IsTyps w.heap.size w v' ts') := hv'
  have hsm := hv.small
  obtain ⟨ad, cap, rfl, h1, h2, h3⟩ := hv.form
  obtain ⟨ad', cap', rfl, h1', h2', h3'⟩ := hv'.form
  clear h3 hv h3' hv'
  by_cases hl : ts.length = ts'.length
  · have hq : ((ts.length : Int) != (ts'.length : Int)) = false := by simp [hl]
    have HL : Hid (ts.length = ts'.length) := hl
    clear hl
    go_enter Tryd.func13, Tryd.ntmps13
    go_wp2_with fail
    go_loopg [5] ts.length (fun gk i wr => ∃ j : Nat, j + gk = ts.length ∧ i = .int .i64 j ∧ ts.take j = ts'.take j ∧ Below w.heap.size w wr)
    case atStart => exact ⟨0, by omega, rfl, rfl, Below.refl _ _⟩
    case round =>
      obtain ⟨j, hj', rfl, htk, hb⟩ := hrel
      have HJ : Hid (j + gk = ts.length) := hj'
      have HT : Hid (ts.take j = ts'.take j) := htk
      have hj : j ≤ ts.length := by omega
      clear hj' htk
      by_cases hlt : j < ts.length
      · have hlt' : j < ts'.length := by have := HL.out; omega
        have HB : Hid (Below w.heap.size w wr) := hb
        obtain ⟨b, o, cap2, e1, hbl, _, _, c0, c1⟩ := (HV.out.below hb).at hlt
        obtain ⟨b', o', cap2', e1', hbl', _, _, c0', c1'⟩ := (HV'.out.below hb).at hlt'
        cases e1
        cases e1'
        obtain ⟨k, hk⟩ : ∃ k, ts[j].1 = k := ⟨_, rfl⟩
        obtain ⟨n, hn⟩ : ∃ n, ts[j].2 = n := ⟨_, rfl⟩
        obtain ⟨k', hk'⟩ : ∃ k, ts'[j].1 = k := ⟨_, rfl⟩
        obtain ⟨n', hn'⟩ : ∃ n, ts'[j].2 = n := ⟨_, rfl⟩
        have Hk : Hid (ts[j] = (k, n)) := by show _ = _; rw [← hk, ← hn]
        have Hk' : Hid (ts'[j] = (k', n')) := by show _ = _; rw [← hk', ← hn']
        rw [hk] at c0
        rw [hn] at c1
        rw [hk'] at c0'
        rw [hn'] at c1'
        have r0 := cells_re c0
        have r1 := cells_re c1
        have r0' := cells_re c0'
        have r1' := cells_re c1'
        clear hk hn hk' hn' c0 c1 c0' c1' hb
        by_cases hq2 : k = k' ∧ n = n'
        · have hd : decide (k = k' ∧ n = n') = true := by simp [hq2]
          have HC : Hid (∀ w, Calls Tryd.prog 30 #[.agg #[.int .i64 k, .int .i64 n], .agg #[.int .i64 k', .int .i64 n']] w fun e w' => e = .returned (.bool true) ∧ Below w.heap.size w w') := fun w => by have := eqTyp_any k n k' n' w; rwa [hd] at this
          have HT2 : Hid (ts.take (j + 1) = ts'.take (j + 1)) := by
            show _ = _
            rw [List.take_succ_eq_append_getElem hlt, List.take_succ_eq_append_getElem hlt', HT.out, Hk.out, Hk'.out, hq2.1, hq2.2]
          clear hq2 hd
          go_wp2_with fail
          refine wp_region_quiet_below (by kernel_rfl) (by kernel_rfl) ?_
          repeat (go_big_quiet_step (exact Calls.regrown_of (HC.out _)))
          refine wpQuiet_nil ?_
          intro w6 hw'
          obtain ⟨⟨dq, osq⟩, hw''⟩ := hw'
          have hb2 : Below w.heap.size w w6 := by rw [hw'']; exact below_step3 HB.out (below_regrown _ dq osq) HB.out.size
          clear hw'' r0 r1 r0' r1'
          go_wp2_with fail
          go_roundg (gk - 1)
          case rel => exact ⟨j + 1, by have := HJ.out; omega, by go_num, HT2.out, hb2⟩
          case measure => have := HJ.out; omega
        · have hd : decide (k = k' ∧ n = n') = false := by simp only [decide_eq_false_iff_not]; exact hq2
          have HC : Hid (∀ w, Calls Tryd.prog 30 #[.agg #[.int .i64 k, .int .i64 n], .agg #[.int .i64 k', .int .i64 n']] w fun e w' => e = .returned (.bool false) ∧ Below w.heap.size w w') := fun w => by have := eqTyp_any k n k' n' w; rwa [hd] at this
          have HR : Hid (decide (ts = ts') = false) := by
            show _ = _
            simp only [decide_eq_false_iff_not]
            intro e
            subst e
            have e1 := Hk.out
            rw [Hk'.out] at e1
            cases e1
            exact hq2 ⟨rfl, rfl⟩
          clear hq2 hd
          go_wp2_with fail
          refine wp_region_quiet_below (by kernel_rfl) (by kernel_rfl) ?_
          repeat (go_big_quiet_step (exact Calls.regrown_of (HC.out _)))
          refine wpQuiet_nil ?_
          intro w6 hw'
          obtain ⟨⟨dq, osq⟩, hw''⟩ := hw'
          have hb2 : Below w.heap.size w w6 := by rw [hw'']; exact below_step3 HB.out (below_regrown _ dq osq) HB.out.size
          clear hw'' r0 r1 r0' r1'
          go_wp2_with fail
          go_ret
          exact ⟨by rw [HR.out]; try rfl, hb2⟩
      · have HR : Hid (decide (ts = ts') = true) := by
          show _ = _
          have h1 := HT.out
          rw [List.take_of_length_le (by omega), List.take_of_length_le (by have := HL.out; omega)] at h1
          simp [h1]
        go_wp2_with fail
        go_ret
        exact ⟨by rw [HR.out]; try rfl, hb⟩
  · have hq : ((ts.length : Int) != (ts'.length : Int)) = true := by rw [bne_iff_ne]; omega
    have HR : Hid (decide (ts = ts') = false) := by show _ = _; simp only [decide_eq_false_iff_not]; intro e; exact hl (by rw [e])
    clear hl
    go_enter Tryd.func13, Tryd.ntmps13
    go_wp2_with fail
    go_ret
    exact ⟨by rw [HR.out]; try rfl, Below.refl _ _⟩
end Go.Proofs.YtocealohiflheaaDoor
