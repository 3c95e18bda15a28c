/- The exact laws' own helpers on slices of types: contracts. -/
import Derived.Test.YtdolcfgnclnnoaaDoorS2i
namespace Go.Proofs.YtdolcfgnclnnoaaDoor
open Go.RowKit Go.Sort
set_option linter.unusedVariables false
theorem cells_re {w : World} {a : Addr} {v : Value} (h : w.cell? a = some v) : ∀ d os, (grow (redrawn w d) os).cell? a = some v := fun d os => cell_regrown h d os
set_option maxHeartbeats 1000000 in
theorem eqTypS_any (ts ts' : List (Int × Int)) (v v' : Value) (w : World) (hv : IsTyps w.heap.size w v ts) (hv' : IsTyps w.heap.size w v' ts') : Calls Tryd.prog 7 #[v, v'] w fun e w' => e = .returned (.bool (decide (ts = ts'))) ∧ Below w.heap.size w w' := by
  have HV : Hid (IsTyps w.heap.size w v ts) := hv
  have HV' : Hid (IsTyps w.heap.size w v' ts') := hv'
  have hsm := hv.small
  obtain ⟨ad, cap, rfl, h1, h2, h3⟩ := hv.form
  obtain ⟨ad', cap', rfl, h1', h2', h3'⟩ := hv'.form
  clear h3 hv h3' hv'
  by_cases hl : ts.length = ts'.length
  · have hq : ((ts.length : Int) != (ts'.length : Int)) = false := by simp [hl]
    have HL : Hid (ts.length = ts'.length) := hl
    clear hl
    go_enter Tryd.func7, Tryd.ntmps7
    go_wp2_with fail
    go_loopg [5] ts.length (fun gk i wr => ∃ j : Nat, j + gk = ts.length ∧ i = .int .i64 j ∧ ts.take j = ts'.take j ∧ Below w.heap.size w wr)
    case atStart => exact ⟨0, by omega, rfl, rfl, Below.refl _ _⟩
    case round =>
      obtain ⟨j, hj', rfl, htk, hb⟩ := hrel
      have HJ : Hid (j + gk = ts.length) := hj'
      have HT : Hid (ts.take j = ts'.take j) := htk
      have hj : j ≤ ts.length := by omega
      clear hj' htk
      by_cases hlt : j < ts.length
      · have hlt' : j < ts'.length := by have := HL.out; omega
        have HB : Hid (Below w.heap.size w wr) := hb
        obtain ⟨b, o, cap2, e1, hbl, _, _, c0, c1⟩ := (HV.out.below hb).at hlt
        obtain ⟨b', o', cap2', e1', hbl', _, _, c0', c1'⟩ := (HV'.out.below hb).at hlt'
        cases e1
        cases e1'
        obtain ⟨k, hk⟩ : ∃ k, ts[j].1 = k := ⟨_, rfl⟩
        obtain ⟨n, hn⟩ : ∃ n, ts[j].2 = n := ⟨_, rfl⟩
        obtain ⟨k', hk'⟩ : ∃ k, ts'[j].1 = k := ⟨_, rfl⟩
        obtain ⟨n', hn'⟩ : ∃ n, ts'[j].2 = n := ⟨_, rfl⟩
        have Hk : Hid (ts[j] = (k, n)) := by show _ = _; rw [← hk, ← hn]
        have Hk' : Hid (ts'[j] = (k', n')) := by show _ = _; rw [← hk', ← hn']
        rw [hk] at c0
        rw [hn] at c1
        rw [hk'] at c0'
        rw [hn'] at c1'
        have r0 := cells_re c0
        have r1 := cells_re c1
        have r0' := cells_re c0'
        have r1' := cells_re c1'
        clear hk hn hk' hn' c0 c1 c0' c1' hb
        by_cases hq2 : k = k' ∧ n = n'
        · have hd : decide (k = k' ∧ n = n') = true := by simp [hq2]
          have HC : Hid (∀ w, Calls Tryd.prog 18 #[.agg #[.int .i64 k, .int .i64 n], .agg #[.int .i64 k', .int .i64 n']] w fun e w' => e = .returned (.bool true) ∧ Below w.heap.size w w') := fun w => by have := eqTyp_any k n k' n' w; rwa [hd] at this
          have HT2 : Hid (ts.take (j + 1) = ts'.take (j + 1)) := by
            show _ = _
            rw [List.take_succ_eq_append_getElem hlt, List.take_succ_eq_append_getElem hlt', HT.out, Hk.out, Hk'.out, hq2.1, hq2.2]
          clear hq2 hd
          go_wp2_with fail
          refine wp_region_quiet_below (by kernel_rfl) (by kernel_rfl) ?_
          repeat (go_big_quiet_step (exact Calls.regrown_of (HC.out _)))
          refine wpQuiet_nil ?_
          intro w6 hw'
          obtain ⟨⟨dq, osq⟩, hw''⟩ := hw'
          have hb2 : Below w.heap.size w w6 := by rw [hw'']; exact below_step3 HB.out (below_regrown _ dq osq) HB.out.size
          clear hw'' r0 r1 r0' r1'
          go_wp2_with fail
          go_roundg (gk - 1)
          case rel => exact ⟨j + 1, by have := HJ.out; omega, by go_num, HT2.out, hb2⟩
          case measure => have := HJ.out; omega
        · have hd : decide (k = k' ∧ n = n') = false := by simp only [decide_eq_false_iff_not]; exact hq2
          have HC : Hid (∀ w, Calls Tryd.prog 18 #[.agg #[.int .i64 k, .int .i64 n], .agg #[.int .i64 k', .int .i64 n']] w fun e w' => e = .returned (.bool false) ∧ Below w.heap.size w w') := fun w => by have := eqTyp_any k n k' n' w; rwa [hd] at this
          have HR : Hid (decide (ts = ts') = false) := by
            show _ = _
            simp only [decide_eq_false_iff_not]
            intro e
            subst e
            have e1 := Hk.out
            rw [Hk'.out] at e1
            cases e1
            exact hq2 ⟨rfl, rfl⟩
          clear hq2 hd
          go_wp2_with fail
          refine wp_region_quiet_below (by kernel_rfl) (by kernel_rfl) ?_
          repeat (go_big_quiet_step (exact Calls.regrown_of (HC.out _)))
          refine wpQuiet_nil ?_
          intro w6 hw'
          obtain ⟨⟨dq, osq⟩, hw''⟩ := hw'
          have hb2 : Below w.heap.size w w6 := by rw [hw'']; exact below_step3 HB.out (below_regrown _ dq osq) HB.out.size
          clear hw'' r0 r1 r0' r1'
          go_wp2_with fail
          go_ret
          exact ⟨by rw [HR.out]; try rfl, hb2⟩
      · have HR : Hid (decide (ts = ts') = true) := by
          show _ = _
          have h1 := HT.out
          rw [List.take_of_length_le (by omega), List.take_of_length_le (by have := HL.out; omega)] at h1
          simp [h1]
        go_wp2_with fail
        go_ret
        exact ⟨by rw [HR.out]; try rfl, hb⟩
  · have hq : ((ts.length : Int) != (ts'.length : Int)) = true := by rw [bne_iff_ne]; omega
    have HR : Hid (decide (ts = ts') = false) := by show _ = _; simp only [decide_eq_false_iff_not]; intro e; exact hl (by rw [e])
    clear hl
    go_enter Tryd.func7, Tryd.ntmps7
    go_wp2_with fail
    go_ret
    exact ⟨by rw [HR.out]; try rfl, Below.refl _ _⟩
end Go.Proofs.YtdolcfgnclnnoaaDoor
