/- How many bytes the values of a schema have in SSZ: the program's functions, and those that are called from outside: contracts. -/
import Derived.Test.YtjpdhenmhffmeaaDoorS6b
namespace Go.Proofs.YtjpdhenmhffmeaaDoor
open Go.RowKit Go.Sort
set_option linter.unusedVariables false
theorem cells_re' {w : World} {a : Addr} {v : Value} (h : w.cell? a = some v) : ∀ d os, (grow (redrawn w d) os).cell? a = some v := fun d os => cell_regrown h d os
theorem below_step3' {w W : World} {d : Nat} {os : Array Obj} (h : Below w.heap.size w W) : Below w.heap.size w (grow (redrawn W d) os) := h.trans ((below_regrown W d os).mono h.size)
/-- The place of a struct without cells in one without cells. -/
theorem part0 {w : World} {b : Nat} (h : w.heap[b]? = some (.cells #[] 59 (0, 0))) : Sem.run Tryd.prog (partAt ⟨b, 0, none⟩ 0 0) w = .ok ⟨b, 0, none⟩ w := by
  have hc : Tryd.prog.cellsOf 59 = 0 := by kernel_rfl
  simp [partAt, byteOf, noView, viewAt, World.shape?, go_sem, h, hc]
theorem part0_re (w : World) (d : Nat) (os : Array Obj) : Sem.run Tryd.prog (partAt ⟨w.heap.size, 0, none⟩ 0 0) (grow (redrawn (w.alloc (.cells #[] 59)) d) os) = .ok ⟨w.heap.size, 0, none⟩ (grow (redrawn (w.alloc (.cells #[] 59)) d) os) :=
  part0 (by rw [(below_regrown _ d os).block _ (by simp)]; exact heap_alloc_new w _)
set_option maxHeartbeats 400000 in
theorem width6_any (k n : Int) (w : World) (hok : tyOk k n = true) : Calls Tryd.prog 53 #[.agg #[], .agg #[.int .i64 k, .int .i64 n]] w fun e w' => e = .returned (.int .i64 (if k = 1 then n / 8 else 1)) ∧ Below w.heap.size w w' := by
  simp only [tyOk, decide_eq_true_eq] at hok
  by_cases hk : k = 1
  · subst hk
    rw [if_pos rfl]
    have hn : n = 8 ∨ n = 16 ∨ n = 32 ∨ n = 64 := by omega
    clear hok
    rcases hn with rfl | rfl | rfl | rfl
    all_goals
      go_enter Tryd.func53, Tryd.ntmps53
      go_wp2
      go_ret
      exact ⟨rfl, (bel1 _ _).alloc (by simp) _⟩
  · rw [if_neg hk]
    have hk' := beqF hk
    clear hok
    go_enter Tryd.func53, Tryd.ntmps53
    go_wp2
    go_ret
    exact ⟨rfl, (bel1 _ _).alloc (by simp) _⟩
/-- The contract of size, f levels being left. -/
def SzHyp (ts : List (Int × Int)) (f : Nat) : Prop := ∀ (u a : Nat) (w : World) (S : Nat → Prop), TreeAt ts f w S u a → (∀ c, S c → c < w.heap.size) →
  Calls Tryd.prog 28 #[.agg #[], .pointer (some ⟨u, 0, none⟩)] w fun e w' => e = .returned (.int .i64 (szT ts f a)) ∧ Below w.heap.size w w'
set_option maxHeartbeats 2000000 in
theorem sizeAll_of (ts : List (Int × Int)) (f : Nat) (hh : SzHyp ts f) (a K cap : Nat) (ad : Option Addr) (n : Int) (S : Nat → Prop) (w : World) (hf : f ≤ 6) (hK : K ≤ 6) (hn : 1 ≤ n ∧ n ≤ 8) (h3 : K ≤ cap) (h4 : cap ≤ maxLen) (hS : ∀ c, S c → c < w.heap.size)
    (h5 : K = 0 ∨ ∃ g, ad = some ⟨g, 0, none⟩ ∧ S g ∧ ∀ j, j < K → ∃ c p, iter (en ts f) (a + 1) j = some p ∧ w.cell? ⟨g, j, none⟩ = some (.pointer (some ⟨c, 0, none⟩)) ∧ TreeAt ts f w S c p) :
    Calls Tryd.prog 54 #[.agg #[], .slice ad K cap, .int .i64 n] w fun e w' => e = .returned (.int .i64 (if addTo (en ts f) (szT ts f) (a + 1) K < 0 then -1 else addTo (en ts f) (szT ts f) (a + 1) K * n)) ∧ Below w.heap.size w w' := by
  have HH : Hid (SzHyp ts f) := hh
  have HS : Hid (∀ c, S c → c < w.heap.size) := hS
  have H5 : Hid (K = 0 ∨ ∃ g, ad = some ⟨g, 0, none⟩ ∧ S g ∧ ∀ j, j < K → ∃ c p, iter (en ts f) (a + 1) j = some p ∧ w.cell? ⟨g, j, none⟩ = some (.pointer (some ⟨c, 0, none⟩)) ∧ TreeAt ts f w S c p) := h5
  have HA : Hid (∀ j, addTo (en ts f) (szT ts f) (a + 1) j ≤ j * 134217728) := fun j => (addTo_range (B := 134217728) (by omega) (fun b => (szT_small (by omega)).2) j).2
  clear hh hS h5
  unfold maxLen at h4
  obtain ⟨R, hR⟩ : ∃ R, (if addTo (en ts f) (szT ts f) (a + 1) K < 0 then -1 else addTo (en ts f) (szT ts f) (a + 1) K * n) = R := ⟨_, rfl⟩
  have HRR : Hid ((if addTo (en ts f) (szT ts f) (a + 1) K < 0 then -1 else addTo (en ts f) (szT ts f) (a + 1) K * n) = R) := hR
  rw [hR]
  clear hR
  go_enter Tryd.func54, Tryd.ntmps54
  go_wp2_with fail
  go_loopg [7, 13] K (fun gk s i wr => ∃ j : Nat, j + gk = K ∧ i = .int .i64 j ∧ s = .int .i64 (addTo (en ts f) (szT ts f) (a + 1) j) ∧ 0 ≤ addTo (en ts f) (szT ts f) (a + 1) j ∧ Below w.heap.size w wr)
  case atStart => exact ⟨0, by omega, rfl, rfl, by simp [addTo], bel1 _ _⟩
  case round =>
    obtain ⟨j, hj', rfl, rfl, hs0, hb⟩ := hrel
    have HJ : Hid (j + gk = K) := hj'
    have hj : j ≤ K := by omega
    have HB : Hid (Below w.heap.size w wr) := hb
    have hup : addTo (en ts f) (szT ts f) (a + 1) j ≤ 805306368 := by have := HA.out j; omega
    clear hj' hb
    by_cases hlt : j < K
    · obtain ⟨g, rfl, hSg, hk⟩ := H5.out.resolve_left (by omega)
      obtain ⟨c, p, hp, hcell, htr⟩ := hk j hlt
      have hcell' : wr.cell? ⟨g, j, none⟩ = some (.pointer (some ⟨c, 0, none⟩)) := by rw [HB.out.cell (HS.out g hSg)]; exact hcell
      have HC : Hid (Calls Tryd.prog 28 #[.agg #[], .pointer (some ⟨c, 0, none⟩)] wr fun e w' => e = .returned (.int .i64 (szT ts f p)) ∧ Below wr.heap.size wr w') := HH.out c p wr S (htr.belK HS.out HB.out) (fun c hc => by have := HS.out c hc; have := HB.out.size; omega)
      have hsz := szT_small (ts := ts) (f := f) (a := p) (by omega)
      have HAN : Hid (szT ts f p = -1 → addTo (en ts f) (szT ts f) (a + 1) K = -1) := fun h => addTo_more (addTo_no hp (by omega)) K (by omega)
      have HAO : Hid (0 ≤ szT ts f p → addTo (en ts f) (szT ts f) (a + 1) (j + 1) = addTo (en ts f) (szT ts f) (a + 1) j + szT ts f p) := fun h => addTo_ok hp hs0 h
      clear hk hp htr hcell
      generalize hsE : addTo (en ts f) (szT ts f) (a + 1) j = s at *
      generalize hzE : szT ts f p = z at *
      clear hsE hzE
      go_wp2_with fail
      refine (Calls.mono HC.out ?_)
      rintro e' w2 ⟨rfl, hb2⟩
      have HB3 : Hid (Below w.heap.size w w2) := HB.out.trans (hb2.mono HB.out.size)
      clear hb2
      by_cases hz : z = -1
      · have HR : Hid (R = -1) := by show _ = _; rw [← HRR.out, HAN.out hz, if_pos (by omega)]
        subst hz
        go_wp2_with fail
        go_ret
        exact ⟨by rw [HR.out]; try rfl, HB3.out⟩
      · have hz0 : 0 ≤ z := by omega
        have hzb : (z == -1) = false := beqF hz
        have HSS : Hid (addTo (en ts f) (szT ts f) (a + 1) (j + 1) = s + z) := HAO.out hz0
        clear hz
        go_wp2_with fail
        go_roundg (gk - 1)
        case rel => exact ⟨j + 1, by have := HJ.out; omega, by go_num, by rw [HSS.out], by rw [HSS.out]; omega, HB3.out⟩
        case measure => have := HJ.out; omega
    · have e1 : j = K := by omega
      have HR : Hid (R = addTo (en ts f) (szT ts f) (a + 1) j * n) := by show _ = _; rw [← HRR.out, ← e1, if_neg (by omega)]
      clear e1
      generalize addTo (en ts f) (szT ts f) (a + 1) j = s at *
      have hmul : 0 ≤ s * n ∧ s * n ≤ 6442450944 := by
        have : n = 1 ∨ n = 2 ∨ n = 3 ∨ n = 4 ∨ n = 5 ∨ n = 6 ∨ n = 7 ∨ n = 8 := by omega
        rcases this with rfl | rfl | rfl | rfl | rfl | rfl | rfl | rfl <;> omega
      have hwr : wrap64 (s * n) = s * n := by unfold wrap64; omega
      go_wp2_with fail
      go_ret
      exact ⟨by rw [HR.out]; try rfl, HB.out⟩
set_option maxHeartbeats 2000000 in
theorem size_any (ts : List (Int × Int)) : ∀ (f : Nat), f ≤ 7 → SzHyp ts f := by
  intro f
  induction f with
  | zero => intro _ u a w S h; exact h.elim
  | succ f ih =>
    intro hf u a w S h hS
    obtain ⟨ha, e, ad, cap, hok, hit, hu, c0, c1, c5, h3, h4, h5⟩ := h.openK
    have HIH : Hid (SzHyp ts f) := ih (by omega)
    have HS : Hid (∀ c, S c → c < w.heap.size) := hS
    have HR0 := szT_at (f := f) ha hok
    have hkl := kids_le hok
    have hul : u < w.heap.size := hS u hu
    have HW : Hid (∀ w, Calls Tryd.prog 53 #[.agg #[], .agg #[.int .i64 ts[a].1, .int .i64 ts[a].2]] w fun e w' => e = .returned (.int .i64 (if ts[a].1 = 1 then ts[a].2 / 8 else 1)) ∧ Below w.heap.size w w') := fun w => width6_any _ _ w hok
    have HAL : Hid (∀ (n : Int) (w' : World), 1 ≤ n ∧ n ≤ 8 → Below w.heap.size w w' → Calls Tryd.prog 54 #[.agg #[], .slice ad (kids ts[a].1 ts[a].2) cap, .int .i64 n] w' fun e w'' => e = .returned (.int .i64 (if addTo (en ts f) (szT ts f) (a + 1) (kids ts[a].1 ts[a].2) < 0 then -1 else addTo (en ts f) (szT ts f) (a + 1) (kids ts[a].1 ts[a].2) * n)) ∧ Below w'.heap.size w' w'') := fun n w' hn hb' =>
      sizeAll_of ts f HIH.out a _ cap ad n S w' (by omega) hkl hn h3 h4 (fun c hc => by have := HS.out c hc; have := hb'.size; omega) (by
        rcases h5 with h5 | ⟨g, hg, hSg, hk⟩
        · exact .inl h5
        · refine .inr ⟨g, hg, hSg, fun j hj => ?_⟩
          obtain ⟨c, p, hp, hc, ht⟩ := hk j hj
          exact ⟨c, p, hp, by rw [hb'.cell (HS.out g hSg)]; exact hc, ht.belK HS.out hb'⟩)
    clear ih h hS hu hit h5 HIH
    unfold maxLen at h4
    generalize ts[a].1 = k at *
    generalize ts[a].2 = n at *
    generalize addTo (en ts f) (szT ts f) (a + 1) (kids k n) = x at *
    generalize kids k n = K at *
    simp only [tyOk, decide_eq_true_eq] at hok
    have a0 : ∀ o, (w.alloc o).cell? ⟨u, 0, none⟩ = some (.int .i64 k) := fun o => by rw [(bel1 w o).cell hul]; exact c0
    have a1 : ∀ o, (w.alloc o).cell? ⟨u, 1, none⟩ = some (.int .i64 n) := fun o => by rw [(bel1 w o).cell hul]; exact c1
    have a5 : ∀ o, (w.alloc o).cell? ⟨u, 5, none⟩ = some (.slice ad K cap) := fun o => by rw [(bel1 w o).cell hul]; exact c5
    have r0 := fun o => cells_re' (a0 o)
    have r1 := fun o => cells_re' (a1 o)
    have r5 := fun o => cells_re' (a5 o)
    by_cases hleaf : k = 3 ∨ k = 5 ∨ k = 8 ∨ k = 9
    · have HR : Hid (szT ts (f + 1) a = -1) := by
        show _ = _
        rw [HR0, if_neg (by omega), if_neg (by omega), if_neg (by omega), if_neg (by omega)]
      clear HR0 hok HW HAL r0 r1 r5
      rcases hleaf with rfl | rfl | rfl | rfl
      all_goals
        go_enter Tryd.func28, Tryd.ntmps28
        go_wp2_with fail
        go_ret
        exact ⟨by rw [HR.out]; try rfl, bel1 _ _⟩
    by_cases hk4 : k = 4
    · subst hk4
      have HR : Hid (szT ts (f + 1) a = n) := by show _ = _; rw [HR0, if_neg (by omega), if_neg (by omega), if_pos rfl]
      clear HR0 hok HW HAL hleaf r0 r1 r5
      go_enter Tryd.func28, Tryd.ntmps28
      go_wp2_with fail
      go_ret
      exact ⟨by rw [HR.out]; try rfl, bel1 _ _⟩
    by_cases hk12 : k = 1 ∨ k = 2
    · have HR : Hid (szT ts (f + 1) a = if k = 1 then n / 8 else 1) := by
        show _ = _
        rw [HR0]
        rcases hk12 with rfl | rfl
        · rw [if_pos rfl, if_pos rfl]
        · rw [if_neg (by omega), if_pos rfl, if_neg (by omega)]
      generalize (if k = 1 then n / 8 else (1 : Int)) = y at *
      clear HR0 hok HAL hleaf hk4
      rcases hk12 with rfl | rfl
      all_goals
        go_enter Tryd.func28, Tryd.ntmps28
        go_wp2_with fail
        have hp0 := part0_re w
        refine wp_region_quiet_below (by kernel_rfl) (by kernel_rfl) ?_
        repeat (go_big_quiet_step (exact Calls.regrown_of (HW.out _)))
        refine wpQuiet_nil ?_
        intro w6 hw'
        obtain ⟨⟨dq, osq⟩, hw''⟩ := hw'
        have hb2 : Below w.heap.size w w6 := by rw [hw'']; exact (bel1 _ _).trans ((below_regrown _ dq osq).mono (by simp))
        clear hw'' r0 r1 r5 hp0
        go_wp2_with fail
        go_ret
        exact ⟨by rw [HR.out]; try rfl, hb2⟩
    have hk67 : k = 6 ∨ k = 7 := by omega
    rcases hk67 with rfl | rfl
    · have hn8 : 1 ≤ n ∧ n ≤ 8 := by omega
      have HR : Hid (szT ts (f + 1) a = if x < 0 then -1 else x * n) := by
        show _ = _
        rw [HR0, if_neg (by omega), if_neg (by omega), if_neg (by omega), if_pos (by omega), if_pos (show (6 : Int) = 6 from rfl)]
      have HC : Hid (∀ w', Below w.heap.size w w' → Calls Tryd.prog 54 #[.agg #[], .slice ad K cap, .int .i64 n] w' fun e w'' => e = .returned (.int .i64 (if x < 0 then -1 else x * n)) ∧ Below w'.heap.size w' w'') := fun w' hb' => HAL.out n w' hn8 hb'
      generalize (if x < 0 then -1 else x * n) = y at *
      clear HR0 hok HAL HW hleaf hk4 hk12
      go_enter Tryd.func28, Tryd.ntmps28
      go_wp2_with fail
      refine wp_region_quiet_below (by kernel_rfl) (by kernel_rfl) ?_
      repeat (go_big_quiet_step (exact Calls.regrown_of (HC.out _ (below_step3' (bel1 _ _)))))
      refine wpQuiet_nil ?_
      intro w6 hw'
      obtain ⟨⟨dq, osq⟩, hw''⟩ := hw'
      have hb2 : Below w.heap.size w w6 := by rw [hw'']; exact (bel1 _ _).trans ((below_regrown _ dq osq).mono (by simp))
      clear hw'' r0 r1 r5
      go_wp2_with fail
      go_ret
      exact ⟨by rw [HR.out]; try rfl, hb2⟩
    · have HR : Hid (szT ts (f + 1) a = if x < 0 then -1 else x * 1) := by
        show _ = _
        rw [HR0, if_neg (by omega), if_neg (by omega), if_neg (by omega), if_pos (by omega), if_neg (show ¬ (7 : Int) = 6 by omega)]
      have HC : Hid (∀ w', Below w.heap.size w w' → Calls Tryd.prog 54 #[.agg #[], .slice ad K cap, .int .i64 1] w' fun e w'' => e = .returned (.int .i64 (if x < 0 then -1 else x * 1)) ∧ Below w'.heap.size w' w'') := fun w' hb' => HAL.out 1 w' (by omega) hb'
      generalize (if x < 0 then -1 else x * 1) = y at *
      clear HR0 hok HAL HW hleaf hk4 hk12
      go_enter Tryd.func28, Tryd.ntmps28
      go_wp2_with fail
      refine wp_region_quiet_below (by kernel_rfl) (by kernel_rfl) ?_
      repeat (go_big_quiet_step (exact Calls.regrown_of (HC.out _ (below_step3' (bel1 _ _)))))
      refine wpQuiet_nil ?_
      intro w6 hw'
      obtain ⟨⟨dq, osq⟩, hw''⟩ := hw'
      have hb2 : Below w.heap.size w w6 := by rw [hw'']; exact (bel1 _ _).trans ((below_regrown _ dq osq).mono (by simp))
      clear hw'' r0 r1 r5
      go_wp2_with fail
      go_ret
      exact ⟨by rw [HR.out]; try rfl, hb2⟩
set_option maxHeartbeats 400000 in
theorem implSszSize_any (ts : List (Int × Int)) (v : Value) (w : World) (hv : IsTyps w.heap.size w v ts) (hw : KR w) : Calls Tryd.prog 15 #[v] w fun e w' => e = .returned (.int .i64 (sszSize ts)) ∧ Below w.heap.size w w' := by
  have HC : Hid (Calls Tryd.prog 27 #[v] w fun e w' => PsPost ts w e w') := parseSchema_any ts v w hv hw
  clear hv hw
  go_enter Tryd.func15, Tryd.ntmps15
  go_wp2_with fail
  refine Calls.mono HC.out ?_
  rintro e w1 ⟨hb, ⟨hs, rfl⟩ | ⟨hs, u, rfl, htr⟩⟩
  · have HR : Hid (sszSize ts = -1) := by show _ = _; simp [sszSize, hs]
    clear hs
    go_wp2_with fail
    go_ret
    exact ⟨by rw [HR.out]; try rfl, hb⟩
  · have HR : Hid (sszSize ts = szT ts 7 0) := by show _ = _; simp [sszSize, hs]
    have HL : Hid (Calls Tryd.prog 28 #[.agg #[], .pointer (some ⟨u, 0, none⟩)] w1 fun e w' => e = .returned (.int .i64 (szT ts 7 0)) ∧ Below w1.heap.size w1 w') := size_any ts 7 (by omega) u 0 w1 _ htr (fun c hc => hc.2)
    clear hs htr
    go_wp2_with fail
    refine Calls.mono HL.out ?_
    rintro e w2 ⟨rfl, hb2⟩
    go_wp2_with fail
    go_ret
    exact ⟨by rw [HR.out]; try rfl, hb.trans (hb2.mono hb.size)⟩
end Go.Proofs.YtjpdhenmhffmeaaDoor
