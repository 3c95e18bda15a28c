/- A value's bytes, as SSZ writes them: the contract of the writing. -/
import Derived.Test.YtjpdhenmhffmeaaDoorS9d
import Derived.Test.YtjpdhenmhffmeaaDoorS7d
namespace Go.Proofs.YtjpdhenmhffmeaaDoor
open Go.RowKit Go.Sort
set_option linter.unusedVariables false
theorem part0_of {W : World} {b : Nat} (h : W.heap[b]? = some (.cells #[] 59 (0, 0))) (d : Nat) (os : Array Obj) : Sem.run Tryd.prog (partAt ⟨b, 0, none⟩ 0 0) (grow (redrawn W d) os) = .ok ⟨b, 0, none⟩ (grow (redrawn W d) os) :=
  part0 (by rw [(below_regrown W d os).block b (blk_lt h)]; exact h)
set_option maxRecDepth 100000 in
set_option maxHeartbeats 2000000 in
theorem swNum (u m : Nat) (k n : Int) (w : World) (c0 : w.cell? ⟨u, 0, none⟩ = some (.int .i64 k)) (c1 : w.cell? ⟨u, 1, none⟩ = some (.int .i64 n)) (hu : u < w.heap.size) (hok : tyOk k n = true) (hm : m < 18446744073709551616) :
    Calls Tryd.prog 112 #[.agg #[], .iface 120 (.agg #[.pointer (some ⟨u, 0, none⟩), .int .u64 m])] w fun e w' => e = .returned (.string ⟨(leL m (wid k n)).toArray⟩) ∧ Below w.heap.size w w' := by
  have HC : Hid (∀ w, Calls Tryd.prog 113 #[.agg #[], .agg #[.int .i64 k, .int .i64 n], .int .u64 m] w fun e w' => e = .returned (.string ⟨(leL m (wid k n)).toArray⟩) ∧ Below w.heap.size w w') := fun w => writeNumber_any k n m w hok hm
  have y1 := as_yes_120
  have p0 := part0_of (heap_2 w (.cells #[] 59) (.cells #[.pointer (some ⟨u, 0, none⟩), .int .u64 (m : Int)] 120))
  have r0 := cells_re3 (cell_2 c0 hu (.cells #[] 59) (.cells #[.pointer (some ⟨u, 0, none⟩), .int .u64 (m : Int)] 120))
  have r1 := cells_re3 (cell_2 c1 hu (.cells #[] 59) (.cells #[.pointer (some ⟨u, 0, none⟩), .int .u64 (m : Int)] 120))
  have s0 := cells_re3 (w := ((w.alloc (.cells #[] 59)).alloc (.cells #[.pointer (some ⟨u, 0, none⟩), .int .u64 (m : Int)] 120))) (a := ⟨w.heap.size + 1, 0, none⟩) (v := .pointer (some ⟨u, 0, none⟩)) (by simp [go_sem])
  have s1 := cells_re3 (w := ((w.alloc (.cells #[] 59)).alloc (.cells #[.pointer (some ⟨u, 0, none⟩), .int .u64 (m : Int)] 120))) (a := ⟨w.heap.size + 1, 1, none⟩) (v := .int .u64 (m : Int)) (by simp [go_sem])
  clear hok
  go_enter Tryd.func112, Tryd.ntmps112
  go_wp2_with fail
  refine wp_region_quiet_below (by kernel_rfl) (by kernel_rfl) ?_
  repeat (go_big_quiet_step (exact Calls.regrown_of (HC.out _)))
  refine wpQuiet_nil ?_
  intro w6 hw'
  obtain ⟨⟨dq, osq⟩, hw''⟩ := hw'
  have hb2 : Below w.heap.size w w6 := by rw [hw'']; exact (bel2 _ _ _).trans ((below_regrown _ dq osq).mono (by simp; omega))
  clear hw'' p0 r0 r1 s0 s1
  go_wp2_with fail
  go_ret
  exact ⟨rfl, hb2⟩
set_option maxRecDepth 100000 in
set_option maxHeartbeats 2000000 in
theorem swBytes (u : Nat) (s : ByteArray) (w : World) :
    Calls Tryd.prog 112 #[.agg #[], .iface 122 (.agg #[.pointer (some ⟨u, 0, none⟩), .string s])] w fun e w' => e = .returned (.string s) ∧ Below w.heap.size w w' := by
  have y1 := as_yes_122
  have n1 := as_no_122_120
  go_enter Tryd.func112, Tryd.ntmps112
  go_wp2_with fail
  go_ret
  exact ⟨rfl, bel2 _ _ _⟩
set_option maxRecDepth 100000 in
set_option maxHeartbeats 2000000 in
theorem swChoice (u m : Nat) (k n : Int) (y : Value) (E : List UInt8) (w : World) (c0 : w.cell? ⟨u, 0, none⟩ = some (.int .i64 k)) (c1 : w.cell? ⟨u, 1, none⟩ = some (.int .i64 n)) (hu : u < w.heap.size) (hok : tyOk k n = true) (hm : m < 18446744073709551616)
    (hE : E.length ≤ 1000000000000) (hy : (y = .nilIface ∧ E = []) ∨ ((∃ T z, y = .iface T z) ∧ ∀ w', Below w.heap.size w w' → Calls Tryd.prog 112 #[.agg #[], y] w' fun e w'' => e = .returned (.string ⟨E.toArray⟩) ∧ Below w'.heap.size w' w'')) :
    Calls Tryd.prog 112 #[.agg #[], .iface 134 (.agg #[.pointer (some ⟨u, 0, none⟩), .int .u64 m, y])] w fun e w' => e = .returned (.string ⟨(leL m (wid k n) ++ E).toArray⟩) ∧ Below w.heap.size w w' := by
  have HC : Hid (Calls Tryd.prog 115 #[.agg #[], .iface 59 (.agg #[]), .agg #[.pointer (some ⟨u, 0, none⟩), .int .u64 m, y]] ((w.alloc (.cells #[] 59)).alloc (.cells #[.pointer (some ⟨u, 0, none⟩), .int .u64 (m : Int), y] 134)) fun e w' => e = .returned (.string ⟨(leL m (wid k n) ++ E).toArray⟩) ∧ Below ((w.alloc (.cells #[] 59)).alloc (.cells #[.pointer (some ⟨u, 0, none⟩), .int .u64 (m : Int), y] 134)).heap.size ((w.alloc (.cells #[] 59)).alloc (.cells #[.pointer (some ⟨u, 0, none⟩), .int .u64 (m : Int), y] 134)) w') :=
    wrChoice_ssz u m k n y E _ (cell_2 c0 hu _ _) (cell_2 c1 hu _ _) (by simp; omega) hok hm hE (hy.imp id fun ⟨h1, h2⟩ => ⟨h1, fun w' hb => h2 w' ((bel2 _ _ _).trans (hb.mono (by simp; omega)))⟩)
  have y1 := as_yes_134
  have n1 := as_no_134_120
  have n2 := as_no_134_122
  have n3 := as_no_134_131
  have p0 := part0 (heap_2 w (.cells #[] 59) (.cells #[.pointer (some ⟨u, 0, none⟩), .int .u64 (m : Int), y] 134))
  have hy1 : y = .nilIface ∨ ∃ T z, y = .iface T z := hy.imp (·.1) (·.1)
  clear hok hy hE c0 c1
  rcases hy1 with rfl | ⟨T, z, rfl⟩
  all_goals
    go_enter Tryd.func112, Tryd.ntmps112
    go_wp2_with fail
    refine Calls.mono HC.out ?_
    rintro e w1 ⟨rfl, hb1⟩
    have HB : Hid (Below w.heap.size w w1) := (bel2 _ _ _).trans (hb1.mono (by simp; omega))
    clear hb1 p0
    go_wp2_with fail
    go_ret
    exact ⟨rfl, HB.out⟩
/-- What is asked of the parts of a series. -/
structure SerHyp (u M : Nat) (ys : Nat → Value) (E : Nat → List UInt8) (sz : Nat → Int) (fr : Nat) (w : World) : Prop where
  front : ∀ w', Below w.heap.size w w' → Calls Tryd.prog 116 #[.agg #[], .pointer (some ⟨u, 0, none⟩), .int .i64 M] w' fun e w'' => e = .returned (.int .i64 fr) ∧ Below w'.heap.size w' w''
  part : ∀ j, j < M → ∃ c, (∀ w', Below w.heap.size w w' → Calls Tryd.prog 82 #[.pointer (some ⟨u, 0, none⟩), .int .u64 j] w' fun e w'' => e = .returned (.pointer (some ⟨c, 0, none⟩)) ∧ w'' = w') ∧ ∀ w', Below w.heap.size w w' → Calls Tryd.prog 28 #[.agg #[], .pointer (some ⟨c, 0, none⟩)] w' fun e w'' => e = .returned (.int .i64 (sz j)) ∧ Below w'.heap.size w' w''
  write : ∀ j, j < M → ∀ w', Below w.heap.size w w' → Calls Tryd.prog 112 #[.agg #[], ys j] w' fun e w'' => e = .returned (.string ⟨(E j).toArray⟩) ∧ Below w'.heap.size w' w''
  szr : ∀ j, -1 ≤ sz j ∧ sz j ≤ 134217728
  len : ∀ j, j ≤ M → (hts (fun j => decide (sz j < 0)) E fr j).1.length + (hts (fun j => decide (sz j < 0)) E fr j).2.length ≤ 209720000
  one : ∀ j, j < M → (E j).length ≤ 209720000
set_option maxRecDepth 100000 in
set_option maxHeartbeats 4000000 in
theorem swSeries (u M cap : Nat) (ad : Option Addr) (ys : Nat → Value) (E : Nat → List UInt8) (sz : Nat → Int) (fr : Nat) (w : World) (hM : M ≤ 20) (hfr : fr ≤ 2684354560) (h1 : M ≤ cap) (h2 : cap ≤ maxLen)
    (hcell : M = 0 ∨ ∃ g, ad = some ⟨g, 0, none⟩ ∧ g < w.heap.size ∧ ∀ j, j < M → w.cell? ⟨g, j, none⟩ = some (ys j)) (hh : SerHyp u M ys E sz fr w) :
    Calls Tryd.prog 114 #[.agg #[], .agg #[.pointer (some ⟨u, 0, none⟩), .slice ad M cap]] w fun e w' => e = .returned (.string ⟨((hts (fun j => decide (sz j < 0)) E fr M).1 ++ (hts (fun j => decide (sz j < 0)) E fr M).2).toArray⟩) ∧ Below w.heap.size w w' := by
  have HH : Hid (SerHyp u M ys E sz fr w) := hh
  have HCL : Hid (M = 0 ∨ ∃ g, ad = some ⟨g, 0, none⟩ ∧ g < w.heap.size ∧ ∀ j, j < M → w.cell? ⟨g, j, none⟩ = some (ys j)) := hcell
  clear hh hcell
  have HTN : Hid (TwoB (w.heap.size + 1 + 1) (w.heap.size + 1 + 1) (w.heap.size + 1 + 1 + 1) [] [] ((((w.alloc (.cells #[] 59)).alloc (.cells #[.pointer (some ⟨u, 0, none⟩), .slice ad M cap] 131)).alloc (.cells #[.pointer none, .slice none 0 0] 157)).alloc (.cells #[.pointer none, .slice none 0 0] 157))) := by
    have h := TwoB.new ((w.alloc (.cells #[] 59)).alloc (.cells #[.pointer (some ⟨u, 0, none⟩), .slice ad M cap] 131))
    have e : ((w.alloc (.cells #[] 59)).alloc (.cells #[.pointer (some ⟨u, 0, none⟩), .slice ad M cap] 131)).heap.size = w.heap.size + 1 + 1 := by simp
    rw [e] at h
    exact h
  have HB4 : Hid (Below w.heap.size w ((((w.alloc (.cells #[] 59)).alloc (.cells #[.pointer (some ⟨u, 0, none⟩), .slice ad M cap] 131)).alloc (.cells #[.pointer none, .slice none 0 0] 157)).alloc (.cells #[.pointer none, .slice none 0 0] 157))) := (bel3 _ _ _ _).alloc (by simp; omega) _
  obtain ⟨hd, hhd⟩ : ∃ hd : Nat → List UInt8, hd = fun j => (hts (fun j => decide (sz j < 0)) E fr j).1 := ⟨_, rfl⟩
  obtain ⟨tl, htl⟩ : ∃ tl : Nat → List UInt8, tl = fun j => (hts (fun j => decide (sz j < 0)) E fr j).2 := ⟨_, rfl⟩
  have HR : Hid ((⟨(hd M).toArray⟩ : ByteArray) ++ ⟨(tl M).toArray⟩ = ⟨((hts (fun j => decide (sz j < 0)) E fr M).1 ++ (hts (fun j => decide (sz j < 0)) E fr M).2).toArray⟩) := by show _ = _; rw [cat_list, hhd, htl]
  have HZ0 : Hid (hd 0 = [] ∧ tl 0 = []) := by rw [hhd, htl]; exact ⟨rfl, rfl⟩
  have HFX : Hid (∀ j, ¬ sz j < 0 → hd (j + 1) = hd j ++ E j ∧ tl (j + 1) = tl j) := fun j hj => by
    have h := hts_fix (vr := fun j => decide (sz j < 0)) (E := E) (fr := fr) (j := j) (by simpa using hj)
    rw [hhd, htl]; simp only [h]; exact ⟨trivial, trivial⟩
  have HVR : Hid (∀ j, sz j < 0 → hd (j + 1) = hd j ++ leL (fr + (tl j).length) 4 ∧ tl (j + 1) = tl j ++ E j) := fun j hj => by
    have h := hts_var (vr := fun j => decide (sz j < 0)) (E := E) (fr := fr) (j := j) (by simpa using hj)
    rw [hhd, htl]; simp only [h]; exact ⟨trivial, trivial⟩
  have HLN : Hid (∀ j, j ≤ M → (hd j).length + (tl j).length ≤ 209720000) := fun j hj => by rw [hhd, htl]; exact HH.out.len j hj
  clear hhd htl
  go_enter Tryd.func114, Tryd.ntmps114
  go_wp2_with fail
  refine (HH.out.front _ HB4.out).mono ?_
  rintro e w5 ⟨rfl, hb5⟩
  have HT5 : Hid (TwoB (w.heap.size + 1 + 1) (w.heap.size + 1 + 1) (w.heap.size + 1 + 1 + 1) [] [] w5) := HTN.out.below hb5
  have HB5 : Hid (Below w.heap.size w w5) := HB4.out.trans (hb5.mono HB4.out.size)
  have z0 : w5.cell? ⟨w.heap.size + 1, 0, none⟩ = some (.pointer (some ⟨u, 0, none⟩)) := by rw [hb5.cell (p := ⟨w.heap.size + 1, 0, none⟩) (by simp <;> omega)]; simp [go_sem]
  have z1 : w5.cell? ⟨w.heap.size + 1, 1, none⟩ = some (.slice ad M cap) := by rw [hb5.cell (p := ⟨w.heap.size + 1, 1, none⟩) (by simp <;> omega)]; simp [go_sem]
  have hs5 : w.heap.size + 1 + 1 + 1 + 1 ≤ w5.heap.size := by have := hb5.size; simp at this; omega
  clear hb5 HTN
  go_wp2_with fail
  go_loopg [21] M (fun gk i wr => ∃ j : Nat, j + gk = M ∧ i = .int .i64 j ∧ TwoB (w.heap.size + 1 + 1) (w.heap.size + 1 + 1) (w.heap.size + 1 + 1 + 1) (hd j) (tl j) wr ∧ Below (w.heap.size + 1 + 1) w5 wr)
  case atStart => exact ⟨0, by omega, rfl, by rw [HZ0.out.1, HZ0.out.2]; exact HT5.out, Below.refl _ _⟩
  case round =>
    obtain ⟨j, hj', rfl, htw, hbel⟩ := hrel
    have HJ : Hid (j + gk = M) := hj'
    have hj : j ≤ M := by omega
    have HTW : Hid (TwoB (w.heap.size + 1 + 1) (w.heap.size + 1 + 1) (w.heap.size + 1 + 1 + 1) (hd j) (tl j) wr) := htw
    have HBE : Hid (Below (w.heap.size + 1 + 1) w5 wr) := hbel
    have HBW : Hid (Below w.heap.size w wr) := HB5.out.trans (hbel.mono (by omega))
    have hsr : w5.heap.size ≤ wr.heap.size := hbel.size
    have hln := HLN.out j hj
    clear hj' htw
    by_cases hjM : j < M
    · obtain ⟨g, rfl, hg, hc⟩ := HCL.out.resolve_left (by omega)
      have cj : wr.cell? ⟨g, j, none⟩ = some (ys j) := by rw [HBW.out.cell (p := ⟨g, j, none⟩) hg]; exact hc j hjM
      have y0 : wr.cell? ⟨w.heap.size + 1, 0, none⟩ = some (.pointer (some ⟨u, 0, none⟩)) := by rw [hbel.cell (p := ⟨w.heap.size + 1, 0, none⟩) (by show w.heap.size + 1 < w.heap.size + 1 + 1; omega)]; exact z0
      have HWR := HH.out.write j hjM wr HBW.out
      obtain ⟨c, hpc, hsc⟩ := HH.out.part j hjM
      have hEl := HH.out.one j hjM
      have hszr := HH.out.szr j
      have HNX1 := HFX.out j
      have HNX2 := HVR.out j
      obtain ⟨Y, hY⟩ : ∃ Y, ys j = Y := ⟨_, rfl⟩
      rw [hY] at cj HWR
      obtain ⟨z, hz⟩ : ∃ z, sz j = z := ⟨_, rfl⟩
      rw [hz] at hsc hszr HNX1 HNX2
      obtain ⟨Ej, hEj⟩ : ∃ Ej, E j = Ej := ⟨_, rfl⟩
      rw [hEj] at HWR hEl HNX1 HNX2
      have HWR' : Hid (Calls Tryd.prog 112 #[.agg #[], Y] wr fun e w'' => e = .returned (.string ⟨Ej.toArray⟩) ∧ Below wr.heap.size wr w'') := HWR
      have HPC : Hid (∀ w', Below w.heap.size w w' → Calls Tryd.prog 82 #[.pointer (some ⟨u, 0, none⟩), .int .u64 j] w' fun e w'' => e = .returned (.pointer (some ⟨c, 0, none⟩)) ∧ Below w'.heap.size w' w'') := fun w' hb => (hpc w' hb).mono fun e w'' ⟨h1, h2⟩ => ⟨h1, by rw [h2]; exact Below.refl _ _⟩
      have HSC : Hid (∀ w', Below w.heap.size w w' → Calls Tryd.prog 28 #[.agg #[], .pointer (some ⟨c, 0, none⟩)] w' fun e w'' => e = .returned (.int .i64 z) ∧ Below w'.heap.size w' w'') := hsc
      have HN1 : Hid (0 ≤ z → hd (j + 1) = hd j ++ Ej ∧ tl (j + 1) = tl j) := fun h => HNX1 (by omega)
      have HN2 : Hid (z < 0 → hd (j + 1) = hd j ++ leL (fr + (tl j).length) 4 ∧ tl (j + 1) = tl j ++ Ej) := HNX2
      clear HWR hpc hsc HNX1 HNX2 hY hz hEj hc hbel
      go_wp2_with fail
      refine Calls.mono HWR'.out ?_
      rintro e w6 ⟨rfl, hb6⟩
      have HT6 : Hid (TwoB (w.heap.size + 1 + 1) (w.heap.size + 1 + 1) (w.heap.size + 1 + 1 + 1) (hd j) (tl j) w6) := HTW.out.below hb6
      have HE6 : Hid (Below (w.heap.size + 1 + 1) w5 w6) := HBE.out.trans (hb6.mono (by omega))
      have HW6 : Hid (Below w.heap.size w w6) := HBW.out.trans (hb6.mono HBW.out.size)
      have hs6 : wr.heap.size ≤ w6.heap.size := hb6.size
      have x0 : w6.cell? ⟨w.heap.size + 1, 0, none⟩ = some (.pointer (some ⟨u, 0, none⟩)) := by rw [hb6.cell (p := ⟨w.heap.size + 1, 0, none⟩) (by show w.heap.size + 1 < wr.heap.size; omega)]; exact y0
      have r0 := cells_re3 x0
      have HBR : Hid (∀ d os, Below w.heap.size w (grow (redrawn w6 d) os)) := fun d os => HW6.out.trans ((below_regrown _ d os).mono HW6.out.size)
      clear hb6 cj y0
      go_wp2_with fail
      have hz01 : z < 0 ∨ ¬ z < 0 := Classical.em _
      rcases hz01 with hzv | hzf
      · have ez : z = -1 := by omega
        subst ez
        refine wp_region_quiet_below (by kernel_rfl) (by kernel_rfl) ?_
        repeat (go_big_quiet_step (first | (go_at_call 82; exact Calls.regrown_of (HPC.out _ (HBR.out _ _))) | (go_at_call 28; exact Calls.regrown_of (HSC.out _ (HBR.out _ _)))))
        refine wpQuiet_nil ?_
        intro w7 hw'
        obtain ⟨⟨dq, osq⟩, hw''⟩ := hw'
        have hb7 : Below w6.heap.size w6 w7 := by rw [hw'']; exact below_regrown _ _ _
        have HT7 : Hid (TwoB (w.heap.size + 1 + 1) (w.heap.size + 1 + 1) (w.heap.size + 1 + 1 + 1) (hd j) (tl j) w7) := HT6.out.below hb7
        have HE7 : Hid (Below (w.heap.size + 1 + 1) w5 w7) := HE6.out.trans (hb7.mono (by omega))
        have hs7 : w6.heap.size ≤ w7.heap.size := hb7.size
        have hn := HN2.out (by decide)
        have HN : Hid (hd (j + 1) = hd j ++ leL (fr + (tl j).length) 4 ∧ tl (j + 1) = tl j ++ Ej) := hn
        have HLE : Hid (∀ w', TwoB (w.heap.size + 1 + 1) (w.heap.size + 1 + 1) (w.heap.size + 1 + 1 + 1) (hd j) (tl j) w' → Calls Tryd.prog 118 #[.pointer (some ⟨w.heap.size + 1 + 1 + 1, 0, none⟩)] w' fun e w'' => e = .returned (.int .i64 (tl j).length) ∧ w'' = w') := fun w' ht => by
          obtain ⟨p1, v1, p2, v2, q1, q2, _⟩ := ht
          exact len_at q2
        have hlj : (leL (fr + (tl j).length) 4).length = 4 := leL_len _ _
        have HWH : Hid (∀ w', Calls Tryd.prog 117 #[.int .u32 ((fr : Int) + ((tl j).length : Int))] w' fun e w'' => e = .returned (.string ⟨(leL (fr + (tl j).length) 4).toArray⟩) ∧ Below w'.heap.size w' w'') := fun w' => by
          have := whole_u32_any (fr + (tl j).length) w' (by omega)
          rw [Int.natCast_add] at this
          exact this
        have htlj : (tl j).length ≤ 209720000 := by omega
        have hhdj : (hd j).length ≤ 209720000 := by omega
        generalize leL (fr + (tl j).length) 4 = off at *
        generalize hd j = hj0 at *
        generalize tl j = tj0 at *
        clear hw'' r0 x0 hn hb7 hln
        go_wp2_with fail
        refine (HLE.out w7 HT7.out).mono ?_
        rintro e w8 ⟨rfl, rfl⟩
        go_wp2_with fail
        refine (HWH.out _).mono ?_
        rintro e w9 ⟨rfl, hb9⟩
        have HT9 : Hid (TwoB (w.heap.size + 1 + 1) (w.heap.size + 1 + 1) (w.heap.size + 1 + 1 + 1) hj0 tj0 w9) := HT7.out.below hb9
        have HE9 : Hid (Below (w.heap.size + 1 + 1) w5 w9) := HE7.out.trans (hb9.mono (by omega))
        have hs9 : w8.heap.size ≤ w9.heap.size := hb9.size
        clear hb9
        go_wp2_with fail
        refine (two_write off HT9.out (by omega) (by omega)).mono ?_
        rintro e wa ⟨rfl, hta, hba⟩
        have HTa : Hid (TwoB (w.heap.size + 1 + 1) (w.heap.size + 1 + 1 + 1) (w.heap.size + 1 + 1) tj0 (hj0 ++ off) wa) := hta.swap
        have HEa : Hid (Below (w.heap.size + 1 + 1) w5 wa) := HE9.out.trans hba
        have hsa : w9.heap.size ≤ wa.heap.size := hba.size
        clear hta hba
        go_wp2_with fail
        refine (two_write Ej HTa.out (by omega) (by omega)).mono ?_
        rintro e wc ⟨rfl, htc, hbc⟩
        have HTc : Hid (TwoB (w.heap.size + 1 + 1) (w.heap.size + 1 + 1) (w.heap.size + 1 + 1 + 1) (hd (j + 1)) (tl (j + 1)) wc) := by
          show TwoB _ _ _ _ _ _
          rw [HN.out.1, HN.out.2]
          exact htc.swap
        have HEc : Hid (Below (w.heap.size + 1 + 1) w5 wc) := HEa.out.trans hbc
        clear htc hbc
        go_wp2_with fail
        go_roundg (gk - 1)
        case rel => exact ⟨j + 1, by have := HJ.out; omega, by go_num, HTc.out, HEc.out⟩
        case measure => have := HJ.out; omega
      · have hz1 : (z == -1) = false := beqF (by omega)
        have hz2 : (z != -1) = true := by rw [bne_iff_ne]; omega
        refine wp_region_quiet_below (by kernel_rfl) (by kernel_rfl) ?_
        repeat (go_big_quiet_step (first | (go_at_call 82; exact Calls.regrown_of (HPC.out _ (HBR.out _ _))) | (go_at_call 28; exact Calls.regrown_of (HSC.out _ (HBR.out _ _)))))
        refine wpQuiet_nil ?_
        intro w7 hw'
        obtain ⟨⟨dq, osq⟩, hw''⟩ := hw'
        have hb7 : Below w6.heap.size w6 w7 := by rw [hw'']; exact below_regrown _ _ _
        have HT7 : Hid (TwoB (w.heap.size + 1 + 1) (w.heap.size + 1 + 1) (w.heap.size + 1 + 1 + 1) (hd j) (tl j) w7) := HT6.out.below hb7
        have HE7 : Hid (Below (w.heap.size + 1 + 1) w5 w7) := HE6.out.trans (hb7.mono (by omega))
        have hs7 : w6.heap.size ≤ w7.heap.size := hb7.size
        have HN : Hid (hd (j + 1) = hd j ++ Ej ∧ tl (j + 1) = tl j) := HN1.out (by omega)
        clear hw'' r0 x0 hb7
        go_wp2_with fail
        refine (two_write Ej HT7.out (by omega) (by omega)).mono ?_
        rintro e wc ⟨rfl, htc, hbc⟩
        have HTc : Hid (TwoB (w.heap.size + 1 + 1) (w.heap.size + 1 + 1) (w.heap.size + 1 + 1 + 1) (hd (j + 1)) (tl (j + 1)) wc) := by
          show TwoB _ _ _ _ _ _
          rw [HN.out.1, HN.out.2]
          exact htc
        have HEc : Hid (Below (w.heap.size + 1 + 1) w5 wc) := HE7.out.trans hbc
        clear htc hbc
        go_wp2_with fail
        go_roundg (gk - 1)
        case rel => exact ⟨j + 1, by have := HJ.out; omega, by go_num, HTc.out, HEc.out⟩
        case measure => have := HJ.out; omega
    · have ej : j = M := by omega
      obtain ⟨p1, v1, p2, v2, q1, q2, q3, q4, q5, q6⟩ := HTW.out
      have HS1 : Hid (Calls Tryd.prog 109 #[.pointer (some ⟨w.heap.size + 1 + 1, 0, none⟩)] wr fun e w' => e = .returned (.string ⟨(hd j).toArray⟩) ∧ (BAt (w.heap.size + 1 + 1) (w.heap.size + 1 + 1 + 1) p2 v2 (tl j) w' ∧ Below (w.heap.size + 1 + 1) wr w')) := (str_at q1).mono fun e w' ⟨e1, hg, hb⟩ => ⟨e1, q2.keep hg (fun e => q4 e.symm) (by
        cases hv : v2.ownBlock with
        | none => exact .inl rfl
        | some g => exact .inr (fun e => q6 g e.symm hv)), hb⟩
      have HRj : Hid ((⟨(hd j).toArray⟩ : ByteArray) ++ ⟨(tl j).toArray⟩ = ⟨((hts (fun j => decide (sz j < 0)) E fr M).1 ++ (hts (fun j => decide (sz j < 0)) E fr M).2).toArray⟩) := by rw [ej]; exact HR.out
      have hsz1 : ByteArray.size ⟨(hd j).toArray⟩ ≤ 209720000 := by show (hd j).toArray.size ≤ _; rw [List.size_toArray]; omega
      have hsz2 : ByteArray.size ⟨(tl j).toArray⟩ ≤ 209720000 := by show (tl j).toArray.size ≤ _; rw [List.size_toArray]; omega
      clear q1 q2 q3 q4 q5 q6 hbel ej
      go_wp2_with fail
      refine Calls.mono HS1.out ?_
      rintro e w6 ⟨rfl, hb2, hbl⟩
      have HS2 : Hid (Calls Tryd.prog 109 #[.pointer (some ⟨w.heap.size + 1 + 1 + 1, 0, none⟩)] w6 fun e w' => e = .returned (.string ⟨(tl j).toArray⟩) ∧ Below (w.heap.size + 1 + 1) w6 w') := (str_at hb2).mono fun e w' ⟨e1, _, hb⟩ => ⟨e1, hb⟩
      have HW6 : Hid (Below w.heap.size w w6) := HBW.out.trans (hbl.mono (by omega))
      obtain ⟨X, hX⟩ : ∃ X : ByteArray, (⟨(hd j).toArray⟩ : ByteArray) = X := ⟨_, rfl⟩
      obtain ⟨Y, hY⟩ : ∃ Y : ByteArray, (⟨(tl j).toArray⟩ : ByteArray) = Y := ⟨_, rfl⟩
      rw [hX] at hsz1 HRj ⊢
      rw [hY] at hsz2 HRj HS2
      have hXY : ¬ (9223372036854775807 < X.size + Y.size) := by omega
      clear hb2 hbl hX hY hsz1 hsz2
      go_wp2_with fail
      refine Calls.mono HS2.out ?_
      rintro e w7 ⟨rfl, hb7⟩
      have HW7 : Hid (Below w.heap.size w w7) := HW6.out.trans (hb7.mono (by omega))
      clear hb7
      go_wp2_with fail
      go_ret
      exact ⟨by rw [← HRj.out]; rfl, HW7.out⟩
end Go.Proofs.YtjpdhenmhffmeaaDoor
