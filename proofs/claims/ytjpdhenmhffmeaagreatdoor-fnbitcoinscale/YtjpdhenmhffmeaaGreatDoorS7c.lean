/- A value's bytes, as the formats with counts write them: contracts, a case each. -/
import Derived.Test.YtjpdhenmhffmeaaGreatDoorS7b
import Derived.Test.YtjpdhenmhffmeaaGreatDoorS7t
namespace Go.Proofs.YtjpdhenmhffmeaaGreatDoor
open Go.RowKit Go.Sort
set_option linter.unusedVariables false
theorem cell_2 {w : World} {u i : Nat} {v : Value} (h : w.cell? ⟨u, i, none⟩ = some v) (hu : u < w.heap.size) (o o' : Obj) : ((w.alloc o).alloc o').cell? ⟨u, i, none⟩ = some v := by
  rw [(bel2 w o o').cell (p := ⟨u, i, none⟩) hu]; exact h
theorem heap_2 (w : World) (o o' : Obj) : ((w.alloc o).alloc o').heap[w.heap.size]? = some o := by
  rw [Below.heap_alloc _ _ _ (by simp), heap_alloc_new]
set_option maxRecDepth 100000 in
set_option maxHeartbeats 2000000 in
theorem wrNum_sc (u m : Nat) (k n : Int) (w : World) (c0 : w.cell? ⟨u, 0, none⟩ = some (.int .i64 k)) (c1 : w.cell? ⟨u, 1, none⟩ = some (.int .i64 n)) (hu : u < w.heap.size) (hok : tyOk k n = true) (hm : m < 18446744073709551616) :
    Calls Tryz.prog 115 #[.agg #[.func (.func 37) #[] #[], .func (.func 38) #[] #[]], .iface 117 (.agg #[.pointer (some ⟨u, 0, none⟩), .int .u64 m])] w fun e w' => e = .returned (.string ⟨(leL m (wid k n)).toArray⟩) ∧ Below w.heap.size w w' := by
  have HC : Hid (∀ w, Calls Tryz.prog 116 #[.agg #[], .agg #[.int .i64 k, .int .i64 n], .int .u64 m] w fun e w' => e = .returned (.string ⟨(leL m (wid k n)).toArray⟩) ∧ Below w.heap.size w w') := fun w => writeNumber_any k n m w hok hm
  have y1 := as_yes_117
  have p0 := part00_re (heap_2 w (.cells #[.func (.func 37) #[] #[], .func (.func 38) #[] #[]] 48) (.cells #[.pointer (some ⟨u, 0, none⟩), .int .u64 (m : Int)] 117))
  have r0 := cells_re3 (cell_2 c0 hu (.cells #[.func (.func 37) #[] #[], .func (.func 38) #[] #[]] 48) (.cells #[.pointer (some ⟨u, 0, none⟩), .int .u64 (m : Int)] 117))
  have r1 := cells_re3 (cell_2 c1 hu (.cells #[.func (.func 37) #[] #[], .func (.func 38) #[] #[]] 48) (.cells #[.pointer (some ⟨u, 0, none⟩), .int .u64 (m : Int)] 117))
  have s0 := cells_re3 (w := ((w.alloc (.cells #[.func (.func 37) #[] #[], .func (.func 38) #[] #[]] 48)).alloc (.cells #[.pointer (some ⟨u, 0, none⟩), .int .u64 (m : Int)] 117))) (a := ⟨w.heap.size + 1, 0, none⟩) (v := .pointer (some ⟨u, 0, none⟩)) (by simp [go_sem])
  have s1 := cells_re3 (w := ((w.alloc (.cells #[.func (.func 37) #[] #[], .func (.func 38) #[] #[]] 48)).alloc (.cells #[.pointer (some ⟨u, 0, none⟩), .int .u64 (m : Int)] 117))) (a := ⟨w.heap.size + 1, 1, none⟩) (v := .int .u64 (m : Int)) (by simp [go_sem])
  clear hok
  go_enter Tryz.func115, Tryz.ntmps115
  go_wp2_with fail
  refine wp_region_quiet_below (by kernel_rfl) (by kernel_rfl) ?_
  repeat (go_big_quiet_step (exact Calls.regrown_of (HC.out _)))
  refine wpQuiet_nil ?_
  intro w6 hw'
  obtain ⟨⟨dq, osq⟩, hw''⟩ := hw'
  have hb2 : Below w.heap.size w w6 := by rw [hw'']; exact (bel2 _ _ _).trans ((below_regrown _ dq osq).mono (by simp; omega))
  clear hw'' p0 r0 r1 s0 s1
  go_wp2_with fail
  go_ret
  exact ⟨rfl, hb2⟩
set_option maxRecDepth 100000 in
set_option maxHeartbeats 2000000 in
theorem wrBytes_sc (u : Nat) (s : ByteArray) (k n : Int) (w : World) (c0 : w.cell? ⟨u, 0, none⟩ = some (.int .i64 k)) (c1 : w.cell? ⟨u, 1, none⟩ = some (.int .i64 n)) (hu : u < w.heap.size) (hs : s.size ≤ 1048577) (hcl : (cnt_sc k s.size).length ≤ 1000) :
    Calls Tryz.prog 115 #[.agg #[.func (.func 37) #[] #[], .func (.func 38) #[] #[]], .iface 119 (.agg #[.pointer (some ⟨u, 0, none⟩), .string s])] w fun e w' => e = .returned (.string ⟨(cnt_sc k s.size ++ s.data.toList).toArray⟩) ∧ Below w.heap.size w w' := by
  have HC : Hid (∀ w, Calls Tryz.prog 117 #[.agg #[.func (.func 37) #[] #[], .func (.func 38) #[] #[]], .agg #[.int .i64 k, .int .i64 n], .int .i64 s.size] w fun e w' => e = .returned (.string ⟨(cnt_sc k s.size).toArray⟩) ∧ Below w.heap.size w w') := fun w => writeCount_sc k n s.size w (by omega)
  have y1 := as_yes_119
  have n1 := as_no_119_117
  have HR : Hid ((⟨(cnt_sc k s.size).toArray⟩ : ByteArray) ++ s = ⟨(cnt_sc k s.size ++ s.data.toList).toArray⟩) := by
    show _ = _
    obtain ⟨⟨l⟩⟩ := s
    exact cat_list _ _
  have hsz : ByteArray.size ⟨(cnt_sc k s.size).toArray⟩ ≤ 1000 := by show (cnt_sc k s.size).toArray.size ≤ 1000; rw [List.size_toArray]; exact hcl
  obtain ⟨D, hD⟩ : ∃ D : ByteArray, (⟨(cnt_sc k s.size).toArray⟩ : ByteArray) = D := ⟨_, rfl⟩
  rw [hD] at HC HR hsz
  have hD2 : ¬ (9223372036854775807 < D.size + s.size) := by omega
  clear hD hcl
  have p0 := part00_re (heap_2 w (.cells #[.func (.func 37) #[] #[], .func (.func 38) #[] #[]] 48) (.cells #[.pointer (some ⟨u, 0, none⟩), .string s] 119))
  have r0 := cells_re3 (cell_2 c0 hu (.cells #[.func (.func 37) #[] #[], .func (.func 38) #[] #[]] 48) (.cells #[.pointer (some ⟨u, 0, none⟩), .string s] 119))
  have r1 := cells_re3 (cell_2 c1 hu (.cells #[.func (.func 37) #[] #[], .func (.func 38) #[] #[]] 48) (.cells #[.pointer (some ⟨u, 0, none⟩), .string s] 119))
  have s0 := cells_re3 (w := ((w.alloc (.cells #[.func (.func 37) #[] #[], .func (.func 38) #[] #[]] 48)).alloc (.cells #[.pointer (some ⟨u, 0, none⟩), .string s] 119))) (a := ⟨w.heap.size + 1, 0, none⟩) (v := .pointer (some ⟨u, 0, none⟩)) (by simp [go_sem])
  have s1 := cells_re3 (w := ((w.alloc (.cells #[.func (.func 37) #[] #[], .func (.func 38) #[] #[]] 48)).alloc (.cells #[.pointer (some ⟨u, 0, none⟩), .string s] 119))) (a := ⟨w.heap.size + 1, 1, none⟩) (v := .string s) (by simp [go_sem])
  have t0 := cells_re3 (w := ((w.alloc (.cells #[.func (.func 37) #[] #[], .func (.func 38) #[] #[]] 48)).alloc (.cells #[.pointer (some ⟨u, 0, none⟩), .string s] 119))) (a := ⟨w.heap.size, 0, none⟩) (v := .func (.func 37) #[] #[]) (by simp [go_sem])
  have t1 := cells_re3 (w := ((w.alloc (.cells #[.func (.func 37) #[] #[], .func (.func 38) #[] #[]] 48)).alloc (.cells #[.pointer (some ⟨u, 0, none⟩), .string s] 119))) (a := ⟨w.heap.size, 1, none⟩) (v := .func (.func 38) #[] #[]) (by simp [go_sem])
  go_enter Tryz.func115, Tryz.ntmps115
  go_wp2_with fail
  refine wp_region_quiet_below (by kernel_rfl) (by kernel_rfl) ?_
  repeat (go_big_quiet_step (exact Calls.regrown_of (HC.out _)))
  refine wpQuiet_nil ?_
  intro w6 hw'
  obtain ⟨⟨dq, osq⟩, hw''⟩ := hw'
  have hb2 : Below w.heap.size w w6 := by rw [hw'']; exact (bel2 _ _ _).trans ((below_regrown _ dq osq).mono (by simp; omega))
  clear hw'' p0 r0 r1 s0 s1 t0 t1
  go_wp2_with fail
  go_ret
  exact ⟨by rw [← HR.out]; rfl, hb2⟩
set_option maxRecDepth 100000 in
set_option maxHeartbeats 2000000 in
theorem wrSeries_sc (u M cap : Nat) (ad : Option Addr) (k n : Int) (ys : Nat → Value) (E : Nat → List UInt8) (w : World) (c0 : w.cell? ⟨u, 0, none⟩ = some (.int .i64 k)) (c1 : w.cell? ⟨u, 1, none⟩ = some (.int .i64 n)) (hu : u < w.heap.size) (hM : M ≤ 20) (h1 : M ≤ cap) (h2 : cap ≤ maxLen)
    (hcell : M = 0 ∨ ∃ g, ad = some ⟨g, 0, none⟩ ∧ g < w.heap.size ∧ ∀ j, j < M → w.cell? ⟨g, j, none⟩ = some (ys j)) (hE : ∀ j, j < M → (E j).length ≤ 1000000000000) (hw : WrHyp_sc ys E M w) (hcl : (cnt_sc k M).length ≤ 1000) :
    Calls Tryz.prog 115 #[.agg #[.func (.func 37) #[] #[], .func (.func 38) #[] #[]], .iface 141 (.agg #[.pointer (some ⟨u, 0, none⟩), .slice ad M cap])] w fun e w' => e = .returned (.string ⟨(cnt_sc k M ++ catE E M).toArray⟩) ∧ Below w.heap.size w w' := by
  have HC : Hid (∀ w, Calls Tryz.prog 117 #[.agg #[.func (.func 37) #[] #[], .func (.func 38) #[] #[]], .agg #[.int .i64 k, .int .i64 n], .int .i64 M] w fun e w' => e = .returned (.string ⟨(cnt_sc k M).toArray⟩) ∧ Below w.heap.size w w') := fun w => writeCount_sc k n M w (by omega)
  have HA : Hid (∀ w', Below w.heap.size w w' → Calls Tryz.prog 118 #[.iface 48 (.agg #[.func (.func 37) #[] #[], .func (.func 38) #[] #[]]), .slice ad M cap] w' fun e w'' => e = .returned (.string ⟨(catE E M).toArray⟩) ∧ Below w'.heap.size w' w'') := fun w' hb => by
    refine writeAll_sc M cap ad ys E w' hM h1 h2 ?_ hE (fun j hj w'' hb' => hw j hj w'' (hb.trans (hb'.mono hb.size)))
    rcases hcell with h | ⟨g, hg, hgl, hc⟩
    · exact .inl h
    · exact .inr ⟨g, hg, by have := hb.size; omega, fun j hj => by rw [hb.cell (p := ⟨g, j, none⟩) hgl]; exact hc j hj⟩
  have hl2 := catE_len hE M (Nat.le_refl _)
  have y1 := as_yes_141
  have n1 := as_no_141_117
  have n2 := as_no_141_119
  have HR : Hid ((⟨(cnt_sc k M).toArray⟩ : ByteArray) ++ ⟨(catE E M).toArray⟩ = ⟨(cnt_sc k M ++ catE E M).toArray⟩) := cat_list _ _
  have hsz : ByteArray.size ⟨(cnt_sc k M).toArray⟩ ≤ 1000 := by show (cnt_sc k M).toArray.size ≤ 1000; rw [List.size_toArray]; exact hcl
  have hsz2 : ByteArray.size ⟨(catE E M).toArray⟩ ≤ M * 1000000000000 := by show (catE E M).toArray.size ≤ _; rw [List.size_toArray]; exact hl2
  obtain ⟨D, hD⟩ : ∃ D : ByteArray, (⟨(cnt_sc k M).toArray⟩ : ByteArray) = D := ⟨_, rfl⟩
  obtain ⟨X, hX⟩ : ∃ X : ByteArray, (⟨(catE E M).toArray⟩ : ByteArray) = X := ⟨_, rfl⟩
  rw [hD] at HC hsz
  rw [hX] at HA hsz2
  rw [hD, hX] at HR
  have hD2 : ¬ (9223372036854775807 < D.size + X.size) := by omega
  clear hD hX hcl hl2 hsz hsz2 hw hcell hE
  have p0 := part00_re (heap_2 w (.cells #[.func (.func 37) #[] #[], .func (.func 38) #[] #[]] 48) (.cells #[.pointer (some ⟨u, 0, none⟩), .slice ad M cap] 141))
  have r0 := cells_re3 (cell_2 c0 hu (.cells #[.func (.func 37) #[] #[], .func (.func 38) #[] #[]] 48) (.cells #[.pointer (some ⟨u, 0, none⟩), .slice ad M cap] 141))
  have r1 := cells_re3 (cell_2 c1 hu (.cells #[.func (.func 37) #[] #[], .func (.func 38) #[] #[]] 48) (.cells #[.pointer (some ⟨u, 0, none⟩), .slice ad M cap] 141))
  have s0 := cells_re3 (w := ((w.alloc (.cells #[.func (.func 37) #[] #[], .func (.func 38) #[] #[]] 48)).alloc (.cells #[.pointer (some ⟨u, 0, none⟩), .slice ad M cap] 141))) (a := ⟨w.heap.size + 1, 0, none⟩) (v := .pointer (some ⟨u, 0, none⟩)) (by simp [go_sem])
  have s1 := cells_re3 (w := ((w.alloc (.cells #[.func (.func 37) #[] #[], .func (.func 38) #[] #[]] 48)).alloc (.cells #[.pointer (some ⟨u, 0, none⟩), .slice ad M cap] 141))) (a := ⟨w.heap.size + 1, 1, none⟩) (v := .slice ad M cap) (by simp [go_sem])
  have t0 := cells_re3 (w := ((w.alloc (.cells #[.func (.func 37) #[] #[], .func (.func 38) #[] #[]] 48)).alloc (.cells #[.pointer (some ⟨u, 0, none⟩), .slice ad M cap] 141))) (a := ⟨w.heap.size, 0, none⟩) (v := .func (.func 37) #[] #[]) (by simp [go_sem])
  have t1 := cells_re3 (w := ((w.alloc (.cells #[.func (.func 37) #[] #[], .func (.func 38) #[] #[]] 48)).alloc (.cells #[.pointer (some ⟨u, 0, none⟩), .slice ad M cap] 141))) (a := ⟨w.heap.size, 1, none⟩) (v := .func (.func 38) #[] #[]) (by simp [go_sem])
  have HBR : Hid (∀ d os, Below w.heap.size w (grow (redrawn ((w.alloc (.cells #[.func (.func 37) #[] #[], .func (.func 38) #[] #[]] 48)).alloc (.cells #[.pointer (some ⟨u, 0, none⟩), .slice ad M cap] 141)) d) os)) := fun d os => (bel2 _ _ _).trans ((below_regrown _ d os).mono (by simp; omega))
  go_enter Tryz.func115, Tryz.ntmps115
  go_wp2_with fail
  refine wp_region_quiet_below (by kernel_rfl) (by kernel_rfl) ?_
  repeat (go_big_quiet_step (first | (go_at_call 117; exact Calls.regrown_of (HC.out _)) | (go_at_call 118; exact Calls.regrown_of (HA.out _ (HBR.out _ _)))))
  refine wpQuiet_nil ?_
  intro w6 hw'
  obtain ⟨⟨dq, osq⟩, hw''⟩ := hw'
  have hb2 : Below w.heap.size w w6 := by rw [hw'']; exact HBR.out _ _
  clear hw'' p0 r0 r1 s0 s1 t0 t1
  go_wp2_with fail
  go_ret
  exact ⟨by rw [← HR.out]; rfl, hb2⟩
set_option maxRecDepth 100000 in
set_option maxHeartbeats 2000000 in
theorem wrNum_bc (u m : Nat) (k n : Int) (w : World) (c0 : w.cell? ⟨u, 0, none⟩ = some (.int .i64 k)) (c1 : w.cell? ⟨u, 1, none⟩ = some (.int .i64 n)) (hu : u < w.heap.size) (hok : tyOk k n = true) (hm : m < 18446744073709551616) :
    Calls Tryz.prog 115 #[.agg #[.func (.func 31) #[] #[], .func (.func 32) #[] #[]], .iface 117 (.agg #[.pointer (some ⟨u, 0, none⟩), .int .u64 m])] w fun e w' => e = .returned (.string ⟨(leL m (wid k n)).toArray⟩) ∧ Below w.heap.size w w' := by
  have HC : Hid (∀ w, Calls Tryz.prog 116 #[.agg #[], .agg #[.int .i64 k, .int .i64 n], .int .u64 m] w fun e w' => e = .returned (.string ⟨(leL m (wid k n)).toArray⟩) ∧ Below w.heap.size w w') := fun w => writeNumber_any k n m w hok hm
  have y1 := as_yes_117
  have p0 := part00_re (heap_2 w (.cells #[.func (.func 31) #[] #[], .func (.func 32) #[] #[]] 48) (.cells #[.pointer (some ⟨u, 0, none⟩), .int .u64 (m : Int)] 117))
  have r0 := cells_re3 (cell_2 c0 hu (.cells #[.func (.func 31) #[] #[], .func (.func 32) #[] #[]] 48) (.cells #[.pointer (some ⟨u, 0, none⟩), .int .u64 (m : Int)] 117))
  have r1 := cells_re3 (cell_2 c1 hu (.cells #[.func (.func 31) #[] #[], .func (.func 32) #[] #[]] 48) (.cells #[.pointer (some ⟨u, 0, none⟩), .int .u64 (m : Int)] 117))
  have s0 := cells_re3 (w := ((w.alloc (.cells #[.func (.func 31) #[] #[], .func (.func 32) #[] #[]] 48)).alloc (.cells #[.pointer (some ⟨u, 0, none⟩), .int .u64 (m : Int)] 117))) (a := ⟨w.heap.size + 1, 0, none⟩) (v := .pointer (some ⟨u, 0, none⟩)) (by simp [go_sem])
  have s1 := cells_re3 (w := ((w.alloc (.cells #[.func (.func 31) #[] #[], .func (.func 32) #[] #[]] 48)).alloc (.cells #[.pointer (some ⟨u, 0, none⟩), .int .u64 (m : Int)] 117))) (a := ⟨w.heap.size + 1, 1, none⟩) (v := .int .u64 (m : Int)) (by simp [go_sem])
  clear hok
  go_enter Tryz.func115, Tryz.ntmps115
  go_wp2_with fail
  refine wp_region_quiet_below (by kernel_rfl) (by kernel_rfl) ?_
  repeat (go_big_quiet_step (exact Calls.regrown_of (HC.out _)))
  refine wpQuiet_nil ?_
  intro w6 hw'
  obtain ⟨⟨dq, osq⟩, hw''⟩ := hw'
  have hb2 : Below w.heap.size w w6 := by rw [hw'']; exact (bel2 _ _ _).trans ((below_regrown _ dq osq).mono (by simp; omega))
  clear hw'' p0 r0 r1 s0 s1
  go_wp2_with fail
  go_ret
  exact ⟨rfl, hb2⟩
set_option maxRecDepth 100000 in
set_option maxHeartbeats 2000000 in
theorem wrBytes_bc (u : Nat) (s : ByteArray) (k n : Int) (w : World) (c0 : w.cell? ⟨u, 0, none⟩ = some (.int .i64 k)) (c1 : w.cell? ⟨u, 1, none⟩ = some (.int .i64 n)) (hu : u < w.heap.size) (hs : s.size ≤ 1048577) (hcl : (cnt_bc k s.size).length ≤ 1000) :
    Calls Tryz.prog 115 #[.agg #[.func (.func 31) #[] #[], .func (.func 32) #[] #[]], .iface 119 (.agg #[.pointer (some ⟨u, 0, none⟩), .string s])] w fun e w' => e = .returned (.string ⟨(cnt_bc k s.size ++ s.data.toList).toArray⟩) ∧ Below w.heap.size w w' := by
  have HC : Hid (∀ w, Calls Tryz.prog 117 #[.agg #[.func (.func 31) #[] #[], .func (.func 32) #[] #[]], .agg #[.int .i64 k, .int .i64 n], .int .i64 s.size] w fun e w' => e = .returned (.string ⟨(cnt_bc k s.size).toArray⟩) ∧ Below w.heap.size w w') := fun w => writeCount_bc k n s.size w (by omega)
  have y1 := as_yes_119
  have n1 := as_no_119_117
  have HR : Hid ((⟨(cnt_bc k s.size).toArray⟩ : ByteArray) ++ s = ⟨(cnt_bc k s.size ++ s.data.toList).toArray⟩) := by
    show _ = _
    obtain ⟨⟨l⟩⟩ := s
    exact cat_list _ _
  have hsz : ByteArray.size ⟨(cnt_bc k s.size).toArray⟩ ≤ 1000 := by show (cnt_bc k s.size).toArray.size ≤ 1000; rw [List.size_toArray]; exact hcl
  obtain ⟨D, hD⟩ : ∃ D : ByteArray, (⟨(cnt_bc k s.size).toArray⟩ : ByteArray) = D := ⟨_, rfl⟩
  rw [hD] at HC HR hsz
  have hD2 : ¬ (9223372036854775807 < D.size + s.size) := by omega
  clear hD hcl
  have p0 := part00_re (heap_2 w (.cells #[.func (.func 31) #[] #[], .func (.func 32) #[] #[]] 48) (.cells #[.pointer (some ⟨u, 0, none⟩), .string s] 119))
  have r0 := cells_re3 (cell_2 c0 hu (.cells #[.func (.func 31) #[] #[], .func (.func 32) #[] #[]] 48) (.cells #[.pointer (some ⟨u, 0, none⟩), .string s] 119))
  have r1 := cells_re3 (cell_2 c1 hu (.cells #[.func (.func 31) #[] #[], .func (.func 32) #[] #[]] 48) (.cells #[.pointer (some ⟨u, 0, none⟩), .string s] 119))
  have s0 := cells_re3 (w := ((w.alloc (.cells #[.func (.func 31) #[] #[], .func (.func 32) #[] #[]] 48)).alloc (.cells #[.pointer (some ⟨u, 0, none⟩), .string s] 119))) (a := ⟨w.heap.size + 1, 0, none⟩) (v := .pointer (some ⟨u, 0, none⟩)) (by simp [go_sem])
  have s1 := cells_re3 (w := ((w.alloc (.cells #[.func (.func 31) #[] #[], .func (.func 32) #[] #[]] 48)).alloc (.cells #[.pointer (some ⟨u, 0, none⟩), .string s] 119))) (a := ⟨w.heap.size + 1, 1, none⟩) (v := .string s) (by simp [go_sem])
  have t0 := cells_re3 (w := ((w.alloc (.cells #[.func (.func 31) #[] #[], .func (.func 32) #[] #[]] 48)).alloc (.cells #[.pointer (some ⟨u, 0, none⟩), .string s] 119))) (a := ⟨w.heap.size, 0, none⟩) (v := .func (.func 31) #[] #[]) (by simp [go_sem])
  have t1 := cells_re3 (w := ((w.alloc (.cells #[.func (.func 31) #[] #[], .func (.func 32) #[] #[]] 48)).alloc (.cells #[.pointer (some ⟨u, 0, none⟩), .string s] 119))) (a := ⟨w.heap.size, 1, none⟩) (v := .func (.func 32) #[] #[]) (by simp [go_sem])
  go_enter Tryz.func115, Tryz.ntmps115
  go_wp2_with fail
  refine wp_region_quiet_below (by kernel_rfl) (by kernel_rfl) ?_
  repeat (go_big_quiet_step (exact Calls.regrown_of (HC.out _)))
  refine wpQuiet_nil ?_
  intro w6 hw'
  obtain ⟨⟨dq, osq⟩, hw''⟩ := hw'
  have hb2 : Below w.heap.size w w6 := by rw [hw'']; exact (bel2 _ _ _).trans ((below_regrown _ dq osq).mono (by simp; omega))
  clear hw'' p0 r0 r1 s0 s1 t0 t1
  go_wp2_with fail
  go_ret
  exact ⟨by rw [← HR.out]; rfl, hb2⟩
set_option maxRecDepth 100000 in
set_option maxHeartbeats 2000000 in
theorem wrSeries_bc (u M cap : Nat) (ad : Option Addr) (k n : Int) (ys : Nat → Value) (E : Nat → List UInt8) (w : World) (c0 : w.cell? ⟨u, 0, none⟩ = some (.int .i64 k)) (c1 : w.cell? ⟨u, 1, none⟩ = some (.int .i64 n)) (hu : u < w.heap.size) (hM : M ≤ 20) (h1 : M ≤ cap) (h2 : cap ≤ maxLen)
    (hcell : M = 0 ∨ ∃ g, ad = some ⟨g, 0, none⟩ ∧ g < w.heap.size ∧ ∀ j, j < M → w.cell? ⟨g, j, none⟩ = some (ys j)) (hE : ∀ j, j < M → (E j).length ≤ 1000000000000) (hw : WrHyp_bc ys E M w) (hcl : (cnt_bc k M).length ≤ 1000) :
    Calls Tryz.prog 115 #[.agg #[.func (.func 31) #[] #[], .func (.func 32) #[] #[]], .iface 141 (.agg #[.pointer (some ⟨u, 0, none⟩), .slice ad M cap])] w fun e w' => e = .returned (.string ⟨(cnt_bc k M ++ catE E M).toArray⟩) ∧ Below w.heap.size w w' := by
  have HC : Hid (∀ w, Calls Tryz.prog 117 #[.agg #[.func (.func 31) #[] #[], .func (.func 32) #[] #[]], .agg #[.int .i64 k, .int .i64 n], .int .i64 M] w fun e w' => e = .returned (.string ⟨(cnt_bc k M).toArray⟩) ∧ Below w.heap.size w w') := fun w => writeCount_bc k n M w (by omega)
  have HA : Hid (∀ w', Below w.heap.size w w' → Calls Tryz.prog 118 #[.iface 48 (.agg #[.func (.func 31) #[] #[], .func (.func 32) #[] #[]]), .slice ad M cap] w' fun e w'' => e = .returned (.string ⟨(catE E M).toArray⟩) ∧ Below w'.heap.size w' w'') := fun w' hb => by
    refine writeAll_bc M cap ad ys E w' hM h1 h2 ?_ hE (fun j hj w'' hb' => hw j hj w'' (hb.trans (hb'.mono hb.size)))
    rcases hcell with h | ⟨g, hg, hgl, hc⟩
    · exact .inl h
    · exact .inr ⟨g, hg, by have := hb.size; omega, fun j hj => by rw [hb.cell (p := ⟨g, j, none⟩) hgl]; exact hc j hj⟩
  have hl2 := catE_len hE M (Nat.le_refl _)
  have y1 := as_yes_141
  have n1 := as_no_141_117
  have n2 := as_no_141_119
  have HR : Hid ((⟨(cnt_bc k M).toArray⟩ : ByteArray) ++ ⟨(catE E M).toArray⟩ = ⟨(cnt_bc k M ++ catE E M).toArray⟩) := cat_list _ _
  have hsz : ByteArray.size ⟨(cnt_bc k M).toArray⟩ ≤ 1000 := by show (cnt_bc k M).toArray.size ≤ 1000; rw [List.size_toArray]; exact hcl
  have hsz2 : ByteArray.size ⟨(catE E M).toArray⟩ ≤ M * 1000000000000 := by show (catE E M).toArray.size ≤ _; rw [List.size_toArray]; exact hl2
  obtain ⟨D, hD⟩ : ∃ D : ByteArray, (⟨(cnt_bc k M).toArray⟩ : ByteArray) = D := ⟨_, rfl⟩
  obtain ⟨X, hX⟩ : ∃ X : ByteArray, (⟨(catE E M).toArray⟩ : ByteArray) = X := ⟨_, rfl⟩
  rw [hD] at HC hsz
  rw [hX] at HA hsz2
  rw [hD, hX] at HR
  have hD2 : ¬ (9223372036854775807 < D.size + X.size) := by omega
  clear hD hX hcl hl2 hsz hsz2 hw hcell hE
  have p0 := part00_re (heap_2 w (.cells #[.func (.func 31) #[] #[], .func (.func 32) #[] #[]] 48) (.cells #[.pointer (some ⟨u, 0, none⟩), .slice ad M cap] 141))
  have r0 := cells_re3 (cell_2 c0 hu (.cells #[.func (.func 31) #[] #[], .func (.func 32) #[] #[]] 48) (.cells #[.pointer (some ⟨u, 0, none⟩), .slice ad M cap] 141))
  have r1 := cells_re3 (cell_2 c1 hu (.cells #[.func (.func 31) #[] #[], .func (.func 32) #[] #[]] 48) (.cells #[.pointer (some ⟨u, 0, none⟩), .slice ad M cap] 141))
  have s0 := cells_re3 (w := ((w.alloc (.cells #[.func (.func 31) #[] #[], .func (.func 32) #[] #[]] 48)).alloc (.cells #[.pointer (some ⟨u, 0, none⟩), .slice ad M cap] 141))) (a := ⟨w.heap.size + 1, 0, none⟩) (v := .pointer (some ⟨u, 0, none⟩)) (by simp [go_sem])
  have s1 := cells_re3 (w := ((w.alloc (.cells #[.func (.func 31) #[] #[], .func (.func 32) #[] #[]] 48)).alloc (.cells #[.pointer (some ⟨u, 0, none⟩), .slice ad M cap] 141))) (a := ⟨w.heap.size + 1, 1, none⟩) (v := .slice ad M cap) (by simp [go_sem])
  have t0 := cells_re3 (w := ((w.alloc (.cells #[.func (.func 31) #[] #[], .func (.func 32) #[] #[]] 48)).alloc (.cells #[.pointer (some ⟨u, 0, none⟩), .slice ad M cap] 141))) (a := ⟨w.heap.size, 0, none⟩) (v := .func (.func 31) #[] #[]) (by simp [go_sem])
  have t1 := cells_re3 (w := ((w.alloc (.cells #[.func (.func 31) #[] #[], .func (.func 32) #[] #[]] 48)).alloc (.cells #[.pointer (some ⟨u, 0, none⟩), .slice ad M cap] 141))) (a := ⟨w.heap.size, 1, none⟩) (v := .func (.func 32) #[] #[]) (by simp [go_sem])
  have HBR : Hid (∀ d os, Below w.heap.size w (grow (redrawn ((w.alloc (.cells #[.func (.func 31) #[] #[], .func (.func 32) #[] #[]] 48)).alloc (.cells #[.pointer (some ⟨u, 0, none⟩), .slice ad M cap] 141)) d) os)) := fun d os => (bel2 _ _ _).trans ((below_regrown _ d os).mono (by simp; omega))
  go_enter Tryz.func115, Tryz.ntmps115
  go_wp2_with fail
  refine wp_region_quiet_below (by kernel_rfl) (by kernel_rfl) ?_
  repeat (go_big_quiet_step (first | (go_at_call 117; exact Calls.regrown_of (HC.out _)) | (go_at_call 118; exact Calls.regrown_of (HA.out _ (HBR.out _ _)))))
  refine wpQuiet_nil ?_
  intro w6 hw'
  obtain ⟨⟨dq, osq⟩, hw''⟩ := hw'
  have hb2 : Below w.heap.size w w6 := by rw [hw'']; exact HBR.out _ _
  clear hw'' p0 r0 r1 s0 s1 t0 t1
  go_wp2_with fail
  go_ret
  exact ⟨by rw [← HR.out]; rfl, hb2⟩
set_option maxHeartbeats 1000000 in
theorem parts_nil (u m : Nat) (w : World) : Calls Tryz.prog 123 #[.iface 144 (.agg #[.pointer (some ⟨u, 0, none⟩), .int .u64 m, .nilIface])] w fun e w' => e = .returned (.slice none 0 0) ∧ Below w.heap.size w w' := by
  have y1 := as_yes_144
  have n1 := as_no_144_141
  go_enter Tryz.func123, Tryz.ntmps123
  go_wp2_with fail
  go_ret
  exact ⟨rfl, bel1 _ _⟩
set_option maxHeartbeats 1000000 in
theorem parts_one (u m : Nat) (T : TypeId) (z : Value) (w : World) : Calls Tryz.prog 123 #[.iface 144 (.agg #[.pointer (some ⟨u, 0, none⟩), .int .u64 m, .iface T z])] w fun e w' => (∃ g, e = .returned (.slice (some ⟨g, 0, none⟩) 1 1) ∧ w.heap.size ≤ g ∧ g < w'.heap.size ∧ w'.cell? ⟨g, 0, none⟩ = some (.iface T z)) ∧ Below w.heap.size w w' := by
  have y1 := as_yes_144
  have n1 := as_no_144_141
  go_enter Tryz.func123, Tryz.ntmps123
  go_wp2_with fail
  go_ret
  exact ⟨⟨w.heap.size + 1, rfl, by omega, by simp, by simp [go_sem]⟩, bel2 _ _ _⟩
set_option maxHeartbeats 1000000 in
theorem parts_ser (u M cap : Nat) (ad : Option Addr) (w : World) : Calls Tryz.prog 123 #[.iface 141 (.agg #[.pointer (some ⟨u, 0, none⟩), .slice ad M cap])] w fun e w' => e = .returned (.slice ad M cap) ∧ Below w.heap.size w w' := by
  have y1 := as_yes_141
  go_enter Tryz.func123, Tryz.ntmps123
  go_wp2_with fail
  go_ret
  exact ⟨rfl, bel1 _ _⟩
set_option maxHeartbeats 1000000 in
theorem parts_num (u : Nat) (m : Nat) (w : World) : Calls Tryz.prog 123 #[.iface 117 (.agg #[.pointer (some ⟨u, 0, none⟩), .int .u64 m])] w fun e w' => e = .returned (.slice none 0 0) ∧ Below w.heap.size w w' := by
  have n1 := as_no_117_141
  have n2 := as_no_117_144
  go_enter Tryz.func123, Tryz.ntmps123
  go_wp2_with fail
  go_ret
  exact ⟨rfl, Below.refl _ _⟩
set_option maxHeartbeats 1000000 in
theorem parts_byt (u : Nat) (m : ByteArray) (w : World) : Calls Tryz.prog 123 #[.iface 119 (.agg #[.pointer (some ⟨u, 0, none⟩), .string m])] w fun e w' => e = .returned (.slice none 0 0) ∧ Below w.heap.size w w' := by
  have n1 := as_no_119_141
  have n2 := as_no_119_144
  go_enter Tryz.func123, Tryz.ntmps123
  go_wp2_with fail
  go_ret
  exact ⟨rfl, Below.refl _ _⟩
set_option maxHeartbeats 1000000 in
theorem chParts_sc (u m : Nat) (y : Value) (E : List UInt8) (w : World) (hE : E.length ≤ 1000000000000) (hy : (y = .nilIface ∧ E = []) ∨ ((∃ T z, y = .iface T z) ∧ ∀ w', Below w.heap.size w w' → Calls Tryz.prog 115 #[.agg #[.func (.func 37) #[] #[], .func (.func 38) #[] #[]], y] w' fun e w'' => e = .returned (.string ⟨E.toArray⟩) ∧ Below w'.heap.size w' w'')) :
    ∀ w', Below w.heap.size w w' → Calls Tryz.prog 123 #[.iface 144 (.agg #[.pointer (some ⟨u, 0, none⟩), .int .u64 m, y])] w' fun e w'' => (∃ ad n, e = .returned (.slice ad n n) ∧ ∀ w3, Below w''.heap.size w'' w3 → Calls Tryz.prog 118 #[.iface 48 (.agg #[.func (.func 37) #[] #[], .func (.func 38) #[] #[]]), .slice ad n n] w3 fun e w4 => e = .returned (.string ⟨E.toArray⟩) ∧ Below w3.heap.size w3 w4) ∧ Below w'.heap.size w' w'' := by
  intro w' hb
  rcases hy with ⟨rfl, rfl⟩ | ⟨⟨T, z, rfl⟩, hyc⟩
  · refine (parts_nil u m w').mono ?_
    rintro e w1 ⟨rfl, hb1⟩
    exact ⟨⟨none, 0, rfl, fun w3 hb3 => writeAll_sc 0 0 none (fun _ => .nilIface) (fun _ => []) w3 (by omega) (Nat.le_refl _) (by simp [maxLen]) (.inl rfl) (by simp) (fun j hj => by omega)⟩, hb1⟩
  · refine (parts_one u m T z w').mono ?_
    rintro e w1 ⟨⟨g, rfl, hg0, hg1, hc⟩, hb1⟩
    refine ⟨⟨_, 1, rfl, fun w3 hb3 => ?_⟩, hb1⟩
    have h1 := writeAll_sc 1 1 (some ⟨g, 0, none⟩) (fun _ => .iface T z) (fun _ => E) w3 (by omega) (Nat.le_refl _) (by simp [maxLen]) (.inr ⟨g, rfl, by have := hb3.size; omega, fun j hj => by
      have ej : j = 0 := by omega
      subst ej
      rw [hb3.cell (p := ⟨g, 0, none⟩) hg1]; exact hc⟩) (fun _ _ => hE) (fun j hj w4 hb4 => hyc w4 (hb.trans ((hb1.mono hb.size).trans ((hb3.mono (by have := hb.size; have := hb1.size; omega)).trans (hb4.mono (by have := hb.size; have := hb1.size; have := hb3.size; omega))))))
    simpa [catE] using h1
set_option maxHeartbeats 1000000 in
theorem chParts_bc (u m : Nat) (y : Value) (E : List UInt8) (w : World) (hE : E.length ≤ 1000000000000) (hy : (y = .nilIface ∧ E = []) ∨ ((∃ T z, y = .iface T z) ∧ ∀ w', Below w.heap.size w w' → Calls Tryz.prog 115 #[.agg #[.func (.func 31) #[] #[], .func (.func 32) #[] #[]], y] w' fun e w'' => e = .returned (.string ⟨E.toArray⟩) ∧ Below w'.heap.size w' w'')) :
    ∀ w', Below w.heap.size w w' → Calls Tryz.prog 123 #[.iface 144 (.agg #[.pointer (some ⟨u, 0, none⟩), .int .u64 m, y])] w' fun e w'' => (∃ ad n, e = .returned (.slice ad n n) ∧ ∀ w3, Below w''.heap.size w'' w3 → Calls Tryz.prog 118 #[.iface 48 (.agg #[.func (.func 31) #[] #[], .func (.func 32) #[] #[]]), .slice ad n n] w3 fun e w4 => e = .returned (.string ⟨E.toArray⟩) ∧ Below w3.heap.size w3 w4) ∧ Below w'.heap.size w' w'' := by
  intro w' hb
  rcases hy with ⟨rfl, rfl⟩ | ⟨⟨T, z, rfl⟩, hyc⟩
  · refine (parts_nil u m w').mono ?_
    rintro e w1 ⟨rfl, hb1⟩
    exact ⟨⟨none, 0, rfl, fun w3 hb3 => writeAll_bc 0 0 none (fun _ => .nilIface) (fun _ => []) w3 (by omega) (Nat.le_refl _) (by simp [maxLen]) (.inl rfl) (by simp) (fun j hj => by omega)⟩, hb1⟩
  · refine (parts_one u m T z w').mono ?_
    rintro e w1 ⟨⟨g, rfl, hg0, hg1, hc⟩, hb1⟩
    refine ⟨⟨_, 1, rfl, fun w3 hb3 => ?_⟩, hb1⟩
    have h1 := writeAll_bc 1 1 (some ⟨g, 0, none⟩) (fun _ => .iface T z) (fun _ => E) w3 (by omega) (Nat.le_refl _) (by simp [maxLen]) (.inr ⟨g, rfl, by have := hb3.size; omega, fun j hj => by
      have ej : j = 0 := by omega
      subst ej
      rw [hb3.cell (p := ⟨g, 0, none⟩) hg1]; exact hc⟩) (fun _ _ => hE) (fun j hj w4 hb4 => hyc w4 (hb.trans ((hb1.mono hb.size).trans ((hb3.mono (by have := hb.size; have := hb1.size; omega)).trans (hb4.mono (by have := hb.size; have := hb1.size; have := hb3.size; omega))))))
    simpa [catE] using h1
end Go.Proofs.YtjpdhenmhffmeaaGreatDoor
