/- A value's bytes, as the formats with counts write them: contracts, a case each. -/
import Derived.Test.YtdjdkokgcailhaaDoorS7b
import Derived.Test.YtdjdkokgcailhaaDoorS7t
namespace Go.Proofs.YtdjdkokgcailhaaDoor
open Go.RowKit Go.Sort
set_option linter.unusedVariables false
theorem cell_2 {w : World} {u i : Nat} {v : Value} (h : w.cell? ⟨u, i, none⟩ = some v) (hu : u < w.heap.size) (o o' : Obj) : ((w.alloc o).alloc o').cell? ⟨u, i, none⟩ = some v := by
  rw [(bel2 w o o').cell (p := ⟨u, i, none⟩) hu]; exact h
theorem heap_2 (w : World) (o o' : Obj) : ((w.alloc o).alloc o').heap[w.heap.size]? = some o := by
  rw [Below.heap_alloc _ _ _ (by simp), heap_alloc_new]
set_option maxRecDepth 100000 in
set_option maxHeartbeats 2000000 in
theorem wrNum_sc (u m : Nat) (k n : Int) (w : World) (c0 : w.cell? ⟨u, 0, none⟩ = some (.int .i64 k)) (c1 : w.cell? ⟨u, 1, none⟩ = some (.int .i64 n)) (hu : u < w.heap.size) (hok : tyOk k n = true) (hm : m < 18446744073709551616) :
    Calls Tryd.prog 192 #[.agg #[.func (.func 77) #[] #[], .func (.func 78) #[] #[]], .iface 107 (.agg #[.pointer (some ⟨u, 0, none⟩), .int .u64 m])] w fun e w' => e = .returned (.string ⟨(leL m (wid k n)).toArray⟩) ∧ Below w.heap.size w w' := by
  have HC : Hid (∀ w, Calls Tryd.prog 181 #[.agg #[], .agg #[.int .i64 k, .int .i64 n], .int .u64 m] w fun e w' => e = .returned (.string ⟨(leL m (wid k n)).toArray⟩) ∧ Below w.heap.size w w') := fun w => writeNumber_any k n m w hok hm
  have y1 := as_yes_107
  have p0 := part00_re (heap_2 w (.cells #[.func (.func 77) #[] #[], .func (.func 78) #[] #[]] 85) (.cells #[.pointer (some ⟨u, 0, none⟩), .int .u64 (m : Int)] 107))
  have r0 := cells_re3 (cell_2 c0 hu (.cells #[.func (.func 77) #[] #[], .func (.func 78) #[] #[]] 85) (.cells #[.pointer (some ⟨u, 0, none⟩), .int .u64 (m : Int)] 107))
  have r1 := cells_re3 (cell_2 c1 hu (.cells #[.func (.func 77) #[] #[], .func (.func 78) #[] #[]] 85) (.cells #[.pointer (some ⟨u, 0, none⟩), .int .u64 (m : Int)] 107))
  have s0 := cells_re3 (w := ((w.alloc (.cells #[.func (.func 77) #[] #[], .func (.func 78) #[] #[]] 85)).alloc (.cells #[.pointer (some ⟨u, 0, none⟩), .int .u64 (m : Int)] 107))) (a := ⟨w.heap.size + 1, 0, none⟩) (v := .pointer (some ⟨u, 0, none⟩)) (by simp [go_sem])
  have s1 := cells_re3 (w := ((w.alloc (.cells #[.func (.func 77) #[] #[], .func (.func 78) #[] #[]] 85)).alloc (.cells #[.pointer (some ⟨u, 0, none⟩), .int .u64 (m : Int)] 107))) (a := ⟨w.heap.size + 1, 1, none⟩) (v := .int .u64 (m : Int)) (by simp [go_sem])
  clear hok
  go_enter Tryd.func192, Tryd.ntmps192
  go_wp2_with fail
  refine wp_region_quiet_below (by kernel_rfl) (by kernel_rfl) ?_
  repeat (go_big_quiet_step (exact Calls.regrown_of (HC.out _)))
  refine wpQuiet_nil ?_
  intro w6 hw'
  obtain ⟨⟨dq, osq⟩, hw''⟩ := hw'
  have hb2 : Below w.heap.size w w6 := by rw [hw'']; exact (bel2 _ _ _).trans ((below_regrown _ dq osq).mono (by simp; omega))
  clear hw'' p0 r0 r1 s0 s1
  go_wp2_with fail
  go_ret
  exact ⟨rfl, hb2⟩
set_option maxRecDepth 100000 in
set_option maxHeartbeats 2000000 in
theorem wrBytes_sc (u : Nat) (s : ByteArray) (k n : Int) (w : World) (c0 : w.cell? ⟨u, 0, none⟩ = some (.int .i64 k)) (c1 : w.cell? ⟨u, 1, none⟩ = some (.int .i64 n)) (hu : u < w.heap.size) (hs : s.size ≤ 1048577) (hcl : (cnt_sc k s.size).length ≤ 1000) :
    Calls Tryd.prog 192 #[.agg #[.func (.func 77) #[] #[], .func (.func 78) #[] #[]], .iface 109 (.agg #[.pointer (some ⟨u, 0, none⟩), .string s])] w fun e w' => e = .returned (.string ⟨(cnt_sc k s.size ++ s.data.toList).toArray⟩) ∧ Below w.heap.size w w' := by
  have HC : Hid (∀ w, Calls Tryd.prog 196 #[.agg #[.func (.func 77) #[] #[], .func (.func 78) #[] #[]], .agg #[.int .i64 k, .int .i64 n], .int .i64 s.size] w fun e w' => e = .returned (.string ⟨(cnt_sc k s.size).toArray⟩) ∧ Below w.heap.size w w') := fun w => writeCount_sc k n s.size w (by omega)
  have y1 := as_yes_109
  have n1 := as_no_109_107
  have HR : Hid ((⟨(cnt_sc k s.size).toArray⟩ : ByteArray) ++ s = ⟨(cnt_sc k s.size ++ s.data.toList).toArray⟩) := by
    show _ = _
    obtain ⟨⟨l⟩⟩ := s
    exact cat_list _ _
  have hsz : ByteArray.size ⟨(cnt_sc k s.size).toArray⟩ ≤ 1000 := by show (cnt_sc k s.size).toArray.size ≤ 1000; rw [List.size_toArray]; exact hcl
  obtain ⟨D, hD⟩ : ∃ D : ByteArray, (⟨(cnt_sc k s.size).toArray⟩ : ByteArray) = D := ⟨_, rfl⟩
  rw [hD] at HC HR hsz
  have hD2 : ¬ (9223372036854775807 < D.size + s.size) := by omega
  clear hD hcl
  have p0 := part00_re (heap_2 w (.cells #[.func (.func 77) #[] #[], .func (.func 78) #[] #[]] 85) (.cells #[.pointer (some ⟨u, 0, none⟩), .string s] 109))
  have r0 := cells_re3 (cell_2 c0 hu (.cells #[.func (.func 77) #[] #[], .func (.func 78) #[] #[]] 85) (.cells #[.pointer (some ⟨u, 0, none⟩), .string s] 109))
  have r1 := cells_re3 (cell_2 c1 hu (.cells #[.func (.func 77) #[] #[], .func (.func 78) #[] #[]] 85) (.cells #[.pointer (some ⟨u, 0, none⟩), .string s] 109))
  have s0 := cells_re3 (w := ((w.alloc (.cells #[.func (.func 77) #[] #[], .func (.func 78) #[] #[]] 85)).alloc (.cells #[.pointer (some ⟨u, 0, none⟩), .string s] 109))) (a := ⟨w.heap.size + 1, 0, none⟩) (v := .pointer (some ⟨u, 0, none⟩)) (by simp [go_sem])
  have s1 := cells_re3 (w := ((w.alloc (.cells #[.func (.func 77) #[] #[], .func (.func 78) #[] #[]] 85)).alloc (.cells #[.pointer (some ⟨u, 0, none⟩), .string s] 109))) (a := ⟨w.heap.size + 1, 1, none⟩) (v := .string s) (by simp [go_sem])
  have t0 := cells_re3 (w := ((w.alloc (.cells #[.func (.func 77) #[] #[], .func (.func 78) #[] #[]] 85)).alloc (.cells #[.pointer (some ⟨u, 0, none⟩), .string s] 109))) (a := ⟨w.heap.size, 0, none⟩) (v := .func (.func 77) #[] #[]) (by simp [go_sem])
  have t1 := cells_re3 (w := ((w.alloc (.cells #[.func (.func 77) #[] #[], .func (.func 78) #[] #[]] 85)).alloc (.cells #[.pointer (some ⟨u, 0, none⟩), .string s] 109))) (a := ⟨w.heap.size, 1, none⟩) (v := .func (.func 78) #[] #[]) (by simp [go_sem])
  go_enter Tryd.func192, Tryd.ntmps192
  go_wp2_with fail
  refine wp_region_quiet_below (by kernel_rfl) (by kernel_rfl) ?_
  repeat (go_big_quiet_step (exact Calls.regrown_of (HC.out _)))
  refine wpQuiet_nil ?_
  intro w6 hw'
  obtain ⟨⟨dq, osq⟩, hw''⟩ := hw'
  have hb2 : Below w.heap.size w w6 := by rw [hw'']; exact (bel2 _ _ _).trans ((below_regrown _ dq osq).mono (by simp; omega))
  clear hw'' p0 r0 r1 s0 s1 t0 t1
  go_wp2_with fail
  go_ret
  exact ⟨by rw [← HR.out]; rfl, hb2⟩
set_option maxRecDepth 100000 in
set_option maxHeartbeats 2000000 in
theorem wrSeries_sc (u M cap : Nat) (ad : Option Addr) (k n : Int) (ys : Nat → Value) (E : Nat → List UInt8) (w : World) (c0 : w.cell? ⟨u, 0, none⟩ = some (.int .i64 k)) (c1 : w.cell? ⟨u, 1, none⟩ = some (.int .i64 n)) (hu : u < w.heap.size) (hM : M ≤ 20) (h1 : M ≤ cap) (h2 : cap ≤ maxLen)
    (hcell : M = 0 ∨ ∃ g, ad = some ⟨g, 0, none⟩ ∧ g < w.heap.size ∧ ∀ j, j < M → w.cell? ⟨g, j, none⟩ = some (ys j)) (hE : ∀ j, j < M → (E j).length ≤ 1000000000000) (hw : WrHyp_sc ys E M w) (hcl : (cnt_sc k M).length ≤ 1000) :
    Calls Tryd.prog 192 #[.agg #[.func (.func 77) #[] #[], .func (.func 78) #[] #[]], .iface 103 (.agg #[.pointer (some ⟨u, 0, none⟩), .slice ad M cap])] w fun e w' => e = .returned (.string ⟨(cnt_sc k M ++ catE E M).toArray⟩) ∧ Below w.heap.size w w' := by
  have HC : Hid (∀ w, Calls Tryd.prog 196 #[.agg #[.func (.func 77) #[] #[], .func (.func 78) #[] #[]], .agg #[.int .i64 k, .int .i64 n], .int .i64 M] w fun e w' => e = .returned (.string ⟨(cnt_sc k M).toArray⟩) ∧ Below w.heap.size w w') := fun w => writeCount_sc k n M w (by omega)
  have HA : Hid (∀ w', Below w.heap.size w w' → Calls Tryd.prog 166 #[.iface 85 (.agg #[.func (.func 77) #[] #[], .func (.func 78) #[] #[]]), .slice ad M cap] w' fun e w'' => e = .returned (.string ⟨(catE E M).toArray⟩) ∧ Below w'.heap.size w' w'') := fun w' hb => by
    refine writeAll_sc M cap ad ys E w' hM h1 h2 ?_ hE (fun j hj w'' hb' => hw j hj w'' (hb.trans (hb'.mono hb.size)))
    rcases hcell with h | ⟨g, hg, hgl, hc⟩
    · exact .inl h
    · exact .inr ⟨g, hg, by have := hb.size; omega, fun j hj => by rw [hb.cell (p := ⟨g, j, none⟩) hgl]; exact hc j hj⟩
  have hl2 := catE_len hE M (Nat.le_refl _)
  have y1 := as_yes_103
  have n1 := as_no_103_107
  have n2 := as_no_103_109
  have HR : Hid ((⟨(cnt_sc k M).toArray⟩ : ByteArray) ++ ⟨(catE E M).toArray⟩ = ⟨(cnt_sc k M ++ catE E M).toArray⟩) := cat_list _ _
  have hsz : ByteArray.size ⟨(cnt_sc k M).toArray⟩ ≤ 1000 := by show (cnt_sc k M).toArray.size ≤ 1000; rw [List.size_toArray]; exact hcl
  have hsz2 : ByteArray.size ⟨(catE E M).toArray⟩ ≤ M * 1000000000000 := by show (catE E M).toArray.size ≤ _; rw [List.size_toArray]; exact hl2
  obtain ⟨D, hD⟩ : ∃ D : ByteArray, (⟨(cnt_sc k M).toArray⟩ : ByteArray) = D := ⟨_, rfl⟩
  obtain ⟨X, hX⟩ : ∃ X : ByteArray, (⟨(catE E M).toArray⟩ : ByteArray) = X := ⟨_, rfl⟩
  rw [hD] at HC hsz
  rw [hX] at HA hsz2
  rw [hD, hX] at HR
  have hD2 : ¬ (9223372036854775807 < D.size + X.size) := by omega
  clear hD hX hcl hl2 hsz hsz2 hw hcell hE
  have p0 := part00_re (heap_2 w (.cells #[.func (.func 77) #[] #[], .func (.func 78) #[] #[]] 85) (.cells #[.pointer (some ⟨u, 0, none⟩), .slice ad M cap] 103))
  have r0 := cells_re3 (cell_2 c0 hu (.cells #[.func (.func 77) #[] #[], .func (.func 78) #[] #[]] 85) (.cells #[.pointer (some ⟨u, 0, none⟩), .slice ad M cap] 103))
  have r1 := cells_re3 (cell_2 c1 hu (.cells #[.func (.func 77) #[] #[], .func (.func 78) #[] #[]] 85) (.cells #[.pointer (some ⟨u, 0, none⟩), .slice ad M cap] 103))
  have s0 := cells_re3 (w := ((w.alloc (.cells #[.func (.func 77) #[] #[], .func (.func 78) #[] #[]] 85)).alloc (.cells #[.pointer (some ⟨u, 0, none⟩), .slice ad M cap] 103))) (a := ⟨w.heap.size + 1, 0, none⟩) (v := .pointer (some ⟨u, 0, none⟩)) (by simp [go_sem])
  have s1 := cells_re3 (w := ((w.alloc (.cells #[.func (.func 77) #[] #[], .func (.func 78) #[] #[]] 85)).alloc (.cells #[.pointer (some ⟨u, 0, none⟩), .slice ad M cap] 103))) (a := ⟨w.heap.size + 1, 1, none⟩) (v := .slice ad M cap) (by simp [go_sem])
  have t0 := cells_re3 (w := ((w.alloc (.cells #[.func (.func 77) #[] #[], .func (.func 78) #[] #[]] 85)).alloc (.cells #[.pointer (some ⟨u, 0, none⟩), .slice ad M cap] 103))) (a := ⟨w.heap.size, 0, none⟩) (v := .func (.func 77) #[] #[]) (by simp [go_sem])
  have t1 := cells_re3 (w := ((w.alloc (.cells #[.func (.func 77) #[] #[], .func (.func 78) #[] #[]] 85)).alloc (.cells #[.pointer (some ⟨u, 0, none⟩), .slice ad M cap] 103))) (a := ⟨w.heap.size, 1, none⟩) (v := .func (.func 78) #[] #[]) (by simp [go_sem])
  have HBR : Hid (∀ d os, Below w.heap.size w (grow (redrawn ((w.alloc (.cells #[.func (.func 77) #[] #[], .func (.func 78) #[] #[]] 85)).alloc (.cells #[.pointer (some ⟨u, 0, none⟩), .slice ad M cap] 103)) d) os)) := fun d os => (bel2 _ _ _).trans ((below_regrown _ d os).mono (by simp; omega))
  go_enter Tryd.func192, Tryd.ntmps192
  go_wp2_with fail
  refine wp_region_quiet_below (by kernel_rfl) (by kernel_rfl) ?_
  repeat (go_big_quiet_step (first | (go_at_call 196; exact Calls.regrown_of (HC.out _)) | (go_at_call 166; exact Calls.regrown_of (HA.out _ (HBR.out _ _)))))
  refine wpQuiet_nil ?_
  intro w6 hw'
  obtain ⟨⟨dq, osq⟩, hw''⟩ := hw'
  have hb2 : Below w.heap.size w w6 := by rw [hw'']; exact HBR.out _ _
  clear hw'' p0 r0 r1 s0 s1 t0 t1
  go_wp2_with fail
  go_ret
  exact ⟨by rw [← HR.out]; rfl, hb2⟩
set_option maxRecDepth 100000 in
set_option maxHeartbeats 2000000 in
theorem wrChoice_sc (u m : Nat) (k n : Int) (y : Value) (E : List UInt8) (w : World) (c0 : w.cell? ⟨u, 0, none⟩ = some (.int .i64 k)) (c1 : w.cell? ⟨u, 1, none⟩ = some (.int .i64 n)) (hu : u < w.heap.size) (hok : tyOk k n = true) (hm : m < 18446744073709551616)
    (hE : E.length ≤ 1000000000000) (hy : (y = .nilIface ∧ E = []) ∨ ((∃ T z, y = .iface T z) ∧ ∀ w', Below w.heap.size w w' → Calls Tryd.prog 192 #[.agg #[.func (.func 77) #[] #[], .func (.func 78) #[] #[]], y] w' fun e w'' => e = .returned (.string ⟨E.toArray⟩) ∧ Below w'.heap.size w' w'')) :
    Calls Tryd.prog 183 #[.agg #[], .iface 85 (.agg #[.func (.func 77) #[] #[], .func (.func 78) #[] #[]]), .agg #[.pointer (some ⟨u, 0, none⟩), .int .u64 m, y]] w fun e w' => e = .returned (.string ⟨(leL m (wid k n) ++ E).toArray⟩) ∧ Below w.heap.size w w' := by
  have HC : Hid (∀ w, Calls Tryd.prog 181 #[.agg #[], .agg #[.int .i64 k, .int .i64 n], .int .u64 m] w fun e w' => e = .returned (.string ⟨(leL m (wid k n)).toArray⟩) ∧ Below w.heap.size w w') := fun w => writeNumber_any k n m w hok hm
  have hwl := wid_le hok
  have HR : Hid ((⟨(leL m (wid k n)).toArray⟩ : ByteArray) ++ ⟨E.toArray⟩ = ⟨(leL m (wid k n) ++ E).toArray⟩) := cat_list _ _
  have hsz : ByteArray.size ⟨(leL m (wid k n)).toArray⟩ ≤ 8 := by show (leL m (wid k n)).toArray.size ≤ 8; rw [List.size_toArray, leL_len]; exact hwl
  have hsz2 : ByteArray.size ⟨E.toArray⟩ ≤ 1000000000000 := by show E.toArray.size ≤ _; rw [List.size_toArray]; exact hE
  have HY : Hid ((y = .nilIface ∧ E = []) ∨ ((∃ T z, y = .iface T z) ∧ ∀ w', Below w.heap.size w w' → Calls Tryd.prog 192 #[.agg #[.func (.func 77) #[] #[], .func (.func 78) #[] #[]], y] w' fun e w'' => e = .returned (.string ⟨E.toArray⟩) ∧ Below w'.heap.size w' w'')) := hy
  have r0 := cells_re3 (cell_2 c0 hu (.cells #[] 77) (.cells #[.pointer (some ⟨u, 0, none⟩), .int .u64 (m : Int), y] 105))
  have r1 := cells_re3 (cell_2 c1 hu (.cells #[] 77) (.cells #[.pointer (some ⟨u, 0, none⟩), .int .u64 (m : Int), y] 105))
  have s0 := cells_re3 (w := ((w.alloc (.cells #[] 77)).alloc (.cells #[.pointer (some ⟨u, 0, none⟩), .int .u64 (m : Int), y] 105))) (a := ⟨w.heap.size + 1, 0, none⟩) (v := .pointer (some ⟨u, 0, none⟩)) (by simp [go_sem])
  have s1 := cells_re3 (w := ((w.alloc (.cells #[] 77)).alloc (.cells #[.pointer (some ⟨u, 0, none⟩), .int .u64 (m : Int), y] 105))) (a := ⟨w.heap.size + 1, 1, none⟩) (v := .int .u64 (m : Int)) (by simp [go_sem])
  have s2 := cells_re3 (w := ((w.alloc (.cells #[] 77)).alloc (.cells #[.pointer (some ⟨u, 0, none⟩), .int .u64 (m : Int), y] 105))) (a := ⟨w.heap.size + 1, 2, none⟩) (v := y) (by simp [go_sem])
  clear hok hy hE
  go_enter Tryd.func183, Tryd.ntmps183
  go_wp2_with fail
  refine wp_region_quiet_below (by kernel_rfl) (by kernel_rfl) ?_
  repeat (go_big_quiet_step (exact Calls.regrown_of (HC.out _)))
  refine wpQuiet_nil ?_
  intro w6 hw'
  obtain ⟨⟨dq, osq⟩, hw''⟩ := hw'
  have hb6 : Below w.heap.size w w6 := by rw [hw'']; exact (bel2 _ _ _).trans ((below_regrown _ dq osq).mono (by simp; omega))
  have HB6 : Hid (Below w.heap.size w w6) := hb6
  have v2 : w6.cell? ⟨w.heap.size + 1, 2, none⟩ = some y := by rw [hw'']; exact s2 _ _
  clear hw'' r0 r1 s0 s1 s2 hb6
  rcases HY.out with ⟨rfl, rfl⟩ | ⟨⟨T, z, rfl⟩, hyc⟩
  · go_wp2_with fail
    go_ret
    exact ⟨by simp, HB6.out⟩
  · have HYC : Hid (Calls Tryd.prog 192 #[.agg #[.func (.func 77) #[] #[], .func (.func 78) #[] #[]], .iface T z] w6 fun e w'' => e = .returned (.string ⟨E.toArray⟩) ∧ Below w6.heap.size w6 w'') := hyc w6 HB6.out
    obtain ⟨D, hD⟩ : ∃ D : ByteArray, (⟨(leL m (wid k n)).toArray⟩ : ByteArray) = D := ⟨_, rfl⟩
    obtain ⟨X, hX⟩ : ∃ X : ByteArray, (⟨E.toArray⟩ : ByteArray) = X := ⟨_, rfl⟩
    rw [hD] at hsz ⊢
    rw [hX] at hsz2 HYC
    rw [hD, hX] at HR
    have hD2 : ¬ (9223372036854775807 < D.size + X.size) := by omega
    clear hyc hD hX hsz hsz2
    go_wp2_with fail
    refine Calls.mono HYC.out ?_
    rintro e w7 ⟨rfl, hb7⟩
    have HB7 : Hid (Below w.heap.size w w7) := HB6.out.trans (hb7.mono HB6.out.size)
    clear hb7
    go_wp2_with fail
    go_ret
    exact ⟨by rw [← HR.out]; rfl, HB7.out⟩
set_option maxRecDepth 100000 in
set_option maxHeartbeats 2000000 in
theorem wrChoice_ssz (u m : Nat) (k n : Int) (y : Value) (E : List UInt8) (w : World) (c0 : w.cell? ⟨u, 0, none⟩ = some (.int .i64 k)) (c1 : w.cell? ⟨u, 1, none⟩ = some (.int .i64 n)) (hu : u < w.heap.size) (hok : tyOk k n = true) (hm : m < 18446744073709551616)
    (hE : E.length ≤ 1000000000000) (hy : (y = .nilIface ∧ E = []) ∨ ((∃ T z, y = .iface T z) ∧ ∀ w', Below w.heap.size w w' → Calls Tryd.prog 176 #[.agg #[], y] w' fun e w'' => e = .returned (.string ⟨E.toArray⟩) ∧ Below w'.heap.size w' w'')) :
    Calls Tryd.prog 183 #[.agg #[], .iface 79 (.agg #[]), .agg #[.pointer (some ⟨u, 0, none⟩), .int .u64 m, y]] w fun e w' => e = .returned (.string ⟨(leL m (wid k n) ++ E).toArray⟩) ∧ Below w.heap.size w w' := by
  have HC : Hid (∀ w, Calls Tryd.prog 181 #[.agg #[], .agg #[.int .i64 k, .int .i64 n], .int .u64 m] w fun e w' => e = .returned (.string ⟨(leL m (wid k n)).toArray⟩) ∧ Below w.heap.size w w') := fun w => writeNumber_any k n m w hok hm
  have hwl := wid_le hok
  have HR : Hid ((⟨(leL m (wid k n)).toArray⟩ : ByteArray) ++ ⟨E.toArray⟩ = ⟨(leL m (wid k n) ++ E).toArray⟩) := cat_list _ _
  have hsz : ByteArray.size ⟨(leL m (wid k n)).toArray⟩ ≤ 8 := by show (leL m (wid k n)).toArray.size ≤ 8; rw [List.size_toArray, leL_len]; exact hwl
  have hsz2 : ByteArray.size ⟨E.toArray⟩ ≤ 1000000000000 := by show E.toArray.size ≤ _; rw [List.size_toArray]; exact hE
  have HY : Hid ((y = .nilIface ∧ E = []) ∨ ((∃ T z, y = .iface T z) ∧ ∀ w', Below w.heap.size w w' → Calls Tryd.prog 176 #[.agg #[], y] w' fun e w'' => e = .returned (.string ⟨E.toArray⟩) ∧ Below w'.heap.size w' w'')) := hy
  have r0 := cells_re3 (cell_2 c0 hu (.cells #[] 77) (.cells #[.pointer (some ⟨u, 0, none⟩), .int .u64 (m : Int), y] 105))
  have r1 := cells_re3 (cell_2 c1 hu (.cells #[] 77) (.cells #[.pointer (some ⟨u, 0, none⟩), .int .u64 (m : Int), y] 105))
  have s0 := cells_re3 (w := ((w.alloc (.cells #[] 77)).alloc (.cells #[.pointer (some ⟨u, 0, none⟩), .int .u64 (m : Int), y] 105))) (a := ⟨w.heap.size + 1, 0, none⟩) (v := .pointer (some ⟨u, 0, none⟩)) (by simp [go_sem])
  have s1 := cells_re3 (w := ((w.alloc (.cells #[] 77)).alloc (.cells #[.pointer (some ⟨u, 0, none⟩), .int .u64 (m : Int), y] 105))) (a := ⟨w.heap.size + 1, 1, none⟩) (v := .int .u64 (m : Int)) (by simp [go_sem])
  have s2 := cells_re3 (w := ((w.alloc (.cells #[] 77)).alloc (.cells #[.pointer (some ⟨u, 0, none⟩), .int .u64 (m : Int), y] 105))) (a := ⟨w.heap.size + 1, 2, none⟩) (v := y) (by simp [go_sem])
  clear hok hy hE
  go_enter Tryd.func183, Tryd.ntmps183
  go_wp2_with fail
  refine wp_region_quiet_below (by kernel_rfl) (by kernel_rfl) ?_
  repeat (go_big_quiet_step (exact Calls.regrown_of (HC.out _)))
  refine wpQuiet_nil ?_
  intro w6 hw'
  obtain ⟨⟨dq, osq⟩, hw''⟩ := hw'
  have hb6 : Below w.heap.size w w6 := by rw [hw'']; exact (bel2 _ _ _).trans ((below_regrown _ dq osq).mono (by simp; omega))
  have HB6 : Hid (Below w.heap.size w w6) := hb6
  have v2 : w6.cell? ⟨w.heap.size + 1, 2, none⟩ = some y := by rw [hw'']; exact s2 _ _
  clear hw'' r0 r1 s0 s1 s2 hb6
  rcases HY.out with ⟨rfl, rfl⟩ | ⟨⟨T, z, rfl⟩, hyc⟩
  · go_wp2_with fail
    go_ret
    exact ⟨by simp, HB6.out⟩
  · have HYC : Hid (Calls Tryd.prog 176 #[.agg #[], .iface T z] w6 fun e w'' => e = .returned (.string ⟨E.toArray⟩) ∧ Below w6.heap.size w6 w'') := hyc w6 HB6.out
    obtain ⟨D, hD⟩ : ∃ D : ByteArray, (⟨(leL m (wid k n)).toArray⟩ : ByteArray) = D := ⟨_, rfl⟩
    obtain ⟨X, hX⟩ : ∃ X : ByteArray, (⟨E.toArray⟩ : ByteArray) = X := ⟨_, rfl⟩
    rw [hD] at hsz ⊢
    rw [hX] at hsz2 HYC
    rw [hD, hX] at HR
    have hD2 : ¬ (9223372036854775807 < D.size + X.size) := by omega
    clear hyc hD hX hsz hsz2
    go_wp2_with fail
    refine Calls.mono HYC.out ?_
    rintro e w7 ⟨rfl, hb7⟩
    have HB7 : Hid (Below w.heap.size w w7) := HB6.out.trans (hb7.mono HB6.out.size)
    clear hb7
    go_wp2_with fail
    go_ret
    exact ⟨by rw [← HR.out]; rfl, HB7.out⟩
end Go.Proofs.YtdjdkokgcailhaaDoor
