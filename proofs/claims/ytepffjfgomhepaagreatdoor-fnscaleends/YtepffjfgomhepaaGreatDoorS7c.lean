/- A value's bytes, as the formats with counts write them: contracts, a case each. -/
import Derived.Test.YtepffjfgomhepaaGreatDoorS7b
import Derived.Test.YtepffjfgomhepaaGreatDoorS7t
namespace Go.Proofs.YtepffjfgomhepaaGreatDoor
open Go.RowKit Go.Sort
set_option linter.unusedVariables false
theorem cell_2 {w : World} {u i : Nat} {v : Value} (h : w.cell? ⟨u, i, none⟩ = some v) (hu : u < w.heap.size) (o o' : Obj) : ((w.alloc o).alloc o').cell? ⟨u, i, none⟩ = some v := by
  rw [(bel2 w o o').cell (p := ⟨u, i, none⟩) hu]; exact h
theorem heap_2 (w : World) (o o' : Obj) : ((w.alloc o).alloc o').heap[w.heap.size]? = some o := by
  rw [Below.heap_alloc _ _ _ (by simp), heap_alloc_new]
set_option maxRecDepth 100000 in
set_option maxHeartbeats 2000000 in
theorem wrNum_sc (u m : Nat) (k n : Int) (w : World) (c0 : w.cell? ⟨u, 0, none⟩ = some (.int .i64 k)) (c1 : w.cell? ⟨u, 1, none⟩ = some (.int .i64 n)) (hu : u < w.heap.size) (hok : tyOk k n = true) (hm : m < 18446744073709551616) :
    Calls Tryz.prog 125 #[.agg #[.func (.func 35) #[] #[], .func (.func 36) #[] #[]], .iface 137 (.agg #[.pointer (some ⟨u, 0, none⟩), .int .u64 m])] w fun e w' => e = .returned (.string ⟨(leL m (wid k n)).toArray⟩) ∧ Below w.heap.size w w' := by
  have HC : Hid (∀ w, Calls Tryz.prog 127 #[.agg #[], .agg #[.int .i64 k, .int .i64 n], .int .u64 m] w fun e w' => e = .returned (.string ⟨(leL m (wid k n)).toArray⟩) ∧ Below w.heap.size w w') := fun w => writeNumber_any k n m w hok hm
  have y1 := as_yes_137
  have p0 := part00_re (heap_2 w (.cells #[.func (.func 35) #[] #[], .func (.func 36) #[] #[]] 48) (.cells #[.pointer (some ⟨u, 0, none⟩), .int .u64 (m : Int)] 137))
  have r0 := cells_re3 (cell_2 c0 hu (.cells #[.func (.func 35) #[] #[], .func (.func 36) #[] #[]] 48) (.cells #[.pointer (some ⟨u, 0, none⟩), .int .u64 (m : Int)] 137))
  have r1 := cells_re3 (cell_2 c1 hu (.cells #[.func (.func 35) #[] #[], .func (.func 36) #[] #[]] 48) (.cells #[.pointer (some ⟨u, 0, none⟩), .int .u64 (m : Int)] 137))
  have s0 := cells_re3 (w := ((w.alloc (.cells #[.func (.func 35) #[] #[], .func (.func 36) #[] #[]] 48)).alloc (.cells #[.pointer (some ⟨u, 0, none⟩), .int .u64 (m : Int)] 137))) (a := ⟨w.heap.size + 1, 0, none⟩) (v := .pointer (some ⟨u, 0, none⟩)) (by simp [go_sem])
  have s1 := cells_re3 (w := ((w.alloc (.cells #[.func (.func 35) #[] #[], .func (.func 36) #[] #[]] 48)).alloc (.cells #[.pointer (some ⟨u, 0, none⟩), .int .u64 (m : Int)] 137))) (a := ⟨w.heap.size + 1, 1, none⟩) (v := .int .u64 (m : Int)) (by simp [go_sem])
  clear hok
  go_enter Tryz.func125, Tryz.ntmps125
  go_wp2_with fail
  refine wp_region_quiet_below (by kernel_rfl) (by kernel_rfl) ?_
  repeat (go_big_quiet_step (exact Calls.regrown_of (HC.out _)))
  refine wpQuiet_nil ?_
  intro w6 hw'
  obtain ⟨⟨dq, osq⟩, hw''⟩ := hw'
  have hb2 : Below w.heap.size w w6 := by rw [hw'']; exact (bel2 _ _ _).trans ((below_regrown _ dq osq).mono (by simp; omega))
  clear hw'' p0 r0 r1 s0 s1
  go_wp2_with fail
  go_ret
  exact ⟨rfl, hb2⟩
set_option maxRecDepth 100000 in
set_option maxHeartbeats 2000000 in
theorem wrBytes_sc (u : Nat) (s : ByteArray) (k n : Int) (w : World) (c0 : w.cell? ⟨u, 0, none⟩ = some (.int .i64 k)) (c1 : w.cell? ⟨u, 1, none⟩ = some (.int .i64 n)) (hu : u < w.heap.size) (hs : s.size ≤ 1048577) (hcl : (cnt_sc k s.size).length ≤ 1000) :
    Calls Tryz.prog 125 #[.agg #[.func (.func 35) #[] #[], .func (.func 36) #[] #[]], .iface 139 (.agg #[.pointer (some ⟨u, 0, none⟩), .string s])] w fun e w' => e = .returned (.string ⟨(cnt_sc k s.size ++ s.data.toList).toArray⟩) ∧ Below w.heap.size w w' := by
  have HC : Hid (∀ w, Calls Tryz.prog 128 #[.agg #[.func (.func 35) #[] #[], .func (.func 36) #[] #[]], .agg #[.int .i64 k, .int .i64 n], .int .i64 s.size] w fun e w' => e = .returned (.string ⟨(cnt_sc k s.size).toArray⟩) ∧ Below w.heap.size w w') := fun w => writeCount_sc k n s.size w (by omega)
  have y1 := as_yes_139
  have n1 := as_no_139_137
  have HR : Hid ((⟨(cnt_sc k s.size).toArray⟩ : ByteArray) ++ s = ⟨(cnt_sc k s.size ++ s.data.toList).toArray⟩) := by
    show _ = _
    obtain ⟨⟨l⟩⟩ := s
    exact cat_list _ _
  have hsz : ByteArray.size ⟨(cnt_sc k s.size).toArray⟩ ≤ 1000 := by show (cnt_sc k s.size).toArray.size ≤ 1000; rw [List.size_toArray]; exact hcl
  obtain ⟨D, hD⟩ : ∃ D : ByteArray, (⟨(cnt_sc k s.size).toArray⟩ : ByteArray) = D := ⟨_, rfl⟩
  rw [hD] at HC HR hsz
  have hD2 : ¬ (9223372036854775807 < D.size + s.size) := by omega
  clear hD hcl
  have p0 := part00_re (heap_2 w (.cells #[.func (.func 35) #[] #[], .func (.func 36) #[] #[]] 48) (.cells #[.pointer (some ⟨u, 0, none⟩), .string s] 139))
  have r0 := cells_re3 (cell_2 c0 hu (.cells #[.func (.func 35) #[] #[], .func (.func 36) #[] #[]] 48) (.cells #[.pointer (some ⟨u, 0, none⟩), .string s] 139))
  have r1 := cells_re3 (cell_2 c1 hu (.cells #[.func (.func 35) #[] #[], .func (.func 36) #[] #[]] 48) (.cells #[.pointer (some ⟨u, 0, none⟩), .string s] 139))
  have s0 := cells_re3 (w := ((w.alloc (.cells #[.func (.func 35) #[] #[], .func (.func 36) #[] #[]] 48)).alloc (.cells #[.pointer (some ⟨u, 0, none⟩), .string s] 139))) (a := ⟨w.heap.size + 1, 0, none⟩) (v := .pointer (some ⟨u, 0, none⟩)) (by simp [go_sem])
  have s1 := cells_re3 (w := ((w.alloc (.cells #[.func (.func 35) #[] #[], .func (.func 36) #[] #[]] 48)).alloc (.cells #[.pointer (some ⟨u, 0, none⟩), .string s] 139))) (a := ⟨w.heap.size + 1, 1, none⟩) (v := .string s) (by simp [go_sem])
  have t0 := cells_re3 (w := ((w.alloc (.cells #[.func (.func 35) #[] #[], .func (.func 36) #[] #[]] 48)).alloc (.cells #[.pointer (some ⟨u, 0, none⟩), .string s] 139))) (a := ⟨w.heap.size, 0, none⟩) (v := .func (.func 35) #[] #[]) (by simp [go_sem])
  have t1 := cells_re3 (w := ((w.alloc (.cells #[.func (.func 35) #[] #[], .func (.func 36) #[] #[]] 48)).alloc (.cells #[.pointer (some ⟨u, 0, none⟩), .string s] 139))) (a := ⟨w.heap.size, 1, none⟩) (v := .func (.func 36) #[] #[]) (by simp [go_sem])
  go_enter Tryz.func125, Tryz.ntmps125
  go_wp2_with fail
  refine wp_region_quiet_below (by kernel_rfl) (by kernel_rfl) ?_
  repeat (go_big_quiet_step (exact Calls.regrown_of (HC.out _)))
  refine wpQuiet_nil ?_
  intro w6 hw'
  obtain ⟨⟨dq, osq⟩, hw''⟩ := hw'
  have hb2 : Below w.heap.size w w6 := by rw [hw'']; exact (bel2 _ _ _).trans ((below_regrown _ dq osq).mono (by simp; omega))
  clear hw'' p0 r0 r1 s0 s1 t0 t1
  go_wp2_with fail
  go_ret
  exact ⟨by rw [← HR.out]; rfl, hb2⟩
set_option maxRecDepth 100000 in
set_option maxHeartbeats 2000000 in
theorem wrSeries_sc (u M cap : Nat) (ad : Option Addr) (k n : Int) (ys : Nat → Value) (E : Nat → List UInt8) (w : World) (c0 : w.cell? ⟨u, 0, none⟩ = some (.int .i64 k)) (c1 : w.cell? ⟨u, 1, none⟩ = some (.int .i64 n)) (hu : u < w.heap.size) (hM : M ≤ 20) (h1 : M ≤ cap) (h2 : cap ≤ maxLen)
    (hcell : M = 0 ∨ ∃ g, ad = some ⟨g, 0, none⟩ ∧ g < w.heap.size ∧ ∀ j, j < M → w.cell? ⟨g, j, none⟩ = some (ys j)) (hE : ∀ j, j < M → (E j).length ≤ 1000000000000) (hw : WrHyp_sc ys E M w) (hcl : (cnt_sc k M).length ≤ 1000) :
    Calls Tryz.prog 125 #[.agg #[.func (.func 35) #[] #[], .func (.func 36) #[] #[]], .iface 155 (.agg #[.pointer (some ⟨u, 0, none⟩), .slice ad M cap])] w fun e w' => e = .returned (.string ⟨(cnt_sc k M ++ catE E M).toArray⟩) ∧ Below w.heap.size w w' := by
  have HC : Hid (∀ w, Calls Tryz.prog 128 #[.agg #[.func (.func 35) #[] #[], .func (.func 36) #[] #[]], .agg #[.int .i64 k, .int .i64 n], .int .i64 M] w fun e w' => e = .returned (.string ⟨(cnt_sc k M).toArray⟩) ∧ Below w.heap.size w w') := fun w => writeCount_sc k n M w (by omega)
  have HA : Hid (∀ w', Below w.heap.size w w' → Calls Tryz.prog 129 #[.iface 48 (.agg #[.func (.func 35) #[] #[], .func (.func 36) #[] #[]]), .slice ad M cap] w' fun e w'' => e = .returned (.string ⟨(catE E M).toArray⟩) ∧ Below w'.heap.size w' w'') := fun w' hb => by
    refine writeAll_sc M cap ad ys E w' hM h1 h2 ?_ hE (fun j hj w'' hb' => hw j hj w'' (hb.trans (hb'.mono hb.size)))
    rcases hcell with h | ⟨g, hg, hgl, hc⟩
    · exact .inl h
    · exact .inr ⟨g, hg, by have := hb.size; omega, fun j hj => by rw [hb.cell (p := ⟨g, j, none⟩) hgl]; exact hc j hj⟩
  have hl2 := catE_len hE M (Nat.le_refl _)
  have y1 := as_yes_155
  have n1 := as_no_155_137
  have n2 := as_no_155_139
  have HR : Hid ((⟨(cnt_sc k M).toArray⟩ : ByteArray) ++ ⟨(catE E M).toArray⟩ = ⟨(cnt_sc k M ++ catE E M).toArray⟩) := cat_list _ _
  have hsz : ByteArray.size ⟨(cnt_sc k M).toArray⟩ ≤ 1000 := by show (cnt_sc k M).toArray.size ≤ 1000; rw [List.size_toArray]; exact hcl
  have hsz2 : ByteArray.size ⟨(catE E M).toArray⟩ ≤ M * 1000000000000 := by show (catE E M).toArray.size ≤ _; rw [List.size_toArray]; exact hl2
  obtain ⟨D, hD⟩ : ∃ D : ByteArray, (⟨(cnt_sc k M).toArray⟩ : ByteArray) = D := ⟨_, rfl⟩
  obtain ⟨X, hX⟩ : ∃ X : ByteArray, (⟨(catE E M).toArray⟩ : ByteArray) = X := ⟨_, rfl⟩
  rw [hD] at HC hsz
  rw [hX] at HA hsz2
  rw [hD, hX] at HR
  have hD2 : ¬ (9223372036854775807 < D.size + X.size) := by omega
  clear hD hX hcl hl2 hsz hsz2 hw hcell hE
  have p0 := part00_re (heap_2 w (.cells #[.func (.func 35) #[] #[], .func (.func 36) #[] #[]] 48) (.cells #[.pointer (some ⟨u, 0, none⟩), .slice ad M cap] 155))
  have r0 := cells_re3 (cell_2 c0 hu (.cells #[.func (.func 35) #[] #[], .func (.func 36) #[] #[]] 48) (.cells #[.pointer (some ⟨u, 0, none⟩), .slice ad M cap] 155))
  have r1 := cells_re3 (cell_2 c1 hu (.cells #[.func (.func 35) #[] #[], .func (.func 36) #[] #[]] 48) (.cells #[.pointer (some ⟨u, 0, none⟩), .slice ad M cap] 155))
  have s0 := cells_re3 (w := ((w.alloc (.cells #[.func (.func 35) #[] #[], .func (.func 36) #[] #[]] 48)).alloc (.cells #[.pointer (some ⟨u, 0, none⟩), .slice ad M cap] 155))) (a := ⟨w.heap.size + 1, 0, none⟩) (v := .pointer (some ⟨u, 0, none⟩)) (by simp [go_sem])
  have s1 := cells_re3 (w := ((w.alloc (.cells #[.func (.func 35) #[] #[], .func (.func 36) #[] #[]] 48)).alloc (.cells #[.pointer (some ⟨u, 0, none⟩), .slice ad M cap] 155))) (a := ⟨w.heap.size + 1, 1, none⟩) (v := .slice ad M cap) (by simp [go_sem])
  have t0 := cells_re3 (w := ((w.alloc (.cells #[.func (.func 35) #[] #[], .func (.func 36) #[] #[]] 48)).alloc (.cells #[.pointer (some ⟨u, 0, none⟩), .slice ad M cap] 155))) (a := ⟨w.heap.size, 0, none⟩) (v := .func (.func 35) #[] #[]) (by simp [go_sem])
  have t1 := cells_re3 (w := ((w.alloc (.cells #[.func (.func 35) #[] #[], .func (.func 36) #[] #[]] 48)).alloc (.cells #[.pointer (some ⟨u, 0, none⟩), .slice ad M cap] 155))) (a := ⟨w.heap.size, 1, none⟩) (v := .func (.func 36) #[] #[]) (by simp [go_sem])
  have HBR : Hid (∀ d os, Below w.heap.size w (grow (redrawn ((w.alloc (.cells #[.func (.func 35) #[] #[], .func (.func 36) #[] #[]] 48)).alloc (.cells #[.pointer (some ⟨u, 0, none⟩), .slice ad M cap] 155)) d) os)) := fun d os => (bel2 _ _ _).trans ((below_regrown _ d os).mono (by simp; omega))
  go_enter Tryz.func125, Tryz.ntmps125
  go_wp2_with fail
  refine wp_region_quiet_below (by kernel_rfl) (by kernel_rfl) ?_
  repeat (go_big_quiet_step (first | (go_at_call 128; exact Calls.regrown_of (HC.out _)) | (go_at_call 129; exact Calls.regrown_of (HA.out _ (HBR.out _ _)))))
  refine wpQuiet_nil ?_
  intro w6 hw'
  obtain ⟨⟨dq, osq⟩, hw''⟩ := hw'
  have hb2 : Below w.heap.size w w6 := by rw [hw'']; exact HBR.out _ _
  clear hw'' p0 r0 r1 s0 s1 t0 t1
  go_wp2_with fail
  go_ret
  exact ⟨by rw [← HR.out]; rfl, hb2⟩
set_option maxHeartbeats 1000000 in
theorem parts_nil (u m : Nat) (w : World) : Calls Tryz.prog 68 #[.iface 157 (.agg #[.pointer (some ⟨u, 0, none⟩), .int .u64 m, .nilIface])] w fun e w' => e = .returned (.slice none 0 0) ∧ Below w.heap.size w w' := by
  have y1 := as_yes_157
  have n1 := as_no_157_155
  go_enter Tryz.func68, Tryz.ntmps68
  go_wp2_with fail
  go_ret
  exact ⟨rfl, bel1 _ _⟩
set_option maxHeartbeats 1000000 in
theorem parts_one (u m : Nat) (T : TypeId) (z : Value) (w : World) : Calls Tryz.prog 68 #[.iface 157 (.agg #[.pointer (some ⟨u, 0, none⟩), .int .u64 m, .iface T z])] w fun e w' => (∃ g, e = .returned (.slice (some ⟨g, 0, none⟩) 1 1) ∧ w.heap.size ≤ g ∧ g < w'.heap.size ∧ w'.cell? ⟨g, 0, none⟩ = some (.iface T z)) ∧ Below w.heap.size w w' := by
  have y1 := as_yes_157
  have n1 := as_no_157_155
  go_enter Tryz.func68, Tryz.ntmps68
  go_wp2_with fail
  go_ret
  exact ⟨⟨w.heap.size + 1, rfl, by omega, by simp, by simp [go_sem]⟩, bel2 _ _ _⟩
set_option maxHeartbeats 1000000 in
theorem parts_ser (u M cap : Nat) (ad : Option Addr) (w : World) : Calls Tryz.prog 68 #[.iface 155 (.agg #[.pointer (some ⟨u, 0, none⟩), .slice ad M cap])] w fun e w' => e = .returned (.slice ad M cap) ∧ Below w.heap.size w w' := by
  have y1 := as_yes_155
  go_enter Tryz.func68, Tryz.ntmps68
  go_wp2_with fail
  go_ret
  exact ⟨rfl, bel1 _ _⟩
set_option maxHeartbeats 1000000 in
theorem parts_num (u : Nat) (m : Nat) (w : World) : Calls Tryz.prog 68 #[.iface 137 (.agg #[.pointer (some ⟨u, 0, none⟩), .int .u64 m])] w fun e w' => e = .returned (.slice none 0 0) ∧ Below w.heap.size w w' := by
  have n1 := as_no_137_155
  have n2 := as_no_137_157
  go_enter Tryz.func68, Tryz.ntmps68
  go_wp2_with fail
  go_ret
  exact ⟨rfl, Below.refl _ _⟩
set_option maxHeartbeats 1000000 in
theorem parts_byt (u : Nat) (m : ByteArray) (w : World) : Calls Tryz.prog 68 #[.iface 139 (.agg #[.pointer (some ⟨u, 0, none⟩), .string m])] w fun e w' => e = .returned (.slice none 0 0) ∧ Below w.heap.size w w' := by
  have n1 := as_no_139_155
  have n2 := as_no_139_157
  go_enter Tryz.func68, Tryz.ntmps68
  go_wp2_with fail
  go_ret
  exact ⟨rfl, Below.refl _ _⟩
set_option maxHeartbeats 1000000 in
theorem chParts_sc (u m : Nat) (y : Value) (E : List UInt8) (w : World) (hE : E.length ≤ 1000000000000) (hy : (y = .nilIface ∧ E = []) ∨ ((∃ T z, y = .iface T z) ∧ ∀ w', Below w.heap.size w w' → Calls Tryz.prog 125 #[.agg #[.func (.func 35) #[] #[], .func (.func 36) #[] #[]], y] w' fun e w'' => e = .returned (.string ⟨E.toArray⟩) ∧ Below w'.heap.size w' w'')) :
    ∀ w', Below w.heap.size w w' → Calls Tryz.prog 68 #[.iface 157 (.agg #[.pointer (some ⟨u, 0, none⟩), .int .u64 m, y])] w' fun e w'' => (∃ ad n, e = .returned (.slice ad n n) ∧ ∀ w3, Below w''.heap.size w'' w3 → Calls Tryz.prog 129 #[.iface 48 (.agg #[.func (.func 35) #[] #[], .func (.func 36) #[] #[]]), .slice ad n n] w3 fun e w4 => e = .returned (.string ⟨E.toArray⟩) ∧ Below w3.heap.size w3 w4) ∧ Below w'.heap.size w' w'' := by
  intro w' hb
  rcases hy with ⟨rfl, rfl⟩ | ⟨⟨T, z, rfl⟩, hyc⟩
  · refine (parts_nil u m w').mono ?_
    rintro e w1 ⟨rfl, hb1⟩
    exact ⟨⟨none, 0, rfl, fun w3 hb3 => writeAll_sc 0 0 none (fun _ => .nilIface) (fun _ => []) w3 (by omega) (Nat.le_refl _) (by simp [maxLen]) (.inl rfl) (by simp) (fun j hj => by omega)⟩, hb1⟩
  · refine (parts_one u m T z w').mono ?_
    rintro e w1 ⟨⟨g, rfl, hg0, hg1, hc⟩, hb1⟩
    refine ⟨⟨_, 1, rfl, fun w3 hb3 => ?_⟩, hb1⟩
    have h1 := writeAll_sc 1 1 (some ⟨g, 0, none⟩) (fun _ => .iface T z) (fun _ => E) w3 (by omega) (Nat.le_refl _) (by simp [maxLen]) (.inr ⟨g, rfl, by have := hb3.size; omega, fun j hj => by
      have ej : j = 0 := by omega
      subst ej
      rw [hb3.cell (p := ⟨g, 0, none⟩) hg1]; exact hc⟩) (fun _ _ => hE) (fun j hj w4 hb4 => hyc w4 (hb.trans ((hb1.mono hb.size).trans ((hb3.mono (by have := hb.size; have := hb1.size; omega)).trans (hb4.mono (by have := hb.size; have := hb1.size; have := hb3.size; omega))))))
    simpa [catE] using h1
end Go.Proofs.YtepffjfgomhepaaGreatDoor
