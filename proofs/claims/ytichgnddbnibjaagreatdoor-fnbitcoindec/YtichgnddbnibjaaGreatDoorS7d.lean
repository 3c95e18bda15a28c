/- S7c, S7w, S7d: one text. -/
import Derived.Test.YtichgnddbnibjaaGreatDoorS7b
import Derived.Test.YtichgnddbnibjaaGreatDoorS7t
import Derived.Deep.RegionHeld3
namespace Go.Proofs.YtichgnddbnibjaaGreatDoor
open Go.RowKit Go.Sort
set_option linter.unusedVariables false
theorem cell_2 {w : World} {u i : Nat} {v : Value} (h : w.cell? ⟨u, i, none⟩ = some v) (hu : u < w.heap.size) (o o' : Obj) : ((w.alloc o).alloc o').cell? ⟨u, i, none⟩ = some v := by
  rw [(bel2 w o o').cell (p := ⟨u, i, none⟩) hu]; exact h
theorem heap_2 (w : World) (o o' : Obj) : ((w.alloc o).alloc o').heap[w.heap.size]? = some o := by
  rw [Below.heap_alloc _ _ _ (by simp), heap_alloc_new]
set_option maxRecDepth 100000 in
set_option maxHeartbeats 2000000 in
theorem wrNum_bc (u m : Nat) (k n : Int) (w : World) (c0 : w.cell? ⟨u, 0, none⟩ = some (.int .i64 k)) (c1 : w.cell? ⟨u, 1, none⟩ = some (.int .i64 n)) (hu : u < w.heap.size) (hok : tyOk k n = true) (hm : m < 18446744073709551616) :
    Calls Tryz.prog 127 #[.agg #[.func (.func 45) #[] #[], .func (.func 46) #[] #[]], .iface 136 (.agg #[.pointer (some ⟨u, 0, none⟩), .int .u64 m])] w fun e w' => e = .returned (.string ⟨(leL m (wid k n)).toArray⟩) ∧ Below w.heap.size w w' := by
  have HC : Hid (∀ w, Calls Tryz.prog 129 #[.agg #[], .agg #[.int .i64 k, .int .i64 n], .int .u64 m] w fun e w' => e = .returned (.string ⟨(leL m (wid k n)).toArray⟩) ∧ Below w.heap.size w w') := fun w => writeNumber_any k n m w hok hm
  have y1 := as_yes_136
  have p0 := part00_re (heap_2 w (.cells #[.func (.func 45) #[] #[], .func (.func 46) #[] #[]] 54) (.cells #[.pointer (some ⟨u, 0, none⟩), .int .u64 (m : Int)] 136))
  have r0 := cells_re3 (cell_2 c0 hu (.cells #[.func (.func 45) #[] #[], .func (.func 46) #[] #[]] 54) (.cells #[.pointer (some ⟨u, 0, none⟩), .int .u64 (m : Int)] 136))
  have r1 := cells_re3 (cell_2 c1 hu (.cells #[.func (.func 45) #[] #[], .func (.func 46) #[] #[]] 54) (.cells #[.pointer (some ⟨u, 0, none⟩), .int .u64 (m : Int)] 136))
  have s0 := cells_re3 (w := ((w.alloc (.cells #[.func (.func 45) #[] #[], .func (.func 46) #[] #[]] 54)).alloc (.cells #[.pointer (some ⟨u, 0, none⟩), .int .u64 (m : Int)] 136))) (a := ⟨w.heap.size + 1, 0, none⟩) (v := .pointer (some ⟨u, 0, none⟩)) (by simp [go_sem])
  have s1 := cells_re3 (w := ((w.alloc (.cells #[.func (.func 45) #[] #[], .func (.func 46) #[] #[]] 54)).alloc (.cells #[.pointer (some ⟨u, 0, none⟩), .int .u64 (m : Int)] 136))) (a := ⟨w.heap.size + 1, 1, none⟩) (v := .int .u64 (m : Int)) (by simp [go_sem])
  clear hok
  go_enter Tryz.func127, Tryz.ntmps127
  go_wp2_with fail
  refine wp_region_quiet_below (by kernel_rfl) (by kernel_rfl) ?_
  repeat (go_big_quiet_step (exact Calls.regrown_of (HC.out _)))
  refine wpQuiet_nil ?_
  intro w6 hw'
  obtain ⟨⟨dq, osq⟩, hw''⟩ := hw'
  have hb2 : Below w.heap.size w w6 := by rw [hw'']; exact (bel2 _ _ _).trans ((below_regrown _ dq osq).mono (by simp; omega))
  clear hw'' p0 r0 r1 s0 s1
  go_wp2_with fail
  go_ret
  exact ⟨rfl, hb2⟩
set_option maxRecDepth 100000 in
set_option maxHeartbeats 2000000 in
theorem wrBytes_bc (u : Nat) (s : ByteArray) (k n : Int) (w : World) (c0 : w.cell? ⟨u, 0, none⟩ = some (.int .i64 k)) (c1 : w.cell? ⟨u, 1, none⟩ = some (.int .i64 n)) (hu : u < w.heap.size) (hs : s.size ≤ 1048577) (hcl : (cnt_bc k s.size).length ≤ 1000) :
    Calls Tryz.prog 127 #[.agg #[.func (.func 45) #[] #[], .func (.func 46) #[] #[]], .iface 138 (.agg #[.pointer (some ⟨u, 0, none⟩), .string s])] w fun e w' => e = .returned (.string ⟨(cnt_bc k s.size ++ s.data.toList).toArray⟩) ∧ Below w.heap.size w w' := by
  have HC : Hid (∀ w, Calls Tryz.prog 130 #[.agg #[.func (.func 45) #[] #[], .func (.func 46) #[] #[]], .agg #[.int .i64 k, .int .i64 n], .int .i64 s.size] w fun e w' => e = .returned (.string ⟨(cnt_bc k s.size).toArray⟩) ∧ Below w.heap.size w w') := fun w => writeCount_bc k n s.size w (by omega)
  have y1 := as_yes_138
  have n1 := as_no_138_136
  have HR : Hid ((⟨(cnt_bc k s.size).toArray⟩ : ByteArray) ++ s = ⟨(cnt_bc k s.size ++ s.data.toList).toArray⟩) := by
    show _ = _
    obtain ⟨⟨l⟩⟩ := s
    exact cat_list _ _
  have hsz : ByteArray.size ⟨(cnt_bc k s.size).toArray⟩ ≤ 1000 := by show (cnt_bc k s.size).toArray.size ≤ 1000; rw [List.size_toArray]; exact hcl
  obtain ⟨D, hD⟩ : ∃ D : ByteArray, (⟨(cnt_bc k s.size).toArray⟩ : ByteArray) = D := ⟨_, rfl⟩
  rw [hD] at HC HR hsz
  have hD2 : ¬ (9223372036854775807 < D.size + s.size) := by omega
  clear hD hcl
  have p0 := part00_re (heap_2 w (.cells #[.func (.func 45) #[] #[], .func (.func 46) #[] #[]] 54) (.cells #[.pointer (some ⟨u, 0, none⟩), .string s] 138))
  have r0 := cells_re3 (cell_2 c0 hu (.cells #[.func (.func 45) #[] #[], .func (.func 46) #[] #[]] 54) (.cells #[.pointer (some ⟨u, 0, none⟩), .string s] 138))
  have r1 := cells_re3 (cell_2 c1 hu (.cells #[.func (.func 45) #[] #[], .func (.func 46) #[] #[]] 54) (.cells #[.pointer (some ⟨u, 0, none⟩), .string s] 138))
  have s0 := cells_re3 (w := ((w.alloc (.cells #[.func (.func 45) #[] #[], .func (.func 46) #[] #[]] 54)).alloc (.cells #[.pointer (some ⟨u, 0, none⟩), .string s] 138))) (a := ⟨w.heap.size + 1, 0, none⟩) (v := .pointer (some ⟨u, 0, none⟩)) (by simp [go_sem])
  have s1 := cells_re3 (w := ((w.alloc (.cells #[.func (.func 45) #[] #[], .func (.func 46) #[] #[]] 54)).alloc (.cells #[.pointer (some ⟨u, 0, none⟩), .string s] 138))) (a := ⟨w.heap.size + 1, 1, none⟩) (v := .string s) (by simp [go_sem])
  have t0 := cells_re3 (w := ((w.alloc (.cells #[.func (.func 45) #[] #[], .func (.func 46) #[] #[]] 54)).alloc (.cells #[.pointer (some ⟨u, 0, none⟩), .string s] 138))) (a := ⟨w.heap.size, 0, none⟩) (v := .func (.func 45) #[] #[]) (by simp [go_sem])
  have t1 := cells_re3 (w := ((w.alloc (.cells #[.func (.func 45) #[] #[], .func (.func 46) #[] #[]] 54)).alloc (.cells #[.pointer (some ⟨u, 0, none⟩), .string s] 138))) (a := ⟨w.heap.size, 1, none⟩) (v := .func (.func 46) #[] #[]) (by simp [go_sem])
  go_enter Tryz.func127, Tryz.ntmps127
  go_wp2_with fail
  refine wp_region_quiet_below (by kernel_rfl) (by kernel_rfl) ?_
  repeat (go_big_quiet_step (exact Calls.regrown_of (HC.out _)))
  refine wpQuiet_nil ?_
  intro w6 hw'
  obtain ⟨⟨dq, osq⟩, hw''⟩ := hw'
  have hb2 : Below w.heap.size w w6 := by rw [hw'']; exact (bel2 _ _ _).trans ((below_regrown _ dq osq).mono (by simp; omega))
  clear hw'' p0 r0 r1 s0 s1 t0 t1
  go_wp2_with fail
  go_ret
  exact ⟨by rw [← HR.out]; rfl, hb2⟩
set_option maxRecDepth 100000 in
set_option maxHeartbeats 2000000 in
theorem wrSeries_bc (u M cap : Nat) (ad : Option Addr) (k n : Int) (ys : Nat → Value) (E : Nat → List UInt8) (w : World) (c0 : w.cell? ⟨u, 0, none⟩ = some (.int .i64 k)) (c1 : w.cell? ⟨u, 1, none⟩ = some (.int .i64 n)) (hu : u < w.heap.size) (hM : M ≤ 20) (h1 : M ≤ cap) (h2 : cap ≤ maxLen)
    (hcell : M = 0 ∨ ∃ g, ad = some ⟨g, 0, none⟩ ∧ g < w.heap.size ∧ ∀ j, j < M → w.cell? ⟨g, j, none⟩ = some (ys j)) (hE : ∀ j, j < M → (E j).length ≤ 1000000000000) (hw : WrHyp_bc ys E M w) (hcl : (cnt_bc k M).length ≤ 1000) :
    Calls Tryz.prog 127 #[.agg #[.func (.func 45) #[] #[], .func (.func 46) #[] #[]], .iface 152 (.agg #[.pointer (some ⟨u, 0, none⟩), .slice ad M cap])] w fun e w' => e = .returned (.string ⟨(cnt_bc k M ++ catE E M).toArray⟩) ∧ Below w.heap.size w w' := by
  have HC : Hid (∀ w, Calls Tryz.prog 130 #[.agg #[.func (.func 45) #[] #[], .func (.func 46) #[] #[]], .agg #[.int .i64 k, .int .i64 n], .int .i64 M] w fun e w' => e = .returned (.string ⟨(cnt_bc k M).toArray⟩) ∧ Below w.heap.size w w') := fun w => writeCount_bc k n M w (by omega)
  have HA : Hid (∀ w', Below w.heap.size w w' → Calls Tryz.prog 131 #[.iface 54 (.agg #[.func (.func 45) #[] #[], .func (.func 46) #[] #[]]), .slice ad M cap] w' fun e w'' => e = .returned (.string ⟨(catE E M).toArray⟩) ∧ Below w'.heap.size w' w'') := fun w' hb => by
    refine writeAll_bc M cap ad ys E w' hM h1 h2 ?_ hE (fun j hj w'' hb' => hw j hj w'' (hb.trans (hb'.mono hb.size)))
    rcases hcell with h | ⟨g, hg, hgl, hc⟩
    · exact .inl h
    · exact .inr ⟨g, hg, by have := hb.size; omega, fun j hj => by rw [hb.cell (p := ⟨g, j, none⟩) hgl]; exact hc j hj⟩
  have hl2 := catE_len hE M (Nat.le_refl _)
  have y1 := as_yes_152
  have n1 := as_no_152_136
  have n2 := as_no_152_138
  have HR : Hid ((⟨(cnt_bc k M).toArray⟩ : ByteArray) ++ ⟨(catE E M).toArray⟩ = ⟨(cnt_bc k M ++ catE E M).toArray⟩) := cat_list _ _
  have hsz : ByteArray.size ⟨(cnt_bc k M).toArray⟩ ≤ 1000 := by show (cnt_bc k M).toArray.size ≤ 1000; rw [List.size_toArray]; exact hcl
  have hsz2 : ByteArray.size ⟨(catE E M).toArray⟩ ≤ M * 1000000000000 := by show (catE E M).toArray.size ≤ _; rw [List.size_toArray]; exact hl2
  obtain ⟨D, hD⟩ : ∃ D : ByteArray, (⟨(cnt_bc k M).toArray⟩ : ByteArray) = D := ⟨_, rfl⟩
  obtain ⟨X, hX⟩ : ∃ X : ByteArray, (⟨(catE E M).toArray⟩ : ByteArray) = X := ⟨_, rfl⟩
  rw [hD] at HC hsz
  rw [hX] at HA hsz2
  rw [hD, hX] at HR
  have hD2 : ¬ (9223372036854775807 < D.size + X.size) := by omega
  clear hD hX hcl hl2 hsz hsz2 hw hcell hE
  have p0 := part00_re (heap_2 w (.cells #[.func (.func 45) #[] #[], .func (.func 46) #[] #[]] 54) (.cells #[.pointer (some ⟨u, 0, none⟩), .slice ad M cap] 152))
  have r0 := cells_re3 (cell_2 c0 hu (.cells #[.func (.func 45) #[] #[], .func (.func 46) #[] #[]] 54) (.cells #[.pointer (some ⟨u, 0, none⟩), .slice ad M cap] 152))
  have r1 := cells_re3 (cell_2 c1 hu (.cells #[.func (.func 45) #[] #[], .func (.func 46) #[] #[]] 54) (.cells #[.pointer (some ⟨u, 0, none⟩), .slice ad M cap] 152))
  have s0 := cells_re3 (w := ((w.alloc (.cells #[.func (.func 45) #[] #[], .func (.func 46) #[] #[]] 54)).alloc (.cells #[.pointer (some ⟨u, 0, none⟩), .slice ad M cap] 152))) (a := ⟨w.heap.size + 1, 0, none⟩) (v := .pointer (some ⟨u, 0, none⟩)) (by simp [go_sem])
  have s1 := cells_re3 (w := ((w.alloc (.cells #[.func (.func 45) #[] #[], .func (.func 46) #[] #[]] 54)).alloc (.cells #[.pointer (some ⟨u, 0, none⟩), .slice ad M cap] 152))) (a := ⟨w.heap.size + 1, 1, none⟩) (v := .slice ad M cap) (by simp [go_sem])
  have t0 := cells_re3 (w := ((w.alloc (.cells #[.func (.func 45) #[] #[], .func (.func 46) #[] #[]] 54)).alloc (.cells #[.pointer (some ⟨u, 0, none⟩), .slice ad M cap] 152))) (a := ⟨w.heap.size, 0, none⟩) (v := .func (.func 45) #[] #[]) (by simp [go_sem])
  have t1 := cells_re3 (w := ((w.alloc (.cells #[.func (.func 45) #[] #[], .func (.func 46) #[] #[]] 54)).alloc (.cells #[.pointer (some ⟨u, 0, none⟩), .slice ad M cap] 152))) (a := ⟨w.heap.size, 1, none⟩) (v := .func (.func 46) #[] #[]) (by simp [go_sem])
  have HBR : Hid (∀ d os, Below w.heap.size w (grow (redrawn ((w.alloc (.cells #[.func (.func 45) #[] #[], .func (.func 46) #[] #[]] 54)).alloc (.cells #[.pointer (some ⟨u, 0, none⟩), .slice ad M cap] 152)) d) os)) := fun d os => (bel2 _ _ _).trans ((below_regrown _ d os).mono (by simp; omega))
  go_enter Tryz.func127, Tryz.ntmps127
  go_wp2_with fail
  refine wp_region_quiet_below (by kernel_rfl) (by kernel_rfl) ?_
  repeat (go_big_quiet_step (first | (go_at_call 130; exact Calls.regrown_of (HC.out _)) | (go_at_call 131; exact Calls.regrown_of (HA.out _ (HBR.out _ _)))))
  refine wpQuiet_nil ?_
  intro w6 hw'
  obtain ⟨⟨dq, osq⟩, hw''⟩ := hw'
  have hb2 : Below w.heap.size w w6 := by rw [hw'']; exact HBR.out _ _
  clear hw'' p0 r0 r1 s0 s1 t0 t1
  go_wp2_with fail
  go_ret
  exact ⟨by rw [← HR.out]; rfl, hb2⟩
set_option maxHeartbeats 1000000 in
theorem parts_nil (u m : Nat) (w : World) : Calls Tryz.prog 74 #[.iface 154 (.agg #[.pointer (some ⟨u, 0, none⟩), .int .u64 m, .nilIface])] w fun e w' => e = .returned (.slice none 0 0) ∧ Below w.heap.size w w' := by
  have y1 := as_yes_154
  have n1 := as_no_154_152
  go_enter Tryz.func74, Tryz.ntmps74
  go_wp2_with fail
  go_ret
  exact ⟨rfl, bel1 _ _⟩
set_option maxHeartbeats 1000000 in
theorem parts_one (u m : Nat) (T : TypeId) (z : Value) (w : World) : Calls Tryz.prog 74 #[.iface 154 (.agg #[.pointer (some ⟨u, 0, none⟩), .int .u64 m, .iface T z])] w fun e w' => (∃ g, e = .returned (.slice (some ⟨g, 0, none⟩) 1 1) ∧ w.heap.size ≤ g ∧ g < w'.heap.size ∧ w'.cell? ⟨g, 0, none⟩ = some (.iface T z)) ∧ Below w.heap.size w w' := by
  have y1 := as_yes_154
  have n1 := as_no_154_152
  go_enter Tryz.func74, Tryz.ntmps74
  go_wp2_with fail
  go_ret
  exact ⟨⟨w.heap.size + 1, rfl, by omega, by simp, by simp [go_sem]⟩, bel2 _ _ _⟩
set_option maxHeartbeats 1000000 in
theorem parts_ser (u M cap : Nat) (ad : Option Addr) (w : World) : Calls Tryz.prog 74 #[.iface 152 (.agg #[.pointer (some ⟨u, 0, none⟩), .slice ad M cap])] w fun e w' => e = .returned (.slice ad M cap) ∧ Below w.heap.size w w' := by
  have y1 := as_yes_152
  go_enter Tryz.func74, Tryz.ntmps74
  go_wp2_with fail
  go_ret
  exact ⟨rfl, bel1 _ _⟩
set_option maxHeartbeats 1000000 in
theorem parts_num (u : Nat) (m : Nat) (w : World) : Calls Tryz.prog 74 #[.iface 136 (.agg #[.pointer (some ⟨u, 0, none⟩), .int .u64 m])] w fun e w' => e = .returned (.slice none 0 0) ∧ Below w.heap.size w w' := by
  have n1 := as_no_136_152
  have n2 := as_no_136_154
  go_enter Tryz.func74, Tryz.ntmps74
  go_wp2_with fail
  go_ret
  exact ⟨rfl, Below.refl _ _⟩
set_option maxHeartbeats 1000000 in
theorem parts_byt (u : Nat) (m : ByteArray) (w : World) : Calls Tryz.prog 74 #[.iface 138 (.agg #[.pointer (some ⟨u, 0, none⟩), .string m])] w fun e w' => e = .returned (.slice none 0 0) ∧ Below w.heap.size w w' := by
  have n1 := as_no_138_152
  have n2 := as_no_138_154
  go_enter Tryz.func74, Tryz.ntmps74
  go_wp2_with fail
  go_ret
  exact ⟨rfl, Below.refl _ _⟩
set_option maxHeartbeats 1000000 in
theorem chParts_bc (u m : Nat) (y : Value) (E : List UInt8) (w : World) (hE : E.length ≤ 1000000000000) (hy : (y = .nilIface ∧ E = []) ∨ ((∃ T z, y = .iface T z) ∧ ∀ w', Below w.heap.size w w' → Calls Tryz.prog 127 #[.agg #[.func (.func 45) #[] #[], .func (.func 46) #[] #[]], y] w' fun e w'' => e = .returned (.string ⟨E.toArray⟩) ∧ Below w'.heap.size w' w'')) :
    ∀ w', Below w.heap.size w w' → Calls Tryz.prog 74 #[.iface 154 (.agg #[.pointer (some ⟨u, 0, none⟩), .int .u64 m, y])] w' fun e w'' => (∃ ad n, e = .returned (.slice ad n n) ∧ ∀ w3, Below w''.heap.size w'' w3 → Calls Tryz.prog 131 #[.iface 54 (.agg #[.func (.func 45) #[] #[], .func (.func 46) #[] #[]]), .slice ad n n] w3 fun e w4 => e = .returned (.string ⟨E.toArray⟩) ∧ Below w3.heap.size w3 w4) ∧ Below w'.heap.size w' w'' := by
  intro w' hb
  rcases hy with ⟨rfl, rfl⟩ | ⟨⟨T, z, rfl⟩, hyc⟩
  · refine (parts_nil u m w').mono ?_
    rintro e w1 ⟨rfl, hb1⟩
    exact ⟨⟨none, 0, rfl, fun w3 hb3 => writeAll_bc 0 0 none (fun _ => .nilIface) (fun _ => []) w3 (by omega) (Nat.le_refl _) (by simp [maxLen]) (.inl rfl) (by simp) (fun j hj => by omega)⟩, hb1⟩
  · refine (parts_one u m T z w').mono ?_
    rintro e w1 ⟨⟨g, rfl, hg0, hg1, hc⟩, hb1⟩
    refine ⟨⟨_, 1, rfl, fun w3 hb3 => ?_⟩, hb1⟩
    have h1 := writeAll_bc 1 1 (some ⟨g, 0, none⟩) (fun _ => .iface T z) (fun _ => E) w3 (by omega) (Nat.le_refl _) (by simp [maxLen]) (.inr ⟨g, rfl, by have := hb3.size; omega, fun j hj => by
      have ej : j = 0 := by omega
      subst ej
      rw [hb3.cell (p := ⟨g, 0, none⟩) hg1]; exact hc⟩) (fun _ _ => hE) (fun j hj w4 hb4 => hyc w4 (hb.trans ((hb1.mono hb.size).trans ((hb3.mono (by have := hb.size; have := hb1.size; omega)).trans (hb4.mono (by have := hb.size; have := hb1.size; have := hb3.size; omega))))))
    simpa [catE] using h1
end Go.Proofs.YtichgnddbnibjaaGreatDoor
namespace Go.Proofs.YtichgnddbnibjaaGreatDoor
open Go.RowKit Go.Sort
set_option linter.unusedVariables false
set_option maxRecDepth 100000 in
set_option maxHeartbeats 4000000 in
theorem wrChoice_bc (u m : Nat) (k n : Int) (y : Value) (E : List UInt8) (w : World) (c0 : w.cell? ⟨u, 0, none⟩ = some (.int .i64 k)) (c1 : w.cell? ⟨u, 1, none⟩ = some (.int .i64 n)) (hu : u < w.heap.size) (hok : tyOk k n = true) (hm : m < 18446744073709551616)
    (hE : E.length ≤ 1000000000000) (hy : (y = .nilIface ∧ E = []) ∨ ((∃ T z, y = .iface T z) ∧ ∀ w', Below w.heap.size w w' → Calls Tryz.prog 127 #[.agg #[.func (.func 45) #[] #[], .func (.func 46) #[] #[]], y] w' fun e w'' => e = .returned (.string ⟨E.toArray⟩) ∧ Below w'.heap.size w' w'')) :
    Calls Tryz.prog 132 #[.agg #[], .iface 54 (.agg #[.func (.func 45) #[] #[], .func (.func 46) #[] #[]]), .agg #[.pointer (some ⟨u, 0, none⟩), .int .u64 m, y]] w fun e w' => e = .returned (.string ⟨(leL m (wid k n) ++ E).toArray⟩) ∧ Below w.heap.size w w' := by
  have HC : Hid (∀ w, Calls Tryz.prog 129 #[.agg #[], .agg #[.int .i64 k, .int .i64 n], .int .u64 m] w fun e w' => e = .returned (.string ⟨(leL m (wid k n)).toArray⟩) ∧ Below w.heap.size w w') := fun w => writeNumber_any k n m w hok hm
  have HPB : Hid (∀ w', Below w.heap.size w w' → Calls Tryz.prog 74 #[.iface 154 (.agg #[.pointer (some ⟨u, 0, none⟩), .int .u64 m, y])] w' fun e w'' => (∃ ad n, e = .returned (.slice ad n n) ∧ ∀ w3, Below w''.heap.size w'' w3 → Calls Tryz.prog 131 #[.iface 54 (.agg #[.func (.func 45) #[] #[], .func (.func 46) #[] #[]]), .slice ad n n] w3 fun e w4 => e = .returned (.string ⟨E.toArray⟩) ∧ Below w3.heap.size w3 w4) ∧ Below w'.heap.size w' w'') := chParts_bc u m y E w hE hy
  have hwl := wid_le hok
  have HR : Hid ((⟨(leL m (wid k n)).toArray⟩ : ByteArray) ++ ⟨E.toArray⟩ = ⟨(leL m (wid k n) ++ E).toArray⟩) := cat_list _ _
  have hsz : ByteArray.size ⟨(leL m (wid k n)).toArray⟩ ≤ 8 := by show (leL m (wid k n)).toArray.size ≤ 8; rw [List.size_toArray, leL_len]; exact hwl
  have hsz2 : ByteArray.size ⟨E.toArray⟩ ≤ 1000000000000 := by show E.toArray.size ≤ _; rw [List.size_toArray]; exact hE
  obtain ⟨D, hD⟩ : ∃ D : ByteArray, (⟨(leL m (wid k n)).toArray⟩ : ByteArray) = D := ⟨_, rfl⟩
  obtain ⟨X, hX⟩ : ∃ X : ByteArray, (⟨E.toArray⟩ : ByteArray) = X := ⟨_, rfl⟩
  rw [hD] at hsz HC
  rw [hX] at hsz2 HPB
  rw [hD, hX] at HR
  have hD2 : ¬ (9223372036854775807 < D.size + X.size) := by omega
  have r0 := cell_2 c0 hu (.cells #[] 50) (.cells #[.pointer (some ⟨u, 0, none⟩), .int .u64 (m : Int), y] 154)
  have r1 := cell_2 c1 hu (.cells #[] 50) (.cells #[.pointer (some ⟨u, 0, none⟩), .int .u64 (m : Int), y] 154)
  have HK : Hid (∀ w3, Below ((w.alloc (.cells #[] 50)).alloc (.cells #[.pointer (some ⟨u, 0, none⟩), .int .u64 (m : Int), y] 154)).heap.size ((w.alloc (.cells #[] 50)).alloc (.cells #[.pointer (some ⟨u, 0, none⟩), .int .u64 (m : Int), y] 154)).drew w3 → Below w.heap.size w w3 ∧ (w3.cell? ⟨u, 0, none⟩ = some (.int .i64 k) ∧ w3.cell? ⟨u, 1, none⟩ = some (.int .i64 n) ∧ w3.cell? ⟨w.heap.size + 1, 0, none⟩ = some (.pointer (some ⟨u, 0, none⟩)) ∧ w3.cell? ⟨w.heap.size + 1, 1, none⟩ = some (.int .u64 m) ∧ w3.cell? ⟨w.heap.size + 1, 2, none⟩ = some y)) := fun w3 hb => by
    refine ⟨(bel2 _ _ _).drew.trans (hb.mono (by simp; omega)), ?_, ?_, ?_, ?_, ?_⟩
    · rw [hb.cell (p := ⟨u, 0, none⟩) (by simp; omega)]; exact r0
    · rw [hb.cell (p := ⟨u, 1, none⟩) (by simp; omega)]; exact r1
    · rw [hb.cell (p := ⟨w.heap.size + 1, 0, none⟩) (by simp)]; simp [go_sem]
    · rw [hb.cell (p := ⟨w.heap.size + 1, 1, none⟩) (by simp)]; simp [go_sem]
    · rw [hb.cell (p := ⟨w.heap.size + 1, 2, none⟩) (by simp)]; simp [go_sem]
  have HS0 : Hid (((w.alloc (.cells #[] 50)).alloc (.cells #[.pointer (some ⟨u, 0, none⟩), .int .u64 (m : Int), y] 154)).drew.cell? ⟨u, 0, none⟩ = some (.int .i64 k) ∧ ((w.alloc (.cells #[] 50)).alloc (.cells #[.pointer (some ⟨u, 0, none⟩), .int .u64 (m : Int), y] 154)).drew.cell? ⟨u, 1, none⟩ = some (.int .i64 n) ∧ ((w.alloc (.cells #[] 50)).alloc (.cells #[.pointer (some ⟨u, 0, none⟩), .int .u64 (m : Int), y] 154)).drew.cell? ⟨w.heap.size + 1, 0, none⟩ = some (.pointer (some ⟨u, 0, none⟩)) ∧ ((w.alloc (.cells #[] 50)).alloc (.cells #[.pointer (some ⟨u, 0, none⟩), .int .u64 (m : Int), y] 154)).drew.cell? ⟨w.heap.size + 1, 1, none⟩ = some (.int .u64 m) ∧ ((w.alloc (.cells #[] 50)).alloc (.cells #[.pointer (some ⟨u, 0, none⟩), .int .u64 (m : Int), y] 154)).drew.cell? ⟨w.heap.size + 1, 2, none⟩ = some y) := (HK.out _ (Below.refl _ _)).2
  have hyy : y = .nilIface ∨ ∃ T z, y = .iface T z := hy.imp (·.1) (·.1)
  clear hok hy hE hD hX hsz hsz2 hwl r0 r1 c0 c1
  rcases hyy with rfl | ⟨T, z, rfl⟩
  · go_enter Tryz.func132, Tryz.ntmps132
    go_wp2_with fail
    go_region_held3 (fun W => W.cell? ⟨u, 0, none⟩ = some (.int .i64 k) ∧ W.cell? ⟨u, 1, none⟩ = some (.int .i64 n) ∧ W.cell? ⟨w.heap.size + 1, 0, none⟩ = some (.pointer (some ⟨u, 0, none⟩)) ∧ W.cell? ⟨w.heap.size + 1, 1, none⟩ = some (.int .u64 m) ∧ W.cell? ⟨w.heap.size + 1, 2, none⟩ = some (.nilIface)) (first | exact HS0.out | exact HS5.out | exact HS4.out | exact HS3.out) (first
      | (go_at_call 129; refine (HC.out _).mono ?_; rintro e w3 ⟨rfl, hb3⟩; have HS3 : Hid _ := (HK.out w3 hb3).2; have HB3 : Hid (Below w.heap.size w w3) := (HK.out w3 hb3).1; have HG3 : Hid (Below ((w.alloc (.cells #[] 50)).alloc (.cells #[.pointer (some ⟨u, 0, none⟩), .int .u64 (m : Int), .nilIface] 154)).heap.size ((w.alloc (.cells #[] 50)).alloc (.cells #[.pointer (some ⟨u, 0, none⟩), .int .u64 (m : Int), .nilIface] 154)).drew w3) := hb3; clear hb3)
      | (go_at_call 74; refine (HPB.out _ HB3.out).mono ?_; rintro e w4 ⟨⟨ad, n4, rfl, hwa⟩, hb4⟩; have HWA : Hid (∀ w3, Below w4.heap.size w4 w3 → Calls Tryz.prog 131 #[.iface 54 (.agg #[.func (.func 45) #[] #[], .func (.func 46) #[] #[]]), .slice ad n4 n4] w3 fun e w4 => e = .returned (.string X) ∧ Below w3.heap.size w3 w4) := hwa; have HG4 : Hid (Below ((w.alloc (.cells #[] 50)).alloc (.cells #[.pointer (some ⟨u, 0, none⟩), .int .u64 (m : Int), .nilIface] 154)).heap.size ((w.alloc (.cells #[] 50)).alloc (.cells #[.pointer (some ⟨u, 0, none⟩), .int .u64 (m : Int), .nilIface] 154)).drew w4) := HG3.out.trans (hb4.mono HG3.out.size); have HB4 : Hid (Below w.heap.size w w4) := HB3.out.trans (hb4.mono HB3.out.size); have HS4 : Hid _ := (HK.out w4 HG4.out).2; clear hwa hb4)
      | (go_at_call 131; refine (HWA.out _ (Below.refl _ _)).mono ?_; rintro e w5 ⟨rfl, hb5⟩; have HB5 : Hid (Below w.heap.size w w5) := HB4.out.trans (hb5.mono HB4.out.size); have HS5 : Hid _ := (HK.out w5 (HG4.out.trans (hb5.mono HG4.out.size))).2; clear hb5))
    all_goals
      go_wp2_with fail
      go_ret
      exact ⟨by rw [← HR.out]; rfl, HB5.out⟩
  · go_enter Tryz.func132, Tryz.ntmps132
    go_wp2_with fail
    go_region_held3 (fun W => W.cell? ⟨u, 0, none⟩ = some (.int .i64 k) ∧ W.cell? ⟨u, 1, none⟩ = some (.int .i64 n) ∧ W.cell? ⟨w.heap.size + 1, 0, none⟩ = some (.pointer (some ⟨u, 0, none⟩)) ∧ W.cell? ⟨w.heap.size + 1, 1, none⟩ = some (.int .u64 m) ∧ W.cell? ⟨w.heap.size + 1, 2, none⟩ = some (.iface T z)) (first | exact HS0.out | exact HS5.out | exact HS4.out | exact HS3.out) (first
      | (go_at_call 129; refine (HC.out _).mono ?_; rintro e w3 ⟨rfl, hb3⟩; have HS3 : Hid _ := (HK.out w3 hb3).2; have HB3 : Hid (Below w.heap.size w w3) := (HK.out w3 hb3).1; have HG3 : Hid (Below ((w.alloc (.cells #[] 50)).alloc (.cells #[.pointer (some ⟨u, 0, none⟩), .int .u64 (m : Int), .iface T z] 154)).heap.size ((w.alloc (.cells #[] 50)).alloc (.cells #[.pointer (some ⟨u, 0, none⟩), .int .u64 (m : Int), .iface T z] 154)).drew w3) := hb3; clear hb3)
      | (go_at_call 74; refine (HPB.out _ HB3.out).mono ?_; rintro e w4 ⟨⟨ad, n4, rfl, hwa⟩, hb4⟩; have HWA : Hid (∀ w3, Below w4.heap.size w4 w3 → Calls Tryz.prog 131 #[.iface 54 (.agg #[.func (.func 45) #[] #[], .func (.func 46) #[] #[]]), .slice ad n4 n4] w3 fun e w4 => e = .returned (.string X) ∧ Below w3.heap.size w3 w4) := hwa; have HG4 : Hid (Below ((w.alloc (.cells #[] 50)).alloc (.cells #[.pointer (some ⟨u, 0, none⟩), .int .u64 (m : Int), .iface T z] 154)).heap.size ((w.alloc (.cells #[] 50)).alloc (.cells #[.pointer (some ⟨u, 0, none⟩), .int .u64 (m : Int), .iface T z] 154)).drew w4) := HG3.out.trans (hb4.mono HG3.out.size); have HB4 : Hid (Below w.heap.size w w4) := HB3.out.trans (hb4.mono HB3.out.size); have HS4 : Hid _ := (HK.out w4 HG4.out).2; clear hwa hb4)
      | (go_at_call 131; refine (HWA.out _ (Below.refl _ _)).mono ?_; rintro e w5 ⟨rfl, hb5⟩; have HB5 : Hid (Below w.heap.size w w5) := HB4.out.trans (hb5.mono HB4.out.size); have HS5 : Hid _ := (HK.out w5 (HG4.out.trans (hb5.mono HG4.out.size))).2; clear hb5))
    all_goals
      go_wp2_with fail
      go_ret
      exact ⟨by rw [← HR.out]; rfl, HB5.out⟩
end Go.Proofs.YtichgnddbnibjaaGreatDoor
namespace Go.Proofs.YtichgnddbnibjaaGreatDoor
open Go.RowKit Go.Sort
set_option linter.unusedVariables false
theorem VAt.iface {ts : List (Int × Int)} {vs : List It} {f : Nat} {w : World} {S : Nat → Prop} {x : Value} {a q : Nat} (h : VAt ts vs f w S x a q) : ∃ T z, x = .iface T z := by
  cases f with
  | zero => exact h.elim
  | succ f =>
    obtain ⟨u, ha, hq, ht, hf, h⟩ := h
    rcases h with ⟨_, h⟩ | ⟨_, h⟩ | ⟨_, ad, cap, h, _⟩ | ⟨_, y, h, _⟩
    all_goals exact ⟨_, _, h⟩
theorem VAt.bel {ts : List (Int × Int)} {vs : List It} {f : Nat} {w w' : World} {S : Nat → Prop} {x : Value} {a q : Nat} (h : VAt ts vs f w S x a q) (hS : ∀ c, S c → c < w.heap.size) (hb : Below w.heap.size w w') : VAt ts vs f w' S x a q :=
  h.keep (fun _ h => h) (fun c hc => hb.block c (hS c hc))
theorem own_num {cnt : Nat → List UInt8} {k n : Int} {x : It} (hk : x.k = k) (h : k = 1 ∨ k = 2 ∨ k = 8 ∨ k = 9) : own cnt n x = leL x.n (wid k n) := by
  subst hk
  unfold own wid
  rcases h with h | h | h | h <;> simp [h]
theorem own_bytes {cnt : Nat → List UInt8} {k n : Int} {x : It} (hk : x.k = k) (h : k = 3 ∨ k = 4) : own cnt n x = (if k = 3 ∨ k = 5 then cnt x.s.size else []) ++ x.s.data.toList := by
  subst hk
  unfold own
  rcases h with h | h <;> simp [h]
theorem own_series {cnt : Nat → List UInt8} {k n : Int} {x : It} (hk : x.k = k) (h : k = 5 ∨ k = 6 ∨ k = 7) : own cnt n x = if k = 3 ∨ k = 5 then cnt x.n else [] := by
  subst hk
  unfold own
  rcases h with h | h | h <;> simp [h]
theorem scE_le {cnt : Nat → List UInt8} {ts : List (Int × Int)} {vs : List It} (hc : ∀ m, (cnt m).length ≤ 9) (hs : ∀ x ∈ vs, x.s.size ≤ 1048577) (hl : vs.length ≤ 200) {f a e q q' : Nat} (he : en ts f a = some e) (hv : ve ts vs f a q = some q') : (scE cnt ts vs f a q).length ≤ 1000000000 := by
  have h1 := scE_len hc hs he hv
  have h2 := (ve_lt hv).2
  have h3 : q' * 1048590 ≤ 200 * 1048590 := Nat.mul_le_mul_right _ (by omega)
  omega
set_option maxRecDepth 100000 in
set_option maxHeartbeats 2000000 in
theorem wrChN_bc (u m : Nat) (k n : Int) (y : Value) (E : List UInt8) (w : World) (c0 : w.cell? ⟨u, 0, none⟩ = some (.int .i64 k)) (c1 : w.cell? ⟨u, 1, none⟩ = some (.int .i64 n)) (hu : u < w.heap.size) (hok : tyOk k n = true) (hm : m < 18446744073709551616)
    (hE : E.length ≤ 1000000000000) (hy : (y = .nilIface ∧ E = []) ∨ ((∃ T z, y = .iface T z) ∧ ∀ w', Below w.heap.size w w' → Calls Tryz.prog 127 #[.agg #[.func (.func 45) #[] #[], .func (.func 46) #[] #[]], y] w' fun e w'' => e = .returned (.string ⟨E.toArray⟩) ∧ Below w'.heap.size w' w'')) :
    Calls Tryz.prog 127 #[.agg #[.func (.func 45) #[] #[], .func (.func 46) #[] #[]], .iface 154 (.agg #[.pointer (some ⟨u, 0, none⟩), .int .u64 m, y])] w fun e w' => e = .returned (.string ⟨(leL m (wid k n) ++ E).toArray⟩) ∧ Below w.heap.size w w' := by
  have HC : Hid (Calls Tryz.prog 132 #[.agg #[], .iface 54 (.agg #[.func (.func 45) #[] #[], .func (.func 46) #[] #[]]), .agg #[.pointer (some ⟨u, 0, none⟩), .int .u64 m, y]] ((w.alloc (.cells #[.func (.func 45) #[] #[], .func (.func 46) #[] #[]] 54)).alloc (.cells #[.pointer (some ⟨u, 0, none⟩), .int .u64 (m : Int), y] 154)) fun e w' => e = .returned (.string ⟨(leL m (wid k n) ++ E).toArray⟩) ∧ Below ((w.alloc (.cells #[.func (.func 45) #[] #[], .func (.func 46) #[] #[]] 54)).alloc (.cells #[.pointer (some ⟨u, 0, none⟩), .int .u64 (m : Int), y] 154)).heap.size ((w.alloc (.cells #[.func (.func 45) #[] #[], .func (.func 46) #[] #[]] 54)).alloc (.cells #[.pointer (some ⟨u, 0, none⟩), .int .u64 (m : Int), y] 154)) w') :=
    wrChoice_bc u m k n y E _ (cell_2 c0 hu _ _) (cell_2 c1 hu _ _) (by simp; omega) hok hm hE (hy.imp id fun ⟨h1, h2⟩ => ⟨h1, fun w' hb => h2 w' ((bel2 _ _ _).trans (hb.mono (by simp; omega)))⟩)
  have y1 := as_yes_154
  have n1 := as_no_154_136
  have n2 := as_no_154_138
  have n3 := as_no_154_152
  have p0 := part00 (heap_2 w (.cells #[.func (.func 45) #[] #[], .func (.func 46) #[] #[]] 54) (.cells #[.pointer (some ⟨u, 0, none⟩), .int .u64 (m : Int), y] 154))
  have hy1 : y = .nilIface ∨ ∃ T z, y = .iface T z := hy.imp (·.1) (·.1)
  clear hok hy hE c0 c1
  rcases hy1 with rfl | ⟨T, z, rfl⟩
  all_goals
    go_enter Tryz.func127, Tryz.ntmps127
    go_wp2_with fail
    refine Calls.mono HC.out ?_
    rintro e w1 ⟨rfl, hb1⟩
    have HB : Hid (Below w.heap.size w w1) := (bel2 _ _ _).trans (hb1.mono (by simp; omega))
    clear hb1 p0
    go_wp2_with fail
    go_ret
    exact ⟨rfl, HB.out⟩
/-- A count's bytes, of numbers that a count can be. -/
def cb_bc (m : Nat) : List UInt8 := if m < 18446744073709551616 then putSize m else []
theorem cb_len_bc (m : Nat) : (cb_bc m).length ≤ 9 := by
  unfold cb_bc
  split
  · rename_i h
    have := by8_8 m h
    unfold putSize
    repeat' split
    all_goals first | (simp only [leL_len]; omega) | (simp only [leL_len, List.length_append]; omega) | (simp only [leL_len, List.length_cons]; omega)
  · simp
theorem cb_cnt_bc {k : Int} {m : Nat} (h : m < 18446744073709551616) : (if k = 3 ∨ k = 5 then cb_bc m else []) = cnt_bc k m := by
  unfold cnt_bc cb_bc
  rw [if_pos h]
theorem cnt_len_bc (k : Int) {m : Nat} (h : m < 18446744073709551616) : (cnt_bc k m).length ≤ 1000 := by
  rw [← cb_cnt_bc h]
  split
  · have := cb_len_bc m; omega
  · simp
theorem write_bc (ts : List (Int × Int)) (vs : List It) (hvs : ∀ x ∈ vs, x.n < 18446744073709551616 ∧ x.s.size ≤ 1048577) (hl : vs.length ≤ 200) : ∀ (f a q q' : Nat) (S : Nat → Prop) (x : Value) (w : World), ve ts vs f a q = some q' → VAt ts vs f w S x a q → (∀ c, S c → c < w.heap.size) →
    Calls Tryz.prog 127 #[.agg #[.func (.func 45) #[] #[], .func (.func 46) #[] #[]], x] w fun e w' => e = .returned (.string ⟨(scE cb_bc ts vs f a q).toArray⟩) ∧ Below w.heap.size w w' := by
  intro f
  induction f with
  | zero => intro a q q' S x w h; cases h
  | succ f ih =>
    intro a q q' S x w hv hx hS
    obtain ⟨u, ha, hq, ht, hfit, hx⟩ := hx
    obtain ⟨_, e0, ad0, cap0, hok, hit, hu, c0, c1, _⟩ := ht.openT
    have hul := hS u hu
    have hfit' : vs[q].k = ts[a].1 ∧ fitsN ts[a].1 ts[a].2 vs[q].n = true := by simp [fitsI] at hfit; exact ⟨hfit.1, hfit.2.1⟩
    obtain ⟨hxn, hxs⟩ := hvs vs[q] (List.getElem_mem hq)
    have hss : ∀ x ∈ vs, x.s.size ≤ 1048577 := fun x h => (hvs x h).2
    rw [ve_ok ha hq hfit] at hv
    rw [scE_ok ha hq]
    have hpart : ∀ j, j < np ts[a].1 vs[q].n → ∃ y y', vit (ve ts vs f) (pl ts f a ts[a].1 vs[q].n) (q + 1) j = some y ∧ ve ts vs f (pl ts f a ts[a].1 vs[q].n j) y = some y' ∧ (scE cb_bc ts vs f (pl ts f a ts[a].1 vs[q].n j) y).length ≤ 1000000000 := fun j hj => by
      obtain ⟨y, hy⟩ := vit_part hv (show j ≤ np ts[a].1 vs[q].n by omega)
      obtain ⟨y', hy'⟩ := vit_part hv (show j + 1 ≤ np ts[a].1 vs[q].n by omega)
      rw [vit_succ, hy] at hy'
      obtain ⟨e', he'⟩ := pl_ok ha hok hit hfit'.2 hj
      exact ⟨y, y', hy, hy', scE_le cb_len_bc hss hl he' hy'⟩
    rcases hx with ⟨hk, rfl⟩ | ⟨hk, rfl⟩ | ⟨hk, ad, cap, rfl, h1, h2, h3⟩ | ⟨hk, y, rfl, h3⟩
    · have e0 : np ts[a].1 vs[q].n = 0 := by unfold np; rw [if_neg (by omega), if_neg (by omega)]
      rw [e0, own_num hfit'.1 (by omega)]
      simp only [cat, List.append_nil]
      exact wrNum_bc u vs[q].n _ _ w c0 c1 hul hok hxn
    · have e0 : np ts[a].1 vs[q].n = 0 := by unfold np; rw [if_neg (by omega), if_neg (by omega)]
      have hm : vs[q].s.size < 18446744073709551616 := by omega
      rw [e0, own_bytes hfit'.1 hk, cb_cnt_bc hm]
      simp only [cat, List.append_nil]
      exact wrBytes_bc u vs[q].s _ _ w c0 c1 hul hxs (cnt_len_bc _ hm)
    · have e0 : np ts[a].1 vs[q].n = vs[q].n := by unfold np; rw [if_pos (by omega)]
      have h20 := np_le hok hfit'.2
      rw [e0] at h20 hpart
      rw [e0, own_series hfit'.1 hk, cb_cnt_bc hxn, cat_catE]
      obtain ⟨ys, hys⟩ : ∃ ys : Nat → Value, ys = fun j => (w.cell? ⟨(ad.map (·.block)).getD 0, j, none⟩).getD .nilIface := ⟨_, rfl⟩
      refine wrSeries_bc u vs[q].n cap ad _ _ ys _ w c0 c1 hul h20 h1 h2 ?_ ?_ ?_ (cnt_len_bc _ hxn)
      · rcases h3 with h3 | ⟨g, rfl, hg, hp⟩
        · exact .inl h3
        · refine .inr ⟨g, rfl, hS g hg, fun j hj => ?_⟩
          obtain ⟨y, q1, _, hc, _⟩ := hp j hj
          rw [hys, hc]; simp [hc]
      · intro j hj
        obtain ⟨y, y', hy, _, hlen⟩ := hpart j hj
        rw [hy]
        simp only [Option.getD_some]
        omega
      · intro j hj w' hb
        obtain ⟨g, rfl, hg, hp⟩ := h3.resolve_left (by omega)
        obtain ⟨y, q1, hq1, hc, hva⟩ := hp j hj
        obtain ⟨z, z', hz, hz', _⟩ := hpart j hj
        have ez : z = q1 := by rw [hq1] at hz; injection hz with hz; exact hz.symm
        subst ez
        have ey : ys j = y := by rw [hys]; simp [hc]
        rw [ey]
        dsimp only
        rw [hz]
        exact ih _ _ _ S y w' hz' (hva.bel hS hb) (fun c hc => by have := hS c hc; have := hb.size; omega)
    · rw [own_num hfit'.1 (by omega)]
      rcases h3 with ⟨h3, rfl⟩ | ⟨h3, hva⟩
      · rw [h3]
        exact wrChN_bc u vs[q].n _ _ .nilIface [] w c0 c1 hul hok hxn (by simp) (.inl ⟨rfl, rfl⟩)
      · have e0 : np ts[a].1 vs[q].n = 1 := by
          have h8 := hfit'.2
          unfold fitsN at h8
          unfold np at h3 ⊢
          rcases hk with hk | hk
          · rw [if_pos (by omega)] at h3 ⊢
            rw [if_neg (by omega), if_pos (by omega)] at h8
            have := of_decide_eq_true h8
            omega
          · rw [if_neg (by omega), if_pos hk]
        obtain ⟨z, z', hz, hz', hlen⟩ := hpart 0 (by omega)
        cases hz
        rw [e0]
        simp only [cat, vit_zero, Option.getD_some, List.nil_append]
        exact wrChN_bc u vs[q].n _ _ y _ w c0 c1 hul hok hxn (by omega) (.inr ⟨hva.iface, fun w' hb => ih _ _ _ S y w' hz' (hva.bel hS hb) (fun c hc => by have := hS c hc; have := hb.size; omega)⟩)
end Go.Proofs.YtichgnddbnibjaaGreatDoor
