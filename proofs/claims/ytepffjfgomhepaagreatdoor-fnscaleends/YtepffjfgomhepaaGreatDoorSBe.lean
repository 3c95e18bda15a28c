/- Bytes taken off a text: contract. -/
import Derived.Test.YtepffjfgomhepaaGreatDoorSBd
namespace Go.Proofs.YtepffjfgomhepaaGreatDoor
open Go.RowKit Go.Sort
set_option linter.unusedVariables false
theorem extract_size (R : ByteArray) (m : Nat) (h : m ≤ R.size) : (R.extract 0 m).size = m := by simp; omega
set_option maxRecDepth 100000 in
set_option maxHeartbeats 2000000 in
theorem takeBytes_yes_sc (u m : Nat) (k n : Int) (s R : ByteArray) (w : World) (c0 : w.cell? ⟨u, 0, none⟩ = some (.int .i64 k)) (c1 : w.cell? ⟨u, 1, none⟩ = some (.int .i64 n)) (hu : u < w.heap.size) (hok : tyOk k n = true) (hR : R.size ≤ 1048577) (hm : m ≤ R.size) (hf : fitsS k n m = true)
    (htc : ∀ w', Below w.heap.size w w' → Calls Tryz.prog 141 #[.agg #[.func (.func 35) #[] #[], .func (.func 36) #[] #[]], .agg #[.int .i64 k, .int .i64 n], .string s] w' fun e w'' => e = .returned (.tuple #[.int .u64 m, .string R, .nilIface]) ∧ Below w'.heap.size w' w'') :
    Calls Tryz.prog 138 #[.agg #[.func (.func 35) #[] #[], .func (.func 36) #[] #[]], .pointer (some ⟨u, 0, none⟩), .string s] w fun e w' => e = .returned (.tuple #[.iface 139 (.agg #[.pointer (some ⟨u, 0, none⟩), .string (R.extract 0 m)]), .string (R.extract m R.size), .nilIface]) ∧ Below w.heap.size w w' := by
  have HTC : Hid (∀ w', Below w.heap.size w w' → Calls Tryz.prog 141 #[.agg #[.func (.func 35) #[] #[], .func (.func 36) #[] #[]], .agg #[.int .i64 k, .int .i64 n], .string s] w' fun e w'' => e = .returned (.tuple #[.int .u64 m, .string R, .nilIface]) ∧ Below w'.heap.size w' w'') := htc
  have HRB : Hid (∀ w', Below w.heap.size w w' → Calls Tryz.prog 142 #[.pointer (some ⟨u, 0, none⟩), .string (R.extract 0 m)] w' fun e w'' => e = .returned (.tuple #[.iface 139 (.agg #[.pointer (some ⟨u, 0, none⟩), .string (R.extract 0 m)]), .nilIface]) ∧ Below w'.heap.size w' w'') := fun w' hb =>
    readBytes_yes u k n _ w' (by rw [hb.cell (p := ⟨u, 0, none⟩) hu]; exact c0) (by rw [hb.cell (p := ⟨u, 1, none⟩) hu]; exact c1) hok (by rw [extract_size R m hm]; omega) (by rw [extract_size R m hm]; exact hf)
  have d0 := cells_re3 (cell_1i c0 hu (.cells #[.func (.func 35) #[] #[], .func (.func 36) #[] #[]] 48))
  have d1 := cells_re3 (cell_1i c1 hu (.cells #[.func (.func 35) #[] #[], .func (.func 36) #[] #[]] 48))
  have t0 := cells_re3 (w := (w.alloc (.cells #[.func (.func 35) #[] #[], .func (.func 36) #[] #[]] 48))) (a := ⟨w.heap.size, 0, none⟩) (v := .func (.func 35) #[] #[]) (by simp [go_sem])
  have t1 := cells_re3 (w := (w.alloc (.cells #[.func (.func 35) #[] #[], .func (.func 36) #[] #[]] 48))) (a := ⟨w.heap.size, 1, none⟩) (v := .func (.func 36) #[] #[]) (by simp [go_sem])
  have HBR : Hid (∀ d os, Below w.heap.size w (grow (redrawn (w.alloc (.cells #[.func (.func 35) #[] #[], .func (.func 36) #[] #[]] 48)) d) os)) := fun d os => (bel1 _ _).trans ((below_regrown _ d os).mono (by simp))
  have hlt : decide ((R.size : Int) < (m : Int)) = false := by simp; omega
  clear htc hok hf c0 c1
  go_enter Tryz.func138, Tryz.ntmps138
  go_wp2_with fail
  refine wp_region_quiet_below (by kernel_rfl) (by kernel_rfl) ?_
  repeat (go_big_quiet_step (exact Calls.regrown_of (HTC.out _ (HBR.out _ _))))
  refine wpQuiet_nil ?_
  intro w1 hw'
  obtain ⟨⟨dq, osq⟩, hw''⟩ := hw'
  have HB1 : Hid (Below w.heap.size w w1) := by rw [hw'']; exact HBR.out _ _
  clear hw'' d0 d1 t0 t1
  go_wp2_with fail
  refine (HRB.out _ HB1.out).mono ?_
  rintro e w2 ⟨rfl, hb2⟩
  have HB2 : Hid (Below w.heap.size w w2) := HB1.out.trans (hb2.mono HB1.out.size)
  clear hb2
  go_wp2_with fail
  go_region
  all_goals
    go_wp2_with fail
    go_ret3
    exact ⟨rfl, by first | exact HB2.out | exact HB2.out.drew⟩
set_option maxRecDepth 100000 in
set_option maxHeartbeats 2000000 in
theorem takeBytes_err_sc (u : Nat) (k n : Int) (s : ByteArray) (w : World) (c0 : w.cell? ⟨u, 0, none⟩ = some (.int .i64 k)) (c1 : w.cell? ⟨u, 1, none⟩ = some (.int .i64 n)) (hu : u < w.heap.size) (T : TypeId) (z : Value)
    (htc : ∀ w', Below w.heap.size w w' → Calls Tryz.prog 141 #[.agg #[.func (.func 35) #[] #[], .func (.func 36) #[] #[]], .agg #[.int .i64 k, .int .i64 n], .string s] w' fun e w'' => e = .returned (.tuple #[.int .u64 0, .string ⟨#[]⟩, .iface T z]) ∧ Below w'.heap.size w' w'') :
    Calls Tryz.prog 138 #[.agg #[.func (.func 35) #[] #[], .func (.func 36) #[] #[]], .pointer (some ⟨u, 0, none⟩), .string s] w fun e w' => (∃ y, e = .returned (.tuple #[.nilIface, .string y, .iface T z])) ∧ Below w.heap.size w w' := by
  have HTC : Hid (∀ w', Below w.heap.size w w' → Calls Tryz.prog 141 #[.agg #[.func (.func 35) #[] #[], .func (.func 36) #[] #[]], .agg #[.int .i64 k, .int .i64 n], .string s] w' fun e w'' => e = .returned (.tuple #[.int .u64 0, .string ⟨#[]⟩, .iface T z]) ∧ Below w'.heap.size w' w'') := htc
  have d0 := cells_re3 (cell_1i c0 hu (.cells #[.func (.func 35) #[] #[], .func (.func 36) #[] #[]] 48))
  have d1 := cells_re3 (cell_1i c1 hu (.cells #[.func (.func 35) #[] #[], .func (.func 36) #[] #[]] 48))
  have t0 := cells_re3 (w := (w.alloc (.cells #[.func (.func 35) #[] #[], .func (.func 36) #[] #[]] 48))) (a := ⟨w.heap.size, 0, none⟩) (v := .func (.func 35) #[] #[]) (by simp [go_sem])
  have t1 := cells_re3 (w := (w.alloc (.cells #[.func (.func 35) #[] #[], .func (.func 36) #[] #[]] 48))) (a := ⟨w.heap.size, 1, none⟩) (v := .func (.func 36) #[] #[]) (by simp [go_sem])
  have HBR : Hid (∀ d os, Below w.heap.size w (grow (redrawn (w.alloc (.cells #[.func (.func 35) #[] #[], .func (.func 36) #[] #[]] 48)) d) os)) := fun d os => (bel1 _ _).trans ((below_regrown _ d os).mono (by simp))
  clear htc c0 c1
  go_enter Tryz.func138, Tryz.ntmps138
  go_wp2_with fail
  refine wp_region_quiet_below (by kernel_rfl) (by kernel_rfl) ?_
  repeat (go_big_quiet_step (exact Calls.regrown_of (HTC.out _ (HBR.out _ _))))
  refine wpQuiet_nil ?_
  intro w1 hw'
  obtain ⟨⟨dq, osq⟩, hw''⟩ := hw'
  have HB1 : Hid (Below w.heap.size w w1) := by rw [hw'']; exact HBR.out _ _
  clear hw'' d0 d1 t0 t1
  go_wp2_with fail
  go_ret3
  exact ⟨⟨_, rfl⟩, HB1.out⟩
set_option maxRecDepth 100000 in
set_option maxHeartbeats 2000000 in
theorem takeBytes_short_sc (u : Nat) (k n : Int) (s : ByteArray) (w : World) (c0 : w.cell? ⟨u, 0, none⟩ = some (.int .i64 k)) (c1 : w.cell? ⟨u, 1, none⟩ = some (.int .i64 n)) (hu : u < w.heap.size) (m : Nat) (R : ByteArray) (hR : R.size ≤ 1048577) (hm : R.size < m) (hm64 : m < 18446744073709551616) (T : TypeId) (z : Value) (he : EFv T z w)
    (htc : ∀ w', Below w.heap.size w w' → Calls Tryz.prog 141 #[.agg #[.func (.func 35) #[] #[], .func (.func 36) #[] #[]], .agg #[.int .i64 k, .int .i64 n], .string s] w' fun e w'' => e = .returned (.tuple #[.int .u64 m, .string R, .nilIface]) ∧ Below w'.heap.size w' w'') :
    Calls Tryz.prog 138 #[.agg #[.func (.func 35) #[] #[], .func (.func 36) #[] #[]], .pointer (some ⟨u, 0, none⟩), .string s] w fun e w' => (∃ y, e = .returned (.tuple #[.nilIface, .string y, .iface T z])) ∧ Below w.heap.size w w' := by
  have HTC : Hid (∀ w', Below w.heap.size w w' → Calls Tryz.prog 141 #[.agg #[.func (.func 35) #[] #[], .func (.func 36) #[] #[]], .agg #[.int .i64 k, .int .i64 n], .string s] w' fun e w'' => e = .returned (.tuple #[.int .u64 m, .string R, .nilIface]) ∧ Below w'.heap.size w' w'') := htc
  have d0 := cells_re3 (cell_1i c0 hu (.cells #[.func (.func 35) #[] #[], .func (.func 36) #[] #[]] 48))
  have d1 := cells_re3 (cell_1i c1 hu (.cells #[.func (.func 35) #[] #[], .func (.func 36) #[] #[]] 48))
  have t0 := cells_re3 (w := (w.alloc (.cells #[.func (.func 35) #[] #[], .func (.func 36) #[] #[]] 48))) (a := ⟨w.heap.size, 0, none⟩) (v := .func (.func 35) #[] #[]) (by simp [go_sem])
  have t1 := cells_re3 (w := (w.alloc (.cells #[.func (.func 35) #[] #[], .func (.func 36) #[] #[]] 48))) (a := ⟨w.heap.size, 1, none⟩) (v := .func (.func 36) #[] #[]) (by simp [go_sem])
  have HBR : Hid (∀ d os, Below w.heap.size w (grow (redrawn (w.alloc (.cells #[.func (.func 35) #[] #[], .func (.func 36) #[] #[]] 48)) d) os)) := fun d os => (bel1 _ _).trans ((below_regrown _ d os).mono (by simp))
  have hlt : decide ((R.size : Int) < (m : Int)) = true := by simp; omega
  have HE : Hid (EFv T z w) := he
  clear he
  clear htc c0 c1
  go_enter Tryz.func138, Tryz.ntmps138
  go_wp2_with fail
  refine wp_region_quiet_below (by kernel_rfl) (by kernel_rfl) ?_
  repeat (go_big_quiet_step (exact Calls.regrown_of (HTC.out _ (HBR.out _ _))))
  refine wpQuiet_nil ?_
  intro w1 hw'
  obtain ⟨⟨dq, osq⟩, hw''⟩ := hw'
  have HB1 : Hid (Below w.heap.size w w1) := by rw [hw'']; exact HBR.out _ _
  clear hw'' d0 d1 t0 t1
  obtain ⟨e1, e2⟩ := EFv.below HE.out HB1.out
  go_wp2_with fail
  go_region
  all_goals
    go_wp2_with fail
    go_ret3
    exact ⟨⟨_, rfl⟩, by first | exact HB1.out | exact HB1.out.drew⟩
set_option maxRecDepth 100000 in
set_option maxHeartbeats 2000000 in
theorem takeBytes_long_sc (u : Nat) (k n : Int) (s : ByteArray) (w : World) (c0 : w.cell? ⟨u, 0, none⟩ = some (.int .i64 k)) (c1 : w.cell? ⟨u, 1, none⟩ = some (.int .i64 n)) (hu : u < w.heap.size) (m : Nat) (R : ByteArray) (hok : tyOk k n = true) (hR : R.size ≤ 1048577) (hm : m ≤ R.size) (hf : fitsS k n m = false) (T : TypeId) (z : Value) (he : EFv T z w)
    (htc : ∀ w', Below w.heap.size w w' → Calls Tryz.prog 141 #[.agg #[.func (.func 35) #[] #[], .func (.func 36) #[] #[]], .agg #[.int .i64 k, .int .i64 n], .string s] w' fun e w'' => e = .returned (.tuple #[.int .u64 m, .string R, .nilIface]) ∧ Below w'.heap.size w' w'') :
    Calls Tryz.prog 138 #[.agg #[.func (.func 35) #[] #[], .func (.func 36) #[] #[]], .pointer (some ⟨u, 0, none⟩), .string s] w fun e w' => (∃ y, e = .returned (.tuple #[.nilIface, .string y, .iface T z])) ∧ Below w.heap.size w w' := by
  have HTC : Hid (∀ w', Below w.heap.size w w' → Calls Tryz.prog 141 #[.agg #[.func (.func 35) #[] #[], .func (.func 36) #[] #[]], .agg #[.int .i64 k, .int .i64 n], .string s] w' fun e w'' => e = .returned (.tuple #[.int .u64 m, .string R, .nilIface]) ∧ Below w'.heap.size w' w'') := htc
  have d0 := cells_re3 (cell_1i c0 hu (.cells #[.func (.func 35) #[] #[], .func (.func 36) #[] #[]] 48))
  have d1 := cells_re3 (cell_1i c1 hu (.cells #[.func (.func 35) #[] #[], .func (.func 36) #[] #[]] 48))
  have t0 := cells_re3 (w := (w.alloc (.cells #[.func (.func 35) #[] #[], .func (.func 36) #[] #[]] 48))) (a := ⟨w.heap.size, 0, none⟩) (v := .func (.func 35) #[] #[]) (by simp [go_sem])
  have t1 := cells_re3 (w := (w.alloc (.cells #[.func (.func 35) #[] #[], .func (.func 36) #[] #[]] 48))) (a := ⟨w.heap.size, 1, none⟩) (v := .func (.func 36) #[] #[]) (by simp [go_sem])
  have HBR : Hid (∀ d os, Below w.heap.size w (grow (redrawn (w.alloc (.cells #[.func (.func 35) #[] #[], .func (.func 36) #[] #[]] 48)) d) os)) := fun d os => (bel1 _ _).trans ((below_regrown _ d os).mono (by simp))
  have hlt : decide ((R.size : Int) < (m : Int)) = false := by simp; omega
  have HRB : Hid (∀ w', Below w.heap.size w w' → Calls Tryz.prog 142 #[.pointer (some ⟨u, 0, none⟩), .string (R.extract 0 m)] w' fun e w'' => e = .returned (.tuple #[.nilIface, .iface T z]) ∧ Below w'.heap.size w' w'') := fun w' hb =>
    readBytes_no u k n _ w' (by rw [hb.cell (p := ⟨u, 0, none⟩) hu]; exact c0) (by rw [hb.cell (p := ⟨u, 1, none⟩) hu]; exact c1) hok (by rw [extract_size R m hm]; omega) (by rw [extract_size R m hm]; exact hf) T z (EFv.below he hb)
  clear he hok hf
  clear htc c0 c1
  go_enter Tryz.func138, Tryz.ntmps138
  go_wp2_with fail
  refine wp_region_quiet_below (by kernel_rfl) (by kernel_rfl) ?_
  repeat (go_big_quiet_step (exact Calls.regrown_of (HTC.out _ (HBR.out _ _))))
  refine wpQuiet_nil ?_
  intro w1 hw'
  obtain ⟨⟨dq, osq⟩, hw''⟩ := hw'
  have HB1 : Hid (Below w.heap.size w w1) := by rw [hw'']; exact HBR.out _ _
  clear hw'' d0 d1 t0 t1
  go_wp2_with fail
  refine (HRB.out _ HB1.out).mono ?_
  rintro e w2 ⟨rfl, hb2⟩
  have HB2 : Hid (Below w.heap.size w w2) := HB1.out.trans (hb2.mono HB1.out.size)
  clear hb2
  go_wp2_with fail
  go_region
  all_goals
    go_wp2_with fail
    go_ret3
    exact ⟨⟨_, rfl⟩, by first | exact HB2.out | exact HB2.out.drew⟩
end Go.Proofs.YtepffjfgomhepaaGreatDoor
