/- A count taken off a text: contract. -/
import Derived.Test.YtepffjfgomhepaaGreatDoorSBc
import Derived.Test.YtepffjfgomhepaaGreatDoorL1h
import Derived.Test.YtepffjfgomhepaaGreatDoorL1g
namespace Go.Proofs.YtepffjfgomhepaaGreatDoor
open Go.RowKit Go.Sort
set_option linter.unusedVariables false
set_option maxRecDepth 100000 in
set_option maxHeartbeats 2000000 in
theorem takeCount_flat_sc (k : Int) (n : Nat) (s : ByteArray) (w : World) (hk : ¬ (k = 3 ∨ k = 5)) (hn : n ≤ 200) :
    Calls Tryz.prog 141 #[.agg #[.func (.func 35) #[] #[], .func (.func 36) #[] #[]], .agg #[.int .i64 k, .int .i64 n], .string s] w fun e w' => e = .returned (.tuple #[.int .u64 n, .string s, .nilIface]) ∧ Below w.heap.size w w' := by
  have HC : Hid (∀ w, Calls Tryz.prog 131 #[.agg #[.int .i64 k, .int .i64 n]] w fun e w' => e = .returned (.bool false) ∧ Below w.heap.size w w') := fun w => by have h := isCounted_any k n w; rw [decide_eq_false hk] at h; exact h
  clear hk
  go_enter Tryz.func141, Tryz.ntmps141
  go_wp2_with fail
  refine (HC.out _).mono ?_
  rintro e w1 ⟨rfl, hb1⟩
  have HB1 : Hid (Below w.heap.size w w1) := (bel2 _ _ _).trans (hb1.mono (by simp; omega))
  have x1 : w1.cell? ⟨w.heap.size + 1, 1, none⟩ = some (.int .i64 n) := by rw [hb1.cell (p := ⟨w.heap.size + 1, 1, none⟩) (by simp)]; simp [go_sem]
  clear hb1
  go_wp2_with fail
  go_ret3
  exact ⟨rfl, HB1.out⟩
set_option maxRecDepth 100000 in
set_option maxHeartbeats 2000000 in
theorem takeCount_no_sc (k n : Int) (s : ByteArray) (w : World) (hk : k = 3 ∨ k = 5) (hs : s.size ≤ 1048576) (hg : (getCompact s.data.toList).2.2 = false) (T : TypeId) (z : Value) (he : EFv T z w) :
    Calls Tryz.prog 141 #[.agg #[.func (.func 35) #[] #[], .func (.func 36) #[] #[]], .agg #[.int .i64 k, .int .i64 n], .string s] w fun e w' => e = .returned (.tuple #[.int .u64 0, .string ⟨#[]⟩, .iface T z]) ∧ Below w.heap.size w w' := by
  have HC : Hid (∀ w, Calls Tryz.prog 131 #[.agg #[.int .i64 k, .int .i64 n]] w fun e w' => e = .returned (.bool true) ∧ Below w.heap.size w w') := fun w => by have h := isCounted_any k n w; rw [decide_eq_true hk] at h; exact h
  obtain ⟨m, h, hmh⟩ : ∃ m h, getCompact s.data.toList = (m, h, false) := ⟨(getCompact s.data.toList).1, (getCompact s.data.toList).2.1, by rw [← hg]⟩
  have HG : Hid (∀ w, Calls Tryz.prog 36 #[.string s] w fun e w' => e = .returned (.tuple #[.int .u64 m, .int .i64 h, .bool false]) ∧ w' = w) := fun w => by have h1 := implGetCompact_any s w hs; rw [hmh] at h1; exact h1
  have HE : Hid (EFv T z w) := he
  clear hk hs hg he hmh
  go_enter Tryz.func141, Tryz.ntmps141
  go_wp2_with fail
  refine (HC.out _).mono ?_
  rintro e w1 ⟨rfl, hb1⟩
  have HB1 : Hid (Below w.heap.size w w1) := (bel2 _ _ _).trans (hb1.mono (by simp; omega))
  have x1 : w1.cell? ⟨w.heap.size, 1, none⟩ = some (.func (.func 36) #[] #[]) := by rw [hb1.cell (p := ⟨w.heap.size, 1, none⟩) (by simp; omega)]; simp [go_sem]
  clear hb1
  go_wp2_with fail
  refine (HG.out _).mono ?_
  rintro e w2 ⟨rfl, rfl⟩
  obtain ⟨e1, e2⟩ := EFv.below HE.out HB1.out
  go_wp2_with fail
  go_region
  all_goals
    go_wp2_with fail
    go_ret3
    exact ⟨rfl, by first | exact HB1.out | exact HB1.out.drew⟩
set_option maxRecDepth 100000 in
set_option maxHeartbeats 2000000 in
theorem takeCount_yes_sc (k n : Int) (m h : Nat) (s : ByteArray) (w : World) (hk : k = 3 ∨ k = 5) (hs : s.size ≤ 1048576) (hg : getCompact s.data.toList = (m, h, true)) (hh : h ≤ s.size) :
    Calls Tryz.prog 141 #[.agg #[.func (.func 35) #[] #[], .func (.func 36) #[] #[]], .agg #[.int .i64 k, .int .i64 n], .string s] w fun e w' => e = .returned (.tuple #[.int .u64 m, .string (s.extract h s.size), .nilIface]) ∧ Below w.heap.size w w' := by
  have HC : Hid (∀ w, Calls Tryz.prog 131 #[.agg #[.int .i64 k, .int .i64 n]] w fun e w' => e = .returned (.bool true) ∧ Below w.heap.size w w') := fun w => by have h := isCounted_any k n w; rw [decide_eq_true hk] at h; exact h
  have HG : Hid (∀ w, Calls Tryz.prog 36 #[.string s] w fun e w' => e = .returned (.tuple #[.int .u64 m, .int .i64 h, .bool true]) ∧ w' = w) := fun w => by have h1 := implGetCompact_any s w hs; rw [hg] at h1; exact h1
  clear hk hg
  go_enter Tryz.func141, Tryz.ntmps141
  go_wp2_with fail
  refine (HC.out _).mono ?_
  rintro e w1 ⟨rfl, hb1⟩
  have HB1 : Hid (Below w.heap.size w w1) := (bel2 _ _ _).trans (hb1.mono (by simp; omega))
  have x1 : w1.cell? ⟨w.heap.size, 1, none⟩ = some (.func (.func 36) #[] #[]) := by rw [hb1.cell (p := ⟨w.heap.size, 1, none⟩) (by simp; omega)]; simp [go_sem]
  clear hb1
  go_wp2_with fail
  refine (HG.out _).mono ?_
  rintro e w2 ⟨rfl, rfl⟩
  go_wp2_with fail
  go_region
  all_goals
    go_wp2_with fail
    go_ret3
    exact ⟨rfl, by first | exact HB1.out | exact HB1.out.drew⟩
end Go.Proofs.YtepffjfgomhepaaGreatDoor
