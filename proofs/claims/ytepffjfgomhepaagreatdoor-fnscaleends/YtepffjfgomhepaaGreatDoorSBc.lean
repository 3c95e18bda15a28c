/- A number taken off a text: contract. -/
import Derived.Test.YtepffjfgomhepaaGreatDoorSBb
namespace Go.Proofs.YtepffjfgomhepaaGreatDoor
open Go.RowKit Go.Sort
set_option linter.unusedVariables false
set_option maxRecDepth 100000 in
set_option maxHeartbeats 2000000 in
theorem takeNumber_yes (k n : Int) (s : ByteArray) (w : World) (hok : tyOk k n = true) (hs : s.size ≤ 1048577) (h1 : wid k n ≤ s.size) (hf : fitsN k n (leV (s.data.toList.take (wid k n))) = true) :
    Calls Tryz.prog 137 #[.agg #[], .agg #[.int .i64 k, .int .i64 n], .string s] w fun e w' => e = .returned (.tuple #[.int .u64 (leV (s.data.toList.take (wid k n)) : Nat), .string (s.extract (wid k n) s.size), .nilIface]) ∧ Below w.heap.size w w' := by
  have hw8 := wid_le hok
  have hm : leV (s.data.toList.take (wid k n)) < 18446744073709551616 := by
    have h2 := leV_lt (s.data.toList.take (wid k n))
    have h3 : (s.data.toList.take (wid k n)).length ≤ 8 := by simp; omega
    have h4 : 2 ^ (8 * (s.data.toList.take (wid k n)).length) ≤ 2 ^ 64 := Nat.pow_le_pow_right (by decide) (by omega)
    exact Nat.lt_of_lt_of_le h2 h4
  have HW : Hid (∀ w, Calls Tryz.prog 123 #[.agg #[], .agg #[.int .i64 k, .int .i64 n]] w fun e w' => e = .returned (.int .i64 (wid k n)) ∧ Below w.heap.size w w') := fun w => width_any k n w hok
  have HRd : Hid (∀ w, Calls Tryz.prog 96 #[.string s, .int .i64 (wid k n)] w fun e w' => e = .returned (.tuple #[.int .u64 (leV (s.data.toList.take (wid k n)) : Nat), .bool true]) ∧ w' = w) := fun w => by
    have h := readLow_u64_any s (wid k n) w hw8 (by unfold maxLen; omega)
    rw [if_neg (by omega), decide_eq_true h1] at h
    exact h
  have HF : Hid (∀ w, Calls Tryz.prog 80 #[.agg #[.int .i64 k, .int .i64 n], .int .u64 (leV (s.data.toList.take (wid k n)) : Nat)] w fun e w' => e = .returned (.bool true) ∧ Below w.heap.size w w') := fun w => by rw [← hf]; exact numberFits_any k n _ w hok hm
  generalize leV (s.data.toList.take (wid k n)) = m at *
  generalize wid k n = K at *
  clear hok hf
  go_enter Tryz.func137, Tryz.ntmps137
  go_wp2_with fail
  refine (HW.out _).mono ?_
  rintro e w1 ⟨rfl, hb1⟩
  have HB1 : Hid (Below w.heap.size w w1) := (bel2 _ _ _).trans (hb1.mono (by simp; omega))
  have x0 : w1.cell? ⟨w.heap.size + 1, 0, none⟩ = some (.int .i64 k) := by rw [hb1.cell (p := ⟨w.heap.size + 1, 0, none⟩) (by simp)]; simp [go_sem]
  have x1 : w1.cell? ⟨w.heap.size + 1, 1, none⟩ = some (.int .i64 n) := by rw [hb1.cell (p := ⟨w.heap.size + 1, 1, none⟩) (by simp)]; simp [go_sem]
  clear hb1
  go_wp2_with fail
  refine (HRd.out _).mono ?_
  rintro e w2 ⟨rfl, rfl⟩
  go_wp2_with fail
  refine (HF.out _).mono ?_
  rintro e w3 ⟨rfl, hb3⟩
  have HB3 : Hid (Below w.heap.size w w3) := HB1.out.trans (hb3.mono HB1.out.size)
  clear hb3 x0 x1
  go_wp2_with fail
  go_region
  all_goals
    go_wp2_with fail
    go_ret3
    exact ⟨rfl, by first | exact HB3.out | exact HB3.out.drew⟩
set_option maxRecDepth 100000 in
set_option maxHeartbeats 2000000 in
theorem takeNumber_no (k n : Int) (s : ByteArray) (w : World) (hok : tyOk k n = true) (hs : s.size ≤ 1048577) (hf : s.size < wid k n ∨ fitsN k n (leV (s.data.toList.take (wid k n))) = false) (T : TypeId) (z : Value) (he : EFv T z w) :
    Calls Tryz.prog 137 #[.agg #[], .agg #[.int .i64 k, .int .i64 n], .string s] w fun e w' => e = .returned (.tuple #[.int .u64 0, .string ⟨#[]⟩, .iface T z]) ∧ Below w.heap.size w w' := by
  have hw8 := wid_le hok
  have HE : Hid (EFv T z w) := he
  have HW : Hid (∀ w, Calls Tryz.prog 123 #[.agg #[], .agg #[.int .i64 k, .int .i64 n]] w fun e w' => e = .returned (.int .i64 (wid k n)) ∧ Below w.heap.size w w') := fun w => width_any k n w hok
  by_cases h1 : wid k n ≤ s.size
  · have hf' := hf.resolve_left (by omega)
    have hm : leV (s.data.toList.take (wid k n)) < 18446744073709551616 := by
      have h2 := leV_lt (s.data.toList.take (wid k n))
      have h3 : (s.data.toList.take (wid k n)).length ≤ 8 := by simp; omega
      have h4 : 2 ^ (8 * (s.data.toList.take (wid k n)).length) ≤ 2 ^ 64 := Nat.pow_le_pow_right (by decide) (by omega)
      exact Nat.lt_of_lt_of_le h2 h4
    have HRd : Hid (∀ w, Calls Tryz.prog 96 #[.string s, .int .i64 (wid k n)] w fun e w' => e = .returned (.tuple #[.int .u64 (leV (s.data.toList.take (wid k n)) : Nat), .bool true]) ∧ w' = w) := fun w => by
      have h := readLow_u64_any s (wid k n) w hw8 (by unfold maxLen; omega)
      rw [if_neg (by omega), decide_eq_true h1] at h
      exact h
    have HF : Hid (∀ w, Calls Tryz.prog 80 #[.agg #[.int .i64 k, .int .i64 n], .int .u64 (leV (s.data.toList.take (wid k n)) : Nat)] w fun e w' => e = .returned (.bool false) ∧ Below w.heap.size w w') := fun w => by rw [← hf']; exact numberFits_any k n _ w hok hm
    generalize leV (s.data.toList.take (wid k n)) = m at *
    generalize wid k n = K at *
    clear hok hf he hf'
    go_enter Tryz.func137, Tryz.ntmps137
    go_wp2_with fail
    refine (HW.out _).mono ?_
    rintro e w1 ⟨rfl, hb1⟩
    have HB1 : Hid (Below w.heap.size w w1) := (bel2 _ _ _).trans (hb1.mono (by simp; omega))
    have x0 : w1.cell? ⟨w.heap.size + 1, 0, none⟩ = some (.int .i64 k) := by rw [hb1.cell (p := ⟨w.heap.size + 1, 0, none⟩) (by simp)]; simp [go_sem]
    have x1 : w1.cell? ⟨w.heap.size + 1, 1, none⟩ = some (.int .i64 n) := by rw [hb1.cell (p := ⟨w.heap.size + 1, 1, none⟩) (by simp)]; simp [go_sem]
    clear hb1
    go_wp2_with fail
    refine (HRd.out _).mono ?_
    rintro e w2 ⟨rfl, rfl⟩
    go_wp2_with fail
    refine (HF.out _).mono ?_
    rintro e w3 ⟨rfl, hb3⟩
    have HB3 : Hid (Below w.heap.size w w3) := HB1.out.trans (hb3.mono HB1.out.size)
    obtain ⟨e1, e2⟩ := EFv.below HE.out HB3.out
    clear hb3 x0 x1
    go_wp2_with fail
    go_region
    all_goals
      go_wp2_with fail
      go_ret3
      exact ⟨rfl, by first | exact HB3.out | exact HB3.out.drew⟩
  · have HRd : Hid (∀ w, Calls Tryz.prog 96 #[.string s, .int .i64 (wid k n)] w fun e w' => e = .returned (.tuple #[.int .u64 0, .bool false]) ∧ w' = w) := fun w => by
      have h := readLow_u64_any s (wid k n) w hw8 (by unfold maxLen; omega)
      rw [if_pos (by omega), decide_eq_false h1] at h
      exact h
    generalize wid k n = K at *
    clear hok hf he
    go_enter Tryz.func137, Tryz.ntmps137
    go_wp2_with fail
    refine (HW.out _).mono ?_
    rintro e w1 ⟨rfl, hb1⟩
    have HB1 : Hid (Below w.heap.size w w1) := (bel2 _ _ _).trans (hb1.mono (by simp; omega))
    clear hb1
    go_wp2_with fail
    refine (HRd.out _).mono ?_
    rintro e w2 ⟨rfl, rfl⟩
    obtain ⟨e1, e2⟩ := EFv.below HE.out HB1.out
    go_wp2_with fail
    go_region
    all_goals
      go_wp2_with fail
      go_ret3
      exact ⟨rfl, by first | exact HB1.out | exact HB1.out.drew⟩
end Go.Proofs.YtepffjfgomhepaaGreatDoor
