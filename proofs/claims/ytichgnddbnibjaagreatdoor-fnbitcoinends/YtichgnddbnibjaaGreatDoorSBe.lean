/- SBb, SBc, SBd, SBe: one text. -/
import Derived.Test.YtichgnddbnibjaaGreatDoorSBa
import Derived.Test.YtichgnddbnibjaaGreatDoorS7b
import Derived.Test.YtichgnddbnibjaaGreatDoorSAa
import Derived.Test.YtichgnddbnibjaaGreatDoorL1i
namespace Go.Proofs.YtichgnddbnibjaaGreatDoor
open Go.RowKit Go.Sort
set_option linter.unusedVariables false
theorem wd_wid (k n : Int) : wd k n = wid k n := rfl
/-- The variable that says that bytes are none of a value holds that error. -/
def EFv (T : TypeId) (z : Value) (w : World) : Prop := 1 < w.heap.size ∧ w.cell? ⟨1, 0, none⟩ = some (.iface T z)
theorem EFv.below {T : TypeId} {z : Value} {w w' : World} (h : EFv T z w) (hb : Below w.heap.size w w') : EFv T z w' :=
  ⟨by have := h.1; have := hb.size; omega, by rw [hb.cell (p := ⟨1, 0, none⟩) h.1]; exact h.2⟩
def EF (w : World) : Prop := ∃ T z, EFv T z w
theorem EF.below {w w' : World} (h : EF w) (hb : Below w.heap.size w w') : EF w' := by
  obtain ⟨T, z, h⟩ := h
  exact ⟨T, z, h.below hb⟩
set_option maxRecDepth 100000 in
set_option maxHeartbeats 2000000 in
theorem readBytes_no (u : Nat) (k n : Int) (s : ByteArray) (w : World) (c0 : w.cell? ⟨u, 0, none⟩ = some (.int .i64 k)) (c1 : w.cell? ⟨u, 1, none⟩ = some (.int .i64 n)) (hok : tyOk k n = true) (hs : s.size ≤ 1048577) (hf : fitsS k n s.size = false) (T : TypeId) (z : Value) (he : EFv T z w) :
    Calls Tryz.prog 144 #[.pointer (some ⟨u, 0, none⟩), .string s] w fun e w' => e = .returned (.tuple #[.nilIface, .iface T z]) ∧ Below w.heap.size w w' := by
  have HC : Hid (∀ w, Calls Tryz.prog 83 #[.agg #[.int .i64 k, .int .i64 n], .string s] w fun e w' => e = .returned (.bool false) ∧ Below w.heap.size w w') := fun w => by rw [← hf]; exact bytesFit_any k n s w hok hs
  have HE : Hid (EFv T z w) := he
  clear hok hs hf he
  go_enter Tryz.func144, Tryz.ntmps144
  go_wp2_with fail
  refine (HC.out _).mono ?_
  rintro e w1 ⟨rfl, hb1⟩
  obtain ⟨e1, e2⟩ := EFv.below HE.out hb1
  have HB1 : Hid (Below w.heap.size w w1) := hb1
  clear hb1
  go_wp2_with fail
  go_region
  all_goals
    go_wp2_with fail
    go_ret2
    exact ⟨rfl, by first | exact HB1.out | exact HB1.out.drew⟩
set_option maxRecDepth 100000 in
set_option maxHeartbeats 2000000 in
theorem readBytes_yes (u : Nat) (k n : Int) (s : ByteArray) (w : World) (c0 : w.cell? ⟨u, 0, none⟩ = some (.int .i64 k)) (c1 : w.cell? ⟨u, 1, none⟩ = some (.int .i64 n)) (hok : tyOk k n = true) (hs : s.size ≤ 1048577) (hf : fitsS k n s.size = true) :
    Calls Tryz.prog 144 #[.pointer (some ⟨u, 0, none⟩), .string s] w fun e w' => e = .returned (.tuple #[.iface 138 (.agg #[.pointer (some ⟨u, 0, none⟩), .string s]), .nilIface]) ∧ Below w.heap.size w w' := by
  have HC : Hid (∀ w, Calls Tryz.prog 83 #[.agg #[.int .i64 k, .int .i64 n], .string s] w fun e w' => e = .returned (.bool true) ∧ Below w.heap.size w w') := fun w => by rw [← hf]; exact bytesFit_any k n s w hok hs
  have HL : Hid (∀ w, Calls Tryz.prog 44 #[.string s] w fun e w' => e = .returned (.string s) ∧ Below w.heap.size w w') := fun w => clone_any s w (by omega)
  clear hok hs hf
  go_enter Tryz.func144, Tryz.ntmps144
  go_wp2_with fail
  refine (HC.out _).mono ?_
  rintro e w1 ⟨rfl, hb1⟩
  have HB1 : Hid (Below w.heap.size w w1) := hb1
  clear hb1
  go_wp2_with fail
  refine (HL.out _).mono ?_
  rintro e w2 ⟨rfl, hb2⟩
  have HB2 : Hid (Below w.heap.size w w2) := HB1.out.trans (hb2.mono HB1.out.size)
  clear hb2
  go_wp2_with fail
  go_ret2
  exact ⟨rfl, HB2.out⟩
end Go.Proofs.YtichgnddbnibjaaGreatDoor
namespace Go.Proofs.YtichgnddbnibjaaGreatDoor
open Go.RowKit Go.Sort
set_option linter.unusedVariables false
set_option maxRecDepth 100000 in
set_option maxHeartbeats 2000000 in
theorem takeNumber_yes (k n : Int) (s : ByteArray) (w : World) (hok : tyOk k n = true) (hs : s.size ≤ 1048577) (h1 : wid k n ≤ s.size) (hf : fitsN k n (leV (s.data.toList.take (wid k n))) = true) :
    Calls Tryz.prog 139 #[.agg #[], .agg #[.int .i64 k, .int .i64 n], .string s] w fun e w' => e = .returned (.tuple #[.int .u64 (leV (s.data.toList.take (wid k n)) : Nat), .string (s.extract (wid k n) s.size), .nilIface]) ∧ Below w.heap.size w w' := by
  have hw8 := wid_le hok
  have hm : leV (s.data.toList.take (wid k n)) < 18446744073709551616 := by
    have h2 := leV_lt (s.data.toList.take (wid k n))
    have h3 : (s.data.toList.take (wid k n)).length ≤ 8 := by simp; omega
    have h4 : 2 ^ (8 * (s.data.toList.take (wid k n)).length) ≤ 2 ^ 64 := Nat.pow_le_pow_right (by decide) (by omega)
    exact Nat.lt_of_lt_of_le h2 h4
  have HW : Hid (∀ w, Calls Tryz.prog 125 #[.agg #[], .agg #[.int .i64 k, .int .i64 n]] w fun e w' => e = .returned (.int .i64 (wid k n)) ∧ Below w.heap.size w w') := fun w => width_any k n w hok
  have HRd : Hid (∀ w, Calls Tryz.prog 108 #[.string s, .int .i64 (wid k n)] w fun e w' => e = .returned (.tuple #[.int .u64 (leV (s.data.toList.take (wid k n)) : Nat), .bool true]) ∧ w' = w) := fun w => by
    have h := readLow_u64_any s (wid k n) w hw8 (by unfold maxLen; omega)
    rw [if_neg (by omega), decide_eq_true h1] at h
    exact h
  have HF : Hid (∀ w, Calls Tryz.prog 82 #[.agg #[.int .i64 k, .int .i64 n], .int .u64 (leV (s.data.toList.take (wid k n)) : Nat)] w fun e w' => e = .returned (.bool true) ∧ Below w.heap.size w w') := fun w => by rw [← hf]; exact numberFits_any k n _ w hok hm
  generalize leV (s.data.toList.take (wid k n)) = m at *
  generalize wid k n = K at *
  clear hok hf
  go_enter Tryz.func139, Tryz.ntmps139
  go_wp2_with fail
  refine (HW.out _).mono ?_
  rintro e w1 ⟨rfl, hb1⟩
  have HB1 : Hid (Below w.heap.size w w1) := (bel2 _ _ _).trans (hb1.mono (by simp; omega))
  have x0 : w1.cell? ⟨w.heap.size + 1, 0, none⟩ = some (.int .i64 k) := by rw [hb1.cell (p := ⟨w.heap.size + 1, 0, none⟩) (by simp)]; simp [go_sem]
  have x1 : w1.cell? ⟨w.heap.size + 1, 1, none⟩ = some (.int .i64 n) := by rw [hb1.cell (p := ⟨w.heap.size + 1, 1, none⟩) (by simp)]; simp [go_sem]
  clear hb1
  go_wp2_with fail
  refine (HRd.out _).mono ?_
  rintro e w2 ⟨rfl, rfl⟩
  go_wp2_with fail
  refine (HF.out _).mono ?_
  rintro e w3 ⟨rfl, hb3⟩
  have HB3 : Hid (Below w.heap.size w w3) := HB1.out.trans (hb3.mono HB1.out.size)
  clear hb3 x0 x1
  go_wp2_with fail
  go_region
  all_goals
    go_wp2_with fail
    go_ret3
    exact ⟨rfl, by first | exact HB3.out | exact HB3.out.drew⟩
set_option maxRecDepth 100000 in
set_option maxHeartbeats 2000000 in
theorem takeNumber_no (k n : Int) (s : ByteArray) (w : World) (hok : tyOk k n = true) (hs : s.size ≤ 1048577) (hf : s.size < wid k n ∨ fitsN k n (leV (s.data.toList.take (wid k n))) = false) (T : TypeId) (z : Value) (he : EFv T z w) :
    Calls Tryz.prog 139 #[.agg #[], .agg #[.int .i64 k, .int .i64 n], .string s] w fun e w' => e = .returned (.tuple #[.int .u64 0, .string ⟨#[]⟩, .iface T z]) ∧ Below w.heap.size w w' := by
  have hw8 := wid_le hok
  have HE : Hid (EFv T z w) := he
  have HW : Hid (∀ w, Calls Tryz.prog 125 #[.agg #[], .agg #[.int .i64 k, .int .i64 n]] w fun e w' => e = .returned (.int .i64 (wid k n)) ∧ Below w.heap.size w w') := fun w => width_any k n w hok
  by_cases h1 : wid k n ≤ s.size
  · have hf' := hf.resolve_left (by omega)
    have hm : leV (s.data.toList.take (wid k n)) < 18446744073709551616 := by
      have h2 := leV_lt (s.data.toList.take (wid k n))
      have h3 : (s.data.toList.take (wid k n)).length ≤ 8 := by simp; omega
      have h4 : 2 ^ (8 * (s.data.toList.take (wid k n)).length) ≤ 2 ^ 64 := Nat.pow_le_pow_right (by decide) (by omega)
      exact Nat.lt_of_lt_of_le h2 h4
    have HRd : Hid (∀ w, Calls Tryz.prog 108 #[.string s, .int .i64 (wid k n)] w fun e w' => e = .returned (.tuple #[.int .u64 (leV (s.data.toList.take (wid k n)) : Nat), .bool true]) ∧ w' = w) := fun w => by
      have h := readLow_u64_any s (wid k n) w hw8 (by unfold maxLen; omega)
      rw [if_neg (by omega), decide_eq_true h1] at h
      exact h
    have HF : Hid (∀ w, Calls Tryz.prog 82 #[.agg #[.int .i64 k, .int .i64 n], .int .u64 (leV (s.data.toList.take (wid k n)) : Nat)] w fun e w' => e = .returned (.bool false) ∧ Below w.heap.size w w') := fun w => by rw [← hf']; exact numberFits_any k n _ w hok hm
    generalize leV (s.data.toList.take (wid k n)) = m at *
    generalize wid k n = K at *
    clear hok hf he hf'
    go_enter Tryz.func139, Tryz.ntmps139
    go_wp2_with fail
    refine (HW.out _).mono ?_
    rintro e w1 ⟨rfl, hb1⟩
    have HB1 : Hid (Below w.heap.size w w1) := (bel2 _ _ _).trans (hb1.mono (by simp; omega))
    have x0 : w1.cell? ⟨w.heap.size + 1, 0, none⟩ = some (.int .i64 k) := by rw [hb1.cell (p := ⟨w.heap.size + 1, 0, none⟩) (by simp)]; simp [go_sem]
    have x1 : w1.cell? ⟨w.heap.size + 1, 1, none⟩ = some (.int .i64 n) := by rw [hb1.cell (p := ⟨w.heap.size + 1, 1, none⟩) (by simp)]; simp [go_sem]
    clear hb1
    go_wp2_with fail
    refine (HRd.out _).mono ?_
    rintro e w2 ⟨rfl, rfl⟩
    go_wp2_with fail
    refine (HF.out _).mono ?_
    rintro e w3 ⟨rfl, hb3⟩
    have HB3 : Hid (Below w.heap.size w w3) := HB1.out.trans (hb3.mono HB1.out.size)
    obtain ⟨e1, e2⟩ := EFv.below HE.out HB3.out
    clear hb3 x0 x1
    go_wp2_with fail
    go_region
    all_goals
      go_wp2_with fail
      go_ret3
      exact ⟨rfl, by first | exact HB3.out | exact HB3.out.drew⟩
  · have HRd : Hid (∀ w, Calls Tryz.prog 108 #[.string s, .int .i64 (wid k n)] w fun e w' => e = .returned (.tuple #[.int .u64 0, .bool false]) ∧ w' = w) := fun w => by
      have h := readLow_u64_any s (wid k n) w hw8 (by unfold maxLen; omega)
      rw [if_pos (by omega), decide_eq_false h1] at h
      exact h
    generalize wid k n = K at *
    clear hok hf he
    go_enter Tryz.func139, Tryz.ntmps139
    go_wp2_with fail
    refine (HW.out _).mono ?_
    rintro e w1 ⟨rfl, hb1⟩
    have HB1 : Hid (Below w.heap.size w w1) := (bel2 _ _ _).trans (hb1.mono (by simp; omega))
    clear hb1
    go_wp2_with fail
    refine (HRd.out _).mono ?_
    rintro e w2 ⟨rfl, rfl⟩
    obtain ⟨e1, e2⟩ := EFv.below HE.out HB1.out
    go_wp2_with fail
    go_region
    all_goals
      go_wp2_with fail
      go_ret3
      exact ⟨rfl, by first | exact HB1.out | exact HB1.out.drew⟩
end Go.Proofs.YtichgnddbnibjaaGreatDoor
namespace Go.Proofs.YtichgnddbnibjaaGreatDoor
open Go.RowKit Go.Sort
set_option linter.unusedVariables false
set_option maxRecDepth 100000 in
set_option maxHeartbeats 2000000 in
theorem takeCount_flat_bc (k : Int) (n : Nat) (s : ByteArray) (w : World) (hk : ¬ (k = 3 ∨ k = 5)) (hn : n ≤ 200) :
    Calls Tryz.prog 143 #[.agg #[.func (.func 45) #[] #[], .func (.func 46) #[] #[]], .agg #[.int .i64 k, .int .i64 n], .string s] w fun e w' => e = .returned (.tuple #[.int .u64 n, .string s, .nilIface]) ∧ Below w.heap.size w w' := by
  have HC : Hid (∀ w, Calls Tryz.prog 133 #[.agg #[.int .i64 k, .int .i64 n]] w fun e w' => e = .returned (.bool false) ∧ Below w.heap.size w w') := fun w => by have h := isCounted_any k n w; rw [decide_eq_false hk] at h; exact h
  clear hk
  go_enter Tryz.func143, Tryz.ntmps143
  go_wp2_with fail
  refine (HC.out _).mono ?_
  rintro e w1 ⟨rfl, hb1⟩
  have HB1 : Hid (Below w.heap.size w w1) := (bel2 _ _ _).trans (hb1.mono (by simp; omega))
  have x1 : w1.cell? ⟨w.heap.size + 1, 1, none⟩ = some (.int .i64 n) := by rw [hb1.cell (p := ⟨w.heap.size + 1, 1, none⟩) (by simp)]; simp [go_sem]
  clear hb1
  go_wp2_with fail
  go_ret3
  exact ⟨rfl, HB1.out⟩
set_option maxRecDepth 100000 in
set_option maxHeartbeats 2000000 in
theorem takeCount_no_bc (k n : Int) (s : ByteArray) (w : World) (hk : k = 3 ∨ k = 5) (hs : s.size ≤ 1048576) (hg : (getSize s.data.toList).2.2 = false) (T : TypeId) (z : Value) (he : EFv T z w) :
    Calls Tryz.prog 143 #[.agg #[.func (.func 45) #[] #[], .func (.func 46) #[] #[]], .agg #[.int .i64 k, .int .i64 n], .string s] w fun e w' => e = .returned (.tuple #[.int .u64 0, .string ⟨#[]⟩, .iface T z]) ∧ Below w.heap.size w w' := by
  have HC : Hid (∀ w, Calls Tryz.prog 133 #[.agg #[.int .i64 k, .int .i64 n]] w fun e w' => e = .returned (.bool true) ∧ Below w.heap.size w w') := fun w => by have h := isCounted_any k n w; rw [decide_eq_true hk] at h; exact h
  obtain ⟨m, h, hmh⟩ : ∃ m h, getSize s.data.toList = (m, h, false) := ⟨(getSize s.data.toList).1, (getSize s.data.toList).2.1, by rw [← hg]⟩
  have HG : Hid (∀ w, Calls Tryz.prog 46 #[.string s] w fun e w' => e = .returned (.tuple #[.int .u64 m, .int .i64 h, .bool false]) ∧ w' = w) := fun w => by have h1 := implGetSize_any s w hs; rw [hmh] at h1; exact h1
  have HE : Hid (EFv T z w) := he
  clear hk hs hg he hmh
  go_enter Tryz.func143, Tryz.ntmps143
  go_wp2_with fail
  refine (HC.out _).mono ?_
  rintro e w1 ⟨rfl, hb1⟩
  have HB1 : Hid (Below w.heap.size w w1) := (bel2 _ _ _).trans (hb1.mono (by simp; omega))
  have x1 : w1.cell? ⟨w.heap.size, 1, none⟩ = some (.func (.func 46) #[] #[]) := by rw [hb1.cell (p := ⟨w.heap.size, 1, none⟩) (by simp; omega)]; simp [go_sem]
  clear hb1
  go_wp2_with fail
  refine (HG.out _).mono ?_
  rintro e w2 ⟨rfl, rfl⟩
  obtain ⟨e1, e2⟩ := EFv.below HE.out HB1.out
  go_wp2_with fail
  go_region
  all_goals
    go_wp2_with fail
    go_ret3
    exact ⟨rfl, by first | exact HB1.out | exact HB1.out.drew⟩
set_option maxRecDepth 100000 in
set_option maxHeartbeats 2000000 in
theorem takeCount_yes_bc (k n : Int) (m h : Nat) (s : ByteArray) (w : World) (hk : k = 3 ∨ k = 5) (hs : s.size ≤ 1048576) (hg : getSize s.data.toList = (m, h, true)) (hh : h ≤ s.size) :
    Calls Tryz.prog 143 #[.agg #[.func (.func 45) #[] #[], .func (.func 46) #[] #[]], .agg #[.int .i64 k, .int .i64 n], .string s] w fun e w' => e = .returned (.tuple #[.int .u64 m, .string (s.extract h s.size), .nilIface]) ∧ Below w.heap.size w w' := by
  have HC : Hid (∀ w, Calls Tryz.prog 133 #[.agg #[.int .i64 k, .int .i64 n]] w fun e w' => e = .returned (.bool true) ∧ Below w.heap.size w w') := fun w => by have h := isCounted_any k n w; rw [decide_eq_true hk] at h; exact h
  have HG : Hid (∀ w, Calls Tryz.prog 46 #[.string s] w fun e w' => e = .returned (.tuple #[.int .u64 m, .int .i64 h, .bool true]) ∧ w' = w) := fun w => by have h1 := implGetSize_any s w hs; rw [hg] at h1; exact h1
  clear hk hg
  go_enter Tryz.func143, Tryz.ntmps143
  go_wp2_with fail
  refine (HC.out _).mono ?_
  rintro e w1 ⟨rfl, hb1⟩
  have HB1 : Hid (Below w.heap.size w w1) := (bel2 _ _ _).trans (hb1.mono (by simp; omega))
  have x1 : w1.cell? ⟨w.heap.size, 1, none⟩ = some (.func (.func 46) #[] #[]) := by rw [hb1.cell (p := ⟨w.heap.size, 1, none⟩) (by simp; omega)]; simp [go_sem]
  clear hb1
  go_wp2_with fail
  refine (HG.out _).mono ?_
  rintro e w2 ⟨rfl, rfl⟩
  go_wp2_with fail
  go_region
  all_goals
    go_wp2_with fail
    go_ret3
    exact ⟨rfl, by first | exact HB1.out | exact HB1.out.drew⟩
end Go.Proofs.YtichgnddbnibjaaGreatDoor
namespace Go.Proofs.YtichgnddbnibjaaGreatDoor
open Go.RowKit Go.Sort
set_option linter.unusedVariables false
theorem extract_size (R : ByteArray) (m : Nat) (h : m ≤ R.size) : (R.extract 0 m).size = m := by simp; omega
set_option maxRecDepth 100000 in
set_option maxHeartbeats 2000000 in
theorem takeBytes_yes_bc (u m : Nat) (k n : Int) (s R : ByteArray) (w : World) (c0 : w.cell? ⟨u, 0, none⟩ = some (.int .i64 k)) (c1 : w.cell? ⟨u, 1, none⟩ = some (.int .i64 n)) (hu : u < w.heap.size) (hok : tyOk k n = true) (hR : R.size ≤ 1048577) (hm : m ≤ R.size) (hf : fitsS k n m = true)
    (htc : ∀ w', Below w.heap.size w w' → Calls Tryz.prog 143 #[.agg #[.func (.func 45) #[] #[], .func (.func 46) #[] #[]], .agg #[.int .i64 k, .int .i64 n], .string s] w' fun e w'' => e = .returned (.tuple #[.int .u64 m, .string R, .nilIface]) ∧ Below w'.heap.size w' w'') :
    Calls Tryz.prog 140 #[.agg #[.func (.func 45) #[] #[], .func (.func 46) #[] #[]], .pointer (some ⟨u, 0, none⟩), .string s] w fun e w' => e = .returned (.tuple #[.iface 138 (.agg #[.pointer (some ⟨u, 0, none⟩), .string (R.extract 0 m)]), .string (R.extract m R.size), .nilIface]) ∧ Below w.heap.size w w' := by
  have HTC : Hid (∀ w', Below w.heap.size w w' → Calls Tryz.prog 143 #[.agg #[.func (.func 45) #[] #[], .func (.func 46) #[] #[]], .agg #[.int .i64 k, .int .i64 n], .string s] w' fun e w'' => e = .returned (.tuple #[.int .u64 m, .string R, .nilIface]) ∧ Below w'.heap.size w' w'') := htc
  have HRB : Hid (∀ w', Below w.heap.size w w' → Calls Tryz.prog 144 #[.pointer (some ⟨u, 0, none⟩), .string (R.extract 0 m)] w' fun e w'' => e = .returned (.tuple #[.iface 138 (.agg #[.pointer (some ⟨u, 0, none⟩), .string (R.extract 0 m)]), .nilIface]) ∧ Below w'.heap.size w' w'') := fun w' hb =>
    readBytes_yes u k n _ w' (by rw [hb.cell (p := ⟨u, 0, none⟩) hu]; exact c0) (by rw [hb.cell (p := ⟨u, 1, none⟩) hu]; exact c1) hok (by rw [extract_size R m hm]; omega) (by rw [extract_size R m hm]; exact hf)
  have d0 := cells_re3 (cell_1i c0 hu (.cells #[.func (.func 45) #[] #[], .func (.func 46) #[] #[]] 54))
  have d1 := cells_re3 (cell_1i c1 hu (.cells #[.func (.func 45) #[] #[], .func (.func 46) #[] #[]] 54))
  have t0 := cells_re3 (w := (w.alloc (.cells #[.func (.func 45) #[] #[], .func (.func 46) #[] #[]] 54))) (a := ⟨w.heap.size, 0, none⟩) (v := .func (.func 45) #[] #[]) (by simp [go_sem])
  have t1 := cells_re3 (w := (w.alloc (.cells #[.func (.func 45) #[] #[], .func (.func 46) #[] #[]] 54))) (a := ⟨w.heap.size, 1, none⟩) (v := .func (.func 46) #[] #[]) (by simp [go_sem])
  have HBR : Hid (∀ d os, Below w.heap.size w (grow (redrawn (w.alloc (.cells #[.func (.func 45) #[] #[], .func (.func 46) #[] #[]] 54)) d) os)) := fun d os => (bel1 _ _).trans ((below_regrown _ d os).mono (by simp))
  have hlt : decide ((R.size : Int) < (m : Int)) = false := by simp; omega
  clear htc hok hf c0 c1
  go_enter Tryz.func140, Tryz.ntmps140
  go_wp2_with fail
  refine wp_region_quiet_below (by kernel_rfl) (by kernel_rfl) ?_
  repeat (go_big_quiet_step (exact Calls.regrown_of (HTC.out _ (HBR.out _ _))))
  refine wpQuiet_nil ?_
  intro w1 hw'
  obtain ⟨⟨dq, osq⟩, hw''⟩ := hw'
  have HB1 : Hid (Below w.heap.size w w1) := by rw [hw'']; exact HBR.out _ _
  clear hw'' d0 d1 t0 t1
  go_wp2_with fail
  refine (HRB.out _ HB1.out).mono ?_
  rintro e w2 ⟨rfl, hb2⟩
  have HB2 : Hid (Below w.heap.size w w2) := HB1.out.trans (hb2.mono HB1.out.size)
  clear hb2
  go_wp2_with fail
  go_region
  all_goals
    go_wp2_with fail
    go_ret3
    exact ⟨rfl, by first | exact HB2.out | exact HB2.out.drew⟩
set_option maxRecDepth 100000 in
set_option maxHeartbeats 2000000 in
theorem takeBytes_err_bc (u : Nat) (k n : Int) (s : ByteArray) (w : World) (c0 : w.cell? ⟨u, 0, none⟩ = some (.int .i64 k)) (c1 : w.cell? ⟨u, 1, none⟩ = some (.int .i64 n)) (hu : u < w.heap.size) (T : TypeId) (z : Value)
    (htc : ∀ w', Below w.heap.size w w' → Calls Tryz.prog 143 #[.agg #[.func (.func 45) #[] #[], .func (.func 46) #[] #[]], .agg #[.int .i64 k, .int .i64 n], .string s] w' fun e w'' => e = .returned (.tuple #[.int .u64 0, .string ⟨#[]⟩, .iface T z]) ∧ Below w'.heap.size w' w'') :
    Calls Tryz.prog 140 #[.agg #[.func (.func 45) #[] #[], .func (.func 46) #[] #[]], .pointer (some ⟨u, 0, none⟩), .string s] w fun e w' => (∃ y, e = .returned (.tuple #[.nilIface, .string y, .iface T z])) ∧ Below w.heap.size w w' := by
  have HTC : Hid (∀ w', Below w.heap.size w w' → Calls Tryz.prog 143 #[.agg #[.func (.func 45) #[] #[], .func (.func 46) #[] #[]], .agg #[.int .i64 k, .int .i64 n], .string s] w' fun e w'' => e = .returned (.tuple #[.int .u64 0, .string ⟨#[]⟩, .iface T z]) ∧ Below w'.heap.size w' w'') := htc
  have d0 := cells_re3 (cell_1i c0 hu (.cells #[.func (.func 45) #[] #[], .func (.func 46) #[] #[]] 54))
  have d1 := cells_re3 (cell_1i c1 hu (.cells #[.func (.func 45) #[] #[], .func (.func 46) #[] #[]] 54))
  have t0 := cells_re3 (w := (w.alloc (.cells #[.func (.func 45) #[] #[], .func (.func 46) #[] #[]] 54))) (a := ⟨w.heap.size, 0, none⟩) (v := .func (.func 45) #[] #[]) (by simp [go_sem])
  have t1 := cells_re3 (w := (w.alloc (.cells #[.func (.func 45) #[] #[], .func (.func 46) #[] #[]] 54))) (a := ⟨w.heap.size, 1, none⟩) (v := .func (.func 46) #[] #[]) (by simp [go_sem])
  have HBR : Hid (∀ d os, Below w.heap.size w (grow (redrawn (w.alloc (.cells #[.func (.func 45) #[] #[], .func (.func 46) #[] #[]] 54)) d) os)) := fun d os => (bel1 _ _).trans ((below_regrown _ d os).mono (by simp))
  clear htc c0 c1
  go_enter Tryz.func140, Tryz.ntmps140
  go_wp2_with fail
  refine wp_region_quiet_below (by kernel_rfl) (by kernel_rfl) ?_
  repeat (go_big_quiet_step (exact Calls.regrown_of (HTC.out _ (HBR.out _ _))))
  refine wpQuiet_nil ?_
  intro w1 hw'
  obtain ⟨⟨dq, osq⟩, hw''⟩ := hw'
  have HB1 : Hid (Below w.heap.size w w1) := by rw [hw'']; exact HBR.out _ _
  clear hw'' d0 d1 t0 t1
  go_wp2_with fail
  go_ret3
  exact ⟨⟨_, rfl⟩, HB1.out⟩
set_option maxRecDepth 100000 in
set_option maxHeartbeats 2000000 in
theorem takeBytes_short_bc (u : Nat) (k n : Int) (s : ByteArray) (w : World) (c0 : w.cell? ⟨u, 0, none⟩ = some (.int .i64 k)) (c1 : w.cell? ⟨u, 1, none⟩ = some (.int .i64 n)) (hu : u < w.heap.size) (m : Nat) (R : ByteArray) (hR : R.size ≤ 1048577) (hm : R.size < m) (hm64 : m < 18446744073709551616) (T : TypeId) (z : Value) (he : EFv T z w)
    (htc : ∀ w', Below w.heap.size w w' → Calls Tryz.prog 143 #[.agg #[.func (.func 45) #[] #[], .func (.func 46) #[] #[]], .agg #[.int .i64 k, .int .i64 n], .string s] w' fun e w'' => e = .returned (.tuple #[.int .u64 m, .string R, .nilIface]) ∧ Below w'.heap.size w' w'') :
    Calls Tryz.prog 140 #[.agg #[.func (.func 45) #[] #[], .func (.func 46) #[] #[]], .pointer (some ⟨u, 0, none⟩), .string s] w fun e w' => (∃ y, e = .returned (.tuple #[.nilIface, .string y, .iface T z])) ∧ Below w.heap.size w w' := by
  have HTC : Hid (∀ w', Below w.heap.size w w' → Calls Tryz.prog 143 #[.agg #[.func (.func 45) #[] #[], .func (.func 46) #[] #[]], .agg #[.int .i64 k, .int .i64 n], .string s] w' fun e w'' => e = .returned (.tuple #[.int .u64 m, .string R, .nilIface]) ∧ Below w'.heap.size w' w'') := htc
  have d0 := cells_re3 (cell_1i c0 hu (.cells #[.func (.func 45) #[] #[], .func (.func 46) #[] #[]] 54))
  have d1 := cells_re3 (cell_1i c1 hu (.cells #[.func (.func 45) #[] #[], .func (.func 46) #[] #[]] 54))
  have t0 := cells_re3 (w := (w.alloc (.cells #[.func (.func 45) #[] #[], .func (.func 46) #[] #[]] 54))) (a := ⟨w.heap.size, 0, none⟩) (v := .func (.func 45) #[] #[]) (by simp [go_sem])
  have t1 := cells_re3 (w := (w.alloc (.cells #[.func (.func 45) #[] #[], .func (.func 46) #[] #[]] 54))) (a := ⟨w.heap.size, 1, none⟩) (v := .func (.func 46) #[] #[]) (by simp [go_sem])
  have HBR : Hid (∀ d os, Below w.heap.size w (grow (redrawn (w.alloc (.cells #[.func (.func 45) #[] #[], .func (.func 46) #[] #[]] 54)) d) os)) := fun d os => (bel1 _ _).trans ((below_regrown _ d os).mono (by simp))
  have hlt : decide ((R.size : Int) < (m : Int)) = true := by simp; omega
  have HE : Hid (EFv T z w) := he
  clear he
  clear htc c0 c1
  go_enter Tryz.func140, Tryz.ntmps140
  go_wp2_with fail
  refine wp_region_quiet_below (by kernel_rfl) (by kernel_rfl) ?_
  repeat (go_big_quiet_step (exact Calls.regrown_of (HTC.out _ (HBR.out _ _))))
  refine wpQuiet_nil ?_
  intro w1 hw'
  obtain ⟨⟨dq, osq⟩, hw''⟩ := hw'
  have HB1 : Hid (Below w.heap.size w w1) := by rw [hw'']; exact HBR.out _ _
  clear hw'' d0 d1 t0 t1
  obtain ⟨e1, e2⟩ := EFv.below HE.out HB1.out
  go_wp2_with fail
  go_region
  all_goals
    go_wp2_with fail
    go_ret3
    exact ⟨⟨_, rfl⟩, by first | exact HB1.out | exact HB1.out.drew⟩
set_option maxRecDepth 100000 in
set_option maxHeartbeats 2000000 in
theorem takeBytes_long_bc (u : Nat) (k n : Int) (s : ByteArray) (w : World) (c0 : w.cell? ⟨u, 0, none⟩ = some (.int .i64 k)) (c1 : w.cell? ⟨u, 1, none⟩ = some (.int .i64 n)) (hu : u < w.heap.size) (m : Nat) (R : ByteArray) (hok : tyOk k n = true) (hR : R.size ≤ 1048577) (hm : m ≤ R.size) (hf : fitsS k n m = false) (T : TypeId) (z : Value) (he : EFv T z w)
    (htc : ∀ w', Below w.heap.size w w' → Calls Tryz.prog 143 #[.agg #[.func (.func 45) #[] #[], .func (.func 46) #[] #[]], .agg #[.int .i64 k, .int .i64 n], .string s] w' fun e w'' => e = .returned (.tuple #[.int .u64 m, .string R, .nilIface]) ∧ Below w'.heap.size w' w'') :
    Calls Tryz.prog 140 #[.agg #[.func (.func 45) #[] #[], .func (.func 46) #[] #[]], .pointer (some ⟨u, 0, none⟩), .string s] w fun e w' => (∃ y, e = .returned (.tuple #[.nilIface, .string y, .iface T z])) ∧ Below w.heap.size w w' := by
  have HTC : Hid (∀ w', Below w.heap.size w w' → Calls Tryz.prog 143 #[.agg #[.func (.func 45) #[] #[], .func (.func 46) #[] #[]], .agg #[.int .i64 k, .int .i64 n], .string s] w' fun e w'' => e = .returned (.tuple #[.int .u64 m, .string R, .nilIface]) ∧ Below w'.heap.size w' w'') := htc
  have d0 := cells_re3 (cell_1i c0 hu (.cells #[.func (.func 45) #[] #[], .func (.func 46) #[] #[]] 54))
  have d1 := cells_re3 (cell_1i c1 hu (.cells #[.func (.func 45) #[] #[], .func (.func 46) #[] #[]] 54))
  have t0 := cells_re3 (w := (w.alloc (.cells #[.func (.func 45) #[] #[], .func (.func 46) #[] #[]] 54))) (a := ⟨w.heap.size, 0, none⟩) (v := .func (.func 45) #[] #[]) (by simp [go_sem])
  have t1 := cells_re3 (w := (w.alloc (.cells #[.func (.func 45) #[] #[], .func (.func 46) #[] #[]] 54))) (a := ⟨w.heap.size, 1, none⟩) (v := .func (.func 46) #[] #[]) (by simp [go_sem])
  have HBR : Hid (∀ d os, Below w.heap.size w (grow (redrawn (w.alloc (.cells #[.func (.func 45) #[] #[], .func (.func 46) #[] #[]] 54)) d) os)) := fun d os => (bel1 _ _).trans ((below_regrown _ d os).mono (by simp))
  have hlt : decide ((R.size : Int) < (m : Int)) = false := by simp; omega
  have HRB : Hid (∀ w', Below w.heap.size w w' → Calls Tryz.prog 144 #[.pointer (some ⟨u, 0, none⟩), .string (R.extract 0 m)] w' fun e w'' => e = .returned (.tuple #[.nilIface, .iface T z]) ∧ Below w'.heap.size w' w'') := fun w' hb =>
    readBytes_no u k n _ w' (by rw [hb.cell (p := ⟨u, 0, none⟩) hu]; exact c0) (by rw [hb.cell (p := ⟨u, 1, none⟩) hu]; exact c1) hok (by rw [extract_size R m hm]; omega) (by rw [extract_size R m hm]; exact hf) T z (EFv.below he hb)
  clear he hok hf
  clear htc c0 c1
  go_enter Tryz.func140, Tryz.ntmps140
  go_wp2_with fail
  refine wp_region_quiet_below (by kernel_rfl) (by kernel_rfl) ?_
  repeat (go_big_quiet_step (exact Calls.regrown_of (HTC.out _ (HBR.out _ _))))
  refine wpQuiet_nil ?_
  intro w1 hw'
  obtain ⟨⟨dq, osq⟩, hw''⟩ := hw'
  have HB1 : Hid (Below w.heap.size w w1) := by rw [hw'']; exact HBR.out _ _
  clear hw'' d0 d1 t0 t1
  go_wp2_with fail
  refine (HRB.out _ HB1.out).mono ?_
  rintro e w2 ⟨rfl, hb2⟩
  have HB2 : Hid (Below w.heap.size w w2) := HB1.out.trans (hb2.mono HB1.out.size)
  clear hb2
  go_wp2_with fail
  go_region
  all_goals
    go_wp2_with fail
    go_ret3
    exact ⟨⟨_, rfl⟩, by first | exact HB2.out | exact HB2.out.drew⟩
end Go.Proofs.YtichgnddbnibjaaGreatDoor
