/- The specification's exported functions on schemas. -/
import Derived.Test.YtepffjfgomhepaaGreatDoorS2b
namespace Go.Proofs.YtepffjfgomhepaaGreatDoor
open Go.RowKit
set_option linter.unusedVariables false
theorem schOk_big {ts : List (Int × Int)} (h : 40 < ts.length) : schOk ts = false := by simp [schOk]; omega
theorem schOk_no {ts : List (Int × Int)} (h : en ts 7 0 = none) : schOk ts = false := by simp [schOk, h]
theorem schOk_end {ts : List (Int × Int)} {e : Nat} (h40 : ts.length ≤ 40) (h : en ts 7 0 = some e) : schOk ts = decide (e = ts.length) := by
  by_cases e1 : e = ts.length <;> simp [schOk, h, h40, e1]
theorem schOk_inv {ts : List (Int × Int)} (h : schOk ts = true) : ts.length ≤ 40 ∧ en ts 7 0 = some ts.length := by simpa [schOk] using h
set_option maxHeartbeats 400000 in
theorem specSchemaOk_any (ts : List (Int × Int)) (v : Value) (w : World) (hv : IsTyps w.heap.size w v ts) : Calls Tryz.prog 27 #[v] w fun e w' => e = .returned (.bool (schOk ts)) ∧ Below w.heap.size w w' := by
  have HV : Hid (IsTyps w.heap.size w v ts) := hv
  obtain ⟨ad, cap, rfl, h1, h2, h3⟩ := hv.form
  clear h3 hv
  by_cases h40 : 40 < ts.length
  · rw [schOk_big h40]
    go_enter Tryz.func27, Tryz.ntmps27
    go_wp2_with fail
    go_ret
    exact ⟨rfl, Below.refl _ _⟩
  · have hd : decide ((40 : Int) < ts.length) = false := by simp; omega
    go_enter Tryz.func27, Tryz.ntmps27
    go_wp2_with fail
    refine (l2End_any ts 7 0 0 _ w (by omega) (by omega) (by omega) HV.out).mono ?_
    rintro e w1 ⟨rfl, hb⟩
    cases he : en ts 7 0 with
    | none =>
      rw [endRes_none he]
      have HR : Hid (schOk ts = false) := schOk_no he
      clear he
      have hn : ((-1 : Int) == (ts.length : Int)) = false := beqF (by omega)
      go_wp2_with fail
      go_ret
      exact ⟨by rw [HR.out]; try rfl, hb⟩
    | some x =>
      rw [endRes_some he]
      have HR : Hid (schOk ts = decide (x = ts.length)) := schOk_end (by omega) he
      clear he
      go_wp2_with fail
      go_ret
      exact ⟨by rw [HR.out]; exact ret_b (by simp [beq_dec]; omega), hb⟩
theorem endOf_out {ts : List (Int × Int)} {a : Int} (h : ¬ (0 ≤ a ∧ a < ts.length)) : endOf ts a = -1 := by
  unfold endOf; rw [if_neg]; simp only [Bool.and_eq_true, decide_eq_true_eq]; omega
theorem endOf_no {ts : List (Int × Int)} {a : Int} (h : schOk ts = false) : endOf ts a = -1 := by simp [endOf, h]
theorem endOf_in {ts : List (Int × Int)} {a : Nat} (hs : schOk ts = true) (h : a < ts.length) : endOf ts a = (((en ts 7 a).map Int.ofNat).getD (-1)) := by
  have e : decide ((0 : Int) ≤ a ∧ (a : Int) < ts.length) = true := by simp; exact h
  unfold endOf; rw [hs, e, Bool.and_self, if_pos rfl, Int.toNat_natCast]
set_option maxHeartbeats 400000 in
theorem l2Skip_any (ts : List (Int × Int)) (a : Nat) (v : Value) (w : World) (ha : a ≤ 1048577) (hv : IsTyps w.heap.size w v ts) : Calls Tryz.prog 67 #[v, .int .i64 a] w fun e w' => e = .returned (.int .i64 (((en ts 7 a).map Int.ofNat).getD (-1))) ∧ Below w.heap.size w w' := by
  have HV : Hid (IsTyps w.heap.size w v ts) := hv
  clear hv
  cases he : en ts 7 a with
  | none =>
    have HC : Hid (endRes ts 7 a = .tuple #[.int .i64 (-1), .int .i64 0]) := endRes_none he
    clear he
    go_enter Tryz.func67, Tryz.ntmps67
    go_wp2_with fail
    refine (l2End_any ts 7 a 0 _ w (by omega) (by omega) ha HV.out).mono ?_
    rintro e w1 ⟨rfl, hb⟩
    rw [HC.out]
    go_wp2_with fail
    go_ret
    exact ⟨rfl, hb⟩
  | some x =>
    have HC : Hid (endRes ts 7 a = .tuple #[.int .i64 x, .int .i64 (dp ts 7 a)]) := endRes_some he
    clear he
    go_enter Tryz.func67, Tryz.ntmps67
    go_wp2_with fail
    refine (l2End_any ts 7 a 0 _ w (by omega) (by omega) ha HV.out).mono ?_
    rintro e w1 ⟨rfl, hb⟩
    rw [HC.out]
    go_wp2_with fail
    go_ret
    exact ⟨rfl, hb⟩
end Go.Proofs.YtepffjfgomhepaaGreatDoor
