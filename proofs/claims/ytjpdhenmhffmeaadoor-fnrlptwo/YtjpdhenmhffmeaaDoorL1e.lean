/- SCALE's numbers and RLP's heads, written: contracts. -/
import Derived.Test.YtjpdhenmhffmeaaDoorL1d
namespace Go.Proofs.YtjpdhenmhffmeaaDoor
open Go.RowKit
set_option linter.unusedVariables false
/-- SCALE's compact number. -/
def putCompact (n : Nat) : List UInt8 := if n < 64 then leL (4 * n) 1 else if n < 16384 then leL (4 * n + 1) 2 else if n < 1073741824 then leL (4 * n + 2) 4 else leL (4 * (by8 n - 4) + 3) 1 ++ leL n (by8 n)
theorem by8_4 (n : Nat) (h : ¬ n < 1073741824) : 4 ≤ by8 n := by
  have h3 : ¬ by8 n ≤ 3 := by rw [by8_le]; omega
  omega
theorem or1_u16 (n : Nat) (h : n ≤ 16383) : bits BinOp.or IntKind.u16 ((n : Int) * 4) 1 = ((4 * n + 1 : Nat) : Int) := by
  rw [show ((n : Int) * 4) = ((4 * n : Nat) : Int) from by omega, show (1 : Int) = ((1 : Nat) : Int) from rfl, u16_or_nat _ _ (by omega) (by decide)]
  rw [nat_join 2 (4 * n) 1 (by omega) (by decide)]
theorem or2_u32 (n : Nat) (h : n ≤ 1073741823) : bits BinOp.or IntKind.u32 ((n : Int) * 4) 2 = ((4 * n + 2 : Nat) : Int) := by
  rw [show ((n : Int) * 4) = ((4 * n : Nat) : Int) from by omega, show (2 : Int) = ((2 : Nat) : Int) from rfl, u32_or_nat _ _ (by omega) (by decide)]
  rw [nat_join 2 (4 * n) 2 (by omega) (by decide)]
/-- What stands ahead in RLP. -/
def headB (list : Bool) : Nat := if list then 192 else 128
def headL (list : Bool) (n : Nat) : List UInt8 := if n < 56 then leL (headB list + n) 1 else leL (headB list + 55 + by8 n) 1 ++ (leL n (by8 n)).reverse
def putHead (list : Bool) (n : Int) : List UInt8 := if 0 ≤ n ∧ n ≤ 65535 then headL list n.toNat else []
theorem headBase_true (w : World) : Calls Tryd.prog 22 #[.bool true] w fun e w' => e = .returned (.int .u8 192) ∧ w' = w := by
  go_enter Tryd.func22, Tryd.ntmps22
  go_wp2
  go_ret
  exact ⟨rfl, rfl⟩
theorem headBase_false (w : World) : Calls Tryd.prog 22 #[.bool false] w fun e w' => e = .returned (.int .u8 128) ∧ w' = w := by
  go_enter Tryd.func22, Tryd.ntmps22
  go_wp2
  go_ret
  exact ⟨rfl, rfl⟩
theorem by8_16 (n : Nat) (h : n ≤ 65535) : by8 n ≤ 2 := (by8_le n 2).2 (by omega)
theorem by8_pos (n : Nat) (h : 1 ≤ n) : 1 ≤ by8 n := by
  have h3 : ¬ by8 n ≤ 0 := by rw [by8_le]; omega
  omega
theorem headL_true_lo (n : Nat) (h : n < 56) : headL true n = leL (192 + n) 1 := by simp [headL, headB, h]
theorem headL_true_hi (n : Nat) (h : ¬ n < 56) : headL true n = leL (247 + by8 n) 1 ++ (leL n (by8 n)).reverse := by simp [headL, headB, h]
theorem headL_false_lo (n : Nat) (h : n < 56) : headL false n = leL (128 + n) 1 := by simp [headL, headB, h]
theorem headL_false_hi (n : Nat) (h : ¬ n < 56) : headL false n = leL (183 + by8 n) 1 ++ (leL n (by8 n)).reverse := by simp [headL, headB, h]
set_option maxRecDepth 100000 in
set_option maxHeartbeats 400000 in
theorem implPutHead_true (n : Nat) (w : World) (hn : n ≤ 65535) : Calls Tryd.prog 11 #[.bool true, .int .i64 n] w fun e w' => e = .returned (.string ⟨(headL true n).toArray⟩) ∧ Below w.heap.size w w' := by
  have i1 : decide ((n : Int) < 0) = false := decide_eq_false (by omega)
  have i2 : decide (65535 < (n : Int)) = false := decide_eq_false (by omega)
  by_cases h : n < 56
  · rw [headL_true_lo n h]
    have i3 : decide ((n : Int) < 56) = true := decide_eq_true (by omega)
    have hb0 : (n : Int) ≤ 55 := by omega
    have C := fun w => whole_u8_any (192 + n) w (by omega)
    rw [show ((192 + n : Nat) : Int) = 192 + (n : Int) from by omega] at C
    have HC : Hid _ := C
    clear h hn C
    generalize leL (192 + n) 1 = l at *
    go_enter Tryd.func11, Tryd.ntmps11
    go_wp2_with (first | (go_at_call 22; refine (headBase_true _).mono ?_; rintro e w' ⟨rfl, rfl⟩) | (go_at_call 23; refine (HC.out _).mono ?_; rintro e w1 ⟨rfl, hb1⟩))
    go_ret
    exact ⟨rfl, by assumption⟩
  · rw [headL_true_hi n h]
    have i3 : decide ((n : Int) < 56) = false := decide_eq_false (by omega)
    have hb0 : (n : Int) ≤ 65535 := by omega
    have h1 := by8_pos n (by omega)
    have h2 := by8_16 n hn
    have HB : Hid _ := fun w => bytesOf_u16_any n w (by omega)
    have HC : Hid _ := fun w => highFirst_u16_any n (by8 n) w (by omega) h2
    have C0 := fun w => whole_u8_any (247 + by8 n) w (by omega)
    rw [show ((247 + by8 n : Nat) : Int) = 247 + (by8 n : Int) from by omega] at C0
    have HC0 : Hid _ := C0
    have hl := leL_len n (by8 n)
    have hr : (leL n (by8 n)).reverse.length = by8 n := by rw [List.length_reverse, hl]
    have hl0 := leL_len (247 + by8 n) 1
    clear h hn C0 hl
    generalize (leL n (by8 n)).reverse = l at *
    generalize leL (247 + by8 n) 1 = l0 at *
    generalize by8 n = k at *
    go_enter Tryd.func11, Tryd.ntmps11
    go_wp2_with (first | (go_at_call 22; refine (headBase_true _).mono ?_; rintro e w' ⟨rfl, rfl⟩) | (go_at_call 24; refine (HB.out _).mono ?_; rintro e w' ⟨rfl, rfl⟩) | (go_at_call 23; refine (HC0.out _).mono ?_; rintro e w1 ⟨rfl, hb1⟩) | (go_at_call 25; refine (HC.out _).mono ?_; rintro e w2 ⟨rfl, hb2⟩))
    go_ret
    exact ⟨by rw [← cat_list]; rfl, hb1.trans (hb2.mono hb1.size)⟩
set_option maxRecDepth 100000 in
set_option maxHeartbeats 400000 in
theorem implPutHead_false (n : Nat) (w : World) (hn : n ≤ 65535) : Calls Tryd.prog 11 #[.bool false, .int .i64 n] w fun e w' => e = .returned (.string ⟨(headL false n).toArray⟩) ∧ Below w.heap.size w w' := by
  have i1 : decide ((n : Int) < 0) = false := decide_eq_false (by omega)
  have i2 : decide (65535 < (n : Int)) = false := decide_eq_false (by omega)
  by_cases h : n < 56
  · rw [headL_false_lo n h]
    have i3 : decide ((n : Int) < 56) = true := decide_eq_true (by omega)
    have hb0 : (n : Int) ≤ 55 := by omega
    have C := fun w => whole_u8_any (128 + n) w (by omega)
    rw [show ((128 + n : Nat) : Int) = 128 + (n : Int) from by omega] at C
    have HC : Hid _ := C
    clear h hn C
    generalize leL (128 + n) 1 = l at *
    go_enter Tryd.func11, Tryd.ntmps11
    go_wp2_with (first | (go_at_call 22; refine (headBase_false _).mono ?_; rintro e w' ⟨rfl, rfl⟩) | (go_at_call 23; refine (HC.out _).mono ?_; rintro e w1 ⟨rfl, hb1⟩))
    go_ret
    exact ⟨rfl, by assumption⟩
  · rw [headL_false_hi n h]
    have i3 : decide ((n : Int) < 56) = false := decide_eq_false (by omega)
    have hb0 : (n : Int) ≤ 65535 := by omega
    have h1 := by8_pos n (by omega)
    have h2 := by8_16 n hn
    have HB : Hid _ := fun w => bytesOf_u16_any n w (by omega)
    have HC : Hid _ := fun w => highFirst_u16_any n (by8 n) w (by omega) h2
    have C0 := fun w => whole_u8_any (183 + by8 n) w (by omega)
    rw [show ((183 + by8 n : Nat) : Int) = 183 + (by8 n : Int) from by omega] at C0
    have HC0 : Hid _ := C0
    have hl := leL_len n (by8 n)
    have hr : (leL n (by8 n)).reverse.length = by8 n := by rw [List.length_reverse, hl]
    have hl0 := leL_len (183 + by8 n) 1
    clear h hn C0 hl
    generalize (leL n (by8 n)).reverse = l at *
    generalize leL (183 + by8 n) 1 = l0 at *
    generalize by8 n = k at *
    go_enter Tryd.func11, Tryd.ntmps11
    go_wp2_with (first | (go_at_call 22; refine (headBase_false _).mono ?_; rintro e w' ⟨rfl, rfl⟩) | (go_at_call 24; refine (HB.out _).mono ?_; rintro e w' ⟨rfl, rfl⟩) | (go_at_call 23; refine (HC0.out _).mono ?_; rintro e w1 ⟨rfl, hb1⟩) | (go_at_call 25; refine (HC.out _).mono ?_; rintro e w2 ⟨rfl, hb2⟩))
    go_ret
    exact ⟨by rw [← cat_list]; rfl, hb1.trans (hb2.mono hb1.size)⟩
set_option maxRecDepth 100000 in
set_option maxHeartbeats 400000 in
theorem implPutHead_any (list : Bool) (n : Int) (w : World) : Calls Tryd.prog 11 #[.bool list, .int .i64 n] w fun e w' => e = .returned (.string ⟨(putHead list n).toArray⟩) ∧ Below w.heap.size w w' := by
  unfold putHead
  by_cases h : 0 ≤ n ∧ n ≤ 65535
  · rw [if_pos h]
    obtain ⟨m, rfl⟩ := Int.eq_ofNat_of_zero_le h.1
    rw [Int.toNat_natCast]
    cases list
    · exact implPutHead_false m w (by omega)
    · exact implPutHead_true m w (by omega)
  · rw [if_neg h]
    by_cases h0 : n < 0
    · have i1 : decide (n < 0) = true := decide_eq_true h0
      clear h h0
      go_enter Tryd.func11, Tryd.ntmps11
      go_wp2
      go_ret
      exact ⟨rfl, Below.refl _ _⟩
    · have i1 : decide (n < 0) = false := decide_eq_false h0
      have i2 : decide (65535 < n) = true := decide_eq_true (by omega)
      clear h h0
      go_enter Tryd.func11, Tryd.ntmps11
      go_wp2
      go_ret
      exact ⟨rfl, Below.refl _ _⟩
set_option maxRecDepth 100000 in
set_option maxHeartbeats 400000 in
theorem l1Head_true (n : Nat) (w : World) (hn : n ≤ 65535) : Calls Tryd.prog 45 #[.bool true, .int .i64 n] w fun e w' => e = .returned (.string ⟨(headL true n).toArray⟩) ∧ Below w.heap.size w w' := by
  by_cases h : n < 56
  · rw [headL_true_lo n h]
    have i3 : decide ((n : Int) < 56) = true := decide_eq_true (by omega)
    have hb0 : (n : Int) ≤ 55 := by omega
    have C := fun w => l1Le_any (192 + n) 1 w (by omega) (by decide)
    rw [show ((192 + n : Nat) : Int) = 192 + (n : Int) from by omega, show ((1 : Nat) : Int) = 1 from rfl] at C
    have HC : Hid _ := C
    clear h hn C
    generalize leL (192 + n) 1 = l at *
    go_enter Tryd.func45, Tryd.ntmps45
    go_wp2_with (go_at_call 49; refine (HC.out _).mono ?_; rintro e w1 ⟨rfl, hb1⟩)
    go_ret
    exact ⟨rfl, by assumption⟩
  · rw [headL_true_hi n h]
    have i3 : decide ((n : Int) < 56) = false := decide_eq_false (by omega)
    have hb0 : (n : Int) ≤ 65535 := by omega
    have h1 := by8_pos n (by omega)
    have h2 := by8_16 n hn
    have HB : Hid _ := fun w => l1Need_any n w (by omega)
    have HC : Hid _ := fun w => l1Le_any n (by8 n) w (by omega) (by omega)
    have C0 := fun w => l1Le_any (247 + by8 n) 1 w (by omega) (by decide)
    rw [show ((247 + by8 n : Nat) : Int) = 247 + (by8 n : Int) from by omega, show ((1 : Nat) : Int) = 1 from rfl] at C0
    have HC0 : Hid _ := C0
    have hl := leL_len n (by8 n)
    have hz : (⟨(leL n (by8 n)).toArray⟩ : ByteArray).size ≤ 1048576 := by simp [ByteArray.size, hl]; omega
    have HR : Hid _ := fun w => l1Back_any ⟨(leL n (by8 n)).toArray⟩ w hz
    have hl0 := leL_len (247 + by8 n) 1
    clear h hn C0 hz
    generalize leL n (by8 n) = l at *
    generalize leL (247 + by8 n) 1 = l0 at *
    generalize by8 n = k at *
    go_enter Tryd.func45, Tryd.ntmps45
    go_wp2_with (go_at_call 67; refine (HB.out _).mono ?_; rintro e w' ⟨rfl, rfl⟩)
    refine (HC0.out _).mono ?_
    rintro e w1 ⟨rfl, hb1⟩
    go_wp2_with fail
    refine (HC.out _).mono ?_
    rintro e w2 ⟨rfl, hb2⟩
    go_wp2_with (go_at_call 66; refine (HR.out _).mono ?_; rintro e w3 ⟨rfl, hb3⟩)
    go_ret
    exact ⟨by rw [← cat_list]; rfl, (hb1.trans (hb2.mono hb1.size)).trans (hb3.mono (Nat.le_trans hb1.size hb2.size))⟩
set_option maxRecDepth 100000 in
set_option maxHeartbeats 400000 in
theorem l1Head_false (n : Nat) (w : World) (hn : n ≤ 65535) : Calls Tryd.prog 45 #[.bool false, .int .i64 n] w fun e w' => e = .returned (.string ⟨(headL false n).toArray⟩) ∧ Below w.heap.size w w' := by
  by_cases h : n < 56
  · rw [headL_false_lo n h]
    have i3 : decide ((n : Int) < 56) = true := decide_eq_true (by omega)
    have hb0 : (n : Int) ≤ 55 := by omega
    have C := fun w => l1Le_any (128 + n) 1 w (by omega) (by decide)
    rw [show ((128 + n : Nat) : Int) = 128 + (n : Int) from by omega, show ((1 : Nat) : Int) = 1 from rfl] at C
    have HC : Hid _ := C
    clear h hn C
    generalize leL (128 + n) 1 = l at *
    go_enter Tryd.func45, Tryd.ntmps45
    go_wp2_with (go_at_call 49; refine (HC.out _).mono ?_; rintro e w1 ⟨rfl, hb1⟩)
    go_ret
    exact ⟨rfl, by assumption⟩
  · rw [headL_false_hi n h]
    have i3 : decide ((n : Int) < 56) = false := decide_eq_false (by omega)
    have hb0 : (n : Int) ≤ 65535 := by omega
    have h1 := by8_pos n (by omega)
    have h2 := by8_16 n hn
    have HB : Hid _ := fun w => l1Need_any n w (by omega)
    have HC : Hid _ := fun w => l1Le_any n (by8 n) w (by omega) (by omega)
    have C0 := fun w => l1Le_any (183 + by8 n) 1 w (by omega) (by decide)
    rw [show ((183 + by8 n : Nat) : Int) = 183 + (by8 n : Int) from by omega, show ((1 : Nat) : Int) = 1 from rfl] at C0
    have HC0 : Hid _ := C0
    have hl := leL_len n (by8 n)
    have hz : (⟨(leL n (by8 n)).toArray⟩ : ByteArray).size ≤ 1048576 := by simp [ByteArray.size, hl]; omega
    have HR : Hid _ := fun w => l1Back_any ⟨(leL n (by8 n)).toArray⟩ w hz
    have hl0 := leL_len (183 + by8 n) 1
    clear h hn C0 hz
    generalize leL n (by8 n) = l at *
    generalize leL (183 + by8 n) 1 = l0 at *
    generalize by8 n = k at *
    go_enter Tryd.func45, Tryd.ntmps45
    go_wp2_with (go_at_call 67; refine (HB.out _).mono ?_; rintro e w' ⟨rfl, rfl⟩)
    refine (HC0.out _).mono ?_
    rintro e w1 ⟨rfl, hb1⟩
    go_wp2_with fail
    refine (HC.out _).mono ?_
    rintro e w2 ⟨rfl, hb2⟩
    go_wp2_with (go_at_call 66; refine (HR.out _).mono ?_; rintro e w3 ⟨rfl, hb3⟩)
    go_ret
    exact ⟨by rw [← cat_list]; rfl, (hb1.trans (hb2.mono hb1.size)).trans (hb3.mono (Nat.le_trans hb1.size hb2.size))⟩
theorem l1Head_any (list : Bool) (n : Nat) (w : World) (hn : n ≤ 65535) : Calls Tryd.prog 45 #[.bool list, .int .i64 n] w fun e w' => e = .returned (.string ⟨(headL list n).toArray⟩) ∧ Below w.heap.size w w' := by
  cases list
  · exact l1Head_false n w hn
  · exact l1Head_true n w hn
end Go.Proofs.YtjpdhenmhffmeaaDoor
