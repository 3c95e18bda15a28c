/- SCALE's numbers and RLP's heads, written: contracts. -/
import Derived.Test.YtepffjfgomhepaaGreatDoorL1d
namespace Go.Proofs.YtepffjfgomhepaaGreatDoor
open Go.RowKit
set_option linter.unusedVariables false
/-- SCALE's compact number. -/
def putCompact (n : Nat) : List UInt8 := if n < 64 then leL (4 * n) 1 else if n < 16384 then leL (4 * n + 1) 2 else if n < 1073741824 then leL (4 * n + 2) 4 else leL (4 * (by8 n - 4) + 3) 1 ++ leL n (by8 n)
theorem by8_4 (n : Nat) (h : ¬ n < 1073741824) : 4 ≤ by8 n := by
  have h3 : ¬ by8 n ≤ 3 := by rw [by8_le]; omega
  omega
theorem or1_u16 (n : Nat) (h : n ≤ 16383) : bits BinOp.or IntKind.u16 ((n : Int) * 4) 1 = ((4 * n + 1 : Nat) : Int) := by
  rw [show ((n : Int) * 4) = ((4 * n : Nat) : Int) from by omega, show (1 : Int) = ((1 : Nat) : Int) from rfl, u16_or_nat _ _ (by omega) (by decide)]
  rw [nat_join 2 (4 * n) 1 (by omega) (by decide)]
theorem or2_u32 (n : Nat) (h : n ≤ 1073741823) : bits BinOp.or IntKind.u32 ((n : Int) * 4) 2 = ((4 * n + 2 : Nat) : Int) := by
  rw [show ((n : Int) * 4) = ((4 * n : Nat) : Int) from by omega, show (2 : Int) = ((2 : Nat) : Int) from rfl, u32_or_nat _ _ (by omega) (by decide)]
  rw [nat_join 2 (4 * n) 2 (by omega) (by decide)]
set_option maxRecDepth 100000 in
set_option maxHeartbeats 400000 in
theorem implPutCompact_any (n : Nat) (w : World) (hn : n < 18446744073709551616) : Calls Tryz.prog 35 #[.int .u64 n] w fun e w' => e = .returned (.string ⟨(putCompact n).toArray⟩) ∧ Below w.heap.size w w' := by
  unfold putCompact
  by_cases h1 : n < 64
  · rw [if_pos h1]
    have i1 : decide ((n : Int) < 64) = true := decide_eq_true (by omega)
    have hb0 : (n : Int) ≤ 63 := by omega
    have C := fun w => whole_u8_any (4 * n) w (by omega)
    rw [show ((4 * n : Nat) : Int) = (n : Int) * 4 from by omega] at C
    have HC : Hid _ := C
    clear h1 hn C
    generalize leL (4 * n) 1 = l at *
    go_enter Tryz.func35, Tryz.ntmps35
    go_wp2_with (go_at_call 56; refine (HC.out _).mono ?_; rintro e w' ⟨rfl, hb⟩)
    go_ret
    exact ⟨rfl, by assumption⟩
  · rw [if_neg h1]
    have i1 : decide ((n : Int) < 64) = false := decide_eq_false (by omega)
    by_cases h2 : n < 16384
    · rw [if_pos h2]
      have i2 : decide ((n : Int) < 16384) = true := decide_eq_true (by omega)
      have hb0 : (n : Int) ≤ 16383 := by omega
      have C := fun w => whole_u16_any (4 * n + 1) w (by omega)
      rw [← or1_u16 n (by omega)] at C
      have HC : Hid _ := C
      clear h1 h2 hn C
      generalize leL (4 * n + 1) 2 = l at *
      go_enter Tryz.func35, Tryz.ntmps35
      go_wp2_with (go_at_call 57; refine (HC.out _).mono ?_; rintro e w' ⟨rfl, hb⟩)
      go_ret
      exact ⟨rfl, by assumption⟩
    · rw [if_neg h2]
      have i2 : decide ((n : Int) < 16384) = false := decide_eq_false (by omega)
      by_cases h3 : n < 1073741824
      · rw [if_pos h3]
        have i3 : decide ((n : Int) < 1073741824) = true := decide_eq_true (by omega)
        have hb0 : (n : Int) ≤ 1073741823 := by omega
        have C := fun w => whole_u32_any (4 * n + 2) w (by omega)
        rw [← or2_u32 n (by omega)] at C
        have HC : Hid _ := C
        clear h1 h2 h3 hn C
        generalize leL (4 * n + 2) 4 = l at *
        go_enter Tryz.func35, Tryz.ntmps35
        go_wp2_with (go_at_call 58; refine (HC.out _).mono ?_; rintro e w' ⟨rfl, hb⟩)
        go_ret
        exact ⟨rfl, by assumption⟩
      · rw [if_neg h3]
        have i3 : decide ((n : Int) < 1073741824) = false := decide_eq_false (by omega)
        have h4 := by8_4 n h3
        have h8 := by8_8 n hn
        have HB : Hid _ := fun w => bytesOf_u64_any n w hn
        have C := fun w => lowFirst_u64_any n (by8 n) w hn h8
        have C0 := fun w => whole_u8_any (4 * (by8 n - 4) + 3) w (by omega)
        rw [show ((4 * (by8 n - 4) + 3 : Nat) : Int) = 4 * ((by8 n : Int) - 4) + 3 from by omega] at C0
        have hl := leL_len n (by8 n)
        have hl0 := leL_len (4 * (by8 n - 4) + 3) 1
        have HC : Hid _ := C
        have HC0 : Hid _ := C0
        clear h1 h2 h3 hn C C0
        generalize leL n (by8 n) = l at *
        generalize leL (4 * (by8 n - 4) + 3) 1 = l0 at *
        generalize by8 n = k at *
        go_enter Tryz.func35, Tryz.ntmps35
        go_wp2_with (first | (go_at_call 59; refine (HB.out _).mono ?_; rintro e w' ⟨rfl, rfl⟩) | (go_at_call 56; refine (HC0.out _).mono ?_; rintro e w1 ⟨rfl, hb1⟩) | (go_at_call 60; refine (HC.out _).mono ?_; rintro e w2 ⟨rfl, hb2⟩))
        go_ret
        exact ⟨by rw [← cat_list]; rfl, hb1.trans (hb2.mono hb1.size)⟩
set_option maxRecDepth 100000 in
set_option maxHeartbeats 400000 in
theorem specPutCompact_any (n : Nat) (w : World) (hn : n < 18446744073709551616) : Calls Tryz.prog 66 #[.int .u64 n] w fun e w' => e = .returned (.string ⟨(putCompact n).toArray⟩) ∧ Below w.heap.size w w' := by
  unfold putCompact
  by_cases h1 : n < 64
  · rw [if_pos h1]
    have i1 : decide ((n : Int) < 64) = true := decide_eq_true (by omega)
    have hb0 : (n : Int) ≤ 63 := by omega
    have C := fun w => l1Le_any (4 * n) 1 w (by omega) (by decide)
    rw [show ((4 * n : Nat) : Int) = 4 * (n : Int) from by omega, show ((1 : Nat) : Int) = 1 from rfl] at C
    have HC : Hid _ := C
    clear h1 hn C
    generalize leL (4 * n) 1 = l at *
    go_enter Tryz.func66, Tryz.ntmps66
    go_wp2_with (go_at_call 38; refine (HC.out _).mono ?_; rintro e w' ⟨rfl, hb⟩)
    go_ret
    exact ⟨rfl, by assumption⟩
  · rw [if_neg h1]
    have i1 : decide ((n : Int) < 64) = false := decide_eq_false (by omega)
    by_cases h2 : n < 16384
    · rw [if_pos h2]
      have i2 : decide ((n : Int) < 16384) = true := decide_eq_true (by omega)
      have hb0 : (n : Int) ≤ 16383 := by omega
      have C := fun w => l1Le_any (4 * n + 1) 2 w (by omega) (by decide)
      rw [show ((4 * n + 1 : Nat) : Int) = 4 * (n : Int) + 1 from by omega, show ((2 : Nat) : Int) = 2 from rfl] at C
      have HC : Hid _ := C
      clear h1 h2 hn C
      generalize leL (4 * n + 1) 2 = l at *
      go_enter Tryz.func66, Tryz.ntmps66
      go_wp2_with (go_at_call 38; refine (HC.out _).mono ?_; rintro e w' ⟨rfl, hb⟩)
      go_ret
      exact ⟨rfl, by assumption⟩
    · rw [if_neg h2]
      have i2 : decide ((n : Int) < 16384) = false := decide_eq_false (by omega)
      by_cases h3 : n < 1073741824
      · rw [if_pos h3]
        have i3 : decide ((n : Int) < 1073741824) = true := decide_eq_true (by omega)
        have hb0 : (n : Int) ≤ 1073741823 := by omega
        have C := fun w => l1Le_any (4 * n + 2) 4 w (by omega) (by decide)
        rw [show ((4 * n + 2 : Nat) : Int) = 4 * (n : Int) + 2 from by omega, show ((4 : Nat) : Int) = 4 from rfl] at C
        have HC : Hid _ := C
        clear h1 h2 h3 hn C
        generalize leL (4 * n + 2) 4 = l at *
        go_enter Tryz.func66, Tryz.ntmps66
        go_wp2_with (go_at_call 38; refine (HC.out _).mono ?_; rintro e w' ⟨rfl, hb⟩)
        go_ret
        exact ⟨rfl, by assumption⟩
      · rw [if_neg h3]
        have i3 : decide ((n : Int) < 1073741824) = false := decide_eq_false (by omega)
        have h4 := by8_4 n h3
        have h8 := by8_8 n hn
        have HB : Hid _ := fun w => l1Need_any n w hn
        have C := fun w => l1Le_any n (by8 n) w hn h8
        have C0 := fun w => l1Le_any (4 * (by8 n - 4) + 3) 1 w (by omega) (by decide)
        rw [show ((4 * (by8 n - 4) + 3 : Nat) : Int) = 4 * ((by8 n : Int) - 4) + 3 from by omega, show ((1 : Nat) : Int) = 1 from rfl] at C0
        have hl := leL_len n (by8 n)
        have hl0 := leL_len (4 * (by8 n - 4) + 3) 1
        have HC : Hid _ := C
        have HC0 : Hid _ := C0
        clear h1 h2 h3 hn C C0
        generalize leL n (by8 n) = l at *
        generalize leL (4 * (by8 n - 4) + 3) 1 = l0 at *
        generalize by8 n = k at *
        go_enter Tryz.func66, Tryz.ntmps66
        go_wp2_with (go_at_call 97; refine (HB.out _).mono ?_; rintro e w' ⟨rfl, rfl⟩)
        refine (HC0.out _).mono ?_
        rintro e w1 ⟨rfl, hb1⟩
        go_wp2_with fail
        refine (HC.out _).mono ?_
        rintro e w2 ⟨rfl, hb2⟩
        go_wp2
        go_ret
        exact ⟨by rw [← cat_list]; rfl, hb1.trans (hb2.mono hb1.size)⟩
/-- What stands ahead in RLP. -/
def headB (list : Bool) : Nat := if list then 192 else 128
def headL (list : Bool) (n : Nat) : List UInt8 := if n < 56 then leL (headB list + n) 1 else leL (headB list + 55 + by8 n) 1 ++ (leL n (by8 n)).reverse
def putHead (list : Bool) (n : Int) : List UInt8 := if 0 ≤ n ∧ n ≤ 65535 then headL list n.toNat else []
theorem by8_16 (n : Nat) (h : n ≤ 65535) : by8 n ≤ 2 := (by8_le n 2).2 (by omega)
theorem by8_pos (n : Nat) (h : 1 ≤ n) : 1 ≤ by8 n := by
  have h3 : ¬ by8 n ≤ 0 := by rw [by8_le]; omega
  omega
theorem headL_true_lo (n : Nat) (h : n < 56) : headL true n = leL (192 + n) 1 := by simp [headL, headB, h]
theorem headL_true_hi (n : Nat) (h : ¬ n < 56) : headL true n = leL (247 + by8 n) 1 ++ (leL n (by8 n)).reverse := by simp [headL, headB, h]
theorem headL_false_lo (n : Nat) (h : n < 56) : headL false n = leL (128 + n) 1 := by simp [headL, headB, h]
theorem headL_false_hi (n : Nat) (h : ¬ n < 56) : headL false n = leL (183 + by8 n) 1 ++ (leL n (by8 n)).reverse := by simp [headL, headB, h]
end Go.Proofs.YtepffjfgomhepaaGreatDoor
