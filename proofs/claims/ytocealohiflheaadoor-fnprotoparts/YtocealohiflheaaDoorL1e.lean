/- SCALE's numbers and RLP's heads, written: contracts. -/
import Derived.Test.YtocealohiflheaaDoorL1d
namespace Go.Proofs.YtocealohiflheaaDoor
open Go.RowKit
set_option linter.unusedVariables false
/-- SCALE's compact number. -/
def putCompact (n : Nat) : List UInt8 := if n < 64 then leL (4 * n) 1 else if n < 16384 then leL (4 * n + 1) 2 else if n < 1073741824 then leL (4 * n + 2) 4 else leL (4 * (by8 n - 4) + 3) 1 ++ leL n (by8 n)
theorem by8_4 (n : Nat) (h : ¬ n < 1073741824) : 4 ≤ by8 n := by
  have h3 : ¬ by8 n ≤ 3 := by rw [by8_le]; omega
  omega
theorem or1_u16 (n : Nat) (h : n ≤ 16383) : bits BinOp.or IntKind.u16 ((n : Int) * 4) 1 = ((4 * n + 1 : Nat) : Int) := by
  rw [show ((n : Int) * 4) = ((4 * n : Nat) : Int) from by omega, show (1 : Int) = ((1 : Nat) : Int) from rfl, u16_or_nat _ _ (by omega) (by decide)]
  rw [nat_join 2 (4 * n) 1 (by omega) (by decide)]
theorem or2_u32 (n : Nat) (h : n ≤ 1073741823) : bits BinOp.or IntKind.u32 ((n : Int) * 4) 2 = ((4 * n + 2 : Nat) : Int) := by
  rw [show ((n : Int) * 4) = ((4 * n : Nat) : Int) from by omega, show (2 : Int) = ((2 : Nat) : Int) from rfl, u32_or_nat _ _ (by omega) (by decide)]
  rw [nat_join 2 (4 * n) 2 (by omega) (by decide)]
/-- What stands ahead in RLP. -/
def headB (list : Bool) : Nat := if list then 192 else 128
def headL (list : Bool) (n : Nat) : List UInt8 := if n < 56 then leL (headB list + n) 1 else leL (headB list + 55 + by8 n) 1 ++ (leL n (by8 n)).reverse
def putHead (list : Bool) (n : Int) : List UInt8 := if 0 ≤ n ∧ n ≤ 65535 then headL list n.toNat else []
theorem by8_16 (n : Nat) (h : n ≤ 65535) : by8 n ≤ 2 := (by8_le n 2).2 (by omega)
theorem by8_pos (n : Nat) (h : 1 ≤ n) : 1 ≤ by8 n := by
  have h3 : ¬ by8 n ≤ 0 := by rw [by8_le]; omega
  omega
theorem headL_true_lo (n : Nat) (h : n < 56) : headL true n = leL (192 + n) 1 := by simp [headL, headB, h]
theorem headL_true_hi (n : Nat) (h : ¬ n < 56) : headL true n = leL (247 + by8 n) 1 ++ (leL n (by8 n)).reverse := by simp [headL, headB, h]
theorem headL_false_lo (n : Nat) (h : n < 56) : headL false n = leL (128 + n) 1 := by simp [headL, headB, h]
theorem headL_false_hi (n : Nat) (h : ¬ n < 56) : headL false n = leL (183 + by8 n) 1 ++ (leL n (by8 n)).reverse := by simp [headL, headB, h]
end Go.Proofs.YtocealohiflheaaDoor
