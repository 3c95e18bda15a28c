/- The callees of PutLe, GetLe, PutBe, GetBe: contracts. -/
import Derived.Test.YtdbkglnmmaglcaaDoorBase
import Derived.Lib.BitFns
namespace Go.Proofs.YtdbkglnmmaglcaaDoor
open Go.RowKit
set_option linter.unusedVariables false
/-- Byte i of a number, the lowest first; k of them. -/
def byt (n : Nat) (i : Nat) : UInt8 := UInt8.ofNat (n / 2 ^ (8 * i))
def leL (n k : Nat) : List UInt8 := (List.range k).map (byt n)
theorem leL_len (n k : Nat) : (leL n k).length = k := by simp [leL]
theorem leL_succ (n k : Nat) : leL n (k+1) = leL n k ++ [byt n k] := by simp [leL, List.range_succ]
theorem bv_byt (n j : Nat) : bv (byt n j) = Value.int IntKind.u8 ((n : Int) / 2 ^ (8 * j) % 256) := by
  simp [bv, byt]
/-- What lies in the row while it is filled from its low end, from its high end. -/
def lowRow (n k j : Nat) : List Value := (leL n j).map bv ++ List.replicate (k - j) (.int .u8 0)
def highRow (n k j : Nat) : List Value := List.replicate (k - j) (.int .u8 0) ++ (leL n j).reverse.map bv
theorem mod_small (n m : Nat) (h : n < 256) : ((n : Int) / 2 ^ m) % 256 = (n : Int) / 2 ^ m := by
  have e : ((n : Int) / 2 ^ m) = ((n / 2 ^ m : Nat) : Int) := by simp
  have := Nat.div_le_self n (2 ^ m)
  rw [e]
  generalize n / 2 ^ m = q at this ⊢
  omega
theorem lowRow_len (n k j : Nat) (h : j ≤ k) : (lowRow n k j).length = k := by simp [lowRow, leL_len]; omega
theorem lowRow_set (n k j : Nat) (h : j < k) : (lowRow n k j).set j (bv (byt n j)) = lowRow n k (j + 1) := by
  have e : k - j = (k - (j + 1)) + 1 := by omega
  unfold lowRow
  rw [e, List.replicate_succ, List.set_append_right _ _ (by simp [leL_len]), leL_succ]
  simp [leL_len]
theorem lowRow_zero (n k : Nat) : lowRow n k 0 = List.replicate k (.int .u8 0) := by simp [lowRow, leL]
theorem lowRow_all (n k : Nat) : lowRow n k k = (leL n k).map bv := by simp [lowRow]
theorem highRow_len (n k j : Nat) (h : j ≤ k) : (highRow n k j).length = k := by simp [highRow, leL_len]; omega
theorem highRow_set (n k j : Nat) (h : j < k) : (highRow n k j).set (k - 1 - j) (bv (byt n j)) = highRow n k (j + 1) := by
  have e : k - j = (k - (j + 1)) + 1 := by omega
  have e2 : k - 1 - j = k - (j + 1) := by omega
  unfold highRow
  rw [e2, leL_succ, e, List.replicate_succ', List.append_assoc, List.set_append_right _ _ (by simp)]
  simp
theorem highRow_zero (n k : Nat) : highRow n k 0 = List.replicate k (.int .u8 0) := by simp [highRow, leL]
theorem highRow_all (n k : Nat) : highRow n k k = (leL n k).reverse.map bv := by simp [highRow]
theorem l1In_any (n a b : Int) (w : World) : Calls Tryd.prog 31 #[.int .i64 n, .int .i64 a, .int .i64 b] w fun e w' => e = .returned (.bool (decide (a ≤ n ∧ n ≤ b))) ∧ w' = w := by
  by_cases h1 : a ≤ n <;> by_cases h2 : n ≤ b
  all_goals
    go_enter Tryd.func31, Tryd.ntmps31
    go_wp2
    go_ret
    exact ⟨by simp [h1, h2], rfl⟩
theorem div_beq (n m : Nat) : ((n : Int) / 2 ^ m == 0) = decide (n < 2 ^ m) := by
  have hp : 0 < 2 ^ m := Nat.two_pow_pos m
  have e : ((n : Int) / 2 ^ m) = ((n / 2 ^ m : Nat) : Int) := by simp
  rw [e, Bool.eq_iff_iff]
  simp only [beq_iff_eq, decide_eq_true_eq]
  rw [show (0 : Int) = ((0 : Nat) : Int) from rfl, Int.ofNat_inj, Nat.div_eq_zero_iff]
  omega
end Go.Proofs.YtdbkglnmmaglcaaDoor
