/- Lengths of numbers: plain facts. -/
import Derived.Test.YtmegoiggchghpaaDrawB
namespace Go.Proofs.Ytmegoiggchghpaa
open Go.RowKit
set_option linter.unusedVariables false
theorem varF_pos (f n : Nat) : 1 ≤ (varF f n).length := by
  cases f with
  | zero => simp [varF]
  | succ f =>
    by_cases hs : n < 128
    · rw [varF_small _ _ hs]; simp
    · rw [varF_big _ _ hs]; simp
theorem varF_mono : ∀ f x y : Nat, x ≤ y → (varF f x).length ≤ (varF f y).length
  | 0, x, y, _ => by simp [varF]
  | f + 1, x, y, h => by
    by_cases hs : x < 128
    · rw [varF_small _ _ hs]; exact varF_pos _ _
    · rw [varF_big _ _ hs, varF_big _ _ (by omega)]
      simp only [List.length_cons]
      have := varF_mono f (x / 128) (y / 128) (Nat.div_le_div_right h)
      omega
theorem putVar_mono (x y : Nat) (h : x ≤ y) : (putVar x).length ≤ (putVar y).length := varF_mono 10 x y h
theorem varF_upto : ∀ (f j n : Nat), n < 2 ^ (7 * j) → 1 ≤ j → (varF f n).length ≤ j
  | 0, j, n, _, hj => by simpa [varF] using hj
  | f + 1, j, n, h, hj => by
    by_cases hs : n < 128
    · rw [varF_small _ _ hs]; simpa using hj
    · rw [varF_big _ _ hs, List.length_cons]
      match j with
      | 0 => omega
      | 1 => omega
      | j + 2 =>
        have h2 : n / 128 < 2 ^ (7 * (j + 1)) := by
          rw [show 7 * (j + 2) = 7 * (j + 1) + 7 from by omega, Nat.pow_add] at h
          omega
        have := varF_upto f (j + 1) (n / 128) h2 (by omega)
        omega
theorem putVar_ten (y : Nat) (h : y < 18446744073709551616) : (putVar y).length ≤ 10 :=
  varF_upto 10 10 y (by rw [show (2 : Nat) ^ (7 * 10) = 1180591620717411303424 from by decide]; omega) (by decide)
theorem putSize_eqlen (n : Nat) : (putSize n).length = if n < 253 then 1 else if n < 65536 then 3 else if n < 4294967296 then 5 else 9 := by
  unfold putSize
  repeat' split
  all_goals simp [leL_len]
theorem putSize_mono (x y : Nat) (h : x ≤ y) : (putSize x).length ≤ (putSize y).length := by
  rw [putSize_eqlen, putSize_eqlen]
  repeat' split
  all_goals omega
theorem putSize_nine (n : Nat) : (putSize n).length ≤ 9 := by
  rw [putSize_eqlen]
  repeat' split
  all_goals omega
theorem by8_mono (x y : Nat) (h : x ≤ y) : by8 x ≤ by8 y := by
  rw [by8_le]
  exact Nat.lt_of_le_of_lt h ((by8_le y (by8 y)).1 (Nat.le_refl _))
theorem putCompact_eqlen (n : Nat) : (putCompact n).length = if n < 64 then 1 else if n < 16384 then 2 else if n < 1073741824 then 4 else 1 + by8 n := by
  unfold putCompact
  repeat' split
  all_goals simp [leL_len]
theorem putCompact_mono (x y : Nat) (h : x ≤ y) : (putCompact x).length ≤ (putCompact y).length := by
  have hb := by8_mono x y h
  rw [putCompact_eqlen, putCompact_eqlen]
  by_cases hy : y < 1073741824
  · repeat' split
    all_goals omega
  · have := by8_4 y hy
    repeat' split
    all_goals omega
theorem putCompact_nine (n : Nat) (h : n < 18446744073709551616) : (putCompact n).length ≤ 9 := by
  have := by8_8 n h
  rw [putCompact_eqlen]
  repeat' split
  all_goals omega
end Go.Proofs.Ytmegoiggchghpaa
