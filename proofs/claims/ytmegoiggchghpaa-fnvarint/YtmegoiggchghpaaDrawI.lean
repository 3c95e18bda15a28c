/- Bytes of seven bits come back: plain facts. -/
import Derived.Test.YtmegoiggchghpaaDrawG
import Derived.Test.YtmegoiggchghpaaL1f
namespace Go.Proofs.Ytmegoiggchghpaa
open Go.RowKit
set_option linter.unusedVariables false
theorem pow_next (i : Nat) : 2 ^ (7 * (i + 1)) = 128 * 2 ^ (7 * i) := by rw [show 7 * (i + 1) = 7 * i + 7 from by omega, Nat.pow_add, Nat.mul_comm]
theorem rd_put : ∀ (f m i x : Nat) (t : List UInt8), m < 2 ^ (7 * f + 7) → i ≤ 9 → m * 2 ^ (7 * i) < 18446744073709551616 → (0 < i → 0 < m) → rd i x (varF f m ++ t) = (x + m * 2 ^ (7 * i), i + (varF f m).length, true)
  | f, m, i, x, t, hf, hi, hm, h0 => by
    have hp : 0 < 2 ^ (7 * i) := Nat.two_pow_pos _
    by_cases h : m < 128
    · rw [varF_small f m h]
      have e : (UInt8.ofNat m).toNat = m := by rw [UInt8.toNat_ofNat']; omega
      show rd i x (UInt8.ofNat m :: t) = _
      rw [rd_cons, e, Nat.mod_eq_of_lt h]
      have h9 : ¬ (i = 9 ∧ 2 ≤ m) := by
        rintro ⟨rfl, h2⟩
        have := Nat.mul_le_mul_right (2 ^ (7 * 9)) h2
        rw [show (2 : Nat) * 2 ^ (7 * 9) = 18446744073709551616 from by decide] at this
        omega
      rw [if_neg (by omega), if_neg (by omega), if_neg (by omega)]
      rfl
    · match f, hf with
      | 0, hf => exact absurd hf (by simpa using h)
      | f + 1, hf =>
        rw [varF_big f m h]
        show rd i x (vb m :: (varF f (m / 128) ++ t)) = _
        have hdm := Nat.div_add_mod m 128
        have hle : 128 * 2 ^ (7 * i) ≤ m * 2 ^ (7 * i) := Nat.mul_le_mul_right _ (by omega)
        have hi8 : i ≤ 8 := by
          by_cases h9 : i = 9
          · subst h9
            rw [show (128 : Nat) * 2 ^ (7 * 9) = 1180591620717411303424 from by decide] at hle
            omega
          · omega
        have hs : m * 2 ^ (7 * i) = m / 128 * (128 * 2 ^ (7 * i)) + m % 128 * 2 ^ (7 * i) := by
          rw [← Nat.mul_assoc, ← Nat.add_mul, Nat.mul_comm (m / 128) 128, hdm]
        rw [rd_cons, vb_toNat, show (m % 128 + 128) % 128 = m % 128 from by omega, if_neg (by omega), if_pos (by omega)]
        rw [rd_put f (m / 128) (i + 1) _ t (by rw [show 7 * (f + 1) + 7 = (7 * f + 7) + 7 from by omega, Nat.pow_add] at hf; omega) (by omega) (by rw [pow_next]; omega) (by intro _; omega)]
        rw [pow_next, List.length_cons]
        refine Prod.ext ?_ (Prod.ext ?_ rfl)
        · show x + m % 128 * 2 ^ (7 * i) + m / 128 * (128 * 2 ^ (7 * i)) = x + m * 2 ^ (7 * i)
          omega
        · show i + 1 + (varF f (m / 128)).length = i + ((varF f (m / 128)).length + 1)
          omega
theorem getVar_put (n : Nat) (t : List UInt8) (hn : n < 18446744073709551616) : getVar (putVar n ++ t) = (n, (putVar n).length, true) := by
  unfold getVar putVar
  rw [rd_put 10 n 0 0 t (Nat.lt_of_lt_of_le hn (by decide)) (by decide) (by simpa using hn) (by intro h; omega)]
  simp
theorem varF_ne (f m : Nat) : 1 ≤ (varF f m).length := by
  cases f with
  | zero => simp [varF]
  | succ f => unfold varF; split <;> simp
theorem rd_cut : ∀ (f m i x : Nat), (rd i x ((varF f m).take ((varF f m).length - 1))).2.2 = false
  | 0, m, i, x => rfl
  | f + 1, m, i, x => by
    by_cases h : m < 128
    · rw [varF_small _ m h]; rfl
    · have h1 := varF_ne f (m / 128)
      rw [varF_big f m h, List.length_cons, show (varF f (m / 128)).length + 1 - 1 = ((varF f (m / 128)).length - 1) + 1 from by omega, List.take_succ_cons, rd_cons]
      split
      · rfl
      · rw [if_pos (by rw [vb_toNat]; omega)]
        exact rd_cut f (m / 128) _ _
theorem getVar_cut (n : Nat) : (getVar ((putVar n).take ((putVar n).length - 1))).2.2 = false := rd_cut 10 n 0 0
theorem rd_back : ∀ (l : List UInt8) (i x y k f : Nat), i + f = 10 → rd i x l = (y, k, true) → ∃ m : Nat, y = x + m * 2 ^ (7 * i) ∧ i < k ∧ k ≤ i + l.length ∧ varF f m = l.take (k - i) ∧ (0 < i → 0 < m) ∧ m * 2 ^ (7 * i) < 18446744073709551616
  | [], i, x, y, k, f, hf, h => by simp [rd] at h
  | b :: l, i, x, y, k, f, hf, h => by
    have hb := b.toNat_lt
    have hi : ¬ 10 ≤ i := by
      intro h10
      rw [rd_ten _ _ _ h10] at h
      simp at h
    rw [rd_cons] at h
    by_cases hl : (i = 9 ∧ 2 ≤ b.toNat % 128) ∨ (10 ≤ i ∧ b.toNat % 128 ≠ 0)
    · rw [if_pos hl] at h; simp at h
    · rw [if_neg hl] at h
      by_cases h1 : 127 < b.toNat
      · rw [if_pos h1] at h
        match f, hf with
        | 0, hf => omega
        | f + 1, hf =>
          obtain ⟨m, e1, e2, e3, e4, e5, e6⟩ := rd_back l (i + 1) _ y k f (by omega) h
          rw [pow_next] at e1 e6
          have hm := e5 (by omega)
          refine ⟨b.toNat % 128 + 128 * m, ?_, by omega, by rw [List.length_cons]; omega, ?_, by intro _; omega, ?_⟩
          · rw [e1, Nat.add_mul, Nat.mul_comm 128 m, Nat.mul_assoc, Nat.add_assoc]
          · rw [varF_big f _ (by omega), show (b.toNat % 128 + 128 * m) / 128 = m from by omega, e4, show k - i = (k - (i + 1)) + 1 from by omega, List.take_succ_cons]
            congr 1
            apply UInt8.toNat_inj.1
            rw [vb_toNat]
            omega
          · have hi8 : i ≤ 8 := by
              by_cases h9 : i = 9
              · subst h9
                have : 1 * (128 * 2 ^ (7 * 9)) ≤ m * (128 * 2 ^ (7 * 9)) := Nat.mul_le_mul_right _ hm
                rw [show (1 : Nat) * (128 * 2 ^ (7 * 9)) = 1180591620717411303424 from by decide] at this
                omega
              · omega
            have hq : 2 ^ (64 - 7 * (i + 1)) * (128 * 2 ^ (7 * i)) = 18446744073709551616 := by
              rw [← pow_next, ← Nat.pow_add, show 64 - 7 * (i + 1) + 7 * (i + 1) = 64 from by omega]
            have hlt : m < 2 ^ (64 - 7 * (i + 1)) := by
              rw [← hq] at e6
              exact Nat.lt_of_mul_lt_mul_right e6
            have hle : (m + 1) * (128 * 2 ^ (7 * i)) ≤ 18446744073709551616 := by
              rw [← hq]
              exact Nat.mul_le_mul_right _ hlt
            have hpp : 0 < 2 ^ (7 * i) := Nat.two_pow_pos _
            have h127 : (b.toNat % 128 + 1) * 2 ^ (7 * i) ≤ 128 * 2 ^ (7 * i) := Nat.mul_le_mul_right _ (by omega)
            rw [Nat.add_mul, Nat.one_mul] at hle h127
            rw [Nat.add_mul, Nat.mul_comm 128 m, Nat.mul_assoc]
            omega
      · rw [if_neg h1] at h
        by_cases h2 : 0 < i ∧ b.toNat % 128 = 0
        · rw [if_pos h2] at h; simp at h
        · rw [if_neg h2] at h
          cases h
          have eb : b.toNat % 128 = b.toNat := by omega
          rw [eb] at hl h2 ⊢
          refine ⟨b.toNat, rfl, by omega, by rw [List.length_cons]; omega, ?_, by omega, ?_⟩
          · rw [varF_small f _ (by omega), UInt8.ofNat_toNat, show i + 1 - i = 1 from by omega]
            rfl
          · by_cases h9 : i = 9
            · have hb1 : b.toNat ≤ 1 := by omega
              subst h9
              exact Nat.lt_of_le_of_lt (Nat.mul_le_mul_right _ hb1) (by decide)
            · have h2' : 2 ^ (7 * i) ≤ 2 ^ 56 := Nat.pow_le_pow_right (by decide) (by omega)
              exact Nat.lt_of_le_of_lt (Nat.mul_le_mul (show b.toNat ≤ 127 by omega) h2') (by decide)
theorem getVar_back (l : List UInt8) (x k : Nat) (h : getVar l = (x, k, true)) : putVar x = l.take k ∧ k ≤ l.length ∧ x < 18446744073709551616 := by
  obtain ⟨m, e1, e2, e3, e4, e5, e6⟩ := rd_back l 0 0 x k 10 rfl h
  have : x = m := by rw [e1]; simp
  subst this
  exact ⟨e4, by omega, by simpa using e6⟩
end Go.Proofs.Ytmegoiggchghpaa
