/- Bitcoin's bytes come back: plain facts. -/
import Derived.Test.YtmegoiggchghpaaDrawG
import Derived.Test.YtmegoiggchghpaaL1g
namespace Go.Proofs.Ytmegoiggchghpaa
open Go.RowKit
set_option linter.unusedVariables false
theorem behind_of (k low n : Nat) (t : List UInt8) (hn : n < 2 ^ (8 * k)) (hl : low ≤ n) : behind (leL n k ++ t) k low = (n, 1 + k, true) := by
  have e : (leL n k ++ t).take k = leL n k := by rw [List.take_append_of_le_length (by rw [leL_len]; exact Nat.le_refl _), List.take_of_length_le (by rw [leL_len]; exact Nat.le_refl _)]
  unfold behind
  rw [e, leV_leL n k hn]
  simp [leL_len, hl]
theorem behind_cut (k low : Nat) (l : List UInt8) (h : l.length < k) : (behind l k low).2.2 = false := by
  unfold behind
  rw [if_neg (by omega)]
theorem getSize_put (n : Nat) (t : List UInt8) (hn : n < 18446744073709551616) : getSize (putSize n ++ t) = (n, (putSize n).length, true) := by
  unfold putSize
  by_cases h1 : n < 253
  · rw [if_pos h1, leL_cons]
    have e : (UInt8.ofNat n).toNat = n := by rw [UInt8.toNat_ofNat']; omega
    show getSize (UInt8.ofNat n :: _) = _
    simp only [getSize]
    rw [e, if_pos h1]
    rfl
  · rw [if_neg h1]
    by_cases h2 : n < 65536
    · rw [if_pos h2]
      show getSize (253 :: (leL n 2 ++ t)) = _
      simp only [getSize]
      rw [if_neg (by decide), if_pos (by decide), behind_of 2 253 n t h2 (by omega), List.length_cons, leL_len] <;> rfl
    · rw [if_neg h2]
      by_cases h3 : n < 4294967296
      · rw [if_pos h3]
        show getSize (254 :: (leL n 4 ++ t)) = _
        simp only [getSize]
        rw [if_neg (by decide), if_neg (by decide), if_pos (by decide), behind_of 4 65536 n t h3 (by omega), List.length_cons, leL_len] <;> rfl
      · rw [if_neg h3]
        show getSize (255 :: (leL n 8 ++ t)) = _
        simp only [getSize]
        rw [if_neg (by decide), if_neg (by decide), if_neg (by decide), behind_of 8 4294967296 n t hn (by omega), List.length_cons, leL_len] <;> rfl
theorem getSize_cut (n : Nat) : (getSize ((putSize n).take ((putSize n).length - 1))).2.2 = false := by
  unfold putSize
  by_cases h1 : n < 253
  · rw [if_pos h1, leL_len]; rfl
  · rw [if_neg h1]
    by_cases h2 : n < 65536
    · rw [if_pos h2, List.length_cons, leL_len]
      show (getSize (253 :: (leL n 2).take 1)).2.2 = false
      simp only [getSize]
      rw [if_neg (by decide), if_pos (by decide)]
      exact behind_cut _ _ _ (by simp [leL_len])
    · rw [if_neg h2]
      by_cases h3 : n < 4294967296
      · rw [if_pos h3, List.length_cons, leL_len]
        show (getSize (254 :: (leL n 4).take 3)).2.2 = false
        simp only [getSize]
        rw [if_neg (by decide), if_neg (by decide), if_pos (by decide)]
        exact behind_cut _ _ _ (by simp [leL_len])
      · rw [if_neg h3, List.length_cons, leL_len]
        show (getSize (255 :: (leL n 8).take 7)).2.2 = false
        simp only [getSize]
        rw [if_neg (by decide), if_neg (by decide), if_neg (by decide)]
        exact behind_cut _ _ _ (by simp [leL_len])
theorem getSize_back (l : List UInt8) (x k : Nat) (h : getSize l = (x, k, true)) : putSize x = l.take k ∧ k ≤ l.length ∧ x < 18446744073709551616 := by
  cases l with
  | nil => simp [getSize] at h
  | cons b r =>
    have hb := b.toNat_lt
    simp only [getSize] at h
    by_cases h1 : b.toNat < 253
    · rw [if_pos h1] at h
      cases h
      refine ⟨?_, by simp, by omega⟩
      unfold putSize
      rw [if_pos h1, leL_cons]
      simp [leL]
    · rw [if_neg h1] at h
      have key : ∀ kk low : Nat, kk ≤ 8 → (∀ (_ : kk ≤ r.length) (_ : low ≤ leV (r.take kk)), putSize (leV (r.take kk)) = b :: r.take kk) → behind r kk low = (x, k, true) → putSize x = (b :: r).take k ∧ k ≤ (b :: r).length ∧ x < 18446744073709551616 := by
        intro kk low hkk hp hbd
        unfold behind at hbd
        split at hbd
        · rename_i hc
          cases hbd
          have h9 := leV_take_lt r kk hc.1
          have h10 : leV (r.take kk) < 18446744073709551616 := Nat.lt_of_lt_of_le h9 (Nat.le_trans (Nat.pow_le_pow_right (by decide) (show 8 * kk ≤ 64 by omega)) (by decide))
          exact ⟨by rw [hp hc.1 hc.2, Nat.add_comm, List.take_succ_cons], by rw [List.length_cons]; omega, h10⟩
        · cases hbd
      by_cases h2 : b.toNat = 253
      · rw [if_pos h2] at h
        exact key 2 253 (by omega) (fun a c => putSize_253 b r h2 a c) h
      · rw [if_neg h2] at h
        by_cases h3 : b.toNat = 254
        · rw [if_pos h3] at h
          exact key 4 65536 (by omega) (fun a c => putSize_254 b r h3 a c) h
        · rw [if_neg h3] at h
          exact key 8 4294967296 (by omega) (fun a c => putSize_255 b r (by omega) a c) h
theorem DrawPutSize_any (B0 : Nat) (a : Option Addr) (len cap : Nat) (w : World) (hB : B0 ≤ w.heap.size) (hc : CodeAt B0 a len w) (hl : len ≤ 1048576) : Calls Try.prog 28 #[.slice a len cap] w fun e w' => (∃ n : Nat, n < 18446744073709551616 ∧ e = .returned (.int .u64 n)) ∧ Below w.heap.size w w' := by
  go_enter Try.func28, Try.ntmps28
  go_wp2_with fail
  refine (DrawPutVarint_any B0 a len cap _ hB hc hl).mono ?_
  rintro e w1 ⟨⟨n, hn, rfl⟩, hb1⟩
  go_wp2
  go_ret
  exact ⟨⟨n, hn, rfl⟩, hb1⟩
end Go.Proofs.Ytmegoiggchghpaa
