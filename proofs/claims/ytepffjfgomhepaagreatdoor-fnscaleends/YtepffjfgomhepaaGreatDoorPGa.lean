/- Counts of SCALE and of Bitcoin come back, and what is read is what was written: plain facts. -/
import Derived.Test.YtepffjfgomhepaaGreatDoorL1g
import Derived.Test.YtepffjfgomhepaaGreatDoorL1i
namespace Go.Proofs.YtepffjfgomhepaaGreatDoor
open Go.RowKit
set_option linter.unusedVariables false
theorem leV_leL : ∀ (n k : Nat), n < 2 ^ (8 * k) → leV (leL n k) = n
  | n, 0, h => by simp [leL, leV] at h ⊢; omega
  | n, k + 1, h => by
    rw [leL_cons, leV]
    rw [leV_leL (n / 256) k (by rw [show 8 * (k + 1) = 8 * k + 8 from by omega, Nat.pow_add] at h; omega), UInt8.toNat_ofNat']
    omega
theorem behind_of (k low n : Nat) (t : List UInt8) (hn : n < 2 ^ (8 * k)) (hl : low ≤ n) : behind (leL n k ++ t) k low = (n, 1 + k, true) := by
  have e : (leL n k ++ t).take k = leL n k := by rw [List.take_append_of_le_length (by rw [leL_len]; exact Nat.le_refl _), List.take_of_length_le (by rw [leL_len]; exact Nat.le_refl _)]
  unfold behind
  rw [e, leV_leL n k hn]
  simp [leL_len, hl]
theorem getSize_put (n : Nat) (t : List UInt8) (hn : n < 18446744073709551616) : getSize (putSize n ++ t) = (n, (putSize n).length, true) := by
  unfold putSize
  by_cases h1 : n < 253
  · rw [if_pos h1, leL_cons]
    have e : (UInt8.ofNat n).toNat = n := by rw [UInt8.toNat_ofNat']; omega
    show getSize (UInt8.ofNat n :: _) = _
    simp only [getSize]
    rw [e, if_pos h1]
    rfl
  · rw [if_neg h1]
    by_cases h2 : n < 65536
    · rw [if_pos h2]
      show getSize (253 :: (leL n 2 ++ t)) = _
      simp only [getSize]
      rw [if_neg (by decide), if_pos (by decide), behind_of 2 253 n t h2 (by omega), List.length_cons, leL_len] <;> rfl
    · rw [if_neg h2]
      by_cases h3 : n < 4294967296
      · rw [if_pos h3]
        show getSize (254 :: (leL n 4 ++ t)) = _
        simp only [getSize]
        rw [if_neg (by decide), if_neg (by decide), if_pos (by decide), behind_of 4 65536 n t h3 (by omega), List.length_cons, leL_len] <;> rfl
      · rw [if_neg h3]
        show getSize (255 :: (leL n 8 ++ t)) = _
        simp only [getSize]
        rw [if_neg (by decide), if_neg (by decide), if_neg (by decide), behind_of 8 4294967296 n t hn (by omega), List.length_cons, leL_len] <;> rfl
theorem getSize_back (l : List UInt8) (x k : Nat) (h : getSize l = (x, k, true)) : putSize x = l.take k ∧ k ≤ l.length ∧ x < 18446744073709551616 := by
  cases l with
  | nil => simp [getSize] at h
  | cons b r =>
    have hb := b.toNat_lt
    simp only [getSize] at h
    by_cases h1 : b.toNat < 253
    · rw [if_pos h1] at h
      cases h
      refine ⟨?_, by simp, by omega⟩
      unfold putSize
      rw [if_pos h1, leL_cons]
      simp [leL]
    · rw [if_neg h1] at h
      have key : ∀ kk low : Nat, kk ≤ 8 → (∀ (_ : kk ≤ r.length) (_ : low ≤ leV (r.take kk)), putSize (leV (r.take kk)) = b :: r.take kk) → behind r kk low = (x, k, true) → putSize x = (b :: r).take k ∧ k ≤ (b :: r).length ∧ x < 18446744073709551616 := by
        intro kk low hkk hp hbd
        unfold behind at hbd
        split at hbd
        · rename_i hc
          cases hbd
          have h9 := leV_take_lt r kk hc.1
          have h10 : leV (r.take kk) < 18446744073709551616 := Nat.lt_of_lt_of_le h9 (Nat.le_trans (Nat.pow_le_pow_right (by decide) (show 8 * kk ≤ 64 by omega)) (by decide))
          exact ⟨by rw [hp hc.1 hc.2, Nat.add_comm, List.take_succ_cons], by rw [List.length_cons]; omega, h10⟩
        · cases hbd
      by_cases h2 : b.toNat = 253
      · rw [if_pos h2] at h
        exact key 2 253 (by omega) (fun a c => putSize_253 b r h2 a c) h
      · rw [if_neg h2] at h
        by_cases h3 : b.toNat = 254
        · rw [if_pos h3] at h
          exact key 4 65536 (by omega) (fun a c => putSize_254 b r h3 a c) h
        · rw [if_neg h3] at h
          exact key 8 4294967296 (by omega) (fun a c => putSize_255 b r (by omega) a c) h
theorem gc_eq (l : List UInt8) (b : UInt8) (r : List UInt8) (h : l = b :: r) : getCompact l = if b.toNat % 4 = 0 then cw l 1 0 else if b.toNat % 4 = 1 then cw l 2 64 else if b.toNat % 4 = 2 then cw l 4 16384 else cl r (b.toNat / 4 + 4) := by subst h; rfl
theorem take_leL (n k : Nat) (t : List UInt8) : (leL n k ++ t).take k = leL n k := by rw [List.take_append_of_le_length (by rw [leL_len]; exact Nat.le_refl _), List.take_of_length_le (by rw [leL_len]; exact Nat.le_refl _)]
theorem cw_of (v k least : Nat) (t : List UInt8) (hv : v < 2 ^ (8 * k)) (hl : least ≤ v / 4) : cw (leL v k ++ t) k least = (v / 4, k, true) := by
  unfold cw
  rw [take_leL, leV_leL v k hv, if_pos ⟨by rw [List.length_append, leL_len]; omega, hl⟩]
theorem ofN (v : Nat) : (UInt8.ofNat v).toNat = v % 256 := by rw [UInt8.toNat_ofNat']
theorem getCompact_put (n : Nat) (t : List UInt8) (hn : n < 18446744073709551616) : getCompact (putCompact n ++ t) = (n, (putCompact n).length, true) := by
  unfold putCompact
  by_cases h1 : n < 64
  · rw [if_pos h1, gc_eq (leL (4 * n) 1 ++ t) _ _ (by rw [leL_cons]; rfl), ofN, if_pos (by omega), cw_of (4 * n) 1 0 t (by omega) (by omega), leL_len]
    congr 1
    omega
  · rw [if_neg h1]
    by_cases h2 : n < 16384
    · rw [if_pos h2, gc_eq (leL (4 * n + 1) 2 ++ t) _ _ (by rw [leL_cons]; rfl), ofN, if_neg (by omega), if_pos (by omega), cw_of (4 * n + 1) 2 64 t (by omega) (by omega), leL_len]
      congr 1
      omega
    · rw [if_neg h2]
      by_cases h3 : n < 1073741824
      · rw [if_pos h3, gc_eq (leL (4 * n + 2) 4 ++ t) _ _ (by rw [leL_cons]; rfl), ofN, if_neg (by omega), if_neg (by omega), if_pos (by omega), cw_of (4 * n + 2) 4 16384 t (by omega) (by omega), leL_len]
        congr 1
        omega
      · rw [if_neg h3]
        have h8 := by8_8 n hn
        have h4 := by8_4 n h3
        have hp := (by8_le n (by8 n)).1 (Nat.le_refl _)
        rw [gc_eq _ _ _ (show (leL (4 * (by8 n - 4) + 3) 1 ++ leL n (by8 n)) ++ t = UInt8.ofNat (4 * (by8 n - 4) + 3) :: (leL n (by8 n) ++ t) from by rw [leL_cons]; rfl), ofN, if_neg (by omega), if_neg (by omega), if_neg (by omega), show (4 * (by8 n - 4) + 3) % 256 / 4 + 4 = by8 n from by omega]
        unfold cl
        rw [take_leL, leV_leL n _ hp, if_pos ⟨h8, by rw [List.length_append, leL_len]; omega, by omega, rfl⟩, List.length_append, leL_len, leL_len]
theorem cw_back (b : UInt8) (r : List UInt8) (k least x kk : Nat) (hk8 : k ≤ 8) (hp : k ≤ (b :: r).length → least ≤ leV ((b :: r).take k) / 4 → putCompact (leV ((b :: r).take k) / 4) = (b :: r).take k) (h : cw (b :: r) k least = (x, kk, true)) : putCompact x = (b :: r).take kk ∧ kk ≤ (b :: r).length ∧ x < 18446744073709551616 := by
  unfold cw at h
  split at h
  · rename_i hc
    cases h
    have h9 := leV_take_lt (b :: r) k hc.1
    have h10 : leV ((b :: r).take k) < 18446744073709551616 := Nat.lt_of_lt_of_le h9 (Nat.le_trans (Nat.pow_le_pow_right (by decide) (show 8 * k ≤ 64 by omega)) (by decide))
    exact ⟨hp hc.1 hc.2, hc.1, by omega⟩
  · cases h
theorem getCompact_back (l : List UInt8) (x k : Nat) (h : getCompact l = (x, k, true)) : putCompact x = l.take k ∧ k ≤ l.length ∧ x < 18446744073709551616 := by
  cases l with
  | nil => simp [getCompact] at h
  | cons b r =>
    have hb := b.toNat_lt
    rw [gc_eq _ b r rfl] at h
    by_cases h0 : b.toNat % 4 = 0
    · rw [if_pos h0] at h
      exact cw_back b r 1 0 x k (by omega) (putCompact_0 b r h0) h
    · rw [if_neg h0] at h
      by_cases h1 : b.toNat % 4 = 1
      · rw [if_pos h1] at h
        exact cw_back b r 2 64 x k (by omega) (putCompact_1 b r h1) h
      · rw [if_neg h1] at h
        by_cases h2 : b.toNat % 4 = 2
        · rw [if_pos h2] at h
          exact cw_back b r 4 16384 x k (by omega) (putCompact_2 b r h2) h
        · rw [if_neg h2] at h
          unfold cl at h
          split at h
          · rename_i hc
            obtain ⟨c1, c2, c3, c4⟩ := hc
            have e := putCompact_long b r (b.toNat / 4 + 4) (by omega) c2 c3 c4
            generalize b.toNat / 4 + 4 = q at *
            cases h
            have h9 := leV_take_lt r q c2
            have h10 : leV (r.take q) < 18446744073709551616 := Nat.lt_of_lt_of_le h9 (Nat.le_trans (Nat.pow_le_pow_right (by decide) (show 8 * q ≤ 64 by omega)) (by decide))
            exact ⟨by rw [e, Nat.add_comm, List.take_succ_cons], by rw [List.length_cons]; omega, h10⟩
          · cases h
/-- A way to write counts, and one to read them, that belong together. -/
structure CntGet (cnt : Nat → List UInt8) (get : List UInt8 → Nat × Nat × Bool) : Prop where
  put : ∀ n t, n < 18446744073709551616 → get (cnt n ++ t) = (n, (cnt n).length, true)
  back : ∀ l x k, get l = (x, k, true) → cnt x = l.take k ∧ k ≤ l.length ∧ x < 18446744073709551616
theorem cntGet_mk {put : Nat → List UInt8} {get : List UInt8 → Nat × Nat × Bool} (h1 : ∀ n t, n < 18446744073709551616 → get (put n ++ t) = (n, (put n).length, true)) (h2 : ∀ l x k, get l = (x, k, true) → put x = l.take k ∧ k ≤ l.length ∧ x < 18446744073709551616) : CntGet (fun m => if m < 18446744073709551616 then put m else []) get :=
  ⟨fun n t hn => by simp only [if_pos hn]; exact h1 n t hn, fun l x k h => by
    obtain ⟨a, b, c⟩ := h2 l x k h
    simp only [if_pos c]
    exact ⟨a, b, c⟩⟩
theorem cntGet_sc : CntGet (fun m => if m < 18446744073709551616 then putCompact m else []) getCompact := cntGet_mk getCompact_put getCompact_back
theorem cntGet_bc : CntGet (fun m => if m < 18446744073709551616 then putSize m else []) getSize := cntGet_mk getSize_put getSize_back
end Go.Proofs.YtepffjfgomhepaaGreatDoor
