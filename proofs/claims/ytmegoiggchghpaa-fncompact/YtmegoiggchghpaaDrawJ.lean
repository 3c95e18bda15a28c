/- SCALE's bytes come back: plain facts. -/
import Derived.Test.YtmegoiggchghpaaDrawG
import Derived.Test.YtmegoiggchghpaaL1i
namespace Go.Proofs.Ytmegoiggchghpaa
open Go.RowKit
set_option linter.unusedVariables false
theorem gc_eq (l : List UInt8) (b : UInt8) (r : List UInt8) (h : l = b :: r) : getCompact l = if b.toNat % 4 = 0 then cw l 1 0 else if b.toNat % 4 = 1 then cw l 2 64 else if b.toNat % 4 = 2 then cw l 4 16384 else cl r (b.toNat / 4 + 4) := by subst h; rfl
theorem take_leL (n k : Nat) (t : List UInt8) : (leL n k ++ t).take k = leL n k := by rw [List.take_append_of_le_length (by rw [leL_len]; exact Nat.le_refl _), List.take_of_length_le (by rw [leL_len]; exact Nat.le_refl _)]
theorem cw_of (v k least : Nat) (t : List UInt8) (hv : v < 2 ^ (8 * k)) (hl : least ≤ v / 4) : cw (leL v k ++ t) k least = (v / 4, k, true) := by
  unfold cw
  rw [take_leL, leV_leL v k hv, if_pos ⟨by rw [List.length_append, leL_len]; omega, hl⟩]
theorem cw_cut (l : List UInt8) (k least : Nat) (h : l.length < k) : (cw l k least).2.2 = false := by
  unfold cw
  rw [if_neg (by omega)]
theorem ofN (v : Nat) : (UInt8.ofNat v).toNat = v % 256 := by rw [UInt8.toNat_ofNat']
theorem getCompact_put (n : Nat) (t : List UInt8) (hn : n < 18446744073709551616) : getCompact (putCompact n ++ t) = (n, (putCompact n).length, true) := by
  unfold putCompact
  by_cases h1 : n < 64
  · rw [if_pos h1, gc_eq (leL (4 * n) 1 ++ t) _ _ (by rw [leL_cons]; rfl), ofN, if_pos (by omega), cw_of (4 * n) 1 0 t (by omega) (by omega), leL_len]
    congr 1
    omega
  · rw [if_neg h1]
    by_cases h2 : n < 16384
    · rw [if_pos h2, gc_eq (leL (4 * n + 1) 2 ++ t) _ _ (by rw [leL_cons]; rfl), ofN, if_neg (by omega), if_pos (by omega), cw_of (4 * n + 1) 2 64 t (by omega) (by omega), leL_len]
      congr 1
      omega
    · rw [if_neg h2]
      by_cases h3 : n < 1073741824
      · rw [if_pos h3, gc_eq (leL (4 * n + 2) 4 ++ t) _ _ (by rw [leL_cons]; rfl), ofN, if_neg (by omega), if_neg (by omega), if_pos (by omega), cw_of (4 * n + 2) 4 16384 t (by omega) (by omega), leL_len]
        congr 1
        omega
      · rw [if_neg h3]
        have h8 := by8_8 n hn
        have h4 := by8_4 n h3
        have hp := (by8_le n (by8 n)).1 (Nat.le_refl _)
        rw [gc_eq _ _ _ (show (leL (4 * (by8 n - 4) + 3) 1 ++ leL n (by8 n)) ++ t = UInt8.ofNat (4 * (by8 n - 4) + 3) :: (leL n (by8 n) ++ t) from by rw [leL_cons]; rfl), ofN, if_neg (by omega), if_neg (by omega), if_neg (by omega), show (4 * (by8 n - 4) + 3) % 256 / 4 + 4 = by8 n from by omega]
        unfold cl
        rw [take_leL, leV_leL n _ hp, if_pos ⟨h8, by rw [List.length_append, leL_len]; omega, by omega, rfl⟩, List.length_append, leL_len, leL_len]
theorem getCompact_cut (n : Nat) (hn : n < 18446744073709551616) : (getCompact ((putCompact n).take ((putCompact n).length - 1))).2.2 = false := by
  unfold putCompact
  by_cases h1 : n < 64
  · rw [if_pos h1, leL_len]; rfl
  · rw [if_neg h1]
    by_cases h2 : n < 16384
    · rw [if_pos h2, leL_len, leL_cons]
      rw [gc_eq _ _ _ (List.take_succ_cons), ofN, if_neg (by omega), if_pos (by omega)]
      exact cw_cut _ _ _ (by simp)
    · rw [if_neg h2]
      by_cases h3 : n < 1073741824
      · rw [if_pos h3, leL_len, leL_cons]
        rw [gc_eq _ _ _ (List.take_succ_cons), ofN, if_neg (by omega), if_neg (by omega), if_pos (by omega)]
        exact cw_cut _ _ _ (by simp [leL_len])
      · rw [if_neg h3]
        have h8 := by8_8 n hn
        have h4 := by8_4 n h3
        rw [List.length_append, leL_len, leL_len, show (leL (4 * (by8 n - 4) + 3) 1 ++ leL n (by8 n)) = UInt8.ofNat (4 * (by8 n - 4) + 3) :: leL n (by8 n) from by rw [leL_cons]; rfl, show 1 + by8 n - 1 = (by8 n - 1) + 1 from by omega]
        rw [gc_eq _ _ _ (List.take_succ_cons), ofN, if_neg (by omega), if_neg (by omega), if_neg (by omega), show (4 * (by8 n - 4) + 3) % 256 / 4 + 4 = by8 n from by omega]
        unfold cl
        rw [if_neg (by rw [List.length_take, leL_len]; omega)]
theorem cw_back (b : UInt8) (r : List UInt8) (k least x kk : Nat) (hk8 : k ≤ 8) (hp : k ≤ (b :: r).length → least ≤ leV ((b :: r).take k) / 4 → putCompact (leV ((b :: r).take k) / 4) = (b :: r).take k) (h : cw (b :: r) k least = (x, kk, true)) : putCompact x = (b :: r).take kk ∧ kk ≤ (b :: r).length ∧ x < 18446744073709551616 := by
  unfold cw at h
  split at h
  · rename_i hc
    cases h
    have h9 := leV_take_lt (b :: r) k hc.1
    have h10 : leV ((b :: r).take k) < 18446744073709551616 := Nat.lt_of_lt_of_le h9 (Nat.le_trans (Nat.pow_le_pow_right (by decide) (show 8 * k ≤ 64 by omega)) (by decide))
    exact ⟨hp hc.1 hc.2, hc.1, by omega⟩
  · cases h
theorem getCompact_back (l : List UInt8) (x k : Nat) (h : getCompact l = (x, k, true)) : putCompact x = l.take k ∧ k ≤ l.length ∧ x < 18446744073709551616 := by
  cases l with
  | nil => simp [getCompact] at h
  | cons b r =>
    have hb := b.toNat_lt
    rw [gc_eq _ b r rfl] at h
    by_cases h0 : b.toNat % 4 = 0
    · rw [if_pos h0] at h
      exact cw_back b r 1 0 x k (by omega) (putCompact_0 b r h0) h
    · rw [if_neg h0] at h
      by_cases h1 : b.toNat % 4 = 1
      · rw [if_pos h1] at h
        exact cw_back b r 2 64 x k (by omega) (putCompact_1 b r h1) h
      · rw [if_neg h1] at h
        by_cases h2 : b.toNat % 4 = 2
        · rw [if_pos h2] at h
          exact cw_back b r 4 16384 x k (by omega) (putCompact_2 b r h2) h
        · rw [if_neg h2] at h
          unfold cl at h
          split at h
          · rename_i hc
            obtain ⟨c1, c2, c3, c4⟩ := hc
            have e := putCompact_long b r (b.toNat / 4 + 4) (by omega) c2 c3 c4
            generalize b.toNat / 4 + 4 = q at *
            cases h
            have h9 := leV_take_lt r q c2
            have h10 : leV (r.take q) < 18446744073709551616 := Nat.lt_of_lt_of_le h9 (Nat.le_trans (Nat.pow_le_pow_right (by decide) (show 8 * q ≤ 64 by omega)) (by decide))
            exact ⟨by rw [e, Nat.add_comm, List.take_succ_cons], by rw [List.length_cons]; omega, h10⟩
          · cases h
theorem DrawPutCompact_any (B0 : Nat) (a : Option Addr) (len cap : Nat) (w : World) (hB : B0 ≤ w.heap.size) (hc : CodeAt B0 a len w) (hl : len ≤ 1048576) : Calls Try.prog 34 #[.slice a len cap] w fun e w' => (∃ n : Nat, n < 18446744073709551616 ∧ e = .returned (.int .u64 n)) ∧ Below w.heap.size w w' := by
  go_enter Try.func34, Try.ntmps34
  go_wp2_with fail
  refine (DrawPutVarint_any B0 a len cap _ hB hc hl).mono ?_
  rintro e w1 ⟨⟨n, hn, rfl⟩, hb1⟩
  go_wp2
  go_ret
  exact ⟨⟨n, hn, rfl⟩, hb1⟩
end Go.Proofs.Ytmegoiggchghpaa
