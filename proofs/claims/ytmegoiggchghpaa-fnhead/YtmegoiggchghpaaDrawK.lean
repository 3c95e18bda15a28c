/- RLP's heads come back: plain facts, and the draws. -/
import Derived.Test.YtmegoiggchghpaaDrawG
import Derived.Test.YtmegoiggchghpaaL1k
namespace Go.Proofs.Ytmegoiggchghpaa
open Go.RowKit
set_option linter.unusedVariables false
theorem hl_of (list : Bool) (n : Nat) (t : List UInt8) (h56 : 56 ≤ n) (hn : n ≤ 65535) : hl list ((leL n (by8 n)).reverse ++ t) (by8 n) = (list, n, 1 + by8 n, true) := by
  have hp := (by8_le n (by8 n)).1 (Nat.le_refl _)
  have e : ((leL n (by8 n)).reverse ++ t).take (by8 n) = (leL n (by8 n)).reverse := by
    rw [List.take_append_of_le_length (by rw [List.length_reverse, leL_len]; exact Nat.le_refl _), List.take_of_length_le (by rw [List.length_reverse, leL_len]; exact Nat.le_refl _)]
  unfold hl
  rw [e, List.reverse_reverse, leV_leL n _ hp, if_pos ⟨by8_16 n hn, by rw [List.length_append, List.length_reverse, leL_len]; omega, h56, rfl⟩]
theorem getHead_headL (list : Bool) (n : Nat) (t : List UInt8) (hn : n ≤ 65535) : getHead (headL list n ++ t) = (list, n, (headL list n).length, true) := by
  have hb2 := by8_16 n hn
  by_cases h : n < 56
  · cases list
    · rw [headL_false_lo n h, leL_len, leL_cons]
      show getHead (UInt8.ofNat (128 + n) :: _) = _
      simp only [getHead]
      rw [show (UInt8.ofNat (128 + n)).toNat = 128 + n from by rw [UInt8.toNat_ofNat']; omega, if_neg (by omega), if_pos (by omega), decide_eq_false (by omega), show (128 + n) % 64 = n from by omega]
    · rw [headL_true_lo n h, leL_len, leL_cons]
      show getHead (UInt8.ofNat (192 + n) :: _) = _
      simp only [getHead]
      rw [show (UInt8.ofNat (192 + n)).toNat = 192 + n from by rw [UInt8.toNat_ofNat']; omega, if_neg (by omega), if_pos (by omega), decide_eq_true (by omega), show (192 + n) % 64 = n from by omega]
  · have h1 := by8_pos n (by omega)
    cases list
    · rw [headL_false_hi n h, List.length_append, leL_len, List.length_reverse, leL_len, leL_cons]
      show getHead (UInt8.ofNat (183 + by8 n) :: ((leL n (by8 n)).reverse ++ t)) = _
      simp only [getHead]
      rw [show (UInt8.ofNat (183 + by8 n)).toNat = 183 + by8 n from by rw [UInt8.toNat_ofNat']; omega, if_neg (by omega), if_neg (by omega), decide_eq_false (by omega), show (183 + by8 n) % 64 - 55 = by8 n from by omega, hl_of false n t (by omega) hn]
    · rw [headL_true_hi n h, List.length_append, leL_len, List.length_reverse, leL_len, leL_cons]
      show getHead (UInt8.ofNat (247 + by8 n) :: ((leL n (by8 n)).reverse ++ t)) = _
      simp only [getHead]
      rw [show (UInt8.ofNat (247 + by8 n)).toNat = 247 + by8 n from by rw [UInt8.toNat_ofNat']; omega, if_neg (by omega), if_neg (by omega), decide_eq_true (by omega), show (247 + by8 n) % 64 - 55 = by8 n from by omega, hl_of true n t (by omega) hn]
theorem getHead_put (list : Bool) (n : Int) (t : List UInt8) (h : putHead list n ≠ []) : ∃ m : Nat, n = m ∧ m ≤ 65535 ∧ putHead list n = headL list m ∧ getHead (headL list m ++ t) = (list, m, (headL list m).length, true) := by
  unfold putHead at h ⊢
  by_cases hc : 0 ≤ n ∧ n ≤ 65535
  · rw [if_pos hc]
    refine ⟨n.toNat, by omega, by omega, rfl, getHead_headL list _ t (by omega)⟩
  · rw [if_neg hc] at h; exact absurd rfl h
theorem getHead_back (l : List UInt8) (x : Bool) (m k : Nat) (h : getHead l = (x, m, k, true)) : putHead x m = l.take k ∧ k ≤ l.length ∧ m ≤ 65535 := by
  have key : ∀ m : Nat, m ≤ 65535 → putHead x m = headL x m := by
    intro m hm; unfold putHead; rw [if_pos ⟨by omega, by omega⟩, Int.toNat_natCast]
  cases l with
  | nil => simp [getHead] at h
  | cons b r =>
    have hb := b.toNat_lt
    simp only [getHead] at h
    by_cases h1 : b.toNat < 128
    · rw [if_pos h1] at h; simp at h
    · rw [if_neg h1] at h
      by_cases h2 : b.toNat % 64 < 56
      · rw [if_pos h2] at h
        have e := headL_lo b r (by omega) h2
        cases h
        exact ⟨by rw [key _ (by omega), e]; simp, by simp, by omega⟩
      · rw [if_neg h2] at h
        unfold hl at h
        split at h
        · rename_i hc
          obtain ⟨c1, c2, c3, c4⟩ := hc
          have e := headL_yes b r (b.toNat % 64 - 55) (by omega) rfl (by omega) c2 c3 c4
          have h9 := leV_rev_lt r (b.toNat % 64 - 55) c2
          have h10 : leV (r.take (b.toNat % 64 - 55)).reverse < 65536 := Nat.lt_of_lt_of_le h9 (Nat.le_trans (Nat.pow_le_pow_right (by decide) (show 8 * (b.toNat % 64 - 55) ≤ 16 by omega)) (by decide))
          generalize b.toNat % 64 - 55 = q at *
          cases h
          exact ⟨by rw [key _ (by omega), e, Nat.add_comm, List.take_succ_cons], by rw [List.length_cons]; omega, by omega⟩
        · cases h
theorem putHead_len (list : Bool) (n : Int) : (putHead list n).length ≤ 3 := by
  unfold putHead
  split
  · exact headL_len list _ (by omega)
  · simp
set_option maxRecDepth 100000 in
set_option maxHeartbeats 1000000 in
theorem DrawPutHead_any (B0 : Nat) (a : Option Addr) (len cap : Nat) (w : World) (hB : B0 ≤ w.heap.size) (hc : CodeAt B0 a len w) (hl : len ≤ 1048576) : Calls Try.prog 40 #[.slice a len cap] w fun e w' => (∃ l : Bool, ∃ n : Int, -9223372036854775808 ≤ n ∧ n ≤ 9223372036854775807 ∧ e = .returned (.tuple #[.bool l, .int .i64 n])) ∧ Below w.heap.size w w' := by
  go_enter Try.func40, Try.ntmps40
  go_wp2_with fail
  refine (l1Open_any B0 a len cap _ hB hc hl).mono ?_
  rintro e w1 ⟨rfl, hr1, hb1⟩
  go_wp2_with fail
  refine (once_any B0 _ a len cap 2 _ hr1 (by decide) (by decide)).mono ?_
  rintro e w2 ⟨⟨b, rfl⟩, hr2, hb2⟩
  cases b
  · go_wp2_with fail
    refine (once_any B0 _ a len cap 2 _ hr2 (by decide) (by decide)).mono ?_
    rintro e w3 ⟨⟨l, rfl⟩, hr3, hb3⟩
    go_wp2_with fail
    refine (off_any B0 _ a len cap 0 65535 _ hr3 (by decide) (by decide) (by decide)).mono ?_
    rintro e w4 ⟨⟨k, hk1, hk2, rfl⟩, hr4, hb4⟩
    go_wp2
    go_ret2
    exact ⟨⟨l, k, hk1, hk2, rfl⟩, hb1.trans (gb_below (gb_trans hb2 (gb_trans hb3 hb4)) (Nat.le_refl _) hr1.size)⟩
  · go_wp2_with fail
    refine (once_any B0 _ a len cap 2 _ hr2 (by decide) (by decide)).mono ?_
    rintro e w3 ⟨⟨l, rfl⟩, hr3, hb3⟩
    go_wp2_with fail
    refine (below_any B0 _ a len cap 300 _ hr3 (by decide) (by decide)).mono ?_
    rintro e w4 ⟨⟨v, hv, rfl⟩, hr4, hb4⟩
    have hvi : (v : Int) < 300 := by omega
    go_wp2
    go_ret2
    exact ⟨⟨l, v, by omega, by omega, rfl⟩, hb1.trans (gb_below (gb_trans hb2 (gb_trans hb3 hb4)) (Nat.le_refl _) hr1.size)⟩
set_option maxRecDepth 100000 in
set_option maxHeartbeats 1000000 in
theorem DrawGetHead_any (B0 : Nat) (a : Option Addr) (len cap : Nat) (w : World) (hB : B0 ≤ w.heap.size) (hc : CodeAt B0 a len w) (hl : len ≤ 1048576) : Calls Try.prog 42 #[.slice a len cap] w fun e w' => (∃ t : ByteArray, t.size ≤ 20 ∧ e = .returned (.string t)) ∧ Below w.heap.size w w' := by
  go_enter Try.func42, Try.ntmps42
  go_wp2_with fail
  refine (l1Open_any B0 a len cap _ hB hc hl).mono ?_
  rintro e w1 ⟨rfl, hr1, hb1⟩
  go_wp2_with fail
  refine (DrawPutHead_any B0 a len cap _ (Nat.le_trans hB hb1.size) (hc.below (hb1.mono hB)) hl).mono ?_
  rintro e w2 ⟨⟨l, n, hn1, hn2, rfl⟩, hb2⟩
  have hr2 := hr1.full hb2
  go_wp2_with fail
  refine (once_any B0 _ a len cap 8 _ hr2 (by decide) (by decide)).mono ?_
  rintro e w3 ⟨⟨b, rfl⟩, hr3, hb3⟩
  replace hb3 := gb_trans (gb_full hb2 _) hb3
  cases b
  · go_wp2_with fail
    refine (specPutHead_any l n _).mono ?_
    rintro e w4 ⟨rfl, hb4⟩
    have hr4 := hr3.full hb4
    have hls : (⟨(putHead l n).toArray⟩ : ByteArray).size ≤ 10 := by
      have h1 := putHead_len l n
      have h2 : (⟨(putHead l n).toArray⟩ : ByteArray).size = (putHead l n).length := by show (putHead l n).toArray.size = _; simp
      omega
    generalize (⟨(putHead l n).toArray⟩ : ByteArray) = S at *
    go_wp2_with fail
    refine (put_any B0 _ a len cap S _ hr4 (by omega)).mono ?_
    rintro e w5 ⟨⟨t, ht, rfl⟩, hr5, hb5⟩
    go_wp2
    go_ret
    exact ⟨⟨t, by omega, rfl⟩, hb1.trans (gb_below (gb_trans hb3 (gb_trans (gb_full hb4 _) hb5)) (Nat.le_refl _) hr1.size)⟩
  · go_wp2_with fail
    have hsz3 := hr3.size
    refine (below_any B0 _ a len cap 7 _ (hr3.full ((Below.refl _ _).alloc (Nat.le_refl _) _)) (by decide) (by decide)).mono ?_
    rintro e w4 ⟨⟨m, hm, rfl⟩, hr4, hb4⟩
    obtain ⟨x, hx, hcx⟩ := tabS hb4 m (by show m < 7; omega) hsz3 rfl
    have hmi : (m : Int) < 7 := by omega
    replace hb4 := gb_trans (gb_full ((Below.refl _ _).alloc (Nat.le_refl _) _) _) hb4
    go_wp2
    go_ret
    exact ⟨⟨x, by omega, rfl⟩, hb1.trans (gb_below (gb_trans hb3 hb4) (Nat.le_refl _) hr1.size)⟩
end Go.Proofs.Ytmegoiggchghpaa
