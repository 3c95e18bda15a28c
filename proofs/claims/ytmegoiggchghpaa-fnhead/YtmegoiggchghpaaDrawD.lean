/- More draws: contracts. -/
import Derived.Test.YtmegoiggchghpaaDrawB
import Derived.Deep.RegionHeld3
import Derived.Lib.QuietBelow
import Derived.BigQuiet
namespace Go.Proofs.Ytmegoiggchghpaa
open Go.RowKit
set_option linter.unusedVariables false
theorem shl_one (k : Int) (h1 : 1 ≤ k) (h7 : k ≤ 7) : ∃ M : Nat, 1 ≤ M ∧ IntKind.u64.wrap (2 ^ (8 * k).toNat) = (M : Int) := by
  obtain ⟨q, rfl⟩ := Int.eq_ofNat_of_zero_le (show 0 ≤ k by omega)
  refine ⟨2 ^ (8 * q), Nat.two_pow_pos _, ?_⟩
  have h2 : 2 ^ (8 * q) ≤ 2 ^ 56 := Nat.pow_le_pow_right (by decide) (by omega)
  have e : (2 : Int) ^ (8 * (q : Int)).toNat = ((2 ^ (8 * q) : Nat) : Int) := by
    rw [show (8 * (q : Int)).toNat = 8 * q from by omega]; simp
  rw [e, IntKind.wrap_u64]
  generalize 2 ^ (8 * q) = m at *
  omega
set_option maxRecDepth 100000 in
set_option maxHeartbeats 1000000 in
theorem DrawPutLe_any (B0 : Nat) (a : Option Addr) (len cap : Nat) (w : World) (hB : B0 ≤ w.heap.size) (hc : CodeAt B0 a len w) (hl : len ≤ 1048576) : Calls Try.prog 10 #[.slice a len cap] w fun e w' => (∃ n : Nat, ∃ k : Int, n < 18446744073709551616 ∧ -9223372036854775808 ≤ k ∧ k ≤ 9223372036854775807 ∧ e = .returned (.tuple #[.int .u64 n, .int .i64 k])) ∧ Below w.heap.size w w' := by
  go_enter Try.func10, Try.ntmps10
  go_wp2_with fail
  refine (l1Open_any B0 a len cap _ hB hc hl).mono ?_
  rintro e w1 ⟨rfl, hr1, hb1⟩
  go_wp2_with fail
  refine (off_any B0 _ a len cap 1 8 _ hr1 (by decide) (by decide) (by decide)).mono ?_
  rintro e w2 ⟨⟨k, hk1, hk2, rfl⟩, hr2, hb2⟩
  go_wp2_with fail
  refine (num_any B0 _ a len cap _ hr2).mono ?_
  rintro e w3 ⟨⟨n, hn, rfl⟩, hr3, hb3⟩
  go_wp2_with fail
  refine (once_any B0 _ a len cap 2 _ hr3 (by decide) (by decide)).mono ?_
  rintro e w4 ⟨⟨b, rfl⟩, hr4, hb4⟩
  have hbel : Below w.heap.size w w4 := hb1.trans (gb_below (gb_trans hb2 (gb_trans hb3 hb4)) (Nat.le_refl _) hr1.size)
  clear hr1 hb1 hr2 hb2 hr3 hb3 hr4 hb4 hB hc hl
  cases b
  · go_wp2
    go_ret2
    exact ⟨⟨n, k, hn, hk1, hk2, rfl⟩, hbel⟩
  · by_cases h17 : 1 ≤ k ∧ k ≤ 7
    · have HI : Hid _ := fun w => l1In_any k 1 7 w
      rw [decide_eq_true h17] at HI
      obtain ⟨h1, h7⟩ := h17
      obtain ⟨M, hM, hMe⟩ := shl_one k h1 h7
      have hMi : (1 : Int) ≤ (M : Int) := by omega
      go_wp2_with (go_at_call 50; refine (HI.out _).mono ?_; rintro e w5 ⟨rfl, rfl⟩)
      go_ret2
      exact ⟨⟨n % M, k, Nat.lt_of_le_of_lt (Nat.mod_le _ _) hn, hk1, hk2, by simp⟩, hbel⟩
    · have HI : Hid _ := fun w => l1In_any k 1 7 w
      rw [decide_eq_false h17] at HI
      clear h17
      go_wp2_with (go_at_call 50; refine (HI.out _).mono ?_; rintro e w5 ⟨rfl, rfl⟩)
      go_ret2
      exact ⟨⟨n, k, hn, hk1, hk2, rfl⟩, hbel⟩
set_option maxRecDepth 100000 in
set_option maxHeartbeats 1000000 in
theorem DrawGetLe_any (B0 : Nat) (a : Option Addr) (len cap : Nat) (w : World) (hB : B0 ≤ w.heap.size) (hc : CodeAt B0 a len w) (hl : len ≤ 1048576) : Calls Try.prog 12 #[.slice a len cap] w fun e w' => (∃ l : List UInt8, ∃ k : Int, l.length ≤ 10 ∧ -9223372036854775808 ≤ k ∧ k ≤ 9223372036854775807 ∧ e = .returned (.tuple #[.string ⟨l.toArray⟩, .int .i64 k])) ∧ Below w.heap.size w w' := by
  go_enter Try.func12, Try.ntmps12
  go_wp2_with fail
  refine (l1Open_any B0 a len cap _ hB hc hl).mono ?_
  rintro e w1 ⟨rfl, hr1, hb1⟩
  go_wp2_with fail
  refine (bytes_any B0 _ a len cap 10 _ hr1 (by decide)).mono ?_
  rintro e w2 ⟨⟨l, hl10, rfl⟩, hr2, hb2⟩
  go_wp2_with fail
  refine (off_any B0 _ a len cap 1 8 _ hr2 (by decide) (by decide) (by decide)).mono ?_
  rintro e w3 ⟨⟨k, hk1, hk2, rfl⟩, hr3, hb3⟩
  have hbel : Below w.heap.size w w3 := hb1.trans (gb_below (gb_trans hb2 hb3) (Nat.le_refl _) hr1.size)
  go_wp2
  go_ret2
  exact ⟨⟨l, k, hl10, hk1, hk2, rfl⟩, hbel⟩
theorem DrawPutBe_any (B0 : Nat) (a : Option Addr) (len cap : Nat) (w : World) (hB : B0 ≤ w.heap.size) (hc : CodeAt B0 a len w) (hl : len ≤ 1048576) : Calls Try.prog 16 #[.slice a len cap] w fun e w' => (∃ n : Nat, ∃ k : Int, n < 18446744073709551616 ∧ -9223372036854775808 ≤ k ∧ k ≤ 9223372036854775807 ∧ e = .returned (.tuple #[.int .u64 n, .int .i64 k])) ∧ Below w.heap.size w w' := by
  have HD : Hid _ := DrawPutLe_any B0 a len cap w hB hc hl
  go_enter Try.func16, Try.ntmps16
  go_wp2_with fail
  refine Calls.mono HD.out ?_
  rintro e w1 ⟨⟨n, k, hn, hk1, hk2, rfl⟩, hb⟩
  go_wp2
  go_ret2
  exact ⟨⟨n, k, hn, hk1, hk2, rfl⟩, hb⟩
theorem DrawGetBe_any (B0 : Nat) (a : Option Addr) (len cap : Nat) (w : World) (hB : B0 ≤ w.heap.size) (hc : CodeAt B0 a len w) (hl : len ≤ 1048576) : Calls Try.prog 18 #[.slice a len cap] w fun e w' => (∃ l : List UInt8, ∃ k : Int, l.length ≤ 10 ∧ -9223372036854775808 ≤ k ∧ k ≤ 9223372036854775807 ∧ e = .returned (.tuple #[.string ⟨l.toArray⟩, .int .i64 k])) ∧ Below w.heap.size w w' := by
  have HD : Hid _ := DrawGetLe_any B0 a len cap w hB hc hl
  go_enter Try.func18, Try.ntmps18
  go_wp2_with fail
  refine Calls.mono HD.out ?_
  rintro e w1 ⟨⟨l, k, hl10, hk1, hk2, rfl⟩, hb⟩
  go_wp2
  go_ret2
  exact ⟨⟨l, k, hl10, hk1, hk2, rfl⟩, hb⟩

theorem leL_cons0 (n k : Nat) : leL n (k + 1) = UInt8.ofNat n :: leL (n / 256) k := by
  unfold leL
  rw [List.range_succ_eq_map, List.map_cons, List.map_map]
  congr 1
  · simp [byt]
  · apply List.map_congr_left
    intro i _
    simp only [Function.comp, byt]
    rw [show 8 * (i + 1) = 8 + 8 * i from by omega, Nat.pow_add, ← Nat.div_div_eq_div_mul]
theorem leL_leV0 : ∀ l : List UInt8, leL (leV l) l.length = l
  | [] => rfl
  | b :: l => by
    have hb := b.toNat_lt
    rw [List.length_cons, leL_cons0]
    simp only [leV]
    rw [show (b.toNat + 256 * leV l) / 256 = leV l from by omega, leL_leV0 l]
    congr 1
    apply UInt8.toNat_inj.1
    rw [UInt8.toNat_ofNat']
    omega
theorem leL_take' (l : List UInt8) (k : Nat) (h : k ≤ l.length) : leL (leV (l.take k)) k = l.take k := by
  have := leL_leV0 (l.take k)
  rwa [List.length_take, Nat.min_eq_left h] at this
theorem leV_take_lt' (l : List UInt8) (k : Nat) (h : k ≤ l.length) : leV (l.take k) < 2 ^ (8 * k) := by
  have := leV_lt (l.take k)
  rwa [List.length_take, Nat.min_eq_left h] at this
theorem leV_leL : ∀ (n k : Nat), n < 2 ^ (8 * k) → leV (leL n k) = n
  | n, 0, h => by simp [leL, leV] at h ⊢; omega
  | n, k + 1, h => by
    rw [leL_cons0, leV]
    rw [leV_leL (n / 256) k (by rw [show 8 * (k + 1) = 8 * k + 8 from by omega, Nat.pow_add] at h; omega), UInt8.toNat_ofNat']
    omega
end Go.Proofs.Ytmegoiggchghpaa
