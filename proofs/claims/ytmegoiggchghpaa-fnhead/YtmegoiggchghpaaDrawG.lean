/- Draws of bytes that are read: put, and the draws. -/
import Derived.Test.YtmegoiggchghpaaDrawE
import Derived.Test.YtmegoiggchghpaaDrawC
namespace Go.Proofs.Ytmegoiggchghpaa
open Go.RowKit
set_option linter.unusedVariables false
set_option maxRecDepth 100000 in
set_option maxHeartbeats 1000000 in
theorem put_any (B0 B : Nat) (a : Option Addr) (len cap : Nat) (s : ByteArray) (w : World) (h : RdAt B0 B a len cap w) (hs : s.size ≤ 100) : Calls Try.prog 63 #[.pointer (some ⟨B, 0, none⟩), .string s] w fun e w' => (∃ t : ByteArray, t.size ≤ s.size + 10 ∧ e = .returned (.string t)) ∧ RdAt B0 B a len cap w' ∧ w.grownBy w' (some B) := by
  have hsi : (s.size : Int) ≤ 100 := by omega
  go_enter Try.func63, Try.ntmps63
  go_wp2_with fail
  refine (below_any B0 B a len cap 6 _ h (by decide) (by decide)).mono ?_
  rintro e w1 ⟨⟨m, hm, rfl⟩, hr1, hb1⟩
  by_cases m0 : m = 0
  · subst m0
    go_wp2_with fail
    refine (hurt_any B0 B a len cap s _ hr1 (by omega)).mono ?_
    rintro e w2 ⟨⟨t, ht, rfl⟩, hr2, hb2⟩
    go_wp2
    go_ret
    exact ⟨⟨t, by omega, rfl⟩, hr2, gb_trans hb1 hb2⟩
  · have i0 : ((m : Int) == 0) = false := by rw [beq_eq_false_iff_ne]; omega
    have i0' : (m == 0) = false := by rw [beq_eq_false_iff_ne]; omega
    by_cases m1 : m = 1
    · subst m1
      go_wp2_with fail
      refine (below_any B0 B a len cap _ _ hr1 (by omega) (by omega)).mono ?_
      rintro e w2 ⟨⟨v, hv, rfl⟩, hr2, hb2⟩
      have hvi : (v : Int) ≤ (s.size : Int) := by omega
      go_wp2
      go_ret
      exact ⟨⟨s.extract 0 v, by simp; omega, rfl⟩, hr2, gb_trans hb1 hb2⟩
    · have i1 : ((m : Int) == 1) = false := by rw [beq_eq_false_iff_ne]; omega
      by_cases m2 : m = 2
      · subst m2
        go_wp2_with fail
        refine (bytes_any B0 B a len cap 10 _ hr1 (by decide)).mono ?_
        rintro e w2 ⟨⟨l, hl, rfl⟩, hr2, hb2⟩
        go_wp2
        go_ret
        have hls : (⟨l.toArray⟩ : ByteArray).size = l.length := by show l.toArray.size = _; simp
        exact ⟨⟨⟨l.toArray⟩, by omega, rfl⟩, hr2, gb_trans hb1 hb2⟩
      · have i2 : ((m : Int) == 2) = false := by rw [beq_eq_false_iff_ne]; omega
        go_wp2_with fail
        refine (bytes_any B0 B a len cap 2 _ hr1 (by decide)).mono ?_
        rintro e w2 ⟨⟨l, hl, rfl⟩, hr2, hb2⟩
        have hls : (⟨l.toArray⟩ : ByteArray).size ≤ 2 := by simpa [ByteArray.size] using hl
        generalize (⟨l.toArray⟩ : ByteArray) = L at *
        go_wp2
        go_ret
        exact ⟨⟨s ++ L, by simp; omega, rfl⟩, hr2, gb_trans hb1 hb2⟩
theorem putSize_len' (n : Nat) (h : n < 18446744073709551616) : (putSize n).length ≤ 9 := putSize_nine n
def shortStr : Value → Bool
  | .string x => decide (x.size ≤ 10)
  | _ => false
theorem tabS {w w3 : World} {B T : Nat} {vs : Array Value} (hb : (w.alloc (Obj.cells vs T)).grownBy w3 (some B)) (m : Nat) (hm : m < vs.size) (hB : B < w.heap.size) (H : vs.toList.all shortStr = true) : ∃ x : ByteArray, x.size ≤ 10 ∧ w3.cell? ⟨w.heap.size, m, none⟩ = some (.string x) := by
  rw [gb_cell hb (p := ⟨w.heap.size, m, none⟩) (by simp) (by simp; omega), World.cell?_alloc_new]
  have h1 := List.all_eq_true.1 H vs[m] (by simp)
  cases hv : vs[m] with
  | string x =>
    rw [hv] at h1
    refine ⟨x, by simpa [shortStr] using h1, ?_⟩
    rw [← hv]
    simp [hm]
  | _ => rw [hv] at h1; simp [shortStr] at h1
set_option maxRecDepth 100000 in
set_option maxHeartbeats 1000000 in
theorem DrawGetVarint_any (B0 : Nat) (a : Option Addr) (len cap : Nat) (w : World) (hB : B0 ≤ w.heap.size) (hc : CodeAt B0 a len w) (hl : len ≤ 1048576) : Calls Try.prog 24 #[.slice a len cap] w fun e w' => (∃ t : ByteArray, t.size ≤ 20 ∧ e = .returned (.string t)) ∧ Below w.heap.size w w' := by
  go_enter Try.func24, Try.ntmps24
  go_wp2_with fail
  refine (l1Open_any B0 a len cap _ hB hc hl).mono ?_
  rintro e w1 ⟨rfl, hr1, hb1⟩
  go_wp2_with fail
  refine (once_any B0 _ a len cap 8 _ hr1 (by decide) (by decide)).mono ?_
  rintro e w2 ⟨⟨b, rfl⟩, hr2, hb2⟩
  cases b
  · go_wp2_with fail
    refine (num_any B0 _ a len cap _ hr2).mono ?_
    rintro e w3 ⟨⟨n, hn, rfl⟩, hr3, hb3⟩
    go_wp2_with fail
    refine (specPutVarint_any n _ hn).mono ?_
    rintro e w4 ⟨rfl, hb4⟩
    have hr4 := hr3.full hb4
    have hls : (⟨(putVar n).toArray⟩ : ByteArray).size ≤ 10 := by
      have h1 := putVar_ten n hn
      have h2 : (⟨(putVar n).toArray⟩ : ByteArray).size = (putVar n).length := by show (putVar n).toArray.size = _; simp
      omega
    generalize (⟨(putVar n).toArray⟩ : ByteArray) = S at *
    go_wp2_with fail
    refine (put_any B0 _ a len cap S _ hr4 (by omega)).mono ?_
    rintro e w5 ⟨⟨t, ht, rfl⟩, hr5, hb5⟩
    go_wp2
    go_ret
    exact ⟨⟨t, by omega, rfl⟩, hb1.trans (gb_below (gb_trans hb2 (gb_trans hb3 (gb_trans (gb_full hb4 _) hb5))) (Nat.le_refl _) hr1.size)⟩
  · go_wp2_with fail
    have hsz2 := hr2.size
    refine (below_any B0 _ a len cap 6 _ (hr2.full ((Below.refl _ _).alloc (Nat.le_refl _) _)) (by decide) (by decide)).mono ?_
    rintro e w3 ⟨⟨m, hm, rfl⟩, hr3, hb3⟩
    obtain ⟨x, hx, hcx⟩ := tabS hb3 m (by show m < 6; omega) hsz2 rfl
    have hmi : (m : Int) < 6 := by omega
    replace hb3 := gb_trans (gb_full ((Below.refl _ _).alloc (Nat.le_refl _) _) _) hb3
    go_wp2
    go_ret
    exact ⟨⟨x, by omega, rfl⟩, hb1.trans (gb_below (gb_trans hb2 hb3) (Nat.le_refl _) hr1.size)⟩
set_option maxRecDepth 100000 in
set_option maxHeartbeats 1000000 in
theorem DrawGetSize_any (B0 : Nat) (a : Option Addr) (len cap : Nat) (w : World) (hB : B0 ≤ w.heap.size) (hc : CodeAt B0 a len w) (hl : len ≤ 1048576) : Calls Try.prog 30 #[.slice a len cap] w fun e w' => (∃ t : ByteArray, t.size ≤ 20 ∧ e = .returned (.string t)) ∧ Below w.heap.size w w' := by
  go_enter Try.func30, Try.ntmps30
  go_wp2_with fail
  refine (l1Open_any B0 a len cap _ hB hc hl).mono ?_
  rintro e w1 ⟨rfl, hr1, hb1⟩
  go_wp2_with fail
  refine (once_any B0 _ a len cap 8 _ hr1 (by decide) (by decide)).mono ?_
  rintro e w2 ⟨⟨b, rfl⟩, hr2, hb2⟩
  cases b
  · go_wp2_with fail
    refine (num_any B0 _ a len cap _ hr2).mono ?_
    rintro e w3 ⟨⟨n, hn, rfl⟩, hr3, hb3⟩
    go_wp2_with fail
    refine (specPutSize_any n _ hn).mono ?_
    rintro e w4 ⟨rfl, hb4⟩
    have hr4 := hr3.full hb4
    have hls : (⟨(putSize n).toArray⟩ : ByteArray).size ≤ 10 := by
      have h1 := putSize_len' n hn
      have h2 : (⟨(putSize n).toArray⟩ : ByteArray).size = (putSize n).length := by show (putSize n).toArray.size = _; simp
      omega
    generalize (⟨(putSize n).toArray⟩ : ByteArray) = S at *
    go_wp2_with fail
    refine (put_any B0 _ a len cap S _ hr4 (by omega)).mono ?_
    rintro e w5 ⟨⟨t, ht, rfl⟩, hr5, hb5⟩
    go_wp2
    go_ret
    exact ⟨⟨t, by omega, rfl⟩, hb1.trans (gb_below (gb_trans hb2 (gb_trans hb3 (gb_trans (gb_full hb4 _) hb5))) (Nat.le_refl _) hr1.size)⟩
  · go_wp2_with fail
    have hsz2 := hr2.size
    refine (below_any B0 _ a len cap 5 _ (hr2.full ((Below.refl _ _).alloc (Nat.le_refl _) _)) (by decide) (by decide)).mono ?_
    rintro e w3 ⟨⟨m, hm, rfl⟩, hr3, hb3⟩
    obtain ⟨x, hx, hcx⟩ := tabS hb3 m (by show m < 5; omega) hsz2 rfl
    have hmi : (m : Int) < 5 := by omega
    replace hb3 := gb_trans (gb_full ((Below.refl _ _).alloc (Nat.le_refl _) _) _) hb3
    go_wp2
    go_ret
    exact ⟨⟨x, by omega, rfl⟩, hb1.trans (gb_below (gb_trans hb2 hb3) (Nat.le_refl _) hr1.size)⟩
set_option maxRecDepth 100000 in
set_option maxHeartbeats 1000000 in
theorem DrawGetCompact_any (B0 : Nat) (a : Option Addr) (len cap : Nat) (w : World) (hB : B0 ≤ w.heap.size) (hc : CodeAt B0 a len w) (hl : len ≤ 1048576) : Calls Try.prog 36 #[.slice a len cap] w fun e w' => (∃ t : ByteArray, t.size ≤ 20 ∧ e = .returned (.string t)) ∧ Below w.heap.size w w' := by
  go_enter Try.func36, Try.ntmps36
  go_wp2_with fail
  refine (l1Open_any B0 a len cap _ hB hc hl).mono ?_
  rintro e w1 ⟨rfl, hr1, hb1⟩
  go_wp2_with fail
  refine (once_any B0 _ a len cap 8 _ hr1 (by decide) (by decide)).mono ?_
  rintro e w2 ⟨⟨b, rfl⟩, hr2, hb2⟩
  cases b
  · go_wp2_with fail
    refine (num_any B0 _ a len cap _ hr2).mono ?_
    rintro e w3 ⟨⟨n, hn, rfl⟩, hr3, hb3⟩
    go_wp2_with fail
    refine (specPutCompact_any n _ hn).mono ?_
    rintro e w4 ⟨rfl, hb4⟩
    have hr4 := hr3.full hb4
    have hls : (⟨(putCompact n).toArray⟩ : ByteArray).size ≤ 10 := by
      have h1 := putCompact_nine n hn
      have h2 : (⟨(putCompact n).toArray⟩ : ByteArray).size = (putCompact n).length := by show (putCompact n).toArray.size = _; simp
      omega
    generalize (⟨(putCompact n).toArray⟩ : ByteArray) = S at *
    go_wp2_with fail
    refine (put_any B0 _ a len cap S _ hr4 (by omega)).mono ?_
    rintro e w5 ⟨⟨t, ht, rfl⟩, hr5, hb5⟩
    go_wp2
    go_ret
    exact ⟨⟨t, by omega, rfl⟩, hb1.trans (gb_below (gb_trans hb2 (gb_trans hb3 (gb_trans (gb_full hb4 _) hb5))) (Nat.le_refl _) hr1.size)⟩
  · go_wp2_with fail
    have hsz2 := hr2.size
    refine (below_any B0 _ a len cap 6 _ (hr2.full ((Below.refl _ _).alloc (Nat.le_refl _) _)) (by decide) (by decide)).mono ?_
    rintro e w3 ⟨⟨m, hm, rfl⟩, hr3, hb3⟩
    obtain ⟨x, hx, hcx⟩ := tabS hb3 m (by show m < 6; omega) hsz2 rfl
    have hmi : (m : Int) < 6 := by omega
    replace hb3 := gb_trans (gb_full ((Below.refl _ _).alloc (Nat.le_refl _) _) _) hb3
    go_wp2
    go_ret
    exact ⟨⟨x, by omega, rfl⟩, hb1.trans (gb_below (gb_trans hb2 hb3) (Nat.le_refl _) hr1.size)⟩
end Go.Proofs.Ytmegoiggchghpaa
