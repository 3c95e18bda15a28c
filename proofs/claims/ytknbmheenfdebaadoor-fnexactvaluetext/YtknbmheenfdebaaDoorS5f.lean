/- The specification's text of an item: contracts. -/
import Derived.Test.YtknbmheenfdebaaDoorS5e
import Derived.Test.YtknbmheenfdebaaDoorSI
namespace Go.Proofs.YtknbmheenfdebaaDoor
open Go.RowKit Go.Sort
set_option linter.unusedVariables false
theorem l1InV_any (n a b : Int) (w : World) : Calls Tryd.prog 16 #[.int .i64 n, .int .i64 a, .int .i64 b] w fun e w' => e = .returned (.bool (decide (a ≤ n ∧ n ≤ b))) ∧ w' = w := by
  by_cases h1 : a ≤ n <;> by_cases h2 : n ≤ b
  all_goals
    go_enter Tryd.func16, Tryd.ntmps16
    go_wp2
    go_ret
    exact ⟨by simp [h1, h2], rfl⟩
set_option maxHeartbeats 2000000 in
theorem l3Alone_any (x : It) (w : World) (hm : x.n < 18446744073709551616) : Calls Tryd.prog 10 #[.agg #[.int .i64 x.k, .int .u64 x.n, .string x.s]] w fun e w' => e = .returned (.bool (aloneI x)) ∧ Below w.heap.size w w' := by
  obtain ⟨k, m, s⟩ := x
  simp only at hm ⊢
  have hse := str_empty s
  obtain ⟨A, hA⟩ : ∃ A, aloneI ⟨k, m, s⟩ = A := ⟨_, rfl⟩
  have HA : Hid (aloneI ⟨k, m, s⟩ = A) := hA
  rw [hA]
  clear hA
  by_cases hk28 : k = 2 ∨ k = 8
  · have HR : Hid (A = (s.toList.isEmpty && decide (m ≤ 1))) := by
      show _ = _
      rw [← HA.out, hse]; unfold aloneI; rw [if_pos hk28]
    clear HA hse
    cases hE : s.toList.isEmpty with
    | false =>
      rw [hE] at HR
      rcases hk28 with rfl | rfl
      all_goals
        go_enter Tryd.func10, Tryd.ntmps10
        go_wp2_with fail
        go_ret
        exact ⟨by rw [HR.out]; try rfl, bel1 _ _⟩
    | true =>
      rw [hE] at HR
      rcases hk28 with rfl | rfl
      all_goals
        go_enter Tryd.func10, Tryd.ntmps10
        go_wp2_with fail
        go_ret
        exact ⟨by rw [HR.out]; simp; omega, bel1 _ _⟩
  · have b2 := beqF (show k ≠ 2 by omega)
    have b8 := beqF (show k ≠ 8 by omega)
    by_cases hk34 : k = 3 ∨ k = 4
    · have HR : Hid (A = decide (m = 0)) := by
        show _ = _
        rw [← HA.out]; unfold aloneI; rw [if_neg hk28, if_pos hk34]
      clear HA hse b2 b8 hk28
      rcases hk34 with rfl | rfl
      all_goals
        go_enter Tryd.func10, Tryd.ntmps10
        go_wp2_with fail
        go_ret
        exact ⟨by rw [HR.out]; exact ret_b (by simp [beq_dec] <;> omega), bel1 _ _⟩
    · have b3 := beqF (show k ≠ 3 by omega)
      have b4 := beqF (show k ≠ 4 by omega)
      have HR : Hid (A = (decide (1 ≤ k ∧ k ≤ 9) && s.toList.isEmpty)) := by
        show _ = _
        rw [← HA.out, hse]; unfold aloneI; rw [if_neg hk28, if_neg hk34]
      obtain ⟨D, hD⟩ : ∃ D, decide (1 ≤ k ∧ k ≤ 9) = D := ⟨_, rfl⟩
      have HC : Hid (∀ w, Calls Tryd.prog 16 #[.int .i64 k, .int .i64 1, .int .i64 9] w fun e w' => e = .returned (.bool D) ∧ w' = w) := fun w => by have := l1InV_any k 1 9 w; rwa [hD] at this
      rw [hD] at HR
      clear HA hse hk28 hk34 hD
      cases D with
      | false =>
        go_enter Tryd.func10, Tryd.ntmps10
        go_wp2_with fail
        refine (HC.out _).mono ?_
        rintro e w1 ⟨rfl, rfl⟩
        go_wp2_with fail
        go_ret
        exact ⟨by rw [HR.out]; try rfl, bel1 _ _⟩
      | true =>
        go_enter Tryd.func10, Tryd.ntmps10
        go_wp2_with fail
        refine (HC.out _).mono ?_
        rintro e w1 ⟨rfl, rfl⟩
        go_wp2_with fail
        go_ret
        exact ⟨by rw [HR.out]; simp, bel1 _ _⟩
theorem data_mk (l : List UInt8) : (⟨l.toArray⟩ : ByteArray).data.toList = l := rfl
theorem cat_mk (a b : List UInt8) : (⟨a.toArray⟩ : ByteArray) ++ ⟨b.toArray⟩ = ⟨(a ++ b).toArray⟩ := by apply ByteArray.ext; simp
end Go.Proofs.YtknbmheenfdebaaDoor
