/- What the laws on lengths lean on. -/
import Derived.Test.YtmegoiggchghpaaDraw
import Derived.Deep.RegionWith
import Derived.Lib.Strings
namespace Go.Proofs.Ytmegoiggchghpaa
open Go.RowKit
set_option linter.unusedVariables false
theorem varF_fuel : ∀ (f m : Nat), m < 2 ^ (7 * (f + 1)) → varF (f + 1) m = varF f m
  | 0, m, h => by rw [varF_small 1 m (by simpa using h)]; rfl
  | f + 1, m, h => by
    by_cases hs : m < 128
    · rw [varF_small _ _ hs, varF_small _ _ hs]
    · rw [varF_big _ _ hs, varF_big _ _ hs, varF_fuel f (m / 128) (by rw [show 7 * (f + 1 + 1) = 7 * (f + 1) + 7 from by omega, Nat.pow_add] at h; omega)]
theorem putVar_big (n : Nat) (hn : n < 18446744073709551616) (h : ¬ n < 128) : putVar n = vb n :: putVar (n / 128) := by
  unfold putVar
  rw [varF_big 9 n h, varF_fuel 9 (n / 128) (by rw [show (2 : Nat) ^ (7 * (9 + 1)) = 1180591620717411303424 from by decide]; omega)]
theorem vb_toNat (n : Nat) : (vb n).toNat = n % 128 + 128 := by
  unfold vb
  rw [UInt8.toNat_ofNat']
  omega
theorem putVar_small (n : Nat) (h : n < 128) : putVar n = [UInt8.ofNat n] := varF_small _ _ h
theorem varF_le : ∀ f n : Nat, (varF f n).length ≤ f + 1
  | 0, n => by simp [varF]
  | f + 1, n => by
    by_cases hs : n < 128
    · rw [varF_small _ _ hs]; simp
    · rw [varF_big _ _ hs, List.length_cons]; have := varF_le f (n / 128); omega
theorem big_any (a : Option Addr) (len cap : Nat) (w : World) (hl : len ≤ maxLen) : Calls Try.prog 9 #[.slice a len cap] w fun e w' => e = .returned (.bool (decide (1048576 < len))) ∧ w' = w := by
  unfold maxLen at hl
  by_cases h : 1048576 < len
  · rw [decide_eq_true h]
    go_enter Try.func9, Try.ntmps9
    go_wp2
    go_ret
    exact ⟨by simp; omega, rfl⟩
  · rw [decide_eq_false h]
    go_enter Try.func9, Try.ntmps9
    go_wp2
    go_ret
    exact ⟨by simp; omega, rfl⟩
theorem IsRow.len {k : IntKind} {w : World} {a : Option Addr} {len cap : Nat} {zs : List Int} (h : IsRow k w a len cap zs) : len ≤ maxLen := by
  rcases h with ⟨_, h0, _, _⟩ | ⟨x, _, hl, hm, _⟩
  · omega
  · omega
theorem below_step' {w W w3 : World} (h1 : Below w.heap.size w W) (h2 : Below W.heap.size W w3) : Below w.heap.size w w3 := h1.trans (h2.mono h1.size)
end Go.Proofs.Ytmegoiggchghpaa
