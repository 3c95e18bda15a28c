/- The highest byte first: plain facts. -/
import Derived.Test.YtmegoiggchghpaaDrawD
namespace Go.Proofs.Ytmegoiggchghpaa
open Go.RowKit
set_option linter.unusedVariables false
theorem less_be : ∀ x y : List UInt8, x.length = y.length → Op.bytesLess x y = decide (leV x.reverse < leV y.reverse)
  | [], [], _ => by simp [Op.bytesLess, leV]
  | [], b :: y, h => by simp at h
  | a :: x, [], h => by simp at h
  | a :: x, b :: y, h => by
    have hl : x.length = y.length := by simpa using h
    have hx := leV_lt x.reverse
    have hy := leV_lt y.reverse
    rw [List.length_reverse] at hx hy
    rw [List.reverse_cons, List.reverse_cons, leV_snoc, leV_snoc, List.length_reverse, List.length_reverse, ← hl]
    rw [← hl] at hy
    simp only [Op.bytesLess]
    rw [less_be x y hl]
    generalize 2 ^ (8 * x.length) = M at *
    generalize leV x.reverse = X at *
    generalize leV y.reverse = Y at *
    rcases Nat.lt_trichotomy a.toNat b.toNat with h1 | h1 | h1
    · have e1 : a < b := h1
      have e2 : (a.toNat + 1) * M ≤ b.toNat * M := Nat.mul_le_mul_right _ h1
      rw [Nat.add_mul, Nat.one_mul] at e2
      rw [decide_eq_true e1, Bool.true_or, decide_eq_true (by omega)]
    · have e1 : a = b := UInt8.toNat_inj.1 h1
      subst e1
      simp
    · have e1 : ¬ a < b := fun h => by have : a.toNat < b.toNat := h; omega
      have e2 : (b.toNat + 1) * M ≤ a.toNat * M := Nat.mul_le_mul_right _ h1
      have e3 : (a == b) = false := by rw [beq_eq_false_iff_ne]; intro h; subst h; omega
      rw [Nat.add_mul, Nat.one_mul] at e2
      rw [decide_eq_false e1, e3, Bool.false_and, Bool.false_or, decide_eq_false (by omega)]
theorem less_leL (m n q : Nat) (hm : m < 2 ^ (8 * q)) (hn : n < 2 ^ (8 * q)) : Op.bytesLess (leL m q).reverse (leL n q).reverse = decide (m < n) := by
  rw [less_be _ _ (by simp [leL_len]), List.reverse_reverse, List.reverse_reverse, leV_leL m q hm, leV_leL n q hn]
theorem eq_leL (m n q : Nat) (hm : m < 2 ^ (8 * q)) (hn : n < 2 ^ (8 * q)) : ((leL m q).reverse == (leL n q).reverse) = decide (m = n) := by
  by_cases h : m = n
  · subst h; simp
  · rw [decide_eq_false h, beq_eq_false_iff_ne]
    intro e
    have := congrArg (fun l => leV l.reverse) e
    simp only [List.reverse_reverse] at this
    rw [leV_leL m q hm, leV_leL n q hn] at this
    exact h this
theorem back_take (t : List UInt8) (q : Nat) (h : q ≤ t.length) : (leL (leV (t.take q).reverse) q).reverse = t.take q := by
  have := leL_leV0 (t.take q).reverse
  rw [List.length_reverse, List.length_take, Nat.min_eq_left h] at this
  rw [this, List.reverse_reverse]
theorem leV_rev_lt' (l : List UInt8) (k : Nat) (h : k ≤ l.length) : leV (l.take k).reverse < 2 ^ (8 * k) := by
  have := leV_lt (l.take k).reverse
  rwa [List.length_reverse, List.length_take, Nat.min_eq_left h] at this
theorem Calls.below_of_same {P : Program} {f : FuncId} {args : Array Value} {w : World} {v : Value} (h : Calls P f args w fun e w' => e = .returned v ∧ w' = w) : Calls P f args w fun e w' => e = .returned v ∧ Below w.heap.size w w' :=
  h.mono fun _ _ ⟨he, hw⟩ => ⟨he, by rw [hw]; exact Below.refl _ _⟩
/-- The two writings, byte against byte. -/
theorem turned (n q : Nat) (i : Nat) (hi : i < q) (L S : ByteArray) (hL : L = ⟨(leL n q).toArray⟩) (hS : S = ⟨(leL n q).reverse.toArray⟩) (h1 : i < L.size) (h2 : q - 1 - i < S.size) : L[i] = S[q - 1 - i] := by
  subst hL; subst hS
  have hl := leL_len n q
  show (leL n q).toArray[i]'_ = (leL n q).reverse.toArray[q - 1 - i]'_
  simp [List.getElem_reverse, hl]
  congr 1
  omega
end Go.Proofs.Ytmegoiggchghpaa
