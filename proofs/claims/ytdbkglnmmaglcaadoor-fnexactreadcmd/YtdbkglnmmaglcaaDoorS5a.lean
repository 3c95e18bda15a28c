/- The text of a value as a list of bytes. -/
import Derived.Test.YtdbkglnmmaglcaaDoorPv
import Derived.Lib.ItoaNum
import Derived.Lib.Join
namespace Go.Proofs.YtdbkglnmmaglcaaDoor
set_option linter.unusedVariables false
/-- The digits of a byte, two of them. -/
def hexD : List UInt8 := [48, 49, 50, 51, 52, 53, 54, 55, 56, 57, 97, 98, 99, 100, 101, 102]
def hx (n : Nat) : UInt8 := hexD.getD n 0
def hexL : List UInt8 → List UInt8
  | [] => []
  | b :: l => hx (b.toNat / 16) :: hx (b.toNat % 16) :: hexL l
theorem hexL_append (a b : List UInt8) : hexL (a ++ b) = hexL a ++ hexL b := by
  induction a with
  | nil => rfl
  | cons x a ih => simp [hexL, ih]
theorem hexL_len (a : List UInt8) : (hexL a).length = 2 * a.length := by
  induction a with
  | nil => rfl
  | cons x a ih => simp only [hexL, List.length_cons, ih]; omega
theorem hexL_snoc (s : ByteArray) (j : Nat) (h : j < s.size) : hexL (s.data.toList.take (j + 1)) = hexL (s.data.toList.take j) ++ [hx (s[j].toNat / 16), hx (s[j].toNat % 16)] := by
  have h' : j < s.data.toList.length := by rw [Array.length_toList]; exact h
  rw [List.take_succ_eq_append_getElem h', hexL_append]
  rfl
/-- May an item be, by itself? -/
def aloneI (x : It) : Bool :=
  if x.k = 2 ∨ x.k = 8 then decide (x.s.size = 0) && decide (x.n ≤ 1) else if x.k = 3 ∨ x.k = 4 then decide (x.n = 0) else decide (1 ≤ x.k ∧ x.k ≤ 9) && decide (x.s.size = 0)
/-- Its text. -/
def itText (x : It) : List UInt8 :=
  if x.k = 1 then Lib.decDigits x.n else if x.k = 2 then (if x.n = 0 then [102] else [116]) else if x.k = 3 then 98 :: 58 :: hexL x.s.data.toList else if x.k = 4 then 120 :: 58 :: hexL x.s.data.toList
  else if x.k = 5 then 108 :: Lib.decDigits x.n else if x.k = 6 then 118 :: Lib.decDigits x.n else if x.k = 7 then 115 :: Lib.decDigits x.n
  else if x.k = 8 then (if x.n = 0 then [110, 111, 110, 101] else [115, 111, 109, 101]) else 99 :: Lib.decDigits x.n
def vText (vs : List It) : List UInt8 := if decide (0 < vs.length) && (decide (vs.length ≤ 200) && vs.all aloneI) then Lib.join (vs.map itText) [32] else []
theorem decDigits_ne (u : Nat) : Lib.decDigits u ≠ [] := by
  rw [Lib.decDigits]
  split <;> simp
theorem itText_ne (x : It) : itText x ≠ [] := by
  unfold itText
  repeat' split
  all_goals first | exact decDigits_ne _ | simp
theorem decDigits_len {u : Nat} (h : u < 18446744073709551616) : (Lib.decDigits u).length ≤ 20 := by
  have key : ∀ (k : Nat) u, u < 10 ^ (k + 1) → (Lib.decDigits u).length ≤ k + 1 := by
    intro k
    induction k with
    | zero => intro u hu; rw [Lib.decDigits, dif_pos (by simpa using hu)]; simp
    | succ k ih =>
      intro u hu
      by_cases h : u < 10
      · rw [Lib.decDigits, dif_pos h]; simp
      · rw [Lib.decDigits, dif_neg h, List.length_append]
        have := ih (u / 10) (by rw [Nat.pow_succ] at hu; omega)
        simp; omega
  exact key 19 u (by omega)
end Go.Proofs.YtdbkglnmmaglcaaDoor
