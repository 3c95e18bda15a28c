/- Numbers read and written in k bytes: contracts. -/
import Derived.Test.YtocealohiflheaaDoorL1a
import Derived.Lib.Strings
namespace Go.Proofs.YtocealohiflheaaDoor
open Go.RowKit
set_option linter.unusedVariables false
/-- How many bytes a number needs. -/
def by8 (n : Nat) : Nat := (bl n + 7) / 8
theorem by8_le (n k : Nat) : by8 n ≤ k ↔ n < 2 ^ (8 * k) := by
  rw [← bl_le]; unfold by8; omega
def lowFirst_end (l : List UInt8) : List UInt8 := l
def highFirst_end (l : List UInt8) : List UInt8 := l.reverse
def putLe (n : Nat) (k : Int) : List UInt8 := if 1 ≤ k ∧ k ≤ 8 ∧ n < 2 ^ (8 * k.toNat) then leL n k.toNat else []
theorem putLe_yes (n q : Nat) (h1 : 1 ≤ q) (h2 : q ≤ 8) (hf : n < 2 ^ (8 * q)) : putLe n q = leL n q := by
  unfold putLe; rw [if_pos ⟨by omega, by omega, by simpa using hf⟩]; rfl
theorem putLe_big (n q : Nat) (hf : ¬ n < 2 ^ (8 * q)) : putLe n q = [] := by
  unfold putLe; rw [if_neg (by simp; intro _ _; omega)]
theorem putLe_no (n : Nat) (k : Int) (hk : ¬ (1 ≤ k ∧ k ≤ 8)) : putLe n k = [] := by
  unfold putLe; rw [if_neg (by intro h; exact hk ⟨h.1, h.2.1⟩)]
/-- The number that bytes make, the lowest first. -/
def leV : List UInt8 → Nat
  | [] => 0
  | b :: l => b.toNat + 256 * leV l
theorem leV_lt : ∀ l : List UInt8, leV l < 2 ^ (8 * l.length)
  | [] => by simp [leV]
  | b :: l => by
    have h := leV_lt l
    have hb := b.toNat_lt
    simp only [leV, List.length_cons]
    rw [show 8 * (l.length + 1) = 8 * l.length + 8 from by omega, Nat.pow_add]
    omega
theorem leV_snoc : ∀ (l : List UInt8) (b : UInt8), leV (l ++ [b]) = leV l + b.toNat * 2 ^ (8 * l.length)
  | [], b => by simp [leV]
  | c :: l, b => by
    simp only [leV, List.cons_append, leV_snoc l b, List.length_cons]
    rw [show 8 * (l.length + 1) = 8 * l.length + 8 from by omega, Nat.pow_add, Nat.mul_add, ← Nat.mul_assoc]
    have : b.toNat * 2 ^ (8 * l.length) * 2 ^ 8 = 256 * b.toNat * 2 ^ (8 * l.length) := by
      rw [Nat.mul_comm (256 * b.toNat), Nat.mul_comm (b.toNat), Nat.mul_assoc, Nat.mul_comm b.toNat]
    rw [show b.toNat * (2 ^ (8 * l.length) * 2 ^ 8) = b.toNat * 2 ^ (8 * l.length) * 2 ^ 8 from by rw [Nat.mul_assoc], this]
    omega
theorem take_snoc (s : ByteArray) (k : Nat) (h : k < s.size) : s.data.toList.take (k + 1) = s.data.toList.take k ++ [s[k]] := by
  rw [List.take_succ_eq_append_getElem (by simpa using h)]; rfl
theorem lenTake (s : ByteArray) (k : Nat) (h : k ≤ s.size) : (s.data.toList.take k).length = k := by
  rw [List.length_take, Array.length_toList]; exact Nat.min_eq_left h
theorem drop_take_cons (s : ByteArray) (k q : Nat) (hq : q < k) (hk : k ≤ s.size) : (s.data.toList.take k).drop q = s[q]'(by omega) :: (s.data.toList.take k).drop (q + 1) := by
  have h' : q < (s.data.toList.take k).length := by rw [lenTake s k hk]; exact hq
  rw [List.drop_eq_getElem_cons h']
  congr 1
  simp
  rfl
theorem drop_take_rev (s : ByteArray) (k q : Nat) (hq : q < k) (hk : k ≤ s.size) : ((s.data.toList.take k).drop (q + 1)).reverse ++ [s[q]'(by omega)] = ((s.data.toList.take k).drop q).reverse := by
  have h' : q < (s.data.toList.take k).length := by rw [lenTake s k hk]; exact hq
  rw [List.drop_eq_getElem_cons h', List.reverse_cons]
  congr 2
  simp
  rfl
/-- One byte more, above those that are there. -/
theorem join_u64 (x : Nat) (b : UInt8) (j : Nat) (hx : x < 2 ^ (8 * j)) (hj : j < 8) : bits .or .u64 (x : Int) (IntKind.u64.wrap (IntKind.u64.wrap (b.toNat : Int) * 2 ^ (8 * j))) = ((x + b.toNat * 2 ^ (8 * j) : Nat) : Int) := by
  have hb := b.toNat_lt
  have hp : 0 < 2 ^ (8 * j) := Nat.two_pow_pos _
  have h1 : 2 ^ (8 * j) * 256 ≤ 18446744073709551616 := by
    have : 2 ^ (8 * j + 8) ≤ 2 ^ 64 := Nat.pow_le_pow_right (by decide) (by omega)
    rw [Nat.pow_add] at this
    exact this
  have h2 : b.toNat * 2 ^ (8 * j) ≤ 255 * 2 ^ (8 * j) := Nat.mul_le_mul_right _ (by omega)
  have e0 : IntKind.u64.wrap (b.toNat : Int) = (b.toNat : Int) := by rw [IntKind.wrap_u64]; omega
  have e1 : ((b.toNat : Int) * 2 ^ (8 * j)) = ((b.toNat * 2 ^ (8 * j) : Nat) : Int) := by simp
  rw [e0, e1]
  generalize hm : b.toNat * 2 ^ (8 * j) = m at *
  have e2 : IntKind.u64.wrap (m : Int) = (m : Int) := by rw [IntKind.wrap_u64]; omega
  rw [e2, u64_or_nat _ _ (by omega) (by omega)]
  have e3 : m ||| x = m + x := nat_join (8 * j) m x (by rw [← hm]; simp) hx
  rw [Nat.or_comm, e3, Nat.add_comm]
/-- One byte more, above those that are there. -/
theorem join_u32 (x : Nat) (b : UInt8) (j : Nat) (hx : x < 2 ^ (8 * j)) (hj : j < 4) : bits .or .u32 (x : Int) (IntKind.u32.wrap (IntKind.u32.wrap (b.toNat : Int) * 2 ^ (8 * j))) = ((x + b.toNat * 2 ^ (8 * j) : Nat) : Int) := by
  have hb := b.toNat_lt
  have hp : 0 < 2 ^ (8 * j) := Nat.two_pow_pos _
  have h1 : 2 ^ (8 * j) * 256 ≤ 4294967296 := by
    have : 2 ^ (8 * j + 8) ≤ 2 ^ 32 := Nat.pow_le_pow_right (by decide) (by omega)
    rw [Nat.pow_add] at this
    exact this
  have h2 : b.toNat * 2 ^ (8 * j) ≤ 255 * 2 ^ (8 * j) := Nat.mul_le_mul_right _ (by omega)
  have e0 : IntKind.u32.wrap (b.toNat : Int) = (b.toNat : Int) := by rw [IntKind.wrap_u32]; omega
  have e1 : ((b.toNat : Int) * 2 ^ (8 * j)) = ((b.toNat * 2 ^ (8 * j) : Nat) : Int) := by simp
  rw [e0, e1]
  generalize hm : b.toNat * 2 ^ (8 * j) = m at *
  have e2 : IntKind.u32.wrap (m : Int) = (m : Int) := by rw [IntKind.wrap_u32]; omega
  rw [e2, u32_or_nat _ _ (by omega) (by omega)]
  have e3 : m ||| x = m + x := nat_join (8 * j) m x (by rw [← hm]; simp) hx
  rw [Nat.or_comm, e3, Nat.add_comm]
/-- One byte more, above those that are there. -/
theorem join_u16 (x : Nat) (b : UInt8) (j : Nat) (hx : x < 2 ^ (8 * j)) (hj : j < 2) : bits .or .u16 (x : Int) (IntKind.u16.wrap (IntKind.u16.wrap (b.toNat : Int) * 2 ^ (8 * j))) = ((x + b.toNat * 2 ^ (8 * j) : Nat) : Int) := by
  have hb := b.toNat_lt
  have hp : 0 < 2 ^ (8 * j) := Nat.two_pow_pos _
  have h1 : 2 ^ (8 * j) * 256 ≤ 65536 := by
    have : 2 ^ (8 * j + 8) ≤ 2 ^ 16 := Nat.pow_le_pow_right (by decide) (by omega)
    rw [Nat.pow_add] at this
    exact this
  have h2 : b.toNat * 2 ^ (8 * j) ≤ 255 * 2 ^ (8 * j) := Nat.mul_le_mul_right _ (by omega)
  have e0 : IntKind.u16.wrap (b.toNat : Int) = (b.toNat : Int) := by rw [IntKind.wrap_u16]; omega
  have e1 : ((b.toNat : Int) * 2 ^ (8 * j)) = ((b.toNat * 2 ^ (8 * j) : Nat) : Int) := by simp
  rw [e0, e1]
  generalize hm : b.toNat * 2 ^ (8 * j) = m at *
  have e2 : IntKind.u16.wrap (m : Int) = (m : Int) := by rw [IntKind.wrap_u16]; omega
  rw [e2, u16_or_nat _ _ (by omega) (by omega)]
  have e3 : m ||| x = m + x := nat_join (8 * j) m x (by rw [← hm]; simp) hx
  rw [Nat.or_comm, e3, Nat.add_comm]
/-- One byte more, above those that are there. -/
theorem join_u8 (x : Nat) (b : UInt8) (j : Nat) (hx : x < 2 ^ (8 * j)) (hj : j < 1) : bits .or .u8 (x : Int) (IntKind.u8.wrap (IntKind.u8.wrap (b.toNat : Int) * 2 ^ (8 * j))) = ((x + b.toNat * 2 ^ (8 * j) : Nat) : Int) := by
  have hb := b.toNat_lt
  have hp : 0 < 2 ^ (8 * j) := Nat.two_pow_pos _
  have h1 : 2 ^ (8 * j) * 256 ≤ 256 := by
    have : 2 ^ (8 * j + 8) ≤ 2 ^ 8 := Nat.pow_le_pow_right (by decide) (by omega)
    rw [Nat.pow_add] at this
    exact this
  have h2 : b.toNat * 2 ^ (8 * j) ≤ 255 * 2 ^ (8 * j) := Nat.mul_le_mul_right _ (by omega)
  have e0 : IntKind.u8.wrap (b.toNat : Int) = (b.toNat : Int) := by rw [IntKind.wrap_u8]; omega
  have e1 : ((b.toNat : Int) * 2 ^ (8 * j)) = ((b.toNat * 2 ^ (8 * j) : Nat) : Int) := by simp
  rw [e0, e1]
  generalize hm : b.toNat * 2 ^ (8 * j) = m at *
  have e2 : IntKind.u8.wrap (m : Int) = (m : Int) := by rw [IntKind.wrap_u8]; omega
  rw [e2, u8_or_nat _ _ (by omega) (by omega)]
  have e3 : m ||| x = m + x := nat_join (8 * j) m x (by rw [← hm]; simp) hx
  rw [Nat.or_comm, e3, Nat.add_comm]
def getLe (l : List UInt8) (k : Int) : Nat × Bool := if 1 ≤ k ∧ k ≤ 8 ∧ k ≤ l.length then (leV (l.take k.toNat), true) else (0, false)
def pairV (x : Nat × Bool) : Value := .tuple #[.int .u64 x.1, .bool x.2]
theorem getLe_in (s : ByteArray) (k : Nat) (h1 : 1 ≤ k) (h2 : k ≤ 8) : pairV (getLe s.data.toList k) = .tuple #[.int .u64 (if s.size < k then 0 else leV (s.data.toList.take k) : Nat), .bool (decide (k ≤ s.size))] := by
  have hl : s.data.toList.length = s.size := Array.length_toList
  unfold getLe pairV
  by_cases h : k ≤ s.size
  · rw [if_pos (by rw [hl]; omega), if_neg (by omega), decide_eq_true h, Int.toNat_natCast]
  · rw [if_neg (by rw [hl]; omega), if_pos (by omega), decide_eq_false h]
theorem getLe_out (l : List UInt8) (k : Int) (h : ¬ (1 ≤ k ∧ k ≤ 8)) : pairV (getLe l k) = .tuple #[.int .u64 0, .bool false] := by
  unfold getLe pairV
  rw [if_neg (by omega)]
  rfl
def getBe (l : List UInt8) (k : Int) : Nat × Bool := if 1 ≤ k ∧ k ≤ 8 ∧ k ≤ l.length then (leV (l.take k.toNat).reverse, true) else (0, false)
theorem getBe_in (s : ByteArray) (k : Nat) (h1 : 1 ≤ k) (h2 : k ≤ 8) : pairV (getBe s.data.toList k) = .tuple #[.int .u64 (if s.size < k then 0 else leV (s.data.toList.take k).reverse : Nat), .bool (decide (k ≤ s.size))] := by
  have hl : s.data.toList.length = s.size := Array.length_toList
  unfold getBe pairV
  by_cases h : k ≤ s.size
  · rw [if_pos (by rw [hl]; omega), if_neg (by omega), decide_eq_true h, Int.toNat_natCast]
  · rw [if_neg (by rw [hl]; omega), if_pos (by omega), decide_eq_false h]
theorem getBe_out (l : List UInt8) (k : Int) (h : ¬ (1 ≤ k ∧ k ≤ 8)) : pairV (getBe l k) = .tuple #[.int .u64 0, .bool false] := by
  unfold getBe pairV
  rw [if_neg (by omega)]
  rfl
end Go.Proofs.YtocealohiflheaaDoor
