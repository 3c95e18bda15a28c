/- Varints read: contracts. -/
import Derived.Test.YtepffjfgomhepaaGreatDoorL1e
namespace Go.Proofs.YtepffjfgomhepaaGreatDoor
open Go.RowKit
set_option linter.unusedVariables false
/-- A varint read from its i-th byte on, x being what was read. -/
def rd : Nat → Nat → List UInt8 → Nat × Nat × Bool
  | _, _, [] => (0, 0, false)
  | i, x, b :: l => if (i = 9 ∧ 2 ≤ b.toNat % 128) ∨ (10 ≤ i ∧ b.toNat % 128 ≠ 0) then (0, 0, false) else if 127 < b.toNat then rd (i + 1) (x + b.toNat % 128 * 2 ^ (7 * i)) l else if 0 < i ∧ b.toNat % 128 = 0 then (0, 0, false) else (x + b.toNat % 128 * 2 ^ (7 * i), i + 1, true)
def getVar (l : List UInt8) : Nat × Nat × Bool := rd 0 0 l
def tripV (x : Nat × Nat × Bool) : Value := .tuple #[.int .u64 x.1, .int .i64 x.2.1, .bool x.2.2]
theorem part_nat (b : UInt8) : IntKind.u64.wrap (bits BinOp.and IntKind.u8 (b.toNat : Int) 127) = ((b.toNat % 128 : Nat) : Int) := by
  have hb := b.toNat_lt
  have h := u8_and_nat b.toNat 127 (by omega) (by decide)
  rw [show ((127 : Nat) : Int) = 127 from rfl] at h
  have e : b.toNat &&& 127 = b.toNat % 128 := Nat.and_two_pow_sub_one_eq_mod b.toNat 7
  rw [h, e, IntKind.wrap_u64]
  omega
theorem drop_cons (s : ByteArray) (j : Nat) (h : j < s.size) : s.data.toList.drop j = s[j] :: s.data.toList.drop (j + 1) := by
  have h' : j < s.data.toList.length := by simpa using h
  rw [List.drop_eq_getElem_cons h']
  rfl
/-- A part that loses nothing: moved, moved back, joined. -/
theorem part_in (p j x : Nat) (hp : p < 128) (hj : j ≤ 9) (hx : x < 2 ^ (7 * j)) (hl : ¬ (j = 9 ∧ 2 ≤ p)) : p * 2 ^ (7 * j) < 18446744073709551616 ∧
    IntKind.u64.wrap ((p : Int) * 2 ^ (7 * j)) = ((p * 2 ^ (7 * j) : Nat) : Int) ∧ ((((p * 2 ^ (7 * j) : Nat) : Int) / 2 ^ (7 * j) != (p : Int)) = false) ∧
    bits .or .u64 (x : Int) ((p * 2 ^ (7 * j) : Nat) : Int) = ((x + p * 2 ^ (7 * j) : Nat) : Int) ∧ x + p * 2 ^ (7 * j) < 2 ^ (7 * (j + 1)) ∧ x + p * 2 ^ (7 * j) < 18446744073709551616 := by
  have hpos : 0 < 2 ^ (7 * j) := Nat.two_pow_pos _
  have hlt : (p + 1) * 2 ^ (7 * j) ≤ 18446744073709551616 := by
    by_cases h9 : j = 9
    · subst h9
      have hp1 : p + 1 ≤ 2 := by omega
      exact Nat.le_trans (Nat.mul_le_mul_right _ hp1) (by decide)
    · have hp1 : p + 1 ≤ 128 := by omega
      have h2 : 2 ^ (7 * j) ≤ 2 ^ 56 := Nat.pow_le_pow_right (by decide) (by omega)
      exact Nat.le_trans (Nat.mul_le_mul hp1 h2) (by decide)
  have hsum : (p + 1) * 2 ^ (7 * j) = p * 2 ^ (7 * j) + 2 ^ (7 * j) := by rw [Nat.add_mul, Nat.one_mul]
  have hpw : 2 ^ (7 * (j + 1)) = 128 * 2 ^ (7 * j) := by rw [show 7 * (j + 1) = 7 * j + 7 from by omega, Nat.pow_add, Nat.mul_comm]
  have h128 : (p + 1) * 2 ^ (7 * j) ≤ 128 * 2 ^ (7 * j) := Nat.mul_le_mul_right _ (by omega)
  have hdiv : p * 2 ^ (7 * j) / 2 ^ (7 * j) = p := Nat.mul_div_cancel _ hpos
  have hmod : p * 2 ^ (7 * j) % 2 ^ (7 * j) = 0 := Nat.mul_mod_left _ _
  have hj1 : p * 2 ^ (7 * j) ||| x = p * 2 ^ (7 * j) + x := nat_join (7 * j) _ x hmod hx
  refine ⟨by omega, ?_, ?_, ?_, by omega, by omega⟩
  · rw [show ((p : Int) * 2 ^ (7 * j)) = ((p * 2 ^ (7 * j) : Nat) : Int) from by simp, IntKind.wrap_u64]
    generalize p * 2 ^ (7 * j) = m at *
    omega
  · rw [show (((p * 2 ^ (7 * j) : Nat) : Int) / 2 ^ (7 * j)) = ((p * 2 ^ (7 * j) / 2 ^ (7 * j) : Nat) : Int) from by simp, hdiv]
    simp
  · rw [u64_or_nat _ _ (by omega) (by omega), Nat.or_comm, hj1, Nat.add_comm]
/-- One that does. -/
theorem part_out (p : Nat) (hp : p < 128) (h2 : 2 ≤ p) : (IntKind.u64.wrap ((p : Int) * 9223372036854775808) / 9223372036854775808 != (p : Int)) = true := by
  rw [IntKind.wrap_u64, bne_iff_ne]
  omega
theorem shl_far (j : Nat) (hj : 10 ≤ j) (X : Int) : Op.shift .shl .u64 X .i64 (7 * (j : Int)) = pure (.int .u64 0) := by
  rw [shift_shl_any _ _ _ _ (by omega), show min (7 * (j : Int)).toNat IntKind.u64.bits = 64 from by rw [show IntKind.u64.bits = 64 from rfl]; omega, IntKind.wrap_u64]
  congr 2
  rw [show (2 : Int) ^ 64 = 18446744073709551616 from by decide]
  omega
theorem shr_far (j : Nat) (hj : 10 ≤ j) : Op.shift .shr .u64 0 .i64 (7 * (j : Int)) = pure (.int .u64 0) := by
  rw [shift_shr_any _ _ _ _ (by omega)]
  simp
theorem or_zero_u64 (x : Nat) (h : x < 18446744073709551616) : bits .or .u64 (x : Int) 0 = (x : Int) := by
  have := u64_or_nat x 0 h (by decide)
  simpa using this
theorem rd_cons (i x : Nat) (b : UInt8) (l : List UInt8) : rd i x (b :: l) = if (i = 9 ∧ 2 ≤ b.toNat % 128) ∨ (10 ≤ i ∧ b.toNat % 128 ≠ 0) then (0, 0, false) else if 127 < b.toNat then rd (i + 1) (x + b.toNat % 128 * 2 ^ (7 * i)) l else if 0 < i ∧ b.toNat % 128 = 0 then (0, 0, false) else (x + b.toNat % 128 * 2 ^ (7 * i), i + 1, true) := by
  rw [rd]
theorem rd_ten : ∀ (l : List UInt8) (i x : Nat), 10 ≤ i → rd i x l = (0, 0, false)
  | [], _, _, _ => rfl
  | b :: l, i, x, h => by
    rw [rd_cons]
    by_cases hp : b.toNat % 128 = 0
    · rw [if_neg (by omega)]
      by_cases hb : 127 < b.toNat
      · rw [if_pos hb]; exact rd_ten l (i + 1) _ (by omega)
      · rw [if_neg hb, if_pos ⟨by omega, hp⟩]
    · rw [if_pos (.inr ⟨h, hp⟩)]
/-- What was read so far is what any number begins with that goes on behind it. -/
def Pre (l : List UInt8) (j x : Nat) : Prop := ∀ q, (1 ≤ q ∨ j = 0) → putVar (x + q * 2 ^ (7 * j)) = l.take j ++ varF (10 - j) q
theorem Pre.zero (l : List UInt8) : Pre l 0 0 := fun q _ => by simp [putVar]
theorem Pre.step (s : ByteArray) (j x : Nat) (hj : j < s.size) (h9 : j ≤ 9) (hb : 127 < s[j].toNat) (h : Pre s.data.toList j x) : Pre s.data.toList (j + 1) (x + s[j].toNat % 128 * 2 ^ (7 * j)) := by
  intro q hq
  have h256 := s[j].toNat_lt
  have e : x + s[j].toNat % 128 * 2 ^ (7 * j) + q * 2 ^ (7 * (j + 1)) = x + (s[j].toNat % 128 + 128 * q) * 2 ^ (7 * j) := by
    rw [show 7 * (j + 1) = 7 * j + 7 from by omega, Nat.pow_add, Nat.add_mul, ← Nat.add_assoc, show q * (2 ^ (7 * j) * 2 ^ 7) = 128 * q * 2 ^ (7 * j) from by
      rw [Nat.mul_comm (2 ^ (7 * j)), ← Nat.mul_assoc, Nat.mul_comm q]]
  rw [e, h (s[j].toNat % 128 + 128 * q) (.inl (by omega)), take_snoc s j hj, List.append_assoc]
  congr 1
  rw [show 10 - j = (10 - (j + 1)) + 1 from by omega, varF_big _ _ (by omega)]
  have e1 : (s[j].toNat % 128 + 128 * q) / 128 = q := by omega
  have e2 : vb (s[j].toNat % 128 + 128 * q) = s[j] := by
    unfold vb
    rw [show (s[j].toNat % 128 + 128 * q) % 128 + 128 = s[j].toNat from by omega]
    exact UInt8.ofNat_toNat
  rw [e1, e2]
  rfl
theorem varF_len : ∀ (f j n : Nat), n < 2 ^ (7 * j) → 1 ≤ j → (varF f n).length ≤ j
  | 0, j, n, _, hj => by simpa [varF] using hj
  | f + 1, j, n, h, hj => by
    by_cases hs : n < 128
    · rw [varF_small _ _ hs]; simpa using hj
    · rw [varF_big _ _ hs, List.length_cons]
      match j with
      | 0 => omega
      | 1 => omega
      | j + 2 =>
        have h2 : n / 128 < 2 ^ (7 * (j + 1)) := by
          rw [show 7 * (j + 2) = 7 * (j + 1) + 7 from by omega, Nat.pow_add] at h
          omega
        have := varF_len f (j + 1) (n / 128) h2 (by omega)
        omega
theorem part_out2 (p x : Nat) (hp : p < 128) (hx : x < 2 ^ (7 * 9)) : bits .or .u64 (x : Int) (IntKind.u64.wrap ((p : Int) * 9223372036854775808)) = ((x + p % 2 * 9223372036854775808 : Nat) : Int) := by
  have hx' : x < 9223372036854775808 := hx
  have e : IntKind.u64.wrap ((p : Int) * 9223372036854775808) = ((p % 2 * 9223372036854775808 : Nat) : Int) := by rw [IntKind.wrap_u64]; omega
  rw [e, u64_or_nat _ _ (by omega) (by omega), Nat.or_comm]
  have := nat_join 63 (p % 2 * 9223372036854775808) x (by rw [show (2 : Nat) ^ 63 = 9223372036854775808 from by decide]; omega) (by rw [show (2 : Nat) ^ 63 = 9223372036854775808 from by decide]; exact hx')
  rw [this, Nat.add_comm]
theorem cut_list (s : ByteArray) (k : Nat) : (s.extract 0 k).toList = s.data.toList.take k := by
  rw [ByteArray.toList_eq, Lib.extract_data]; simp
theorem lossy_ne (s : ByteArray) (x : Nat) (hlt : 9 < s.size) (hx : x < 2 ^ (7 * 9)) (hpre : Pre s.data.toList 9 x) (hb : ¬ 127 < s[9].toNat) (h2 : 2 ≤ s[9].toNat % 128) :
    putVar (x + s[9].toNat % 128 % 2 * 9223372036854775808) ≠ s.data.toList.take (9 + 1) := by
  intro h
  rcases (show s[9].toNat % 128 % 2 = 0 ∨ s[9].toNat % 128 % 2 = 1 from by omega) with e | e
  · rw [e, Nat.zero_mul, Nat.add_zero] at h
    have h1 := varF_len 10 9 x hx (by decide)
    have h3 := congrArg List.length h
    rw [lenTake s (9 + 1) (by omega)] at h3
    unfold putVar at h3
    omega
  · have hq := hpre 1 (.inl (by decide))
    rw [show (1 : Nat) * 2 ^ (7 * 9) = 1 * 9223372036854775808 from by decide] at hq
    rw [e, hq, take_snoc s 9 hlt, varF_small _ _ (by decide)] at h
    have h4 := List.append_cancel_left h
    have h5 : UInt8.ofNat 1 = s[9] := by simpa using h4
    have h6 : s[9].toNat = 1 := by rw [← h5]; rfl
    omega
end Go.Proofs.YtepffjfgomhepaaGreatDoor
