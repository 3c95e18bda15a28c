/- L1f, L1g, L1h, L1i: one text. -/
import Derived.Test.YtichgnddbnibjaaGreatDoorL1e
import Derived.Deep.RegionWith
namespace Go.Proofs.YtichgnddbnibjaaGreatDoor
open Go.RowKit
set_option linter.unusedVariables false
/-- A varint read from its i-th byte on, x being what was read. -/
def rd : Nat → Nat → List UInt8 → Nat × Nat × Bool
  | _, _, [] => (0, 0, false)
  | i, x, b :: l => if (i = 9 ∧ 2 ≤ b.toNat % 128) ∨ (10 ≤ i ∧ b.toNat % 128 ≠ 0) then (0, 0, false) else if 127 < b.toNat then rd (i + 1) (x + b.toNat % 128 * 2 ^ (7 * i)) l else if 0 < i ∧ b.toNat % 128 = 0 then (0, 0, false) else (x + b.toNat % 128 * 2 ^ (7 * i), i + 1, true)
def getVar (l : List UInt8) : Nat × Nat × Bool := rd 0 0 l
def tripV (x : Nat × Nat × Bool) : Value := .tuple #[.int .u64 x.1, .int .i64 x.2.1, .bool x.2.2]
theorem part_nat (b : UInt8) : IntKind.u64.wrap (bits BinOp.and IntKind.u8 (b.toNat : Int) 127) = ((b.toNat % 128 : Nat) : Int) := by
  have hb := b.toNat_lt
  have h := u8_and_nat b.toNat 127 (by omega) (by decide)
  rw [show ((127 : Nat) : Int) = 127 from rfl] at h
  have e : b.toNat &&& 127 = b.toNat % 128 := Nat.and_two_pow_sub_one_eq_mod b.toNat 7
  rw [h, e, IntKind.wrap_u64]
  omega
theorem drop_cons (s : ByteArray) (j : Nat) (h : j < s.size) : s.data.toList.drop j = s[j] :: s.data.toList.drop (j + 1) := by
  have h' : j < s.data.toList.length := by simpa using h
  rw [List.drop_eq_getElem_cons h']
  rfl
/-- A part that loses nothing: moved, moved back, joined. -/
theorem part_in (p j x : Nat) (hp : p < 128) (hj : j ≤ 9) (hx : x < 2 ^ (7 * j)) (hl : ¬ (j = 9 ∧ 2 ≤ p)) : p * 2 ^ (7 * j) < 18446744073709551616 ∧
    IntKind.u64.wrap ((p : Int) * 2 ^ (7 * j)) = ((p * 2 ^ (7 * j) : Nat) : Int) ∧ ((((p * 2 ^ (7 * j) : Nat) : Int) / 2 ^ (7 * j) != (p : Int)) = false) ∧
    bits .or .u64 (x : Int) ((p * 2 ^ (7 * j) : Nat) : Int) = ((x + p * 2 ^ (7 * j) : Nat) : Int) ∧ x + p * 2 ^ (7 * j) < 2 ^ (7 * (j + 1)) ∧ x + p * 2 ^ (7 * j) < 18446744073709551616 := by
  have hpos : 0 < 2 ^ (7 * j) := Nat.two_pow_pos _
  have hlt : (p + 1) * 2 ^ (7 * j) ≤ 18446744073709551616 := by
    by_cases h9 : j = 9
    · subst h9
      have hp1 : p + 1 ≤ 2 := by omega
      exact Nat.le_trans (Nat.mul_le_mul_right _ hp1) (by decide)
    · have hp1 : p + 1 ≤ 128 := by omega
      have h2 : 2 ^ (7 * j) ≤ 2 ^ 56 := Nat.pow_le_pow_right (by decide) (by omega)
      exact Nat.le_trans (Nat.mul_le_mul hp1 h2) (by decide)
  have hsum : (p + 1) * 2 ^ (7 * j) = p * 2 ^ (7 * j) + 2 ^ (7 * j) := by rw [Nat.add_mul, Nat.one_mul]
  have hpw : 2 ^ (7 * (j + 1)) = 128 * 2 ^ (7 * j) := by rw [show 7 * (j + 1) = 7 * j + 7 from by omega, Nat.pow_add, Nat.mul_comm]
  have h128 : (p + 1) * 2 ^ (7 * j) ≤ 128 * 2 ^ (7 * j) := Nat.mul_le_mul_right _ (by omega)
  have hdiv : p * 2 ^ (7 * j) / 2 ^ (7 * j) = p := Nat.mul_div_cancel _ hpos
  have hmod : p * 2 ^ (7 * j) % 2 ^ (7 * j) = 0 := Nat.mul_mod_left _ _
  have hj1 : p * 2 ^ (7 * j) ||| x = p * 2 ^ (7 * j) + x := nat_join (7 * j) _ x hmod hx
  refine ⟨by omega, ?_, ?_, ?_, by omega, by omega⟩
  · rw [show ((p : Int) * 2 ^ (7 * j)) = ((p * 2 ^ (7 * j) : Nat) : Int) from by simp, IntKind.wrap_u64]
    generalize p * 2 ^ (7 * j) = m at *
    omega
  · rw [show (((p * 2 ^ (7 * j) : Nat) : Int) / 2 ^ (7 * j)) = ((p * 2 ^ (7 * j) / 2 ^ (7 * j) : Nat) : Int) from by simp, hdiv]
    simp
  · rw [u64_or_nat _ _ (by omega) (by omega), Nat.or_comm, hj1, Nat.add_comm]
/-- One that does. -/
theorem part_out (p : Nat) (hp : p < 128) (h2 : 2 ≤ p) : (IntKind.u64.wrap ((p : Int) * 9223372036854775808) / 9223372036854775808 != (p : Int)) = true := by
  rw [IntKind.wrap_u64, bne_iff_ne]
  omega
theorem shl_far (j : Nat) (hj : 10 ≤ j) (X : Int) : Op.shift .shl .u64 X .i64 (7 * (j : Int)) = pure (.int .u64 0) := by
  rw [shift_shl_any _ _ _ _ (by omega), show min (7 * (j : Int)).toNat IntKind.u64.bits = 64 from by rw [show IntKind.u64.bits = 64 from rfl]; omega, IntKind.wrap_u64]
  congr 2
  rw [show (2 : Int) ^ 64 = 18446744073709551616 from by decide]
  omega
theorem shr_far (j : Nat) (hj : 10 ≤ j) : Op.shift .shr .u64 0 .i64 (7 * (j : Int)) = pure (.int .u64 0) := by
  rw [shift_shr_any _ _ _ _ (by omega)]
  simp
theorem or_zero_u64 (x : Nat) (h : x < 18446744073709551616) : bits .or .u64 (x : Int) 0 = (x : Int) := by
  have := u64_or_nat x 0 h (by decide)
  simpa using this
theorem rd_cons (i x : Nat) (b : UInt8) (l : List UInt8) : rd i x (b :: l) = if (i = 9 ∧ 2 ≤ b.toNat % 128) ∨ (10 ≤ i ∧ b.toNat % 128 ≠ 0) then (0, 0, false) else if 127 < b.toNat then rd (i + 1) (x + b.toNat % 128 * 2 ^ (7 * i)) l else if 0 < i ∧ b.toNat % 128 = 0 then (0, 0, false) else (x + b.toNat % 128 * 2 ^ (7 * i), i + 1, true) := by
  rw [rd]
theorem rd_ten : ∀ (l : List UInt8) (i x : Nat), 10 ≤ i → rd i x l = (0, 0, false)
  | [], _, _, _ => rfl
  | b :: l, i, x, h => by
    rw [rd_cons]
    by_cases hp : b.toNat % 128 = 0
    · rw [if_neg (by omega)]
      by_cases hb : 127 < b.toNat
      · rw [if_pos hb]; exact rd_ten l (i + 1) _ (by omega)
      · rw [if_neg hb, if_pos ⟨by omega, hp⟩]
    · rw [if_pos (.inr ⟨h, hp⟩)]
/-- What was read so far is what any number begins with that goes on behind it. -/
def Pre (l : List UInt8) (j x : Nat) : Prop := ∀ q, (1 ≤ q ∨ j = 0) → putVar (x + q * 2 ^ (7 * j)) = l.take j ++ varF (10 - j) q
theorem Pre.zero (l : List UInt8) : Pre l 0 0 := fun q _ => by simp [putVar]
theorem Pre.step (s : ByteArray) (j x : Nat) (hj : j < s.size) (h9 : j ≤ 9) (hb : 127 < s[j].toNat) (h : Pre s.data.toList j x) : Pre s.data.toList (j + 1) (x + s[j].toNat % 128 * 2 ^ (7 * j)) := by
  intro q hq
  have h256 := s[j].toNat_lt
  have e : x + s[j].toNat % 128 * 2 ^ (7 * j) + q * 2 ^ (7 * (j + 1)) = x + (s[j].toNat % 128 + 128 * q) * 2 ^ (7 * j) := by
    rw [show 7 * (j + 1) = 7 * j + 7 from by omega, Nat.pow_add, Nat.add_mul, ← Nat.add_assoc, show q * (2 ^ (7 * j) * 2 ^ 7) = 128 * q * 2 ^ (7 * j) from by
      rw [Nat.mul_comm (2 ^ (7 * j)), ← Nat.mul_assoc, Nat.mul_comm q]]
  rw [e, h (s[j].toNat % 128 + 128 * q) (.inl (by omega)), take_snoc s j hj, List.append_assoc]
  congr 1
  rw [show 10 - j = (10 - (j + 1)) + 1 from by omega, varF_big _ _ (by omega)]
  have e1 : (s[j].toNat % 128 + 128 * q) / 128 = q := by omega
  have e2 : vb (s[j].toNat % 128 + 128 * q) = s[j] := by
    unfold vb
    rw [show (s[j].toNat % 128 + 128 * q) % 128 + 128 = s[j].toNat from by omega]
    exact UInt8.ofNat_toNat
  rw [e1, e2]
  rfl
theorem varF_len : ∀ (f j n : Nat), n < 2 ^ (7 * j) → 1 ≤ j → (varF f n).length ≤ j
  | 0, j, n, _, hj => by simpa [varF] using hj
  | f + 1, j, n, h, hj => by
    by_cases hs : n < 128
    · rw [varF_small _ _ hs]; simpa using hj
    · rw [varF_big _ _ hs, List.length_cons]
      match j with
      | 0 => omega
      | 1 => omega
      | j + 2 =>
        have h2 : n / 128 < 2 ^ (7 * (j + 1)) := by
          rw [show 7 * (j + 2) = 7 * (j + 1) + 7 from by omega, Nat.pow_add] at h
          omega
        have := varF_len f (j + 1) (n / 128) h2 (by omega)
        omega
theorem part_out2 (p x : Nat) (hp : p < 128) (hx : x < 2 ^ (7 * 9)) : bits .or .u64 (x : Int) (IntKind.u64.wrap ((p : Int) * 9223372036854775808)) = ((x + p % 2 * 9223372036854775808 : Nat) : Int) := by
  have hx' : x < 9223372036854775808 := hx
  have e : IntKind.u64.wrap ((p : Int) * 9223372036854775808) = ((p % 2 * 9223372036854775808 : Nat) : Int) := by rw [IntKind.wrap_u64]; omega
  rw [e, u64_or_nat _ _ (by omega) (by omega), Nat.or_comm]
  have := nat_join 63 (p % 2 * 9223372036854775808) x (by rw [show (2 : Nat) ^ 63 = 9223372036854775808 from by decide]; omega) (by rw [show (2 : Nat) ^ 63 = 9223372036854775808 from by decide]; exact hx')
  rw [this, Nat.add_comm]
theorem cut_list (s : ByteArray) (k : Nat) : (s.extract 0 k).toList = s.data.toList.take k := by
  rw [ByteArray.toList_eq, Lib.extract_data]; simp
theorem lossy_ne (s : ByteArray) (x : Nat) (hlt : 9 < s.size) (hx : x < 2 ^ (7 * 9)) (hpre : Pre s.data.toList 9 x) (hb : ¬ 127 < s[9].toNat) (h2 : 2 ≤ s[9].toNat % 128) :
    putVar (x + s[9].toNat % 128 % 2 * 9223372036854775808) ≠ s.data.toList.take (9 + 1) := by
  intro h
  rcases (show s[9].toNat % 128 % 2 = 0 ∨ s[9].toNat % 128 % 2 = 1 from by omega) with e | e
  · rw [e, Nat.zero_mul, Nat.add_zero] at h
    have h1 := varF_len 10 9 x hx (by decide)
    have h3 := congrArg List.length h
    rw [lenTake s (9 + 1) (by omega)] at h3
    unfold putVar at h3
    omega
  · have hq := hpre 1 (.inl (by decide))
    rw [show (1 : Nat) * 2 ^ (7 * 9) = 1 * 9223372036854775808 from by decide] at hq
    rw [e, hq, take_snoc s 9 hlt, varF_small _ _ (by decide)] at h
    have h4 := List.append_cancel_left h
    have h5 : UInt8.ofNat 1 = s[9] := by simpa using h4
    have h6 : s[9].toNat = 1 := by rw [← h5]; rfl
    omega
end Go.Proofs.YtichgnddbnibjaaGreatDoor
namespace Go.Proofs.YtichgnddbnibjaaGreatDoor
open Go.RowKit
set_option linter.unusedVariables false
/-- Does a list begin with that? -/
def ahead (l t : List UInt8) : Bool := l.take t.length == t
theorem l1Ahead_any (s t : ByteArray) (w : World) (hs : s.size ≤ 1048576) (ht : t.size ≤ 1048576) : Calls Tryz.prog 98 #[.string s, .string t] w fun e w' => e = .returned (.bool (ahead s.data.toList t.data.toList)) ∧ w' = w := by
  have hl : s.data.toList.length = s.size := Array.length_toList
  have hlt : t.data.toList.length = t.size := Array.length_toList
  by_cases h : t.size ≤ s.size
  · have e : ahead s.data.toList t.data.toList = ((s.extract 0 t.size).toList == t.toList) := by
      unfold ahead
      rw [hlt, ByteArray.toList_eq, ByteArray.toList_eq, Lib.extract_data]
      simp
    rw [e]
    clear e hl hlt
    go_enter Tryz.func98, Tryz.ntmps98
    go_wp2
    go_ret
    exact ⟨rfl, rfl⟩
  · have e : ahead s.data.toList t.data.toList = false := by
      unfold ahead
      rw [beq_eq_false_iff_ne]
      intro h1
      have := congrArg List.length h1
      rw [List.length_take, hl, hlt] at this
      omega
    rw [e]
    clear e hl hlt
    go_enter Tryz.func98, Tryz.ntmps98
    go_wp2
    go_ret
    exact ⟨rfl, rfl⟩
theorem l1Ahead_list (s : ByteArray) (l : List UInt8) (w : World) (hs : s.size ≤ 1048576) (ht : l.length ≤ 1000) : Calls Tryz.prog 98 #[.string s, .string ⟨l.toArray⟩] w fun e w' => e = .returned (.bool (ahead s.data.toList l)) ∧ w' = w :=
  l1Ahead_any s ⟨l.toArray⟩ w hs (by simp [ByteArray.size]; omega)
theorem below_step {w W w3 : World} (h1 : Below w.heap.size w W) (h2 : Below W.heap.size W w3) : Below w.heap.size w w3 := h1.trans (h2.mono h1.size)
theorem readWhole_u64_any (s : ByteArray) (w : World) (hs : s.size ≤ maxLen) : Calls Tryz.prog 96 #[.string s] w fun e w' => e = .returned (.tuple #[.int .u64 (if s.size < 8 then 0 else leV (s.data.toList.take 8) : Nat), .bool (decide (8 ≤ s.size))]) ∧ w' = w := by
  have C := fun w => readLow_u64_any s 8 w (by decide) hs
  rw [show ((8 : Nat) : Int) = 8 from rfl] at C
  have HC : Hid _ := C
  clear C hs
  generalize (if s.size < 8 then 0 else leV (s.data.toList.take 8) : Nat) = v at *
  generalize decide (8 ≤ s.size) = b at *
  go_enter Tryz.func96, Tryz.ntmps96
  go_wp2_with (first | (go_at_call 93; refine (widthOf_u64_any _).mono ?_; rintro e w' ⟨rfl, rfl⟩) | (go_at_call 108; refine (HC.out _).mono ?_; rintro e w' ⟨rfl, rfl⟩))
  go_ret2
  exact ⟨rfl, rfl⟩
theorem readWhole_u32_any (s : ByteArray) (w : World) (hs : s.size ≤ maxLen) : Calls Tryz.prog 95 #[.string s] w fun e w' => e = .returned (.tuple #[.int .u32 (if s.size < 4 then 0 else leV (s.data.toList.take 4) : Nat), .bool (decide (4 ≤ s.size))]) ∧ w' = w := by
  have C := fun w => readLow_u32_any s 4 w (by decide) hs
  rw [show ((4 : Nat) : Int) = 4 from rfl] at C
  have HC : Hid _ := C
  clear C hs
  generalize (if s.size < 4 then 0 else leV (s.data.toList.take 4) : Nat) = v at *
  generalize decide (4 ≤ s.size) = b at *
  go_enter Tryz.func95, Tryz.ntmps95
  go_wp2_with (first | (go_at_call 91; refine (widthOf_u32_any _).mono ?_; rintro e w' ⟨rfl, rfl⟩) | (go_at_call 107; refine (HC.out _).mono ?_; rintro e w' ⟨rfl, rfl⟩))
  go_ret2
  exact ⟨rfl, rfl⟩
theorem readWhole_u16_any (s : ByteArray) (w : World) (hs : s.size ≤ maxLen) : Calls Tryz.prog 94 #[.string s] w fun e w' => e = .returned (.tuple #[.int .u16 (if s.size < 2 then 0 else leV (s.data.toList.take 2) : Nat), .bool (decide (2 ≤ s.size))]) ∧ w' = w := by
  have C := fun w => readLow_u16_any s 2 w (by decide) hs
  rw [show ((2 : Nat) : Int) = 2 from rfl] at C
  have HC : Hid _ := C
  clear C hs
  generalize (if s.size < 2 then 0 else leV (s.data.toList.take 2) : Nat) = v at *
  generalize decide (2 ≤ s.size) = b at *
  go_enter Tryz.func94, Tryz.ntmps94
  go_wp2_with (first | (go_at_call 89; refine (widthOf_u16_any _).mono ?_; rintro e w' ⟨rfl, rfl⟩) | (go_at_call 106; refine (HC.out _).mono ?_; rintro e w' ⟨rfl, rfl⟩))
  go_ret2
  exact ⟨rfl, rfl⟩
theorem leV_lt_k (s : ByteArray) (k : Nat) (h : k ≤ s.size) : leV (s.data.toList.take k) < 2 ^ (8 * k) := by
  have := leV_lt (s.data.toList.take k)
  rwa [lenTake s k h] at this
/-- What stands behind the first byte, in k bytes: at least so much. -/
def behind (r : List UInt8) (k least : Nat) : Nat × Nat × Bool := if k ≤ r.length ∧ least ≤ leV (r.take k) then (leV (r.take k), 1 + k, true) else (0, 0, false)
theorem tail_data (s : ByteArray) : (s.extract 1 s.size).data.toList = s.data.toList.tail := by
  rw [Lib.extract_data, List.take_of_length_le (by rw [List.length_drop, Array.length_toList]; exact Nat.le_refl _), List.drop_one]
theorem tail_size (s : ByteArray) : (s.extract 1 s.size).size = s.size - 1 := by
  have : (s.extract 1 s.size).data.toList.length = (s.extract 1 s.size).size := Array.length_toList
  rw [← this, tail_data, List.length_tail, Array.length_toList]; rfl
set_option maxRecDepth 100000 in
set_option maxHeartbeats 400000 in
theorem sizeBehind_u64_any (s : ByteArray) (least : Nat) (w : World) (hs : s.size ≤ 1048576) (h1 : 1 ≤ s.size) : Calls Tryz.prog 71 #[.string s, .int .u64 least] w fun e w' => e = .returned (tripV (behind s.data.toList.tail 8 least)) ∧ w' = w := by
  have hm : (s.extract 1 s.size).size ≤ maxLen := by rw [tail_size]; unfold maxLen; omega
  have C := fun w => readWhole_u64_any (s.extract 1 s.size) w hm
  have hts := tail_size s
  have htl : s.data.toList.tail.length = s.size - 1 := by rw [List.length_tail, Array.length_toList]; rfl
  have hi1 : (1 : Int) ≤ (s.size : Int) := by omega
  by_cases hk : 8 ≤ s.size - 1
  · rw [hts, if_neg (by omega), decide_eq_true hk, tail_data] at C
    have hv := leV_lt_k (s.extract 1 s.size) 8 (by omega)
    rw [tail_data] at hv
    have hv' : ((leV (s.data.toList.tail.take 8) : Nat) : Int) ≤ 18446744073709551615 := by omega
    have HC : Hid _ := C
    by_cases hle : least ≤ leV (s.data.toList.tail.take 8)
    · have e : behind s.data.toList.tail 8 least = (leV (s.data.toList.tail.take 8), 1 + 8, true) := by unfold behind; rw [if_pos ⟨by omega, hle⟩]
      rw [e]
      have hlt : decide (leV (s.data.toList.tail.take 8) < least) = false := decide_eq_false (by omega)
      clear C e hts htl hv hle hm
      generalize leV (s.data.toList.tail.take 8) = v at *
      go_enter Tryz.func71, Tryz.ntmps71
      go_wp2_with (first | (go_at_call 96; refine (HC.out _).mono ?_; rintro e w' ⟨rfl, rfl⟩) | (go_at_call 93; refine (widthOf_u64_any _).mono ?_; rintro e w' ⟨rfl, rfl⟩))
      go_ret3
      exact ⟨rfl, rfl⟩
    · have e : behind s.data.toList.tail 8 least = (0, 0, false) := by unfold behind; rw [if_neg (fun h => hle h.2)]
      rw [e]
      have hlt : decide (leV (s.data.toList.tail.take 8) < least) = true := decide_eq_true (by omega)
      clear C e hts htl hv hle hm
      generalize leV (s.data.toList.tail.take 8) = v at *
      go_enter Tryz.func71, Tryz.ntmps71
      go_wp2_with (go_at_call 96; refine (HC.out _).mono ?_; rintro e w' ⟨rfl, rfl⟩)
      go_ret3
      exact ⟨rfl, rfl⟩
  · rw [hts, if_pos (by omega), decide_eq_false hk] at C
    have HC : Hid _ := C
    have e : behind s.data.toList.tail 8 least = (0, 0, false) := by unfold behind; rw [if_neg (fun h => hk (by have := h.1; omega))]
    rw [e]
    clear C e hts htl hm
    go_enter Tryz.func71, Tryz.ntmps71
    go_wp2_with (go_at_call 96; refine (HC.out _).mono ?_; rintro e w' ⟨rfl, rfl⟩)
    go_ret3
    exact ⟨rfl, rfl⟩
set_option maxRecDepth 100000 in
set_option maxHeartbeats 400000 in
theorem sizeBehind_u32_any (s : ByteArray) (least : Nat) (w : World) (hs : s.size ≤ 1048576) (h1 : 1 ≤ s.size) : Calls Tryz.prog 70 #[.string s, .int .u32 least] w fun e w' => e = .returned (tripV (behind s.data.toList.tail 4 least)) ∧ w' = w := by
  have hm : (s.extract 1 s.size).size ≤ maxLen := by rw [tail_size]; unfold maxLen; omega
  have C := fun w => readWhole_u32_any (s.extract 1 s.size) w hm
  have hts := tail_size s
  have htl : s.data.toList.tail.length = s.size - 1 := by rw [List.length_tail, Array.length_toList]; rfl
  have hi1 : (1 : Int) ≤ (s.size : Int) := by omega
  by_cases hk : 4 ≤ s.size - 1
  · rw [hts, if_neg (by omega), decide_eq_true hk, tail_data] at C
    have hv := leV_lt_k (s.extract 1 s.size) 4 (by omega)
    rw [tail_data] at hv
    have hv' : ((leV (s.data.toList.tail.take 4) : Nat) : Int) ≤ 18446744073709551615 := by omega
    have HC : Hid _ := C
    by_cases hle : least ≤ leV (s.data.toList.tail.take 4)
    · have e : behind s.data.toList.tail 4 least = (leV (s.data.toList.tail.take 4), 1 + 4, true) := by unfold behind; rw [if_pos ⟨by omega, hle⟩]
      rw [e]
      have hlt : decide (leV (s.data.toList.tail.take 4) < least) = false := decide_eq_false (by omega)
      clear C e hts htl hv hle hm
      generalize leV (s.data.toList.tail.take 4) = v at *
      go_enter Tryz.func70, Tryz.ntmps70
      go_wp2_with (first | (go_at_call 95; refine (HC.out _).mono ?_; rintro e w' ⟨rfl, rfl⟩) | (go_at_call 91; refine (widthOf_u32_any _).mono ?_; rintro e w' ⟨rfl, rfl⟩))
      go_ret3
      exact ⟨rfl, rfl⟩
    · have e : behind s.data.toList.tail 4 least = (0, 0, false) := by unfold behind; rw [if_neg (fun h => hle h.2)]
      rw [e]
      have hlt : decide (leV (s.data.toList.tail.take 4) < least) = true := decide_eq_true (by omega)
      clear C e hts htl hv hle hm
      generalize leV (s.data.toList.tail.take 4) = v at *
      go_enter Tryz.func70, Tryz.ntmps70
      go_wp2_with (go_at_call 95; refine (HC.out _).mono ?_; rintro e w' ⟨rfl, rfl⟩)
      go_ret3
      exact ⟨rfl, rfl⟩
  · rw [hts, if_pos (by omega), decide_eq_false hk] at C
    have HC : Hid _ := C
    have e : behind s.data.toList.tail 4 least = (0, 0, false) := by unfold behind; rw [if_neg (fun h => hk (by have := h.1; omega))]
    rw [e]
    clear C e hts htl hm
    go_enter Tryz.func70, Tryz.ntmps70
    go_wp2_with (go_at_call 95; refine (HC.out _).mono ?_; rintro e w' ⟨rfl, rfl⟩)
    go_ret3
    exact ⟨rfl, rfl⟩
set_option maxRecDepth 100000 in
set_option maxHeartbeats 400000 in
theorem sizeBehind_u16_any (s : ByteArray) (least : Nat) (w : World) (hs : s.size ≤ 1048576) (h1 : 1 ≤ s.size) : Calls Tryz.prog 69 #[.string s, .int .u16 least] w fun e w' => e = .returned (tripV (behind s.data.toList.tail 2 least)) ∧ w' = w := by
  have hm : (s.extract 1 s.size).size ≤ maxLen := by rw [tail_size]; unfold maxLen; omega
  have C := fun w => readWhole_u16_any (s.extract 1 s.size) w hm
  have hts := tail_size s
  have htl : s.data.toList.tail.length = s.size - 1 := by rw [List.length_tail, Array.length_toList]; rfl
  have hi1 : (1 : Int) ≤ (s.size : Int) := by omega
  by_cases hk : 2 ≤ s.size - 1
  · rw [hts, if_neg (by omega), decide_eq_true hk, tail_data] at C
    have hv := leV_lt_k (s.extract 1 s.size) 2 (by omega)
    rw [tail_data] at hv
    have hv' : ((leV (s.data.toList.tail.take 2) : Nat) : Int) ≤ 18446744073709551615 := by omega
    have HC : Hid _ := C
    by_cases hle : least ≤ leV (s.data.toList.tail.take 2)
    · have e : behind s.data.toList.tail 2 least = (leV (s.data.toList.tail.take 2), 1 + 2, true) := by unfold behind; rw [if_pos ⟨by omega, hle⟩]
      rw [e]
      have hlt : decide (leV (s.data.toList.tail.take 2) < least) = false := decide_eq_false (by omega)
      clear C e hts htl hv hle hm
      generalize leV (s.data.toList.tail.take 2) = v at *
      go_enter Tryz.func69, Tryz.ntmps69
      go_wp2_with (first | (go_at_call 94; refine (HC.out _).mono ?_; rintro e w' ⟨rfl, rfl⟩) | (go_at_call 89; refine (widthOf_u16_any _).mono ?_; rintro e w' ⟨rfl, rfl⟩))
      go_ret3
      exact ⟨rfl, rfl⟩
    · have e : behind s.data.toList.tail 2 least = (0, 0, false) := by unfold behind; rw [if_neg (fun h => hle h.2)]
      rw [e]
      have hlt : decide (leV (s.data.toList.tail.take 2) < least) = true := decide_eq_true (by omega)
      clear C e hts htl hv hle hm
      generalize leV (s.data.toList.tail.take 2) = v at *
      go_enter Tryz.func69, Tryz.ntmps69
      go_wp2_with (go_at_call 94; refine (HC.out _).mono ?_; rintro e w' ⟨rfl, rfl⟩)
      go_ret3
      exact ⟨rfl, rfl⟩
  · rw [hts, if_pos (by omega), decide_eq_false hk] at C
    have HC : Hid _ := C
    have e : behind s.data.toList.tail 2 least = (0, 0, false) := by unfold behind; rw [if_neg (fun h => hk (by have := h.1; omega))]
    rw [e]
    clear C e hts htl hm
    go_enter Tryz.func69, Tryz.ntmps69
    go_wp2_with (go_at_call 94; refine (HC.out _).mono ?_; rintro e w' ⟨rfl, rfl⟩)
    go_ret3
    exact ⟨rfl, rfl⟩
def getSize : List UInt8 → Nat × Nat × Bool
  | [] => (0, 0, false)
  | b :: r => if b.toNat < 253 then (b.toNat, 1, true) else if b.toNat = 253 then behind r 2 253 else if b.toNat = 254 then behind r 4 65536 else behind r 8 4294967296
theorem data_cons (s : ByteArray) (h : 0 < s.size) : s.data.toList = s[0] :: s.data.toList.tail := by
  have := drop_cons s 0 h
  rw [List.drop_zero, Nat.zero_add, List.drop_one] at this
  exact this
theorem data_nil (s : ByteArray) (h : ¬ 0 < s.size) : s.data.toList = [] := List.eq_nil_of_length_eq_zero (by rw [Array.length_toList]; exact Nat.eq_zero_of_not_pos h)
theorem isEmpty_no (s : ByteArray) (h : 0 < s.size) : s.toList.isEmpty = false := by rw [ByteArray.toList_eq, data_cons s h]; rfl
theorem isEmpty_yes (s : ByteArray) (h : ¬ 0 < s.size) : s.toList.isEmpty = true := by rw [ByteArray.toList_eq, data_nil s h]; rfl
set_option maxRecDepth 100000 in
set_option maxHeartbeats 400000 in
theorem implGetSize_any (s : ByteArray) (w : World) (hs : s.size ≤ 1048576) : Calls Tryz.prog 46 #[.string s] w fun e w' => e = .returned (tripV (getSize s.data.toList)) ∧ w' = w := by
  by_cases h0 : 0 < s.size
  · have hne := isEmpty_no s h0
    have hb256 := s[0].toNat_lt
    have C2 := fun w => sizeBehind_u16_any s 253 w hs h0
    have C4 := fun w => sizeBehind_u32_any s 65536 w hs h0
    have C8 := fun w => sizeBehind_u64_any s 4294967296 w hs h0
    rw [show ((253 : Nat) : Int) = 253 from rfl] at C2
    rw [show ((65536 : Nat) : Int) = 65536 from rfl] at C4
    rw [show ((4294967296 : Nat) : Int) = 4294967296 from rfl] at C8
    rw [data_cons s h0]
    by_cases h1 : s[0].toNat < 253
    · rw [show getSize (s[0] :: s.data.toList.tail) = (s[0].toNat, 1, true) from by simp [getSize, h1]]
      have i1 : ((s[0].toNat : Int) == 253) = false := by rw [beq_eq_false_iff_ne]; omega
      have i2 : ((s[0].toNat : Int) == 254) = false := by rw [beq_eq_false_iff_ne]; omega
      have i3 : ((s[0].toNat : Int) == 255) = false := by rw [beq_eq_false_iff_ne]; omega
      clear C2 C4 C8
      go_enter Tryz.func46, Tryz.ntmps46
      go_wp2
      go_ret3
      exact ⟨rfl, rfl⟩
    · by_cases h2 : s[0].toNat = 253
      · rw [show getSize (s[0] :: s.data.toList.tail) = behind s.data.toList.tail 2 253 from by simp [getSize, h2]]
        have HC : Hid _ := C2
        clear C2 C4 C8 h1
        generalize behind s.data.toList.tail 2 253 = g at *
        go_enter Tryz.func46, Tryz.ntmps46
        go_wp2_with (go_at_call 69; refine (HC.out _).mono ?_; rintro e w' ⟨rfl, rfl⟩; rw [tripV])
        go_ret3
        exact ⟨rfl, rfl⟩
      · by_cases h3 : s[0].toNat = 254
        · rw [show getSize (s[0] :: s.data.toList.tail) = behind s.data.toList.tail 4 65536 from by simp [getSize, h3]]
          have HC : Hid _ := C4
          clear C2 C4 C8 h1 h2
          generalize behind s.data.toList.tail 4 65536 = g at *
          go_enter Tryz.func46, Tryz.ntmps46
          go_wp2_with (go_at_call 70; refine (HC.out _).mono ?_; rintro e w' ⟨rfl, rfl⟩; rw [tripV])
          go_ret3
          exact ⟨rfl, rfl⟩
        · have h4 : s[0].toNat = 255 := by omega
          rw [show getSize (s[0] :: s.data.toList.tail) = behind s.data.toList.tail 8 4294967296 from by simp [getSize, h4]]
          have HC : Hid _ := C8
          clear C2 C4 C8 h1 h2 h3
          generalize behind s.data.toList.tail 8 4294967296 = g at *
          go_enter Tryz.func46, Tryz.ntmps46
          go_wp2_with (go_at_call 71; refine (HC.out _).mono ?_; rintro e w' ⟨rfl, rfl⟩; rw [tripV])
          go_ret3
          exact ⟨rfl, rfl⟩
  · have hne := isEmpty_yes s h0
    rw [data_nil s h0]
    go_enter Tryz.func46, Tryz.ntmps46
    go_wp2
    go_ret3
    exact ⟨rfl, rfl⟩
theorem leL_cons (n k : Nat) : leL n (k + 1) = UInt8.ofNat n :: leL (n / 256) k := by
  unfold leL
  rw [List.range_succ_eq_map, List.map_cons, List.map_map]
  congr 1
  · simp [byt]
  · apply List.map_congr_left
    intro i _
    simp only [Function.comp, byt]
    rw [show 8 * (i + 1) = 8 + 8 * i from by omega, Nat.pow_add, ← Nat.div_div_eq_div_mul]
theorem leL_leV : ∀ l : List UInt8, leL (leV l) l.length = l
  | [] => rfl
  | b :: l => by
    have hb := b.toNat_lt
    rw [List.length_cons, leL_cons]
    simp only [leV]
    rw [show (b.toNat + 256 * leV l) / 256 = leV l from by omega, leL_leV l]
    congr 1
    apply UInt8.toNat_inj.1
    rw [UInt8.toNat_ofNat']
    omega
theorem leL_take (l : List UInt8) (k : Nat) (h : k ≤ l.length) : leL (leV (l.take k)) k = l.take k := by
  have := leL_leV (l.take k)
  rwa [List.length_take, Nat.min_eq_left h] at this
theorem leV_take_lt (l : List UInt8) (k : Nat) (h : k ≤ l.length) : leV (l.take k) < 2 ^ (8 * k) := by
  have := leV_lt (l.take k)
  rwa [List.length_take, Nat.min_eq_left h] at this
theorem ahead_ne (b c : UInt8) (l t : List UInt8) (h : b ≠ c) : ahead (b :: l) (c :: t) = false := by
  unfold ahead
  rw [beq_eq_false_iff_ne, List.length_cons, List.take_succ_cons]
  intro h1
  exact h (List.cons.inj h1).1
theorem ahead_yes (b : UInt8) (r : List UInt8) (k : Nat) (h : k ≤ r.length) : ahead (b :: r) (b :: r.take k) = true := by
  unfold ahead
  rw [beq_iff_eq, List.length_cons, List.take_succ_cons, List.length_take, Nat.min_eq_left h]
theorem putSize_len (n : Nat) : (putSize n).length ≤ 9 := by
  unfold putSize
  repeat' split
  all_goals simp [leL_len]
theorem putSize_head (n : Nat) (b : UInt8) (r : List UInt8) (hb : 253 ≤ b.toNat) (hk : (b.toNat = 253 ∧ n < 253) ∨ (b.toNat = 254 ∧ n < 65536) ∨ (b.toNat = 255 ∧ n < 4294967296)) : ahead (b :: r) (putSize n) = false := by
  have hne : ∀ c : UInt8, c.toNat ≠ b.toNat → b ≠ c := fun c hc h => hc (by rw [h])
  unfold putSize
  by_cases h1 : n < 253
  · rw [if_pos h1, leL_cons]
    refine ahead_ne _ _ _ _ (hne _ ?_)
    rw [UInt8.toNat_ofNat']
    omega
  · rw [if_neg h1]
    by_cases h2 : n < 65536
    · rw [if_pos h2]
      refine ahead_ne _ _ _ _ (hne _ ?_)
      show 253 ≠ b.toNat
      omega
    · rw [if_neg h2, if_pos (by omega)]
      refine ahead_ne _ _ _ _ (hne _ ?_)
      show 254 ≠ b.toNat
      omega
theorem putSize_253 (b : UInt8) (r : List UInt8) (hb : b.toNat = 253) (hk : 2 ≤ r.length) (hle : 253 ≤ leV (r.take 2)) : putSize (leV (r.take 2)) = b :: r.take 2 := by
  have h1 : leV (r.take 2) < 65536 := leV_take_lt r 2 hk
  have hb' : b = 253 := UInt8.toNat_inj.1 hb
  have e := leL_take r 2 hk
  unfold putSize
  rw [if_neg (by omega)]
  rw [if_pos h1, e, hb']
theorem putSize_254 (b : UInt8) (r : List UInt8) (hb : b.toNat = 254) (hk : 4 ≤ r.length) (hle : 65536 ≤ leV (r.take 4)) : putSize (leV (r.take 4)) = b :: r.take 4 := by
  have h1 : leV (r.take 4) < 4294967296 := leV_take_lt r 4 hk
  have hb' : b = 254 := UInt8.toNat_inj.1 hb
  have e := leL_take r 4 hk
  unfold putSize
  rw [if_neg (by omega)]
  rw [if_neg (by omega), if_pos h1, e, hb']
theorem putSize_255 (b : UInt8) (r : List UInt8) (hb : b.toNat = 255) (hk : 8 ≤ r.length) (hle : 4294967296 ≤ leV (r.take 8)) : putSize (leV (r.take 8)) = b :: r.take 8 := by
  have h1 : leV (r.take 8) < 18446744073709551616 := leV_take_lt r 8 hk
  have hb' : b = 255 := UInt8.toNat_inj.1 hb
  have e := leL_take r 8 hk
  unfold putSize
  rw [if_neg (by omega)]
  rw [if_neg (by omega), if_neg (by omega), e, hb']
set_option maxRecDepth 100000 in
set_option maxHeartbeats 1000000 in
theorem specGetSize_253_ok (s : ByteArray) (w : World) (hs : s.size ≤ 1048576) (h0 : 0 < s.size) (hne : s.toList.isEmpty = false) (h2 : s[0].toNat = 253) (hk : 2 ≤ s.data.toList.tail.length) (hle : 253 ≤ leV (s.data.toList.tail.take 2)) : Calls Tryz.prog 76 #[.string s] w fun e w' => e = .returned (tripV (leV (s.data.toList.tail.take 2), 1 + 2, true)) ∧ Below w.heap.size w w' := by
  have hi1 : (1 : Int) ≤ (s.size : Int) := by omega
  have hm : (s.extract 1 s.size).size ≤ maxLen := by rw [tail_size]; unfold maxLen; omega
  have C := fun w => specGetLe_all (s.extract 1 s.size) 2 w hm
  have eg : getLe s.data.toList.tail 2 = (leV (s.data.toList.tail.take 2), true) := by unfold getLe; rw [if_pos ⟨by decide, by decide, by omega⟩]; rfl
  rw [tail_data, eg] at C
  have hv : leV (s.data.toList.tail.take 2) < 18446744073709551616 := Nat.lt_of_lt_of_le (leV_take_lt _ _ hk) (by decide)
  have HP : Hid _ := fun w => specPutSize_any (leV (s.data.toList.tail.take 2)) w hv
  have hlen := putSize_len (leV (s.data.toList.tail.take 2))
  have A := fun w => l1Ahead_list s (putSize (leV (s.data.toList.tail.take 2))) w hs (by omega)
  have ep := putSize_253 s[0] s.data.toList.tail h2 hk hle
  have ea : ahead s.data.toList (putSize (leV (s.data.toList.tail.take 2))) = true := by
    rw [ep]; conv => lhs; arg 1; rw [data_cons s h0]
    exact ahead_yes _ _ _ hk
  have el : (putSize (leV (s.data.toList.tail.take 2))).length = 1 + 2 := by rw [ep, List.length_cons, List.length_take, Nat.min_eq_left hk]
  rw [ea] at A
  have HA : Hid _ := A
  have HC : Hid _ := C
  clear C A ep ea hle hk eg hlen hm
  generalize putSize (leV (s.data.toList.tail.take 2)) = t at *
  generalize leV (s.data.toList.tail.take 2) = v at *
  go_enter Tryz.func76, Tryz.ntmps76
  go_wp2
  go_region_with (go_at_call 52; refine (HC.out _).mono ?_; rintro e w' ⟨rfl, rfl⟩; rw [pairV])
  all_goals go_wp2_with (first | (go_at_call 72; refine (HP.out _).mono ?_; rintro e w2 ⟨rfl, hb2⟩) | (go_at_call 98; refine (HA.out _).mono ?_; rintro e w3 ⟨rfl, rfl⟩))
  all_goals
    go_ret3
    refine ⟨rfl, below_step ?_ hb2⟩
    go_grown
set_option maxRecDepth 100000 in
set_option maxHeartbeats 1000000 in
theorem specGetSize_253_lo (s : ByteArray) (w : World) (hs : s.size ≤ 1048576) (h0 : 0 < s.size) (hne : s.toList.isEmpty = false) (h2 : s[0].toNat = 253) (hk : 2 ≤ s.data.toList.tail.length) (hle : leV (s.data.toList.tail.take 2) < 253) : Calls Tryz.prog 76 #[.string s] w fun e w' => e = .returned (tripV (0, 0, false)) ∧ Below w.heap.size w w' := by
  have hi1 : (1 : Int) ≤ (s.size : Int) := by omega
  have hm : (s.extract 1 s.size).size ≤ maxLen := by rw [tail_size]; unfold maxLen; omega
  have C := fun w => specGetLe_all (s.extract 1 s.size) 2 w hm
  have eg : getLe s.data.toList.tail 2 = (leV (s.data.toList.tail.take 2), true) := by unfold getLe; rw [if_pos ⟨by decide, by decide, by omega⟩]; rfl
  rw [tail_data, eg] at C
  have hv : leV (s.data.toList.tail.take 2) < 18446744073709551616 := Nat.lt_of_lt_of_le (leV_take_lt _ _ hk) (by decide)
  have HP : Hid _ := fun w => specPutSize_any (leV (s.data.toList.tail.take 2)) w hv
  have hlen := putSize_len (leV (s.data.toList.tail.take 2))
  have A := fun w => l1Ahead_list s (putSize (leV (s.data.toList.tail.take 2))) w hs (by omega)
  have ea : ahead s.data.toList (putSize (leV (s.data.toList.tail.take 2))) = false := by
    conv => lhs; arg 1; rw [data_cons s h0]
    exact putSize_head _ _ _ (by omega) (by omega)
  rw [ea] at A
  have HA : Hid _ := A
  have HC : Hid _ := C
  clear C A ea hle hk eg hlen hm
  generalize putSize (leV (s.data.toList.tail.take 2)) = t at *
  generalize leV (s.data.toList.tail.take 2) = v at *
  go_enter Tryz.func76, Tryz.ntmps76
  go_wp2
  go_region_with (go_at_call 52; refine (HC.out _).mono ?_; rintro e w' ⟨rfl, rfl⟩; rw [pairV])
  all_goals go_wp2_with (first | (go_at_call 72; refine (HP.out _).mono ?_; rintro e w2 ⟨rfl, hb2⟩) | (go_at_call 98; refine (HA.out _).mono ?_; rintro e w3 ⟨rfl, rfl⟩))
  all_goals
    go_ret3
    refine ⟨rfl, below_step ?_ hb2⟩
    go_grown
set_option maxRecDepth 100000 in
set_option maxHeartbeats 1000000 in
theorem specGetSize_253_no (s : ByteArray) (w : World) (hs : s.size ≤ 1048576) (h0 : 0 < s.size) (hne : s.toList.isEmpty = false) (h2 : s[0].toNat = 253) (hk : ¬ 2 ≤ s.data.toList.tail.length) : Calls Tryz.prog 76 #[.string s] w fun e w' => e = .returned (tripV (0, 0, false)) ∧ Below w.heap.size w w' := by
  have hi1 : (1 : Int) ≤ (s.size : Int) := by omega
  have hm : (s.extract 1 s.size).size ≤ maxLen := by rw [tail_size]; unfold maxLen; omega
  have C := fun w => specGetLe_all (s.extract 1 s.size) 2 w hm
  have eg : getLe s.data.toList.tail 2 = (0, false) := by unfold getLe; rw [if_neg (by omega)]
  rw [tail_data, eg] at C
  have P := fun w => specPutSize_any 0 w (by decide)
  rw [show ((0 : Nat) : Int) = 0 from rfl] at P
  have HP : Hid _ := P
  have HC : Hid _ := C
  clear C P hk eg hm
  generalize putSize 0 = t at *
  go_enter Tryz.func76, Tryz.ntmps76
  go_wp2
  go_region_with (go_at_call 52; refine (HC.out _).mono ?_; rintro e w' ⟨rfl, rfl⟩; rw [pairV])
  all_goals go_wp2_with (go_at_call 72; refine (HP.out _).mono ?_; rintro e w2 ⟨rfl, hb2⟩)
  all_goals
    go_ret3
    refine ⟨rfl, below_step ?_ hb2⟩
    go_grown
theorem specGetSize_253 (s : ByteArray) (w : World) (hs : s.size ≤ 1048576) (h0 : 0 < s.size) (h2 : s[0].toNat = 253) : Calls Tryz.prog 76 #[.string s] w fun e w' => e = .returned (tripV (behind s.data.toList.tail 2 253)) ∧ Below w.heap.size w w' := by
  have hne := isEmpty_no s h0
  unfold behind
  by_cases hk : 2 ≤ s.data.toList.tail.length
  · by_cases hle : 253 ≤ leV (s.data.toList.tail.take 2)
    · rw [if_pos ⟨hk, hle⟩]; exact specGetSize_253_ok s w hs h0 hne h2 hk hle
    · rw [if_neg (fun h => hle h.2)]; exact specGetSize_253_lo s w hs h0 hne h2 hk (by omega)
  · rw [if_neg (fun h => hk h.1)]; exact specGetSize_253_no s w hs h0 hne h2 hk
set_option maxRecDepth 100000 in
set_option maxHeartbeats 1000000 in
theorem specGetSize_254_ok (s : ByteArray) (w : World) (hs : s.size ≤ 1048576) (h0 : 0 < s.size) (hne : s.toList.isEmpty = false) (h2 : s[0].toNat = 254) (hk : 4 ≤ s.data.toList.tail.length) (hle : 65536 ≤ leV (s.data.toList.tail.take 4)) : Calls Tryz.prog 76 #[.string s] w fun e w' => e = .returned (tripV (leV (s.data.toList.tail.take 4), 1 + 4, true)) ∧ Below w.heap.size w w' := by
  have hi1 : (1 : Int) ≤ (s.size : Int) := by omega
  have hm : (s.extract 1 s.size).size ≤ maxLen := by rw [tail_size]; unfold maxLen; omega
  have C := fun w => specGetLe_all (s.extract 1 s.size) 4 w hm
  have eg : getLe s.data.toList.tail 4 = (leV (s.data.toList.tail.take 4), true) := by unfold getLe; rw [if_pos ⟨by decide, by decide, by omega⟩]; rfl
  rw [tail_data, eg] at C
  have hv : leV (s.data.toList.tail.take 4) < 18446744073709551616 := Nat.lt_of_lt_of_le (leV_take_lt _ _ hk) (by decide)
  have HP : Hid _ := fun w => specPutSize_any (leV (s.data.toList.tail.take 4)) w hv
  have hlen := putSize_len (leV (s.data.toList.tail.take 4))
  have A := fun w => l1Ahead_list s (putSize (leV (s.data.toList.tail.take 4))) w hs (by omega)
  have ep := putSize_254 s[0] s.data.toList.tail h2 hk hle
  have ea : ahead s.data.toList (putSize (leV (s.data.toList.tail.take 4))) = true := by
    rw [ep]; conv => lhs; arg 1; rw [data_cons s h0]
    exact ahead_yes _ _ _ hk
  have el : (putSize (leV (s.data.toList.tail.take 4))).length = 1 + 4 := by rw [ep, List.length_cons, List.length_take, Nat.min_eq_left hk]
  rw [ea] at A
  have HA : Hid _ := A
  have HC : Hid _ := C
  clear C A ep ea hle hk eg hlen hm
  generalize putSize (leV (s.data.toList.tail.take 4)) = t at *
  generalize leV (s.data.toList.tail.take 4) = v at *
  go_enter Tryz.func76, Tryz.ntmps76
  go_wp2
  go_region_with (go_at_call 52; refine (HC.out _).mono ?_; rintro e w' ⟨rfl, rfl⟩; rw [pairV])
  all_goals go_wp2_with (first | (go_at_call 72; refine (HP.out _).mono ?_; rintro e w2 ⟨rfl, hb2⟩) | (go_at_call 98; refine (HA.out _).mono ?_; rintro e w3 ⟨rfl, rfl⟩))
  all_goals
    go_ret3
    refine ⟨rfl, below_step ?_ hb2⟩
    go_grown
set_option maxRecDepth 100000 in
set_option maxHeartbeats 1000000 in
theorem specGetSize_254_lo (s : ByteArray) (w : World) (hs : s.size ≤ 1048576) (h0 : 0 < s.size) (hne : s.toList.isEmpty = false) (h2 : s[0].toNat = 254) (hk : 4 ≤ s.data.toList.tail.length) (hle : leV (s.data.toList.tail.take 4) < 65536) : Calls Tryz.prog 76 #[.string s] w fun e w' => e = .returned (tripV (0, 0, false)) ∧ Below w.heap.size w w' := by
  have hi1 : (1 : Int) ≤ (s.size : Int) := by omega
  have hm : (s.extract 1 s.size).size ≤ maxLen := by rw [tail_size]; unfold maxLen; omega
  have C := fun w => specGetLe_all (s.extract 1 s.size) 4 w hm
  have eg : getLe s.data.toList.tail 4 = (leV (s.data.toList.tail.take 4), true) := by unfold getLe; rw [if_pos ⟨by decide, by decide, by omega⟩]; rfl
  rw [tail_data, eg] at C
  have hv : leV (s.data.toList.tail.take 4) < 18446744073709551616 := Nat.lt_of_lt_of_le (leV_take_lt _ _ hk) (by decide)
  have HP : Hid _ := fun w => specPutSize_any (leV (s.data.toList.tail.take 4)) w hv
  have hlen := putSize_len (leV (s.data.toList.tail.take 4))
  have A := fun w => l1Ahead_list s (putSize (leV (s.data.toList.tail.take 4))) w hs (by omega)
  have ea : ahead s.data.toList (putSize (leV (s.data.toList.tail.take 4))) = false := by
    conv => lhs; arg 1; rw [data_cons s h0]
    exact putSize_head _ _ _ (by omega) (by omega)
  rw [ea] at A
  have HA : Hid _ := A
  have HC : Hid _ := C
  clear C A ea hle hk eg hlen hm
  generalize putSize (leV (s.data.toList.tail.take 4)) = t at *
  generalize leV (s.data.toList.tail.take 4) = v at *
  go_enter Tryz.func76, Tryz.ntmps76
  go_wp2
  go_region_with (go_at_call 52; refine (HC.out _).mono ?_; rintro e w' ⟨rfl, rfl⟩; rw [pairV])
  all_goals go_wp2_with (first | (go_at_call 72; refine (HP.out _).mono ?_; rintro e w2 ⟨rfl, hb2⟩) | (go_at_call 98; refine (HA.out _).mono ?_; rintro e w3 ⟨rfl, rfl⟩))
  all_goals
    go_ret3
    refine ⟨rfl, below_step ?_ hb2⟩
    go_grown
set_option maxRecDepth 100000 in
set_option maxHeartbeats 1000000 in
theorem specGetSize_254_no (s : ByteArray) (w : World) (hs : s.size ≤ 1048576) (h0 : 0 < s.size) (hne : s.toList.isEmpty = false) (h2 : s[0].toNat = 254) (hk : ¬ 4 ≤ s.data.toList.tail.length) : Calls Tryz.prog 76 #[.string s] w fun e w' => e = .returned (tripV (0, 0, false)) ∧ Below w.heap.size w w' := by
  have hi1 : (1 : Int) ≤ (s.size : Int) := by omega
  have hm : (s.extract 1 s.size).size ≤ maxLen := by rw [tail_size]; unfold maxLen; omega
  have C := fun w => specGetLe_all (s.extract 1 s.size) 4 w hm
  have eg : getLe s.data.toList.tail 4 = (0, false) := by unfold getLe; rw [if_neg (by omega)]
  rw [tail_data, eg] at C
  have P := fun w => specPutSize_any 0 w (by decide)
  rw [show ((0 : Nat) : Int) = 0 from rfl] at P
  have HP : Hid _ := P
  have HC : Hid _ := C
  clear C P hk eg hm
  generalize putSize 0 = t at *
  go_enter Tryz.func76, Tryz.ntmps76
  go_wp2
  go_region_with (go_at_call 52; refine (HC.out _).mono ?_; rintro e w' ⟨rfl, rfl⟩; rw [pairV])
  all_goals go_wp2_with (go_at_call 72; refine (HP.out _).mono ?_; rintro e w2 ⟨rfl, hb2⟩)
  all_goals
    go_ret3
    refine ⟨rfl, below_step ?_ hb2⟩
    go_grown
theorem specGetSize_254 (s : ByteArray) (w : World) (hs : s.size ≤ 1048576) (h0 : 0 < s.size) (h2 : s[0].toNat = 254) : Calls Tryz.prog 76 #[.string s] w fun e w' => e = .returned (tripV (behind s.data.toList.tail 4 65536)) ∧ Below w.heap.size w w' := by
  have hne := isEmpty_no s h0
  unfold behind
  by_cases hk : 4 ≤ s.data.toList.tail.length
  · by_cases hle : 65536 ≤ leV (s.data.toList.tail.take 4)
    · rw [if_pos ⟨hk, hle⟩]; exact specGetSize_254_ok s w hs h0 hne h2 hk hle
    · rw [if_neg (fun h => hle h.2)]; exact specGetSize_254_lo s w hs h0 hne h2 hk (by omega)
  · rw [if_neg (fun h => hk h.1)]; exact specGetSize_254_no s w hs h0 hne h2 hk
set_option maxRecDepth 100000 in
set_option maxHeartbeats 1000000 in
theorem specGetSize_255_ok (s : ByteArray) (w : World) (hs : s.size ≤ 1048576) (h0 : 0 < s.size) (hne : s.toList.isEmpty = false) (h2 : s[0].toNat = 255) (hk : 8 ≤ s.data.toList.tail.length) (hle : 4294967296 ≤ leV (s.data.toList.tail.take 8)) : Calls Tryz.prog 76 #[.string s] w fun e w' => e = .returned (tripV (leV (s.data.toList.tail.take 8), 1 + 8, true)) ∧ Below w.heap.size w w' := by
  have hi1 : (1 : Int) ≤ (s.size : Int) := by omega
  have hm : (s.extract 1 s.size).size ≤ maxLen := by rw [tail_size]; unfold maxLen; omega
  have C := fun w => specGetLe_all (s.extract 1 s.size) 8 w hm
  have eg : getLe s.data.toList.tail 8 = (leV (s.data.toList.tail.take 8), true) := by unfold getLe; rw [if_pos ⟨by decide, by decide, by omega⟩]; rfl
  rw [tail_data, eg] at C
  have hv : leV (s.data.toList.tail.take 8) < 18446744073709551616 := Nat.lt_of_lt_of_le (leV_take_lt _ _ hk) (by decide)
  have HP : Hid _ := fun w => specPutSize_any (leV (s.data.toList.tail.take 8)) w hv
  have hlen := putSize_len (leV (s.data.toList.tail.take 8))
  have A := fun w => l1Ahead_list s (putSize (leV (s.data.toList.tail.take 8))) w hs (by omega)
  have ep := putSize_255 s[0] s.data.toList.tail h2 hk hle
  have ea : ahead s.data.toList (putSize (leV (s.data.toList.tail.take 8))) = true := by
    rw [ep]; conv => lhs; arg 1; rw [data_cons s h0]
    exact ahead_yes _ _ _ hk
  have el : (putSize (leV (s.data.toList.tail.take 8))).length = 1 + 8 := by rw [ep, List.length_cons, List.length_take, Nat.min_eq_left hk]
  rw [ea] at A
  have HA : Hid _ := A
  have HC : Hid _ := C
  clear C A ep ea hle hk eg hlen hm
  generalize putSize (leV (s.data.toList.tail.take 8)) = t at *
  generalize leV (s.data.toList.tail.take 8) = v at *
  go_enter Tryz.func76, Tryz.ntmps76
  go_wp2
  go_region_with (go_at_call 52; refine (HC.out _).mono ?_; rintro e w' ⟨rfl, rfl⟩; rw [pairV])
  all_goals go_wp2_with (first | (go_at_call 72; refine (HP.out _).mono ?_; rintro e w2 ⟨rfl, hb2⟩) | (go_at_call 98; refine (HA.out _).mono ?_; rintro e w3 ⟨rfl, rfl⟩))
  all_goals
    go_ret3
    refine ⟨rfl, below_step ?_ hb2⟩
    go_grown
set_option maxRecDepth 100000 in
set_option maxHeartbeats 1000000 in
theorem specGetSize_255_lo (s : ByteArray) (w : World) (hs : s.size ≤ 1048576) (h0 : 0 < s.size) (hne : s.toList.isEmpty = false) (h2 : s[0].toNat = 255) (hk : 8 ≤ s.data.toList.tail.length) (hle : leV (s.data.toList.tail.take 8) < 4294967296) : Calls Tryz.prog 76 #[.string s] w fun e w' => e = .returned (tripV (0, 0, false)) ∧ Below w.heap.size w w' := by
  have hi1 : (1 : Int) ≤ (s.size : Int) := by omega
  have hm : (s.extract 1 s.size).size ≤ maxLen := by rw [tail_size]; unfold maxLen; omega
  have C := fun w => specGetLe_all (s.extract 1 s.size) 8 w hm
  have eg : getLe s.data.toList.tail 8 = (leV (s.data.toList.tail.take 8), true) := by unfold getLe; rw [if_pos ⟨by decide, by decide, by omega⟩]; rfl
  rw [tail_data, eg] at C
  have hv : leV (s.data.toList.tail.take 8) < 18446744073709551616 := Nat.lt_of_lt_of_le (leV_take_lt _ _ hk) (by decide)
  have HP : Hid _ := fun w => specPutSize_any (leV (s.data.toList.tail.take 8)) w hv
  have hlen := putSize_len (leV (s.data.toList.tail.take 8))
  have A := fun w => l1Ahead_list s (putSize (leV (s.data.toList.tail.take 8))) w hs (by omega)
  have ea : ahead s.data.toList (putSize (leV (s.data.toList.tail.take 8))) = false := by
    conv => lhs; arg 1; rw [data_cons s h0]
    exact putSize_head _ _ _ (by omega) (by omega)
  rw [ea] at A
  have HA : Hid _ := A
  have HC : Hid _ := C
  clear C A ea hle hk eg hlen hm
  generalize putSize (leV (s.data.toList.tail.take 8)) = t at *
  generalize leV (s.data.toList.tail.take 8) = v at *
  go_enter Tryz.func76, Tryz.ntmps76
  go_wp2
  go_region_with (go_at_call 52; refine (HC.out _).mono ?_; rintro e w' ⟨rfl, rfl⟩; rw [pairV])
  all_goals go_wp2_with (first | (go_at_call 72; refine (HP.out _).mono ?_; rintro e w2 ⟨rfl, hb2⟩) | (go_at_call 98; refine (HA.out _).mono ?_; rintro e w3 ⟨rfl, rfl⟩))
  all_goals
    go_ret3
    refine ⟨rfl, below_step ?_ hb2⟩
    go_grown
set_option maxRecDepth 100000 in
set_option maxHeartbeats 1000000 in
theorem specGetSize_255_no (s : ByteArray) (w : World) (hs : s.size ≤ 1048576) (h0 : 0 < s.size) (hne : s.toList.isEmpty = false) (h2 : s[0].toNat = 255) (hk : ¬ 8 ≤ s.data.toList.tail.length) : Calls Tryz.prog 76 #[.string s] w fun e w' => e = .returned (tripV (0, 0, false)) ∧ Below w.heap.size w w' := by
  have hi1 : (1 : Int) ≤ (s.size : Int) := by omega
  have hm : (s.extract 1 s.size).size ≤ maxLen := by rw [tail_size]; unfold maxLen; omega
  have C := fun w => specGetLe_all (s.extract 1 s.size) 8 w hm
  have eg : getLe s.data.toList.tail 8 = (0, false) := by unfold getLe; rw [if_neg (by omega)]
  rw [tail_data, eg] at C
  have P := fun w => specPutSize_any 0 w (by decide)
  rw [show ((0 : Nat) : Int) = 0 from rfl] at P
  have HP : Hid _ := P
  have HC : Hid _ := C
  clear C P hk eg hm
  generalize putSize 0 = t at *
  go_enter Tryz.func76, Tryz.ntmps76
  go_wp2
  go_region_with (go_at_call 52; refine (HC.out _).mono ?_; rintro e w' ⟨rfl, rfl⟩; rw [pairV])
  all_goals go_wp2_with (go_at_call 72; refine (HP.out _).mono ?_; rintro e w2 ⟨rfl, hb2⟩)
  all_goals
    go_ret3
    refine ⟨rfl, below_step ?_ hb2⟩
    go_grown
theorem specGetSize_255 (s : ByteArray) (w : World) (hs : s.size ≤ 1048576) (h0 : 0 < s.size) (h2 : s[0].toNat = 255) : Calls Tryz.prog 76 #[.string s] w fun e w' => e = .returned (tripV (behind s.data.toList.tail 8 4294967296)) ∧ Below w.heap.size w w' := by
  have hne := isEmpty_no s h0
  unfold behind
  by_cases hk : 8 ≤ s.data.toList.tail.length
  · by_cases hle : 4294967296 ≤ leV (s.data.toList.tail.take 8)
    · rw [if_pos ⟨hk, hle⟩]; exact specGetSize_255_ok s w hs h0 hne h2 hk hle
    · rw [if_neg (fun h => hle h.2)]; exact specGetSize_255_lo s w hs h0 hne h2 hk (by omega)
  · rw [if_neg (fun h => hk h.1)]; exact specGetSize_255_no s w hs h0 hne h2 hk
set_option maxRecDepth 100000 in
set_option maxHeartbeats 1000000 in
theorem specGetSize_small (s : ByteArray) (w : World) (hs : s.size ≤ 1048576) (h0 : 0 < s.size) (h1 : s[0].toNat < 253) : Calls Tryz.prog 76 #[.string s] w fun e w' => e = .returned (tripV (s[0].toNat, 1, true)) ∧ Below w.heap.size w w' := by
  have hne := isEmpty_no s h0
  have ep : putSize s[0].toNat = [s[0]] := by
    unfold putSize
    rw [if_pos h1, leL_cons, UInt8.ofNat_toNat]
    rfl
  have P := fun w => specPutSize_any s[0].toNat w (by omega)
  rw [ep] at P
  have A := fun w => l1Ahead_list s [s[0]] w hs (by simp)
  have ea : ahead s.data.toList [s[0]] = true := by
    conv => lhs; arg 1; rw [data_cons s h0]
    exact ahead_yes _ _ 0 (Nat.zero_le _)
  rw [ea] at A
  have HP : Hid _ := P
  have HA : Hid _ := A
  have i1 : (s[0].toNat : Int) ≤ 252 := by omega
  clear P A ep ea h1
  go_enter Tryz.func76, Tryz.ntmps76
  go_wp2_with (first | (go_at_call 72; refine (HP.out _).mono ?_; rintro e w2 ⟨rfl, hb2⟩) | (go_at_call 98; refine (HA.out _).mono ?_; rintro e w3 ⟨rfl, rfl⟩))
  go_ret3
  exact ⟨rfl, hb2⟩
theorem specGetSize_any (s : ByteArray) (w : World) (hs : s.size ≤ 1048576) : Calls Tryz.prog 76 #[.string s] w fun e w' => e = .returned (tripV (getSize s.data.toList)) ∧ Below w.heap.size w w' := by
  by_cases h0 : 0 < s.size
  · have hb256 := s[0].toNat_lt
    rw [data_cons s h0]
    by_cases h1 : s[0].toNat < 253
    · rw [show getSize (s[0] :: s.data.toList.tail) = (s[0].toNat, 1, true) from by simp [getSize, h1]]
      exact specGetSize_small s w hs h0 h1
    · by_cases h2 : s[0].toNat = 253
      · rw [show getSize (s[0] :: s.data.toList.tail) = behind s.data.toList.tail 2 253 from by simp [getSize, h2]]
        exact specGetSize_253 s w hs h0 h2
      · by_cases h3 : s[0].toNat = 254
        · rw [show getSize (s[0] :: s.data.toList.tail) = behind s.data.toList.tail 4 65536 from by simp [getSize, h3]]
          exact specGetSize_254 s w hs h0 h3
        · have h4 : s[0].toNat = 255 := by omega
          rw [show getSize (s[0] :: s.data.toList.tail) = behind s.data.toList.tail 8 4294967296 from by simp [getSize, h4]]
          exact specGetSize_255 s w hs h0 h4
  · have hne := isEmpty_yes s h0
    rw [data_nil s h0]
    go_enter Tryz.func76, Tryz.ntmps76
    go_wp2
    go_ret3
    exact ⟨rfl, Below.refl _ _⟩
end Go.Proofs.YtichgnddbnibjaaGreatDoor
namespace Go.Proofs.YtichgnddbnibjaaGreatDoor
open Go.RowKit
set_option linter.unusedVariables false
/-- A number that shares its k bytes with two bits: at least so much. -/
def cw (l : List UInt8) (k least : Nat) : Nat × Nat × Bool := if k ≤ l.length ∧ least ≤ leV (l.take k) / 4 then (leV (l.take k) / 4, k, true) else (0, 0, false)
/-- A longer one, in k bytes behind the first. -/
def cl (r : List UInt8) (k : Nat) : Nat × Nat × Bool := if k ≤ 8 ∧ k ≤ r.length ∧ 1073741824 ≤ leV (r.take k) ∧ by8 (leV (r.take k)) = k then (leV (r.take k), 1 + k, true) else (0, 0, false)
def getCompact : List UInt8 → Nat × Nat × Bool
  | [] => (0, 0, false)
  | b :: r => if b.toNat % 4 = 0 then cw (b :: r) 1 0 else if b.toNat % 4 = 1 then cw (b :: r) 2 64 else if b.toNat % 4 = 2 then cw (b :: r) 4 16384 else cl r (b.toNat / 4 + 4)
theorem and3 (b : UInt8) : bits BinOp.and IntKind.u8 (b.toNat : Int) 3 = ((b.toNat % 4 : Nat) : Int) := by
  have hb := b.toNat_lt
  have h := u8_and_nat b.toNat 3 (by omega) (by decide)
  rw [show ((3 : Nat) : Int) = 3 from rfl] at h
  rw [h, show b.toNat &&& 3 = b.toNat % 4 from Nat.and_two_pow_sub_one_eq_mod b.toNat 2]
theorem listLen (s : ByteArray) : s.data.toList.length = s.size := Array.length_toList
theorem wide4 (b : UInt8) : wrap64 (wrap64 ((b.toNat : Int) / 4) + 4) = ((b.toNat / 4 + 4 : Nat) : Int) := by
  have hb := b.toNat_lt
  simp only [wrap64]
  omega
end Go.Proofs.YtichgnddbnibjaaGreatDoor
namespace Go.Proofs.YtichgnddbnibjaaGreatDoor
open Go.RowKit
set_option linter.unusedVariables false
/-- The two bits of a compact number's form. -/
def tag (n : Nat) : Nat := if n < 64 then 0 else if n < 16384 then 1 else if n < 1073741824 then 2 else 3
theorem putCompact_first (n : Nat) : ∃ c t, putCompact n = c :: t ∧ c.toNat % 4 = tag n := by
  unfold putCompact tag
  by_cases h1 : n < 64
  · rw [if_pos h1, if_pos h1, leL_cons]
    exact ⟨_, _, rfl, by rw [UInt8.toNat_ofNat']; omega⟩
  · rw [if_neg h1, if_neg h1]
    by_cases h2 : n < 16384
    · rw [if_pos h2, if_pos h2, leL_cons]
      exact ⟨_, _, rfl, by rw [UInt8.toNat_ofNat']; omega⟩
    · rw [if_neg h2, if_neg h2]
      by_cases h3 : n < 1073741824
      · rw [if_pos h3, if_pos h3, leL_cons]
        exact ⟨_, _, rfl, by rw [UInt8.toNat_ofNat']; omega⟩
      · rw [if_neg h3, if_neg h3, leL_cons]
        exact ⟨_, _, rfl, by rw [UInt8.toNat_ofNat']; omega⟩
theorem putCompact_not (n : Nat) (b : UInt8) (r : List UInt8) (h : b.toNat % 4 ≠ tag n) : ahead (b :: r) (putCompact n) = false := by
  obtain ⟨c, t, e, hc⟩ := putCompact_first n
  rw [e]
  refine ahead_ne _ _ _ _ (fun hb => h ?_)
  rw [hb]; exact hc
theorem putCompact_len (n : Nat) (hn : n < 18446744073709551616) : (putCompact n).length ≤ 9 := by
  have h8 := by8_8 n hn
  unfold putCompact
  repeat' split
  all_goals simp [leL_len]
  omega
theorem leV_mod (b : UInt8) (r : List UInt8) (k : Nat) (hk : 1 ≤ k) : leV ((b :: r).take k) % 4 = b.toNat % 4 := by
  match k with
  | 0 => omega
  | k + 1 => rw [List.take_succ_cons]; simp only [leV]; omega
theorem ahead_take (l : List UInt8) (k : Nat) (h : k ≤ l.length) : ahead l (l.take k) = true := by
  unfold ahead
  rw [beq_iff_eq, List.length_take, Nat.min_eq_left h]
theorem putCompact_0 (b : UInt8) (r : List UInt8) (hb : b.toNat % 4 = 0) (hk : 1 ≤ (b :: r).length) (hle : 0 ≤ leV ((b :: r).take 1) / 4) : putCompact (leV ((b :: r).take 1) / 4) = (b :: r).take 1 := by
  have h1 := leV_take_lt (b :: r) 1 hk
  have h1' : leV ((b :: r).take 1) / 4 < 64 := by omega
  have h2 := leV_mod b r 1 (by decide)
  have e := leL_take (b :: r) 1 hk
  generalize leV ((b :: r).take 1) = v at *
  have ev : 4 * (v / 4) + 0 = v := by omega
  unfold putCompact
  rcases (show (0 = 0 ∧ v / 4 < 64) ∨ (0 = 1 ∧ ¬ v / 4 < 64 ∧ v / 4 < 16384) ∨ (0 = 2 ∧ ¬ v / 4 < 64 ∧ ¬ v / 4 < 16384 ∧ v / 4 < 1073741824) from by omega) with h | h | h
  · rw [if_pos h.2]; rw [show 4 * (v / 4) = v from by omega]; first | exact e | exact absurd h.1 (by decide)
  · rw [if_neg h.2.1, if_pos h.2.2]; rw [show 4 * (v / 4) + 1 = v from by omega]; first | exact e | exact absurd h.1 (by decide)
  · rw [if_neg h.2.1, if_neg h.2.2.1, if_pos h.2.2.2]; rw [show 4 * (v / 4) + 2 = v from by omega]; first | exact e | exact absurd h.1 (by decide)
theorem putCompact_1 (b : UInt8) (r : List UInt8) (hb : b.toNat % 4 = 1) (hk : 2 ≤ (b :: r).length) (hle : 64 ≤ leV ((b :: r).take 2) / 4) : putCompact (leV ((b :: r).take 2) / 4) = (b :: r).take 2 := by
  have h1 := leV_take_lt (b :: r) 2 hk
  have h1' : leV ((b :: r).take 2) / 4 < 16384 := by omega
  have h2 := leV_mod b r 2 (by decide)
  have e := leL_take (b :: r) 2 hk
  generalize leV ((b :: r).take 2) = v at *
  have ev : 4 * (v / 4) + 1 = v := by omega
  unfold putCompact
  rcases (show (1 = 0 ∧ v / 4 < 64) ∨ (1 = 1 ∧ ¬ v / 4 < 64 ∧ v / 4 < 16384) ∨ (1 = 2 ∧ ¬ v / 4 < 64 ∧ ¬ v / 4 < 16384 ∧ v / 4 < 1073741824) from by omega) with h | h | h
  · rw [if_pos h.2]; rw [show 4 * (v / 4) = v from by omega]; first | exact e | exact absurd h.1 (by decide)
  · rw [if_neg h.2.1, if_pos h.2.2]; rw [show 4 * (v / 4) + 1 = v from by omega]; first | exact e | exact absurd h.1 (by decide)
  · rw [if_neg h.2.1, if_neg h.2.2.1, if_pos h.2.2.2]; rw [show 4 * (v / 4) + 2 = v from by omega]; first | exact e | exact absurd h.1 (by decide)
theorem putCompact_2 (b : UInt8) (r : List UInt8) (hb : b.toNat % 4 = 2) (hk : 4 ≤ (b :: r).length) (hle : 16384 ≤ leV ((b :: r).take 4) / 4) : putCompact (leV ((b :: r).take 4) / 4) = (b :: r).take 4 := by
  have h1 := leV_take_lt (b :: r) 4 hk
  have h1' : leV ((b :: r).take 4) / 4 < 1073741824 := by omega
  have h2 := leV_mod b r 4 (by decide)
  have e := leL_take (b :: r) 4 hk
  generalize leV ((b :: r).take 4) = v at *
  have ev : 4 * (v / 4) + 2 = v := by omega
  unfold putCompact
  rcases (show (2 = 0 ∧ v / 4 < 64) ∨ (2 = 1 ∧ ¬ v / 4 < 64 ∧ v / 4 < 16384) ∨ (2 = 2 ∧ ¬ v / 4 < 64 ∧ ¬ v / 4 < 16384 ∧ v / 4 < 1073741824) from by omega) with h | h | h
  · rw [if_pos h.2]; rw [show 4 * (v / 4) = v from by omega]; first | exact e | exact absurd h.1 (by decide)
  · rw [if_neg h.2.1, if_pos h.2.2]; rw [show 4 * (v / 4) + 1 = v from by omega]; first | exact e | exact absurd h.1 (by decide)
  · rw [if_neg h.2.1, if_neg h.2.2.1, if_pos h.2.2.2]; rw [show 4 * (v / 4) + 2 = v from by omega]; first | exact e | exact absurd h.1 (by decide)
theorem putCompact_long (b : UInt8) (r : List UInt8) (k : Nat) (hb : b.toNat = 4 * (k - 4) + 3) (hk : k ≤ r.length) (h30 : 1073741824 ≤ leV (r.take k)) (hbk : by8 (leV (r.take k)) = k) : putCompact (leV (r.take k)) = b :: r.take k := by
  have e := leL_take r k hk
  unfold putCompact
  rw [if_neg (by omega), if_neg (by omega), if_neg (by omega), hbk, e, leL_cons]
  rw [← hb, UInt8.ofNat_toNat]
  rfl
theorem putCompact_other (b : UInt8) (r r' : List UInt8) (k v : Nat) (hv : v < 18446744073709551616) (hk4 : 4 ≤ k) (hb : b.toNat = 4 * (k - 4) + 3) (h : ¬ (1073741824 ≤ v ∧ by8 v = k)) : ahead (b :: r) (putCompact v) = false := by
  by_cases h30 : 1073741824 ≤ v
  · have hbk : by8 v ≠ k := fun e => h ⟨h30, e⟩
    have h4 := by8_4 v (by omega)
    have h8 := by8_8 v hv
    unfold putCompact
    rw [if_neg (by omega), if_neg (by omega), if_neg (by omega), leL_cons]
    refine ahead_ne _ _ _ _ (fun hc => ?_)
    have := congrArg UInt8.toNat hc
    rw [UInt8.toNat_ofNat', hb] at this
    omega
  · refine putCompact_not _ _ _ ?_
    unfold tag
    rw [hb]
    repeat' split
    all_goals omega
theorem wide4r (b : UInt8) : IntKind.i64.wrap (IntKind.i64.wrap (IntKind.u8.wrap ((b.toNat : Int) / 4)) + 4) = ((b.toNat / 4 + 4 : Nat) : Int) := by
  have hb := b.toNat_lt
  rw [IntKind.wrap_u8, IntKind.wrap_i64, IntKind.wrap_i64]
  omega
set_option maxRecDepth 100000 in
set_option maxHeartbeats 1000000 in
theorem specGetCompact_0_in (s : ByteArray) (w : World) (hs : s.size ≤ 1048576) (h0 : 0 < s.size) (hne : s.toList.isEmpty = false) (h2 : s[0].toNat % 4 = 0) (hk : 1 ≤ s.data.toList.length) : Calls Tryz.prog 77 #[.string s] w fun e w' => e = .returned (tripV (cw s.data.toList 1 0)) ∧ Below w.heap.size w w' := by
  have i4 : ((s[0]'h0).toNat : Int) % 4 = 0 := by omega
  have C := fun w => specGetLe_all s 1 w (by unfold maxLen; omega)
  have eg : getLe s.data.toList 1 = (leV (s.data.toList.take 1), true) := by unfold getLe; rw [if_pos ⟨by decide, by decide, by omega⟩]; rfl
  rw [eg] at C
  have hv : leV (s.data.toList.take 1) / 4 < 18446744073709551616 := by
    have h1 := leV_take_lt s.data.toList 1 hk
    have h3 : 2 ^ (8 * 1) ≤ 18446744073709551616 := by decide
    omega
  have P := fun w => specPutCompact_any (leV (s.data.toList.take 1) / 4) w hv
  rw [show ((leV (s.data.toList.take 1) / 4 : Nat) : Int) = (leV (s.data.toList.take 1) : Int) / 4 from by omega] at P
  have hlen := putCompact_len _ hv
  have A := fun w => l1Ahead_list s (putCompact (leV (s.data.toList.take 1) / 4)) w hs (by omega)
  by_cases hle : 0 ≤ leV (s.data.toList.take 1) / 4
  · have ep : putCompact (leV (s.data.toList.take 1) / 4) = s.data.toList.take 1 := by
      have := putCompact_0 s[0] s.data.toList.tail h2 (by rw [← data_cons s h0]; exact hk) (by rw [← data_cons s h0]; exact hle)
      rwa [← data_cons s h0] at this
    have ea : ahead s.data.toList (putCompact (leV (s.data.toList.take 1) / 4)) = true := by rw [ep]; exact ahead_take _ _ hk
    have el : (putCompact (leV (s.data.toList.take 1) / 4)).length = 1 := by rw [ep, List.length_take, Nat.min_eq_left hk]
    have eb : cw s.data.toList 1 0 = (leV (s.data.toList.take 1) / 4, 1, true) := by unfold cw; rw [if_pos ⟨hk, hle⟩]
    rw [eb]
    rw [ea] at A
    have HA : Hid _ := A
    have HC : Hid _ := C
    have HP : Hid _ := P
    clear C A P ep ea hle hk eg hlen eb h2
    generalize putCompact (leV (s.data.toList.take 1) / 4) = t at *
    generalize leV (s.data.toList.take 1) = v at *
    go_enter Tryz.func77, Tryz.ntmps77
    go_wp2_with (first | (go_at_call 52; refine (HC.out _).mono ?_; rintro e w1 ⟨rfl, rfl⟩; rw [pairV]) | (go_at_call 73; refine (HP.out _).mono ?_; rintro e w2 ⟨rfl, hb2⟩) | (go_at_call 98; refine (HA.out _).mono ?_; rintro e w3 ⟨rfl, rfl⟩))
    go_ret3
    refine ⟨by simp [tripV], below_step ?_ hb2⟩
    go_grown
  · have ea : ahead s.data.toList (putCompact (leV (s.data.toList.take 1) / 4)) = false := by
      conv => lhs; arg 1; rw [data_cons s h0]
      refine putCompact_not _ _ _ ?_
      rw [h2]
      unfold tag
      repeat' split
      all_goals omega
    have eb : cw s.data.toList 1 0 = (0, 0, false) := by unfold cw; rw [if_neg (fun h => hle h.2)]
    rw [eb]
    rw [ea] at A
    have HA : Hid _ := A
    have HC : Hid _ := C
    have HP : Hid _ := P
    clear C A P ea hle hk eg hlen eb h2
    generalize putCompact (leV (s.data.toList.take 1) / 4) = t at *
    generalize leV (s.data.toList.take 1) = v at *
    go_enter Tryz.func77, Tryz.ntmps77
    go_wp2_with (first | (go_at_call 52; refine (HC.out _).mono ?_; rintro e w1 ⟨rfl, rfl⟩; rw [pairV]) | (go_at_call 73; refine (HP.out _).mono ?_; rintro e w2 ⟨rfl, hb2⟩) | (go_at_call 98; refine (HA.out _).mono ?_; rintro e w3 ⟨rfl, rfl⟩))
    go_ret3
    refine ⟨rfl, below_step ?_ hb2⟩
    go_grown
set_option maxRecDepth 100000 in
set_option maxHeartbeats 1000000 in
theorem specGetCompact_0_no (s : ByteArray) (w : World) (hs : s.size ≤ 1048576) (h0 : 0 < s.size) (hne : s.toList.isEmpty = false) (h2 : s[0].toNat % 4 = 0) (hk : ¬ 1 ≤ s.data.toList.length) : Calls Tryz.prog 77 #[.string s] w fun e w' => e = .returned (tripV (cw s.data.toList 1 0)) ∧ Below w.heap.size w w' := by
  have i4 : ((s[0]'h0).toNat : Int) % 4 = 0 := by omega
  have C := fun w => specGetLe_all s 1 w (by unfold maxLen; omega)
  have eg : getLe s.data.toList 1 = (0, false) := by unfold getLe; rw [if_neg (by omega)]
  rw [eg] at C
  have P := fun w => specPutCompact_any 0 w (by decide)
  rw [show ((0 : Nat) : Int) = 0 from rfl] at P
  have eb : cw s.data.toList 1 0 = (0, 0, false) := by unfold cw; rw [if_neg (fun h => hk h.1)]
  rw [eb]
  have HC : Hid _ := C
  have HP : Hid _ := P
  clear C P hk eg eb h2
  generalize putCompact 0 = t at *
  go_enter Tryz.func77, Tryz.ntmps77
  go_wp2_with (first | (go_at_call 52; refine (HC.out _).mono ?_; rintro e w1 ⟨rfl, rfl⟩; rw [pairV]) | (go_at_call 73; refine (HP.out _).mono ?_; rintro e w2 ⟨rfl, hb2⟩))
  go_ret3
  refine ⟨rfl, below_step ?_ hb2⟩
  go_grown
set_option maxRecDepth 100000 in
set_option maxHeartbeats 1000000 in
theorem specGetCompact_1_in (s : ByteArray) (w : World) (hs : s.size ≤ 1048576) (h0 : 0 < s.size) (hne : s.toList.isEmpty = false) (h2 : s[0].toNat % 4 = 1) (hk : 2 ≤ s.data.toList.length) : Calls Tryz.prog 77 #[.string s] w fun e w' => e = .returned (tripV (cw s.data.toList 2 64)) ∧ Below w.heap.size w w' := by
  have i4 : ((s[0]'h0).toNat : Int) % 4 = 1 := by omega
  have C := fun w => specGetLe_all s 2 w (by unfold maxLen; omega)
  have eg : getLe s.data.toList 2 = (leV (s.data.toList.take 2), true) := by unfold getLe; rw [if_pos ⟨by decide, by decide, by omega⟩]; rfl
  rw [eg] at C
  have hv : leV (s.data.toList.take 2) / 4 < 18446744073709551616 := by
    have h1 := leV_take_lt s.data.toList 2 hk
    have h3 : 2 ^ (8 * 2) ≤ 18446744073709551616 := by decide
    omega
  have P := fun w => specPutCompact_any (leV (s.data.toList.take 2) / 4) w hv
  rw [show ((leV (s.data.toList.take 2) / 4 : Nat) : Int) = (leV (s.data.toList.take 2) : Int) / 4 from by omega] at P
  have hlen := putCompact_len _ hv
  have A := fun w => l1Ahead_list s (putCompact (leV (s.data.toList.take 2) / 4)) w hs (by omega)
  by_cases hle : 64 ≤ leV (s.data.toList.take 2) / 4
  · have ep : putCompact (leV (s.data.toList.take 2) / 4) = s.data.toList.take 2 := by
      have := putCompact_1 s[0] s.data.toList.tail h2 (by rw [← data_cons s h0]; exact hk) (by rw [← data_cons s h0]; exact hle)
      rwa [← data_cons s h0] at this
    have ea : ahead s.data.toList (putCompact (leV (s.data.toList.take 2) / 4)) = true := by rw [ep]; exact ahead_take _ _ hk
    have el : (putCompact (leV (s.data.toList.take 2) / 4)).length = 2 := by rw [ep, List.length_take, Nat.min_eq_left hk]
    have eb : cw s.data.toList 2 64 = (leV (s.data.toList.take 2) / 4, 2, true) := by unfold cw; rw [if_pos ⟨hk, hle⟩]
    rw [eb]
    rw [ea] at A
    have HA : Hid _ := A
    have HC : Hid _ := C
    have HP : Hid _ := P
    clear C A P ep ea hle hk eg hlen eb h2
    generalize putCompact (leV (s.data.toList.take 2) / 4) = t at *
    generalize leV (s.data.toList.take 2) = v at *
    go_enter Tryz.func77, Tryz.ntmps77
    go_wp2_with (first | (go_at_call 52; refine (HC.out _).mono ?_; rintro e w1 ⟨rfl, rfl⟩; rw [pairV]) | (go_at_call 73; refine (HP.out _).mono ?_; rintro e w2 ⟨rfl, hb2⟩) | (go_at_call 98; refine (HA.out _).mono ?_; rintro e w3 ⟨rfl, rfl⟩))
    go_ret3
    refine ⟨by simp [tripV], below_step ?_ hb2⟩
    go_grown
  · have ea : ahead s.data.toList (putCompact (leV (s.data.toList.take 2) / 4)) = false := by
      conv => lhs; arg 1; rw [data_cons s h0]
      refine putCompact_not _ _ _ ?_
      rw [h2]
      unfold tag
      repeat' split
      all_goals omega
    have eb : cw s.data.toList 2 64 = (0, 0, false) := by unfold cw; rw [if_neg (fun h => hle h.2)]
    rw [eb]
    rw [ea] at A
    have HA : Hid _ := A
    have HC : Hid _ := C
    have HP : Hid _ := P
    clear C A P ea hle hk eg hlen eb h2
    generalize putCompact (leV (s.data.toList.take 2) / 4) = t at *
    generalize leV (s.data.toList.take 2) = v at *
    go_enter Tryz.func77, Tryz.ntmps77
    go_wp2_with (first | (go_at_call 52; refine (HC.out _).mono ?_; rintro e w1 ⟨rfl, rfl⟩; rw [pairV]) | (go_at_call 73; refine (HP.out _).mono ?_; rintro e w2 ⟨rfl, hb2⟩) | (go_at_call 98; refine (HA.out _).mono ?_; rintro e w3 ⟨rfl, rfl⟩))
    go_ret3
    refine ⟨rfl, below_step ?_ hb2⟩
    go_grown
set_option maxRecDepth 100000 in
set_option maxHeartbeats 1000000 in
theorem specGetCompact_1_no (s : ByteArray) (w : World) (hs : s.size ≤ 1048576) (h0 : 0 < s.size) (hne : s.toList.isEmpty = false) (h2 : s[0].toNat % 4 = 1) (hk : ¬ 2 ≤ s.data.toList.length) : Calls Tryz.prog 77 #[.string s] w fun e w' => e = .returned (tripV (cw s.data.toList 2 64)) ∧ Below w.heap.size w w' := by
  have i4 : ((s[0]'h0).toNat : Int) % 4 = 1 := by omega
  have C := fun w => specGetLe_all s 2 w (by unfold maxLen; omega)
  have eg : getLe s.data.toList 2 = (0, false) := by unfold getLe; rw [if_neg (by omega)]
  rw [eg] at C
  have P := fun w => specPutCompact_any 0 w (by decide)
  rw [show ((0 : Nat) : Int) = 0 from rfl] at P
  have eb : cw s.data.toList 2 64 = (0, 0, false) := by unfold cw; rw [if_neg (fun h => hk h.1)]
  rw [eb]
  have HC : Hid _ := C
  have HP : Hid _ := P
  clear C P hk eg eb h2
  generalize putCompact 0 = t at *
  go_enter Tryz.func77, Tryz.ntmps77
  go_wp2_with (first | (go_at_call 52; refine (HC.out _).mono ?_; rintro e w1 ⟨rfl, rfl⟩; rw [pairV]) | (go_at_call 73; refine (HP.out _).mono ?_; rintro e w2 ⟨rfl, hb2⟩))
  go_ret3
  refine ⟨rfl, below_step ?_ hb2⟩
  go_grown
set_option maxRecDepth 100000 in
set_option maxHeartbeats 1000000 in
theorem specGetCompact_2_in (s : ByteArray) (w : World) (hs : s.size ≤ 1048576) (h0 : 0 < s.size) (hne : s.toList.isEmpty = false) (h2 : s[0].toNat % 4 = 2) (hk : 4 ≤ s.data.toList.length) : Calls Tryz.prog 77 #[.string s] w fun e w' => e = .returned (tripV (cw s.data.toList 4 16384)) ∧ Below w.heap.size w w' := by
  have i4 : ((s[0]'h0).toNat : Int) % 4 = 2 := by omega
  have C := fun w => specGetLe_all s 4 w (by unfold maxLen; omega)
  have eg : getLe s.data.toList 4 = (leV (s.data.toList.take 4), true) := by unfold getLe; rw [if_pos ⟨by decide, by decide, by omega⟩]; rfl
  rw [eg] at C
  have hv : leV (s.data.toList.take 4) / 4 < 18446744073709551616 := by
    have h1 := leV_take_lt s.data.toList 4 hk
    have h3 : 2 ^ (8 * 4) ≤ 18446744073709551616 := by decide
    omega
  have P := fun w => specPutCompact_any (leV (s.data.toList.take 4) / 4) w hv
  rw [show ((leV (s.data.toList.take 4) / 4 : Nat) : Int) = (leV (s.data.toList.take 4) : Int) / 4 from by omega] at P
  have hlen := putCompact_len _ hv
  have A := fun w => l1Ahead_list s (putCompact (leV (s.data.toList.take 4) / 4)) w hs (by omega)
  by_cases hle : 16384 ≤ leV (s.data.toList.take 4) / 4
  · have ep : putCompact (leV (s.data.toList.take 4) / 4) = s.data.toList.take 4 := by
      have := putCompact_2 s[0] s.data.toList.tail h2 (by rw [← data_cons s h0]; exact hk) (by rw [← data_cons s h0]; exact hle)
      rwa [← data_cons s h0] at this
    have ea : ahead s.data.toList (putCompact (leV (s.data.toList.take 4) / 4)) = true := by rw [ep]; exact ahead_take _ _ hk
    have el : (putCompact (leV (s.data.toList.take 4) / 4)).length = 4 := by rw [ep, List.length_take, Nat.min_eq_left hk]
    have eb : cw s.data.toList 4 16384 = (leV (s.data.toList.take 4) / 4, 4, true) := by unfold cw; rw [if_pos ⟨hk, hle⟩]
    rw [eb]
    rw [ea] at A
    have HA : Hid _ := A
    have HC : Hid _ := C
    have HP : Hid _ := P
    clear C A P ep ea hle hk eg hlen eb h2
    generalize putCompact (leV (s.data.toList.take 4) / 4) = t at *
    generalize leV (s.data.toList.take 4) = v at *
    go_enter Tryz.func77, Tryz.ntmps77
    go_wp2_with (first | (go_at_call 52; refine (HC.out _).mono ?_; rintro e w1 ⟨rfl, rfl⟩; rw [pairV]) | (go_at_call 73; refine (HP.out _).mono ?_; rintro e w2 ⟨rfl, hb2⟩) | (go_at_call 98; refine (HA.out _).mono ?_; rintro e w3 ⟨rfl, rfl⟩))
    go_ret3
    refine ⟨by simp [tripV], below_step ?_ hb2⟩
    go_grown
  · have ea : ahead s.data.toList (putCompact (leV (s.data.toList.take 4) / 4)) = false := by
      conv => lhs; arg 1; rw [data_cons s h0]
      refine putCompact_not _ _ _ ?_
      rw [h2]
      unfold tag
      repeat' split
      all_goals omega
    have eb : cw s.data.toList 4 16384 = (0, 0, false) := by unfold cw; rw [if_neg (fun h => hle h.2)]
    rw [eb]
    rw [ea] at A
    have HA : Hid _ := A
    have HC : Hid _ := C
    have HP : Hid _ := P
    clear C A P ea hle hk eg hlen eb h2
    generalize putCompact (leV (s.data.toList.take 4) / 4) = t at *
    generalize leV (s.data.toList.take 4) = v at *
    go_enter Tryz.func77, Tryz.ntmps77
    go_wp2_with (first | (go_at_call 52; refine (HC.out _).mono ?_; rintro e w1 ⟨rfl, rfl⟩; rw [pairV]) | (go_at_call 73; refine (HP.out _).mono ?_; rintro e w2 ⟨rfl, hb2⟩) | (go_at_call 98; refine (HA.out _).mono ?_; rintro e w3 ⟨rfl, rfl⟩))
    go_ret3
    refine ⟨rfl, below_step ?_ hb2⟩
    go_grown
set_option maxRecDepth 100000 in
set_option maxHeartbeats 1000000 in
theorem specGetCompact_2_no (s : ByteArray) (w : World) (hs : s.size ≤ 1048576) (h0 : 0 < s.size) (hne : s.toList.isEmpty = false) (h2 : s[0].toNat % 4 = 2) (hk : ¬ 4 ≤ s.data.toList.length) : Calls Tryz.prog 77 #[.string s] w fun e w' => e = .returned (tripV (cw s.data.toList 4 16384)) ∧ Below w.heap.size w w' := by
  have i4 : ((s[0]'h0).toNat : Int) % 4 = 2 := by omega
  have C := fun w => specGetLe_all s 4 w (by unfold maxLen; omega)
  have eg : getLe s.data.toList 4 = (0, false) := by unfold getLe; rw [if_neg (by omega)]
  rw [eg] at C
  have P := fun w => specPutCompact_any 0 w (by decide)
  rw [show ((0 : Nat) : Int) = 0 from rfl] at P
  have eb : cw s.data.toList 4 16384 = (0, 0, false) := by unfold cw; rw [if_neg (fun h => hk h.1)]
  rw [eb]
  have HC : Hid _ := C
  have HP : Hid _ := P
  clear C P hk eg eb h2
  generalize putCompact 0 = t at *
  go_enter Tryz.func77, Tryz.ntmps77
  go_wp2_with (first | (go_at_call 52; refine (HC.out _).mono ?_; rintro e w1 ⟨rfl, rfl⟩; rw [pairV]) | (go_at_call 73; refine (HP.out _).mono ?_; rintro e w2 ⟨rfl, hb2⟩))
  go_ret3
  refine ⟨rfl, below_step ?_ hb2⟩
  go_grown
set_option maxRecDepth 100000 in
set_option maxHeartbeats 1000000 in
theorem specGetCompact_3_in (s : ByteArray) (w : World) (hs : s.size ≤ 1048576) (h0 : 0 < s.size) (hne : s.toList.isEmpty = false) (h2 : s[0].toNat % 4 = 3) (h8 : s[0].toNat / 4 + 4 ≤ 8) (hk : s[0].toNat / 4 + 4 ≤ s.data.toList.tail.length) : Calls Tryz.prog 77 #[.string s] w fun e w' => e = .returned (tripV (cl s.data.toList.tail (s[0].toNat / 4 + 4))) ∧ Below w.heap.size w w' := by
  have i4 : ((s[0]'h0).toNat : Int) % 4 = 3 := by omega
  have hi1 : (1 : Int) ≤ (s.size : Int) := by omega
  have hw4 := wide4r (s[0]'h0)
  have hk4 : 4 ≤ s[0].toNat / 4 + 4 := by omega
  have hbk : s[0].toNat = 4 * (s[0].toNat / 4 + 4 - 4) + 3 := by omega
  generalize s[0].toNat / 4 + 4 = k at *
  have C := fun w => specGetLe_all (s.extract 1 s.size) k w (by rw [tail_size]; unfold maxLen; omega)
  have eg : getLe s.data.toList.tail k = (leV (s.data.toList.tail.take k), true) := by unfold getLe; rw [if_pos ⟨by omega, by omega, by omega⟩, Int.toNat_natCast]
  rw [tail_data, eg, ← hw4] at C
  have hv : leV (s.data.toList.tail.take k) < 18446744073709551616 := Nat.lt_of_lt_of_le (leV_take_lt _ _ hk) (Nat.le_trans (Nat.pow_le_pow_right (by decide) (show 8 * k ≤ 64 by omega)) (by decide))
  have P := fun w => specPutCompact_any (leV (s.data.toList.tail.take k)) w hv
  have hlen := putCompact_len _ hv
  have A := fun w => l1Ahead_list s (putCompact (leV (s.data.toList.tail.take k))) w hs (by omega)
  by_cases hle : 1073741824 ≤ leV (s.data.toList.tail.take k) ∧ by8 (leV (s.data.toList.tail.take k)) = k
  · have ep := putCompact_long s[0] s.data.toList.tail k hbk hk hle.1 hle.2
    have ea : ahead s.data.toList (putCompact (leV (s.data.toList.tail.take k))) = true := by
      rw [ep]; conv => lhs; arg 1; rw [data_cons s h0]
      exact ahead_yes _ _ _ hk
    have el : (putCompact (leV (s.data.toList.tail.take k))).length = 1 + k := by rw [ep, List.length_cons, List.length_take, Nat.min_eq_left hk, Nat.add_comm]
    have eb : cl s.data.toList.tail k = (leV (s.data.toList.tail.take k), 1 + k, true) := by unfold cl; rw [if_pos ⟨h8, hk, hle.1, hle.2⟩]
    rw [eb]
    rw [ea] at A
    have HA : Hid _ := A
    have HC : Hid _ := C
    have HP : Hid _ := P
    have HK : Hid _ := hbk
    clear C A P ep ea hle hk eg hlen eb h2 hbk hw4
    generalize putCompact (leV (s.data.toList.tail.take k)) = t at *
    generalize leV (s.data.toList.tail.take k) = v at *
    go_enter Tryz.func77, Tryz.ntmps77
    go_wp2
    go_region_with (go_at_call 52; refine (HC.out _).mono ?_; rintro e w1 ⟨rfl, rfl⟩; rw [pairV])
    all_goals go_wp2_with (first | (go_at_call 73; refine (HP.out _).mono ?_; rintro e w2 ⟨rfl, hb2⟩) | (go_at_call 98; refine (HA.out _).mono ?_; rintro e w3 ⟨rfl, rfl⟩))
    all_goals
      go_ret3
      refine ⟨by simp [tripV], below_step ?_ hb2⟩
      go_grown
  · have ea : ahead s.data.toList (putCompact (leV (s.data.toList.tail.take k))) = false := by
      conv => lhs; arg 1; rw [data_cons s h0]
      exact putCompact_other _ _ [] k _ hv hk4 hbk hle
    have eb : cl s.data.toList.tail k = (0, 0, false) := by unfold cl; rw [if_neg (fun h => hle h.2.2)]
    rw [eb]
    rw [ea] at A
    have HA : Hid _ := A
    have HC : Hid _ := C
    have HP : Hid _ := P
    clear C A P ea hle hk eg hlen eb h2 hbk hw4
    generalize putCompact (leV (s.data.toList.tail.take k)) = t at *
    generalize leV (s.data.toList.tail.take k) = v at *
    go_enter Tryz.func77, Tryz.ntmps77
    go_wp2
    go_region_with (go_at_call 52; refine (HC.out _).mono ?_; rintro e w1 ⟨rfl, rfl⟩; rw [pairV])
    all_goals go_wp2_with (first | (go_at_call 73; refine (HP.out _).mono ?_; rintro e w2 ⟨rfl, hb2⟩) | (go_at_call 98; refine (HA.out _).mono ?_; rintro e w3 ⟨rfl, rfl⟩))
    all_goals
      go_ret3
      refine ⟨rfl, below_step ?_ hb2⟩
      go_grown
set_option maxRecDepth 100000 in
set_option maxHeartbeats 1000000 in
theorem specGetCompact_3_no (s : ByteArray) (w : World) (hs : s.size ≤ 1048576) (h0 : 0 < s.size) (hne : s.toList.isEmpty = false) (h2 : s[0].toNat % 4 = 3) (hk : ¬ (s[0].toNat / 4 + 4 ≤ 8 ∧ s[0].toNat / 4 + 4 ≤ s.data.toList.tail.length)) : Calls Tryz.prog 77 #[.string s] w fun e w' => e = .returned (tripV (cl s.data.toList.tail (s[0].toNat / 4 + 4))) ∧ Below w.heap.size w w' := by
  have i4 : ((s[0]'h0).toNat : Int) % 4 = 3 := by omega
  have hi1 : (1 : Int) ≤ (s.size : Int) := by omega
  have hw4 := wide4r (s[0]'h0)
  have hk4 : 4 ≤ s[0].toNat / 4 + 4 := by omega
  generalize s[0].toNat / 4 + 4 = k at *
  have C := fun w => specGetLe_all (s.extract 1 s.size) k w (by rw [tail_size]; unfold maxLen; omega)
  have eg : getLe s.data.toList.tail k = (0, false) := by unfold getLe; rw [if_neg (by omega)]
  rw [tail_data, eg, ← hw4] at C
  have P := fun w => specPutCompact_any 0 w (by decide)
  rw [show ((0 : Nat) : Int) = 0 from rfl] at P
  have eb : cl s.data.toList.tail k = (0, 0, false) := by unfold cl; rw [if_neg (fun h => hk ⟨h.1, h.2.1⟩)]
  rw [eb]
  have HC : Hid _ := C
  have HP : Hid _ := P
  clear C P hk eg eb h2 hw4
  generalize putCompact 0 = t at *
  go_enter Tryz.func77, Tryz.ntmps77
  go_wp2
  go_region_with (go_at_call 52; refine (HC.out _).mono ?_; rintro e w1 ⟨rfl, rfl⟩; rw [pairV])
  all_goals go_wp2_with (go_at_call 73; refine (HP.out _).mono ?_; rintro e w2 ⟨rfl, hb2⟩)
  all_goals
    go_ret3
    refine ⟨rfl, below_step ?_ hb2⟩
    go_grown
theorem specGetCompact_any (s : ByteArray) (w : World) (hs : s.size ≤ 1048576) : Calls Tryz.prog 77 #[.string s] w fun e w' => e = .returned (tripV (getCompact s.data.toList)) ∧ Below w.heap.size w w' := by
  by_cases h0 : 0 < s.size
  · have hne := isEmpty_no s h0
    have hc : getCompact s.data.toList = if s[0].toNat % 4 = 0 then cw s.data.toList 1 0 else if s[0].toNat % 4 = 1 then cw s.data.toList 2 64 else if s[0].toNat % 4 = 2 then cw s.data.toList 4 16384 else cl s.data.toList.tail (s[0].toNat / 4 + 4) := by
      rw [data_cons s h0]; rfl
    rw [hc]
    by_cases m0 : s[0].toNat % 4 = 0
    · rw [if_pos m0]
      by_cases hk : 1 ≤ s.data.toList.length
      · exact specGetCompact_0_in s w hs h0 hne m0 hk
      · exact specGetCompact_0_no s w hs h0 hne m0 hk
    · rw [if_neg m0]
      by_cases m1 : s[0].toNat % 4 = 1
      · rw [if_pos m1]
        by_cases hk : 2 ≤ s.data.toList.length
        · exact specGetCompact_1_in s w hs h0 hne m1 hk
        · exact specGetCompact_1_no s w hs h0 hne m1 hk
      · rw [if_neg m1]
        by_cases m2 : s[0].toNat % 4 = 2
        · rw [if_pos m2]
          by_cases hk : 4 ≤ s.data.toList.length
          · exact specGetCompact_2_in s w hs h0 hne m2 hk
          · exact specGetCompact_2_no s w hs h0 hne m2 hk
        · rw [if_neg m2]
          by_cases hk : s[0].toNat / 4 + 4 ≤ 8 ∧ s[0].toNat / 4 + 4 ≤ s.data.toList.tail.length
          · exact specGetCompact_3_in s w hs h0 hne (by omega) hk.1 hk.2
          · exact specGetCompact_3_no s w hs h0 hne (by omega) hk
  · have hne := isEmpty_yes s h0
    rw [data_nil s h0]
    go_enter Tryz.func77, Tryz.ntmps77
    go_wp2
    go_ret3
    exact ⟨rfl, Below.refl _ _⟩
end Go.Proofs.YtichgnddbnibjaaGreatDoor
