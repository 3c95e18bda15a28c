/- L1b, L1c, L1d, L1e: one text. -/
import Derived.Test.YtdncnjmlicdamaaGreatDoorL1a
import Derived.Lib.Strings
namespace Go.Proofs.YtdncnjmlicdamaaGreatDoor
open Go.RowKit
set_option linter.unusedVariables false
/-- How many bytes a number needs. -/
def by8 (n : Nat) : Nat := (bl n + 7) / 8
theorem by8_le (n k : Nat) : by8 n ≤ k ↔ n < 2 ^ (8 * k) := by
  rw [← bl_le]; unfold by8; omega
theorem bytesOf_u64_any (n : Nat) (w : World) (hn : n < 18446744073709551616) : Calls Tryz.prog 105 #[.int .u64 n] w fun e w' => e = .returned (.int .i64 (by8 n)) ∧ w' = w := by
  have hb := bl_64 n (by omega)
  go_enter Tryz.func105, Tryz.ntmps105
  go_wp2_with (go_at_call 76; refine (Len64_any n _ (by omega)).mono ?_; rintro e w' ⟨rfl, rfl⟩)
  go_ret
  refine ⟨congrArg Ending.returned (congrArg (Value.int IntKind.i64) ?_), rfl⟩
  unfold by8
  omega
theorem bytesOf_u16_any (n : Nat) (w : World) (hn : n < 65536) : Calls Tryz.prog 112 #[.int .u16 n] w fun e w' => e = .returned (.int .i64 (by8 n)) ∧ w' = w := by
  have hb := bl_64 n (by omega)
  go_enter Tryz.func112, Tryz.ntmps112
  go_wp2_with (go_at_call 76; refine (Len64_any n _ (by omega)).mono ?_; rintro e w' ⟨rfl, rfl⟩)
  go_ret
  refine ⟨congrArg Ending.returned (congrArg (Value.int IntKind.i64) ?_), rfl⟩
  unfold by8
  omega
theorem bytesOf_u8_any (n : Nat) (w : World) (hn : n < 256) : Calls Tryz.prog 118 #[.int .u8 n] w fun e w' => e = .returned (.int .i64 (by8 n)) ∧ w' = w := by
  have hb := bl_64 n (by omega)
  go_enter Tryz.func118, Tryz.ntmps118
  go_wp2_with (go_at_call 76; refine (Len64_any n _ (by omega)).mono ?_; rintro e w' ⟨rfl, rfl⟩)
  go_ret
  refine ⟨congrArg Ending.returned (congrArg (Value.int IntKind.i64) ?_), rfl⟩
  unfold by8
  omega
def lowFirst_end (l : List UInt8) : List UInt8 := l
def highFirst_end (l : List UInt8) : List UInt8 := l.reverse
def putLe (n : Nat) (k : Int) : List UInt8 := if 1 ≤ k ∧ k ≤ 8 ∧ n < 2 ^ (8 * k.toNat) then leL n k.toNat else []
theorem putLe_yes (n q : Nat) (h1 : 1 ≤ q) (h2 : q ≤ 8) (hf : n < 2 ^ (8 * q)) : putLe n q = leL n q := by
  unfold putLe; rw [if_pos ⟨by omega, by omega, by simpa using hf⟩]; rfl
theorem putLe_big (n q : Nat) (hf : ¬ n < 2 ^ (8 * q)) : putLe n q = [] := by
  unfold putLe; rw [if_neg (by simp; intro _ _; omega)]
theorem putLe_no (n : Nat) (k : Int) (hk : ¬ (1 ≤ k ∧ k ≤ 8)) : putLe n k = [] := by
  unfold putLe; rw [if_neg (by intro h; exact hk ⟨h.1, h.2.1⟩)]
/-- The number that bytes make, the lowest first. -/
def leV : List UInt8 → Nat
  | [] => 0
  | b :: l => b.toNat + 256 * leV l
theorem leV_lt : ∀ l : List UInt8, leV l < 2 ^ (8 * l.length)
  | [] => by simp [leV]
  | b :: l => by
    have h := leV_lt l
    have hb := b.toNat_lt
    simp only [leV, List.length_cons]
    rw [show 8 * (l.length + 1) = 8 * l.length + 8 from by omega, Nat.pow_add]
    omega
theorem leV_snoc : ∀ (l : List UInt8) (b : UInt8), leV (l ++ [b]) = leV l + b.toNat * 2 ^ (8 * l.length)
  | [], b => by simp [leV]
  | c :: l, b => by
    simp only [leV, List.cons_append, leV_snoc l b, List.length_cons]
    rw [show 8 * (l.length + 1) = 8 * l.length + 8 from by omega, Nat.pow_add, Nat.mul_add, ← Nat.mul_assoc]
    have : b.toNat * 2 ^ (8 * l.length) * 2 ^ 8 = 256 * b.toNat * 2 ^ (8 * l.length) := by
      rw [Nat.mul_comm (256 * b.toNat), Nat.mul_comm (b.toNat), Nat.mul_assoc, Nat.mul_comm b.toNat]
    rw [show b.toNat * (2 ^ (8 * l.length) * 2 ^ 8) = b.toNat * 2 ^ (8 * l.length) * 2 ^ 8 from by rw [Nat.mul_assoc], this]
    omega
theorem take_snoc (s : ByteArray) (k : Nat) (h : k < s.size) : s.data.toList.take (k + 1) = s.data.toList.take k ++ [s[k]] := by
  rw [List.take_succ_eq_append_getElem (by simpa using h)]; rfl
theorem lenTake (s : ByteArray) (k : Nat) (h : k ≤ s.size) : (s.data.toList.take k).length = k := by
  rw [List.length_take, Array.length_toList]; exact Nat.min_eq_left h
theorem drop_take_cons (s : ByteArray) (k q : Nat) (hq : q < k) (hk : k ≤ s.size) : (s.data.toList.take k).drop q = s[q]'(by omega) :: (s.data.toList.take k).drop (q + 1) := by
  have h' : q < (s.data.toList.take k).length := by rw [lenTake s k hk]; exact hq
  rw [List.drop_eq_getElem_cons h']
  congr 1
  simp
  rfl
theorem drop_take_rev (s : ByteArray) (k q : Nat) (hq : q < k) (hk : k ≤ s.size) : ((s.data.toList.take k).drop (q + 1)).reverse ++ [s[q]'(by omega)] = ((s.data.toList.take k).drop q).reverse := by
  have h' : q < (s.data.toList.take k).length := by rw [lenTake s k hk]; exact hq
  rw [List.drop_eq_getElem_cons h', List.reverse_cons]
  congr 2
  simp
  rfl
/-- One byte more, above those that are there. -/
theorem join_u64 (x : Nat) (b : UInt8) (j : Nat) (hx : x < 2 ^ (8 * j)) (hj : j < 8) : bits .or .u64 (x : Int) (IntKind.u64.wrap (IntKind.u64.wrap (b.toNat : Int) * 2 ^ (8 * j))) = ((x + b.toNat * 2 ^ (8 * j) : Nat) : Int) := by
  have hb := b.toNat_lt
  have hp : 0 < 2 ^ (8 * j) := Nat.two_pow_pos _
  have h1 : 2 ^ (8 * j) * 256 ≤ 18446744073709551616 := by
    have : 2 ^ (8 * j + 8) ≤ 2 ^ 64 := Nat.pow_le_pow_right (by decide) (by omega)
    rw [Nat.pow_add] at this
    exact this
  have h2 : b.toNat * 2 ^ (8 * j) ≤ 255 * 2 ^ (8 * j) := Nat.mul_le_mul_right _ (by omega)
  have e0 : IntKind.u64.wrap (b.toNat : Int) = (b.toNat : Int) := by rw [IntKind.wrap_u64]; omega
  have e1 : ((b.toNat : Int) * 2 ^ (8 * j)) = ((b.toNat * 2 ^ (8 * j) : Nat) : Int) := by simp
  rw [e0, e1]
  generalize hm : b.toNat * 2 ^ (8 * j) = m at *
  have e2 : IntKind.u64.wrap (m : Int) = (m : Int) := by rw [IntKind.wrap_u64]; omega
  rw [e2, u64_or_nat _ _ (by omega) (by omega)]
  have e3 : m ||| x = m + x := nat_join (8 * j) m x (by rw [← hm]; simp) hx
  rw [Nat.or_comm, e3, Nat.add_comm]
set_option maxHeartbeats 400000 in
theorem readHigh_u64_any (s : ByteArray) (k : Nat) (w : World) (hk : k ≤ 8) (hs : s.size ≤ maxLen) : Calls Tryz.prog 140 #[.string s, .int .i64 k] w fun e w' => e = .returned (.tuple #[.int .u64 (if s.size < k then 0 else leV (s.data.toList.take k).reverse : Nat), .bool (decide (k ≤ s.size))]) ∧ w' = w := by
  unfold maxLen at hs
  by_cases hl : s.size < k
  · rw [if_pos hl, decide_eq_false (by omega)]
    go_enter Tryz.func140, Tryz.ntmps140
    go_wp2
    go_ret2
    exact ⟨rfl, rfl⟩
  · rw [if_neg hl, decide_eq_true (by omega)]
    go_enter Tryz.func140, Tryz.ntmps140
    go_wp2
    go_loop [6, 13] (fun v i => ∃ j : Nat, j ≤ k ∧ i = .int .i64 j ∧ v = .int .u64 (leV ((s.data.toList.take k).drop (k - j)).reverse)) (fun _ i => k - (intOf i).toNat)
    case atStart => exact ⟨0, Nat.zero_le _, rfl, by rw [List.drop_eq_nil_of_le (by rw [lenTake s k (by omega)]; omega)]; rfl⟩
    case round =>
      obtain ⟨j, hj, rfl, rfl⟩ := hrel
      by_cases hlt : j < k
      · obtain ⟨q, hq⟩ : ∃ q, q = k - 1 - j := ⟨_, rfl⟩
        have hqs : q < s.size := by omega
        have hqi : ((k : Int) - 1 - j).toNat = q := by omega
        have hx := leV_lt ((s.data.toList.take k).drop (k - j)).reverse
        have hlen : ((s.data.toList.take k).drop (k - j)).reverse.length = j := by rw [List.length_reverse, List.length_drop, lenTake s k (by omega)]; omega
        rw [hlen] at hx
        have J := join_u64 (leV ((s.data.toList.take k).drop (k - j)).reverse) s[q] j hx (by omega)
        have J2 := leV_snoc ((s.data.toList.take k).drop (k - j)).reverse s[q]
        rw [hlen, show k - j = q + 1 from by omega, drop_take_rev s k q (by omega) (by omega)] at J2
        rw [show k - j = q + 1 from by omega] at J
        rw [← J2] at J
        have HJ : Hid _ := J
        have Hq : Hid (q = k - (j + 1)) := (by omega : q = k - (j + 1))
        have Hq1 : Hid (k - j = q + 1) := (by omega : k - j = q + 1)
        clear J J2 hlen hx hq
        go_wp2
        go_round
        case rel =>
          refine ⟨j + 1, by omega, by go_num, ?_⟩
          rw [Hq1.out, ← Hq.out]
          first | rw [HJ.out] | (have h := HJ.out; simp only [IntKind.wrap_u64] at h; rw [h])
        case measure => simp [intOf]; omega
      · have ej : j = k := by omega
        subst ej
        go_wp2
        go_ret2
        exact ⟨by simp, rfl⟩
/-- One byte more, above those that are there. -/
theorem join_u32 (x : Nat) (b : UInt8) (j : Nat) (hx : x < 2 ^ (8 * j)) (hj : j < 4) : bits .or .u32 (x : Int) (IntKind.u32.wrap (IntKind.u32.wrap (b.toNat : Int) * 2 ^ (8 * j))) = ((x + b.toNat * 2 ^ (8 * j) : Nat) : Int) := by
  have hb := b.toNat_lt
  have hp : 0 < 2 ^ (8 * j) := Nat.two_pow_pos _
  have h1 : 2 ^ (8 * j) * 256 ≤ 4294967296 := by
    have : 2 ^ (8 * j + 8) ≤ 2 ^ 32 := Nat.pow_le_pow_right (by decide) (by omega)
    rw [Nat.pow_add] at this
    exact this
  have h2 : b.toNat * 2 ^ (8 * j) ≤ 255 * 2 ^ (8 * j) := Nat.mul_le_mul_right _ (by omega)
  have e0 : IntKind.u32.wrap (b.toNat : Int) = (b.toNat : Int) := by rw [IntKind.wrap_u32]; omega
  have e1 : ((b.toNat : Int) * 2 ^ (8 * j)) = ((b.toNat * 2 ^ (8 * j) : Nat) : Int) := by simp
  rw [e0, e1]
  generalize hm : b.toNat * 2 ^ (8 * j) = m at *
  have e2 : IntKind.u32.wrap (m : Int) = (m : Int) := by rw [IntKind.wrap_u32]; omega
  rw [e2, u32_or_nat _ _ (by omega) (by omega)]
  have e3 : m ||| x = m + x := nat_join (8 * j) m x (by rw [← hm]; simp) hx
  rw [Nat.or_comm, e3, Nat.add_comm]
/-- One byte more, above those that are there. -/
theorem join_u16 (x : Nat) (b : UInt8) (j : Nat) (hx : x < 2 ^ (8 * j)) (hj : j < 2) : bits .or .u16 (x : Int) (IntKind.u16.wrap (IntKind.u16.wrap (b.toNat : Int) * 2 ^ (8 * j))) = ((x + b.toNat * 2 ^ (8 * j) : Nat) : Int) := by
  have hb := b.toNat_lt
  have hp : 0 < 2 ^ (8 * j) := Nat.two_pow_pos _
  have h1 : 2 ^ (8 * j) * 256 ≤ 65536 := by
    have : 2 ^ (8 * j + 8) ≤ 2 ^ 16 := Nat.pow_le_pow_right (by decide) (by omega)
    rw [Nat.pow_add] at this
    exact this
  have h2 : b.toNat * 2 ^ (8 * j) ≤ 255 * 2 ^ (8 * j) := Nat.mul_le_mul_right _ (by omega)
  have e0 : IntKind.u16.wrap (b.toNat : Int) = (b.toNat : Int) := by rw [IntKind.wrap_u16]; omega
  have e1 : ((b.toNat : Int) * 2 ^ (8 * j)) = ((b.toNat * 2 ^ (8 * j) : Nat) : Int) := by simp
  rw [e0, e1]
  generalize hm : b.toNat * 2 ^ (8 * j) = m at *
  have e2 : IntKind.u16.wrap (m : Int) = (m : Int) := by rw [IntKind.wrap_u16]; omega
  rw [e2, u16_or_nat _ _ (by omega) (by omega)]
  have e3 : m ||| x = m + x := nat_join (8 * j) m x (by rw [← hm]; simp) hx
  rw [Nat.or_comm, e3, Nat.add_comm]
set_option maxHeartbeats 400000 in
theorem readHigh_u16_any (s : ByteArray) (k : Nat) (w : World) (hk : k ≤ 2) (hs : s.size ≤ maxLen) : Calls Tryz.prog 138 #[.string s, .int .i64 k] w fun e w' => e = .returned (.tuple #[.int .u16 (if s.size < k then 0 else leV (s.data.toList.take k).reverse : Nat), .bool (decide (k ≤ s.size))]) ∧ w' = w := by
  unfold maxLen at hs
  by_cases hl : s.size < k
  · rw [if_pos hl, decide_eq_false (by omega)]
    go_enter Tryz.func138, Tryz.ntmps138
    go_wp2
    go_ret2
    exact ⟨rfl, rfl⟩
  · rw [if_neg hl, decide_eq_true (by omega)]
    go_enter Tryz.func138, Tryz.ntmps138
    go_wp2
    go_loop [6, 13] (fun v i => ∃ j : Nat, j ≤ k ∧ i = .int .i64 j ∧ v = .int .u16 (leV ((s.data.toList.take k).drop (k - j)).reverse)) (fun _ i => k - (intOf i).toNat)
    case atStart => exact ⟨0, Nat.zero_le _, rfl, by rw [List.drop_eq_nil_of_le (by rw [lenTake s k (by omega)]; omega)]; rfl⟩
    case round =>
      obtain ⟨j, hj, rfl, rfl⟩ := hrel
      by_cases hlt : j < k
      · obtain ⟨q, hq⟩ : ∃ q, q = k - 1 - j := ⟨_, rfl⟩
        have hqs : q < s.size := by omega
        have hqi : ((k : Int) - 1 - j).toNat = q := by omega
        have hx := leV_lt ((s.data.toList.take k).drop (k - j)).reverse
        have hlen : ((s.data.toList.take k).drop (k - j)).reverse.length = j := by rw [List.length_reverse, List.length_drop, lenTake s k (by omega)]; omega
        rw [hlen] at hx
        have J := join_u16 (leV ((s.data.toList.take k).drop (k - j)).reverse) s[q] j hx (by omega)
        have J2 := leV_snoc ((s.data.toList.take k).drop (k - j)).reverse s[q]
        rw [hlen, show k - j = q + 1 from by omega, drop_take_rev s k q (by omega) (by omega)] at J2
        rw [show k - j = q + 1 from by omega] at J
        rw [← J2] at J
        have HJ : Hid _ := J
        have Hq : Hid (q = k - (j + 1)) := (by omega : q = k - (j + 1))
        have Hq1 : Hid (k - j = q + 1) := (by omega : k - j = q + 1)
        clear J J2 hlen hx hq
        go_wp2
        go_round
        case rel =>
          refine ⟨j + 1, by omega, by go_num, ?_⟩
          rw [Hq1.out, ← Hq.out]
          first | rw [HJ.out] | (have h := HJ.out; simp only [IntKind.wrap_u16] at h; rw [h])
        case measure => simp [intOf]; omega
      · have ej : j = k := by omega
        subst ej
        go_wp2
        go_ret2
        exact ⟨by simp, rfl⟩
/-- One byte more, above those that are there. -/
theorem join_u8 (x : Nat) (b : UInt8) (j : Nat) (hx : x < 2 ^ (8 * j)) (hj : j < 1) : bits .or .u8 (x : Int) (IntKind.u8.wrap (IntKind.u8.wrap (b.toNat : Int) * 2 ^ (8 * j))) = ((x + b.toNat * 2 ^ (8 * j) : Nat) : Int) := by
  have hb := b.toNat_lt
  have hp : 0 < 2 ^ (8 * j) := Nat.two_pow_pos _
  have h1 : 2 ^ (8 * j) * 256 ≤ 256 := by
    have : 2 ^ (8 * j + 8) ≤ 2 ^ 8 := Nat.pow_le_pow_right (by decide) (by omega)
    rw [Nat.pow_add] at this
    exact this
  have h2 : b.toNat * 2 ^ (8 * j) ≤ 255 * 2 ^ (8 * j) := Nat.mul_le_mul_right _ (by omega)
  have e0 : IntKind.u8.wrap (b.toNat : Int) = (b.toNat : Int) := by rw [IntKind.wrap_u8]; omega
  have e1 : ((b.toNat : Int) * 2 ^ (8 * j)) = ((b.toNat * 2 ^ (8 * j) : Nat) : Int) := by simp
  rw [e0, e1]
  generalize hm : b.toNat * 2 ^ (8 * j) = m at *
  have e2 : IntKind.u8.wrap (m : Int) = (m : Int) := by rw [IntKind.wrap_u8]; omega
  rw [e2, u8_or_nat _ _ (by omega) (by omega)]
  have e3 : m ||| x = m + x := nat_join (8 * j) m x (by rw [← hm]; simp) hx
  rw [Nat.or_comm, e3, Nat.add_comm]
def getLe (l : List UInt8) (k : Int) : Nat × Bool := if 1 ≤ k ∧ k ≤ 8 ∧ k ≤ l.length then (leV (l.take k.toNat), true) else (0, false)
def pairV (x : Nat × Bool) : Value := .tuple #[.int .u64 x.1, .bool x.2]
theorem getLe_in (s : ByteArray) (k : Nat) (h1 : 1 ≤ k) (h2 : k ≤ 8) : pairV (getLe s.data.toList k) = .tuple #[.int .u64 (if s.size < k then 0 else leV (s.data.toList.take k) : Nat), .bool (decide (k ≤ s.size))] := by
  have hl : s.data.toList.length = s.size := Array.length_toList
  unfold getLe pairV
  by_cases h : k ≤ s.size
  · rw [if_pos (by rw [hl]; omega), if_neg (by omega), decide_eq_true h, Int.toNat_natCast]
  · rw [if_neg (by rw [hl]; omega), if_pos (by omega), decide_eq_false h]
theorem getLe_out (l : List UInt8) (k : Int) (h : ¬ (1 ≤ k ∧ k ≤ 8)) : pairV (getLe l k) = .tuple #[.int .u64 0, .bool false] := by
  unfold getLe pairV
  rw [if_neg (by omega)]
  rfl
theorem join8 (x : Nat) (b : UInt8) (hx : x < 72057594037927936) : bits .or .u64 (IntKind.u64.wrap ((x : Int) * 256)) (IntKind.u64.wrap (b.toNat : Int)) = ((b.toNat + 256 * x : Nat) : Int) := by
  have hb := b.toNat_lt
  have e2 : IntKind.u64.wrap ((x : Int) * 256) = ((256 * x : Nat) : Int) := by rw [IntKind.wrap_u64]; omega
  have e1 : IntKind.u64.wrap (b.toNat : Int) = (b.toNat : Int) := by rw [IntKind.wrap_u64]; omega
  rw [e1, e2, u64_or_nat _ _ (by omega) (by omega)]
  have e3 : 256 * x ||| b.toNat = 256 * x + b.toNat := nat_join 8 (256 * x) b.toNat (by omega) hb
  rw [e3, Nat.add_comm]
set_option maxHeartbeats 400000 in
theorem specGetLe_any (s : ByteArray) (k : Nat) (w : World) (hk1 : 1 ≤ k) (hk : k ≤ 8) (hs : s.size ≤ maxLen) : Calls Tryz.prog 79 #[.string s, .int .i64 k] w fun e w' => e = .returned (.tuple #[.int .u64 (if s.size < k then 0 else leV (s.data.toList.take k) : Nat), .bool (decide (k ≤ s.size))]) ∧ w' = w := by
  unfold maxLen at hs
  have hd : decide ((1 : Int) ≤ (k : Int) ∧ (k : Int) ≤ 8) = true := by simp; omega
  by_cases hl : s.size < k
  · rw [if_pos hl, decide_eq_false (by omega)]
    go_enter Tryz.func79, Tryz.ntmps79
    go_wp2_with (go_at_call 73; refine (l1In_any k 1 8 _).mono ?_; rintro e w' ⟨rfl, rfl⟩; rw [hd])
    go_ret2
    exact ⟨rfl, rfl⟩
  · rw [if_neg hl, decide_eq_true (by omega)]
    go_enter Tryz.func79, Tryz.ntmps79
    go_wp2_with (go_at_call 73; refine (l1In_any k 1 8 _).mono ?_; rintro e w' ⟨rfl, rfl⟩; rw [hd])
    go_loop [6, 7] (fun v i => ∃ m : Nat, m ≤ k ∧ i = .int .i64 ((m : Int) - 1) ∧ v = .int .u64 (leV ((s.data.toList.take k).drop m))) (fun _ i => (intOf i + 1).toNat)
    case atStart => exact ⟨k, Nat.le_refl _, rfl, by rw [List.drop_eq_nil_of_le (by rw [lenTake s k (by omega)]; omega)]; rfl⟩
    case round =>
      obtain ⟨m, hm, rfl, rfl⟩ := hrel
      match m with
      | 0 =>
        go_wp2
        go_ret2
        exact ⟨by simp, rfl⟩
      | p + 1 =>
        rw [show (((p + 1 : Nat) : Int) - 1) = (p : Int) from by omega]
        have hp : p < s.size := by omega
        have hx : leV ((s.data.toList.take k).drop (p + 1)) < 72057594037927936 := by
          have := leV_lt ((s.data.toList.take k).drop (p + 1))
          have hlen : ((s.data.toList.take k).drop (p + 1)).length ≤ 7 := by rw [List.length_drop, lenTake s k (by omega)]; omega
          have h2 : 2 ^ (8 * ((s.data.toList.take k).drop (p + 1)).length) ≤ 2 ^ 56 := Nat.pow_le_pow_right (by decide) (by omega)
          omega
        have J := join8 (leV ((s.data.toList.take k).drop (p + 1))) s[p] hx
        have J2 : leV ((s.data.toList.take k).drop p) = s[p].toNat + 256 * leV ((s.data.toList.take k).drop (p + 1)) := by
          rw [drop_take_cons s k p (by omega) (by omega)]; rfl
        rw [← J2] at J
        have HJ : Hid _ := J
        clear J J2 hx
        go_wp2
        go_round
        case rel => exact ⟨p, by omega, by go_num, by rw [HJ.out]⟩
        case measure => simp [intOf] <;> omega
theorem specGetLe_all (s : ByteArray) (k : Int) (w : World) (hs : s.size ≤ maxLen) : Calls Tryz.prog 79 #[.string s, .int .i64 k] w fun e w' => e = .returned (pairV (getLe s.data.toList k)) ∧ w' = w := by
  by_cases hk : 1 ≤ k ∧ k ≤ 8
  · obtain ⟨q, rfl⟩ := Int.eq_ofNat_of_zero_le (show 0 ≤ k by omega)
    rw [getLe_in s q (by omega) (by omega)]
    exact specGetLe_any s q w (by omega) (by omega) hs
  · have hd : decide ((1 : Int) ≤ k ∧ k ≤ 8) = false := by simpa using hk
    rw [getLe_out _ _ hk]
    clear hk
    go_enter Tryz.func79, Tryz.ntmps79
    go_wp2_with (go_at_call 73; refine (l1In_any k 1 8 _).mono ?_; rintro e w' ⟨rfl, rfl⟩; rw [hd])
    go_ret2
    exact ⟨rfl, rfl⟩
def getBe (l : List UInt8) (k : Int) : Nat × Bool := if 1 ≤ k ∧ k ≤ 8 ∧ k ≤ l.length then (leV (l.take k.toNat).reverse, true) else (0, false)
theorem getBe_in (s : ByteArray) (k : Nat) (h1 : 1 ≤ k) (h2 : k ≤ 8) : pairV (getBe s.data.toList k) = .tuple #[.int .u64 (if s.size < k then 0 else leV (s.data.toList.take k).reverse : Nat), .bool (decide (k ≤ s.size))] := by
  have hl : s.data.toList.length = s.size := Array.length_toList
  unfold getBe pairV
  by_cases h : k ≤ s.size
  · rw [if_pos (by rw [hl]; omega), if_neg (by omega), decide_eq_true h, Int.toNat_natCast]
  · rw [if_neg (by rw [hl]; omega), if_pos (by omega), decide_eq_false h]
theorem getBe_out (l : List UInt8) (k : Int) (h : ¬ (1 ≤ k ∧ k ≤ 8)) : pairV (getBe l k) = .tuple #[.int .u64 0, .bool false] := by
  unfold getBe pairV
  rw [if_neg (by omega)]
  rfl
set_option maxHeartbeats 400000 in
theorem specGetBe_all (s : ByteArray) (k : Int) (w : World) (hs : s.size ≤ maxLen) : Calls Tryz.prog 74 #[.string s, .int .i64 k] w fun e w' => e = .returned (pairV (getBe s.data.toList k)) ∧ Below w.heap.size w w' := by
  by_cases hk : 1 ≤ k ∧ k ≤ 8
  · obtain ⟨q, rfl⟩ := Int.eq_ofNat_of_zero_le (show 0 ≤ k by omega)
    have hd : decide ((1 : Int) ≤ (q : Int) ∧ (q : Int) ≤ 8) = true := by simp; omega
    by_cases hl : s.size < q
    · rw [getBe_in s q (by omega) (by omega), if_pos hl, decide_eq_false (by omega)]
      have hs' := hs
      unfold maxLen at hs'
      go_enter Tryz.func74, Tryz.ntmps74
      go_wp2_with (go_at_call 73; refine (l1In_any q 1 8 _).mono ?_; rintro e w' ⟨rfl, rfl⟩; rw [hd])
      go_ret2
      exact ⟨rfl, Below.refl _ _⟩
    · rw [getBe_in s q (by omega) (by omega), if_neg hl, decide_eq_true (by omega)]
      have hs' := hs
      unfold maxLen at hs'
      go_enter Tryz.func74, Tryz.ntmps74
      have hL : (s.data.toList.take q).length = q := lenTake s q (by omega)
      obtain ⟨B, hB⟩ : ∃ B : ByteArray, B = ⟨(s.extract 0 q).data.toList.reverse.toArray⟩ := ⟨_, rfl⟩
      have hBd : B.data.toList = (s.data.toList.take q).reverse := by rw [hB, Lib.extract_data]; simp
      have hBs : B.size = q := by
        have : B.data.toList.length = B.size := Array.length_toList
        rw [← this, hBd, List.length_reverse, hL]
      have hBm : B.size ≤ maxLen := by rw [hBs]; unfold maxLen; omega
      have hB8 : 8 ≥ q := by omega
      have hB1 : 1 ≤ q := by omega
      have hx : (s.extract 0 q).size ≤ 1048576 := by
        have : (s.extract 0 q).data.toList.length = (s.extract 0 q).size := Array.length_toList
        rw [← this, Lib.extract_data]; simp; omega
      have C := specGetLe_any B q (hk1 := hB1) (hk := hB8) (hs := hBm)
      rw [hBs, if_neg (Nat.lt_irrefl q), hBd, List.take_of_length_le (by rw [List.length_reverse, hL]; exact Nat.le_refl _), decide_eq_true (Nat.le_refl q)] at C
      have HB : Hid _ := hB
      have HC : Hid _ := C
      clear hB C hBd hBs hBm hL
      go_wp2_with (first | (go_at_call 73; refine (l1In_any q 1 8 _).mono ?_; rintro e w' ⟨rfl, rfl⟩; rw [hd]) | (go_at_call 54; refine (l1Back_any (s.extract 0 q) _ hx).mono ?_; rintro e w2 ⟨rfl, hb2⟩; rw [← HB.out]) | (go_at_call 79; refine (HC.out _).mono ?_; rintro e w3 ⟨rfl, rfl⟩))
      go_ret2
      exact ⟨rfl, by assumption⟩
  · have hd : decide ((1 : Int) ≤ k ∧ k ≤ 8) = false := by simpa using hk
    rw [getBe_out _ _ hk]
    clear hk
    go_enter Tryz.func74, Tryz.ntmps74
    go_wp2_with (go_at_call 73; refine (l1In_any k 1 8 _).mono ?_; rintro e w' ⟨rfl, rfl⟩; rw [hd])
    go_ret2
    exact ⟨rfl, Below.refl _ _⟩
end Go.Proofs.YtdncnjmlicdamaaGreatDoor
namespace Go.Proofs.YtdncnjmlicdamaaGreatDoor
open Go.RowKit
set_option linter.unusedVariables false
/-- Seven bits, and the eighth: more follows. -/
def vb (m : Nat) : UInt8 := UInt8.ofNat (m % 128 + 128)
/-- Bytes of seven bits, the lowest first; ten at most. -/
def varF : Nat → Nat → List UInt8
  | 0, n => [UInt8.ofNat n]
  | f + 1, n => if n < 128 then [UInt8.ofNat n] else vb n :: varF f (n / 128)
def putVar (n : Nat) : List UInt8 := varF 10 n
theorem varF_small (f m : Nat) (h : m < 128) : varF f m = [UInt8.ofNat m] := by
  cases f with
  | zero => rfl
  | succ f => simp [varF, h]
theorem varF_big (f m : Nat) (h : ¬ m < 128) : varF (f + 1) m = vb m :: varF f (m / 128) := by simp [varF, h]
theorem or128 : ∀ a : Fin 256, a.val ||| 128 = a.val % 128 + 128 := by decide +kernel
theorem bv_or (m : Nat) : bv (vb m) = Value.int IntKind.u8 (bits BinOp.or IntKind.u8 ((m : Int) % 256) 128) := by
  have e : ((m : Int) % 256) = ((m % 256 : Nat) : Int) := by omega
  have o := or128 ⟨m % 256, Nat.mod_lt _ (by decide)⟩
  simp only at o
  have h := u8_or_nat (m % 256) 128 (by omega) (by decide)
  unfold vb
  rw [e, bv_ofNat]
  rw [show ((128 : Nat) : Int) = 128 from rfl] at h
  rw [h, o]
  congr 1
  omega
/-- How far the writing has come: what is done, what is left of the number, how many bytes may follow. -/
def VarAt (n : Nat) (l : List UInt8) (m : Nat) : Prop := ∃ f, l ++ varF f m = putVar n ∧ l.length + f = 10 ∧ m < 2 ^ (7 * f)
theorem VarAt.start (n : Nat) (hn : n < 18446744073709551616) : VarAt n [] n := ⟨10, rfl, rfl, by rw [show (2:Nat) ^ (7 * 10) = 1180591620717411303424 from by decide]; omega⟩
theorem VarAt.len {n : Nat} {l : List UInt8} {m : Nat} (h : VarAt n l m) : l.length ≤ 10 := by obtain ⟨f, _, h, _⟩ := h; omega
theorem VarAt.step {n : Nat} {l : List UInt8} {m : Nat} (h : VarAt n l m) (hm : ¬ m < 128) : VarAt n (l ++ [vb m]) (m / 128) := by
  obtain ⟨f, h1, h2, h3⟩ := h
  match f with
  | 0 => simp at h3; omega
  | f + 1 =>
    refine ⟨f, ?_, by simp; omega, ?_⟩
    · rw [varF_big f m hm] at h1; simpa using h1
    · rw [show 7 * (f + 1) = 7 * f + 7 from by omega, Nat.pow_add] at h3
      omega
theorem VarAt.done {n : Nat} {l : List UInt8} {m : Nat} (h : VarAt n l m) (hm : m < 128) : l ++ [UInt8.ofNat m] = putVar n := by
  obtain ⟨f, h1, _, _⟩ := h
  rw [varF_small f m hm] at h1; exact h1
end Go.Proofs.YtdncnjmlicdamaaGreatDoor
namespace Go.Proofs.YtdncnjmlicdamaaGreatDoor
open Go.RowKit
set_option linter.unusedVariables false
theorem widthOf_u64_any (w : World) : Calls Tryz.prog 139 #[] w fun e w' => e = .returned (.int .i64 8) ∧ w' = w := by
  have hb : by8 18446744073709551615 = 8 := by decide
  have hx : bits BinOp.xor IntKind.u64 IntKind.u64.max 0 = 18446744073709551615 := by decide
  have hc := fun w => bytesOf_u64_any 18446744073709551615 w (by decide)
  rw [hb, show ((18446744073709551615 : Nat) : Int) = 18446744073709551615 from rfl, show ((8 : Nat) : Int) = 8 from rfl, ← hx] at hc
  have HC : Hid _ := hc
  clear hb hx hc
  go_enter Tryz.func139, Tryz.ntmps139
  go_wp2_with (go_at_call 105; refine (HC.out _).mono ?_; rintro e w' ⟨rfl, rfl⟩)
  go_ret
  exact ⟨rfl, rfl⟩
theorem widthOf_u16_any (w : World) : Calls Tryz.prog 137 #[] w fun e w' => e = .returned (.int .i64 2) ∧ w' = w := by
  have hb : by8 65535 = 2 := by decide
  have hx : bits BinOp.xor IntKind.u16 IntKind.u16.max 0 = 65535 := by decide
  have hc := fun w => bytesOf_u16_any 65535 w (by decide)
  rw [hb, show ((65535 : Nat) : Int) = 65535 from rfl, show ((2 : Nat) : Int) = 2 from rfl, ← hx] at hc
  have HC : Hid _ := hc
  clear hb hx hc
  go_enter Tryz.func137, Tryz.ntmps137
  go_wp2_with (go_at_call 112; refine (HC.out _).mono ?_; rintro e w' ⟨rfl, rfl⟩)
  go_ret
  exact ⟨rfl, rfl⟩
theorem widthOf_u8_any (w : World) : Calls Tryz.prog 116 #[] w fun e w' => e = .returned (.int .i64 1) ∧ w' = w := by
  have hb : by8 255 = 1 := by decide
  have hx : bits BinOp.xor IntKind.u8 IntKind.u8.max 0 = 255 := by decide
  have hc := fun w => bytesOf_u8_any 255 w (by decide)
  rw [hb, show ((255 : Nat) : Int) = 255 from rfl, show ((1 : Nat) : Int) = 1 from rfl, ← hx] at hc
  have HC : Hid _ := hc
  clear hb hx hc
  go_enter Tryz.func116, Tryz.ntmps116
  go_wp2_with (go_at_call 118; refine (HC.out _).mono ?_; rintro e w' ⟨rfl, rfl⟩)
  go_ret
  exact ⟨rfl, rfl⟩
theorem whole_u8_any (n : Nat) (w : World) (hn : n < 256) : Calls Tryz.prog 111 #[.int .u8 n] w fun e w' => e = .returned (.string ⟨(leL n 1).toArray⟩) ∧ Below w.heap.size w w' := by
  have hc := fun w => lowFirst_u8_any n 1 w hn (by decide)
  rw [show ((1 : Nat) : Int) = 1 from rfl] at hc
  have HC : Hid _ := hc
  clear hc
  go_enter Tryz.func111, Tryz.ntmps111
  go_wp2_with (first | (go_at_call 116; refine (widthOf_u8_any _).mono ?_; rintro e w' ⟨rfl, rfl⟩) | (go_at_call 115; refine (HC.out _).mono ?_; rintro e w' ⟨rfl, hb⟩))
  go_ret
  exact ⟨rfl, by assumption⟩
theorem by8_zero : by8 0 = 0 := by decide
theorem by8_div (m : Nat) (h : 0 < m) : by8 m = 1 + by8 (m / 256) := by
  unfold by8
  by_cases h2 : 256 ≤ m
  · have := bl_div m 8 (by omega)
    rw [show (2 : Nat) ^ 8 = 256 from rfl] at this
    omega
  · have e : m / 256 = 0 := by omega
    have h8 := bl_8 m (by omega)
    have h0 : ¬ bl m ≤ 0 := by rw [bl_le]; omega
    have hz : bl 0 = 0 := rfl
    rw [e, hz]; omega
theorem by8_8 (n : Nat) (h : n < 18446744073709551616) : by8 n ≤ 8 := (by8_le n 8).2 h
theorem l1Need_any (n : Nat) (w : World) (hn : n < 18446744073709551616) : Calls Tryz.prog 56 #[.int .u64 n] w fun e w' => e = .returned (.int .i64 (by8 n)) ∧ w' = w := by
  have h8 := by8_8 n hn
  go_enter Tryz.func56, Tryz.ntmps56
  go_wp2
  go_loop [3, 0] (fun v x => ∃ j m : Nat, v = .int .i64 j ∧ x = .int .u64 m ∧ m ≤ n ∧ j ≤ 8 ∧ Hid (by8 n = j + by8 m)) (fun _ x => (intOf x).toNat)
  case atStart => exact ⟨0, n, rfl, rfl, Nat.le_refl _, by omega, (Nat.zero_add _).symm⟩
  case round =>
    obtain ⟨j, m, rfl, rfl, hm, hj, hr⟩ := hrel
    by_cases hp : 0 < m
    · have h2 : Hid (by8 n = (j + 1) + by8 (m / 256)) := by have h1 := by8_div m hp; have h3 := hr.out; show _ = _; omega
      have h3 : j + 1 ≤ 8 := by have := h2.out; omega
      clear hr
      go_wp2
      go_round
      case rel => exact ⟨j + 1, m / 256, by go_num, by go_num, by omega, h3, h2⟩
      case measure => simp [intOf]; omega
    · have e : m = 0 := by omega
      subst e
      have h1 : Hid (by8 n = j) := by have := hr.out; rw [by8_zero] at this; show _ = _; omega
      clear hr h8
      go_wp2
      go_ret
      exact ⟨by rw [h1.out]; rfl, rfl⟩
theorem cat_cons (b : UInt8) (l : List UInt8) : (⟨#[b]⟩ : ByteArray) ++ (⟨l.toArray⟩ : ByteArray) = ⟨(b :: l).toArray⟩ := by
  apply ByteArray.ext
  simp
theorem cat_list (a l : List UInt8) : (⟨a.toArray⟩ : ByteArray) ++ (⟨l.toArray⟩ : ByteArray) = ⟨(a ++ l).toArray⟩ := by
  apply ByteArray.ext
  simp
/-- Bitcoin's CompactSize. -/
def putSize (n : Nat) : List UInt8 := if n < 253 then leL n 1 else if n < 65536 then 253 :: leL n 2 else if n < 4294967296 then 254 :: leL n 4 else 255 :: leL n 8
theorem leL_253 : leL 253 1 = [253] := by decide
theorem leL_254 : leL 254 1 = [254] := by decide
theorem leL_255 : leL 255 1 = [255] := by decide
end Go.Proofs.YtdncnjmlicdamaaGreatDoor
namespace Go.Proofs.YtdncnjmlicdamaaGreatDoor
open Go.RowKit
set_option linter.unusedVariables false
/-- SCALE's compact number. -/
def putCompact (n : Nat) : List UInt8 := if n < 64 then leL (4 * n) 1 else if n < 16384 then leL (4 * n + 1) 2 else if n < 1073741824 then leL (4 * n + 2) 4 else leL (4 * (by8 n - 4) + 3) 1 ++ leL n (by8 n)
theorem by8_4 (n : Nat) (h : ¬ n < 1073741824) : 4 ≤ by8 n := by
  have h3 : ¬ by8 n ≤ 3 := by rw [by8_le]; omega
  omega
theorem or1_u16 (n : Nat) (h : n ≤ 16383) : bits BinOp.or IntKind.u16 ((n : Int) * 4) 1 = ((4 * n + 1 : Nat) : Int) := by
  rw [show ((n : Int) * 4) = ((4 * n : Nat) : Int) from by omega, show (1 : Int) = ((1 : Nat) : Int) from rfl, u16_or_nat _ _ (by omega) (by decide)]
  rw [nat_join 2 (4 * n) 1 (by omega) (by decide)]
theorem or2_u32 (n : Nat) (h : n ≤ 1073741823) : bits BinOp.or IntKind.u32 ((n : Int) * 4) 2 = ((4 * n + 2 : Nat) : Int) := by
  rw [show ((n : Int) * 4) = ((4 * n : Nat) : Int) from by omega, show (2 : Int) = ((2 : Nat) : Int) from rfl, u32_or_nat _ _ (by omega) (by decide)]
  rw [nat_join 2 (4 * n) 2 (by omega) (by decide)]
/-- What stands ahead in RLP. -/
def headB (list : Bool) : Nat := if list then 192 else 128
def headL (list : Bool) (n : Nat) : List UInt8 := if n < 56 then leL (headB list + n) 1 else leL (headB list + 55 + by8 n) 1 ++ (leL n (by8 n)).reverse
def putHead (list : Bool) (n : Int) : List UInt8 := if 0 ≤ n ∧ n ≤ 65535 then headL list n.toNat else []
theorem headBase_true (w : World) : Calls Tryz.prog 110 #[.bool true] w fun e w' => e = .returned (.int .u8 192) ∧ w' = w := by
  go_enter Tryz.func110, Tryz.ntmps110
  go_wp2
  go_ret
  exact ⟨rfl, rfl⟩
theorem headBase_false (w : World) : Calls Tryz.prog 110 #[.bool false] w fun e w' => e = .returned (.int .u8 128) ∧ w' = w := by
  go_enter Tryz.func110, Tryz.ntmps110
  go_wp2
  go_ret
  exact ⟨rfl, rfl⟩
theorem by8_16 (n : Nat) (h : n ≤ 65535) : by8 n ≤ 2 := (by8_le n 2).2 (by omega)
theorem by8_pos (n : Nat) (h : 1 ≤ n) : 1 ≤ by8 n := by
  have h3 : ¬ by8 n ≤ 0 := by rw [by8_le]; omega
  omega
theorem headL_true_lo (n : Nat) (h : n < 56) : headL true n = leL (192 + n) 1 := by simp [headL, headB, h]
theorem headL_true_hi (n : Nat) (h : ¬ n < 56) : headL true n = leL (247 + by8 n) 1 ++ (leL n (by8 n)).reverse := by simp [headL, headB, h]
theorem headL_false_lo (n : Nat) (h : n < 56) : headL false n = leL (128 + n) 1 := by simp [headL, headB, h]
theorem headL_false_hi (n : Nat) (h : ¬ n < 56) : headL false n = leL (183 + by8 n) 1 ++ (leL n (by8 n)).reverse := by simp [headL, headB, h]
set_option maxRecDepth 100000 in
set_option maxHeartbeats 400000 in
theorem implPutHead_true (n : Nat) (w : World) (hn : n ≤ 65535) : Calls Tryz.prog 107 #[.bool true, .int .i64 n] w fun e w' => e = .returned (.string ⟨(headL true n).toArray⟩) ∧ Below w.heap.size w w' := by
  have i1 : decide ((n : Int) < 0) = false := decide_eq_false (by omega)
  have i2 : decide (65535 < (n : Int)) = false := decide_eq_false (by omega)
  by_cases h : n < 56
  · rw [headL_true_lo n h]
    have i3 : decide ((n : Int) < 56) = true := decide_eq_true (by omega)
    have hb0 : (n : Int) ≤ 55 := by omega
    have C := fun w => whole_u8_any (192 + n) w (by omega)
    rw [show ((192 + n : Nat) : Int) = 192 + (n : Int) from by omega] at C
    have HC : Hid _ := C
    clear h hn C
    generalize leL (192 + n) 1 = l at *
    go_enter Tryz.func107, Tryz.ntmps107
    go_wp2_with (first | (go_at_call 110; refine (headBase_true _).mono ?_; rintro e w' ⟨rfl, rfl⟩) | (go_at_call 111; refine (HC.out _).mono ?_; rintro e w1 ⟨rfl, hb1⟩))
    go_ret
    exact ⟨rfl, by assumption⟩
  · rw [headL_true_hi n h]
    have i3 : decide ((n : Int) < 56) = false := decide_eq_false (by omega)
    have hb0 : (n : Int) ≤ 65535 := by omega
    have h1 := by8_pos n (by omega)
    have h2 := by8_16 n hn
    have HB : Hid _ := fun w => bytesOf_u16_any n w (by omega)
    have HC : Hid _ := fun w => highFirst_u16_any n (by8 n) w (by omega) h2
    have C0 := fun w => whole_u8_any (247 + by8 n) w (by omega)
    rw [show ((247 + by8 n : Nat) : Int) = 247 + (by8 n : Int) from by omega] at C0
    have HC0 : Hid _ := C0
    have hl := leL_len n (by8 n)
    have hr : (leL n (by8 n)).reverse.length = by8 n := by rw [List.length_reverse, hl]
    have hl0 := leL_len (247 + by8 n) 1
    clear h hn C0 hl
    generalize (leL n (by8 n)).reverse = l at *
    generalize leL (247 + by8 n) 1 = l0 at *
    generalize by8 n = k at *
    go_enter Tryz.func107, Tryz.ntmps107
    go_wp2_with (first | (go_at_call 110; refine (headBase_true _).mono ?_; rintro e w' ⟨rfl, rfl⟩) | (go_at_call 112; refine (HB.out _).mono ?_; rintro e w' ⟨rfl, rfl⟩) | (go_at_call 111; refine (HC0.out _).mono ?_; rintro e w1 ⟨rfl, hb1⟩) | (go_at_call 113; refine (HC.out _).mono ?_; rintro e w2 ⟨rfl, hb2⟩))
    go_ret
    exact ⟨by rw [← cat_list]; rfl, hb1.trans (hb2.mono hb1.size)⟩
set_option maxRecDepth 100000 in
set_option maxHeartbeats 400000 in
theorem implPutHead_false (n : Nat) (w : World) (hn : n ≤ 65535) : Calls Tryz.prog 107 #[.bool false, .int .i64 n] w fun e w' => e = .returned (.string ⟨(headL false n).toArray⟩) ∧ Below w.heap.size w w' := by
  have i1 : decide ((n : Int) < 0) = false := decide_eq_false (by omega)
  have i2 : decide (65535 < (n : Int)) = false := decide_eq_false (by omega)
  by_cases h : n < 56
  · rw [headL_false_lo n h]
    have i3 : decide ((n : Int) < 56) = true := decide_eq_true (by omega)
    have hb0 : (n : Int) ≤ 55 := by omega
    have C := fun w => whole_u8_any (128 + n) w (by omega)
    rw [show ((128 + n : Nat) : Int) = 128 + (n : Int) from by omega] at C
    have HC : Hid _ := C
    clear h hn C
    generalize leL (128 + n) 1 = l at *
    go_enter Tryz.func107, Tryz.ntmps107
    go_wp2_with (first | (go_at_call 110; refine (headBase_false _).mono ?_; rintro e w' ⟨rfl, rfl⟩) | (go_at_call 111; refine (HC.out _).mono ?_; rintro e w1 ⟨rfl, hb1⟩))
    go_ret
    exact ⟨rfl, by assumption⟩
  · rw [headL_false_hi n h]
    have i3 : decide ((n : Int) < 56) = false := decide_eq_false (by omega)
    have hb0 : (n : Int) ≤ 65535 := by omega
    have h1 := by8_pos n (by omega)
    have h2 := by8_16 n hn
    have HB : Hid _ := fun w => bytesOf_u16_any n w (by omega)
    have HC : Hid _ := fun w => highFirst_u16_any n (by8 n) w (by omega) h2
    have C0 := fun w => whole_u8_any (183 + by8 n) w (by omega)
    rw [show ((183 + by8 n : Nat) : Int) = 183 + (by8 n : Int) from by omega] at C0
    have HC0 : Hid _ := C0
    have hl := leL_len n (by8 n)
    have hr : (leL n (by8 n)).reverse.length = by8 n := by rw [List.length_reverse, hl]
    have hl0 := leL_len (183 + by8 n) 1
    clear h hn C0 hl
    generalize (leL n (by8 n)).reverse = l at *
    generalize leL (183 + by8 n) 1 = l0 at *
    generalize by8 n = k at *
    go_enter Tryz.func107, Tryz.ntmps107
    go_wp2_with (first | (go_at_call 110; refine (headBase_false _).mono ?_; rintro e w' ⟨rfl, rfl⟩) | (go_at_call 112; refine (HB.out _).mono ?_; rintro e w' ⟨rfl, rfl⟩) | (go_at_call 111; refine (HC0.out _).mono ?_; rintro e w1 ⟨rfl, hb1⟩) | (go_at_call 113; refine (HC.out _).mono ?_; rintro e w2 ⟨rfl, hb2⟩))
    go_ret
    exact ⟨by rw [← cat_list]; rfl, hb1.trans (hb2.mono hb1.size)⟩
set_option maxRecDepth 100000 in
set_option maxHeartbeats 400000 in
theorem implPutHead_any (list : Bool) (n : Int) (w : World) : Calls Tryz.prog 107 #[.bool list, .int .i64 n] w fun e w' => e = .returned (.string ⟨(putHead list n).toArray⟩) ∧ Below w.heap.size w w' := by
  unfold putHead
  by_cases h : 0 ≤ n ∧ n ≤ 65535
  · rw [if_pos h]
    obtain ⟨m, rfl⟩ := Int.eq_ofNat_of_zero_le h.1
    rw [Int.toNat_natCast]
    cases list
    · exact implPutHead_false m w (by omega)
    · exact implPutHead_true m w (by omega)
  · rw [if_neg h]
    by_cases h0 : n < 0
    · have i1 : decide (n < 0) = true := decide_eq_true h0
      clear h h0
      go_enter Tryz.func107, Tryz.ntmps107
      go_wp2
      go_ret
      exact ⟨rfl, Below.refl _ _⟩
    · have i1 : decide (n < 0) = false := decide_eq_false h0
      have i2 : decide (65535 < n) = true := decide_eq_true (by omega)
      clear h h0
      go_enter Tryz.func107, Tryz.ntmps107
      go_wp2
      go_ret
      exact ⟨rfl, Below.refl _ _⟩
set_option maxRecDepth 100000 in
set_option maxHeartbeats 400000 in
theorem l1Head_true (n : Nat) (w : World) (hn : n ≤ 65535) : Calls Tryz.prog 38 #[.bool true, .int .i64 n] w fun e w' => e = .returned (.string ⟨(headL true n).toArray⟩) ∧ Below w.heap.size w w' := by
  by_cases h : n < 56
  · rw [headL_true_lo n h]
    have i3 : decide ((n : Int) < 56) = true := decide_eq_true (by omega)
    have hb0 : (n : Int) ≤ 55 := by omega
    have C := fun w => l1Le_any (192 + n) 1 w (by omega) (by decide)
    rw [show ((192 + n : Nat) : Int) = 192 + (n : Int) from by omega, show ((1 : Nat) : Int) = 1 from rfl] at C
    have HC : Hid _ := C
    clear h hn C
    generalize leL (192 + n) 1 = l at *
    go_enter Tryz.func38, Tryz.ntmps38
    go_wp2_with (go_at_call 55; refine (HC.out _).mono ?_; rintro e w1 ⟨rfl, hb1⟩)
    go_ret
    exact ⟨rfl, by assumption⟩
  · rw [headL_true_hi n h]
    have i3 : decide ((n : Int) < 56) = false := decide_eq_false (by omega)
    have hb0 : (n : Int) ≤ 65535 := by omega
    have h1 := by8_pos n (by omega)
    have h2 := by8_16 n hn
    have HB : Hid _ := fun w => l1Need_any n w (by omega)
    have HC : Hid _ := fun w => l1Le_any n (by8 n) w (by omega) (by omega)
    have C0 := fun w => l1Le_any (247 + by8 n) 1 w (by omega) (by decide)
    rw [show ((247 + by8 n : Nat) : Int) = 247 + (by8 n : Int) from by omega, show ((1 : Nat) : Int) = 1 from rfl] at C0
    have HC0 : Hid _ := C0
    have hl := leL_len n (by8 n)
    have hz : (⟨(leL n (by8 n)).toArray⟩ : ByteArray).size ≤ 1048576 := by simp [ByteArray.size, hl]; omega
    have HR : Hid _ := fun w => l1Back_any ⟨(leL n (by8 n)).toArray⟩ w hz
    have hl0 := leL_len (247 + by8 n) 1
    clear h hn C0 hz
    generalize leL n (by8 n) = l at *
    generalize leL (247 + by8 n) 1 = l0 at *
    generalize by8 n = k at *
    go_enter Tryz.func38, Tryz.ntmps38
    go_wp2_with (go_at_call 56; refine (HB.out _).mono ?_; rintro e w' ⟨rfl, rfl⟩)
    refine (HC0.out _).mono ?_
    rintro e w1 ⟨rfl, hb1⟩
    go_wp2_with fail
    refine (HC.out _).mono ?_
    rintro e w2 ⟨rfl, hb2⟩
    go_wp2_with (go_at_call 54; refine (HR.out _).mono ?_; rintro e w3 ⟨rfl, hb3⟩)
    go_ret
    exact ⟨by rw [← cat_list]; rfl, (hb1.trans (hb2.mono hb1.size)).trans (hb3.mono (Nat.le_trans hb1.size hb2.size))⟩
set_option maxRecDepth 100000 in
set_option maxHeartbeats 400000 in
theorem l1Head_false (n : Nat) (w : World) (hn : n ≤ 65535) : Calls Tryz.prog 38 #[.bool false, .int .i64 n] w fun e w' => e = .returned (.string ⟨(headL false n).toArray⟩) ∧ Below w.heap.size w w' := by
  by_cases h : n < 56
  · rw [headL_false_lo n h]
    have i3 : decide ((n : Int) < 56) = true := decide_eq_true (by omega)
    have hb0 : (n : Int) ≤ 55 := by omega
    have C := fun w => l1Le_any (128 + n) 1 w (by omega) (by decide)
    rw [show ((128 + n : Nat) : Int) = 128 + (n : Int) from by omega, show ((1 : Nat) : Int) = 1 from rfl] at C
    have HC : Hid _ := C
    clear h hn C
    generalize leL (128 + n) 1 = l at *
    go_enter Tryz.func38, Tryz.ntmps38
    go_wp2_with (go_at_call 55; refine (HC.out _).mono ?_; rintro e w1 ⟨rfl, hb1⟩)
    go_ret
    exact ⟨rfl, by assumption⟩
  · rw [headL_false_hi n h]
    have i3 : decide ((n : Int) < 56) = false := decide_eq_false (by omega)
    have hb0 : (n : Int) ≤ 65535 := by omega
    have h1 := by8_pos n (by omega)
    have h2 := by8_16 n hn
    have HB : Hid _ := fun w => l1Need_any n w (by omega)
    have HC : Hid _ := fun w => l1Le_any n (by8 n) w (by omega) (by omega)
    have C0 := fun w => l1Le_any (183 + by8 n) 1 w (by omega) (by decide)
    rw [show ((183 + by8 n : Nat) : Int) = 183 + (by8 n : Int) from by omega, show ((1 : Nat) : Int) = 1 from rfl] at C0
    have HC0 : Hid _ := C0
    have hl := leL_len n (by8 n)
    have hz : (⟨(leL n (by8 n)).toArray⟩ : ByteArray).size ≤ 1048576 := by simp [ByteArray.size, hl]; omega
    have HR : Hid _ := fun w => l1Back_any ⟨(leL n (by8 n)).toArray⟩ w hz
    have hl0 := leL_len (183 + by8 n) 1
    clear h hn C0 hz
    generalize leL n (by8 n) = l at *
    generalize leL (183 + by8 n) 1 = l0 at *
    generalize by8 n = k at *
    go_enter Tryz.func38, Tryz.ntmps38
    go_wp2_with (go_at_call 56; refine (HB.out _).mono ?_; rintro e w' ⟨rfl, rfl⟩)
    refine (HC0.out _).mono ?_
    rintro e w1 ⟨rfl, hb1⟩
    go_wp2_with fail
    refine (HC.out _).mono ?_
    rintro e w2 ⟨rfl, hb2⟩
    go_wp2_with (go_at_call 54; refine (HR.out _).mono ?_; rintro e w3 ⟨rfl, hb3⟩)
    go_ret
    exact ⟨by rw [← cat_list]; rfl, (hb1.trans (hb2.mono hb1.size)).trans (hb3.mono (Nat.le_trans hb1.size hb2.size))⟩
theorem l1Head_any (list : Bool) (n : Nat) (w : World) (hn : n ≤ 65535) : Calls Tryz.prog 38 #[.bool list, .int .i64 n] w fun e w' => e = .returned (.string ⟨(headL list n).toArray⟩) ∧ Below w.heap.size w w' := by
  cases list
  · exact l1Head_false n w hn
  · exact l1Head_true n w hn
end Go.Proofs.YtdncnjmlicdamaaGreatDoor
