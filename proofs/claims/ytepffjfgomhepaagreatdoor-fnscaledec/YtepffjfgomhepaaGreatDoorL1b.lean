/- Numbers read and written in k bytes: contracts. -/
import Derived.Test.YtepffjfgomhepaaGreatDoorL1a
import Derived.Lib.Strings
namespace Go.Proofs.YtepffjfgomhepaaGreatDoor
open Go.RowKit
set_option linter.unusedVariables false
/-- How many bytes a number needs. -/
def by8 (n : Nat) : Nat := (bl n + 7) / 8
theorem by8_le (n k : Nat) : by8 n ≤ k ↔ n < 2 ^ (8 * k) := by
  rw [← bl_le]; unfold by8; omega
theorem bytesOf_u64_any (n : Nat) (w : World) (hn : n < 18446744073709551616) : Calls Tryz.prog 59 #[.int .u64 n] w fun e w' => e = .returned (.int .i64 (by8 n)) ∧ w' = w := by
  have hb := bl_64 n (by omega)
  go_enter Tryz.func59, Tryz.ntmps59
  go_wp2_with (go_at_call 91; refine (Len64_any n _ (by omega)).mono ?_; rintro e w' ⟨rfl, rfl⟩)
  go_ret
  refine ⟨congrArg Ending.returned (congrArg (Value.int IntKind.i64) ?_), rfl⟩
  unfold by8
  omega
theorem bytesOf_u32_any (n : Nat) (w : World) (hn : n < 4294967296) : Calls Tryz.prog 103 #[.int .u32 n] w fun e w' => e = .returned (.int .i64 (by8 n)) ∧ w' = w := by
  have hb := bl_64 n (by omega)
  go_enter Tryz.func103, Tryz.ntmps103
  go_wp2_with (go_at_call 91; refine (Len64_any n _ (by omega)).mono ?_; rintro e w' ⟨rfl, rfl⟩)
  go_ret
  refine ⟨congrArg Ending.returned (congrArg (Value.int IntKind.i64) ?_), rfl⟩
  unfold by8
  omega
theorem bytesOf_u16_any (n : Nat) (w : World) (hn : n < 65536) : Calls Tryz.prog 102 #[.int .u16 n] w fun e w' => e = .returned (.int .i64 (by8 n)) ∧ w' = w := by
  have hb := bl_64 n (by omega)
  go_enter Tryz.func102, Tryz.ntmps102
  go_wp2_with (go_at_call 91; refine (Len64_any n _ (by omega)).mono ?_; rintro e w' ⟨rfl, rfl⟩)
  go_ret
  refine ⟨congrArg Ending.returned (congrArg (Value.int IntKind.i64) ?_), rfl⟩
  unfold by8
  omega
theorem bytesOf_u8_any (n : Nat) (w : World) (hn : n < 256) : Calls Tryz.prog 101 #[.int .u8 n] w fun e w' => e = .returned (.int .i64 (by8 n)) ∧ w' = w := by
  have hb := bl_64 n (by omega)
  go_enter Tryz.func101, Tryz.ntmps101
  go_wp2_with (go_at_call 91; refine (Len64_any n _ (by omega)).mono ?_; rintro e w' ⟨rfl, rfl⟩)
  go_ret
  refine ⟨congrArg Ending.returned (congrArg (Value.int IntKind.i64) ?_), rfl⟩
  unfold by8
  omega
def lowFirst_end (l : List UInt8) : List UInt8 := l
def highFirst_end (l : List UInt8) : List UInt8 := l.reverse
def putLe (n : Nat) (k : Int) : List UInt8 := if 1 ≤ k ∧ k ≤ 8 ∧ n < 2 ^ (8 * k.toNat) then leL n k.toNat else []
theorem putLe_yes (n q : Nat) (h1 : 1 ≤ q) (h2 : q ≤ 8) (hf : n < 2 ^ (8 * q)) : putLe n q = leL n q := by
  unfold putLe; rw [if_pos ⟨by omega, by omega, by simpa using hf⟩]; rfl
theorem putLe_big (n q : Nat) (hf : ¬ n < 2 ^ (8 * q)) : putLe n q = [] := by
  unfold putLe; rw [if_neg (by simp; intro _ _; omega)]
theorem putLe_no (n : Nat) (k : Int) (hk : ¬ (1 ≤ k ∧ k ≤ 8)) : putLe n k = [] := by
  unfold putLe; rw [if_neg (by intro h; exact hk ⟨h.1, h.2.1⟩)]
/-- The number that bytes make, the lowest first. -/
def leV : List UInt8 → Nat
  | [] => 0
  | b :: l => b.toNat + 256 * leV l
theorem leV_lt : ∀ l : List UInt8, leV l < 2 ^ (8 * l.length)
  | [] => by simp [leV]
  | b :: l => by
    have h := leV_lt l
    have hb := b.toNat_lt
    simp only [leV, List.length_cons]
    rw [show 8 * (l.length + 1) = 8 * l.length + 8 from by omega, Nat.pow_add]
    omega
theorem leV_snoc : ∀ (l : List UInt8) (b : UInt8), leV (l ++ [b]) = leV l + b.toNat * 2 ^ (8 * l.length)
  | [], b => by simp [leV]
  | c :: l, b => by
    simp only [leV, List.cons_append, leV_snoc l b, List.length_cons]
    rw [show 8 * (l.length + 1) = 8 * l.length + 8 from by omega, Nat.pow_add, Nat.mul_add, ← Nat.mul_assoc]
    have : b.toNat * 2 ^ (8 * l.length) * 2 ^ 8 = 256 * b.toNat * 2 ^ (8 * l.length) := by
      rw [Nat.mul_comm (256 * b.toNat), Nat.mul_comm (b.toNat), Nat.mul_assoc, Nat.mul_comm b.toNat]
    rw [show b.toNat * (2 ^ (8 * l.length) * 2 ^ 8) = b.toNat * 2 ^ (8 * l.length) * 2 ^ 8 from by rw [Nat.mul_assoc], this]
    omega
theorem take_snoc (s : ByteArray) (k : Nat) (h : k < s.size) : s.data.toList.take (k + 1) = s.data.toList.take k ++ [s[k]] := by
  rw [List.take_succ_eq_append_getElem (by simpa using h)]; rfl
theorem lenTake (s : ByteArray) (k : Nat) (h : k ≤ s.size) : (s.data.toList.take k).length = k := by
  rw [List.length_take, Array.length_toList]; exact Nat.min_eq_left h
theorem drop_take_cons (s : ByteArray) (k q : Nat) (hq : q < k) (hk : k ≤ s.size) : (s.data.toList.take k).drop q = s[q]'(by omega) :: (s.data.toList.take k).drop (q + 1) := by
  have h' : q < (s.data.toList.take k).length := by rw [lenTake s k hk]; exact hq
  rw [List.drop_eq_getElem_cons h']
  congr 1
  simp
  rfl
theorem drop_take_rev (s : ByteArray) (k q : Nat) (hq : q < k) (hk : k ≤ s.size) : ((s.data.toList.take k).drop (q + 1)).reverse ++ [s[q]'(by omega)] = ((s.data.toList.take k).drop q).reverse := by
  have h' : q < (s.data.toList.take k).length := by rw [lenTake s k hk]; exact hq
  rw [List.drop_eq_getElem_cons h', List.reverse_cons]
  congr 2
  simp
  rfl
/-- One byte more, above those that are there. -/
theorem join_u64 (x : Nat) (b : UInt8) (j : Nat) (hx : x < 2 ^ (8 * j)) (hj : j < 8) : bits .or .u64 (x : Int) (IntKind.u64.wrap (IntKind.u64.wrap (b.toNat : Int) * 2 ^ (8 * j))) = ((x + b.toNat * 2 ^ (8 * j) : Nat) : Int) := by
  have hb := b.toNat_lt
  have hp : 0 < 2 ^ (8 * j) := Nat.two_pow_pos _
  have h1 : 2 ^ (8 * j) * 256 ≤ 18446744073709551616 := by
    have : 2 ^ (8 * j + 8) ≤ 2 ^ 64 := Nat.pow_le_pow_right (by decide) (by omega)
    rw [Nat.pow_add] at this
    exact this
  have h2 : b.toNat * 2 ^ (8 * j) ≤ 255 * 2 ^ (8 * j) := Nat.mul_le_mul_right _ (by omega)
  have e0 : IntKind.u64.wrap (b.toNat : Int) = (b.toNat : Int) := by rw [IntKind.wrap_u64]; omega
  have e1 : ((b.toNat : Int) * 2 ^ (8 * j)) = ((b.toNat * 2 ^ (8 * j) : Nat) : Int) := by simp
  rw [e0, e1]
  generalize hm : b.toNat * 2 ^ (8 * j) = m at *
  have e2 : IntKind.u64.wrap (m : Int) = (m : Int) := by rw [IntKind.wrap_u64]; omega
  rw [e2, u64_or_nat _ _ (by omega) (by omega)]
  have e3 : m ||| x = m + x := nat_join (8 * j) m x (by rw [← hm]; simp) hx
  rw [Nat.or_comm, e3, Nat.add_comm]
set_option maxHeartbeats 400000 in
theorem readLow_u64_any (s : ByteArray) (k : Nat) (w : World) (hk : k ≤ 8) (hs : s.size ≤ maxLen) : Calls Tryz.prog 96 #[.string s, .int .i64 k] w fun e w' => e = .returned (.tuple #[.int .u64 (if s.size < k then 0 else leV (s.data.toList.take k) : Nat), .bool (decide (k ≤ s.size))]) ∧ w' = w := by
  unfold maxLen at hs
  by_cases hl : s.size < k
  · rw [if_pos hl, decide_eq_false (by omega)]
    go_enter Tryz.func96, Tryz.ntmps96
    go_wp2
    go_ret2
    exact ⟨rfl, rfl⟩
  · rw [if_neg hl, decide_eq_true (by omega)]
    go_enter Tryz.func96, Tryz.ntmps96
    go_wp2
    go_loop [6, 13] (fun v i => ∃ j : Nat, j ≤ k ∧ i = .int .i64 j ∧ v = .int .u64 (leV (s.data.toList.take j))) (fun _ i => k - (intOf i).toNat)
    case atStart => exact ⟨0, Nat.zero_le _, rfl, rfl⟩
    case round =>
      obtain ⟨j, hj, rfl, rfl⟩ := hrel
      by_cases hlt : j < k
      · have hjs : j < s.size := by omega
        have hx := leV_lt (s.data.toList.take j)
        rw [lenTake s j (by omega)] at hx
        have J := join_u64 (leV (s.data.toList.take j)) s[j] j hx (by omega)
        have J2 := leV_snoc (s.data.toList.take j) s[j]
        rw [lenTake s j (by omega), ← take_snoc s j hjs] at J2
        rw [← J2] at J
        have HJ : Hid _ := J
        clear J J2
        go_wp2
        go_round
        case rel =>
          refine ⟨j + 1, by omega, by go_num, ?_⟩
          have h8 : ((s[j].toNat : Nat) : Int) % 256 = s[j].toNat := by have := s[j].toNat_lt; omega
          first | rw [HJ.out] | (have h := HJ.out; simp only [IntKind.wrap_u64] at h; rw [h]) | (have h := HJ.out; simp only [IntKind.wrap_u64, h8] at h; rw [h])
        case measure => simp [intOf]; omega
      · have ej : j = k := by omega
        subst ej
        go_wp2
        go_ret2
        exact ⟨rfl, rfl⟩
/-- One byte more, above those that are there. -/
theorem join_u32 (x : Nat) (b : UInt8) (j : Nat) (hx : x < 2 ^ (8 * j)) (hj : j < 4) : bits .or .u32 (x : Int) (IntKind.u32.wrap (IntKind.u32.wrap (b.toNat : Int) * 2 ^ (8 * j))) = ((x + b.toNat * 2 ^ (8 * j) : Nat) : Int) := by
  have hb := b.toNat_lt
  have hp : 0 < 2 ^ (8 * j) := Nat.two_pow_pos _
  have h1 : 2 ^ (8 * j) * 256 ≤ 4294967296 := by
    have : 2 ^ (8 * j + 8) ≤ 2 ^ 32 := Nat.pow_le_pow_right (by decide) (by omega)
    rw [Nat.pow_add] at this
    exact this
  have h2 : b.toNat * 2 ^ (8 * j) ≤ 255 * 2 ^ (8 * j) := Nat.mul_le_mul_right _ (by omega)
  have e0 : IntKind.u32.wrap (b.toNat : Int) = (b.toNat : Int) := by rw [IntKind.wrap_u32]; omega
  have e1 : ((b.toNat : Int) * 2 ^ (8 * j)) = ((b.toNat * 2 ^ (8 * j) : Nat) : Int) := by simp
  rw [e0, e1]
  generalize hm : b.toNat * 2 ^ (8 * j) = m at *
  have e2 : IntKind.u32.wrap (m : Int) = (m : Int) := by rw [IntKind.wrap_u32]; omega
  rw [e2, u32_or_nat _ _ (by omega) (by omega)]
  have e3 : m ||| x = m + x := nat_join (8 * j) m x (by rw [← hm]; simp) hx
  rw [Nat.or_comm, e3, Nat.add_comm]
set_option maxHeartbeats 400000 in
theorem readLow_u32_any (s : ByteArray) (k : Nat) (w : World) (hk : k ≤ 4) (hs : s.size ≤ maxLen) : Calls Tryz.prog 106 #[.string s, .int .i64 k] w fun e w' => e = .returned (.tuple #[.int .u32 (if s.size < k then 0 else leV (s.data.toList.take k) : Nat), .bool (decide (k ≤ s.size))]) ∧ w' = w := by
  unfold maxLen at hs
  by_cases hl : s.size < k
  · rw [if_pos hl, decide_eq_false (by omega)]
    go_enter Tryz.func106, Tryz.ntmps106
    go_wp2
    go_ret2
    exact ⟨rfl, rfl⟩
  · rw [if_neg hl, decide_eq_true (by omega)]
    go_enter Tryz.func106, Tryz.ntmps106
    go_wp2
    go_loop [6, 13] (fun v i => ∃ j : Nat, j ≤ k ∧ i = .int .i64 j ∧ v = .int .u32 (leV (s.data.toList.take j))) (fun _ i => k - (intOf i).toNat)
    case atStart => exact ⟨0, Nat.zero_le _, rfl, rfl⟩
    case round =>
      obtain ⟨j, hj, rfl, rfl⟩ := hrel
      by_cases hlt : j < k
      · have hjs : j < s.size := by omega
        have hx := leV_lt (s.data.toList.take j)
        rw [lenTake s j (by omega)] at hx
        have J := join_u32 (leV (s.data.toList.take j)) s[j] j hx (by omega)
        have J2 := leV_snoc (s.data.toList.take j) s[j]
        rw [lenTake s j (by omega), ← take_snoc s j hjs] at J2
        rw [← J2] at J
        have HJ : Hid _ := J
        clear J J2
        go_wp2
        go_round
        case rel =>
          refine ⟨j + 1, by omega, by go_num, ?_⟩
          have h8 : ((s[j].toNat : Nat) : Int) % 256 = s[j].toNat := by have := s[j].toNat_lt; omega
          first | rw [HJ.out] | (have h := HJ.out; simp only [IntKind.wrap_u32] at h; rw [h]) | (have h := HJ.out; simp only [IntKind.wrap_u32, h8] at h; rw [h])
        case measure => simp [intOf]; omega
      · have ej : j = k := by omega
        subst ej
        go_wp2
        go_ret2
        exact ⟨rfl, rfl⟩
/-- One byte more, above those that are there. -/
theorem join_u16 (x : Nat) (b : UInt8) (j : Nat) (hx : x < 2 ^ (8 * j)) (hj : j < 2) : bits .or .u16 (x : Int) (IntKind.u16.wrap (IntKind.u16.wrap (b.toNat : Int) * 2 ^ (8 * j))) = ((x + b.toNat * 2 ^ (8 * j) : Nat) : Int) := by
  have hb := b.toNat_lt
  have hp : 0 < 2 ^ (8 * j) := Nat.two_pow_pos _
  have h1 : 2 ^ (8 * j) * 256 ≤ 65536 := by
    have : 2 ^ (8 * j + 8) ≤ 2 ^ 16 := Nat.pow_le_pow_right (by decide) (by omega)
    rw [Nat.pow_add] at this
    exact this
  have h2 : b.toNat * 2 ^ (8 * j) ≤ 255 * 2 ^ (8 * j) := Nat.mul_le_mul_right _ (by omega)
  have e0 : IntKind.u16.wrap (b.toNat : Int) = (b.toNat : Int) := by rw [IntKind.wrap_u16]; omega
  have e1 : ((b.toNat : Int) * 2 ^ (8 * j)) = ((b.toNat * 2 ^ (8 * j) : Nat) : Int) := by simp
  rw [e0, e1]
  generalize hm : b.toNat * 2 ^ (8 * j) = m at *
  have e2 : IntKind.u16.wrap (m : Int) = (m : Int) := by rw [IntKind.wrap_u16]; omega
  rw [e2, u16_or_nat _ _ (by omega) (by omega)]
  have e3 : m ||| x = m + x := nat_join (8 * j) m x (by rw [← hm]; simp) hx
  rw [Nat.or_comm, e3, Nat.add_comm]
set_option maxHeartbeats 400000 in
theorem readLow_u16_any (s : ByteArray) (k : Nat) (w : World) (hk : k ≤ 2) (hs : s.size ≤ maxLen) : Calls Tryz.prog 105 #[.string s, .int .i64 k] w fun e w' => e = .returned (.tuple #[.int .u16 (if s.size < k then 0 else leV (s.data.toList.take k) : Nat), .bool (decide (k ≤ s.size))]) ∧ w' = w := by
  unfold maxLen at hs
  by_cases hl : s.size < k
  · rw [if_pos hl, decide_eq_false (by omega)]
    go_enter Tryz.func105, Tryz.ntmps105
    go_wp2
    go_ret2
    exact ⟨rfl, rfl⟩
  · rw [if_neg hl, decide_eq_true (by omega)]
    go_enter Tryz.func105, Tryz.ntmps105
    go_wp2
    go_loop [6, 13] (fun v i => ∃ j : Nat, j ≤ k ∧ i = .int .i64 j ∧ v = .int .u16 (leV (s.data.toList.take j))) (fun _ i => k - (intOf i).toNat)
    case atStart => exact ⟨0, Nat.zero_le _, rfl, rfl⟩
    case round =>
      obtain ⟨j, hj, rfl, rfl⟩ := hrel
      by_cases hlt : j < k
      · have hjs : j < s.size := by omega
        have hx := leV_lt (s.data.toList.take j)
        rw [lenTake s j (by omega)] at hx
        have J := join_u16 (leV (s.data.toList.take j)) s[j] j hx (by omega)
        have J2 := leV_snoc (s.data.toList.take j) s[j]
        rw [lenTake s j (by omega), ← take_snoc s j hjs] at J2
        rw [← J2] at J
        have HJ : Hid _ := J
        clear J J2
        go_wp2
        go_round
        case rel =>
          refine ⟨j + 1, by omega, by go_num, ?_⟩
          have h8 : ((s[j].toNat : Nat) : Int) % 256 = s[j].toNat := by have := s[j].toNat_lt; omega
          first | rw [HJ.out] | (have h := HJ.out; simp only [IntKind.wrap_u16] at h; rw [h]) | (have h := HJ.out; simp only [IntKind.wrap_u16, h8] at h; rw [h])
        case measure => simp [intOf]; omega
      · have ej : j = k := by omega
        subst ej
        go_wp2
        go_ret2
        exact ⟨rfl, rfl⟩
/-- One byte more, above those that are there. -/
theorem join_u8 (x : Nat) (b : UInt8) (j : Nat) (hx : x < 2 ^ (8 * j)) (hj : j < 1) : bits .or .u8 (x : Int) (IntKind.u8.wrap (IntKind.u8.wrap (b.toNat : Int) * 2 ^ (8 * j))) = ((x + b.toNat * 2 ^ (8 * j) : Nat) : Int) := by
  have hb := b.toNat_lt
  have hp : 0 < 2 ^ (8 * j) := Nat.two_pow_pos _
  have h1 : 2 ^ (8 * j) * 256 ≤ 256 := by
    have : 2 ^ (8 * j + 8) ≤ 2 ^ 8 := Nat.pow_le_pow_right (by decide) (by omega)
    rw [Nat.pow_add] at this
    exact this
  have h2 : b.toNat * 2 ^ (8 * j) ≤ 255 * 2 ^ (8 * j) := Nat.mul_le_mul_right _ (by omega)
  have e0 : IntKind.u8.wrap (b.toNat : Int) = (b.toNat : Int) := by rw [IntKind.wrap_u8]; omega
  have e1 : ((b.toNat : Int) * 2 ^ (8 * j)) = ((b.toNat * 2 ^ (8 * j) : Nat) : Int) := by simp
  rw [e0, e1]
  generalize hm : b.toNat * 2 ^ (8 * j) = m at *
  have e2 : IntKind.u8.wrap (m : Int) = (m : Int) := by rw [IntKind.wrap_u8]; omega
  rw [e2, u8_or_nat _ _ (by omega) (by omega)]
  have e3 : m ||| x = m + x := nat_join (8 * j) m x (by rw [← hm]; simp) hx
  rw [Nat.or_comm, e3, Nat.add_comm]
set_option maxHeartbeats 400000 in
theorem readLow_u8_any (s : ByteArray) (k : Nat) (w : World) (hk : k ≤ 1) (hs : s.size ≤ maxLen) : Calls Tryz.prog 104 #[.string s, .int .i64 k] w fun e w' => e = .returned (.tuple #[.int .u8 (if s.size < k then 0 else leV (s.data.toList.take k) : Nat), .bool (decide (k ≤ s.size))]) ∧ w' = w := by
  unfold maxLen at hs
  by_cases hl : s.size < k
  · rw [if_pos hl, decide_eq_false (by omega)]
    go_enter Tryz.func104, Tryz.ntmps104
    go_wp2
    go_ret2
    exact ⟨rfl, rfl⟩
  · rw [if_neg hl, decide_eq_true (by omega)]
    go_enter Tryz.func104, Tryz.ntmps104
    go_wp2
    go_loop [6, 13] (fun v i => ∃ j : Nat, j ≤ k ∧ i = .int .i64 j ∧ v = .int .u8 (leV (s.data.toList.take j))) (fun _ i => k - (intOf i).toNat)
    case atStart => exact ⟨0, Nat.zero_le _, rfl, rfl⟩
    case round =>
      obtain ⟨j, hj, rfl, rfl⟩ := hrel
      by_cases hlt : j < k
      · have hjs : j < s.size := by omega
        have hx := leV_lt (s.data.toList.take j)
        rw [lenTake s j (by omega)] at hx
        have J := join_u8 (leV (s.data.toList.take j)) s[j] j hx (by omega)
        have J2 := leV_snoc (s.data.toList.take j) s[j]
        rw [lenTake s j (by omega), ← take_snoc s j hjs] at J2
        rw [← J2] at J
        have HJ : Hid _ := J
        clear J J2
        go_wp2
        go_round
        case rel =>
          refine ⟨j + 1, by omega, by go_num, ?_⟩
          have h8 : ((s[j].toNat : Nat) : Int) % 256 = s[j].toNat := by have := s[j].toNat_lt; omega
          first | rw [HJ.out] | (have h := HJ.out; simp only [IntKind.wrap_u8] at h; rw [h]) | (have h := HJ.out; simp only [IntKind.wrap_u8, h8] at h; rw [h])
        case measure => simp [intOf]; omega
      · have ej : j = k := by omega
        subst ej
        go_wp2
        go_ret2
        exact ⟨rfl, rfl⟩
def getLe (l : List UInt8) (k : Int) : Nat × Bool := if 1 ≤ k ∧ k ≤ 8 ∧ k ≤ l.length then (leV (l.take k.toNat), true) else (0, false)
def pairV (x : Nat × Bool) : Value := .tuple #[.int .u64 x.1, .bool x.2]
theorem getLe_in (s : ByteArray) (k : Nat) (h1 : 1 ≤ k) (h2 : k ≤ 8) : pairV (getLe s.data.toList k) = .tuple #[.int .u64 (if s.size < k then 0 else leV (s.data.toList.take k) : Nat), .bool (decide (k ≤ s.size))] := by
  have hl : s.data.toList.length = s.size := Array.length_toList
  unfold getLe pairV
  by_cases h : k ≤ s.size
  · rw [if_pos (by rw [hl]; omega), if_neg (by omega), decide_eq_true h, Int.toNat_natCast]
  · rw [if_neg (by rw [hl]; omega), if_pos (by omega), decide_eq_false h]
theorem getLe_out (l : List UInt8) (k : Int) (h : ¬ (1 ≤ k ∧ k ≤ 8)) : pairV (getLe l k) = .tuple #[.int .u64 0, .bool false] := by
  unfold getLe pairV
  rw [if_neg (by omega)]
  rfl
theorem join8 (x : Nat) (b : UInt8) (hx : x < 72057594037927936) : bits .or .u64 (IntKind.u64.wrap ((x : Int) * 256)) (IntKind.u64.wrap (b.toNat : Int)) = ((b.toNat + 256 * x : Nat) : Int) := by
  have hb := b.toNat_lt
  have e2 : IntKind.u64.wrap ((x : Int) * 256) = ((256 * x : Nat) : Int) := by rw [IntKind.wrap_u64]; omega
  have e1 : IntKind.u64.wrap (b.toNat : Int) = (b.toNat : Int) := by rw [IntKind.wrap_u64]; omega
  rw [e1, e2, u64_or_nat _ _ (by omega) (by omega)]
  have e3 : 256 * x ||| b.toNat = 256 * x + b.toNat := nat_join 8 (256 * x) b.toNat (by omega) hb
  rw [e3, Nat.add_comm]
set_option maxHeartbeats 400000 in
theorem specGetLe_any (s : ByteArray) (k : Nat) (w : World) (hk1 : 1 ≤ k) (hk : k ≤ 8) (hs : s.size ≤ maxLen) : Calls Tryz.prog 49 #[.string s, .int .i64 k] w fun e w' => e = .returned (.tuple #[.int .u64 (if s.size < k then 0 else leV (s.data.toList.take k) : Nat), .bool (decide (k ≤ s.size))]) ∧ w' = w := by
  unfold maxLen at hs
  have hd : decide ((1 : Int) ≤ (k : Int) ∧ (k : Int) ≤ 8) = true := by simp; omega
  by_cases hl : s.size < k
  · rw [if_pos hl, decide_eq_false (by omega)]
    go_enter Tryz.func49, Tryz.ntmps49
    go_wp2_with (go_at_call 74; refine (l1In_any k 1 8 _).mono ?_; rintro e w' ⟨rfl, rfl⟩; rw [hd])
    go_ret2
    exact ⟨rfl, rfl⟩
  · rw [if_neg hl, decide_eq_true (by omega)]
    go_enter Tryz.func49, Tryz.ntmps49
    go_wp2_with (go_at_call 74; refine (l1In_any k 1 8 _).mono ?_; rintro e w' ⟨rfl, rfl⟩; rw [hd])
    go_loop [6, 7] (fun v i => ∃ m : Nat, m ≤ k ∧ i = .int .i64 ((m : Int) - 1) ∧ v = .int .u64 (leV ((s.data.toList.take k).drop m))) (fun _ i => (intOf i + 1).toNat)
    case atStart => exact ⟨k, Nat.le_refl _, rfl, by rw [List.drop_eq_nil_of_le (by rw [lenTake s k (by omega)]; omega)]; rfl⟩
    case round =>
      obtain ⟨m, hm, rfl, rfl⟩ := hrel
      match m with
      | 0 =>
        go_wp2
        go_ret2
        exact ⟨by simp, rfl⟩
      | p + 1 =>
        rw [show (((p + 1 : Nat) : Int) - 1) = (p : Int) from by omega]
        have hp : p < s.size := by omega
        have hx : leV ((s.data.toList.take k).drop (p + 1)) < 72057594037927936 := by
          have := leV_lt ((s.data.toList.take k).drop (p + 1))
          have hlen : ((s.data.toList.take k).drop (p + 1)).length ≤ 7 := by rw [List.length_drop, lenTake s k (by omega)]; omega
          have h2 : 2 ^ (8 * ((s.data.toList.take k).drop (p + 1)).length) ≤ 2 ^ 56 := Nat.pow_le_pow_right (by decide) (by omega)
          omega
        have J := join8 (leV ((s.data.toList.take k).drop (p + 1))) s[p] hx
        have J2 : leV ((s.data.toList.take k).drop p) = s[p].toNat + 256 * leV ((s.data.toList.take k).drop (p + 1)) := by
          rw [drop_take_cons s k p (by omega) (by omega)]; rfl
        rw [← J2] at J
        have HJ : Hid _ := J
        clear J J2 hx
        go_wp2
        go_round
        case rel => exact ⟨p, by omega, by go_num, by rw [HJ.out]⟩
        case measure => simp [intOf] <;> omega
theorem specGetLe_all (s : ByteArray) (k : Int) (w : World) (hs : s.size ≤ maxLen) : Calls Tryz.prog 49 #[.string s, .int .i64 k] w fun e w' => e = .returned (pairV (getLe s.data.toList k)) ∧ w' = w := by
  by_cases hk : 1 ≤ k ∧ k ≤ 8
  · obtain ⟨q, rfl⟩ := Int.eq_ofNat_of_zero_le (show 0 ≤ k by omega)
    rw [getLe_in s q (by omega) (by omega)]
    exact specGetLe_any s q w (by omega) (by omega) hs
  · have hd : decide ((1 : Int) ≤ k ∧ k ≤ 8) = false := by simpa using hk
    rw [getLe_out _ _ hk]
    clear hk
    go_enter Tryz.func49, Tryz.ntmps49
    go_wp2_with (go_at_call 74; refine (l1In_any k 1 8 _).mono ?_; rintro e w' ⟨rfl, rfl⟩; rw [hd])
    go_ret2
    exact ⟨rfl, rfl⟩
def getBe (l : List UInt8) (k : Int) : Nat × Bool := if 1 ≤ k ∧ k ≤ 8 ∧ k ≤ l.length then (leV (l.take k.toNat).reverse, true) else (0, false)
theorem getBe_in (s : ByteArray) (k : Nat) (h1 : 1 ≤ k) (h2 : k ≤ 8) : pairV (getBe s.data.toList k) = .tuple #[.int .u64 (if s.size < k then 0 else leV (s.data.toList.take k).reverse : Nat), .bool (decide (k ≤ s.size))] := by
  have hl : s.data.toList.length = s.size := Array.length_toList
  unfold getBe pairV
  by_cases h : k ≤ s.size
  · rw [if_pos (by rw [hl]; omega), if_neg (by omega), decide_eq_true h, Int.toNat_natCast]
  · rw [if_neg (by rw [hl]; omega), if_pos (by omega), decide_eq_false h]
theorem getBe_out (l : List UInt8) (k : Int) (h : ¬ (1 ≤ k ∧ k ≤ 8)) : pairV (getBe l k) = .tuple #[.int .u64 0, .bool false] := by
  unfold getBe pairV
  rw [if_neg (by omega)]
  rfl
end Go.Proofs.YtepffjfgomhepaaGreatDoor
