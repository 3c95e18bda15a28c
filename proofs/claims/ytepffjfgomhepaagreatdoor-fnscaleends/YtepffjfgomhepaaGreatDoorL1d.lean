/- Numbers in whole widths; Bitcoin's and SCALE's numbers, RLP's heads, written: contracts. -/
import Derived.Test.YtepffjfgomhepaaGreatDoorL1c
namespace Go.Proofs.YtepffjfgomhepaaGreatDoor
open Go.RowKit
set_option linter.unusedVariables false
theorem widthOf_u32_any (w : World) : Calls Tryz.prog 90 #[] w fun e w' => e = .returned (.int .i64 4) ∧ w' = w := by
  have hb : by8 4294967295 = 4 := by decide
  have hx : bits BinOp.xor IntKind.u32 IntKind.u32.max 0 = 4294967295 := by decide
  have hc := fun w => bytesOf_u32_any 4294967295 w (by decide)
  rw [hb, show ((4294967295 : Nat) : Int) = 4294967295 from rfl, show ((4 : Nat) : Int) = 4 from rfl, ← hx] at hc
  have HC : Hid _ := hc
  clear hb hx hc
  go_enter Tryz.func90, Tryz.ntmps90
  go_wp2_with (go_at_call 103; refine (HC.out _).mono ?_; rintro e w' ⟨rfl, rfl⟩)
  go_ret
  exact ⟨rfl, rfl⟩
theorem whole_u32_any (n : Nat) (w : World) (hn : n < 4294967296) : Calls Tryz.prog 58 #[.int .u32 n] w fun e w' => e = .returned (.string ⟨(leL n 4).toArray⟩) ∧ Below w.heap.size w w' := by
  have hc := fun w => lowFirst_u32_any n 4 w hn (by decide)
  rw [show ((4 : Nat) : Int) = 4 from rfl] at hc
  have HC : Hid _ := hc
  clear hc
  go_enter Tryz.func58, Tryz.ntmps58
  go_wp2_with (first | (go_at_call 90; refine (widthOf_u32_any _).mono ?_; rintro e w' ⟨rfl, rfl⟩) | (go_at_call 89; refine (HC.out _).mono ?_; rintro e w' ⟨rfl, hb⟩))
  go_ret
  exact ⟨rfl, by assumption⟩
theorem widthOf_u16_any (w : World) : Calls Tryz.prog 88 #[] w fun e w' => e = .returned (.int .i64 2) ∧ w' = w := by
  have hb : by8 65535 = 2 := by decide
  have hx : bits BinOp.xor IntKind.u16 IntKind.u16.max 0 = 65535 := by decide
  have hc := fun w => bytesOf_u16_any 65535 w (by decide)
  rw [hb, show ((65535 : Nat) : Int) = 65535 from rfl, show ((2 : Nat) : Int) = 2 from rfl, ← hx] at hc
  have HC : Hid _ := hc
  clear hb hx hc
  go_enter Tryz.func88, Tryz.ntmps88
  go_wp2_with (go_at_call 102; refine (HC.out _).mono ?_; rintro e w' ⟨rfl, rfl⟩)
  go_ret
  exact ⟨rfl, rfl⟩
theorem whole_u16_any (n : Nat) (w : World) (hn : n < 65536) : Calls Tryz.prog 57 #[.int .u16 n] w fun e w' => e = .returned (.string ⟨(leL n 2).toArray⟩) ∧ Below w.heap.size w w' := by
  have hc := fun w => lowFirst_u16_any n 2 w hn (by decide)
  rw [show ((2 : Nat) : Int) = 2 from rfl] at hc
  have HC : Hid _ := hc
  clear hc
  go_enter Tryz.func57, Tryz.ntmps57
  go_wp2_with (first | (go_at_call 88; refine (widthOf_u16_any _).mono ?_; rintro e w' ⟨rfl, rfl⟩) | (go_at_call 87; refine (HC.out _).mono ?_; rintro e w' ⟨rfl, hb⟩))
  go_ret
  exact ⟨rfl, by assumption⟩
theorem widthOf_u8_any (w : World) : Calls Tryz.prog 86 #[] w fun e w' => e = .returned (.int .i64 1) ∧ w' = w := by
  have hb : by8 255 = 1 := by decide
  have hx : bits BinOp.xor IntKind.u8 IntKind.u8.max 0 = 255 := by decide
  have hc := fun w => bytesOf_u8_any 255 w (by decide)
  rw [hb, show ((255 : Nat) : Int) = 255 from rfl, show ((1 : Nat) : Int) = 1 from rfl, ← hx] at hc
  have HC : Hid _ := hc
  clear hb hx hc
  go_enter Tryz.func86, Tryz.ntmps86
  go_wp2_with (go_at_call 101; refine (HC.out _).mono ?_; rintro e w' ⟨rfl, rfl⟩)
  go_ret
  exact ⟨rfl, rfl⟩
theorem whole_u8_any (n : Nat) (w : World) (hn : n < 256) : Calls Tryz.prog 56 #[.int .u8 n] w fun e w' => e = .returned (.string ⟨(leL n 1).toArray⟩) ∧ Below w.heap.size w w' := by
  have hc := fun w => lowFirst_u8_any n 1 w hn (by decide)
  rw [show ((1 : Nat) : Int) = 1 from rfl] at hc
  have HC : Hid _ := hc
  clear hc
  go_enter Tryz.func56, Tryz.ntmps56
  go_wp2_with (first | (go_at_call 86; refine (widthOf_u8_any _).mono ?_; rintro e w' ⟨rfl, rfl⟩) | (go_at_call 85; refine (HC.out _).mono ?_; rintro e w' ⟨rfl, hb⟩))
  go_ret
  exact ⟨rfl, by assumption⟩
theorem by8_zero : by8 0 = 0 := by decide
theorem by8_div (m : Nat) (h : 0 < m) : by8 m = 1 + by8 (m / 256) := by
  unfold by8
  by_cases h2 : 256 ≤ m
  · have := bl_div m 8 (by omega)
    rw [show (2 : Nat) ^ 8 = 256 from rfl] at this
    omega
  · have e : m / 256 = 0 := by omega
    have h8 := bl_8 m (by omega)
    have h0 : ¬ bl m ≤ 0 := by rw [bl_le]; omega
    have hz : bl 0 = 0 := rfl
    rw [e, hz]; omega
theorem by8_8 (n : Nat) (h : n < 18446744073709551616) : by8 n ≤ 8 := (by8_le n 8).2 h
theorem l1Need_any (n : Nat) (w : World) (hn : n < 18446744073709551616) : Calls Tryz.prog 97 #[.int .u64 n] w fun e w' => e = .returned (.int .i64 (by8 n)) ∧ w' = w := by
  have h8 := by8_8 n hn
  go_enter Tryz.func97, Tryz.ntmps97
  go_wp2
  go_loop [3, 0] (fun v x => ∃ j m : Nat, v = .int .i64 j ∧ x = .int .u64 m ∧ m ≤ n ∧ j ≤ 8 ∧ Hid (by8 n = j + by8 m)) (fun _ x => (intOf x).toNat)
  case atStart => exact ⟨0, n, rfl, rfl, Nat.le_refl _, by omega, (Nat.zero_add _).symm⟩
  case round =>
    obtain ⟨j, m, rfl, rfl, hm, hj, hr⟩ := hrel
    by_cases hp : 0 < m
    · have h2 : Hid (by8 n = (j + 1) + by8 (m / 256)) := by have h1 := by8_div m hp; have h3 := hr.out; show _ = _; omega
      have h3 : j + 1 ≤ 8 := by have := h2.out; omega
      clear hr
      go_wp2
      go_round
      case rel => exact ⟨j + 1, m / 256, by go_num, by go_num, by omega, h3, h2⟩
      case measure => simp [intOf]; omega
    · have e : m = 0 := by omega
      subst e
      have h1 : Hid (by8 n = j) := by have := hr.out; rw [by8_zero] at this; show _ = _; omega
      clear hr h8
      go_wp2
      go_ret
      exact ⟨by rw [h1.out]; rfl, rfl⟩
theorem cat_cons (b : UInt8) (l : List UInt8) : (⟨#[b]⟩ : ByteArray) ++ (⟨l.toArray⟩ : ByteArray) = ⟨(b :: l).toArray⟩ := by
  apply ByteArray.ext
  simp
theorem cat_list (a l : List UInt8) : (⟨a.toArray⟩ : ByteArray) ++ (⟨l.toArray⟩ : ByteArray) = ⟨(a ++ l).toArray⟩ := by
  apply ByteArray.ext
  simp
/-- Bitcoin's CompactSize. -/
def putSize (n : Nat) : List UInt8 := if n < 253 then leL n 1 else if n < 65536 then 253 :: leL n 2 else if n < 4294967296 then 254 :: leL n 4 else 255 :: leL n 8
theorem leL_253 : leL 253 1 = [253] := by decide
theorem leL_254 : leL 254 1 = [254] := by decide
theorem leL_255 : leL 255 1 = [255] := by decide
set_option maxRecDepth 100000 in
set_option maxHeartbeats 400000 in
theorem specPutSize_2 (n : Nat) (w : World) (hn : n < 18446744073709551616) (i1 : decide ((n : Int) < 253) = false) (i2 : decide ((n : Int) < 65536) = true) (i3 : decide ((n : Int) < 4294967296) = true) : Calls Tryz.prog 65 #[.int .u64 n] w fun e w' => e = .returned (.string ⟨(253 :: leL n 2).toArray⟩) ∧ Below w.heap.size w w' := by
  have C := fun w => l1Le_any n 2 w hn (by decide)
  rw [show ((2 : Nat) : Int) = 2 from rfl] at C
  have HC : Hid _ := C
  have hl := leL_len n 2
  clear hn C
  generalize leL n 2 = l at *
  go_enter Tryz.func65, Tryz.ntmps65
  go_wp2_with (go_at_call 38; refine (HC.out _).mono ?_; rintro e w' ⟨rfl, hb⟩)
  go_ret
  exact ⟨by rw [← cat_cons]; rfl, by assumption⟩
set_option maxRecDepth 100000 in
set_option maxHeartbeats 400000 in
theorem specPutSize_4 (n : Nat) (w : World) (hn : n < 18446744073709551616) (i1 : decide ((n : Int) < 253) = false) (i2 : decide ((n : Int) < 65536) = false) (i3 : decide ((n : Int) < 4294967296) = true) : Calls Tryz.prog 65 #[.int .u64 n] w fun e w' => e = .returned (.string ⟨(254 :: leL n 4).toArray⟩) ∧ Below w.heap.size w w' := by
  have C := fun w => l1Le_any n 4 w hn (by decide)
  rw [show ((4 : Nat) : Int) = 4 from rfl] at C
  have HC : Hid _ := C
  have hl := leL_len n 4
  clear hn C
  generalize leL n 4 = l at *
  go_enter Tryz.func65, Tryz.ntmps65
  go_wp2_with (go_at_call 38; refine (HC.out _).mono ?_; rintro e w' ⟨rfl, hb⟩)
  go_ret
  exact ⟨by rw [← cat_cons]; rfl, by assumption⟩
set_option maxRecDepth 100000 in
set_option maxHeartbeats 400000 in
theorem specPutSize_8 (n : Nat) (w : World) (hn : n < 18446744073709551616) (i1 : decide ((n : Int) < 253) = false) (i2 : decide ((n : Int) < 65536) = false) (i3 : decide ((n : Int) < 4294967296) = false) : Calls Tryz.prog 65 #[.int .u64 n] w fun e w' => e = .returned (.string ⟨(255 :: leL n 8).toArray⟩) ∧ Below w.heap.size w w' := by
  have C := fun w => l1Le_any n 8 w hn (by decide)
  rw [show ((8 : Nat) : Int) = 8 from rfl] at C
  have HC : Hid _ := C
  have hl := leL_len n 8
  clear hn C
  generalize leL n 8 = l at *
  go_enter Tryz.func65, Tryz.ntmps65
  go_wp2_with (go_at_call 38; refine (HC.out _).mono ?_; rintro e w' ⟨rfl, hb⟩)
  go_ret
  exact ⟨by rw [← cat_cons]; rfl, by assumption⟩
set_option maxRecDepth 100000 in
set_option maxHeartbeats 400000 in
theorem specPutSize_1 (n : Nat) (w : World) (hn : n < 18446744073709551616) (i1 : decide ((n : Int) < 253) = true) : Calls Tryz.prog 65 #[.int .u64 n] w fun e w' => e = .returned (.string ⟨(leL n 1).toArray⟩) ∧ Below w.heap.size w w' := by
  have C := fun w => l1Le_any n 1 w hn (by decide)
  rw [show ((1 : Nat) : Int) = 1 from rfl] at C
  have HC : Hid _ := C
  clear hn C
  generalize leL n 1 = l at *
  go_enter Tryz.func65, Tryz.ntmps65
  go_wp2_with (go_at_call 38; refine (HC.out _).mono ?_; rintro e w' ⟨rfl, hb⟩)
  go_ret
  exact ⟨rfl, by assumption⟩
theorem specPutSize_any (n : Nat) (w : World) (hn : n < 18446744073709551616) : Calls Tryz.prog 65 #[.int .u64 n] w fun e w' => e = .returned (.string ⟨(putSize n).toArray⟩) ∧ Below w.heap.size w w' := by
  unfold putSize
  by_cases h1 : n < 253
  · rw [if_pos h1]; exact specPutSize_1 n w hn (decide_eq_true (by omega))
  · rw [if_neg h1]
    by_cases h2 : n < 65536
    · rw [if_pos h2]; exact specPutSize_2 n w hn (decide_eq_false (by omega)) (decide_eq_true (by omega)) (decide_eq_true (by omega))
    · rw [if_neg h2]
      by_cases h3 : n < 4294967296
      · rw [if_pos h3]; exact specPutSize_4 n w hn (decide_eq_false (by omega)) (decide_eq_false (by omega)) (decide_eq_true (by omega))
      · rw [if_neg h3]; exact specPutSize_8 n w hn (decide_eq_false (by omega)) (decide_eq_false (by omega)) (decide_eq_false (by omega))
end Go.Proofs.YtepffjfgomhepaaGreatDoor
