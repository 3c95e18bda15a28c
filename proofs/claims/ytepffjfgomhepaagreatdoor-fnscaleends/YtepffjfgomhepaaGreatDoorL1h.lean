/- SCALE's numbers read: contracts. -/
import Derived.Test.YtepffjfgomhepaaGreatDoorL1g
namespace Go.Proofs.YtepffjfgomhepaaGreatDoor
open Go.RowKit
set_option linter.unusedVariables false
/-- A number that shares its k bytes with two bits: at least so much. -/
def cw (l : List UInt8) (k least : Nat) : Nat × Nat × Bool := if k ≤ l.length ∧ least ≤ leV (l.take k) / 4 then (leV (l.take k) / 4, k, true) else (0, 0, false)
/-- A longer one, in k bytes behind the first. -/
def cl (r : List UInt8) (k : Nat) : Nat × Nat × Bool := if k ≤ 8 ∧ k ≤ r.length ∧ 1073741824 ≤ leV (r.take k) ∧ by8 (leV (r.take k)) = k then (leV (r.take k), 1 + k, true) else (0, 0, false)
def getCompact : List UInt8 → Nat × Nat × Bool
  | [] => (0, 0, false)
  | b :: r => if b.toNat % 4 = 0 then cw (b :: r) 1 0 else if b.toNat % 4 = 1 then cw (b :: r) 2 64 else if b.toNat % 4 = 2 then cw (b :: r) 4 16384 else cl r (b.toNat / 4 + 4)
theorem and3 (b : UInt8) : bits BinOp.and IntKind.u8 (b.toNat : Int) 3 = ((b.toNat % 4 : Nat) : Int) := by
  have hb := b.toNat_lt
  have h := u8_and_nat b.toNat 3 (by omega) (by decide)
  rw [show ((3 : Nat) : Int) = 3 from rfl] at h
  rw [h, show b.toNat &&& 3 = b.toNat % 4 from Nat.and_two_pow_sub_one_eq_mod b.toNat 2]
theorem listLen (s : ByteArray) : s.data.toList.length = s.size := Array.length_toList
set_option maxRecDepth 100000 in
set_option maxHeartbeats 400000 in
theorem compactWhole_u32_any (s : ByteArray) (least : Nat) (w : World) (hs : s.size ≤ 1048576) : Calls Tryz.prog 63 #[.string s, .int .u32 least] w fun e w' => e = .returned (tripV (cw s.data.toList 4 least)) ∧ w' = w := by
  have C := fun w => readWhole_u32_any s w (by unfold maxLen; omega)
  have hll := listLen s
  by_cases hk : 4 ≤ s.size
  · rw [if_neg (by omega), decide_eq_true hk] at C
    have hv := leV_lt_k s 4 hk
    have HC : Hid _ := C
    by_cases hle : least ≤ leV (s.data.toList.take 4) / 4
    · have e : cw s.data.toList 4 least = (leV (s.data.toList.take 4) / 4, 4, true) := by unfold cw; rw [if_pos ⟨by omega, hle⟩]
      rw [e]
      have hlt : decide (((leV (s.data.toList.take 4) : Nat) : Int) / 4 < (least : Int)) = false := decide_eq_false (by omega)
      have hv' : ((leV (s.data.toList.take 4) : Nat) : Int) ≤ 4294967295 := by omega
      clear C e hle hv hll
      generalize leV (s.data.toList.take 4) = v at *
      go_enter Tryz.func63, Tryz.ntmps63
      go_wp2_with (first | (go_at_call 94; refine (HC.out _).mono ?_; rintro e w' ⟨rfl, rfl⟩) | (go_at_call 90; refine (widthOf_u32_any _).mono ?_; rintro e w' ⟨rfl, rfl⟩))
      go_ret3
      exact ⟨by simp [tripV], rfl⟩
    · have e : cw s.data.toList 4 least = (0, 0, false) := by unfold cw; rw [if_neg (fun h => hle h.2)]
      rw [e]
      have hlt : decide (((leV (s.data.toList.take 4) : Nat) : Int) / 4 < (least : Int)) = true := decide_eq_true (by omega)
      clear C e hle hv hll
      generalize leV (s.data.toList.take 4) = v at *
      go_enter Tryz.func63, Tryz.ntmps63
      go_wp2_with (go_at_call 94; refine (HC.out _).mono ?_; rintro e w' ⟨rfl, rfl⟩)
      go_ret3
      exact ⟨rfl, rfl⟩
  · rw [if_pos (by omega), decide_eq_false hk] at C
    have HC : Hid _ := C
    have e : cw s.data.toList 4 least = (0, 0, false) := by unfold cw; rw [if_neg (fun h => hk (by have := h.1; omega))]
    rw [e]
    clear C e hll
    go_enter Tryz.func63, Tryz.ntmps63
    go_wp2_with (go_at_call 94; refine (HC.out _).mono ?_; rintro e w' ⟨rfl, rfl⟩)
    go_ret3
    exact ⟨rfl, rfl⟩
set_option maxRecDepth 100000 in
set_option maxHeartbeats 400000 in
theorem compactWhole_u16_any (s : ByteArray) (least : Nat) (w : World) (hs : s.size ≤ 1048576) : Calls Tryz.prog 62 #[.string s, .int .u16 least] w fun e w' => e = .returned (tripV (cw s.data.toList 2 least)) ∧ w' = w := by
  have C := fun w => readWhole_u16_any s w (by unfold maxLen; omega)
  have hll := listLen s
  by_cases hk : 2 ≤ s.size
  · rw [if_neg (by omega), decide_eq_true hk] at C
    have hv := leV_lt_k s 2 hk
    have HC : Hid _ := C
    by_cases hle : least ≤ leV (s.data.toList.take 2) / 4
    · have e : cw s.data.toList 2 least = (leV (s.data.toList.take 2) / 4, 2, true) := by unfold cw; rw [if_pos ⟨by omega, hle⟩]
      rw [e]
      have hlt : decide (((leV (s.data.toList.take 2) : Nat) : Int) / 4 < (least : Int)) = false := decide_eq_false (by omega)
      have hv' : ((leV (s.data.toList.take 2) : Nat) : Int) ≤ 4294967295 := by omega
      clear C e hle hv hll
      generalize leV (s.data.toList.take 2) = v at *
      go_enter Tryz.func62, Tryz.ntmps62
      go_wp2_with (first | (go_at_call 93; refine (HC.out _).mono ?_; rintro e w' ⟨rfl, rfl⟩) | (go_at_call 88; refine (widthOf_u16_any _).mono ?_; rintro e w' ⟨rfl, rfl⟩))
      go_ret3
      exact ⟨by simp [tripV], rfl⟩
    · have e : cw s.data.toList 2 least = (0, 0, false) := by unfold cw; rw [if_neg (fun h => hle h.2)]
      rw [e]
      have hlt : decide (((leV (s.data.toList.take 2) : Nat) : Int) / 4 < (least : Int)) = true := decide_eq_true (by omega)
      clear C e hle hv hll
      generalize leV (s.data.toList.take 2) = v at *
      go_enter Tryz.func62, Tryz.ntmps62
      go_wp2_with (go_at_call 93; refine (HC.out _).mono ?_; rintro e w' ⟨rfl, rfl⟩)
      go_ret3
      exact ⟨rfl, rfl⟩
  · rw [if_pos (by omega), decide_eq_false hk] at C
    have HC : Hid _ := C
    have e : cw s.data.toList 2 least = (0, 0, false) := by unfold cw; rw [if_neg (fun h => hk (by have := h.1; omega))]
    rw [e]
    clear C e hll
    go_enter Tryz.func62, Tryz.ntmps62
    go_wp2_with (go_at_call 93; refine (HC.out _).mono ?_; rintro e w' ⟨rfl, rfl⟩)
    go_ret3
    exact ⟨rfl, rfl⟩
set_option maxRecDepth 100000 in
set_option maxHeartbeats 400000 in
theorem compactWhole_u8_any (s : ByteArray) (least : Nat) (w : World) (hs : s.size ≤ 1048576) : Calls Tryz.prog 61 #[.string s, .int .u8 least] w fun e w' => e = .returned (tripV (cw s.data.toList 1 least)) ∧ w' = w := by
  have C := fun w => readWhole_u8_any s w (by unfold maxLen; omega)
  have hll := listLen s
  by_cases hk : 1 ≤ s.size
  · rw [if_neg (by omega), decide_eq_true hk] at C
    have hv := leV_lt_k s 1 hk
    have HC : Hid _ := C
    by_cases hle : least ≤ leV (s.data.toList.take 1) / 4
    · have e : cw s.data.toList 1 least = (leV (s.data.toList.take 1) / 4, 1, true) := by unfold cw; rw [if_pos ⟨by omega, hle⟩]
      rw [e]
      have hlt : decide (((leV (s.data.toList.take 1) : Nat) : Int) / 4 < (least : Int)) = false := decide_eq_false (by omega)
      have hv' : ((leV (s.data.toList.take 1) : Nat) : Int) ≤ 4294967295 := by omega
      clear C e hle hv hll
      generalize leV (s.data.toList.take 1) = v at *
      go_enter Tryz.func61, Tryz.ntmps61
      go_wp2_with (first | (go_at_call 92; refine (HC.out _).mono ?_; rintro e w' ⟨rfl, rfl⟩) | (go_at_call 86; refine (widthOf_u8_any _).mono ?_; rintro e w' ⟨rfl, rfl⟩))
      go_ret3
      exact ⟨by simp [tripV], rfl⟩
    · have e : cw s.data.toList 1 least = (0, 0, false) := by unfold cw; rw [if_neg (fun h => hle h.2)]
      rw [e]
      have hlt : decide (((leV (s.data.toList.take 1) : Nat) : Int) / 4 < (least : Int)) = true := decide_eq_true (by omega)
      clear C e hle hv hll
      generalize leV (s.data.toList.take 1) = v at *
      go_enter Tryz.func61, Tryz.ntmps61
      go_wp2_with (go_at_call 92; refine (HC.out _).mono ?_; rintro e w' ⟨rfl, rfl⟩)
      go_ret3
      exact ⟨rfl, rfl⟩
  · rw [if_pos (by omega), decide_eq_false hk] at C
    have HC : Hid _ := C
    have e : cw s.data.toList 1 least = (0, 0, false) := by unfold cw; rw [if_neg (fun h => hk (by have := h.1; omega))]
    rw [e]
    clear C e hll
    go_enter Tryz.func61, Tryz.ntmps61
    go_wp2_with (go_at_call 92; refine (HC.out _).mono ?_; rintro e w' ⟨rfl, rfl⟩)
    go_ret3
    exact ⟨rfl, rfl⟩
theorem wide4 (b : UInt8) : wrap64 (wrap64 ((b.toNat : Int) / 4) + 4) = ((b.toNat / 4 + 4 : Nat) : Int) := by
  have hb := b.toNat_lt
  simp only [wrap64]
  omega
set_option maxRecDepth 100000 in
set_option maxHeartbeats 400000 in
theorem compactLong_any (s : ByteArray) (w : World) (hs : s.size ≤ 1048576) (h0 : 0 < s.size) : Calls Tryz.prog 64 #[.string s] w fun e w' => e = .returned (tripV (cl s.data.toList.tail (s[0].toNat / 4 + 4))) ∧ w' = w := by
  have hw4 := wide4 s[0]
  have hb256 := s[0].toNat_lt
  have hk4 : 4 ≤ s[0].toNat / 4 + 4 := by omega
  have hk99 : s[0].toNat / 4 + 4 ≤ 99 := by omega
  have hi1 : (1 : Int) ≤ (s.size : Int) := by omega
  clear hb256
  generalize s[0].toNat / 4 + 4 = k at *
  have HI : Hid _ := fun w => isWidth_any k w
  by_cases h8 : k ≤ 8
  · have hd : decide ((1 : Int) ≤ (k : Int) ∧ (k : Int) ≤ 8) = true := decide_eq_true (by omega)
    rw [hd] at HI
    have C := fun w => readLow_u64_any (s.extract 1 s.size) k w h8 (by rw [tail_size]; unfold maxLen; omega)
    have hts := tail_size s
    have htl : s.data.toList.tail.length = s.size - 1 := by rw [List.length_tail, Array.length_toList]; rfl
    by_cases hk : k ≤ s.size - 1
    · rw [hts, if_neg (by omega), decide_eq_true hk, tail_data] at C
      have hv : leV (s.data.toList.tail.take k) < 18446744073709551616 := Nat.lt_of_lt_of_le (leV_take_lt _ _ (by omega)) (Nat.le_trans (Nat.pow_le_pow_right (by decide) (show 8 * k ≤ 64 by omega)) (by decide))
      have HC : Hid _ := C
      have HB : Hid _ := fun w => bytesOf_u64_any (leV (s.data.toList.tail.take k)) w hv
      by_cases h30 : 1073741824 ≤ leV (s.data.toList.tail.take k)
      · have i30 : decide (((leV (s.data.toList.tail.take k) : Nat) : Int) < 1073741824) = false := decide_eq_false (by omega)
        have hb8 := by8_8 _ hv
        by_cases hbk : by8 (leV (s.data.toList.tail.take k)) = k
        · have e : cl s.data.toList.tail k = (leV (s.data.toList.tail.take k), 1 + k, true) := by unfold cl; rw [if_pos ⟨h8, by omega, h30, hbk⟩]
          rw [e]
          rw [hbk] at HB
          clear C e h30 hv hts htl hbk hb8 hd
          generalize leV (s.data.toList.tail.take k) = v at *
          go_enter Tryz.func64, Tryz.ntmps64
          go_wp2_with (first | (go_at_call 95; refine (HI.out _).mono ?_; rintro e w' ⟨rfl, rfl⟩) | (go_at_call 96; refine (HC.out _).mono ?_; rintro e w' ⟨rfl, rfl⟩) | (go_at_call 59; refine (HB.out _).mono ?_; rintro e w' ⟨rfl, rfl⟩))
          go_ret3
          exact ⟨by simp [tripV], rfl⟩
        · have e : cl s.data.toList.tail k = (0, 0, false) := by unfold cl; rw [if_neg (fun h => hbk h.2.2.2)]
          rw [e]
          have hne : ((by8 (leV (s.data.toList.tail.take k)) : Int) != (k : Int)) = true := by rw [bne_iff_ne]; omega
          clear C e h30 hv hts htl hbk hb8 hd
          generalize by8 (leV (s.data.toList.tail.take k)) = m at *
          generalize leV (s.data.toList.tail.take k) = v at *
          go_enter Tryz.func64, Tryz.ntmps64
          go_wp2_with (first | (go_at_call 95; refine (HI.out _).mono ?_; rintro e w' ⟨rfl, rfl⟩) | (go_at_call 96; refine (HC.out _).mono ?_; rintro e w' ⟨rfl, rfl⟩) | (go_at_call 59; refine (HB.out _).mono ?_; rintro e w' ⟨rfl, rfl⟩))
          go_ret3
          exact ⟨rfl, rfl⟩
      · have i30 : decide (((leV (s.data.toList.tail.take k) : Nat) : Int) < 1073741824) = true := decide_eq_true (by omega)
        have e : cl s.data.toList.tail k = (0, 0, false) := by unfold cl; rw [if_neg (fun h => h30 h.2.2.1)]
        rw [e]
        clear C e h30 hv hts htl hd HB
        generalize leV (s.data.toList.tail.take k) = v at *
        go_enter Tryz.func64, Tryz.ntmps64
        go_wp2_with (first | (go_at_call 95; refine (HI.out _).mono ?_; rintro e w' ⟨rfl, rfl⟩) | (go_at_call 96; refine (HC.out _).mono ?_; rintro e w' ⟨rfl, rfl⟩))
        go_ret3
        exact ⟨rfl, rfl⟩
    · rw [hts, if_pos (by omega), decide_eq_false hk] at C
      have HC : Hid _ := C
      have e : cl s.data.toList.tail k = (0, 0, false) := by unfold cl; rw [if_neg (fun h => hk (by have := h.2.1; omega))]
      rw [e]
      clear C e hts htl hd
      go_enter Tryz.func64, Tryz.ntmps64
      go_wp2_with (first | (go_at_call 95; refine (HI.out _).mono ?_; rintro e w' ⟨rfl, rfl⟩) | (go_at_call 96; refine (HC.out _).mono ?_; rintro e w' ⟨rfl, rfl⟩))
      go_ret3
      exact ⟨rfl, rfl⟩
  · have hd : decide ((1 : Int) ≤ (k : Int) ∧ (k : Int) ≤ 8) = false := decide_eq_false (by omega)
    rw [hd] at HI
    have e : cl s.data.toList.tail k = (0, 0, false) := by unfold cl; rw [if_neg (fun h => h8 h.1)]
    rw [e]
    clear e hd
    go_enter Tryz.func64, Tryz.ntmps64
    go_wp2_with (go_at_call 95; refine (HI.out _).mono ?_; rintro e w' ⟨rfl, rfl⟩)
    go_ret3
    exact ⟨rfl, rfl⟩
set_option maxRecDepth 100000 in
set_option maxHeartbeats 400000 in
theorem implGetCompact_any (s : ByteArray) (w : World) (hs : s.size ≤ 1048576) : Calls Tryz.prog 36 #[.string s] w fun e w' => e = .returned (tripV (getCompact s.data.toList)) ∧ w' = w := by
  by_cases h0 : 0 < s.size
  · have hne := isEmpty_no s h0
    have ha := and3 s[0]
    have hc : getCompact s.data.toList = if s[0].toNat % 4 = 0 then cw s.data.toList 1 0 else if s[0].toNat % 4 = 1 then cw s.data.toList 2 64 else if s[0].toNat % 4 = 2 then cw s.data.toList 4 16384 else cl s.data.toList.tail (s[0].toNat / 4 + 4) := by
      rw [data_cons s h0]; rfl
    rw [hc]
    clear hc
    have hm : s[0].toNat % 4 < 4 := Nat.mod_lt _ (by decide)
    by_cases m0 : s[0].toNat % 4 = 0
    · rw [if_pos m0]
      rw [m0] at ha
      have C := fun w => compactWhole_u8_any s 0 w hs
      rw [show ((0 : Nat) : Int) = 0 from rfl] at C ha
      have HC : Hid _ := C
      clear C m0 hm
      generalize cw s.data.toList 1 0 = g at *
      go_enter Tryz.func36, Tryz.ntmps36
      go_wp2_with (go_at_call 61; refine (HC.out _).mono ?_; rintro e w' ⟨rfl, rfl⟩; rw [tripV])
      go_ret3
      exact ⟨rfl, rfl⟩
    · rw [if_neg m0]
      by_cases m1 : s[0].toNat % 4 = 1
      · rw [if_pos m1]
        rw [m1] at ha
        have C := fun w => compactWhole_u16_any s 64 w hs
        rw [show ((64 : Nat) : Int) = 64 from rfl] at C
        rw [show ((1 : Nat) : Int) = 1 from rfl] at ha
        have HC : Hid _ := C
        clear C m0 m1 hm
        generalize cw s.data.toList 2 64 = g at *
        go_enter Tryz.func36, Tryz.ntmps36
        go_wp2_with (go_at_call 62; refine (HC.out _).mono ?_; rintro e w' ⟨rfl, rfl⟩; rw [tripV])
        go_ret3
        exact ⟨rfl, rfl⟩
      · rw [if_neg m1]
        by_cases m2 : s[0].toNat % 4 = 2
        · rw [if_pos m2]
          rw [m2] at ha
          have C := fun w => compactWhole_u32_any s 16384 w hs
          rw [show ((16384 : Nat) : Int) = 16384 from rfl] at C
          rw [show ((2 : Nat) : Int) = 2 from rfl] at ha
          have HC : Hid _ := C
          clear C m0 m1 m2 hm
          generalize cw s.data.toList 4 16384 = g at *
          go_enter Tryz.func36, Tryz.ntmps36
          go_wp2_with (go_at_call 63; refine (HC.out _).mono ?_; rintro e w' ⟨rfl, rfl⟩; rw [tripV])
          go_ret3
          exact ⟨rfl, rfl⟩
        · rw [if_neg m2]
          have m3 : s[0].toNat % 4 = 3 := by omega
          rw [m3, show ((3 : Nat) : Int) = 3 from rfl] at ha
          have HC : Hid _ := fun w => compactLong_any s w hs h0
          clear m0 m1 m2 m3 hm
          generalize cl s.data.toList.tail (s[0].toNat / 4 + 4) = g at *
          go_enter Tryz.func36, Tryz.ntmps36
          go_wp2_with (go_at_call 64; refine (HC.out _).mono ?_; rintro e w' ⟨rfl, rfl⟩; rw [tripV])
          go_ret3
          exact ⟨rfl, rfl⟩
  · have hne := isEmpty_yes s h0
    rw [data_nil s h0]
    go_enter Tryz.func36, Tryz.ntmps36
    go_wp2
    go_ret3
    exact ⟨rfl, rfl⟩
end Go.Proofs.YtepffjfgomhepaaGreatDoor
