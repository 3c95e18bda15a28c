/- Bitcoin's numbers read: contracts. -/
import Derived.Test.YtepffjfgomhepaaGreatDoorL1f
import Derived.Deep.RegionWith
namespace Go.Proofs.YtepffjfgomhepaaGreatDoor
open Go.RowKit
set_option linter.unusedVariables false
/-- Does a list begin with that? -/
def ahead (l t : List UInt8) : Bool := l.take t.length == t
theorem l1Ahead_any (s t : ByteArray) (w : World) (hs : s.size ≤ 1048576) (ht : t.size ≤ 1048576) : Calls Tryz.prog 98 #[.string s, .string t] w fun e w' => e = .returned (.bool (ahead s.data.toList t.data.toList)) ∧ w' = w := by
  have hl : s.data.toList.length = s.size := Array.length_toList
  have hlt : t.data.toList.length = t.size := Array.length_toList
  by_cases h : t.size ≤ s.size
  · have e : ahead s.data.toList t.data.toList = ((s.extract 0 t.size).toList == t.toList) := by
      unfold ahead
      rw [hlt, ByteArray.toList_eq, ByteArray.toList_eq, Lib.extract_data]
      simp
    rw [e]
    clear e hl hlt
    go_enter Tryz.func98, Tryz.ntmps98
    go_wp2
    go_ret
    exact ⟨rfl, rfl⟩
  · have e : ahead s.data.toList t.data.toList = false := by
      unfold ahead
      rw [beq_eq_false_iff_ne]
      intro h1
      have := congrArg List.length h1
      rw [List.length_take, hl, hlt] at this
      omega
    rw [e]
    clear e hl hlt
    go_enter Tryz.func98, Tryz.ntmps98
    go_wp2
    go_ret
    exact ⟨rfl, rfl⟩
theorem l1Ahead_list (s : ByteArray) (l : List UInt8) (w : World) (hs : s.size ≤ 1048576) (ht : l.length ≤ 1000) : Calls Tryz.prog 98 #[.string s, .string ⟨l.toArray⟩] w fun e w' => e = .returned (.bool (ahead s.data.toList l)) ∧ w' = w :=
  l1Ahead_any s ⟨l.toArray⟩ w hs (by simp [ByteArray.size]; omega)
theorem below_step {w W w3 : World} (h1 : Below w.heap.size w W) (h2 : Below W.heap.size W w3) : Below w.heap.size w w3 := h1.trans (h2.mono h1.size)
theorem readWhole_u32_any (s : ByteArray) (w : World) (hs : s.size ≤ maxLen) : Calls Tryz.prog 94 #[.string s] w fun e w' => e = .returned (.tuple #[.int .u32 (if s.size < 4 then 0 else leV (s.data.toList.take 4) : Nat), .bool (decide (4 ≤ s.size))]) ∧ w' = w := by
  have C := fun w => readLow_u32_any s 4 w (by decide) hs
  rw [show ((4 : Nat) : Int) = 4 from rfl] at C
  have HC : Hid _ := C
  clear C hs
  generalize (if s.size < 4 then 0 else leV (s.data.toList.take 4) : Nat) = v at *
  generalize decide (4 ≤ s.size) = b at *
  go_enter Tryz.func94, Tryz.ntmps94
  go_wp2_with (first | (go_at_call 90; refine (widthOf_u32_any _).mono ?_; rintro e w' ⟨rfl, rfl⟩) | (go_at_call 106; refine (HC.out _).mono ?_; rintro e w' ⟨rfl, rfl⟩))
  go_ret2
  exact ⟨rfl, rfl⟩
theorem readWhole_u16_any (s : ByteArray) (w : World) (hs : s.size ≤ maxLen) : Calls Tryz.prog 93 #[.string s] w fun e w' => e = .returned (.tuple #[.int .u16 (if s.size < 2 then 0 else leV (s.data.toList.take 2) : Nat), .bool (decide (2 ≤ s.size))]) ∧ w' = w := by
  have C := fun w => readLow_u16_any s 2 w (by decide) hs
  rw [show ((2 : Nat) : Int) = 2 from rfl] at C
  have HC : Hid _ := C
  clear C hs
  generalize (if s.size < 2 then 0 else leV (s.data.toList.take 2) : Nat) = v at *
  generalize decide (2 ≤ s.size) = b at *
  go_enter Tryz.func93, Tryz.ntmps93
  go_wp2_with (first | (go_at_call 88; refine (widthOf_u16_any _).mono ?_; rintro e w' ⟨rfl, rfl⟩) | (go_at_call 105; refine (HC.out _).mono ?_; rintro e w' ⟨rfl, rfl⟩))
  go_ret2
  exact ⟨rfl, rfl⟩
theorem readWhole_u8_any (s : ByteArray) (w : World) (hs : s.size ≤ maxLen) : Calls Tryz.prog 92 #[.string s] w fun e w' => e = .returned (.tuple #[.int .u8 (if s.size < 1 then 0 else leV (s.data.toList.take 1) : Nat), .bool (decide (1 ≤ s.size))]) ∧ w' = w := by
  have C := fun w => readLow_u8_any s 1 w (by decide) hs
  rw [show ((1 : Nat) : Int) = 1 from rfl] at C
  have HC : Hid _ := C
  clear C hs
  generalize (if s.size < 1 then 0 else leV (s.data.toList.take 1) : Nat) = v at *
  generalize decide (1 ≤ s.size) = b at *
  go_enter Tryz.func92, Tryz.ntmps92
  go_wp2_with (first | (go_at_call 86; refine (widthOf_u8_any _).mono ?_; rintro e w' ⟨rfl, rfl⟩) | (go_at_call 104; refine (HC.out _).mono ?_; rintro e w' ⟨rfl, rfl⟩))
  go_ret2
  exact ⟨rfl, rfl⟩
theorem leV_lt_k (s : ByteArray) (k : Nat) (h : k ≤ s.size) : leV (s.data.toList.take k) < 2 ^ (8 * k) := by
  have := leV_lt (s.data.toList.take k)
  rwa [lenTake s k h] at this
/-- What stands behind the first byte, in k bytes: at least so much. -/
def behind (r : List UInt8) (k least : Nat) : Nat × Nat × Bool := if k ≤ r.length ∧ least ≤ leV (r.take k) then (leV (r.take k), 1 + k, true) else (0, 0, false)
theorem tail_data (s : ByteArray) : (s.extract 1 s.size).data.toList = s.data.toList.tail := by
  rw [Lib.extract_data, List.take_of_length_le (by rw [List.length_drop, Array.length_toList]; exact Nat.le_refl _), List.drop_one]
theorem tail_size (s : ByteArray) : (s.extract 1 s.size).size = s.size - 1 := by
  have : (s.extract 1 s.size).data.toList.length = (s.extract 1 s.size).size := Array.length_toList
  rw [← this, tail_data, List.length_tail, Array.length_toList]; rfl
def getSize : List UInt8 → Nat × Nat × Bool
  | [] => (0, 0, false)
  | b :: r => if b.toNat < 253 then (b.toNat, 1, true) else if b.toNat = 253 then behind r 2 253 else if b.toNat = 254 then behind r 4 65536 else behind r 8 4294967296
theorem data_cons (s : ByteArray) (h : 0 < s.size) : s.data.toList = s[0] :: s.data.toList.tail := by
  have := drop_cons s 0 h
  rw [List.drop_zero, Nat.zero_add, List.drop_one] at this
  exact this
theorem data_nil (s : ByteArray) (h : ¬ 0 < s.size) : s.data.toList = [] := List.eq_nil_of_length_eq_zero (by rw [Array.length_toList]; exact Nat.eq_zero_of_not_pos h)
theorem isEmpty_no (s : ByteArray) (h : 0 < s.size) : s.toList.isEmpty = false := by rw [ByteArray.toList_eq, data_cons s h]; rfl
theorem isEmpty_yes (s : ByteArray) (h : ¬ 0 < s.size) : s.toList.isEmpty = true := by rw [ByteArray.toList_eq, data_nil s h]; rfl
theorem leL_cons (n k : Nat) : leL n (k + 1) = UInt8.ofNat n :: leL (n / 256) k := by
  unfold leL
  rw [List.range_succ_eq_map, List.map_cons, List.map_map]
  congr 1
  · simp [byt]
  · apply List.map_congr_left
    intro i _
    simp only [Function.comp, byt]
    rw [show 8 * (i + 1) = 8 + 8 * i from by omega, Nat.pow_add, ← Nat.div_div_eq_div_mul]
theorem leL_leV : ∀ l : List UInt8, leL (leV l) l.length = l
  | [] => rfl
  | b :: l => by
    have hb := b.toNat_lt
    rw [List.length_cons, leL_cons]
    simp only [leV]
    rw [show (b.toNat + 256 * leV l) / 256 = leV l from by omega, leL_leV l]
    congr 1
    apply UInt8.toNat_inj.1
    rw [UInt8.toNat_ofNat']
    omega
theorem leL_take (l : List UInt8) (k : Nat) (h : k ≤ l.length) : leL (leV (l.take k)) k = l.take k := by
  have := leL_leV (l.take k)
  rwa [List.length_take, Nat.min_eq_left h] at this
theorem leV_take_lt (l : List UInt8) (k : Nat) (h : k ≤ l.length) : leV (l.take k) < 2 ^ (8 * k) := by
  have := leV_lt (l.take k)
  rwa [List.length_take, Nat.min_eq_left h] at this
theorem ahead_ne (b c : UInt8) (l t : List UInt8) (h : b ≠ c) : ahead (b :: l) (c :: t) = false := by
  unfold ahead
  rw [beq_eq_false_iff_ne, List.length_cons, List.take_succ_cons]
  intro h1
  exact h (List.cons.inj h1).1
theorem ahead_yes (b : UInt8) (r : List UInt8) (k : Nat) (h : k ≤ r.length) : ahead (b :: r) (b :: r.take k) = true := by
  unfold ahead
  rw [beq_iff_eq, List.length_cons, List.take_succ_cons, List.length_take, Nat.min_eq_left h]
theorem putSize_len (n : Nat) : (putSize n).length ≤ 9 := by
  unfold putSize
  repeat' split
  all_goals simp [leL_len]
theorem putSize_head (n : Nat) (b : UInt8) (r : List UInt8) (hb : 253 ≤ b.toNat) (hk : (b.toNat = 253 ∧ n < 253) ∨ (b.toNat = 254 ∧ n < 65536) ∨ (b.toNat = 255 ∧ n < 4294967296)) : ahead (b :: r) (putSize n) = false := by
  have hne : ∀ c : UInt8, c.toNat ≠ b.toNat → b ≠ c := fun c hc h => hc (by rw [h])
  unfold putSize
  by_cases h1 : n < 253
  · rw [if_pos h1, leL_cons]
    refine ahead_ne _ _ _ _ (hne _ ?_)
    rw [UInt8.toNat_ofNat']
    omega
  · rw [if_neg h1]
    by_cases h2 : n < 65536
    · rw [if_pos h2]
      refine ahead_ne _ _ _ _ (hne _ ?_)
      show 253 ≠ b.toNat
      omega
    · rw [if_neg h2, if_pos (by omega)]
      refine ahead_ne _ _ _ _ (hne _ ?_)
      show 254 ≠ b.toNat
      omega
theorem putSize_253 (b : UInt8) (r : List UInt8) (hb : b.toNat = 253) (hk : 2 ≤ r.length) (hle : 253 ≤ leV (r.take 2)) : putSize (leV (r.take 2)) = b :: r.take 2 := by
  have h1 : leV (r.take 2) < 65536 := leV_take_lt r 2 hk
  have hb' : b = 253 := UInt8.toNat_inj.1 hb
  have e := leL_take r 2 hk
  unfold putSize
  rw [if_neg (by omega)]
  rw [if_pos h1, e, hb']
theorem putSize_254 (b : UInt8) (r : List UInt8) (hb : b.toNat = 254) (hk : 4 ≤ r.length) (hle : 65536 ≤ leV (r.take 4)) : putSize (leV (r.take 4)) = b :: r.take 4 := by
  have h1 : leV (r.take 4) < 4294967296 := leV_take_lt r 4 hk
  have hb' : b = 254 := UInt8.toNat_inj.1 hb
  have e := leL_take r 4 hk
  unfold putSize
  rw [if_neg (by omega)]
  rw [if_neg (by omega), if_pos h1, e, hb']
theorem putSize_255 (b : UInt8) (r : List UInt8) (hb : b.toNat = 255) (hk : 8 ≤ r.length) (hle : 4294967296 ≤ leV (r.take 8)) : putSize (leV (r.take 8)) = b :: r.take 8 := by
  have h1 : leV (r.take 8) < 18446744073709551616 := leV_take_lt r 8 hk
  have hb' : b = 255 := UInt8.toNat_inj.1 hb
  have e := leL_take r 8 hk
  unfold putSize
  rw [if_neg (by omega)]
  rw [if_neg (by omega), if_neg (by omega), e, hb']
set_option maxRecDepth 100000 in
set_option maxHeartbeats 1000000 in
theorem specGetSize_253_ok (s : ByteArray) (w : World) (hs : s.size ≤ 1048576) (h0 : 0 < s.size) (hne : s.toList.isEmpty = false) (h2 : s[0].toNat = 253) (hk : 2 ≤ s.data.toList.tail.length) (hle : 253 ≤ leV (s.data.toList.tail.take 2)) : Calls Tryz.prog 75 #[.string s] w fun e w' => e = .returned (tripV (leV (s.data.toList.tail.take 2), 1 + 2, true)) ∧ Below w.heap.size w w' := by
  have hi1 : (1 : Int) ≤ (s.size : Int) := by omega
  have hm : (s.extract 1 s.size).size ≤ maxLen := by rw [tail_size]; unfold maxLen; omega
  have C := fun w => specGetLe_all (s.extract 1 s.size) 2 w hm
  have eg : getLe s.data.toList.tail 2 = (leV (s.data.toList.tail.take 2), true) := by unfold getLe; rw [if_pos ⟨by decide, by decide, by omega⟩]; rfl
  rw [tail_data, eg] at C
  have hv : leV (s.data.toList.tail.take 2) < 18446744073709551616 := Nat.lt_of_lt_of_le (leV_take_lt _ _ hk) (by decide)
  have HP : Hid _ := fun w => specPutSize_any (leV (s.data.toList.tail.take 2)) w hv
  have hlen := putSize_len (leV (s.data.toList.tail.take 2))
  have A := fun w => l1Ahead_list s (putSize (leV (s.data.toList.tail.take 2))) w hs (by omega)
  have ep := putSize_253 s[0] s.data.toList.tail h2 hk hle
  have ea : ahead s.data.toList (putSize (leV (s.data.toList.tail.take 2))) = true := by
    rw [ep]; conv => lhs; arg 1; rw [data_cons s h0]
    exact ahead_yes _ _ _ hk
  have el : (putSize (leV (s.data.toList.tail.take 2))).length = 1 + 2 := by rw [ep, List.length_cons, List.length_take, Nat.min_eq_left hk]
  rw [ea] at A
  have HA : Hid _ := A
  have HC : Hid _ := C
  clear C A ep ea hle hk eg hlen hm
  generalize putSize (leV (s.data.toList.tail.take 2)) = t at *
  generalize leV (s.data.toList.tail.take 2) = v at *
  go_enter Tryz.func75, Tryz.ntmps75
  go_wp2
  go_region_with (go_at_call 49; refine (HC.out _).mono ?_; rintro e w' ⟨rfl, rfl⟩; rw [pairV])
  all_goals go_wp2_with (first | (go_at_call 65; refine (HP.out _).mono ?_; rintro e w2 ⟨rfl, hb2⟩) | (go_at_call 98; refine (HA.out _).mono ?_; rintro e w3 ⟨rfl, rfl⟩))
  all_goals
    go_ret3
    refine ⟨rfl, below_step ?_ hb2⟩
    go_grown
set_option maxRecDepth 100000 in
set_option maxHeartbeats 1000000 in
theorem specGetSize_253_lo (s : ByteArray) (w : World) (hs : s.size ≤ 1048576) (h0 : 0 < s.size) (hne : s.toList.isEmpty = false) (h2 : s[0].toNat = 253) (hk : 2 ≤ s.data.toList.tail.length) (hle : leV (s.data.toList.tail.take 2) < 253) : Calls Tryz.prog 75 #[.string s] w fun e w' => e = .returned (tripV (0, 0, false)) ∧ Below w.heap.size w w' := by
  have hi1 : (1 : Int) ≤ (s.size : Int) := by omega
  have hm : (s.extract 1 s.size).size ≤ maxLen := by rw [tail_size]; unfold maxLen; omega
  have C := fun w => specGetLe_all (s.extract 1 s.size) 2 w hm
  have eg : getLe s.data.toList.tail 2 = (leV (s.data.toList.tail.take 2), true) := by unfold getLe; rw [if_pos ⟨by decide, by decide, by omega⟩]; rfl
  rw [tail_data, eg] at C
  have hv : leV (s.data.toList.tail.take 2) < 18446744073709551616 := Nat.lt_of_lt_of_le (leV_take_lt _ _ hk) (by decide)
  have HP : Hid _ := fun w => specPutSize_any (leV (s.data.toList.tail.take 2)) w hv
  have hlen := putSize_len (leV (s.data.toList.tail.take 2))
  have A := fun w => l1Ahead_list s (putSize (leV (s.data.toList.tail.take 2))) w hs (by omega)
  have ea : ahead s.data.toList (putSize (leV (s.data.toList.tail.take 2))) = false := by
    conv => lhs; arg 1; rw [data_cons s h0]
    exact putSize_head _ _ _ (by omega) (by omega)
  rw [ea] at A
  have HA : Hid _ := A
  have HC : Hid _ := C
  clear C A ea hle hk eg hlen hm
  generalize putSize (leV (s.data.toList.tail.take 2)) = t at *
  generalize leV (s.data.toList.tail.take 2) = v at *
  go_enter Tryz.func75, Tryz.ntmps75
  go_wp2
  go_region_with (go_at_call 49; refine (HC.out _).mono ?_; rintro e w' ⟨rfl, rfl⟩; rw [pairV])
  all_goals go_wp2_with (first | (go_at_call 65; refine (HP.out _).mono ?_; rintro e w2 ⟨rfl, hb2⟩) | (go_at_call 98; refine (HA.out _).mono ?_; rintro e w3 ⟨rfl, rfl⟩))
  all_goals
    go_ret3
    refine ⟨rfl, below_step ?_ hb2⟩
    go_grown
set_option maxRecDepth 100000 in
set_option maxHeartbeats 1000000 in
theorem specGetSize_253_no (s : ByteArray) (w : World) (hs : s.size ≤ 1048576) (h0 : 0 < s.size) (hne : s.toList.isEmpty = false) (h2 : s[0].toNat = 253) (hk : ¬ 2 ≤ s.data.toList.tail.length) : Calls Tryz.prog 75 #[.string s] w fun e w' => e = .returned (tripV (0, 0, false)) ∧ Below w.heap.size w w' := by
  have hi1 : (1 : Int) ≤ (s.size : Int) := by omega
  have hm : (s.extract 1 s.size).size ≤ maxLen := by rw [tail_size]; unfold maxLen; omega
  have C := fun w => specGetLe_all (s.extract 1 s.size) 2 w hm
  have eg : getLe s.data.toList.tail 2 = (0, false) := by unfold getLe; rw [if_neg (by omega)]
  rw [tail_data, eg] at C
  have P := fun w => specPutSize_any 0 w (by decide)
  rw [show ((0 : Nat) : Int) = 0 from rfl] at P
  have HP : Hid _ := P
  have HC : Hid _ := C
  clear C P hk eg hm
  generalize putSize 0 = t at *
  go_enter Tryz.func75, Tryz.ntmps75
  go_wp2
  go_region_with (go_at_call 49; refine (HC.out _).mono ?_; rintro e w' ⟨rfl, rfl⟩; rw [pairV])
  all_goals go_wp2_with (go_at_call 65; refine (HP.out _).mono ?_; rintro e w2 ⟨rfl, hb2⟩)
  all_goals
    go_ret3
    refine ⟨rfl, below_step ?_ hb2⟩
    go_grown
theorem specGetSize_253 (s : ByteArray) (w : World) (hs : s.size ≤ 1048576) (h0 : 0 < s.size) (h2 : s[0].toNat = 253) : Calls Tryz.prog 75 #[.string s] w fun e w' => e = .returned (tripV (behind s.data.toList.tail 2 253)) ∧ Below w.heap.size w w' := by
  have hne := isEmpty_no s h0
  unfold behind
  by_cases hk : 2 ≤ s.data.toList.tail.length
  · by_cases hle : 253 ≤ leV (s.data.toList.tail.take 2)
    · rw [if_pos ⟨hk, hle⟩]; exact specGetSize_253_ok s w hs h0 hne h2 hk hle
    · rw [if_neg (fun h => hle h.2)]; exact specGetSize_253_lo s w hs h0 hne h2 hk (by omega)
  · rw [if_neg (fun h => hk h.1)]; exact specGetSize_253_no s w hs h0 hne h2 hk
set_option maxRecDepth 100000 in
set_option maxHeartbeats 1000000 in
theorem specGetSize_254_ok (s : ByteArray) (w : World) (hs : s.size ≤ 1048576) (h0 : 0 < s.size) (hne : s.toList.isEmpty = false) (h2 : s[0].toNat = 254) (hk : 4 ≤ s.data.toList.tail.length) (hle : 65536 ≤ leV (s.data.toList.tail.take 4)) : Calls Tryz.prog 75 #[.string s] w fun e w' => e = .returned (tripV (leV (s.data.toList.tail.take 4), 1 + 4, true)) ∧ Below w.heap.size w w' := by
  have hi1 : (1 : Int) ≤ (s.size : Int) := by omega
  have hm : (s.extract 1 s.size).size ≤ maxLen := by rw [tail_size]; unfold maxLen; omega
  have C := fun w => specGetLe_all (s.extract 1 s.size) 4 w hm
  have eg : getLe s.data.toList.tail 4 = (leV (s.data.toList.tail.take 4), true) := by unfold getLe; rw [if_pos ⟨by decide, by decide, by omega⟩]; rfl
  rw [tail_data, eg] at C
  have hv : leV (s.data.toList.tail.take 4) < 18446744073709551616 := Nat.lt_of_lt_of_le (leV_take_lt _ _ hk) (by decide)
  have HP : Hid _ := fun w => specPutSize_any (leV (s.data.toList.tail.take 4)) w hv
  have hlen := putSize_len (leV (s.data.toList.tail.take 4))
  have A := fun w => l1Ahead_list s (putSize (leV (s.data.toList.tail.take 4))) w hs (by omega)
  have ep := putSize_254 s[0] s.data.toList.tail h2 hk hle
  have ea : ahead s.data.toList (putSize (leV (s.data.toList.tail.take 4))) = true := by
    rw [ep]; conv => lhs; arg 1; rw [data_cons s h0]
    exact ahead_yes _ _ _ hk
  have el : (putSize (leV (s.data.toList.tail.take 4))).length = 1 + 4 := by rw [ep, List.length_cons, List.length_take, Nat.min_eq_left hk]
  rw [ea] at A
  have HA : Hid _ := A
  have HC : Hid _ := C
  clear C A ep ea hle hk eg hlen hm
  generalize putSize (leV (s.data.toList.tail.take 4)) = t at *
  generalize leV (s.data.toList.tail.take 4) = v at *
  go_enter Tryz.func75, Tryz.ntmps75
  go_wp2
  go_region_with (go_at_call 49; refine (HC.out _).mono ?_; rintro e w' ⟨rfl, rfl⟩; rw [pairV])
  all_goals go_wp2_with (first | (go_at_call 65; refine (HP.out _).mono ?_; rintro e w2 ⟨rfl, hb2⟩) | (go_at_call 98; refine (HA.out _).mono ?_; rintro e w3 ⟨rfl, rfl⟩))
  all_goals
    go_ret3
    refine ⟨rfl, below_step ?_ hb2⟩
    go_grown
set_option maxRecDepth 100000 in
set_option maxHeartbeats 1000000 in
theorem specGetSize_254_lo (s : ByteArray) (w : World) (hs : s.size ≤ 1048576) (h0 : 0 < s.size) (hne : s.toList.isEmpty = false) (h2 : s[0].toNat = 254) (hk : 4 ≤ s.data.toList.tail.length) (hle : leV (s.data.toList.tail.take 4) < 65536) : Calls Tryz.prog 75 #[.string s] w fun e w' => e = .returned (tripV (0, 0, false)) ∧ Below w.heap.size w w' := by
  have hi1 : (1 : Int) ≤ (s.size : Int) := by omega
  have hm : (s.extract 1 s.size).size ≤ maxLen := by rw [tail_size]; unfold maxLen; omega
  have C := fun w => specGetLe_all (s.extract 1 s.size) 4 w hm
  have eg : getLe s.data.toList.tail 4 = (leV (s.data.toList.tail.take 4), true) := by unfold getLe; rw [if_pos ⟨by decide, by decide, by omega⟩]; rfl
  rw [tail_data, eg] at C
  have hv : leV (s.data.toList.tail.take 4) < 18446744073709551616 := Nat.lt_of_lt_of_le (leV_take_lt _ _ hk) (by decide)
  have HP : Hid _ := fun w => specPutSize_any (leV (s.data.toList.tail.take 4)) w hv
  have hlen := putSize_len (leV (s.data.toList.tail.take 4))
  have A := fun w => l1Ahead_list s (putSize (leV (s.data.toList.tail.take 4))) w hs (by omega)
  have ea : ahead s.data.toList (putSize (leV (s.data.toList.tail.take 4))) = false := by
    conv => lhs; arg 1; rw [data_cons s h0]
    exact putSize_head _ _ _ (by omega) (by omega)
  rw [ea] at A
  have HA : Hid _ := A
  have HC : Hid _ := C
  clear C A ea hle hk eg hlen hm
  generalize putSize (leV (s.data.toList.tail.take 4)) = t at *
  generalize leV (s.data.toList.tail.take 4) = v at *
  go_enter Tryz.func75, Tryz.ntmps75
  go_wp2
  go_region_with (go_at_call 49; refine (HC.out _).mono ?_; rintro e w' ⟨rfl, rfl⟩; rw [pairV])
  all_goals go_wp2_with (first | (go_at_call 65; refine (HP.out _).mono ?_; rintro e w2 ⟨rfl, hb2⟩) | (go_at_call 98; refine (HA.out _).mono ?_; rintro e w3 ⟨rfl, rfl⟩))
  all_goals
    go_ret3
    refine ⟨rfl, below_step ?_ hb2⟩
    go_grown
set_option maxRecDepth 100000 in
set_option maxHeartbeats 1000000 in
theorem specGetSize_254_no (s : ByteArray) (w : World) (hs : s.size ≤ 1048576) (h0 : 0 < s.size) (hne : s.toList.isEmpty = false) (h2 : s[0].toNat = 254) (hk : ¬ 4 ≤ s.data.toList.tail.length) : Calls Tryz.prog 75 #[.string s] w fun e w' => e = .returned (tripV (0, 0, false)) ∧ Below w.heap.size w w' := by
  have hi1 : (1 : Int) ≤ (s.size : Int) := by omega
  have hm : (s.extract 1 s.size).size ≤ maxLen := by rw [tail_size]; unfold maxLen; omega
  have C := fun w => specGetLe_all (s.extract 1 s.size) 4 w hm
  have eg : getLe s.data.toList.tail 4 = (0, false) := by unfold getLe; rw [if_neg (by omega)]
  rw [tail_data, eg] at C
  have P := fun w => specPutSize_any 0 w (by decide)
  rw [show ((0 : Nat) : Int) = 0 from rfl] at P
  have HP : Hid _ := P
  have HC : Hid _ := C
  clear C P hk eg hm
  generalize putSize 0 = t at *
  go_enter Tryz.func75, Tryz.ntmps75
  go_wp2
  go_region_with (go_at_call 49; refine (HC.out _).mono ?_; rintro e w' ⟨rfl, rfl⟩; rw [pairV])
  all_goals go_wp2_with (go_at_call 65; refine (HP.out _).mono ?_; rintro e w2 ⟨rfl, hb2⟩)
  all_goals
    go_ret3
    refine ⟨rfl, below_step ?_ hb2⟩
    go_grown
theorem specGetSize_254 (s : ByteArray) (w : World) (hs : s.size ≤ 1048576) (h0 : 0 < s.size) (h2 : s[0].toNat = 254) : Calls Tryz.prog 75 #[.string s] w fun e w' => e = .returned (tripV (behind s.data.toList.tail 4 65536)) ∧ Below w.heap.size w w' := by
  have hne := isEmpty_no s h0
  unfold behind
  by_cases hk : 4 ≤ s.data.toList.tail.length
  · by_cases hle : 65536 ≤ leV (s.data.toList.tail.take 4)
    · rw [if_pos ⟨hk, hle⟩]; exact specGetSize_254_ok s w hs h0 hne h2 hk hle
    · rw [if_neg (fun h => hle h.2)]; exact specGetSize_254_lo s w hs h0 hne h2 hk (by omega)
  · rw [if_neg (fun h => hk h.1)]; exact specGetSize_254_no s w hs h0 hne h2 hk
set_option maxRecDepth 100000 in
set_option maxHeartbeats 1000000 in
theorem specGetSize_255_ok (s : ByteArray) (w : World) (hs : s.size ≤ 1048576) (h0 : 0 < s.size) (hne : s.toList.isEmpty = false) (h2 : s[0].toNat = 255) (hk : 8 ≤ s.data.toList.tail.length) (hle : 4294967296 ≤ leV (s.data.toList.tail.take 8)) : Calls Tryz.prog 75 #[.string s] w fun e w' => e = .returned (tripV (leV (s.data.toList.tail.take 8), 1 + 8, true)) ∧ Below w.heap.size w w' := by
  have hi1 : (1 : Int) ≤ (s.size : Int) := by omega
  have hm : (s.extract 1 s.size).size ≤ maxLen := by rw [tail_size]; unfold maxLen; omega
  have C := fun w => specGetLe_all (s.extract 1 s.size) 8 w hm
  have eg : getLe s.data.toList.tail 8 = (leV (s.data.toList.tail.take 8), true) := by unfold getLe; rw [if_pos ⟨by decide, by decide, by omega⟩]; rfl
  rw [tail_data, eg] at C
  have hv : leV (s.data.toList.tail.take 8) < 18446744073709551616 := Nat.lt_of_lt_of_le (leV_take_lt _ _ hk) (by decide)
  have HP : Hid _ := fun w => specPutSize_any (leV (s.data.toList.tail.take 8)) w hv
  have hlen := putSize_len (leV (s.data.toList.tail.take 8))
  have A := fun w => l1Ahead_list s (putSize (leV (s.data.toList.tail.take 8))) w hs (by omega)
  have ep := putSize_255 s[0] s.data.toList.tail h2 hk hle
  have ea : ahead s.data.toList (putSize (leV (s.data.toList.tail.take 8))) = true := by
    rw [ep]; conv => lhs; arg 1; rw [data_cons s h0]
    exact ahead_yes _ _ _ hk
  have el : (putSize (leV (s.data.toList.tail.take 8))).length = 1 + 8 := by rw [ep, List.length_cons, List.length_take, Nat.min_eq_left hk]
  rw [ea] at A
  have HA : Hid _ := A
  have HC : Hid _ := C
  clear C A ep ea hle hk eg hlen hm
  generalize putSize (leV (s.data.toList.tail.take 8)) = t at *
  generalize leV (s.data.toList.tail.take 8) = v at *
  go_enter Tryz.func75, Tryz.ntmps75
  go_wp2
  go_region_with (go_at_call 49; refine (HC.out _).mono ?_; rintro e w' ⟨rfl, rfl⟩; rw [pairV])
  all_goals go_wp2_with (first | (go_at_call 65; refine (HP.out _).mono ?_; rintro e w2 ⟨rfl, hb2⟩) | (go_at_call 98; refine (HA.out _).mono ?_; rintro e w3 ⟨rfl, rfl⟩))
  all_goals
    go_ret3
    refine ⟨rfl, below_step ?_ hb2⟩
    go_grown
set_option maxRecDepth 100000 in
set_option maxHeartbeats 1000000 in
theorem specGetSize_255_lo (s : ByteArray) (w : World) (hs : s.size ≤ 1048576) (h0 : 0 < s.size) (hne : s.toList.isEmpty = false) (h2 : s[0].toNat = 255) (hk : 8 ≤ s.data.toList.tail.length) (hle : leV (s.data.toList.tail.take 8) < 4294967296) : Calls Tryz.prog 75 #[.string s] w fun e w' => e = .returned (tripV (0, 0, false)) ∧ Below w.heap.size w w' := by
  have hi1 : (1 : Int) ≤ (s.size : Int) := by omega
  have hm : (s.extract 1 s.size).size ≤ maxLen := by rw [tail_size]; unfold maxLen; omega
  have C := fun w => specGetLe_all (s.extract 1 s.size) 8 w hm
  have eg : getLe s.data.toList.tail 8 = (leV (s.data.toList.tail.take 8), true) := by unfold getLe; rw [if_pos ⟨by decide, by decide, by omega⟩]; rfl
  rw [tail_data, eg] at C
  have hv : leV (s.data.toList.tail.take 8) < 18446744073709551616 := Nat.lt_of_lt_of_le (leV_take_lt _ _ hk) (by decide)
  have HP : Hid _ := fun w => specPutSize_any (leV (s.data.toList.tail.take 8)) w hv
  have hlen := putSize_len (leV (s.data.toList.tail.take 8))
  have A := fun w => l1Ahead_list s (putSize (leV (s.data.toList.tail.take 8))) w hs (by omega)
  have ea : ahead s.data.toList (putSize (leV (s.data.toList.tail.take 8))) = false := by
    conv => lhs; arg 1; rw [data_cons s h0]
    exact putSize_head _ _ _ (by omega) (by omega)
  rw [ea] at A
  have HA : Hid _ := A
  have HC : Hid _ := C
  clear C A ea hle hk eg hlen hm
  generalize putSize (leV (s.data.toList.tail.take 8)) = t at *
  generalize leV (s.data.toList.tail.take 8) = v at *
  go_enter Tryz.func75, Tryz.ntmps75
  go_wp2
  go_region_with (go_at_call 49; refine (HC.out _).mono ?_; rintro e w' ⟨rfl, rfl⟩; rw [pairV])
  all_goals go_wp2_with (first | (go_at_call 65; refine (HP.out _).mono ?_; rintro e w2 ⟨rfl, hb2⟩) | (go_at_call 98; refine (HA.out _).mono ?_; rintro e w3 ⟨rfl, rfl⟩))
  all_goals
    go_ret3
    refine ⟨rfl, below_step ?_ hb2⟩
    go_grown
set_option maxRecDepth 100000 in
set_option maxHeartbeats 1000000 in
theorem specGetSize_255_no (s : ByteArray) (w : World) (hs : s.size ≤ 1048576) (h0 : 0 < s.size) (hne : s.toList.isEmpty = false) (h2 : s[0].toNat = 255) (hk : ¬ 8 ≤ s.data.toList.tail.length) : Calls Tryz.prog 75 #[.string s] w fun e w' => e = .returned (tripV (0, 0, false)) ∧ Below w.heap.size w w' := by
  have hi1 : (1 : Int) ≤ (s.size : Int) := by omega
  have hm : (s.extract 1 s.size).size ≤ maxLen := by rw [tail_size]; unfold maxLen; omega
  have C := fun w => specGetLe_all (s.extract 1 s.size) 8 w hm
  have eg : getLe s.data.toList.tail 8 = (0, false) := by unfold getLe; rw [if_neg (by omega)]
  rw [tail_data, eg] at C
  have P := fun w => specPutSize_any 0 w (by decide)
  rw [show ((0 : Nat) : Int) = 0 from rfl] at P
  have HP : Hid _ := P
  have HC : Hid _ := C
  clear C P hk eg hm
  generalize putSize 0 = t at *
  go_enter Tryz.func75, Tryz.ntmps75
  go_wp2
  go_region_with (go_at_call 49; refine (HC.out _).mono ?_; rintro e w' ⟨rfl, rfl⟩; rw [pairV])
  all_goals go_wp2_with (go_at_call 65; refine (HP.out _).mono ?_; rintro e w2 ⟨rfl, hb2⟩)
  all_goals
    go_ret3
    refine ⟨rfl, below_step ?_ hb2⟩
    go_grown
theorem specGetSize_255 (s : ByteArray) (w : World) (hs : s.size ≤ 1048576) (h0 : 0 < s.size) (h2 : s[0].toNat = 255) : Calls Tryz.prog 75 #[.string s] w fun e w' => e = .returned (tripV (behind s.data.toList.tail 8 4294967296)) ∧ Below w.heap.size w w' := by
  have hne := isEmpty_no s h0
  unfold behind
  by_cases hk : 8 ≤ s.data.toList.tail.length
  · by_cases hle : 4294967296 ≤ leV (s.data.toList.tail.take 8)
    · rw [if_pos ⟨hk, hle⟩]; exact specGetSize_255_ok s w hs h0 hne h2 hk hle
    · rw [if_neg (fun h => hle h.2)]; exact specGetSize_255_lo s w hs h0 hne h2 hk (by omega)
  · rw [if_neg (fun h => hk h.1)]; exact specGetSize_255_no s w hs h0 hne h2 hk
set_option maxRecDepth 100000 in
set_option maxHeartbeats 1000000 in
theorem specGetSize_small (s : ByteArray) (w : World) (hs : s.size ≤ 1048576) (h0 : 0 < s.size) (h1 : s[0].toNat < 253) : Calls Tryz.prog 75 #[.string s] w fun e w' => e = .returned (tripV (s[0].toNat, 1, true)) ∧ Below w.heap.size w w' := by
  have hne := isEmpty_no s h0
  have ep : putSize s[0].toNat = [s[0]] := by
    unfold putSize
    rw [if_pos h1, leL_cons, UInt8.ofNat_toNat]
    rfl
  have P := fun w => specPutSize_any s[0].toNat w (by omega)
  rw [ep] at P
  have A := fun w => l1Ahead_list s [s[0]] w hs (by simp)
  have ea : ahead s.data.toList [s[0]] = true := by
    conv => lhs; arg 1; rw [data_cons s h0]
    exact ahead_yes _ _ 0 (Nat.zero_le _)
  rw [ea] at A
  have HP : Hid _ := P
  have HA : Hid _ := A
  have i1 : (s[0].toNat : Int) ≤ 252 := by omega
  clear P A ep ea h1
  go_enter Tryz.func75, Tryz.ntmps75
  go_wp2_with (first | (go_at_call 65; refine (HP.out _).mono ?_; rintro e w2 ⟨rfl, hb2⟩) | (go_at_call 98; refine (HA.out _).mono ?_; rintro e w3 ⟨rfl, rfl⟩))
  go_ret3
  exact ⟨rfl, hb2⟩
theorem specGetSize_any (s : ByteArray) (w : World) (hs : s.size ≤ 1048576) : Calls Tryz.prog 75 #[.string s] w fun e w' => e = .returned (tripV (getSize s.data.toList)) ∧ Below w.heap.size w w' := by
  by_cases h0 : 0 < s.size
  · have hb256 := s[0].toNat_lt
    rw [data_cons s h0]
    by_cases h1 : s[0].toNat < 253
    · rw [show getSize (s[0] :: s.data.toList.tail) = (s[0].toNat, 1, true) from by simp [getSize, h1]]
      exact specGetSize_small s w hs h0 h1
    · by_cases h2 : s[0].toNat = 253
      · rw [show getSize (s[0] :: s.data.toList.tail) = behind s.data.toList.tail 2 253 from by simp [getSize, h2]]
        exact specGetSize_253 s w hs h0 h2
      · by_cases h3 : s[0].toNat = 254
        · rw [show getSize (s[0] :: s.data.toList.tail) = behind s.data.toList.tail 4 65536 from by simp [getSize, h3]]
          exact specGetSize_254 s w hs h0 h3
        · have h4 : s[0].toNat = 255 := by omega
          rw [show getSize (s[0] :: s.data.toList.tail) = behind s.data.toList.tail 8 4294967296 from by simp [getSize, h4]]
          exact specGetSize_255 s w hs h0 h4
  · have hne := isEmpty_yes s h0
    rw [data_nil s h0]
    go_enter Tryz.func75, Tryz.ntmps75
    go_wp2
    go_ret3
    exact ⟨rfl, Below.refl _ _⟩
end Go.Proofs.YtepffjfgomhepaaGreatDoor
