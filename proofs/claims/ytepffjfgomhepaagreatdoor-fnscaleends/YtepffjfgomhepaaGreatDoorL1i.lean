/- SCALE's numbers read by the specification: contracts. -/
import Derived.Test.YtepffjfgomhepaaGreatDoorL1h
namespace Go.Proofs.YtepffjfgomhepaaGreatDoor
open Go.RowKit
set_option linter.unusedVariables false
/-- The two bits of a compact number's form. -/
def tag (n : Nat) : Nat := if n < 64 then 0 else if n < 16384 then 1 else if n < 1073741824 then 2 else 3
theorem putCompact_first (n : Nat) : ∃ c t, putCompact n = c :: t ∧ c.toNat % 4 = tag n := by
  unfold putCompact tag
  by_cases h1 : n < 64
  · rw [if_pos h1, if_pos h1, leL_cons]
    exact ⟨_, _, rfl, by rw [UInt8.toNat_ofNat']; omega⟩
  · rw [if_neg h1, if_neg h1]
    by_cases h2 : n < 16384
    · rw [if_pos h2, if_pos h2, leL_cons]
      exact ⟨_, _, rfl, by rw [UInt8.toNat_ofNat']; omega⟩
    · rw [if_neg h2, if_neg h2]
      by_cases h3 : n < 1073741824
      · rw [if_pos h3, if_pos h3, leL_cons]
        exact ⟨_, _, rfl, by rw [UInt8.toNat_ofNat']; omega⟩
      · rw [if_neg h3, if_neg h3, leL_cons]
        exact ⟨_, _, rfl, by rw [UInt8.toNat_ofNat']; omega⟩
theorem putCompact_not (n : Nat) (b : UInt8) (r : List UInt8) (h : b.toNat % 4 ≠ tag n) : ahead (b :: r) (putCompact n) = false := by
  obtain ⟨c, t, e, hc⟩ := putCompact_first n
  rw [e]
  refine ahead_ne _ _ _ _ (fun hb => h ?_)
  rw [hb]; exact hc
theorem putCompact_len (n : Nat) (hn : n < 18446744073709551616) : (putCompact n).length ≤ 9 := by
  have h8 := by8_8 n hn
  unfold putCompact
  repeat' split
  all_goals simp [leL_len]
  omega
theorem leV_mod (b : UInt8) (r : List UInt8) (k : Nat) (hk : 1 ≤ k) : leV ((b :: r).take k) % 4 = b.toNat % 4 := by
  match k with
  | 0 => omega
  | k + 1 => rw [List.take_succ_cons]; simp only [leV]; omega
theorem ahead_take (l : List UInt8) (k : Nat) (h : k ≤ l.length) : ahead l (l.take k) = true := by
  unfold ahead
  rw [beq_iff_eq, List.length_take, Nat.min_eq_left h]
theorem putCompact_0 (b : UInt8) (r : List UInt8) (hb : b.toNat % 4 = 0) (hk : 1 ≤ (b :: r).length) (hle : 0 ≤ leV ((b :: r).take 1) / 4) : putCompact (leV ((b :: r).take 1) / 4) = (b :: r).take 1 := by
  have h1 := leV_take_lt (b :: r) 1 hk
  have h1' : leV ((b :: r).take 1) / 4 < 64 := by omega
  have h2 := leV_mod b r 1 (by decide)
  have e := leL_take (b :: r) 1 hk
  generalize leV ((b :: r).take 1) = v at *
  have ev : 4 * (v / 4) + 0 = v := by omega
  unfold putCompact
  rcases (show (0 = 0 ∧ v / 4 < 64) ∨ (0 = 1 ∧ ¬ v / 4 < 64 ∧ v / 4 < 16384) ∨ (0 = 2 ∧ ¬ v / 4 < 64 ∧ ¬ v / 4 < 16384 ∧ v / 4 < 1073741824) from by omega) with h | h | h
  · rw [if_pos h.2]; rw [show 4 * (v / 4) = v from by omega]; first | exact e | exact absurd h.1 (by decide)
  · rw [if_neg h.2.1, if_pos h.2.2]; rw [show 4 * (v / 4) + 1 = v from by omega]; first | exact e | exact absurd h.1 (by decide)
  · rw [if_neg h.2.1, if_neg h.2.2.1, if_pos h.2.2.2]; rw [show 4 * (v / 4) + 2 = v from by omega]; first | exact e | exact absurd h.1 (by decide)
theorem putCompact_1 (b : UInt8) (r : List UInt8) (hb : b.toNat % 4 = 1) (hk : 2 ≤ (b :: r).length) (hle : 64 ≤ leV ((b :: r).take 2) / 4) : putCompact (leV ((b :: r).take 2) / 4) = (b :: r).take 2 := by
  have h1 := leV_take_lt (b :: r) 2 hk
  have h1' : leV ((b :: r).take 2) / 4 < 16384 := by omega
  have h2 := leV_mod b r 2 (by decide)
  have e := leL_take (b :: r) 2 hk
  generalize leV ((b :: r).take 2) = v at *
  have ev : 4 * (v / 4) + 1 = v := by omega
  unfold putCompact
  rcases (show (1 = 0 ∧ v / 4 < 64) ∨ (1 = 1 ∧ ¬ v / 4 < 64 ∧ v / 4 < 16384) ∨ (1 = 2 ∧ ¬ v / 4 < 64 ∧ ¬ v / 4 < 16384 ∧ v / 4 < 1073741824) from by omega) with h | h | h
  · rw [if_pos h.2]; rw [show 4 * (v / 4) = v from by omega]; first | exact e | exact absurd h.1 (by decide)
  · rw [if_neg h.2.1, if_pos h.2.2]; rw [show 4 * (v / 4) + 1 = v from by omega]; first | exact e | exact absurd h.1 (by decide)
  · rw [if_neg h.2.1, if_neg h.2.2.1, if_pos h.2.2.2]; rw [show 4 * (v / 4) + 2 = v from by omega]; first | exact e | exact absurd h.1 (by decide)
theorem putCompact_2 (b : UInt8) (r : List UInt8) (hb : b.toNat % 4 = 2) (hk : 4 ≤ (b :: r).length) (hle : 16384 ≤ leV ((b :: r).take 4) / 4) : putCompact (leV ((b :: r).take 4) / 4) = (b :: r).take 4 := by
  have h1 := leV_take_lt (b :: r) 4 hk
  have h1' : leV ((b :: r).take 4) / 4 < 1073741824 := by omega
  have h2 := leV_mod b r 4 (by decide)
  have e := leL_take (b :: r) 4 hk
  generalize leV ((b :: r).take 4) = v at *
  have ev : 4 * (v / 4) + 2 = v := by omega
  unfold putCompact
  rcases (show (2 = 0 ∧ v / 4 < 64) ∨ (2 = 1 ∧ ¬ v / 4 < 64 ∧ v / 4 < 16384) ∨ (2 = 2 ∧ ¬ v / 4 < 64 ∧ ¬ v / 4 < 16384 ∧ v / 4 < 1073741824) from by omega) with h | h | h
  · rw [if_pos h.2]; rw [show 4 * (v / 4) = v from by omega]; first | exact e | exact absurd h.1 (by decide)
  · rw [if_neg h.2.1, if_pos h.2.2]; rw [show 4 * (v / 4) + 1 = v from by omega]; first | exact e | exact absurd h.1 (by decide)
  · rw [if_neg h.2.1, if_neg h.2.2.1, if_pos h.2.2.2]; rw [show 4 * (v / 4) + 2 = v from by omega]; first | exact e | exact absurd h.1 (by decide)
theorem putCompact_long (b : UInt8) (r : List UInt8) (k : Nat) (hb : b.toNat = 4 * (k - 4) + 3) (hk : k ≤ r.length) (h30 : 1073741824 ≤ leV (r.take k)) (hbk : by8 (leV (r.take k)) = k) : putCompact (leV (r.take k)) = b :: r.take k := by
  have e := leL_take r k hk
  unfold putCompact
  rw [if_neg (by omega), if_neg (by omega), if_neg (by omega), hbk, e, leL_cons]
  rw [← hb, UInt8.ofNat_toNat]
  rfl
theorem putCompact_other (b : UInt8) (r r' : List UInt8) (k v : Nat) (hv : v < 18446744073709551616) (hk4 : 4 ≤ k) (hb : b.toNat = 4 * (k - 4) + 3) (h : ¬ (1073741824 ≤ v ∧ by8 v = k)) : ahead (b :: r) (putCompact v) = false := by
  by_cases h30 : 1073741824 ≤ v
  · have hbk : by8 v ≠ k := fun e => h ⟨h30, e⟩
    have h4 := by8_4 v (by omega)
    have h8 := by8_8 v hv
    unfold putCompact
    rw [if_neg (by omega), if_neg (by omega), if_neg (by omega), leL_cons]
    refine ahead_ne _ _ _ _ (fun hc => ?_)
    have := congrArg UInt8.toNat hc
    rw [UInt8.toNat_ofNat', hb] at this
    omega
  · refine putCompact_not _ _ _ ?_
    unfold tag
    rw [hb]
    repeat' split
    all_goals omega
theorem wide4r (b : UInt8) : IntKind.i64.wrap (IntKind.i64.wrap (IntKind.u8.wrap ((b.toNat : Int) / 4)) + 4) = ((b.toNat / 4 + 4 : Nat) : Int) := by
  have hb := b.toNat_lt
  rw [IntKind.wrap_u8, IntKind.wrap_i64, IntKind.wrap_i64]
  omega
set_option maxRecDepth 100000 in
set_option maxHeartbeats 1000000 in
theorem specGetCompact_0_in (s : ByteArray) (w : World) (hs : s.size ≤ 1048576) (h0 : 0 < s.size) (hne : s.toList.isEmpty = false) (h2 : s[0].toNat % 4 = 0) (hk : 1 ≤ s.data.toList.length) : Calls Tryz.prog 76 #[.string s] w fun e w' => e = .returned (tripV (cw s.data.toList 1 0)) ∧ Below w.heap.size w w' := by
  have i4 : ((s[0]'h0).toNat : Int) % 4 = 0 := by omega
  have C := fun w => specGetLe_all s 1 w (by unfold maxLen; omega)
  have eg : getLe s.data.toList 1 = (leV (s.data.toList.take 1), true) := by unfold getLe; rw [if_pos ⟨by decide, by decide, by omega⟩]; rfl
  rw [eg] at C
  have hv : leV (s.data.toList.take 1) / 4 < 18446744073709551616 := by
    have h1 := leV_take_lt s.data.toList 1 hk
    have h3 : 2 ^ (8 * 1) ≤ 18446744073709551616 := by decide
    omega
  have P := fun w => specPutCompact_any (leV (s.data.toList.take 1) / 4) w hv
  rw [show ((leV (s.data.toList.take 1) / 4 : Nat) : Int) = (leV (s.data.toList.take 1) : Int) / 4 from by omega] at P
  have hlen := putCompact_len _ hv
  have A := fun w => l1Ahead_list s (putCompact (leV (s.data.toList.take 1) / 4)) w hs (by omega)
  by_cases hle : 0 ≤ leV (s.data.toList.take 1) / 4
  · have ep : putCompact (leV (s.data.toList.take 1) / 4) = s.data.toList.take 1 := by
      have := putCompact_0 s[0] s.data.toList.tail h2 (by rw [← data_cons s h0]; exact hk) (by rw [← data_cons s h0]; exact hle)
      rwa [← data_cons s h0] at this
    have ea : ahead s.data.toList (putCompact (leV (s.data.toList.take 1) / 4)) = true := by rw [ep]; exact ahead_take _ _ hk
    have el : (putCompact (leV (s.data.toList.take 1) / 4)).length = 1 := by rw [ep, List.length_take, Nat.min_eq_left hk]
    have eb : cw s.data.toList 1 0 = (leV (s.data.toList.take 1) / 4, 1, true) := by unfold cw; rw [if_pos ⟨hk, hle⟩]
    rw [eb]
    rw [ea] at A
    have HA : Hid _ := A
    have HC : Hid _ := C
    have HP : Hid _ := P
    clear C A P ep ea hle hk eg hlen eb h2
    generalize putCompact (leV (s.data.toList.take 1) / 4) = t at *
    generalize leV (s.data.toList.take 1) = v at *
    go_enter Tryz.func76, Tryz.ntmps76
    go_wp2_with (first | (go_at_call 49; refine (HC.out _).mono ?_; rintro e w1 ⟨rfl, rfl⟩; rw [pairV]) | (go_at_call 66; refine (HP.out _).mono ?_; rintro e w2 ⟨rfl, hb2⟩) | (go_at_call 98; refine (HA.out _).mono ?_; rintro e w3 ⟨rfl, rfl⟩))
    go_ret3
    refine ⟨by simp [tripV], below_step ?_ hb2⟩
    go_grown
  · have ea : ahead s.data.toList (putCompact (leV (s.data.toList.take 1) / 4)) = false := by
      conv => lhs; arg 1; rw [data_cons s h0]
      refine putCompact_not _ _ _ ?_
      rw [h2]
      unfold tag
      repeat' split
      all_goals omega
    have eb : cw s.data.toList 1 0 = (0, 0, false) := by unfold cw; rw [if_neg (fun h => hle h.2)]
    rw [eb]
    rw [ea] at A
    have HA : Hid _ := A
    have HC : Hid _ := C
    have HP : Hid _ := P
    clear C A P ea hle hk eg hlen eb h2
    generalize putCompact (leV (s.data.toList.take 1) / 4) = t at *
    generalize leV (s.data.toList.take 1) = v at *
    go_enter Tryz.func76, Tryz.ntmps76
    go_wp2_with (first | (go_at_call 49; refine (HC.out _).mono ?_; rintro e w1 ⟨rfl, rfl⟩; rw [pairV]) | (go_at_call 66; refine (HP.out _).mono ?_; rintro e w2 ⟨rfl, hb2⟩) | (go_at_call 98; refine (HA.out _).mono ?_; rintro e w3 ⟨rfl, rfl⟩))
    go_ret3
    refine ⟨rfl, below_step ?_ hb2⟩
    go_grown
set_option maxRecDepth 100000 in
set_option maxHeartbeats 1000000 in
theorem specGetCompact_0_no (s : ByteArray) (w : World) (hs : s.size ≤ 1048576) (h0 : 0 < s.size) (hne : s.toList.isEmpty = false) (h2 : s[0].toNat % 4 = 0) (hk : ¬ 1 ≤ s.data.toList.length) : Calls Tryz.prog 76 #[.string s] w fun e w' => e = .returned (tripV (cw s.data.toList 1 0)) ∧ Below w.heap.size w w' := by
  have i4 : ((s[0]'h0).toNat : Int) % 4 = 0 := by omega
  have C := fun w => specGetLe_all s 1 w (by unfold maxLen; omega)
  have eg : getLe s.data.toList 1 = (0, false) := by unfold getLe; rw [if_neg (by omega)]
  rw [eg] at C
  have P := fun w => specPutCompact_any 0 w (by decide)
  rw [show ((0 : Nat) : Int) = 0 from rfl] at P
  have eb : cw s.data.toList 1 0 = (0, 0, false) := by unfold cw; rw [if_neg (fun h => hk h.1)]
  rw [eb]
  have HC : Hid _ := C
  have HP : Hid _ := P
  clear C P hk eg eb h2
  generalize putCompact 0 = t at *
  go_enter Tryz.func76, Tryz.ntmps76
  go_wp2_with (first | (go_at_call 49; refine (HC.out _).mono ?_; rintro e w1 ⟨rfl, rfl⟩; rw [pairV]) | (go_at_call 66; refine (HP.out _).mono ?_; rintro e w2 ⟨rfl, hb2⟩))
  go_ret3
  refine ⟨rfl, below_step ?_ hb2⟩
  go_grown
set_option maxRecDepth 100000 in
set_option maxHeartbeats 1000000 in
theorem specGetCompact_1_in (s : ByteArray) (w : World) (hs : s.size ≤ 1048576) (h0 : 0 < s.size) (hne : s.toList.isEmpty = false) (h2 : s[0].toNat % 4 = 1) (hk : 2 ≤ s.data.toList.length) : Calls Tryz.prog 76 #[.string s] w fun e w' => e = .returned (tripV (cw s.data.toList 2 64)) ∧ Below w.heap.size w w' := by
  have i4 : ((s[0]'h0).toNat : Int) % 4 = 1 := by omega
  have C := fun w => specGetLe_all s 2 w (by unfold maxLen; omega)
  have eg : getLe s.data.toList 2 = (leV (s.data.toList.take 2), true) := by unfold getLe; rw [if_pos ⟨by decide, by decide, by omega⟩]; rfl
  rw [eg] at C
  have hv : leV (s.data.toList.take 2) / 4 < 18446744073709551616 := by
    have h1 := leV_take_lt s.data.toList 2 hk
    have h3 : 2 ^ (8 * 2) ≤ 18446744073709551616 := by decide
    omega
  have P := fun w => specPutCompact_any (leV (s.data.toList.take 2) / 4) w hv
  rw [show ((leV (s.data.toList.take 2) / 4 : Nat) : Int) = (leV (s.data.toList.take 2) : Int) / 4 from by omega] at P
  have hlen := putCompact_len _ hv
  have A := fun w => l1Ahead_list s (putCompact (leV (s.data.toList.take 2) / 4)) w hs (by omega)
  by_cases hle : 64 ≤ leV (s.data.toList.take 2) / 4
  · have ep : putCompact (leV (s.data.toList.take 2) / 4) = s.data.toList.take 2 := by
      have := putCompact_1 s[0] s.data.toList.tail h2 (by rw [← data_cons s h0]; exact hk) (by rw [← data_cons s h0]; exact hle)
      rwa [← data_cons s h0] at this
    have ea : ahead s.data.toList (putCompact (leV (s.data.toList.take 2) / 4)) = true := by rw [ep]; exact ahead_take _ _ hk
    have el : (putCompact (leV (s.data.toList.take 2) / 4)).length = 2 := by rw [ep, List.length_take, Nat.min_eq_left hk]
    have eb : cw s.data.toList 2 64 = (leV (s.data.toList.take 2) / 4, 2, true) := by unfold cw; rw [if_pos ⟨hk, hle⟩]
    rw [eb]
    rw [ea] at A
    have HA : Hid _ := A
    have HC : Hid _ := C
    have HP : Hid _ := P
    clear C A P ep ea hle hk eg hlen eb h2
    generalize putCompact (leV (s.data.toList.take 2) / 4) = t at *
    generalize leV (s.data.toList.take 2) = v at *
    go_enter Tryz.func76, Tryz.ntmps76
    go_wp2_with (first | (go_at_call 49; refine (HC.out _).mono ?_; rintro e w1 ⟨rfl, rfl⟩; rw [pairV]) | (go_at_call 66; refine (HP.out _).mono ?_; rintro e w2 ⟨rfl, hb2⟩) | (go_at_call 98; refine (HA.out _).mono ?_; rintro e w3 ⟨rfl, rfl⟩))
    go_ret3
    refine ⟨by simp [tripV], below_step ?_ hb2⟩
    go_grown
  · have ea : ahead s.data.toList (putCompact (leV (s.data.toList.take 2) / 4)) = false := by
      conv => lhs; arg 1; rw [data_cons s h0]
      refine putCompact_not _ _ _ ?_
      rw [h2]
      unfold tag
      repeat' split
      all_goals omega
    have eb : cw s.data.toList 2 64 = (0, 0, false) := by unfold cw; rw [if_neg (fun h => hle h.2)]
    rw [eb]
    rw [ea] at A
    have HA : Hid _ := A
    have HC : Hid _ := C
    have HP : Hid _ := P
    clear C A P ea hle hk eg hlen eb h2
    generalize putCompact (leV (s.data.toList.take 2) / 4) = t at *
    generalize leV (s.data.toList.take 2) = v at *
    go_enter Tryz.func76, Tryz.ntmps76
    go_wp2_with (first | (go_at_call 49; refine (HC.out _).mono ?_; rintro e w1 ⟨rfl, rfl⟩; rw [pairV]) | (go_at_call 66; refine (HP.out _).mono ?_; rintro e w2 ⟨rfl, hb2⟩) | (go_at_call 98; refine (HA.out _).mono ?_; rintro e w3 ⟨rfl, rfl⟩))
    go_ret3
    refine ⟨rfl, below_step ?_ hb2⟩
    go_grown
set_option maxRecDepth 100000 in
set_option maxHeartbeats 1000000 in
theorem specGetCompact_1_no (s : ByteArray) (w : World) (hs : s.size ≤ 1048576) (h0 : 0 < s.size) (hne : s.toList.isEmpty = false) (h2 : s[0].toNat % 4 = 1) (hk : ¬ 2 ≤ s.data.toList.length) : Calls Tryz.prog 76 #[.string s] w fun e w' => e = .returned (tripV (cw s.data.toList 2 64)) ∧ Below w.heap.size w w' := by
  have i4 : ((s[0]'h0).toNat : Int) % 4 = 1 := by omega
  have C := fun w => specGetLe_all s 2 w (by unfold maxLen; omega)
  have eg : getLe s.data.toList 2 = (0, false) := by unfold getLe; rw [if_neg (by omega)]
  rw [eg] at C
  have P := fun w => specPutCompact_any 0 w (by decide)
  rw [show ((0 : Nat) : Int) = 0 from rfl] at P
  have eb : cw s.data.toList 2 64 = (0, 0, false) := by unfold cw; rw [if_neg (fun h => hk h.1)]
  rw [eb]
  have HC : Hid _ := C
  have HP : Hid _ := P
  clear C P hk eg eb h2
  generalize putCompact 0 = t at *
  go_enter Tryz.func76, Tryz.ntmps76
  go_wp2_with (first | (go_at_call 49; refine (HC.out _).mono ?_; rintro e w1 ⟨rfl, rfl⟩; rw [pairV]) | (go_at_call 66; refine (HP.out _).mono ?_; rintro e w2 ⟨rfl, hb2⟩))
  go_ret3
  refine ⟨rfl, below_step ?_ hb2⟩
  go_grown
set_option maxRecDepth 100000 in
set_option maxHeartbeats 1000000 in
theorem specGetCompact_2_in (s : ByteArray) (w : World) (hs : s.size ≤ 1048576) (h0 : 0 < s.size) (hne : s.toList.isEmpty = false) (h2 : s[0].toNat % 4 = 2) (hk : 4 ≤ s.data.toList.length) : Calls Tryz.prog 76 #[.string s] w fun e w' => e = .returned (tripV (cw s.data.toList 4 16384)) ∧ Below w.heap.size w w' := by
  have i4 : ((s[0]'h0).toNat : Int) % 4 = 2 := by omega
  have C := fun w => specGetLe_all s 4 w (by unfold maxLen; omega)
  have eg : getLe s.data.toList 4 = (leV (s.data.toList.take 4), true) := by unfold getLe; rw [if_pos ⟨by decide, by decide, by omega⟩]; rfl
  rw [eg] at C
  have hv : leV (s.data.toList.take 4) / 4 < 18446744073709551616 := by
    have h1 := leV_take_lt s.data.toList 4 hk
    have h3 : 2 ^ (8 * 4) ≤ 18446744073709551616 := by decide
    omega
  have P := fun w => specPutCompact_any (leV (s.data.toList.take 4) / 4) w hv
  rw [show ((leV (s.data.toList.take 4) / 4 : Nat) : Int) = (leV (s.data.toList.take 4) : Int) / 4 from by omega] at P
  have hlen := putCompact_len _ hv
  have A := fun w => l1Ahead_list s (putCompact (leV (s.data.toList.take 4) / 4)) w hs (by omega)
  by_cases hle : 16384 ≤ leV (s.data.toList.take 4) / 4
  · have ep : putCompact (leV (s.data.toList.take 4) / 4) = s.data.toList.take 4 := by
      have := putCompact_2 s[0] s.data.toList.tail h2 (by rw [← data_cons s h0]; exact hk) (by rw [← data_cons s h0]; exact hle)
      rwa [← data_cons s h0] at this
    have ea : ahead s.data.toList (putCompact (leV (s.data.toList.take 4) / 4)) = true := by rw [ep]; exact ahead_take _ _ hk
    have el : (putCompact (leV (s.data.toList.take 4) / 4)).length = 4 := by rw [ep, List.length_take, Nat.min_eq_left hk]
    have eb : cw s.data.toList 4 16384 = (leV (s.data.toList.take 4) / 4, 4, true) := by unfold cw; rw [if_pos ⟨hk, hle⟩]
    rw [eb]
    rw [ea] at A
    have HA : Hid _ := A
    have HC : Hid _ := C
    have HP : Hid _ := P
    clear C A P ep ea hle hk eg hlen eb h2
    generalize putCompact (leV (s.data.toList.take 4) / 4) = t at *
    generalize leV (s.data.toList.take 4) = v at *
    go_enter Tryz.func76, Tryz.ntmps76
    go_wp2_with (first | (go_at_call 49; refine (HC.out _).mono ?_; rintro e w1 ⟨rfl, rfl⟩; rw [pairV]) | (go_at_call 66; refine (HP.out _).mono ?_; rintro e w2 ⟨rfl, hb2⟩) | (go_at_call 98; refine (HA.out _).mono ?_; rintro e w3 ⟨rfl, rfl⟩))
    go_ret3
    refine ⟨by simp [tripV], below_step ?_ hb2⟩
    go_grown
  · have ea : ahead s.data.toList (putCompact (leV (s.data.toList.take 4) / 4)) = false := by
      conv => lhs; arg 1; rw [data_cons s h0]
      refine putCompact_not _ _ _ ?_
      rw [h2]
      unfold tag
      repeat' split
      all_goals omega
    have eb : cw s.data.toList 4 16384 = (0, 0, false) := by unfold cw; rw [if_neg (fun h => hle h.2)]
    rw [eb]
    rw [ea] at A
    have HA : Hid _ := A
    have HC : Hid _ := C
    have HP : Hid _ := P
    clear C A P ea hle hk eg hlen eb h2
    generalize putCompact (leV (s.data.toList.take 4) / 4) = t at *
    generalize leV (s.data.toList.take 4) = v at *
    go_enter Tryz.func76, Tryz.ntmps76
    go_wp2_with (first | (go_at_call 49; refine (HC.out _).mono ?_; rintro e w1 ⟨rfl, rfl⟩; rw [pairV]) | (go_at_call 66; refine (HP.out _).mono ?_; rintro e w2 ⟨rfl, hb2⟩) | (go_at_call 98; refine (HA.out _).mono ?_; rintro e w3 ⟨rfl, rfl⟩))
    go_ret3
    refine ⟨rfl, below_step ?_ hb2⟩
    go_grown
set_option maxRecDepth 100000 in
set_option maxHeartbeats 1000000 in
theorem specGetCompact_2_no (s : ByteArray) (w : World) (hs : s.size ≤ 1048576) (h0 : 0 < s.size) (hne : s.toList.isEmpty = false) (h2 : s[0].toNat % 4 = 2) (hk : ¬ 4 ≤ s.data.toList.length) : Calls Tryz.prog 76 #[.string s] w fun e w' => e = .returned (tripV (cw s.data.toList 4 16384)) ∧ Below w.heap.size w w' := by
  have i4 : ((s[0]'h0).toNat : Int) % 4 = 2 := by omega
  have C := fun w => specGetLe_all s 4 w (by unfold maxLen; omega)
  have eg : getLe s.data.toList 4 = (0, false) := by unfold getLe; rw [if_neg (by omega)]
  rw [eg] at C
  have P := fun w => specPutCompact_any 0 w (by decide)
  rw [show ((0 : Nat) : Int) = 0 from rfl] at P
  have eb : cw s.data.toList 4 16384 = (0, 0, false) := by unfold cw; rw [if_neg (fun h => hk h.1)]
  rw [eb]
  have HC : Hid _ := C
  have HP : Hid _ := P
  clear C P hk eg eb h2
  generalize putCompact 0 = t at *
  go_enter Tryz.func76, Tryz.ntmps76
  go_wp2_with (first | (go_at_call 49; refine (HC.out _).mono ?_; rintro e w1 ⟨rfl, rfl⟩; rw [pairV]) | (go_at_call 66; refine (HP.out _).mono ?_; rintro e w2 ⟨rfl, hb2⟩))
  go_ret3
  refine ⟨rfl, below_step ?_ hb2⟩
  go_grown
set_option maxRecDepth 100000 in
set_option maxHeartbeats 1000000 in
theorem specGetCompact_3_in (s : ByteArray) (w : World) (hs : s.size ≤ 1048576) (h0 : 0 < s.size) (hne : s.toList.isEmpty = false) (h2 : s[0].toNat % 4 = 3) (h8 : s[0].toNat / 4 + 4 ≤ 8) (hk : s[0].toNat / 4 + 4 ≤ s.data.toList.tail.length) : Calls Tryz.prog 76 #[.string s] w fun e w' => e = .returned (tripV (cl s.data.toList.tail (s[0].toNat / 4 + 4))) ∧ Below w.heap.size w w' := by
  have i4 : ((s[0]'h0).toNat : Int) % 4 = 3 := by omega
  have hi1 : (1 : Int) ≤ (s.size : Int) := by omega
  have hw4 := wide4r (s[0]'h0)
  have hk4 : 4 ≤ s[0].toNat / 4 + 4 := by omega
  have hbk : s[0].toNat = 4 * (s[0].toNat / 4 + 4 - 4) + 3 := by omega
  generalize s[0].toNat / 4 + 4 = k at *
  have C := fun w => specGetLe_all (s.extract 1 s.size) k w (by rw [tail_size]; unfold maxLen; omega)
  have eg : getLe s.data.toList.tail k = (leV (s.data.toList.tail.take k), true) := by unfold getLe; rw [if_pos ⟨by omega, by omega, by omega⟩, Int.toNat_natCast]
  rw [tail_data, eg, ← hw4] at C
  have hv : leV (s.data.toList.tail.take k) < 18446744073709551616 := Nat.lt_of_lt_of_le (leV_take_lt _ _ hk) (Nat.le_trans (Nat.pow_le_pow_right (by decide) (show 8 * k ≤ 64 by omega)) (by decide))
  have P := fun w => specPutCompact_any (leV (s.data.toList.tail.take k)) w hv
  have hlen := putCompact_len _ hv
  have A := fun w => l1Ahead_list s (putCompact (leV (s.data.toList.tail.take k))) w hs (by omega)
  by_cases hle : 1073741824 ≤ leV (s.data.toList.tail.take k) ∧ by8 (leV (s.data.toList.tail.take k)) = k
  · have ep := putCompact_long s[0] s.data.toList.tail k hbk hk hle.1 hle.2
    have ea : ahead s.data.toList (putCompact (leV (s.data.toList.tail.take k))) = true := by
      rw [ep]; conv => lhs; arg 1; rw [data_cons s h0]
      exact ahead_yes _ _ _ hk
    have el : (putCompact (leV (s.data.toList.tail.take k))).length = 1 + k := by rw [ep, List.length_cons, List.length_take, Nat.min_eq_left hk, Nat.add_comm]
    have eb : cl s.data.toList.tail k = (leV (s.data.toList.tail.take k), 1 + k, true) := by unfold cl; rw [if_pos ⟨h8, hk, hle.1, hle.2⟩]
    rw [eb]
    rw [ea] at A
    have HA : Hid _ := A
    have HC : Hid _ := C
    have HP : Hid _ := P
    have HK : Hid _ := hbk
    clear C A P ep ea hle hk eg hlen eb h2 hbk hw4
    generalize putCompact (leV (s.data.toList.tail.take k)) = t at *
    generalize leV (s.data.toList.tail.take k) = v at *
    go_enter Tryz.func76, Tryz.ntmps76
    go_wp2
    go_region_with (go_at_call 49; refine (HC.out _).mono ?_; rintro e w1 ⟨rfl, rfl⟩; rw [pairV])
    all_goals go_wp2_with (first | (go_at_call 66; refine (HP.out _).mono ?_; rintro e w2 ⟨rfl, hb2⟩) | (go_at_call 98; refine (HA.out _).mono ?_; rintro e w3 ⟨rfl, rfl⟩))
    all_goals
      go_ret3
      refine ⟨by simp [tripV], below_step ?_ hb2⟩
      go_grown
  · have ea : ahead s.data.toList (putCompact (leV (s.data.toList.tail.take k))) = false := by
      conv => lhs; arg 1; rw [data_cons s h0]
      exact putCompact_other _ _ [] k _ hv hk4 hbk hle
    have eb : cl s.data.toList.tail k = (0, 0, false) := by unfold cl; rw [if_neg (fun h => hle h.2.2)]
    rw [eb]
    rw [ea] at A
    have HA : Hid _ := A
    have HC : Hid _ := C
    have HP : Hid _ := P
    clear C A P ea hle hk eg hlen eb h2 hbk hw4
    generalize putCompact (leV (s.data.toList.tail.take k)) = t at *
    generalize leV (s.data.toList.tail.take k) = v at *
    go_enter Tryz.func76, Tryz.ntmps76
    go_wp2
    go_region_with (go_at_call 49; refine (HC.out _).mono ?_; rintro e w1 ⟨rfl, rfl⟩; rw [pairV])
    all_goals go_wp2_with (first | (go_at_call 66; refine (HP.out _).mono ?_; rintro e w2 ⟨rfl, hb2⟩) | (go_at_call 98; refine (HA.out _).mono ?_; rintro e w3 ⟨rfl, rfl⟩))
    all_goals
      go_ret3
      refine ⟨rfl, below_step ?_ hb2⟩
      go_grown
set_option maxRecDepth 100000 in
set_option maxHeartbeats 1000000 in
theorem specGetCompact_3_no (s : ByteArray) (w : World) (hs : s.size ≤ 1048576) (h0 : 0 < s.size) (hne : s.toList.isEmpty = false) (h2 : s[0].toNat % 4 = 3) (hk : ¬ (s[0].toNat / 4 + 4 ≤ 8 ∧ s[0].toNat / 4 + 4 ≤ s.data.toList.tail.length)) : Calls Tryz.prog 76 #[.string s] w fun e w' => e = .returned (tripV (cl s.data.toList.tail (s[0].toNat / 4 + 4))) ∧ Below w.heap.size w w' := by
  have i4 : ((s[0]'h0).toNat : Int) % 4 = 3 := by omega
  have hi1 : (1 : Int) ≤ (s.size : Int) := by omega
  have hw4 := wide4r (s[0]'h0)
  have hk4 : 4 ≤ s[0].toNat / 4 + 4 := by omega
  generalize s[0].toNat / 4 + 4 = k at *
  have C := fun w => specGetLe_all (s.extract 1 s.size) k w (by rw [tail_size]; unfold maxLen; omega)
  have eg : getLe s.data.toList.tail k = (0, false) := by unfold getLe; rw [if_neg (by omega)]
  rw [tail_data, eg, ← hw4] at C
  have P := fun w => specPutCompact_any 0 w (by decide)
  rw [show ((0 : Nat) : Int) = 0 from rfl] at P
  have eb : cl s.data.toList.tail k = (0, 0, false) := by unfold cl; rw [if_neg (fun h => hk ⟨h.1, h.2.1⟩)]
  rw [eb]
  have HC : Hid _ := C
  have HP : Hid _ := P
  clear C P hk eg eb h2 hw4
  generalize putCompact 0 = t at *
  go_enter Tryz.func76, Tryz.ntmps76
  go_wp2
  go_region_with (go_at_call 49; refine (HC.out _).mono ?_; rintro e w1 ⟨rfl, rfl⟩; rw [pairV])
  all_goals go_wp2_with (go_at_call 66; refine (HP.out _).mono ?_; rintro e w2 ⟨rfl, hb2⟩)
  all_goals
    go_ret3
    refine ⟨rfl, below_step ?_ hb2⟩
    go_grown
theorem specGetCompact_any (s : ByteArray) (w : World) (hs : s.size ≤ 1048576) : Calls Tryz.prog 76 #[.string s] w fun e w' => e = .returned (tripV (getCompact s.data.toList)) ∧ Below w.heap.size w w' := by
  by_cases h0 : 0 < s.size
  · have hne := isEmpty_no s h0
    have hc : getCompact s.data.toList = if s[0].toNat % 4 = 0 then cw s.data.toList 1 0 else if s[0].toNat % 4 = 1 then cw s.data.toList 2 64 else if s[0].toNat % 4 = 2 then cw s.data.toList 4 16384 else cl s.data.toList.tail (s[0].toNat / 4 + 4) := by
      rw [data_cons s h0]; rfl
    rw [hc]
    by_cases m0 : s[0].toNat % 4 = 0
    · rw [if_pos m0]
      by_cases hk : 1 ≤ s.data.toList.length
      · exact specGetCompact_0_in s w hs h0 hne m0 hk
      · exact specGetCompact_0_no s w hs h0 hne m0 hk
    · rw [if_neg m0]
      by_cases m1 : s[0].toNat % 4 = 1
      · rw [if_pos m1]
        by_cases hk : 2 ≤ s.data.toList.length
        · exact specGetCompact_1_in s w hs h0 hne m1 hk
        · exact specGetCompact_1_no s w hs h0 hne m1 hk
      · rw [if_neg m1]
        by_cases m2 : s[0].toNat % 4 = 2
        · rw [if_pos m2]
          by_cases hk : 4 ≤ s.data.toList.length
          · exact specGetCompact_2_in s w hs h0 hne m2 hk
          · exact specGetCompact_2_no s w hs h0 hne m2 hk
        · rw [if_neg m2]
          by_cases hk : s[0].toNat / 4 + 4 ≤ 8 ∧ s[0].toNat / 4 + 4 ≤ s.data.toList.tail.length
          · exact specGetCompact_3_in s w hs h0 hne (by omega) hk.1 hk.2
          · exact specGetCompact_3_no s w hs h0 hne (by omega) hk
  · have hne := isEmpty_yes s h0
    rw [data_nil s h0]
    go_enter Tryz.func76, Tryz.ntmps76
    go_wp2
    go_ret3
    exact ⟨rfl, Below.refl _ _⟩
end Go.Proofs.YtepffjfgomhepaaGreatDoor
