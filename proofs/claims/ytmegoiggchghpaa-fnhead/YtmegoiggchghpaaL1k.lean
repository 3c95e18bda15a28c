/- RLP's heads read by the specification: contracts. -/
import Derived.Test.YtmegoiggchghpaaL1j
namespace Go.Proofs.Ytmegoiggchghpaa
open Go.RowKit
set_option linter.unusedVariables false
theorem headL_len (list : Bool) (n : Nat) (h : n ≤ 65535) : (headL list n).length ≤ 3 := by
  have := by8_16 n h
  unfold headL
  split
  · simp [leL_len]
  · simp [leL_len]; omega
theorem headL_lo (b : UInt8) (r : List UInt8) (h : 128 ≤ b.toNat) (hm : b.toNat % 64 < 56) : headL (decide (192 ≤ b.toNat)) (b.toNat % 64) = [b] := by
  have hb := b.toNat_lt
  unfold headL
  rw [if_pos hm]
  have e : headB (decide (192 ≤ b.toNat)) + b.toNat % 64 = b.toNat := by
    unfold headB
    by_cases h2 : 192 ≤ b.toNat
    · rw [decide_eq_true h2]; simp; omega
    · rw [decide_eq_false h2]; simp; omega
  rw [e, leL_cons, UInt8.ofNat_toNat]
  rfl
theorem headB_b (b : UInt8) (h : 128 ≤ b.toNat) : headB (decide (192 ≤ b.toNat)) + b.toNat % 64 = b.toNat := by
  have hb := b.toNat_lt
  unfold headB
  by_cases h2 : 192 ≤ b.toNat
  · rw [decide_eq_true h2]; simp; omega
  · rw [decide_eq_false h2]; simp; omega
theorem headB_le (l : Bool) : headB l ≤ 192 := by cases l <;> decide
theorem headL_yes (b : UInt8) (r : List UInt8) (k : Nat) (h : 128 ≤ b.toNat) (hk : k = b.toNat % 64 - 55) (hm : 56 ≤ b.toNat % 64) (hr : k ≤ r.length) (h56 : 56 ≤ leV (r.take k).reverse) (hbk : by8 (leV (r.take k).reverse) = k) :
    headL (decide (192 ≤ b.toNat)) (leV (r.take k).reverse) = b :: r.take k := by
  have hB := headB_b b h
  have e := leL_leV (r.take k).reverse
  rw [List.length_reverse, List.length_take, Nat.min_eq_left hr] at e
  unfold headL
  rw [if_neg (by omega), hbk, e, List.reverse_reverse, show headB (decide (192 ≤ b.toNat)) + 55 + k = b.toNat from by omega, leL_cons, UInt8.ofNat_toNat]
  rfl
theorem headL_no (b : UInt8) (r : List UInt8) (v : Nat) (h : 128 ≤ b.toNat) (hm : 56 ≤ b.toNat % 64) (hv : v ≤ 65535) (hn : ¬ (56 ≤ v ∧ by8 v = b.toNat % 64 - 55)) : ahead (b :: r) (headL (decide (192 ≤ b.toNat)) v) = false := by
  have hB := headB_b b h
  have hb := b.toNat_lt
  have h2 := by8_16 v hv
  have hl := headB_le (decide (192 ≤ b.toNat))
  unfold headL
  by_cases h56 : v < 56
  · rw [if_pos h56, leL_cons]
    refine ahead_ne _ _ _ _ (fun hc => ?_)
    have := congrArg UInt8.toNat hc
    rw [UInt8.toNat_ofNat'] at this
    omega
  · rw [if_neg h56, leL_cons]
    refine ahead_ne _ _ _ _ (fun hc => hn ⟨by omega, ?_⟩)
    have := congrArg UInt8.toNat hc
    rw [UInt8.toNat_ofNat'] at this
    omega
set_option maxRecDepth 100000 in
set_option maxHeartbeats 1000000 in
theorem specGetHead_lo (s : ByteArray) (w : World) (hs : s.size ≤ 1048576) (h0 : 0 < s.size) (hge : 128 ≤ (s[0]'h0).toNat) (hm : (s[0]'h0).toNat % 64 < 56) : Calls Try.prog 44 #[.string s] w fun e w' => e = .returned (quadV (decide (192 ≤ (s[0]'h0).toNat), (s[0]'h0).toNat % 64, 1, true)) ∧ Below w.heap.size w w' := by
  have hne := isEmpty_no s h0
  have h128 : decide (((s[0]'h0).toNat : Int) < 128) = false := decide_eq_false (by omega)
  have h192 : decide ((192 : Int) ≤ ((s[0]'h0).toNat : Int)) = decide (192 ≤ (s[0]'h0).toNat) := by
    by_cases h : 192 ≤ (s[0]'h0).toNat
    · rw [decide_eq_true h, decide_eq_true (by omega)]
    · rw [decide_eq_false h, decide_eq_false (by omega)]
  have eh := headL_lo (s[0]'h0) [] hge hm
  have P := fun w => l1Head_any (decide (192 ≤ (s[0]'h0).toNat)) ((s[0]'h0).toNat % 64) w (by omega)
  rw [eh, show (((s[0]'h0).toNat % 64 : Nat) : Int) = ((s[0]'h0).toNat : Int) % 64 from by omega] at P
  have A := fun w => l1Ahead_list s [s[0]'h0] w hs (by simp)
  have ea : ahead s.data.toList [s[0]'h0] = true := by
    conv => lhs; arg 1; rw [data_cons s h0]
    exact ahead_yes _ _ 0 (Nat.zero_le _)
  rw [ea] at A
  have HP : Hid _ := P
  have HA : Hid _ := A
  have hlt : ((s[0]'h0).toNat : Int) % 64 ≤ 55 := by omega
  clear P A ea eh hm hge
  generalize decide (192 ≤ (s[0]'h0).toNat) = l at *
  go_enter Try.func44, Try.ntmps44
  go_wp2_with (first | (go_at_call 83; refine (HP.out _).mono ?_; rintro e w2 ⟨rfl, hb2⟩) | (go_at_call 72; refine (HA.out _).mono ?_; rintro e w3 ⟨rfl, rfl⟩))
  exact quad_ret rfl rfl ⟨by simp [quadV], hb2⟩
set_option maxRecDepth 100000 in
set_option maxHeartbeats 1000000 in
theorem specGetHead_hi (s : ByteArray) (w : World) (hs : s.size ≤ 1048576) (h0 : 0 < s.size) (hge : 128 ≤ (s[0]'h0).toNat) (hm : 56 ≤ (s[0]'h0).toNat % 64) : Calls Try.prog 44 #[.string s] w fun e w' => e = .returned (quadV (hl (decide (192 ≤ (s[0]'h0).toNat)) s.data.toList.tail ((s[0]'h0).toNat % 64 - 55))) ∧ Below w.heap.size w w' := by
  have hne := isEmpty_no s h0
  have hi1 : (1 : Int) ≤ (s.size : Int) := by omega
  have h128 : decide (((s[0]'h0).toNat : Int) < 128) = false := decide_eq_false (by omega)
  have h192 : decide ((192 : Int) ≤ ((s[0]'h0).toNat : Int)) = decide (192 ≤ (s[0]'h0).toNat) := by
    by_cases h : 192 ≤ (s[0]'h0).toNat
    · rw [decide_eq_true h, decide_eq_true (by omega)]
    · rw [decide_eq_false h, decide_eq_false (by omega)]
  have h55 : (55 : Int) < ((s[0]'h0).toNat : Int) % 64 := by omega
  obtain ⟨k, hk⟩ : ∃ k, k = (s[0]'h0).toNat % 64 - 55 := ⟨_, rfl⟩
  have hk1 : 1 ≤ k := by omega
  have hk8 : k ≤ 8 := by omega
  rw [← hk]
  have C := fun w => specGetBe_all (s.extract 1 s.size) k w (by rw [tail_size]; unfold maxLen; omega)
  rw [tail_data] at C
  by_cases hr : k ≤ s.data.toList.tail.length
  · have eg : getBe s.data.toList.tail k = (leV (s.data.toList.tail.take k).reverse, true) := by unfold getBe; rw [if_pos ⟨by omega, by omega, by omega⟩, Int.toNat_natCast]
    rw [eg, show (k : Int) = ((s[0]'h0).toNat : Int) % 64 - 55 from by omega] at C
    by_cases h16 : leV (s.data.toList.tail.take k).reverse ≤ 65535
    · have i16 : decide ((65535 : Int) < ((leV (s.data.toList.tail.take k).reverse : Nat) : Int)) = false := decide_eq_false (by omega)
      have hv' : ((leV (s.data.toList.tail.take k).reverse : Nat) : Int) ≤ 65535 := by omega
      have P := fun w => l1Head_any (decide (192 ≤ (s[0]'h0).toNat)) (leV (s.data.toList.tail.take k).reverse) w h16
      have hlen := headL_len (decide (192 ≤ (s[0]'h0).toNat)) _ h16
      have A := fun w => l1Ahead_list s (headL (decide (192 ≤ (s[0]'h0).toNat)) (leV (s.data.toList.tail.take k).reverse)) w hs (by omega)
      by_cases hle : 56 ≤ leV (s.data.toList.tail.take k).reverse ∧ by8 (leV (s.data.toList.tail.take k).reverse) = k
      · have ep := headL_yes (s[0]'h0) s.data.toList.tail k hge hk hm hr hle.1 hle.2
        have h2 := by8_16 _ h16
        have ea : ahead s.data.toList (headL (decide (192 ≤ (s[0]'h0).toNat)) (leV (s.data.toList.tail.take k).reverse)) = true := by
          rw [ep]; conv => lhs; arg 1; rw [data_cons s h0]
          exact ahead_yes _ _ _ hr
        have el : (headL (decide (192 ≤ (s[0]'h0).toNat)) (leV (s.data.toList.tail.take k).reverse)).length = 1 + k := by rw [ep, List.length_cons, List.length_take, Nat.min_eq_left hr, Nat.add_comm]
        have eb : hl (decide (192 ≤ (s[0]'h0).toNat)) s.data.toList.tail k = (decide (192 ≤ (s[0]'h0).toNat), leV (s.data.toList.tail.take k).reverse, 1 + k, true) := by unfold hl; rw [if_pos ⟨by omega, hr, hle.1, hle.2⟩]
        rw [eb]
        rw [ea] at A
        have HA : Hid _ := A
        have HC : Hid _ := C
        have HP : Hid _ := P
        clear C A P ep ea hle hr eg hlen eb hk hk1 hk8 h2 h16 hm hge
        generalize headL (decide (192 ≤ (s[0]'h0).toNat)) (leV (s.data.toList.tail.take k).reverse) = t at *
        generalize leV (s.data.toList.tail.take k).reverse = v at *
        generalize decide (192 ≤ (s[0]'h0).toNat) = l at *
        go_enter Try.func44, Try.ntmps44
        go_wp2_with (first | (go_at_call 20; refine (HC.out _).mono ?_; rintro e w1 ⟨rfl, hb1⟩; rw [pairV]) | (go_at_call 83; refine (HP.out _).mono ?_; rintro e w2 ⟨rfl, hb2⟩) | (go_at_call 72; refine (HA.out _).mono ?_; rintro e w3 ⟨rfl, rfl⟩))
        exact quad_ret rfl rfl ⟨by simp [quadV], below_step hb1 hb2⟩
      · have ea : ahead s.data.toList (headL (decide (192 ≤ (s[0]'h0).toNat)) (leV (s.data.toList.tail.take k).reverse)) = false := by
          conv => lhs; arg 1; rw [data_cons s h0]
          exact headL_no _ _ _ hge hm h16 (by rw [← hk]; exact hle)
        have eb : hl (decide (192 ≤ (s[0]'h0).toNat)) s.data.toList.tail k = (false, 0, 0, false) := by unfold hl; rw [if_neg (fun h => hle h.2.2)]
        rw [eb]
        rw [ea] at A
        have HA : Hid _ := A
        have HC : Hid _ := C
        have HP : Hid _ := P
        clear C A P ea hle hr eg hlen eb hk hk1 hk8 h16 hm hge
        generalize headL (decide (192 ≤ (s[0]'h0).toNat)) (leV (s.data.toList.tail.take k).reverse) = t at *
        generalize leV (s.data.toList.tail.take k).reverse = v at *
        generalize decide (192 ≤ (s[0]'h0).toNat) = l at *
        go_enter Try.func44, Try.ntmps44
        go_wp2_with (first | (go_at_call 20; refine (HC.out _).mono ?_; rintro e w1 ⟨rfl, hb1⟩; rw [pairV]) | (go_at_call 83; refine (HP.out _).mono ?_; rintro e w2 ⟨rfl, hb2⟩) | (go_at_call 72; refine (HA.out _).mono ?_; rintro e w3 ⟨rfl, rfl⟩))
        exact quad_ret rfl rfl ⟨rfl, below_step hb1 hb2⟩
    · have i16 : decide ((65535 : Int) < ((leV (s.data.toList.tail.take k).reverse : Nat) : Int)) = true := decide_eq_true (by omega)
      have hk3 : ¬ k ≤ 2 := fun h => by
        have h1 := leV_rev_lt s.data.toList.tail k hr
        have h2 : 2 ^ (8 * k) ≤ 2 ^ 16 := Nat.pow_le_pow_right (by decide) (by omega)
        omega
      have eb : hl (decide (192 ≤ (s[0]'h0).toNat)) s.data.toList.tail k = (false, 0, 0, false) := by unfold hl; rw [if_neg (fun h => hk3 h.1)]
      rw [eb]
      have HC : Hid _ := C
      clear C hr eg eb hk hk1 hk8 h16 hm hge hk3
      generalize leV (s.data.toList.tail.take k).reverse = v at *
      generalize decide (192 ≤ (s[0]'h0).toNat) = l at *
      go_enter Try.func44, Try.ntmps44
      go_wp2_with (go_at_call 20; refine (HC.out _).mono ?_; rintro e w1 ⟨rfl, hb1⟩; rw [pairV])
      exact quad_ret rfl rfl ⟨rfl, hb1⟩
  · have eg : getBe s.data.toList.tail k = (0, false) := by unfold getBe; rw [if_neg (by omega)]
    rw [eg, show (k : Int) = ((s[0]'h0).toNat : Int) % 64 - 55 from by omega] at C
    have eb : hl (decide (192 ≤ (s[0]'h0).toNat)) s.data.toList.tail k = (false, 0, 0, false) := by unfold hl; rw [if_neg (fun h => hr h.2.1)]
    rw [eb]
    have HC : Hid _ := C
    clear C hr eg eb hk hk1 hk8 hm hge
    generalize decide (192 ≤ (s[0]'h0).toNat) = l at *
    go_enter Try.func44, Try.ntmps44
    go_wp2_with (go_at_call 20; refine (HC.out _).mono ?_; rintro e w1 ⟨rfl, hb1⟩; rw [pairV])
    exact quad_ret rfl rfl ⟨rfl, hb1⟩
set_option maxRecDepth 100000 in
set_option maxHeartbeats 1000000 in
theorem specGetHead_any (s : ByteArray) (w : World) (hs : s.size ≤ 1048576) : Calls Try.prog 44 #[.string s] w fun e w' => e = .returned (quadV (getHead s.data.toList)) ∧ Below w.heap.size w w' := by
  by_cases h0 : 0 < s.size
  · rw [data_cons s h0]
    simp only [getHead]
    by_cases h1 : (s[0]'h0).toNat < 128
    · rw [if_pos h1]
      have hne := isEmpty_no s h0
      have h128 : decide (((s[0]'h0).toNat : Int) < 128) = true := decide_eq_true (by omega)
      go_enter Try.func44, Try.ntmps44
      go_wp2
      exact quad_ret rfl rfl ⟨rfl, Below.refl _ _⟩
    · rw [if_neg h1]
      by_cases h2 : (s[0]'h0).toNat % 64 < 56
      · rw [if_pos h2]; exact specGetHead_lo s w hs h0 (by omega) h2
      · rw [if_neg h2]; exact specGetHead_hi s w hs h0 (by omega) (by omega)
  · have hne := isEmpty_yes s h0
    rw [data_nil s h0]
    go_enter Try.func44, Try.ntmps44
    go_wp2
    exact quad_ret rfl rfl ⟨rfl, Below.refl _ _⟩
end Go.Proofs.Ytmegoiggchghpaa
