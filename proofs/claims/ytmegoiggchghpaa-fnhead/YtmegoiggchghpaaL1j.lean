/- RLP's heads read: contracts. -/
import Derived.Test.YtmegoiggchghpaaL1e
import Derived.Test.YtmegoiggchghpaaL1g
namespace Go.Proofs.Ytmegoiggchghpaa
open Go.RowKit
set_option linter.unusedVariables false
theorem results_tmp4 {fn : Func} {t u v x : Tmp} (h : fn.results = #[.tmp t, .tmp u, .tmp v, .tmp x]) (tmps : Array Value) (P : Program) (w : World) :
    (results fn tmps).run P w = .ok (.tuple #[tmps.getD t undef, tmps.getD u undef, tmps.getD v undef, tmps.getD x undef]) w := by
  simp [results, h]
def quadV (x : Bool × Nat × Nat × Bool) : Value := .tuple #[.bool x.1, .int .i64 x.2.1, .int .i64 x.2.2.1, .bool x.2.2.2]
def hl (list : Bool) (r : List UInt8) (k : Nat) : Bool × Nat × Nat × Bool := if k ≤ 2 ∧ k ≤ r.length ∧ 56 ≤ leV (r.take k).reverse ∧ by8 (leV (r.take k).reverse) = k then (list, leV (r.take k).reverse, 1 + k, true) else (false, 0, 0, false)
def getHead : List UInt8 → Bool × Nat × Nat × Bool
  | [] => (false, 0, 0, false)
  | b :: r => if b.toNat < 128 then (false, 0, 0, false) else if b.toNat % 64 < 56 then (decide (192 ≤ b.toNat), b.toNat % 64, 1, true) else hl (decide (192 ≤ b.toNat)) r (b.toNat % 64 - 55)
theorem leV_rev_lt (l : List UInt8) (k : Nat) (h : k ≤ l.length) : leV (l.take k).reverse < 2 ^ (8 * k) := by
  have := leV_lt (l.take k).reverse
  rwa [List.length_reverse, List.length_take, Nat.min_eq_left h] at this
theorem quad_ret {P : Program} {fn : Func} {R : Ending → World → Prop} {a : Act} {w : World} {t u v x : Tmp} (h : fn.results = #[.tmp t, .tmp u, .tmp v, .tmp x]) (hd : a.defers = []) (hR : R (.returned (.tuple #[a.tmps.getD t undef, a.tmps.getD u undef, a.tmps.getD v undef, a.tmps.getD x undef])) w) : bodyPost P fn R .ret a w :=
  bodyPost_ret (results_tmp4 h _ _ _) hd hR
theorem short_true (b : UInt8) (h : 192 ≤ b.toNat) (h' : b.toNat < 192 + 64) : wrap64 (((b.toNat : Int) - 192) % 256) = ((b.toNat % 64 : Nat) : Int) := by
  have hb := b.toNat_lt
  simp only [wrap64]
  omega
set_option maxRecDepth 100000 in
set_option maxHeartbeats 1000000 in
theorem implGetHead_true_lo (s : ByteArray) (w : World) (hs : s.size ≤ 1048576) (h0 : 0 < s.size) (hne : s.toList.isEmpty = false) (h128 : decide (((s[0]'h0).toNat : Int) < 128) = false) (h192 : decide ((192 : Int) ≤ ((s[0]'h0).toNat : Int)) = true) (m : Nat) (hm : wrap64 ((((s[0]'h0).toNat : Int) - 192) % 256) = (m : Int)) (hlt : (m : Int) < 56) : Calls Try.prog 43 #[.string s] w fun e w' => e = .returned (quadV (true, m, 1, true)) ∧ Below w.heap.size w w' := by
  go_enter Try.func43, Try.ntmps43
  go_wp2
  go_region_with (go_at_call 78; refine (headBase_true _).mono ?_; rintro e w' ⟨rfl, rfl⟩)
  all_goals
    go_wp2
    refine quad_ret rfl rfl ⟨by rw [hm]; rfl, ?_⟩
    go_grown
set_option maxRecDepth 100000 in
set_option maxHeartbeats 1000000 in
theorem implGetHead_true_wide (s : ByteArray) (w : World) (hs : s.size ≤ 1048576) (h0 : 0 < s.size) (hne : s.toList.isEmpty = false) (h128 : decide (((s[0]'h0).toNat : Int) < 128) = false) (h192 : decide ((192 : Int) ≤ ((s[0]'h0).toNat : Int)) = true) (m : Nat) (hm : wrap64 ((((s[0]'h0).toNat : Int) - 192) % 256) = (m : Int)) (hlt : (58 : Int) ≤ (m : Int)) (hm63 : (m : Int) ≤ 63) : Calls Try.prog 43 #[.string s] w fun e w' => e = .returned (quadV (false, 0, 0, false)) ∧ Below w.heap.size w w' := by
  go_enter Try.func43, Try.ntmps43
  go_wp2
  go_region_with (go_at_call 78; refine (headBase_true _).mono ?_; rintro e w' ⟨rfl, rfl⟩)
  all_goals
    go_wp2_with (go_at_call 81; refine (widthOf_u16_any _).mono ?_; rintro e w' ⟨rfl, rfl⟩)
    refine quad_ret rfl rfl ⟨rfl, ?_⟩
    go_grown
set_option maxRecDepth 100000 in
set_option maxHeartbeats 1000000 in
theorem implGetHead_true_mid (s : ByteArray) (w : World) (hs : s.size ≤ 1048576) (h0 : 0 < s.size) (hne : s.toList.isEmpty = false) (h128 : decide (((s[0]'h0).toNat : Int) < 128) = false) (h192 : decide ((192 : Int) ≤ ((s[0]'h0).toNat : Int)) = true) (m : Nat) (hm : wrap64 ((((s[0]'h0).toNat : Int) - 192) % 256) = (m : Int)) (hlt : (56 : Int) ≤ (m : Int)) (hm57 : (m : Int) ≤ 57) : Calls Try.prog 43 #[.string s] w fun e w' => e = .returned (quadV (hl true s.data.toList.tail (m - 55))) ∧ Below w.heap.size w w' := by
  have hi1 : (1 : Int) ≤ (s.size : Int) := by omega
  have hts := tail_size s
  have htl : s.data.toList.tail.length = s.size - 1 := by rw [List.length_tail, Array.length_toList]; rfl
  have C := fun w => readHigh_u16_any (s.extract 1 s.size) (m - 55) w (by omega) (by rw [tail_size]; unfold maxLen; omega)
  rw [hts, tail_data, show ((m - 55 : Nat) : Int) = (m : Int) - 56 + 1 from by omega] at C
  by_cases hk : m - 55 ≤ s.size - 1
  · rw [if_neg (by omega), decide_eq_true hk] at C
    have hv : leV (s.data.toList.tail.take (m - 55)).reverse < 65536 := Nat.lt_of_lt_of_le (leV_rev_lt _ _ (by omega)) (Nat.le_trans (Nat.pow_le_pow_right (by decide) (show 8 * (m - 55) ≤ 16 by omega)) (by decide))
    have B := fun w => bytesOf_u16_any (leV (s.data.toList.tail.take (m - 55)).reverse) w hv
    have HC : Hid _ := C
    by_cases h56 : 56 ≤ leV (s.data.toList.tail.take (m - 55)).reverse
    · have i56 : decide (((leV (s.data.toList.tail.take (m - 55)).reverse : Nat) : Int) < 56) = false := decide_eq_false (by omega)
      have hb2 := by8_16 _ (Nat.le_of_lt_succ hv)
      by_cases hbk : by8 (leV (s.data.toList.tail.take (m - 55)).reverse) = m - 55
      · have e : hl true s.data.toList.tail (m - 55) = (true, leV (s.data.toList.tail.take (m - 55)).reverse, 1 + (m - 55), true) := by unfold hl; rw [if_pos ⟨by omega, by omega, h56, hbk⟩]
        rw [e]
        rw [hbk, show ((m - 55 : Nat) : Int) = (m : Int) - 56 + 1 from by omega] at B
        have hv' : ((leV (s.data.toList.tail.take (m - 55)).reverse : Nat) : Int) ≤ 65535 := by omega
        have HB : Hid _ := B
        have HM : Hid ((1 : Int) + ((m : Int) - 56 + 1) = ((1 + (m - 55) : Nat) : Int)) := by show _ = _; omega
        clear C e h56 hv hts htl hbk hb2 B hk
        generalize leV (s.data.toList.tail.take (m - 55)).reverse = v at *
        go_enter Try.func43, Try.ntmps43
        go_wp2
        go_region_with (go_at_call 78; refine (headBase_true _).mono ?_; rintro e w' ⟨rfl, rfl⟩)
        all_goals
          go_wp2_with (first | (go_at_call 81; refine (widthOf_u16_any _).mono ?_; rintro e w' ⟨rfl, rfl⟩) | (go_at_call 82; refine (HC.out _).mono ?_; rintro e w' ⟨rfl, rfl⟩) | (go_at_call 79; refine (HB.out _).mono ?_; rintro e w' ⟨rfl, rfl⟩))
          refine quad_ret rfl rfl ⟨by simp only [quadV]; rw [← HM.out]; rfl, ?_⟩
          go_grown
      · have e : hl true s.data.toList.tail (m - 55) = (false, 0, 0, false) := by unfold hl; rw [if_neg (fun h => hbk h.2.2.2)]
        rw [e]
        have hne2 : ((by8 (leV (s.data.toList.tail.take (m - 55)).reverse) : Int) != (m : Int) - 56 + 1) = true := by rw [bne_iff_ne]; omega
        have HB : Hid _ := B
        clear C e h56 hv hts htl hbk hb2 B hk
        generalize by8 (leV (s.data.toList.tail.take (m - 55)).reverse) = n8 at *
        generalize leV (s.data.toList.tail.take (m - 55)).reverse = v at *
        go_enter Try.func43, Try.ntmps43
        go_wp2
        go_region_with (go_at_call 78; refine (headBase_true _).mono ?_; rintro e w' ⟨rfl, rfl⟩)
        all_goals
          go_wp2_with (first | (go_at_call 81; refine (widthOf_u16_any _).mono ?_; rintro e w' ⟨rfl, rfl⟩) | (go_at_call 82; refine (HC.out _).mono ?_; rintro e w' ⟨rfl, rfl⟩) | (go_at_call 79; refine (HB.out _).mono ?_; rintro e w' ⟨rfl, rfl⟩))
          refine quad_ret rfl rfl ⟨rfl, ?_⟩
          go_grown
    · have i56 : decide (((leV (s.data.toList.tail.take (m - 55)).reverse : Nat) : Int) < 56) = true := decide_eq_true (by omega)
      have e : hl true s.data.toList.tail (m - 55) = (false, 0, 0, false) := by unfold hl; rw [if_neg (fun h => h56 h.2.2.1)]
      rw [e]
      clear C e h56 hv hts htl B hk
      generalize leV (s.data.toList.tail.take (m - 55)).reverse = v at *
      go_enter Try.func43, Try.ntmps43
      go_wp2
      go_region_with (go_at_call 78; refine (headBase_true _).mono ?_; rintro e w' ⟨rfl, rfl⟩)
      all_goals
        go_wp2_with (first | (go_at_call 81; refine (widthOf_u16_any _).mono ?_; rintro e w' ⟨rfl, rfl⟩) | (go_at_call 82; refine (HC.out _).mono ?_; rintro e w' ⟨rfl, rfl⟩))
        refine quad_ret rfl rfl ⟨rfl, ?_⟩
        go_grown
  · rw [if_pos (by omega), decide_eq_false hk] at C
    have HC : Hid _ := C
    have e : hl true s.data.toList.tail (m - 55) = (false, 0, 0, false) := by unfold hl; rw [if_neg (fun h => hk (by have := h.2.1; omega))]
    rw [e]
    clear C e hts htl hk
    go_enter Try.func43, Try.ntmps43
    go_wp2
    go_region_with (go_at_call 78; refine (headBase_true _).mono ?_; rintro e w' ⟨rfl, rfl⟩)
    all_goals
      go_wp2_with (first | (go_at_call 81; refine (widthOf_u16_any _).mono ?_; rintro e w' ⟨rfl, rfl⟩) | (go_at_call 82; refine (HC.out _).mono ?_; rintro e w' ⟨rfl, rfl⟩))
      refine quad_ret rfl rfl ⟨rfl, ?_⟩
      go_grown
theorem implGetHead_true (s : ByteArray) (w : World) (hs : s.size ≤ 1048576) (h0 : 0 < s.size) (hlo : 192 ≤ (s[0]'h0).toNat) (hhi : (s[0]'h0).toNat < 192 + 64) : Calls Try.prog 43 #[.string s] w fun e w' => e = .returned (quadV (if (s[0]'h0).toNat % 64 < 56 then (true, (s[0]'h0).toNat % 64, 1, true) else hl true s.data.toList.tail ((s[0]'h0).toNat % 64 - 55))) ∧ Below w.heap.size w w' := by
  have hne := isEmpty_no s h0
  have h128 : decide (((s[0]'h0).toNat : Int) < 128) = false := decide_eq_false (by omega)
  have h192 : decide ((192 : Int) ≤ ((s[0]'h0).toNat : Int)) = true := decide_eq_true (by omega)
  have hm := short_true (s[0]'h0) hlo hhi
  by_cases h1 : (s[0]'h0).toNat % 64 < 56
  · rw [if_pos h1]; exact implGetHead_true_lo s w hs h0 hne h128 h192 _ hm (by omega)
  · rw [if_neg h1]
    by_cases h2 : (s[0]'h0).toNat % 64 ≤ 57
    · exact implGetHead_true_mid s w hs h0 hne h128 h192 _ hm (by omega) (by omega)
    · have e : hl true s.data.toList.tail ((s[0]'h0).toNat % 64 - 55) = (false, 0, 0, false) := by unfold hl; rw [if_neg (by omega)]
      rw [e]
      exact implGetHead_true_wide s w hs h0 hne h128 h192 _ hm (by omega) (by omega)
theorem short_false (b : UInt8) (h : 128 ≤ b.toNat) (h' : b.toNat < 128 + 64) : wrap64 (((b.toNat : Int) - 128) % 256) = ((b.toNat % 64 : Nat) : Int) := by
  have hb := b.toNat_lt
  simp only [wrap64]
  omega
set_option maxRecDepth 100000 in
set_option maxHeartbeats 1000000 in
theorem implGetHead_false_lo (s : ByteArray) (w : World) (hs : s.size ≤ 1048576) (h0 : 0 < s.size) (hne : s.toList.isEmpty = false) (h128 : decide (((s[0]'h0).toNat : Int) < 128) = false) (h192 : decide ((192 : Int) ≤ ((s[0]'h0).toNat : Int)) = false) (m : Nat) (hm : wrap64 ((((s[0]'h0).toNat : Int) - 128) % 256) = (m : Int)) (hlt : (m : Int) < 56) : Calls Try.prog 43 #[.string s] w fun e w' => e = .returned (quadV (false, m, 1, true)) ∧ Below w.heap.size w w' := by
  go_enter Try.func43, Try.ntmps43
  go_wp2
  go_region_with (go_at_call 78; refine (headBase_false _).mono ?_; rintro e w' ⟨rfl, rfl⟩)
  all_goals
    go_wp2
    refine quad_ret rfl rfl ⟨by rw [hm]; rfl, ?_⟩
    go_grown
set_option maxRecDepth 100000 in
set_option maxHeartbeats 1000000 in
theorem implGetHead_false_wide (s : ByteArray) (w : World) (hs : s.size ≤ 1048576) (h0 : 0 < s.size) (hne : s.toList.isEmpty = false) (h128 : decide (((s[0]'h0).toNat : Int) < 128) = false) (h192 : decide ((192 : Int) ≤ ((s[0]'h0).toNat : Int)) = false) (m : Nat) (hm : wrap64 ((((s[0]'h0).toNat : Int) - 128) % 256) = (m : Int)) (hlt : (58 : Int) ≤ (m : Int)) (hm63 : (m : Int) ≤ 63) : Calls Try.prog 43 #[.string s] w fun e w' => e = .returned (quadV (false, 0, 0, false)) ∧ Below w.heap.size w w' := by
  go_enter Try.func43, Try.ntmps43
  go_wp2
  go_region_with (go_at_call 78; refine (headBase_false _).mono ?_; rintro e w' ⟨rfl, rfl⟩)
  all_goals
    go_wp2_with (go_at_call 81; refine (widthOf_u16_any _).mono ?_; rintro e w' ⟨rfl, rfl⟩)
    refine quad_ret rfl rfl ⟨rfl, ?_⟩
    go_grown
set_option maxRecDepth 100000 in
set_option maxHeartbeats 1000000 in
theorem implGetHead_false_mid (s : ByteArray) (w : World) (hs : s.size ≤ 1048576) (h0 : 0 < s.size) (hne : s.toList.isEmpty = false) (h128 : decide (((s[0]'h0).toNat : Int) < 128) = false) (h192 : decide ((192 : Int) ≤ ((s[0]'h0).toNat : Int)) = false) (m : Nat) (hm : wrap64 ((((s[0]'h0).toNat : Int) - 128) % 256) = (m : Int)) (hlt : (56 : Int) ≤ (m : Int)) (hm57 : (m : Int) ≤ 57) : Calls Try.prog 43 #[.string s] w fun e w' => e = .returned (quadV (hl false s.data.toList.tail (m - 55))) ∧ Below w.heap.size w w' := by
  have hi1 : (1 : Int) ≤ (s.size : Int) := by omega
  have hts := tail_size s
  have htl : s.data.toList.tail.length = s.size - 1 := by rw [List.length_tail, Array.length_toList]; rfl
  have C := fun w => readHigh_u16_any (s.extract 1 s.size) (m - 55) w (by omega) (by rw [tail_size]; unfold maxLen; omega)
  rw [hts, tail_data, show ((m - 55 : Nat) : Int) = (m : Int) - 56 + 1 from by omega] at C
  by_cases hk : m - 55 ≤ s.size - 1
  · rw [if_neg (by omega), decide_eq_true hk] at C
    have hv : leV (s.data.toList.tail.take (m - 55)).reverse < 65536 := Nat.lt_of_lt_of_le (leV_rev_lt _ _ (by omega)) (Nat.le_trans (Nat.pow_le_pow_right (by decide) (show 8 * (m - 55) ≤ 16 by omega)) (by decide))
    have B := fun w => bytesOf_u16_any (leV (s.data.toList.tail.take (m - 55)).reverse) w hv
    have HC : Hid _ := C
    by_cases h56 : 56 ≤ leV (s.data.toList.tail.take (m - 55)).reverse
    · have i56 : decide (((leV (s.data.toList.tail.take (m - 55)).reverse : Nat) : Int) < 56) = false := decide_eq_false (by omega)
      have hb2 := by8_16 _ (Nat.le_of_lt_succ hv)
      by_cases hbk : by8 (leV (s.data.toList.tail.take (m - 55)).reverse) = m - 55
      · have e : hl false s.data.toList.tail (m - 55) = (false, leV (s.data.toList.tail.take (m - 55)).reverse, 1 + (m - 55), true) := by unfold hl; rw [if_pos ⟨by omega, by omega, h56, hbk⟩]
        rw [e]
        rw [hbk, show ((m - 55 : Nat) : Int) = (m : Int) - 56 + 1 from by omega] at B
        have hv' : ((leV (s.data.toList.tail.take (m - 55)).reverse : Nat) : Int) ≤ 65535 := by omega
        have HB : Hid _ := B
        have HM : Hid ((1 : Int) + ((m : Int) - 56 + 1) = ((1 + (m - 55) : Nat) : Int)) := by show _ = _; omega
        clear C e h56 hv hts htl hbk hb2 B hk
        generalize leV (s.data.toList.tail.take (m - 55)).reverse = v at *
        go_enter Try.func43, Try.ntmps43
        go_wp2
        go_region_with (go_at_call 78; refine (headBase_false _).mono ?_; rintro e w' ⟨rfl, rfl⟩)
        all_goals
          go_wp2_with (first | (go_at_call 81; refine (widthOf_u16_any _).mono ?_; rintro e w' ⟨rfl, rfl⟩) | (go_at_call 82; refine (HC.out _).mono ?_; rintro e w' ⟨rfl, rfl⟩) | (go_at_call 79; refine (HB.out _).mono ?_; rintro e w' ⟨rfl, rfl⟩))
          refine quad_ret rfl rfl ⟨by simp only [quadV]; rw [← HM.out]; rfl, ?_⟩
          go_grown
      · have e : hl false s.data.toList.tail (m - 55) = (false, 0, 0, false) := by unfold hl; rw [if_neg (fun h => hbk h.2.2.2)]
        rw [e]
        have hne2 : ((by8 (leV (s.data.toList.tail.take (m - 55)).reverse) : Int) != (m : Int) - 56 + 1) = true := by rw [bne_iff_ne]; omega
        have HB : Hid _ := B
        clear C e h56 hv hts htl hbk hb2 B hk
        generalize by8 (leV (s.data.toList.tail.take (m - 55)).reverse) = n8 at *
        generalize leV (s.data.toList.tail.take (m - 55)).reverse = v at *
        go_enter Try.func43, Try.ntmps43
        go_wp2
        go_region_with (go_at_call 78; refine (headBase_false _).mono ?_; rintro e w' ⟨rfl, rfl⟩)
        all_goals
          go_wp2_with (first | (go_at_call 81; refine (widthOf_u16_any _).mono ?_; rintro e w' ⟨rfl, rfl⟩) | (go_at_call 82; refine (HC.out _).mono ?_; rintro e w' ⟨rfl, rfl⟩) | (go_at_call 79; refine (HB.out _).mono ?_; rintro e w' ⟨rfl, rfl⟩))
          refine quad_ret rfl rfl ⟨rfl, ?_⟩
          go_grown
    · have i56 : decide (((leV (s.data.toList.tail.take (m - 55)).reverse : Nat) : Int) < 56) = true := decide_eq_true (by omega)
      have e : hl false s.data.toList.tail (m - 55) = (false, 0, 0, false) := by unfold hl; rw [if_neg (fun h => h56 h.2.2.1)]
      rw [e]
      clear C e h56 hv hts htl B hk
      generalize leV (s.data.toList.tail.take (m - 55)).reverse = v at *
      go_enter Try.func43, Try.ntmps43
      go_wp2
      go_region_with (go_at_call 78; refine (headBase_false _).mono ?_; rintro e w' ⟨rfl, rfl⟩)
      all_goals
        go_wp2_with (first | (go_at_call 81; refine (widthOf_u16_any _).mono ?_; rintro e w' ⟨rfl, rfl⟩) | (go_at_call 82; refine (HC.out _).mono ?_; rintro e w' ⟨rfl, rfl⟩))
        refine quad_ret rfl rfl ⟨rfl, ?_⟩
        go_grown
  · rw [if_pos (by omega), decide_eq_false hk] at C
    have HC : Hid _ := C
    have e : hl false s.data.toList.tail (m - 55) = (false, 0, 0, false) := by unfold hl; rw [if_neg (fun h => hk (by have := h.2.1; omega))]
    rw [e]
    clear C e hts htl hk
    go_enter Try.func43, Try.ntmps43
    go_wp2
    go_region_with (go_at_call 78; refine (headBase_false _).mono ?_; rintro e w' ⟨rfl, rfl⟩)
    all_goals
      go_wp2_with (first | (go_at_call 81; refine (widthOf_u16_any _).mono ?_; rintro e w' ⟨rfl, rfl⟩) | (go_at_call 82; refine (HC.out _).mono ?_; rintro e w' ⟨rfl, rfl⟩))
      refine quad_ret rfl rfl ⟨rfl, ?_⟩
      go_grown
theorem implGetHead_false (s : ByteArray) (w : World) (hs : s.size ≤ 1048576) (h0 : 0 < s.size) (hlo : 128 ≤ (s[0]'h0).toNat) (hhi : (s[0]'h0).toNat < 128 + 64) : Calls Try.prog 43 #[.string s] w fun e w' => e = .returned (quadV (if (s[0]'h0).toNat % 64 < 56 then (false, (s[0]'h0).toNat % 64, 1, true) else hl false s.data.toList.tail ((s[0]'h0).toNat % 64 - 55))) ∧ Below w.heap.size w w' := by
  have hne := isEmpty_no s h0
  have h128 : decide (((s[0]'h0).toNat : Int) < 128) = false := decide_eq_false (by omega)
  have h192 : decide ((192 : Int) ≤ ((s[0]'h0).toNat : Int)) = false := decide_eq_false (by omega)
  have hm := short_false (s[0]'h0) hlo hhi
  by_cases h1 : (s[0]'h0).toNat % 64 < 56
  · rw [if_pos h1]; exact implGetHead_false_lo s w hs h0 hne h128 h192 _ hm (by omega)
  · rw [if_neg h1]
    by_cases h2 : (s[0]'h0).toNat % 64 ≤ 57
    · exact implGetHead_false_mid s w hs h0 hne h128 h192 _ hm (by omega) (by omega)
    · have e : hl false s.data.toList.tail ((s[0]'h0).toNat % 64 - 55) = (false, 0, 0, false) := by unfold hl; rw [if_neg (by omega)]
      rw [e]
      exact implGetHead_false_wide s w hs h0 hne h128 h192 _ hm (by omega) (by omega)
set_option maxRecDepth 100000 in
set_option maxHeartbeats 1000000 in
theorem implGetHead_any (s : ByteArray) (w : World) (hs : s.size ≤ 1048576) : Calls Try.prog 43 #[.string s] w fun e w' => e = .returned (quadV (getHead s.data.toList)) ∧ Below w.heap.size w w' := by
  by_cases h0 : 0 < s.size
  · have hb256 := (s[0]'h0).toNat_lt
    rw [data_cons s h0]
    simp only [getHead]
    by_cases h1 : (s[0]'h0).toNat < 128
    · rw [if_pos h1]
      have hne := isEmpty_no s h0
      have h128 : decide (((s[0]'h0).toNat : Int) < 128) = true := decide_eq_true (by omega)
      go_enter Try.func43, Try.ntmps43
      go_wp2
      exact quad_ret rfl rfl ⟨rfl, Below.refl _ _⟩
    · rw [if_neg h1]
      by_cases h2 : 192 ≤ (s[0]'h0).toNat
      · rw [decide_eq_true h2]; exact implGetHead_true s w hs h0 h2 (by omega)
      · rw [decide_eq_false h2]; exact implGetHead_false s w hs h0 (by omega) (by omega)
  · have hne := isEmpty_yes s h0
    rw [data_nil s h0]
    go_enter Try.func43, Try.ntmps43
    go_wp2
    exact quad_ret rfl rfl ⟨rfl, Below.refl _ _⟩
end Go.Proofs.Ytmegoiggchghpaa
