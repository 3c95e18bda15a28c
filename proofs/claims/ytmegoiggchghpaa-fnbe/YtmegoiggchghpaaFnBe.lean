/- Whatever its arguments, laws.FnBe returns true and leaves them as they were; no condition. -/
import Derived.Test.YtmegoiggchghpaaDrawF
import Derived.ProofKit
import Derived.OpenShut
import Derived.ShutString
import Derived.ChangeOld
namespace Go.Proofs.Ytmegoiggchghpaa.fnBe
open Go.ChangeShapes Go.WideShapes Go.ChangeAt Go.RowKit
open Go.ChangeMaps (open_string shut_string)
set_option linter.unusedVariables false
theorem own : ownKnob Try.prog.godebug = none := by kernel_rfl
theorem laidOut : laidOutB Try.prog = true := by kernel_rfl
theorem step2 {w W w3 : World} (h1 : Below w.heap.size w W) (h2 : Below W.heap.size W w3) : Below w.heap.size w w3 := h1.trans (h2.mono h1.size)
theorem putLe_has (n : Nat) (k : Int) (h : putLe n k ≠ []) : ∃ p : Nat, k = p ∧ 1 ≤ p ∧ p ≤ 8 ∧ n < 2 ^ (8 * p) ∧ putLe n k = leL n p := by
  by_cases hc : 1 ≤ k ∧ k ≤ 8 ∧ n < 2 ^ (8 * k.toNat)
  · obtain ⟨p, rfl⟩ := Int.eq_ofNat_of_zero_le (show 0 ≤ k by omega)
    rw [Int.toNat_natCast] at hc
    exact ⟨p, rfl, by omega, by omega, hc.2.2, putLe_yes n p (by omega) (by omega) hc.2.2⟩
  · exact absurd (by unfold putLe; rw [if_neg hc]) h

set_option maxRecDepth 100000 in
set_option maxHeartbeats 4000000 in
theorem walk (a0 : Option Addr) (len0 cap0 : Nat) (z0 : List Int) (a1 : Option Addr) (len1 cap1 : Nat) (z1 : List Int) (w : World) (w0 : IsRow .u8 w a0 len0 cap0 z0) (w1 : IsRow .u8 w a1 len1 cap1 z1) :
    Calls Try.prog 4 #[.slice a0 len0 cap0, .slice a1 len1 cap1] w fun e w' => e = .returned (.bool true) ∧ Below w.heap.size w w' := by
  have hlm0 := w0.len
  have hlm1 := w1.len
  have HB0 : Hid _ := fun w => big_any a0 len0 cap0 w hlm0
  have HB1 : Hid _ := fun w => big_any a1 len1 cap1 w hlm1
  by_cases hbig0 : 1048576 < len0
  · rw [decide_eq_true hbig0] at HB0
    clear w0 w1 hlm0 hlm1 hbig0
    go_enter Try.func4, Try.ntmps4
    go_wp2_with (go_at_call 9; refine (HB0.out _).mono ?_; rintro e w1 ⟨rfl, rfl⟩)
    go_ret
    exact ⟨rfl, Below.refl _ _⟩
  · rw [decide_eq_false hbig0] at HB0
    by_cases hbig1 : 1048576 < len1
    · rw [decide_eq_true hbig1] at HB1
      clear w0 w1 hlm0 hlm1 hbig0 hbig1
      go_enter Try.func4, Try.ntmps4
      go_wp2_with fail
      refine (HB0.out _).mono ?_
      rintro e w1 ⟨rfl, rfl⟩
      go_wp2_with fail
      refine (HB1.out _).mono ?_
      rintro e w1 ⟨rfl, rfl⟩
      go_wp2
      go_ret
      exact ⟨rfl, Below.refl _ _⟩
    · rw [decide_eq_false hbig1] at HB1
      have c0 := w0.code
      have c1 := w1.code
      have HC0 : Hid (CodeAt w.heap.size a0 len0 w) := c0
      have HC1 : Hid (CodeAt w.heap.size a1 len1 w) := c1
      have hl0 : len0 ≤ 1048576 := by omega
      have hl1 : len1 ≤ 1048576 := by omega
      clear w0 w1 hlm0 hlm1 hbig0 hbig1 c0 c1
      go_enter Try.func4, Try.ntmps4
      go_wp2_with fail
      refine (HB0.out _).mono ?_
      rintro e wx ⟨rfl, hwx⟩
      subst hwx
      go_wp2_with fail
      refine (HB1.out _).mono ?_
      rintro e wx ⟨rfl, hwx⟩
      subst hwx
      go_wp2_with fail
      refine (DrawPutBe_any wx.heap.size a0 len0 cap0 wx (Nat.le_refl _) HC0.out hl0).mono ?_
      rintro e w2 ⟨⟨n, k, hn, hk1, hk2, rfl⟩, hb2⟩
      go_wp2_with fail
      refine (DrawPutBe_any wx.heap.size a1 len1 cap1 w2 hb2.size (HC1.out.below hb2) hl1).mono ?_
      rintro e w3 ⟨⟨m, k', hm, hk1', hk2', rfl⟩, hb3⟩
      replace hb2 := below_step' hb2 hb3
      clear hb3 HC1 HB0 HB1 hk1' hk2'
      go_wp2_with fail
      refine (implPutBe_any n k _ hn).mono ?_
      rintro e w3 ⟨rfl, hb3⟩
      replace hb2 := below_step' hb2 hb3
      clear hb3
      go_wp2_with fail
      refine (DrawGetBe_any wx.heap.size a0 len0 cap0 w3 hb2.size (HC0.out.below hb2) hl0).mono ?_
      rintro e w4 ⟨⟨t, j, ht, hj1, hj2, rfl⟩, hb4⟩
      replace hb2 := below_step' hb2 hb4
      clear hb4 HC0
      have hsz : (⟨t.toArray⟩ : ByteArray).size ≤ maxLen := by simp [ByteArray.size]; unfold maxLen; omega
      have G := fun w => implGetBe_all ⟨t.toArray⟩ j w hsz
      have S := fun w => specGetBe_all ⟨t.toArray⟩ j w hsz
      have hd : (⟨t.toArray⟩ : ByteArray).data.toList = t := by simp
      rw [hd] at G S
      have HP : Hid _ := fun w => specPutBe_any n k w hn
      have hlp := putLe_len n k
      obtain ⟨T, hT⟩ : ∃ T : ByteArray, T = ⟨t.toArray⟩ := ⟨_, rfl⟩
      have hTm : (T.size : Int) ≤ 10 := by rw [hT]; simp [ByteArray.size]; omega
      by_cases hj : 1 ≤ j ∧ j ≤ 8 ∧ j ≤ (t.length : Int)
      · obtain ⟨q, rfl⟩ := Int.eq_ofNat_of_zero_le (show 0 ≤ j by omega)
        have eg : getBe t q = (leV (t.take q).reverse, true) := by unfold getBe; rw [if_pos hj, Int.toNat_natCast]
        rw [eg] at G S
        have hv := leV_rev_lt' t q (by omega)
        have hv64 : leV (t.take q).reverse < 18446744073709551616 := Nat.lt_of_lt_of_le hv (Nat.le_trans (Nat.pow_le_pow_right (by decide) (show 8 * q ≤ 64 by omega)) (by decide))
        have P := fun w => implPutBe_any (leV (t.take q).reverse) q w hv64
        rw [putLe_yes _ q (by omega) (by omega) hv, back_take t q (by omega)] at P
        have hTs : (q : Int) ≤ (T.size : Int) := by rw [hT]; simp [ByteArray.size]; omega
        have hTx : (T.extract 0 q).toList = t.take q := by rw [ByteArray.toList_eq, Lib.extract_data, hT]; simp
        rw [← hT] at G S ⊢
        have HG : Hid _ := G
        have HS : Hid _ := S
        have HQ : Hid _ := P
        clear G S P eg hv hj hd hsz hT
        generalize t.take q = tq at *
        generalize leV tq.reverse = X at *
        by_cases hp : putLe n k = []
        · rw [hp] at HP ⊢
          go_wp2_with (first | (go_at_call 19; refine (HG.out _).mono ?_; rintro e w5 ⟨rfl, rfl⟩; rw [pairV]) | (go_at_call 20; refine (HS.out _).mono ?_; rintro e w5 ⟨rfl, hb5⟩; rw [pairV]; replace hb2 := below_step' hb2 hb5; clear hb5))
          refine wp_region_quiet_below (by kernel_rfl) (by kernel_rfl) ?_
          repeat (go_big_quiet_step (first | (go_at_call 21; exact Calls.regrown_of (HP.out _)) | (go_at_call 17; exact Calls.regrown_of (HQ.out _))))
          refine wpQuiet_nil ?_
          intro w6 hw'
          obtain ⟨⟨dq, osq⟩, hw''⟩ := hw'
          replace hb2 := below_step' hb2 (below_regrown _ dq osq)
          rw [← hw''] at hb2
          clear hw''
          go_wp2
          refine wp_region_quiet_below (by kernel_rfl) (by kernel_rfl) ?_
          repeat (go_big_quiet_step (first | (go_at_call 21; exact Calls.regrown_of (HP.out _)) | (go_at_call 17; exact Calls.regrown_of (HQ.out _))))
          refine wpQuiet_nil ?_
          intro w7 hw'
          obtain ⟨⟨dq, osq⟩, hw''⟩ := hw'
          replace hb2 := below_step' hb2 (below_regrown _ dq osq)
          rw [← hw''] at hb2
          clear hw''
          go_wp2
          go_ret
          exact ⟨rfl, hb2⟩
        · obtain ⟨p, rfl, hp1, hp8, hnp, hpl⟩ := putLe_has n k hp
          have HL : Hid _ := fun w => implPutLe_any n p w hn
          have HU : Hid _ := fun w => implPutBe_any m p w hm
          rw [hpl] at HP HL ⊢
          have hll := leL_len n p
          clear hp hpl hlp
          have hpe : ((leL n p).reverse).isEmpty = false := by cases h : leL n p with
            | nil => rw [h] at hll; simp at hll; omega
            | cons a l => simp
          have hpe' : ((leL n p)).isEmpty = false := by simpa using hpe
          go_wp2_with (first | (go_at_call 19; refine (HG.out _).mono ?_; rintro e w5 ⟨rfl, rfl⟩; rw [pairV]) | (go_at_call 20; refine (HS.out _).mono ?_; rintro e w5 ⟨rfl, hb5⟩; rw [pairV]; replace hb2 := below_step' hb2 hb5; clear hb5))
          refine wp_region_quiet_below (by kernel_rfl) (by kernel_rfl) ?_
          repeat (go_big_quiet_step (first | (go_at_call 21; exact Calls.regrown_of (HP.out _)) | (go_at_call 17; exact Calls.regrown_of (HQ.out _))))
          refine wpQuiet_nil ?_
          intro w6 hw'
          obtain ⟨⟨dq, osq⟩, hw''⟩ := hw'
          replace hb2 := below_step' hb2 (below_regrown _ dq osq)
          rw [← hw''] at hb2
          clear hw''
          go_wp2_with (go_at_call 11; refine (HL.out _).mono ?_; rintro e w7 ⟨rfl, hb7⟩; replace hb2 := below_step' hb2 hb7; clear hb7)
          go_loopw [17] (fun i wr => ∃ j : Nat, j ≤ p ∧ i = .int .i64 j ∧ Below wx.heap.size wx wr) (fun i _ => p - (intOf i).toNat)
          case atStart => exact ⟨0, Nat.zero_le _, rfl, hb2⟩
          case round =>
            clear hb2
            obtain ⟨j, hj, rfl, hb2⟩ := hrel
            by_cases hlt : j < p
            · obtain ⟨S, hS⟩ : ∃ S : ByteArray, S = ⟨(leL n p).reverse.toArray⟩ := ⟨_, rfl⟩
              obtain ⟨L, hL⟩ : ∃ L : ByteArray, L = ⟨(leL n p).toArray⟩ := ⟨_, rfl⟩
              have hSs : S.size = p := by rw [hS]; simp [ByteArray.size, hll]
              have hLs : L.size = p := by rw [hL]; simp [ByteArray.size, hll]
              have hti := turned n p j hlt L S hL hS (by omega) (by omega)
              rw [← hS, ← hL]
              clear hS hL HP HL HU HG HS hpe hpe'
              obtain ⟨i, hid, hii, hji, hij⟩ : ∃ i : Nat, (p : Int) - 1 - (j : Int) = i ∧ ∃ hii : i < S.size, ∃ hji : j < L.size, L[j] = S[i] := ⟨p - 1 - j, by omega, by omega, by omega, hti⟩
              clear hti
              have hip : i < p := by omega
              go_wp2
              refine wp_region_quiet_below (by kernel_rfl) (by kernel_rfl) ?_
              repeat (go_big_quiet_step (fail))
              refine wpQuiet_nil ?_
              intro w8 hw'
              obtain ⟨⟨dq, osq⟩, hw''⟩ := hw'
              replace hb2 := below_step' hb2 (below_regrown _ dq osq)
              rw [← hw''] at hb2
              clear hw''
              go_wp2
              go_roundw
              case rel => exact ⟨j + 1, by omega, by go_num, hb2⟩
              case measure => simp [intOf]; omega
            · by_cases hpm : putLe m p = []
              · rw [hpm] at HU
                go_wp2_with (go_at_call 17; refine (HU.out _).mono ?_; rintro e w8 ⟨rfl, hb8⟩; replace hb2 := below_step' hb2 hb8; clear hb8)
                go_ret
                exact ⟨rfl, hb2⟩
              · obtain ⟨p', hpp, hq1, hq8, hmp, hpl'⟩ := putLe_has m p hpm
                have : p' = p := by omega
                subst this
                rw [hpl'] at HU
                have hmm := leL_len m p'
                have hpe2 : ((leL m p')).isEmpty = false := by cases h : leL m p' with
                  | nil => rw [h] at hmm; simp at hmm; omega
                  | cons a l => simp
                have e1 := less_leL m n p' hmp hnp
                have e2 := eq_leL m n p' hmp hnp
                clear hmm hpl' hpm hmp hnp hpp
                rcases Nat.lt_trichotomy m n with h | h | h
                · rw [decide_eq_true h] at e1
                  rw [decide_eq_false (by omega)] at e2
                  have e3 : ((m : Int) == (n : Int)) = false := by rw [beq_eq_false_iff_ne]; omega
                  have e4 : decide ((m : Int) < (n : Int)) = true := by rw [decide_eq_true_iff]; omega
                  go_wp2_with (go_at_call 17; refine (HU.out _).mono ?_; rintro e w8 ⟨rfl, hb8⟩; replace hb2 := below_step' hb2 hb8; clear hb8)
                  go_ret
                  exact ⟨rfl, hb2⟩
                · subst h
                  rw [decide_eq_false (by omega)] at e1
                  go_wp2_with (go_at_call 17; refine (HU.out _).mono ?_; rintro e w8 ⟨rfl, hb8⟩; replace hb2 := below_step' hb2 hb8; clear hb8)
                  go_ret
                  exact ⟨rfl, hb2⟩
                · rw [decide_eq_false (by omega)] at e1
                  rw [decide_eq_false (by omega)] at e2
                  have e3 : ((m : Int) == (n : Int)) = false := by rw [beq_eq_false_iff_ne]; omega
                  have e4 : decide (m < n) = false := decide_eq_false (by omega)
                  go_wp2_with (go_at_call 17; refine (HU.out _).mono ?_; rintro e w8 ⟨rfl, hb8⟩; replace hb2 := below_step' hb2 hb8; clear hb8)
                  go_ret
                  exact ⟨rfl, hb2⟩
      · have eg : getBe t j = (0, false) := by unfold getBe; rw [if_neg hj]
        rw [eg] at G S
        rw [← hT] at G S ⊢
        have HG : Hid _ := G
        have HS : Hid _ := S
        clear G S eg hj hd hsz hT
        by_cases hp : putLe n k = []
        · rw [hp] at HP ⊢
          go_wp2_with (first | (go_at_call 19; refine (HG.out _).mono ?_; rintro e w5 ⟨rfl, rfl⟩; rw [pairV]) | (go_at_call 20; refine (HS.out _).mono ?_; rintro e w5 ⟨rfl, hb5⟩; rw [pairV]; replace hb2 := below_step' hb2 hb5; clear hb5))
          refine wp_region_quiet_below (by kernel_rfl) (by kernel_rfl) ?_
          repeat (go_big_quiet_step (exact Calls.regrown_of (HP.out _)))
          refine wpQuiet_nil ?_
          intro w6 hw'
          obtain ⟨⟨dq, osq⟩, hw''⟩ := hw'
          replace hb2 := below_step' hb2 (below_regrown _ dq osq)
          rw [← hw''] at hb2
          clear hw''
          go_wp2
          refine wp_region_quiet_below (by kernel_rfl) (by kernel_rfl) ?_
          repeat (go_big_quiet_step (exact Calls.regrown_of (HP.out _)))
          refine wpQuiet_nil ?_
          intro w7 hw'
          obtain ⟨⟨dq, osq⟩, hw''⟩ := hw'
          replace hb2 := below_step' hb2 (below_regrown _ dq osq)
          rw [← hw''] at hb2
          clear hw''
          go_wp2
          go_ret
          exact ⟨rfl, hb2⟩
        · obtain ⟨p, rfl, hp1, hp8, hnp, hpl⟩ := putLe_has n k hp
          have HL : Hid _ := fun w => implPutLe_any n p w hn
          have HU : Hid _ := fun w => implPutBe_any m p w hm
          rw [hpl] at HP HL ⊢
          have hll := leL_len n p
          clear hp hpl hlp
          have hpe : ((leL n p).reverse).isEmpty = false := by cases h : leL n p with
            | nil => rw [h] at hll; simp at hll; omega
            | cons a l => simp
          have hpe' : ((leL n p)).isEmpty = false := by simpa using hpe
          go_wp2_with (first | (go_at_call 19; refine (HG.out _).mono ?_; rintro e w5 ⟨rfl, rfl⟩; rw [pairV]) | (go_at_call 20; refine (HS.out _).mono ?_; rintro e w5 ⟨rfl, hb5⟩; rw [pairV]; replace hb2 := below_step' hb2 hb5; clear hb5))
          refine wp_region_quiet_below (by kernel_rfl) (by kernel_rfl) ?_
          repeat (go_big_quiet_step (exact Calls.regrown_of (HP.out _)))
          refine wpQuiet_nil ?_
          intro w6 hw'
          obtain ⟨⟨dq, osq⟩, hw''⟩ := hw'
          replace hb2 := below_step' hb2 (below_regrown _ dq osq)
          rw [← hw''] at hb2
          clear hw''
          go_wp2_with (go_at_call 11; refine (HL.out _).mono ?_; rintro e w7 ⟨rfl, hb7⟩; replace hb2 := below_step' hb2 hb7; clear hb7)
          go_loopw [17] (fun i wr => ∃ j : Nat, j ≤ p ∧ i = .int .i64 j ∧ Below wx.heap.size wx wr) (fun i _ => p - (intOf i).toNat)
          case atStart => exact ⟨0, Nat.zero_le _, rfl, hb2⟩
          case round =>
            clear hb2
            obtain ⟨j, hj, rfl, hb2⟩ := hrel
            by_cases hlt : j < p
            · obtain ⟨S, hS⟩ : ∃ S : ByteArray, S = ⟨(leL n p).reverse.toArray⟩ := ⟨_, rfl⟩
              obtain ⟨L, hL⟩ : ∃ L : ByteArray, L = ⟨(leL n p).toArray⟩ := ⟨_, rfl⟩
              have hSs : S.size = p := by rw [hS]; simp [ByteArray.size, hll]
              have hLs : L.size = p := by rw [hL]; simp [ByteArray.size, hll]
              have hti := turned n p j hlt L S hL hS (by omega) (by omega)
              rw [← hS, ← hL]
              clear hS hL HP HL HU HG HS hpe hpe'
              obtain ⟨i, hid, hii, hji, hij⟩ : ∃ i : Nat, (p : Int) - 1 - (j : Int) = i ∧ ∃ hii : i < S.size, ∃ hji : j < L.size, L[j] = S[i] := ⟨p - 1 - j, by omega, by omega, by omega, hti⟩
              clear hti
              have hip : i < p := by omega
              go_wp2
              refine wp_region_quiet_below (by kernel_rfl) (by kernel_rfl) ?_
              repeat (go_big_quiet_step (fail))
              refine wpQuiet_nil ?_
              intro w8 hw'
              obtain ⟨⟨dq, osq⟩, hw''⟩ := hw'
              replace hb2 := below_step' hb2 (below_regrown _ dq osq)
              rw [← hw''] at hb2
              clear hw''
              go_wp2
              go_roundw
              case rel => exact ⟨j + 1, by omega, by go_num, hb2⟩
              case measure => simp [intOf]; omega
            · by_cases hpm : putLe m p = []
              · rw [hpm] at HU
                go_wp2_with (go_at_call 17; refine (HU.out _).mono ?_; rintro e w8 ⟨rfl, hb8⟩; replace hb2 := below_step' hb2 hb8; clear hb8)
                go_ret
                exact ⟨rfl, hb2⟩
              · obtain ⟨p', hpp, hq1, hq8, hmp, hpl'⟩ := putLe_has m p hpm
                have : p' = p := by omega
                subst this
                rw [hpl'] at HU
                have hmm := leL_len m p'
                have hpe2 : ((leL m p')).isEmpty = false := by cases h : leL m p' with
                  | nil => rw [h] at hmm; simp at hmm; omega
                  | cons a l => simp
                have e1 := less_leL m n p' hmp hnp
                have e2 := eq_leL m n p' hmp hnp
                clear hmm hpl' hpm hmp hnp hpp
                rcases Nat.lt_trichotomy m n with h | h | h
                · rw [decide_eq_true h] at e1
                  rw [decide_eq_false (by omega)] at e2
                  have e3 : ((m : Int) == (n : Int)) = false := by rw [beq_eq_false_iff_ne]; omega
                  have e4 : decide ((m : Int) < (n : Int)) = true := by rw [decide_eq_true_iff]; omega
                  go_wp2_with (go_at_call 17; refine (HU.out _).mono ?_; rintro e w8 ⟨rfl, hb8⟩; replace hb2 := below_step' hb2 hb8; clear hb8)
                  go_ret
                  exact ⟨rfl, hb2⟩
                · subst h
                  rw [decide_eq_false (by omega)] at e1
                  go_wp2_with (go_at_call 17; refine (HU.out _).mono ?_; rintro e w8 ⟨rfl, hb8⟩; replace hb2 := below_step' hb2 hb8; clear hb8)
                  go_ret
                  exact ⟨rfl, hb2⟩
                · rw [decide_eq_false (by omega)] at e1
                  rw [decide_eq_false (by omega)] at e2
                  have e3 : ((m : Int) == (n : Int)) = false := by rw [beq_eq_false_iff_ne]; omega
                  have e4 : decide (m < n) = false := decide_eq_false (by omega)
                  go_wp2_with (go_at_call 17; refine (HU.out _).mono ?_; rintro e w8 ⟨rfl, hb8⟩; replace hb2 := below_step' hb2 hb8; clear hb8)
                  go_ret
                  exact ⟨rfl, hb2⟩
set_option maxRecDepth 100000 in
theorem lifted (os : Os) (started : os.Started) (H : Type) (enc : TypeId × Value → H) :
    ReturnsInHanded {} Try.checked os 4 .any (Rows.fnBeSpec.pre6 enc Try.prog Try.f4 Rows.fnBeRow.domain false) (Rows.fnBeSpec.post enc Try.prog Try.f4 false true false false) := by
  refine returnsInHanded_of_change (C := Try.checked) own started (by kernel_rfl) Try.func4
    (ChangeSpec.witness6 (enc := enc) (C := Try.checked) false ⟨#[], #[.slice none 0 0, .slice none 0 0], []⟩ 8 (by kernel_rfl) (by kernel_rfl) (by kernel_rfl) (by kernel_rfl)) ?_
  intro W base args ds gs before hval0 hW hcnd _
  have hval : ∀ (j : Nat) t v, Try.f4.params[j]? = some t → args[j]? = some v → Value.okWide Try.prog W .any base t v := hval0
  have hW' := hW
  obtain ⟨p, q, hA0, hV, rfl, hfz, hnd⟩ := hW
  have hA : DataW.TrodAll enc Try.prog W 0 (fun _ => true) true Try.f4.params.toList args.toList ds p := hA0
  rw [Try.params4] at hA hval
  obtain ⟨v0, vs0, d0, ds0, p0, q0, hargs, rfl, rfl, h0, r0⟩ := trodAll_cons hA
  obtain ⟨v1, vs1, d1, ds1, p1, q1, rfl, rfl, rfl, h1, r1⟩ := trodAll_cons r0
  obtain ⟨rfl, rfl, rfl⟩ := trodAll_nil r1
  obtain rfl : args = #[v0, v1] := by cases args; simp_all
  obtain ⟨rfl, rfl⟩ := trodVars_none hV
  obtain ⟨a0, len0, cap0, rfl⟩ := okWide_slice Try.underlying22 (hval 0 22 v0 rfl rfl)
  have k0 := h0
  have lt0 : ∀ x ∈ p0, x.block < W.heap.size := by obtain ⟨m, hm⟩ := k0; exact DataW.trod_lt m _ _ _ hm
  obtain ⟨z0, w0⟩ : ∃ zs, IsRow .u8 W a0 len0 cap0 zs := by
    obtain ⟨fuel, hf⟩ := h0
    rcases open_ints Try.underlying22 Try.underlying5 (by kernel_rfl) hf with ⟨hcs, _⟩ | ⟨x, l, c, zs, hcs, _, hl, hm, hz, _, hcell, hwz⟩
    · simp [Value.cells] at hcs
      obtain ⟨rfl, rfl, rfl⟩ := hcs
      exact ⟨[], .inl ⟨rfl, rfl, rfl, rfl⟩⟩
    · simp [Value.cells] at hcs
      obtain ⟨rfl, rfl, rfl⟩ := hcs
      exact ⟨zs, .inr ⟨_, rfl, hl, hm, by simpa using hz, hcell, hwz⟩⟩
  obtain ⟨a1, len1, cap1, rfl⟩ := okWide_slice Try.underlying22 (hval 1 22 v1 rfl rfl)
  have k1 := h1
  have lt1 : ∀ x ∈ p1, x.block < W.heap.size := by obtain ⟨m, hm⟩ := k1; exact DataW.trod_lt m _ _ _ hm
  obtain ⟨z1, w1⟩ : ∃ zs, IsRow .u8 W a1 len1 cap1 zs := by
    obtain ⟨fuel, hf⟩ := h1
    rcases open_ints Try.underlying22 Try.underlying5 (by kernel_rfl) hf with ⟨hcs, _⟩ | ⟨x, l, c, zs, hcs, _, hl, hm, hz, _, hcell, hwz⟩
    · simp [Value.cells] at hcs
      obtain ⟨rfl, rfl, rfl⟩ := hcs
      exact ⟨[], .inl ⟨rfl, rfl, rfl, rfl⟩⟩
    · simp [Value.cells] at hcs
      obtain ⟨rfl, rfl, rfl⟩ := hcs
      exact ⟨zs, .inr ⟨_, rfl, hl, hm, by simpa using hz, hcell, hwz⟩⟩
  clear hA0 hval0
  refine (walk a0 len0 cap0 z0 a1 len1 cap1 z1 W w0 w1).mono fun e W' ⟨he, bel⟩ => ?_
  subst he
  exact ⟨_, rfl, _, _, _, [], _, [], hW', trodAll_mk1 (shut_bool Try.underlying4 _), (trodAll_cons_mk (Below.trod laidOut (by kernel_rfl) (of_decide_eq_true (by kernel_rfl)) k0 bel lt0) (trodAll_cons_mk (Below.trod laidOut (by kernel_rfl) (of_decide_eq_true (by kernel_rfl)) k1 bel lt1) trodAll_mk0)), rfl, bel.frame _, fun h => by cases h⟩
theorem over : Rows.fnBeRow.holds Try.pinned (OpenSpec.ofChange Rows.fnBeSpec) :=
  OpenClaim.holds_of_wide 4 Try.f4 rfl rfl rfl rfl rfl rfl rfl ⟨rfl, rfl, rfl, rfl, rfl⟩ rfl rfl rfl rfl rfl (by kernel_rfl) Try.func4 (by kernel_rfl)
    (of_decide_eq_true (by kernel_rfl)) (by unfold Func.isWrapper; first | (rw [if_pos (by decide +kernel)]; kernel_rfl) | (rw [if_neg (by decide +kernel)]; exact ⟨rfl, rfl⟩))
    (fun os started H enc _ => lifted os started H enc)
theorem proved : Rows.FnBeSaid := over
#print axioms proved
end Go.Proofs.Ytmegoiggchghpaa.fnBe
