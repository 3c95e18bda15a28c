/- Whatever its arguments, laws.FnLe returns true and leaves them as they were; no condition. -/
import Derived.Test.YtmegoiggchghpaaDrawD
import Derived.ProofKit
import Derived.OpenShut
import Derived.ShutString
import Derived.ChangeOld
namespace Go.Proofs.Ytmegoiggchghpaa.fnLe
open Go.ChangeShapes Go.WideShapes Go.ChangeAt Go.RowKit
open Go.ChangeMaps (open_string shut_string)
set_option linter.unusedVariables false
theorem own : ownKnob Try.prog.godebug = none := by kernel_rfl
theorem laidOut : laidOutB Try.prog = true := by kernel_rfl
theorem getLe_put (n : Nat) (k : Int) (l t : List UInt8) (hl : putLe n k = l) (hne : l ≠ []) : getLe (l ++ t) k = (n, true) ∧ (l.length : Int) = k := by
  subst hl
  unfold putLe at hne ⊢
  by_cases h : 1 ≤ k ∧ k ≤ 8 ∧ n < 2 ^ (8 * k.toNat)
  · rw [if_pos h]
    have hlen := leL_len n k.toNat
    refine ⟨?_, by omega⟩
    unfold getLe
    rw [if_pos ⟨h.1, h.2.1, by simp [hlen]; omega⟩, List.take_left' hlen, leV_leL n k.toNat h.2.2]
  · rw [if_neg h] at hne; exact absurd rfl hne

set_option maxRecDepth 100000 in
set_option maxHeartbeats 2000000 in
theorem walk (a0 : Option Addr) (len0 cap0 : Nat) (z0 : List Int) (w : World) (w0 : IsRow .u8 w a0 len0 cap0 z0) :
    Calls Try.prog 3 #[.slice a0 len0 cap0] w fun e w' => e = .returned (.bool true) ∧ Below w.heap.size w w' := by
  have hlm0 := w0.len
  have HB0 : Hid _ := fun w => big_any a0 len0 cap0 w hlm0
  by_cases hbig0 : 1048576 < len0
  · rw [decide_eq_true hbig0] at HB0
    clear w0 hlm0 hbig0
    go_enter Try.func3, Try.ntmps3
    go_wp2_with (go_at_call 9; refine (HB0.out _).mono ?_; rintro e w1 ⟨rfl, rfl⟩)
    go_ret
    exact ⟨rfl, Below.refl _ _⟩
  · rw [decide_eq_false hbig0] at HB0
    have c0 := w0.code
    have HC0 : Hid (CodeAt w.heap.size a0 len0 w) := c0
    have hl0 : len0 ≤ 1048576 := by omega
    clear w0 hlm0 hbig0 c0
    go_enter Try.func3, Try.ntmps3
    go_wp2_with fail
    refine (HB0.out _).mono ?_
    rintro e wx ⟨rfl, hwx⟩
    subst hwx
    go_wp2_with fail
    refine (DrawPutLe_any wx.heap.size a0 len0 cap0 wx (Nat.le_refl _) HC0.out hl0).mono ?_
    rintro e w2 ⟨⟨n, k, hn, hk1, hk2, rfl⟩, hb2⟩
    go_wp2_with fail
    refine (implPutLe_any n k _ hn).mono ?_
    rintro e w3 ⟨rfl, hb3⟩
    replace hb2 := below_step' hb2 hb3
    clear hb3
    go_wp2_with fail
    refine (DrawGetLe_any wx.heap.size a0 len0 cap0 w3 hb2.size (HC0.out.below hb2) hl0).mono ?_
    rintro e w4 ⟨⟨t, j, ht, hj1, hj2, rfl⟩, hb4⟩
    replace hb2 := below_step' hb2 hb4
    clear hb4 HC0 HB0
    have hsz : (⟨t.toArray⟩ : ByteArray).size ≤ maxLen := by simp [ByteArray.size]; unfold maxLen; omega
    have G := fun w => implGetLe_all ⟨t.toArray⟩ j w hsz
    have S := fun w => specGetLe_all ⟨t.toArray⟩ j w hsz
    have hd : (⟨t.toArray⟩ : ByteArray).data.toList = t := by simp
    rw [hd] at G S
    have HP : Hid _ := fun w => specPutLe_any n k w hn
    have hlp := putLe_len n k
    have hsz2 : ((⟨(putLe n k).toArray⟩ : ByteArray) ++ (⟨t.toArray⟩ : ByteArray)).size ≤ maxLen := by rw [cat_list]; simp [ByteArray.size]; unfold maxLen; omega
    have E := fun w => implGetLe_all ((⟨(putLe n k).toArray⟩ : ByteArray) ++ (⟨t.toArray⟩ : ByteArray)) k w hsz2
    have hd2 : ((⟨(putLe n k).toArray⟩ : ByteArray) ++ (⟨t.toArray⟩ : ByteArray)).data.toList = putLe n k ++ t := by rw [cat_list]
    rw [hd2] at E
    have fin : ∀ w5, Below wx.heap.size wx w5 → True := fun _ _ => trivial
    by_cases hj : 1 ≤ j ∧ j ≤ 8 ∧ j ≤ (t.length : Int)
    · obtain ⟨q, rfl⟩ := Int.eq_ofNat_of_zero_le (show 0 ≤ j by omega)
      have eg : getLe t q = (leV (t.take q), true) := by unfold getLe; rw [if_pos hj, Int.toNat_natCast]
      rw [eg] at G S
      have hv := leV_take_lt' t q (by omega)
      have hv64 : leV (t.take q) < 18446744073709551616 := Nat.lt_of_lt_of_le hv (Nat.le_trans (Nat.pow_le_pow_right (by decide) (show 8 * q ≤ 64 by omega)) (by decide))
      have P := fun w => implPutLe_any (leV (t.take q)) q w hv64
      rw [putLe_yes _ q (by omega) (by omega) hv, leL_take' t q (by omega)] at P
      obtain ⟨T, hT⟩ : ∃ T : ByteArray, T = ⟨t.toArray⟩ := ⟨_, rfl⟩
      have hTs : (q : Int) ≤ (T.size : Int) := by rw [hT]; simp [ByteArray.size]; omega
      have hTx : (T.extract 0 q).toList = t.take q := by rw [ByteArray.toList_eq, Lib.extract_data, hT]; simp
      have hTm : (T.size : Int) ≤ 10 := by rw [hT]; simp [ByteArray.size]; omega
      rw [← hT] at G S E ⊢
      have HG : Hid _ := G
      have HS : Hid _ := S
      have HQ : Hid _ := P
      have HE : Hid _ := E
      clear G S P E eg hv hj hd hd2 hsz hsz2 hT fin
      generalize t.take q = tq at *
      generalize leV tq = X at *
      go_wp2_with (first | (go_at_call 13; refine (HG.out _).mono ?_; rintro e w5 ⟨rfl, rfl⟩; rw [pairV]) | (go_at_call 14; refine (HS.out _).mono ?_; rintro e w5 ⟨rfl, rfl⟩; rw [pairV]))
      go_region_held3 (fun _ => True) (trivial) (first | (go_at_call 15; refine (HP.out _).mono ?_; rintro e w6 ⟨rfl, hb6⟩; replace hb2 := below_step' hb2.drew hb6; clear hb6) | (go_at_call 11; refine (HQ.out _).mono ?_; rintro e w6 ⟨rfl, hb6⟩; replace hb2 := below_step' hb2 hb6; clear hb6))
      by_cases hp : putLe n k = []
      · rw [hp] at HE ⊢
        generalize getLe ([] ++ t) k = g at *
        go_wp2_with (go_at_call 13; refine (HE.out _).mono ?_; rintro e w7 ⟨rfl, rfl⟩; rw [pairV])
        go_ret
        exact ⟨rfl, hb2⟩
      · obtain ⟨eg2, el⟩ := getLe_put n k _ t rfl hp
        rw [eg2] at HE
        have hpe : (putLe n k).isEmpty = false := by simpa using hp
        generalize putLe n k = P at *
        go_wp2_with (go_at_call 13; refine (HE.out _).mono ?_; rintro e w7 ⟨rfl, rfl⟩; rw [pairV])
        go_ret
        exact ⟨rfl, hb2⟩
    · have eg : getLe t j = (0, false) := by unfold getLe; rw [if_neg hj]
      rw [eg] at G S
      obtain ⟨T, hT⟩ : ∃ T : ByteArray, T = ⟨t.toArray⟩ := ⟨_, rfl⟩
      have hTm : (T.size : Int) ≤ 10 := by rw [hT]; simp [ByteArray.size]; omega
      rw [← hT] at G S E ⊢
      have HG : Hid _ := G
      have HS : Hid _ := S
      have HE : Hid _ := E
      clear G S E eg hj hd hd2 hsz hsz2 hT fin
      go_wp2_with (first | (go_at_call 13; refine (HG.out _).mono ?_; rintro e w5 ⟨rfl, rfl⟩; rw [pairV]) | (go_at_call 14; refine (HS.out _).mono ?_; rintro e w5 ⟨rfl, rfl⟩; rw [pairV]))
      refine wp_region_quiet_below (by kernel_rfl) (by kernel_rfl) ?_
      repeat (go_big_quiet_step (exact Calls.regrown_of (HP.out _)))
      refine wpQuiet_nil ?_
      intro w6 hw'
      obtain ⟨⟨dq, osq⟩, hw''⟩ := hw'
      replace hb2 := below_step' hb2 (below_regrown _ dq osq)
      rw [← hw''] at hb2
      clear hw''
      by_cases hp : putLe n k = []
      · rw [hp] at HE ⊢
        generalize getLe ([] ++ t) k = g at *
        go_wp2_with (go_at_call 13; refine (HE.out _).mono ?_; rintro e w7 ⟨rfl, rfl⟩; rw [pairV])
        go_ret
        exact ⟨rfl, hb2⟩
      · obtain ⟨eg2, el⟩ := getLe_put n k _ t rfl hp
        rw [eg2] at HE
        have hpe : (putLe n k).isEmpty = false := by simpa using hp
        generalize putLe n k = P at *
        go_wp2_with (go_at_call 13; refine (HE.out _).mono ?_; rintro e w7 ⟨rfl, rfl⟩; rw [pairV])
        go_ret
        exact ⟨rfl, hb2⟩
set_option maxRecDepth 100000 in
theorem lifted (os : Os) (started : os.Started) (H : Type) (enc : TypeId × Value → H) :
    ReturnsInHanded {} Try.checked os 3 .any (Rows.fnLeSpec.pre6 enc Try.prog Try.f3 Rows.fnLeRow.domain false) (Rows.fnLeSpec.post enc Try.prog Try.f3 false true false false) := by
  refine returnsInHanded_of_change (C := Try.checked) own started (by kernel_rfl) Try.func3
    (ChangeSpec.witness6 (enc := enc) (C := Try.checked) false ⟨#[], #[.slice none 0 0], []⟩ 8 (by kernel_rfl) (by kernel_rfl) (by kernel_rfl) (by kernel_rfl)) ?_
  intro W base args ds gs before hval0 hW hcnd _
  have hval : ∀ (j : Nat) t v, Try.f3.params[j]? = some t → args[j]? = some v → Value.okWide Try.prog W .any base t v := hval0
  have hW' := hW
  obtain ⟨p, q, hA0, hV, rfl, hfz, hnd⟩ := hW
  have hA : DataW.TrodAll enc Try.prog W 0 (fun _ => true) true Try.f3.params.toList args.toList ds p := hA0
  rw [Try.params3] at hA hval
  obtain ⟨v0, vs0, d0, ds0, p0, q0, hargs, rfl, rfl, h0, r0⟩ := trodAll_cons hA
  obtain ⟨rfl, rfl, rfl⟩ := trodAll_nil r0
  obtain rfl : args = #[v0] := by cases args; simp_all
  obtain ⟨rfl, rfl⟩ := trodVars_none hV
  obtain ⟨a0, len0, cap0, rfl⟩ := okWide_slice Try.underlying22 (hval 0 22 v0 rfl rfl)
  have k0 := h0
  have lt0 : ∀ x ∈ p0, x.block < W.heap.size := by obtain ⟨m, hm⟩ := k0; exact DataW.trod_lt m _ _ _ hm
  obtain ⟨z0, w0⟩ : ∃ zs, IsRow .u8 W a0 len0 cap0 zs := by
    obtain ⟨fuel, hf⟩ := h0
    rcases open_ints Try.underlying22 Try.underlying5 (by kernel_rfl) hf with ⟨hcs, _⟩ | ⟨x, l, c, zs, hcs, _, hl, hm, hz, _, hcell, hwz⟩
    · simp [Value.cells] at hcs
      obtain ⟨rfl, rfl, rfl⟩ := hcs
      exact ⟨[], .inl ⟨rfl, rfl, rfl, rfl⟩⟩
    · simp [Value.cells] at hcs
      obtain ⟨rfl, rfl, rfl⟩ := hcs
      exact ⟨zs, .inr ⟨_, rfl, hl, hm, by simpa using hz, hcell, hwz⟩⟩
  clear hA0 hval0
  refine (walk a0 len0 cap0 z0 W w0).mono fun e W' ⟨he, bel⟩ => ?_
  subst he
  exact ⟨_, rfl, _, _, _, [], _, [], hW', trodAll_mk1 (shut_bool Try.underlying4 _), (trodAll_cons_mk (Below.trod laidOut (by kernel_rfl) (of_decide_eq_true (by kernel_rfl)) k0 bel lt0) trodAll_mk0), rfl, bel.frame _, fun h => by cases h⟩
theorem over : Rows.fnLeRow.holds Try.pinned (OpenSpec.ofChange Rows.fnLeSpec) :=
  OpenClaim.holds_of_wide 3 Try.f3 rfl rfl rfl rfl rfl rfl rfl ⟨rfl, rfl, rfl, rfl, rfl⟩ rfl rfl rfl rfl rfl (by kernel_rfl) Try.func3 (by kernel_rfl)
    (of_decide_eq_true (by kernel_rfl)) (by unfold Func.isWrapper; first | (rw [if_pos (by decide +kernel)]; kernel_rfl) | (rw [if_neg (by decide +kernel)]; exact ⟨rfl, rfl⟩))
    (fun os started H enc _ => lifted os started H enc)
theorem proved : Rows.FnLeSaid := over
#print axioms proved
end Go.Proofs.Ytmegoiggchghpaa.fnLe
