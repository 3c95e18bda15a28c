/- Whatever its arguments, laws.FnHead returns true and leaves them as they were; no condition. -/
import Derived.Test.YtmegoiggchghpaaDrawK
import Derived.ProofKit
import Derived.OpenShut
import Derived.ShutString
import Derived.ChangeOld
namespace Go.Proofs.Ytmegoiggchghpaa.fnHead
open Go.ChangeShapes Go.WideShapes Go.ChangeAt Go.RowKit
open Go.ChangeMaps (open_string shut_string)
set_option linter.unusedVariables false
theorem own : ownKnob Try.prog.godebug = none := by kernel_rfl
theorem laidOut : laidOutB Try.prog = true := by kernel_rfl
theorem isE (l : List UInt8) (h : l ≠ []) : l.isEmpty = false := by cases l with
  | nil => exact absurd rfl h
  | cons a l => rfl

set_option maxRecDepth 100000 in
set_option maxHeartbeats 4000000 in
theorem walk (a0 : Option Addr) (len0 cap0 : Nat) (z0 : List Int) (w : World) (w0 : IsRow .u8 w a0 len0 cap0 z0) :
    Calls Try.prog 8 #[.slice a0 len0 cap0] w fun e w' => e = .returned (.bool true) ∧ Below w.heap.size w w' := by
  have hlm0 := w0.len
  have HB0 : Hid _ := fun w => big_any a0 len0 cap0 w hlm0
  by_cases hbig0 : 1048576 < len0
  · rw [decide_eq_true hbig0] at HB0
    clear w0 hlm0 hbig0
    go_enter Try.func8, Try.ntmps8
    go_wp2_with (go_at_call 9; refine (HB0.out _).mono ?_; rintro e w1 ⟨rfl, rfl⟩)
    go_ret
    exact ⟨rfl, Below.refl _ _⟩
  · rw [decide_eq_false hbig0] at HB0
    have c0 := w0.code
    have HC0 : Hid (CodeAt w.heap.size a0 len0 w) := c0
    have hl0 : len0 ≤ 1048576 := by omega
    clear w0 hlm0 hbig0 c0
    go_enter Try.func8, Try.ntmps8
    go_wp2_with fail
    refine (HB0.out _).mono ?_
    rintro e wx ⟨rfl, hwx⟩
    subst hwx
    go_wp2_with fail
    refine (DrawPutHead_any wx.heap.size a0 len0 cap0 wx (Nat.le_refl _) HC0.out hl0).mono ?_
    rintro e w2 ⟨⟨l, n, hn1, hn2, rfl⟩, hb2⟩
    go_wp2_with fail
    refine (implPutHead_any l n _).mono ?_
    rintro e w3 ⟨rfl, hb3⟩
    replace hb2 := below_step' hb2 hb3
    clear hb3
    go_wp2_with fail
    refine (DrawGetHead_any wx.heap.size a0 len0 cap0 w3 hb2.size (HC0.out.below hb2) hl0).mono ?_
    rintro e w4 ⟨⟨T, hT, rfl⟩, hb4⟩
    replace hb2 := below_step' hb2 hb4
    clear hb4 HC0 HB0
    have HP : Hid _ := fun w => specPutHead_any l n w
    have G := fun w => implGetHead_any T w (by omega)
    have S := fun w => specGetHead_any T w (by omega)
    have hTi : (T.size : Int) ≤ 20 := by omega
    cases hg : getHead T.data.toList with
    | mk x mki =>
      obtain ⟨m, k, is⟩ := mki
      rw [hg] at G S
      cases is
      · have HG : Hid _ := G
        have HS : Hid _ := S
        clear G S hg
        by_cases hp : putHead l n = []
        · rw [hp] at HP ⊢
          go_wp2_with (first | (go_at_call 43; refine (HG.out _).mono ?_; rintro e w5 ⟨rfl, hb5⟩; rw [quadV]; replace hb2 := below_step' hb2 hb5; clear hb5) | (go_at_call 44; refine (HS.out _).mono ?_; rintro e w5 ⟨rfl, hb5⟩; rw [quadV]; replace hb2 := below_step' hb2 hb5; clear hb5))
          refine wp_region_quiet_below (by kernel_rfl) (by kernel_rfl) ?_
          repeat (go_big_quiet_step (exact Calls.regrown_of (HP.out _)))
          refine wpQuiet_nil ?_
          intro w6 hw'
          obtain ⟨⟨dq, osq⟩, hw''⟩ := hw'
          replace hb2 := below_step' hb2 (below_regrown _ dq osq)
          rw [← hw''] at hb2
          clear hw''
          go_wp2
          refine wp_region_quiet_below (by kernel_rfl) (by kernel_rfl) ?_
          repeat (go_big_quiet_step (exact Calls.regrown_of (HP.out _)))
          refine wpQuiet_nil ?_
          intro w7 hw'
          obtain ⟨⟨dq, osq⟩, hw''⟩ := hw'
          replace hb2 := below_step' hb2 (below_regrown _ dq osq)
          rw [← hw''] at hb2
          clear hw''
          go_wp2
          go_ret
          exact ⟨rfl, hb2⟩
        · obtain ⟨m', rfl, hm', hpl, eg⟩ := getHead_put l n T.data.toList hp
          rw [hpl] at hp HP ⊢
          have hpe := isE _ hp
          have h3 := headL_len l m' hm'
          obtain ⟨U, hU⟩ : ∃ U : ByteArray, U = ⟨(headL l m').toArray⟩ := ⟨_, rfl⟩
          have hUl : U.toList.isEmpty = false := by rw [ByteArray.toList_eq, hU]; exact hpe
          have hUd : U.data.toList = headL l m' := by rw [hU]
          have hUs : U.size = (headL l m').length := by rw [hU]; show (headL l m').toArray.size = _; simp
          have hA : (U ++ T).data.toList = headL l m' ++ T.data.toList := by rw [ByteArray.data_append, Array.toList_append, hUd]
          have hAs : (U ++ T).size ≤ 1048576 := by rw [ByteArray.size_append]; omega
          have E := fun w => implGetHead_any (U ++ T) w hAs
          rw [hA, eg, ← hUs] at E
          rw [← hU] at HP ⊢
          have HE : Hid _ := E
          have hUi : (U.size : Int) ≤ 3 := by omega
          clear E eg hA hAs hUd hU hpe hp hpl h3 hUs
          go_wp2_with (first | (go_at_call 43; refine (HG.out _).mono ?_; rintro e w5 ⟨rfl, hb5⟩; rw [quadV]; replace hb2 := below_step' hb2 hb5; clear hb5) | (go_at_call 44; refine (HS.out _).mono ?_; rintro e w5 ⟨rfl, hb5⟩; rw [quadV]; replace hb2 := below_step' hb2 hb5; clear hb5))
          refine wp_region_quiet_below (by kernel_rfl) (by kernel_rfl) ?_
          repeat (go_big_quiet_step (exact Calls.regrown_of (HP.out _)))
          refine wpQuiet_nil ?_
          intro w6 hw'
          obtain ⟨⟨dq, osq⟩, hw''⟩ := hw'
          replace hb2 := below_step' hb2 (below_regrown _ dq osq)
          rw [← hw''] at hb2
          clear hw''
          go_wp2_with fail
          refine (Calls.mono (HE.out _) ?_)
          rintro e w7 ⟨rfl, hb7⟩
          rw [quadV]
          replace hb2 := below_step' hb2 hb7
          clear hb7
          go_wp2
          go_ret
          exact ⟨rfl, hb2⟩
      · obtain ⟨hb, hk, hm⟩ := getHead_back _ _ _ _ hg
        have Q := fun w => implPutHead_any x m w
        rw [hb] at Q
        have hks : (k : Int) ≤ (T.size : Int) := by rw [Array.length_toList] at hk; exact Int.ofNat_le.2 hk
        have hTx : (T.extract 0 k).toList = T.data.toList.take k := by rw [ByteArray.toList_eq, Lib.extract_data]; simp
        have HG : Hid _ := G
        have HS : Hid _ := S
        have HQ : Hid _ := Q
        clear G S hg Q hb hk hm
        by_cases hp : putHead l n = []
        · rw [hp] at HP ⊢
          generalize T.data.toList.take k = tk at *
          go_wp2_with (first | (go_at_call 43; refine (HG.out _).mono ?_; rintro e w5 ⟨rfl, hb5⟩; rw [quadV]; replace hb2 := below_step' hb2 hb5; clear hb5) | (go_at_call 44; refine (HS.out _).mono ?_; rintro e w5 ⟨rfl, hb5⟩; rw [quadV]; replace hb2 := below_step' hb2 hb5; clear hb5))
          refine wp_region_quiet_below (by kernel_rfl) (by kernel_rfl) ?_
          repeat (go_big_quiet_step (first | (go_at_call 45; exact Calls.regrown_of (HP.out _)) | (go_at_call 41; exact Calls.regrown_of (HQ.out _))))
          refine wpQuiet_nil ?_
          intro w6 hw'
          obtain ⟨⟨dq, osq⟩, hw''⟩ := hw'
          replace hb2 := below_step' hb2 (below_regrown _ dq osq)
          rw [← hw''] at hb2
          clear hw''
          go_wp2
          refine wp_region_quiet_below (by kernel_rfl) (by kernel_rfl) ?_
          repeat (go_big_quiet_step (first | (go_at_call 45; exact Calls.regrown_of (HP.out _)) | (go_at_call 41; exact Calls.regrown_of (HQ.out _))))
          refine wpQuiet_nil ?_
          intro w7 hw'
          obtain ⟨⟨dq, osq⟩, hw''⟩ := hw'
          replace hb2 := below_step' hb2 (below_regrown _ dq osq)
          rw [← hw''] at hb2
          clear hw''
          go_wp2
          go_ret
          exact ⟨rfl, hb2⟩
        · obtain ⟨m', rfl, hm', hpl, eg⟩ := getHead_put l n T.data.toList hp
          rw [hpl] at hp HP ⊢
          have hpe := isE _ hp
          have h3 := headL_len l m' hm'
          obtain ⟨U, hU⟩ : ∃ U : ByteArray, U = ⟨(headL l m').toArray⟩ := ⟨_, rfl⟩
          have hUl : U.toList.isEmpty = false := by rw [ByteArray.toList_eq, hU]; exact hpe
          have hUd : U.data.toList = headL l m' := by rw [hU]
          have hUs : U.size = (headL l m').length := by rw [hU]; show (headL l m').toArray.size = _; simp
          have hA : (U ++ T).data.toList = headL l m' ++ T.data.toList := by rw [ByteArray.data_append, Array.toList_append, hUd]
          have hAs : (U ++ T).size ≤ 1048576 := by rw [ByteArray.size_append]; omega
          have E := fun w => implGetHead_any (U ++ T) w hAs
          rw [hA, eg, ← hUs] at E
          rw [← hU] at HP ⊢
          have HE : Hid _ := E
          have hUi : (U.size : Int) ≤ 3 := by omega
          clear E eg hA hAs hUd hU hpe hp hpl h3 hUs
          generalize T.data.toList.take k = tk at *
          go_wp2_with (first | (go_at_call 43; refine (HG.out _).mono ?_; rintro e w5 ⟨rfl, hb5⟩; rw [quadV]; replace hb2 := below_step' hb2 hb5; clear hb5) | (go_at_call 44; refine (HS.out _).mono ?_; rintro e w5 ⟨rfl, hb5⟩; rw [quadV]; replace hb2 := below_step' hb2 hb5; clear hb5))
          refine wp_region_quiet_below (by kernel_rfl) (by kernel_rfl) ?_
          repeat (go_big_quiet_step (first | (go_at_call 45; exact Calls.regrown_of (HP.out _)) | (go_at_call 41; exact Calls.regrown_of (HQ.out _))))
          refine wpQuiet_nil ?_
          intro w6 hw'
          obtain ⟨⟨dq, osq⟩, hw''⟩ := hw'
          replace hb2 := below_step' hb2 (below_regrown _ dq osq)
          rw [← hw''] at hb2
          clear hw''
          go_wp2_with fail
          refine (Calls.mono (HE.out _) ?_)
          rintro e w7 ⟨rfl, hb7⟩
          rw [quadV]
          replace hb2 := below_step' hb2 hb7
          clear hb7
          go_wp2
          go_ret
          exact ⟨rfl, hb2⟩
set_option maxRecDepth 100000 in
theorem lifted (os : Os) (started : os.Started) (H : Type) (enc : TypeId × Value → H) :
    ReturnsInHanded {} Try.checked os 8 .any (Rows.fnHeadSpec.pre6 enc Try.prog Try.f8 Rows.fnHeadRow.domain false) (Rows.fnHeadSpec.post enc Try.prog Try.f8 false true false false) := by
  refine returnsInHanded_of_change (C := Try.checked) own started (by kernel_rfl) Try.func8
    (ChangeSpec.witness6 (enc := enc) (C := Try.checked) false ⟨#[], #[.slice none 0 0], []⟩ 8 (by kernel_rfl) (by kernel_rfl) (by kernel_rfl) (by kernel_rfl)) ?_
  intro W base args ds gs before hval0 hW hcnd _
  have hval : ∀ (j : Nat) t v, Try.f8.params[j]? = some t → args[j]? = some v → Value.okWide Try.prog W .any base t v := hval0
  have hW' := hW
  obtain ⟨p, q, hA0, hV, rfl, hfz, hnd⟩ := hW
  have hA : DataW.TrodAll enc Try.prog W 0 (fun _ => true) true Try.f8.params.toList args.toList ds p := hA0
  rw [Try.params8] at hA hval
  obtain ⟨v0, vs0, d0, ds0, p0, q0, hargs, rfl, rfl, h0, r0⟩ := trodAll_cons hA
  obtain ⟨rfl, rfl, rfl⟩ := trodAll_nil r0
  obtain rfl : args = #[v0] := by cases args; simp_all
  obtain ⟨rfl, rfl⟩ := trodVars_none hV
  obtain ⟨a0, len0, cap0, rfl⟩ := okWide_slice Try.underlying22 (hval 0 22 v0 rfl rfl)
  have k0 := h0
  have lt0 : ∀ x ∈ p0, x.block < W.heap.size := by obtain ⟨m, hm⟩ := k0; exact DataW.trod_lt m _ _ _ hm
  obtain ⟨z0, w0⟩ : ∃ zs, IsRow .u8 W a0 len0 cap0 zs := by
    obtain ⟨fuel, hf⟩ := h0
    rcases open_ints Try.underlying22 Try.underlying5 (by kernel_rfl) hf with ⟨hcs, _⟩ | ⟨x, l, c, zs, hcs, _, hl, hm, hz, _, hcell, hwz⟩
    · simp [Value.cells] at hcs
      obtain ⟨rfl, rfl, rfl⟩ := hcs
      exact ⟨[], .inl ⟨rfl, rfl, rfl, rfl⟩⟩
    · simp [Value.cells] at hcs
      obtain ⟨rfl, rfl, rfl⟩ := hcs
      exact ⟨zs, .inr ⟨_, rfl, hl, hm, by simpa using hz, hcell, hwz⟩⟩
  clear hA0 hval0
  refine (walk a0 len0 cap0 z0 W w0).mono fun e W' ⟨he, bel⟩ => ?_
  subst he
  exact ⟨_, rfl, _, _, _, [], _, [], hW', trodAll_mk1 (shut_bool Try.underlying4 _), (trodAll_cons_mk (Below.trod laidOut (by kernel_rfl) (of_decide_eq_true (by kernel_rfl)) k0 bel lt0) trodAll_mk0), rfl, bel.frame _, fun h => by cases h⟩
theorem over : Rows.fnHeadRow.holds Try.pinned (OpenSpec.ofChange Rows.fnHeadSpec) :=
  OpenClaim.holds_of_wide 8 Try.f8 rfl rfl rfl rfl rfl rfl rfl ⟨rfl, rfl, rfl, rfl, rfl⟩ rfl rfl rfl rfl rfl (by kernel_rfl) Try.func8 (by kernel_rfl)
    (of_decide_eq_true (by kernel_rfl)) (by unfold Func.isWrapper; first | (rw [if_pos (by decide +kernel)]; kernel_rfl) | (rw [if_neg (by decide +kernel)]; exact ⟨rfl, rfl⟩))
    (fun os started H enc _ => lifted os started H enc)
theorem proved : Rows.FnHeadSaid := over
#print axioms proved
end Go.Proofs.Ytmegoiggchghpaa.fnHead
