/- Whatever its arguments, laws.FnCompact returns true and leaves them as they were; no condition. -/
import Derived.Test.YtmegoiggchghpaaDrawJ
import Derived.ProofKit
import Derived.OpenShut
import Derived.ShutString
import Derived.ChangeOld
namespace Go.Proofs.Ytmegoiggchghpaa.fnCompact
open Go.ChangeShapes Go.WideShapes Go.ChangeAt Go.RowKit
open Go.ChangeMaps (open_string shut_string)
set_option linter.unusedVariables false
theorem own : ownKnob Try.prog.godebug = none := by kernel_rfl
theorem laidOut : laidOutB Try.prog = true := by kernel_rfl

set_option maxRecDepth 100000 in
set_option maxHeartbeats 2000000 in
theorem walk (a0 : Option Addr) (len0 cap0 : Nat) (z0 : List Int) (w : World) (w0 : IsRow .u8 w a0 len0 cap0 z0) :
    Calls Try.prog 7 #[.slice a0 len0 cap0] w fun e w' => e = .returned (.bool true) ∧ Below w.heap.size w w' := by
  have hlm0 := w0.len
  have HB0 : Hid _ := fun w => big_any a0 len0 cap0 w hlm0
  by_cases hbig0 : 1048576 < len0
  · rw [decide_eq_true hbig0] at HB0
    clear w0 hlm0 hbig0
    go_enter Try.func7, Try.ntmps7
    go_wp2_with (go_at_call 9; refine (HB0.out _).mono ?_; rintro e w1 ⟨rfl, rfl⟩)
    go_ret
    exact ⟨rfl, Below.refl _ _⟩
  · rw [decide_eq_false hbig0] at HB0
    have c0 := w0.code
    have HC0 : Hid (CodeAt w.heap.size a0 len0 w) := c0
    have hl0 : len0 ≤ 1048576 := by omega
    clear w0 hlm0 hbig0 c0
    go_enter Try.func7, Try.ntmps7
    go_wp2_with fail
    refine (HB0.out _).mono ?_
    rintro e wx ⟨rfl, hwx⟩
    subst hwx
    go_wp2_with fail
    refine (DrawPutCompact_any wx.heap.size a0 len0 cap0 wx (Nat.le_refl _) HC0.out hl0).mono ?_
    rintro e w2 ⟨⟨n, hn, rfl⟩, hb2⟩
    go_wp2_with fail
    refine (implPutCompact_any n _ hn).mono ?_
    rintro e w3 ⟨rfl, hb3⟩
    replace hb2 := below_step' hb2 hb3
    clear hb3
    go_wp2_with fail
    refine (DrawGetCompact_any wx.heap.size a0 len0 cap0 w3 hb2.size (HC0.out.below hb2) hl0).mono ?_
    rintro e w4 ⟨⟨T, hT, rfl⟩, hb4⟩
    replace hb2 := below_step' hb2 hb4
    clear hb4 HC0 HB0
    have HP : Hid _ := fun w => specPutCompact_any n w hn
    have G := fun w => implGetCompact_any T w (by omega)
    have S := fun w => specGetCompact_any T w (by omega)
    have hlp := putCompact_nine n hn
    have hlq : 1 ≤ (putCompact n).length := by
      rw [putCompact_eqlen]
      repeat' split
      all_goals omega
    have e1 := getCompact_put n T.data.toList hn
    have e2 := getCompact_cut n hn
    obtain ⟨U, hU⟩ : ∃ U : ByteArray, U = ⟨(putCompact n).toArray⟩ := ⟨_, rfl⟩
    have hUl : U.toList = putCompact n := by rw [ByteArray.toList_eq, hU]
    have hUd : U.data.toList = putCompact n := by rw [hU]
    have hUs : U.size = (putCompact n).length := by rw [hU]; show (putCompact n).toArray.size = _; simp
    have hA : (U ++ T).data.toList = putCompact n ++ T.data.toList := by rw [ByteArray.data_append, Array.toList_append, hUd]
    have hAs : (U ++ T).size ≤ 1048576 := by rw [ByteArray.size_append]; omega
    have E := fun w => implGetCompact_any (U ++ T) w hAs
    rw [hA, e1, ← hUs] at E
    obtain ⟨c, hc, hcu⟩ : ∃ c : Nat, (U.size : Int) - 1 = c ∧ c < U.size := ⟨U.size - 1, by omega, by omega⟩
    have hX : (U.extract 0 c).data.toList = (putCompact n).take ((putCompact n).length - 1) := by
      rw [Lib.extract_data, hUd]
      have : c = (putCompact n).length - 1 := by omega
      subst this
      simp
    have hXs : (U.extract 0 c).size ≤ 1048576 := by
      have h1 : (U.extract 0 c).data.toList.length = (U.extract 0 c).size := Array.length_toList
      rw [← h1, hX, List.length_take]; omega
    have F := fun w => implGetCompact_any (U.extract 0 c) w hXs
    rw [hX] at F
    generalize getCompact ((putCompact n).take ((putCompact n).length - 1)) = cut at *
    obtain ⟨c1, c2, c3⟩ := cut
    have e3 : c3 = false := e2
    subst e3
    rw [← hU] at HP ⊢
    have HE : Hid _ := E
    have HF : Hid _ := F
    have hUi : (U.size : Int) ≤ 9 := by omega
    have hwc : IntKind.i64.wrap (c : Int) = (c : Int) := by rw [IntKind.wrap_i64]; omega
    clear E F e1 e2 hA hAs hX hXs hUd hUl hU hlp hlq hUs
    cases hg : getCompact T.data.toList with
    | mk x ki =>
      obtain ⟨k, is⟩ := ki
      rw [hg] at G S
      cases is
      · have HG : Hid _ := G
        have HS : Hid _ := S
        clear G S hg
        go_wp2_with (first | (go_at_call 37; refine (HG.out _).mono ?_; rintro e w5 ⟨rfl, rfl⟩; rw [tripV]) | (go_at_call 38; refine (HS.out _).mono ?_; rintro e w5 ⟨rfl, hb5⟩; rw [tripV]; replace hb2 := below_step' hb2 hb5; clear hb5))
        refine wp_region_quiet_below (by kernel_rfl) (by kernel_rfl) ?_
        repeat (go_big_quiet_step (exact Calls.regrown_of (HP.out _)))
        refine wpQuiet_nil ?_
        intro w6 hw'
        obtain ⟨⟨dq, osq⟩, hw''⟩ := hw'
        replace hb2 := below_step' hb2 (below_regrown _ dq osq)
        rw [← hw''] at hb2
        clear hw''
        go_wp2_with fail
        refine (Calls.mono (HE.out _) ?_)
        rintro e w7 ⟨rfl, rfl⟩
        rw [tripV]
        go_wp2_with fail
        refine (Calls.mono (HF.out _) ?_)
        rintro e w8 ⟨rfl, rfl⟩
        rw [tripV]
        go_wp2
        go_ret
        exact ⟨rfl, hb2⟩
      · obtain ⟨hb, hk, hx⟩ := getCompact_back _ _ _ hg
        have Q := fun w => implPutCompact_any x w hx
        rw [hb] at Q
        have hks : (k : Int) ≤ (T.size : Int) := by rw [Array.length_toList] at hk; exact Int.ofNat_le.2 hk
        have hTx : (T.extract 0 k).toList = T.data.toList.take k := by rw [ByteArray.toList_eq, Lib.extract_data]; simp
        have HG : Hid _ := G
        have HS : Hid _ := S
        have HQ : Hid _ := Q
        clear G S hg Q hb hk
        generalize T.data.toList.take k = tk at *
        go_wp2_with (first | (go_at_call 37; refine (HG.out _).mono ?_; rintro e w5 ⟨rfl, rfl⟩; rw [tripV]) | (go_at_call 38; refine (HS.out _).mono ?_; rintro e w5 ⟨rfl, hb5⟩; rw [tripV]; replace hb2 := below_step' hb2 hb5; clear hb5))
        refine wp_region_quiet_below (by kernel_rfl) (by kernel_rfl) ?_
        repeat (go_big_quiet_step (first | (go_at_call 39; exact Calls.regrown_of (HP.out _)) | (go_at_call 35; exact Calls.regrown_of (HQ.out _))))
        refine wpQuiet_nil ?_
        intro w6 hw'
        obtain ⟨⟨dq, osq⟩, hw''⟩ := hw'
        replace hb2 := below_step' hb2 (below_regrown _ dq osq)
        rw [← hw''] at hb2
        clear hw''
        go_wp2_with fail
        refine (Calls.mono (HE.out _) ?_)
        rintro e w7 ⟨rfl, rfl⟩
        rw [tripV]
        go_wp2_with fail
        refine (Calls.mono (HF.out _) ?_)
        rintro e w8 ⟨rfl, rfl⟩
        rw [tripV]
        go_wp2
        go_ret
        exact ⟨rfl, hb2⟩
set_option maxRecDepth 100000 in
theorem lifted (os : Os) (started : os.Started) (H : Type) (enc : TypeId × Value → H) :
    ReturnsInHanded {} Try.checked os 7 .any (Rows.fnCompactSpec.pre6 enc Try.prog Try.f7 Rows.fnCompactRow.domain false) (Rows.fnCompactSpec.post enc Try.prog Try.f7 false true false false) := by
  refine returnsInHanded_of_change (C := Try.checked) own started (by kernel_rfl) Try.func7
    (ChangeSpec.witness6 (enc := enc) (C := Try.checked) false ⟨#[], #[.slice none 0 0], []⟩ 8 (by kernel_rfl) (by kernel_rfl) (by kernel_rfl) (by kernel_rfl)) ?_
  intro W base args ds gs before hval0 hW hcnd _
  have hval : ∀ (j : Nat) t v, Try.f7.params[j]? = some t → args[j]? = some v → Value.okWide Try.prog W .any base t v := hval0
  have hW' := hW
  obtain ⟨p, q, hA0, hV, rfl, hfz, hnd⟩ := hW
  have hA : DataW.TrodAll enc Try.prog W 0 (fun _ => true) true Try.f7.params.toList args.toList ds p := hA0
  rw [Try.params7] at hA hval
  obtain ⟨v0, vs0, d0, ds0, p0, q0, hargs, rfl, rfl, h0, r0⟩ := trodAll_cons hA
  obtain ⟨rfl, rfl, rfl⟩ := trodAll_nil r0
  obtain rfl : args = #[v0] := by cases args; simp_all
  obtain ⟨rfl, rfl⟩ := trodVars_none hV
  obtain ⟨a0, len0, cap0, rfl⟩ := okWide_slice Try.underlying22 (hval 0 22 v0 rfl rfl)
  have k0 := h0
  have lt0 : ∀ x ∈ p0, x.block < W.heap.size := by obtain ⟨m, hm⟩ := k0; exact DataW.trod_lt m _ _ _ hm
  obtain ⟨z0, w0⟩ : ∃ zs, IsRow .u8 W a0 len0 cap0 zs := by
    obtain ⟨fuel, hf⟩ := h0
    rcases open_ints Try.underlying22 Try.underlying5 (by kernel_rfl) hf with ⟨hcs, _⟩ | ⟨x, l, c, zs, hcs, _, hl, hm, hz, _, hcell, hwz⟩
    · simp [Value.cells] at hcs
      obtain ⟨rfl, rfl, rfl⟩ := hcs
      exact ⟨[], .inl ⟨rfl, rfl, rfl, rfl⟩⟩
    · simp [Value.cells] at hcs
      obtain ⟨rfl, rfl, rfl⟩ := hcs
      exact ⟨zs, .inr ⟨_, rfl, hl, hm, by simpa using hz, hcell, hwz⟩⟩
  clear hA0 hval0
  refine (walk a0 len0 cap0 z0 W w0).mono fun e W' ⟨he, bel⟩ => ?_
  subst he
  exact ⟨_, rfl, _, _, _, [], _, [], hW', trodAll_mk1 (shut_bool Try.underlying4 _), (trodAll_cons_mk (Below.trod laidOut (by kernel_rfl) (of_decide_eq_true (by kernel_rfl)) k0 bel lt0) trodAll_mk0), rfl, bel.frame _, fun h => by cases h⟩
theorem over : Rows.fnCompactRow.holds Try.pinned (OpenSpec.ofChange Rows.fnCompactSpec) :=
  OpenClaim.holds_of_wide 7 Try.f7 rfl rfl rfl rfl rfl rfl rfl ⟨rfl, rfl, rfl, rfl, rfl⟩ rfl rfl rfl rfl rfl (by kernel_rfl) Try.func7 (by kernel_rfl)
    (of_decide_eq_true (by kernel_rfl)) (by unfold Func.isWrapper; first | (rw [if_pos (by decide +kernel)]; kernel_rfl) | (rw [if_neg (by decide +kernel)]; exact ⟨rfl, rfl⟩))
    (fun os started H enc _ => lifted os started H enc)
theorem proved : Rows.FnCompactSaid := over
#print axioms proved
end Go.Proofs.Ytmegoiggchghpaa.fnCompact
