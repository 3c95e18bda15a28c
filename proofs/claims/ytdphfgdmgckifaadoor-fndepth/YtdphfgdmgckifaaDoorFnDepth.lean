/- Whatever its arguments, laws.FnDepth returns true and leaves them, and the table that it reads, as they were; the table starts as the program's text lays it. -/
import Derived.Test.YtdphfgdmgckifaaDoorCards
import Derived.Test.YtdphfgdmgckifaaDoorTie
import Derived.Test.YtdphfgdmgckifaaDoorS2h
import Derived.Test.YtdphfgdmgckifaaDoorDrawV
import Derived.Test.YtdphfgdmgckifaaDoorPu
import Derived.Test.YtdphfgdmgckifaaDoorS2k
import Derived.SevenTiedAt
namespace Go.Proofs.YtdphfgdmgckifaaDoor.fnDepth
open Go.ChangeShapes Go.WideShapes Go.ChangeAt Go.RowKit
open Go.ChangeMaps (open_string shut_string)
set_option linter.unusedVariables false
theorem big_any (a : Option Addr) (len cap : Nat) (w : World) (hl : len ≤ maxLen) : Calls Tryd.prog 17 #[.slice a len cap] w fun e w' => e = .returned (.bool (decide (1048576 < len))) ∧ w' = w := by
  unfold maxLen at hl
  go_enter Tryd.func17, Tryd.ntmps17
  go_wp2
  go_ret
  exact ⟨ret_b (by simp; omega), rfl⟩
theorem row_len {k : IntKind} {w : World} {a : Option Addr} {len cap : Nat} {zs : List Int} (h : IsRow k w a len cap zs) : len ≤ maxLen := by
  rcases h with ⟨_, rfl, _, _⟩ | ⟨x, _, h1, h2, _⟩
  · simp [maxLen]
  · omega

set_option maxRecDepth 100000 in
set_option maxHeartbeats 1000000 in
theorem walk (a0 : Option Addr) (len0 cap0 : Nat) (z0 : List Int) (w : World) (w0 : IsRow .u8 w a0 len0 cap0 z0) (hkr : KR w) :
    Calls Tryd.prog 7 #[.slice a0 len0 cap0] w fun e w' => e = .returned (.bool true) ∧ Below w.heap.size w w' := by
  have hlm := row_len w0
  by_cases hbig : 1048576 < len0
  · have hd : decide (1048576 < len0) = true := decide_eq_true hbig
    have HB : Hid (∀ w, Calls Tryd.prog 17 #[.slice a0 len0 cap0] w fun e w' => e = .returned (.bool true) ∧ w' = w) := fun w => by have := big_any a0 len0 cap0 w hlm; rwa [hd] at this
    clear w0 hlm hbig hd hkr
    go_enter Tryd.func7, Tryd.ntmps7
    go_wp2_with fail
    refine (HB.out _).mono ?_
    rintro e w1 ⟨rfl, rfl⟩
    go_wp2_with fail
    go_ret
    exact ⟨rfl, Below.refl _ _⟩
  · have hd : decide (1048576 < len0) = false := decide_eq_false hbig
    have HB : Hid (∀ w, Calls Tryd.prog 17 #[.slice a0 len0 cap0] w fun e w' => e = .returned (.bool false) ∧ w' = w) := fun w => by have := big_any a0 len0 cap0 w hlm; rwa [hd] at this
    have HD : Hid (Calls Tryd.prog 19 #[.slice a0 len0 cap0] w fun e w' => DrawPost w e w') := DrawDepthOf_any w.heap.size a0 len0 cap0 w (Nat.le_refl _) w0.code (by omega)
    have HK : Hid (KR w) := hkr
    clear w0 hlm hbig hd hkr
    go_enter Tryd.func7, Tryd.ntmps7
    go_wp2_with fail
    refine (HB.out _).mono ?_
    rintro e w1 ⟨rfl, rfl⟩
    go_wp2_with fail
    refine Calls.mono HD.out ?_
    rintro e w2 ⟨v2, ts, rfl, hown, h41, hwf, hb2⟩
    have HV : Hid (IsTyps w2.heap.size w2 v2 ts) := own_typs hown (by omega) hwf
    have HW : Hid (wfT ts) := hwf
    have HO : Hid (w2.ownsRow w1.heap.size 38 2 v2 ts.length (flatT ts)) := hown
    have HB2 : Hid (Below w1.heap.size w1 w2) := hb2
    obtain ⟨x, hx⟩ : ∃ x, depthOf ts = x := ⟨_, rfl⟩
    have HX : Hid (depthOf ts = x) := hx
    have HS : Hid (∀ w', Below w2.heap.size w2 w' → Calls Tryd.prog 13 #[v2] w' fun e w'' => e = .returned (.int .i64 x) ∧ Below w'.heap.size w' w'') := fun w' hb' => by
      have := specDepthOf_any ts v2 w' ((HV.out.below hb').up hb'.size); rwa [hx] at this
    obtain ⟨ad, c2, rfl⟩ := own_slice hown
    clear hown hwf hx HD HB hb2
    go_wp2_with fail
    refine (implDepthOf_any ts _ w2 HV.out (HK.out.below HB2.out)).mono ?_
    rintro e w3 ⟨rfl, hb3⟩
    rw [HX.out]
    have HB3 : Hid (Below w2.heap.size w2 w3) := hb3
    clear hb3
    have hq : (x != x) = false := by simp
    by_cases hx0 : x < 0
    · have hxd : decide (x < 0) = true := by simpa using hx0
      go_wp2_with fail
      refine (HS.out w3 HB3.out).mono ?_
      rintro e w4 ⟨rfl, hb4⟩
      have HB4 : Hid (Below w2.heap.size w2 w4) := HB3.out.trans (hb4.mono HB3.out.size)
      clear hb4
      go_wp2_with fail
      refine (HS.out w4 HB4.out).mono ?_
      rintro e w5 ⟨rfl, hb5⟩
      have HB5 : Hid (Below w1.heap.size w1 w5) := HB2.out.trans ((HB4.out.trans (hb5.mono HB4.out.size)).mono HB2.out.size)
      clear hb5
      go_wp2_with fail
      go_ret
      exact ⟨by first | rfl | exact ret_b (by simp), HB5.out⟩
    · have hxd : decide (x < 0) = false := by simpa using hx0
      have hs : schOk ts = true := by
        cases hc : schOk ts with
        | true => rfl
        | false => have := HX.out; unfold depthOf at this; rw [hc] at this; simp at this; omega
      have HSo : Hid (schOk ts = true) := hs
      have hpos : 0 < ts.length := (en_lt (schOk_iff.1 hs).2).1
      have h40 : ts.length ≤ 40 := (schOk_iff.1 hs).1
      have hx6 : x ≤ 6 := by have := HX.out; unfold depthOf at this; rw [if_pos hs] at this; have := dp_le ts 7 0; omega
      clear hs
      obtain ⟨g2, c2', hv2, hgb, hgl⟩ := HO.out.form hpos
      cases hv2
      obtain ⟨i0, hi, hz0, hz1, hz2⟩ := info_parts Tryd.infoTyp2
      go_wp2_with fail
      refine (HS.out w3 HB3.out).mono ?_
      rintro e w4 ⟨rfl, hb4⟩
      have HB4 : Hid (Below w2.heap.size w2 w4) := HB3.out.trans (hb4.mono HB3.out.size)
      have HC4 : Hid (w4.ownsRow w1.heap.size 38 2 (.slice (some ⟨g2, 0, none⟩) ts.length c2) ts.length (flatT ts)) := HO.out.kept (gb_full HB4.out none) (by simp [Value.ownBlock])
      have hs4 : w2.heap.size ≤ w4.heap.size := HB4.out.size
      have HD4 : Hid ((w4.alloc (.cells #[.int .i64 8, .int .i64 0] 38)).ownsRow w4.heap.size 38 2 (.slice (some ⟨w4.heap.size, 0, none⟩) 1 1) 1 (flatT [(8, 0)])) := (own_one w4 8 0 (inI_of (by omega) (by omega)) (inI_of (by omega) (by omega))).1
      clear hb4
      go_wp2_with (at_builtin; refine wpList_append_lies _ rfl _ _ 25 rfl w4.heap.size 38 i0 (.agg #[.int .i64 0, .int .i64 0]) 2 16 Tryd.underlying25 hi hz0 hz1 hz2 rfl (by decide) _ 1 (flatT [(8, 0)]) rfl HD4.out ⟨g2, 0, none⟩ ts.length c2 (flatT ts) rfl (flatT_len ts) (fun j u hu => (HC4.out.alloc _).cells (g := g2) rfl j u hu) (fun u hu => by obtain ⟨z, rfl⟩ := flatT_int ts u hu; rfl) hpos (by unfold maxLen; omega) (by omega) (by simp) _ rfl ?_)
      intro g5 c5 w5 hown5 hgrow hat hlt5
      have HB5 : Hid (Below w4.heap.size w4 w5) := (bel1 w4 _).grown hgrow (by simp) (fun q hq => by simp [Value.ownBlock] at hq; omega)
      have ho5 : w5.ownsRow w4.heap.size 38 2 (.slice (some ⟨g5, 0, none⟩) (1 + ts.length) c5) ((8, 0) :: ts).length (flatT ((8, 0) :: ts)) := by
        have e1 : ((8, 0) :: ts).length = 1 + ts.length := by simp; omega
        rw [e1]; exact hown5
      have HV5 : Hid (IsTyps w5.heap.size w5 (.slice (some ⟨g5, 0, none⟩) (1 + ts.length) c5) ((8, 0) :: ts)) := own_typs ho5 (by simp; omega) (fun t ht => by
        rcases List.mem_cons.1 ht with rfl | ht
        · exact ⟨inI_of (by omega) (by omega), inI_of (by omega) (by omega)⟩
        · exact HW.out t ht)
      clear hown5 hgrow hat hlt5 ho5
      have HB25 : Hid (Below w2.heap.size w2 w5) := HB4.out.trans (HB5.out.mono HB4.out.size)
      have HB15 : Hid (Below w1.heap.size w1 w5) := HB2.out.trans (HB25.out.mono HB2.out.size)
      go_wp2_with fail
      refine (implDepthOf_any ((8, 0) :: ts) _ w5 HV5.out (HK.out.below HB15.out)).mono ?_
      rintro e w6 ⟨rfl, hb6⟩
      have HB6 : Hid (Below w5.heap.size w5 w6) := hb6
      have HB16 : Hid (Below w1.heap.size w1 w6) := HB15.out.trans (hb6.mono HB15.out.size)
      clear hb6
      by_cases hc : x = 6 ∨ ts.length = 40
      · have hM : depthOf ((8, 0) :: ts) = -1 := by rw [opt_depth HSo.out, HX.out, if_pos hc]
        rw [hM]
        clear hM
        by_cases h6 : x = 6
        · have h6' : (x == 6) = true := by simp [h6]
          clear hc h6
          go_wp2_with fail
          go_ret
          exact ⟨by first | rfl | exact ret_b (by simp), HB16.out⟩
        · have h6' : (x == 6) = false := beqF h6
          have h4' : ((ts.length : Int) == 40) = true := by
            have : ts.length = 40 := hc.resolve_left h6
            simp [this]
          clear hc h6
          go_wp2_with fail
          go_ret
          exact ⟨by first | rfl | exact ret_b (by simp), HB16.out⟩
      · have hM : depthOf ((8, 0) :: ts) = x + 1 := by rw [opt_depth HSo.out, HX.out, if_neg hc]
        have HE : Hid (endOf ((8, 0) :: ts) 1 = 1 + (ts.length : Int)) := by show _ = _; rw [opt_end HSo.out (by rw [HX.out]; exact hc)]; omega
        rw [hM]
        clear hM
        have h6' : (x == 6) = false := beqF (by omega)
        have h4' : ((ts.length : Int) == 40) = false := beqF (by omega)
        have hxx : (x + 1 == x + 1) = true := by simp
        clear hc
        go_wp2_with fail
        refine (implEndOf_any ((8, 0) :: ts) 1 _ w6 ((HV5.out.below HB6.out).up HB6.out.size) (HK.out.below HB16.out)).mono ?_
        rintro e w7 ⟨rfl, hb7⟩
        rw [HE.out]
        have HB17 : Hid (Below w1.heap.size w1 w7) := HB16.out.trans (hb7.mono HB16.out.size)
        clear hb7
        go_wp2_with fail
        go_ret
        exact ⟨by first | rfl | exact ret_b (by simp), HB17.out⟩
theorem door_met (os : Os) (args : Array Value) : laidMetH Tryd.prog laidKR ((World.doorLaid Tryd.prog 400 os).forCall (fun _ _ => 0) ⟨#[], args, []⟩).memory :=
  laidMetH_of_parts3 (fuel := 8) (laidMet_of_run' 8 (by kernel_rfl) (by kernel_rfl)) (by kernel_rfl) (by kernel_rfl)
set_option maxRecDepth 100000 in
theorem lifted (os : Os) (started : os.Started) (H : Type) (enc : TypeId × Value → H) :
    ReturnsInHanded {} Tryd.checked os 7 .any (fun w args => (Rows.fnDepthSpec.pre enc Tryd.prog Tryd.f7 [] false w args ∧ laidMetH Tryd.prog laidKR w) ∧ sizedMet enc Tryd.prog Tryd.f7 (OpenSpec.ofChange Rows.fnDepthSpec) false w args)
      (Rows.fnDepthSpec.post enc Tryd.prog Tryd.f7 false true false false) := by
  refine returnsInHanded_of_change_and (C := Tryd.checked) (X := fun w _ => laidMetH Tryd.prog laidKR w) (fun _ _ _ hh h => h.of_heap hh) Tryd.own started (by kernel_rfl) Tryd.func7
    (ChangeSpec.witness_shaped (enc := enc) (C := Tryd.checked) (os := os) (X := fun w _ => laidMetH Tryd.prog laidKR w) false (World.doorLaid Tryd.prog 400 os) #[.slice none 0 0] 8 rfl (World.shaped_of_RefB (by kernel_rfl) (by kernel_rfl)) (by kernel_rfl) (by kernel_rfl) (by kernel_rfl) (door_met os _)) ?_
  intro W base args ds gs before hval0 hW _ _ hL _
  have hval : ∀ (j : Nat) t v, Tryd.f7.params[j]? = some t → args[j]? = some v → Value.okWide Tryd.prog W .any base t v := hval0
  have hW' := hW
  obtain ⟨p, q, hA0, hV0, rfl, hfz, hnd⟩ := hW
  have hA : DataW.TrodAll enc Tryd.prog W 0 (fun _ => true) true Tryd.f7.params.toList args.toList ds p := hA0
  have hV : DataW.TrodVars enc Tryd.prog W (fun _ => true) ["loop.example/g00774/impl.kindRows"] gs q := hV0
  rw [Tryd.params7] at hA hval
  obtain ⟨v0, vs0, d0, ds0, p0, q0, hargs, rfl, rfl, h0, r0⟩ := trodAll_cons hA
  obtain ⟨rfl, rfl, rfl⟩ := trodAll_nil r0
  obtain rfl : args = #[v0] := by cases args; simp_all
  obtain ⟨g, t, cs, fuel, d, p', rfl, hg, ht, hvar, hd, rfl⟩ := trodVars_one hV
  obtain rfl := Option.some.inj (Tryd.gKR.symm.trans hg)
  obtain rfl := Option.some.inj (Tryd.tKR.symm.trans ht)
  obtain rfl : cs = kc := Option.some.inj (hvar.symm.trans (kr_of_laid hL))
  obtain ⟨rfl, rfl⟩ := DataW.Trod.unique (v := .agg kc) ⟨fuel, hd⟩ ⟨4, reads_kr enc W _⟩
  have hkr : KR W := KR.of_laid hL
  obtain ⟨a0, len0, cap0, rfl⟩ := okWide_slice Tryd.underlying32 (hval 0 32 v0 rfl rfl)
  have k0 := h0
  have lt0 : ∀ x ∈ p0, x.block < W.heap.size := by obtain ⟨m, hm⟩ := k0; exact DataW.trod_lt m _ _ _ hm
  obtain ⟨z0, w0⟩ : ∃ zs, IsRow .u8 W a0 len0 cap0 zs := by
    obtain ⟨fuel, hf⟩ := h0
    rcases open_ints Tryd.underlying32 Tryd.underlying5 (by kernel_rfl) hf with ⟨hcs, _⟩ | ⟨x, l, c, zs, hcs, _, hl, hm, hz, _, hcell, hwz⟩
    · simp [Value.cells] at hcs
      obtain ⟨rfl, rfl, rfl⟩ := hcs
      exact ⟨[], .inl ⟨rfl, rfl, rfl, rfl⟩⟩
    · simp [Value.cells] at hcs
      obtain ⟨rfl, rfl, rfl⟩ := hcs
      exact ⟨zs, .inr ⟨_, rfl, hl, hm, by simpa using hz, hcell, hwz⟩⟩
  clear hA0 hV0 hval0
  refine (walk a0 len0 cap0 z0 W w0 hkr).mono fun e W' ⟨he, bel⟩ => ?_
  subst he
  have hvar' : W'.var? Tryd.prog "loop.example/g00774/impl.kindRows" = some kc := by
    have hb0 : W'.heap[0]? = W.heap[0]? := bel.block 0 hkr.1
    unfold World.var? at hvar ⊢
    rw [hg] at hvar ⊢
    simp only [Option.bind_some] at hvar ⊢
    rw [hb0]; exact hvar
  exact ⟨_, rfl, _, _, _, [], _, _, hW', trodAll_mk1 (shut_bool Tryd.underlying4 _), (trodAll_cons_mk (Below.trod Tryd.laidOut (by kernel_rfl) (of_decide_eq_true (by kernel_rfl)) k0 bel lt0) trodAll_mk0), ⟨0, 73, kc, 4, [], [], hg, ht, hvar', reads_kr enc W' _, rfl, rfl⟩, bel.frame _, fun h => by cases h⟩
theorem over : Rows.fnDepthRow.holds Tryd.pinned (OpenSpec.ofChange Rows.fnDepthSpec) :=
  OpenClaim.holds_of_wide 7 Tryd.f7 rfl rfl rfl rfl rfl rfl rfl ⟨rfl, rfl, rfl, rfl, rfl⟩ rfl rfl rfl rfl rfl (by kernel_rfl) Tryd.func7 (by kernel_rfl)
    (of_decide_eq_true (by kernel_rfl)) (by unfold Func.isWrapper; first | (rw [if_pos (by decide +kernel)]; kernel_rfl) | (rw [if_neg (by decide +kernel)]; exact ⟨rfl, rfl⟩))
    (fun os started H enc _ => lifted os started H enc)
theorem proved : Rows.FnDepthCardSaid :=
  Claim7.holds_tied_plain_at .later [] [.data] true (true, "12f60e03dc4bba2b37e99c74e57e84b0bbfb712d5003de01aa25837bb2ae2208") false
    over (fun _ h => by cases h) (by kernel_rfl) (fun _ h => by cases h) fnDepth_row_tie rfl ⟨rfl, rfl⟩ (by kernel_rfl) rfl
    (fun f fn hf hfn => by
      obtain rfl : f = 7 := Option.some.inj ((show Tryd.prog.funcNamed "loop.example/g00774/laws.FnDepth" = some 7 by kernel_rfl).symm.trans hf) |>.symm
      obtain rfl : fn = Tryd.f7 := (Option.some.inj (Tryd.func7.symm.trans hfn)).symm
      exact ⟨by kernel_rfl, fun j t ht => by
        rw [Tryd.params7] at ht
        have hm : t ∈ [32] := by simpa using Array.mem_of_getElem? ht
        have hall : ([32].all fun u => !Tryd.prog.wantsStandIn u) = true := by kernel_rfl
        exact (show Tryd.prog.wantsStandIn t = false by simpa using List.all_eq_true.1 hall t hm)⟩)
    (by kernel_rfl)
#print axioms proved
end Go.Proofs.YtdphfgdmgckifaaDoor.fnDepth
