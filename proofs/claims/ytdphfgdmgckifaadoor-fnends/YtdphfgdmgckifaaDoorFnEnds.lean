/- Whatever its arguments, laws.FnEnds returns true and leaves them, and the table that it reads, as they were; the table starts as the program's text lays it. -/
import Derived.Test.YtdphfgdmgckifaaDoorCards
import Derived.Test.YtdphfgdmgckifaaDoorTie
import Derived.Test.YtdphfgdmgckifaaDoorS2h
import Derived.Test.YtdphfgdmgckifaaDoorDrawV
import Derived.Test.YtdphfgdmgckifaaDoorPu
import Derived.Test.YtdphfgdmgckifaaDoorS2k
import Derived.SevenTiedAt
namespace Go.Proofs.YtdphfgdmgckifaaDoor.fnEnds
open Go.ChangeShapes Go.WideShapes Go.ChangeAt Go.RowKit
open Go.ChangeMaps (open_string shut_string)
set_option linter.unusedVariables false
theorem big_any (a : Option Addr) (len cap : Nat) (w : World) (hl : len ≤ maxLen) : Calls Tryd.prog 17 #[.slice a len cap] w fun e w' => e = .returned (.bool (decide (1048576 < len))) ∧ w' = w := by
  unfold maxLen at hl
  go_enter Tryd.func17, Tryd.ntmps17
  go_wp2
  go_ret
  exact ⟨ret_b (by simp; omega), rfl⟩
theorem row_len {k : IntKind} {w : World} {a : Option Addr} {len cap : Nat} {zs : List Int} (h : IsRow k w a len cap zs) : len ≤ maxLen := by
  rcases h with ⟨_, rfl, _, _⟩ | ⟨x, _, h1, h2, _⟩
  · simp [maxLen]
  · omega
/-- A part of a schema in memory. -/
theorem part_typs {B : Nat} {w : World} {g c p e : Nat} {ts : List (Int × Int)} (h : IsTyps B w (.slice (some ⟨g, 0, none⟩) ts.length c) ts) (hp : p < e) (he : e ≤ ts.length) : IsTyps B w (.slice (some ⟨g, p * 2, none⟩) (e - p) (c - p)) (partOf ts p e) := by
  have hl := part_len (ts := ts) (p := p) he
  obtain ⟨ad, cap, hv, h1, h2, h3⟩ := h.form
  cases hv
  rcases h3 with h3 | ⟨b, o, ha, hlt, hc⟩
  · omega
  · cases ha
    refine ⟨by have := h.small; omega, fun t ht => h.wf t (List.mem_of_mem_drop (List.mem_of_mem_take ht)), _, c - p, by rw [hl], by omega, by omega, .inr ⟨g, p * 2, rfl, hlt, fun i hi => ?_⟩⟩
    have hi' : i + p < ts.length := by omega
    have e1 : (partOf ts p e)[i] = ts[i + p] := by
      have := part_at (ts := ts) (p := p) (e := e) (i := i) (by omega)
      rw [List.getElem?_eq_getElem hi, List.getElem?_eq_getElem hi'] at this
      injection this
    have := hc (i + p) hi'
    rw [e1, show p * 2 + i * 2 = 0 + (i + p) * 2 by omega]
    exact this
theorem cut_typs {B : Nat} {w : World} {g o c : Nat} {ts : List (Int × Int)} (h : IsTyps B w (.slice (some ⟨g, o, none⟩) ts.length c) ts) : IsTyps B w (.slice (some ⟨g, o, none⟩) (ts.length - 1) c) (ts.take (ts.length - 1)) := by
  obtain ⟨ad, cap, hv, h1, h2, h3⟩ := h.form
  cases hv
  refine ⟨by have := h.small; simp; omega, fun t ht => h.wf t (List.mem_of_mem_take ht), some ⟨g, o, none⟩, c, by simp, by simp; omega, h2, ?_⟩
  rcases h3 with h3 | ⟨b, o', ha, hlt, hc⟩
  · exact .inl (by simp; omega)
  · refine .inr ⟨b, o', ha, hlt, fun i hi => ?_⟩
    have hi' : i < ts.length := by simp at hi; omega
    rw [List.getElem_take]
    exact hc i hi'

set_option maxRecDepth 100000 in
set_option maxHeartbeats 1000000 in
theorem walk (a0 : Option Addr) (len0 cap0 : Nat) (z0 : List Int) (w : World) (w0 : IsRow .u8 w a0 len0 cap0 z0) (hkr : KR w) :
    Calls Tryd.prog 6 #[.slice a0 len0 cap0] w fun e w' => e = .returned (.bool true) ∧ Below w.heap.size w w' := by
  have hlm := row_len w0
  by_cases hbig : 1048576 < len0
  · have hd : decide (1048576 < len0) = true := decide_eq_true hbig
    have HB : Hid (∀ w, Calls Tryd.prog 17 #[.slice a0 len0 cap0] w fun e w' => e = .returned (.bool true) ∧ w' = w) := fun w => by have := big_any a0 len0 cap0 w hlm; rwa [hd] at this
    clear w0 hlm hbig hd hkr
    go_enter Tryd.func6, Tryd.ntmps6
    go_wp2_with fail
    refine (HB.out _).mono ?_
    rintro e w1 ⟨rfl, rfl⟩
    go_wp2_with fail
    go_ret
    exact ⟨rfl, Below.refl _ _⟩
  · have hd : decide (1048576 < len0) = false := decide_eq_false hbig
    have HB : Hid (∀ w, Calls Tryd.prog 17 #[.slice a0 len0 cap0] w fun e w' => e = .returned (.bool false) ∧ w' = w) := fun w => by have := big_any a0 len0 cap0 w hlm; rwa [hd] at this
    have HD : Hid (Calls Tryd.prog 18 #[.slice a0 len0 cap0] w fun e w' => DrawPost2 w e w') := DrawEndOf_any w.heap.size a0 len0 cap0 w (Nat.le_refl _) w0.code (by omega)
    have HK : Hid (KR w) := hkr
    clear w0 hlm hbig hd hkr
    go_enter Tryd.func6, Tryd.ntmps6
    go_wp2_with fail
    refine (HB.out _).mono ?_
    rintro e w1 ⟨rfl, rfl⟩
    go_wp2_with fail
    refine Calls.mono HD.out ?_
    rintro e w2 ⟨v2, ts, z, rfl, hzI, hown, h41, hwf, hb2⟩
    have HV : Hid (IsTyps w2.heap.size w2 v2 ts) := own_typs hown (by omega) hwf
    have HW : Hid (wfT ts) := hwf
    have HO : Hid (w2.ownsRow w1.heap.size 38 2 v2 ts.length (flatT ts)) := hown
    have HB2 : Hid (Below w1.heap.size w1 w2) := hb2
    obtain ⟨x, hx⟩ : ∃ x, endOf ts z = x := ⟨_, rfl⟩
    have HX : Hid (endOf ts z = x) := hx
    have HS : Hid (∀ w', Below w2.heap.size w2 w' → Calls Tryd.prog 15 #[v2, .int .i64 z] w' fun e w'' => e = .returned (.int .i64 x) ∧ Below w'.heap.size w' w'') := fun w' hb' => by
      have := specEndOf_any ts z v2 w' ((HV.out.below hb').up hb'.size); rwa [hx] at this
    obtain ⟨ad, c2, rfl⟩ := own_slice hown
    clear hown hwf hx HD HB hb2
    go_wp2_with fail
    refine (implEndOf_any ts z _ w2 HV.out (HK.out.below HB2.out)).mono ?_
    rintro e w3 ⟨rfl, hb3⟩
    rw [HX.out]
    have HB3 : Hid (Below w2.heap.size w2 w3) := hb3
    clear hb3
    have hq : (x != x) = false := by simp
    by_cases hx0 : x < 0
    · have hxd : decide (x < 0) = true := by simpa using hx0
      go_wp2_with fail
      refine (HS.out w3 HB3.out).mono ?_
      rintro e w4 ⟨rfl, hb4⟩
      have HB4 : Hid (Below w2.heap.size w2 w4) := HB3.out.trans (hb4.mono HB3.out.size)
      clear hb4
      go_wp2_with fail
      refine (HS.out w4 HB4.out).mono ?_
      rintro e w5 ⟨rfl, hb5⟩
      have HB5 : Hid (Below w1.heap.size w1 w5) := HB2.out.trans ((HB4.out.trans (hb5.mono HB4.out.size)).mono HB2.out.size)
      clear hb5
      go_wp2_with fail
      go_ret
      exact ⟨by first | rfl | exact ret_b (by simp), HB5.out⟩
    · have hxd : decide (x < 0) = false := by simpa using hx0
      have hs : schOk ts = true := by
        cases hc : schOk ts with
        | true => rfl
        | false => have := HX.out; rw [endOf_no hc] at this; omega
      have hin : 0 ≤ z ∧ z < ts.length := by
        by_cases hin : 0 ≤ z ∧ z < ts.length
        · exact hin
        · have := HX.out; rw [endOf_out hin] at this; omega
      obtain ⟨p, rfl⟩ := Int.eq_ofNat_of_zero_le hin.1
      have hp : p < ts.length := by omega
      have h40 : ts.length ≤ 40 := (schOk_iff.1 hs).1
      obtain ⟨e0, he0, hee, hpe, hel, hdp⟩ := endOf_some hs hp
      have hxe : x = (e0 : Int) := by have := HX.out; rw [← this]; exact hee
      subst hxe
      obtain ⟨hPok, hPd⟩ := part_ok h40 he0
      have hpos : 0 < ts.length := by omega
      have HPok : Hid (schOk (partOf ts p e0) = true) := hPok
      have HPe : Hid (endOf (partOf ts p e0) 0 = ((e0 - p : Nat) : Int)) := by show _ = _; rw [part_end hPok, part_len hel]
      have HPc : Hid (schOk ((partOf ts p e0).take ((partOf ts p e0).length - 1)) = false) := cut_bad hPok
      have HPd : Hid (depthOf (partOf ts p e0) ≤ depthOf ts) := by show _ ≤ _; rw [hPd]; unfold depthOf; rw [if_pos hs]; omega
      obtain ⟨g2, c2', hv2, hgb, hgl⟩ := HO.out.form hpos
      cases hv2
      have hcc : ts.length ≤ c2 ∧ c2 ≤ maxLen := by
        obtain ⟨_, _, hv, q1, q2, _⟩ := HV.out.form
        cases hv
        exact ⟨q1, q2⟩
      have hcl := hcc.1
      have hcM := hcc.2
      unfold maxLen at hcM
      have HVp : Hid (IsTyps w2.heap.size w2 (.slice (some ⟨g2, p * 2, none⟩) (e0 - p) (c2 - p)) (partOf ts p e0)) := part_typs HV.out hpe hel
      have hpl := part_len (ts := ts) (p := p) hel
      have hvc : IsTyps w2.heap.size w2 (.slice (some ⟨g2, p * 2, none⟩) ((partOf ts p e0).length - 1) (c2 - p)) ((partOf ts p e0).take ((partOf ts p e0).length - 1)) := cut_typs (by rw [hpl]; exact HVp.out)
      rw [hpl] at hvc
      have HVc : Hid (IsTyps w2.heap.size w2 (.slice (some ⟨g2, p * 2, none⟩) (e0 - p - 1) (c2 - p)) ((partOf ts p e0).take (e0 - p - 1))) := hvc
      rw [hpl] at HPc
      have i1 : (0 : Int) ≤ (p : Int) := by omega
      have i2 : (p : Int) < (e0 : Int) := by omega
      have i3 : (e0 : Int) ≤ (c2 : Int) := by omega
      have i4 : e0 ≤ c2 := by omega
      have i5 : p ≤ e0 := by omega
      have i6 : ¬ c2 = p := by omega
      clear hs hin hp he0 hee hel hdp hPok hPd hcc hvc hpl
      go_wp2_with fail
      refine (HS.out w3 HB3.out).mono ?_
      rintro e w4 ⟨rfl, hb4⟩
      have HB4 : Hid (Below w2.heap.size w2 w4) := HB3.out.trans (hb4.mono HB3.out.size)
      clear hb4
      go_wp2_with fail
      have HB14 : Hid (Below w1.heap.size w1 w4) := HB2.out.trans (HB4.out.mono HB2.out.size)
      refine (implSchemaOk_any (partOf ts p e0) _ w4 ((HVp.out.below HB4.out).up HB4.out.size) (HK.out.below HB14.out)).mono ?_
      rintro e w5 ⟨rfl, hb5⟩
      rw [HPok.out]
      have HB5 : Hid (Below w2.heap.size w2 w5) := HB4.out.trans (hb5.mono HB4.out.size)
      have HB15 : Hid (Below w1.heap.size w1 w5) := HB2.out.trans (HB5.out.mono HB2.out.size)
      clear hb5 HB4 HB14
      go_wp2_with fail
      refine (implEndOf_any (partOf ts p e0) 0 _ w5 ((HVp.out.below HB5.out).up HB5.out.size) (HK.out.below HB15.out)).mono ?_
      rintro e w6 ⟨rfl, hb6⟩
      rw [HPe.out]
      have HB6 : Hid (Below w2.heap.size w2 w6) := HB5.out.trans (hb6.mono HB5.out.size)
      have HB16 : Hid (Below w1.heap.size w1 w6) := HB2.out.trans (HB6.out.mono HB2.out.size)
      have hm1 : 1 ≤ e0 - p := by omega
      have hm2 : e0 - p ≤ c2 - p := by omega
      have hm3 : c2 - p ≤ 9223372036854775807 := by omega
      clear hb6 HB5 HB15
      generalize e0 - p = m at *
      generalize c2 - p = cc at *
      have hmm : (((m : Nat) : Int) == (m : Int)) = true := by simp
      have hm1' : (1 : Int) ≤ (m : Int) := by omega
      go_wp2_with fail
      refine (implSchemaOk_any ((partOf ts p e0).take (m - 1)) _ w6 ((HVc.out.below HB6.out).up HB6.out.size) (HK.out.below HB16.out)).mono ?_
      rintro e w7 ⟨rfl, hb7⟩
      rw [HPc.out]
      have HB7 : Hid (Below w2.heap.size w2 w7) := HB6.out.trans (hb7.mono HB6.out.size)
      have HB17 : Hid (Below w1.heap.size w1 w7) := HB2.out.trans (HB7.out.mono HB2.out.size)
      clear hb7 HB6 HB16
      go_wp2_with fail
      refine (implDepthOf_any (partOf ts p e0) _ w7 ((HVp.out.below HB7.out).up HB7.out.size) (HK.out.below HB17.out)).mono ?_
      rintro e w8 ⟨rfl, hb8⟩
      have HB8 : Hid (Below w2.heap.size w2 w8) := HB7.out.trans (hb8.mono HB7.out.size)
      have HB18 : Hid (Below w1.heap.size w1 w8) := HB2.out.trans (HB8.out.mono HB2.out.size)
      clear hb8 HB7 HB17
      go_wp2_with fail
      refine (implDepthOf_any ts _ w8 ((HV.out.below HB8.out).up HB8.out.size) (HK.out.below HB18.out)).mono ?_
      rintro e w9 ⟨rfl, hb9⟩
      have HB19 : Hid (Below w1.heap.size w1 w9) := HB18.out.trans (hb9.mono HB18.out.size)
      have hle := HPd.out
      have hled : decide (depthOf (partOf ts p e0) ≤ depthOf ts) = true := decide_eq_true hle
      generalize depthOf (partOf ts p e0) = d1 at *
      generalize depthOf ts = d2 at *
      clear hb9
      go_wp2_with fail
      go_ret
      exact ⟨by first | rfl | exact ret_b (by simpa using hle), HB19.out⟩
theorem door_met (os : Os) (args : Array Value) : laidMetH Tryd.prog laidKR ((World.doorLaid Tryd.prog 400 os).forCall (fun _ _ => 0) ⟨#[], args, []⟩).memory :=
  laidMetH_of_parts3 (fuel := 8) (laidMet_of_run' 8 (by kernel_rfl) (by kernel_rfl)) (by kernel_rfl) (by kernel_rfl)
set_option maxRecDepth 100000 in
theorem lifted (os : Os) (started : os.Started) (H : Type) (enc : TypeId × Value → H) :
    ReturnsInHanded {} Tryd.checked os 6 .any (fun w args => (Rows.fnEndsSpec.pre enc Tryd.prog Tryd.f6 [] false w args ∧ laidMetH Tryd.prog laidKR w) ∧ sizedMet enc Tryd.prog Tryd.f6 (OpenSpec.ofChange Rows.fnEndsSpec) false w args)
      (Rows.fnEndsSpec.post enc Tryd.prog Tryd.f6 false true false false) := by
  refine returnsInHanded_of_change_and (C := Tryd.checked) (X := fun w _ => laidMetH Tryd.prog laidKR w) (fun _ _ _ hh h => h.of_heap hh) Tryd.own started (by kernel_rfl) Tryd.func6
    (ChangeSpec.witness_shaped (enc := enc) (C := Tryd.checked) (os := os) (X := fun w _ => laidMetH Tryd.prog laidKR w) false (World.doorLaid Tryd.prog 400 os) #[.slice none 0 0] 8 rfl (World.shaped_of_RefB (by kernel_rfl) (by kernel_rfl)) (by kernel_rfl) (by kernel_rfl) (by kernel_rfl) (door_met os _)) ?_
  intro W base args ds gs before hval0 hW _ _ hL _
  have hval : ∀ (j : Nat) t v, Tryd.f6.params[j]? = some t → args[j]? = some v → Value.okWide Tryd.prog W .any base t v := hval0
  have hW' := hW
  obtain ⟨p, q, hA0, hV0, rfl, hfz, hnd⟩ := hW
  have hA : DataW.TrodAll enc Tryd.prog W 0 (fun _ => true) true Tryd.f6.params.toList args.toList ds p := hA0
  have hV : DataW.TrodVars enc Tryd.prog W (fun _ => true) ["loop.example/g00774/impl.kindRows"] gs q := hV0
  rw [Tryd.params6] at hA hval
  obtain ⟨v0, vs0, d0, ds0, p0, q0, hargs, rfl, rfl, h0, r0⟩ := trodAll_cons hA
  obtain ⟨rfl, rfl, rfl⟩ := trodAll_nil r0
  obtain rfl : args = #[v0] := by cases args; simp_all
  obtain ⟨g, t, cs, fuel, d, p', rfl, hg, ht, hvar, hd, rfl⟩ := trodVars_one hV
  obtain rfl := Option.some.inj (Tryd.gKR.symm.trans hg)
  obtain rfl := Option.some.inj (Tryd.tKR.symm.trans ht)
  obtain rfl : cs = kc := Option.some.inj (hvar.symm.trans (kr_of_laid hL))
  obtain ⟨rfl, rfl⟩ := DataW.Trod.unique (v := .agg kc) ⟨fuel, hd⟩ ⟨4, reads_kr enc W _⟩
  have hkr : KR W := KR.of_laid hL
  obtain ⟨a0, len0, cap0, rfl⟩ := okWide_slice Tryd.underlying32 (hval 0 32 v0 rfl rfl)
  have k0 := h0
  have lt0 : ∀ x ∈ p0, x.block < W.heap.size := by obtain ⟨m, hm⟩ := k0; exact DataW.trod_lt m _ _ _ hm
  obtain ⟨z0, w0⟩ : ∃ zs, IsRow .u8 W a0 len0 cap0 zs := by
    obtain ⟨fuel, hf⟩ := h0
    rcases open_ints Tryd.underlying32 Tryd.underlying5 (by kernel_rfl) hf with ⟨hcs, _⟩ | ⟨x, l, c, zs, hcs, _, hl, hm, hz, _, hcell, hwz⟩
    · simp [Value.cells] at hcs
      obtain ⟨rfl, rfl, rfl⟩ := hcs
      exact ⟨[], .inl ⟨rfl, rfl, rfl, rfl⟩⟩
    · simp [Value.cells] at hcs
      obtain ⟨rfl, rfl, rfl⟩ := hcs
      exact ⟨zs, .inr ⟨_, rfl, hl, hm, by simpa using hz, hcell, hwz⟩⟩
  clear hA0 hV0 hval0
  refine (walk a0 len0 cap0 z0 W w0 hkr).mono fun e W' ⟨he, bel⟩ => ?_
  subst he
  have hvar' : W'.var? Tryd.prog "loop.example/g00774/impl.kindRows" = some kc := by
    have hb0 : W'.heap[0]? = W.heap[0]? := bel.block 0 hkr.1
    unfold World.var? at hvar ⊢
    rw [hg] at hvar ⊢
    simp only [Option.bind_some] at hvar ⊢
    rw [hb0]; exact hvar
  exact ⟨_, rfl, _, _, _, [], _, _, hW', trodAll_mk1 (shut_bool Tryd.underlying4 _), (trodAll_cons_mk (Below.trod Tryd.laidOut (by kernel_rfl) (of_decide_eq_true (by kernel_rfl)) k0 bel lt0) trodAll_mk0), ⟨0, 73, kc, 4, [], [], hg, ht, hvar', reads_kr enc W' _, rfl, rfl⟩, bel.frame _, fun h => by cases h⟩
theorem over : Rows.fnEndsRow.holds Tryd.pinned (OpenSpec.ofChange Rows.fnEndsSpec) :=
  OpenClaim.holds_of_wide 6 Tryd.f6 rfl rfl rfl rfl rfl rfl rfl ⟨rfl, rfl, rfl, rfl, rfl⟩ rfl rfl rfl rfl rfl (by kernel_rfl) Tryd.func6 (by kernel_rfl)
    (of_decide_eq_true (by kernel_rfl)) (by unfold Func.isWrapper; first | (rw [if_pos (by decide +kernel)]; kernel_rfl) | (rw [if_neg (by decide +kernel)]; exact ⟨rfl, rfl⟩))
    (fun os started H enc _ => lifted os started H enc)
theorem proved : Rows.FnEndsCardSaid :=
  Claim7.holds_tied_plain_at .later [] [.data] true (true, "12f60e03dc4bba2b37e99c74e57e84b0bbfb712d5003de01aa25837bb2ae2208") false
    over (fun _ h => by cases h) (by kernel_rfl) (fun _ h => by cases h) fnEnds_row_tie rfl ⟨rfl, rfl⟩ (by kernel_rfl) rfl
    (fun f fn hf hfn => by
      obtain rfl : f = 6 := Option.some.inj ((show Tryd.prog.funcNamed "loop.example/g00774/laws.FnEnds" = some 6 by kernel_rfl).symm.trans hf) |>.symm
      obtain rfl : fn = Tryd.f6 := (Option.some.inj (Tryd.func6.symm.trans hfn)).symm
      exact ⟨by kernel_rfl, fun j t ht => by
        rw [Tryd.params6] at ht
        have hm : t ∈ [32] := by simpa using Array.mem_of_getElem? ht
        have hall : ([32].all fun u => !Tryd.prog.wantsStandIn u) = true := by kernel_rfl
        exact (show Tryd.prog.wantsStandIn t = false by simpa using List.all_eq_true.1 hall t hm)⟩)
    (by kernel_rfl)
#print axioms proved
end Go.Proofs.YtdphfgdmgckifaaDoor.fnEnds
