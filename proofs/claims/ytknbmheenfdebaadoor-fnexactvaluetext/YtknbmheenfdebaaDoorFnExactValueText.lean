/- Whatever its arguments, laws.FnExactValueText returns true and leaves them, and the table that it reads, as they were; the table starts as the program's text lays it. -/
import Derived.Test.YtknbmheenfdebaaDoorCards
import Derived.Test.YtknbmheenfdebaaDoorTie
import Derived.Test.YtknbmheenfdebaaDoorS5j
import Derived.SevenTiedAt
namespace Go.Proofs.YtknbmheenfdebaaDoor.fnExactValueText
open Go.ChangeShapes Go.WideShapes Go.ChangeAt Go.RowKit
open Go.ChangeMaps (open_string shut_string)
set_option linter.unusedVariables false

set_option maxRecDepth 100000 in
set_option maxHeartbeats 2000000 in
theorem walk (a0 : Option Addr) (len0 cap0 : Nat) (w : World) (w0 : ArgItems w a0 len0 cap0) (hkr : KR w) (htab : Lib.TabIs Tryd.prog w "internal/strconv.uint64pow10" .u64 Lib.pow10Tab) :
    Calls Tryd.prog 3 #[.slice a0 len0 cap0] w fun e w' => e = .returned (.bool true) ∧ Below w.heap.size w w' := by
  obtain ⟨g1, g2, vs, hvs, hraw⟩ := w0
  have HK : Hid (KR w) := hkr
  have HP : Hid (PW w) := htab
  clear hkr htab
  by_cases hs1 : 1048576 < len0
  · have HY : Hid (∀ w, Calls Tryd.prog 4 #[.slice a0 len0 cap0, .int .i64 1048576] w fun e w' => e = .returned (.int .i64 (-1)) ∧ Below w.heap.size w w') := fun w => szItemS_big a0 len0 cap0 1048576 w (by omega) (by omega) hs1
    clear hraw hvs
    go_enter Tryd.func3, Tryd.ntmps3
    go_wp2_with fail
    refine (HY.out _).mono ?_
    rintro e w2 ⟨rfl, hb2⟩
    go_wp2_with fail
    go_ret
    exact ⟨rfl, hb2⟩
  · subst hvs
    have HY : Hid (Calls Tryd.prog 4 #[.slice a0 vs.length cap0, .int .i64 1048576] w fun e w' => (∃ r : Int, e = .returned (.int .i64 r) ∧ (r = -1 ∨ (0 ≤ r ∧ ∀ x ∈ vs, x.s.size ≤ 1048577))) ∧ Below w.heap.size w w') := szItemS_any vs a0 cap0 1048576 w (by omega) g1 g2 (by omega) hraw
    have HRW : Hid (RawItems w a0 vs) := hraw
    have hvl : vs.length ≤ 1048577 := by omega
    clear hraw hs1
    go_enter Tryd.func3, Tryd.ntmps3
    go_wp2_with fail
    refine Calls.mono HY.out ?_
    rintro e w2 ⟨⟨r, rfl, hr | ⟨hr, hall⟩⟩, hb2⟩
    · subst hr
      go_wp2_with fail
      go_ret
      exact ⟨rfl, hb2⟩
    · have HI : Hid (IsItems w.heap.size w (.slice a0 vs.length cap0) vs) := HRW.out.items hvl g1 g2 hall
      have HB2 : Hid (Below w.heap.size w w2) := hb2
      have hr' : ¬ r < 0 := by omega
      clear hall hb2 HY HRW
      have HIO : Hid (∀ w', Below w.heap.size w w' → Calls Tryd.prog 6 #[.slice a0 vs.length cap0] w' fun e w'' => ∃ v', e = .returned v' ∧ IsItems w''.heap.size w'' v' vs ∧ Below w'.heap.size w' w'') := fun w' hb => toItemS_any vs _ w' ((HI.out.below hb).up hb.size)
      go_wp2_with fail
      refine (HIO.out _ HB2.out).mono ?_
      rintro e w4 ⟨v4, rfl, hv4, hb4⟩
      have HB4 : Hid (Below w.heap.size w w4) := HB2.out.trans (hb4.mono HB2.out.size)
      have HI4 : Hid (IsItems w4.heap.size w4 v4 vs) := hv4
      clear hv4 hb4
      go_wp2_with fail
      refine (specValueText_any vs _ _ HI4.out).mono ?_
      rintro e w5 ⟨rfl, hb5⟩
      obtain ⟨x, hx⟩ : ∃ x : ByteArray, (⟨(vText vs).toArray⟩ : ByteArray) = x := ⟨_, rfl⟩
      have HX : Hid ((⟨(vText vs).toArray⟩ : ByteArray) = x) := hx
      rw [hx]
      have HB5 : Hid (Below w.heap.size w w5) := HB4.out.trans (hb5.mono HB4.out.size)
      clear hx hb5 HI4
      go_wp2_with fail
      refine (HIO.out _ HB5.out).mono ?_
      rintro e w7 ⟨v7, rfl, hv7, hb7⟩
      have HB7 : Hid (Below w.heap.size w w7) := HB5.out.trans (hb7.mono HB5.out.size)
      have HI7 : Hid (IsItems w7.heap.size w7 v7 vs) := hv7
      clear hv7 hb7
      go_wp2_with fail
      refine (implValueText_any vs _ _ HI7.out (HK.out.below HB7.out) (HP.out.below HB7.out)).mono ?_
      rintro e w8 ⟨rfl, hb8⟩
      rw [HX.out]
      have HB8 : Hid (Below w.heap.size w w8) := HB7.out.trans (hb8.mono HB7.out.size)
      have HI8 : Hid (IsItems w8.heap.size w8 v7 vs) := (HI7.out.below hb8).up hb8.size
      clear hb8 HI7
      go_wp2_with fail
      refine (HIO.out _ HB8.out).mono ?_
      rintro e wb ⟨vb, rfl, hvb, hbb⟩
      have HBb : Hid (Below w.heap.size w wb) := HB8.out.trans (hbb.mono HB8.out.size)
      have HIb : Hid (IsItems wb.heap.size wb v7 vs) := (HI8.out.below hbb).up hbb.size
      have HIb' : Hid (IsItems wb.heap.size wb vb vs) := hvb
      clear hvb hbb HI8
      go_wp2_with fail
      refine (eqItemS_same vs _ _ wb HIb.out HIb'.out).mono ?_
      rintro e wc ⟨rfl, hbc⟩
      have HBc : Hid (Below w.heap.size w wc) := HBb.out.trans (hbc.mono HBb.out.size)
      clear hbc
      go_wp2_with fail
      go_ret
      exact ⟨rfl, HBc.out⟩
theorem door_met (os : Os) (args : Array Value) : laidMetH Tryd.prog laidKR ((World.doorLaid Tryd.prog 400 os).forCall (fun _ _ => 0) ⟨#[], args, []⟩).memory :=
  laidMetH_of_parts3 (fuel := 8) (laidMet_of_run' 8 (by kernel_rfl) (by kernel_rfl)) (by kernel_rfl) (by kernel_rfl)
set_option maxRecDepth 100000 in
theorem lifted (os : Os) (started : os.Started) (H : Type) (enc : TypeId × Value → H) :
    ReturnsInHanded {} Tryd.checked os 3 .any (fun w args => (Rows.fnExactValueTextSpec.pre enc Tryd.prog Tryd.f3 [] false w args ∧ laidMetH Tryd.prog laidKR w) ∧ sizedMet enc Tryd.prog Tryd.f3 (OpenSpec.ofChange Rows.fnExactValueTextSpec) false w args)
      (Rows.fnExactValueTextSpec.post enc Tryd.prog Tryd.f3 false true false false) := by
  refine returnsInHanded_of_change_and (C := Tryd.checked) (X := fun w _ => laidMetH Tryd.prog laidKR w) (fun _ _ _ hh h => h.of_heap hh) Tryd.own started (by kernel_rfl) Tryd.func3
    (ChangeSpec.witness_shaped (enc := enc) (C := Tryd.checked) (os := os) (X := fun w _ => laidMetH Tryd.prog laidKR w) false (World.doorLaid Tryd.prog 400 os) #[.slice none 0 0] 8 rfl (World.shaped_of_RefB (by kernel_rfl) (by kernel_rfl)) (by kernel_rfl) (by kernel_rfl) (by kernel_rfl) (door_met os _)) ?_
  intro W base args ds gs before hval0 hW _ _ hL _
  have hval : ∀ (j : Nat) t v, Tryd.f3.params[j]? = some t → args[j]? = some v → Value.okWide Tryd.prog W .any base t v := hval0
  have hW' := hW
  obtain ⟨p, q, hA0, hV0, rfl, hfz, hnd⟩ := hW
  have hA : DataW.TrodAll enc Tryd.prog W 0 (fun _ => true) true Tryd.f3.params.toList args.toList ds p := hA0
  have hV : DataW.TrodVars enc Tryd.prog W (fun _ => true) ["loop.example/g00774/impl.itemRows"] gs q := hV0
  rw [Tryd.params3] at hA hval
  obtain ⟨v0, vs0, d0, ds0, p0, q0, hargs, rfl, rfl, h0, r0⟩ := trodAll_cons hA
  obtain ⟨rfl, rfl, rfl⟩ := trodAll_nil r0
  obtain rfl : args = #[v0] := by cases args; simp_all
  obtain ⟨g, t, cs, fuel, d, p', rfl, hg, ht, hvar, hd, rfl⟩ := trodVars_one hV
  obtain rfl := Option.some.inj (Tryd.gIR.symm.trans hg)
  obtain rfl := Option.some.inj (Tryd.tIR.symm.trans ht)
  obtain rfl : cs = ic := Option.some.inj (hvar.symm.trans (ir_of_laid hL))
  obtain ⟨rfl, rfl⟩ := DataW.Trod.unique (v := .agg ic) ⟨fuel, hd⟩ ⟨4, reads_ir enc W _⟩
  have hkr : KR W := KR.of_laid hL
  have htab := pow_of_laid hL
  obtain ⟨a0, len0, cap0, rfl⟩ := okWide_slice Tryd.underlying22 (hval 0 22 v0 rfl rfl)
  have k0 := h0
  have lt0 : ∀ x ∈ p0, x.block < W.heap.size := by obtain ⟨m, hm⟩ := k0; exact DataW.trod_lt m _ _ _ hm
  have w0 : ArgItems W a0 len0 cap0 := by
    obtain ⟨fuel, hf⟩ := h0
    exact open_items (by simpa [Value.cells] using hf)
  clear hA0 hV0 hval0
  refine (walk a0 len0 cap0 W w0 hkr htab).mono fun e W' ⟨he, bel⟩ => ?_
  subst he
  have hvar' : W'.var? Tryd.prog "loop.example/g00774/impl.itemRows" = some ic := by
    have hb0 : W'.heap[0]? = W.heap[0]? := bel.block 0 hkr.1
    unfold World.var? at hvar ⊢
    rw [hg] at hvar ⊢
    simp only [Option.bind_some] at hvar ⊢
    rw [hb0]; exact hvar
  exact ⟨_, rfl, _, _, _, [], _, _, hW', trodAll_mk1 (shut_bool Tryd.underlying4 _), (trodAll_cons_mk (Below.trod Tryd.laidOut (by kernel_rfl) (of_decide_eq_true (by kernel_rfl)) k0 bel lt0) trodAll_mk0), ⟨0, 45, ic, 4, [], [], hg, ht, hvar', reads_ir enc W' _, rfl, rfl⟩, bel.frame _, fun h => by cases h⟩
theorem over : Rows.fnExactValueTextRow.holds Tryd.pinned (OpenSpec.ofChange Rows.fnExactValueTextSpec) :=
  OpenClaim.holds_of_wide 3 Tryd.f3 rfl rfl rfl rfl rfl rfl rfl ⟨rfl, rfl, rfl, rfl, rfl⟩ rfl rfl rfl rfl rfl (by kernel_rfl) Tryd.func3 (by kernel_rfl)
    (of_decide_eq_true (by kernel_rfl)) (by unfold Func.isWrapper; first | (rw [if_pos (by decide +kernel)]; kernel_rfl) | (rw [if_neg (by decide +kernel)]; exact ⟨rfl, rfl⟩))
    (fun os started H enc _ => lifted os started H enc)
theorem proved : Rows.FnExactValueTextCardSaid :=
  Claim7.holds_tied_plain_at .later [] [.data, .data, .data, .data] true (true, "d82473f14aee415805d793cf15f295b712f662b8bd213a073fda776dbaf3e1a2") false
    over (fun _ h => by cases h) (by kernel_rfl) (fun _ h => by cases h) fnExactValueText_row_tie rfl ⟨rfl, rfl⟩ (by kernel_rfl) rfl
    (fun f fn hf hfn => by
      obtain rfl : f = 3 := Option.some.inj ((show Tryd.prog.funcNamed "loop.example/g00774/laws.FnExactValueText" = some 3 by kernel_rfl).symm.trans hf) |>.symm
      obtain rfl : fn = Tryd.f3 := (Option.some.inj (Tryd.func3.symm.trans hfn)).symm
      exact ⟨by kernel_rfl, fun j t ht => by
        rw [Tryd.params3] at ht
        have hm : t ∈ [22] := by simpa using Array.mem_of_getElem? ht
        have hall : ([22].all fun u => !Tryd.prog.wantsStandIn u) = true := by kernel_rfl
        exact (show Tryd.prog.wantsStandIn t = false by simpa using List.all_eq_true.1 hall t hm)⟩)
    (by kernel_rfl)
#print axioms proved
end Go.Proofs.YtknbmheenfdebaaDoor.fnExactValueText
