/- Whatever its arguments, laws.FnExactSszSize returns true and leaves them, and the table that it reads, as they were; the table starts as the program's text lays it. -/
import Derived.Test.YtmfdglolgdhegaaDoorCards
import Derived.Test.YtmfdglolgdhegaaDoorTie
import Derived.Test.YtmfdglolgdhegaaDoorS6c
import Derived.Test.YtmfdglolgdhegaaDoorS2j
import Derived.Test.YtmfdglolgdhegaaDoorS2k
import Derived.SevenTiedAt
namespace Go.Proofs.YtmfdglolgdhegaaDoor.fnExactSszSize
open Go.ChangeShapes Go.WideShapes Go.ChangeAt Go.RowKit
open Go.ChangeMaps (open_string shut_string)
set_option linter.unusedVariables false

set_option maxHeartbeats 1000000 in
theorem walk (a0 : Option Addr) (len0 cap0 : Nat) (w : World) (w0 : ArgTyps w a0 len0 cap0) (hkr : KR w) :
    Calls Tryd.prog 3 #[.slice a0 len0 cap0] w fun e w' => e = .returned (.bool true) ∧ Below w.heap.size w w' := by
  obtain ⟨h1, h2, h3⟩ := w0
  by_cases hs : 1048576 < len0
  · have HZ : Hid (∀ w, Calls Tryd.prog 4 #[.slice a0 len0 cap0, .int .i64 1048576] w fun e w' => e = .returned (.int .i64 (-1)) ∧ w' = w) := fun w => by
      have := szTypS_any a0 len0 cap0 1048576 w (by omega) (by omega) (by omega)
      rwa [if_pos (by omega)] at this
    clear h3
    go_enter Tryd.func3, Tryd.ntmps3
    go_wp2_with fail
    refine (HZ.out _).mono ?_
    rintro e w1 ⟨rfl, rfl⟩
    go_wp2_with fail
    go_ret
    exact ⟨rfl, Below.refl _ _⟩
  · obtain ⟨ts, hts, hv⟩ := h3 (by omega)
    have hle : len0 ≤ 1048576 := by omega
    have HZ : Hid (∀ w, Calls Tryd.prog 4 #[.slice a0 len0 cap0, .int .i64 1048576] w fun e w' => e = .returned (.int .i64 (1048576 - len0)) ∧ w' = w) := fun w => by
      have := szTypS_any a0 len0 cap0 1048576 w (by omega) (by omega) (by omega)
      rwa [if_neg (by omega)] at this
    have hz : ¬ (1048576 - (len0 : Int)) < 0 := by omega
    have HV : Hid (IsTyps w.heap.size w (.slice a0 len0 cap0) ts) := hv
    have HK : Hid (KR w) := hkr
    clear h3 hv hkr hts hs
    go_enter Tryd.func3, Tryd.ntmps3
    go_wp2_with fail
    refine (HZ.out _).mono ?_
    rintro e w1 ⟨rfl, rfl⟩
    go_wp2_with fail
    refine (toTypS_any ts _ w1 HV.out).mono ?_
    rintro e w2 ⟨v2, rfl, hv2, hb2⟩
    go_wp2_with fail
    refine (specSszSize_any ts _ _ hv2).mono ?_
    rintro e w3 ⟨rfl, hb3⟩
    obtain ⟨x, hx⟩ : ∃ x, sszSize ts = x := ⟨_, rfl⟩
    have HX : Hid (sszSize ts = x) := hx
    rw [hx]
    clear hx
    have B3 : Below w1.heap.size w1 w3 := hb2.trans (hb3.mono hb2.size)
    have HB3 : Hid (Below w1.heap.size w1 w3) := B3
    clear hv2 hb2 hb3 B3
    go_wp2_with fail
    refine (toTypS_any ts _ w3 ((HV.out.below HB3.out).up HB3.out.size)).mono ?_
    rintro e w4 ⟨v4, rfl, hv4, hb4⟩
    have HB4 : Hid (Below w1.heap.size w1 w4) := HB3.out.trans (hb4.mono HB3.out.size)
    have HV4 : Hid (IsTyps w4.heap.size w4 v4 ts) := hv4
    clear hv4 hb4
    go_wp2_with fail
    refine (implSszSize_any ts _ _ HV4.out (HK.out.below HB4.out)).mono ?_
    rintro e w5 ⟨rfl, hb5⟩
    rw [HX.out]
    have HB5 : Hid (Below w1.heap.size w1 w5) := HB4.out.trans (hb5.mono HB4.out.size)
    have HV5 : Hid (IsTyps w5.heap.size w5 v4 ts) := (HV4.out.below hb5).up hb5.size
    clear hb5
    have hq : (x != x) = false := by simp
    go_wp2_with fail
    refine (toTypS_any ts _ w5 ((HV.out.below HB5.out).up HB5.out.size)).mono ?_
    rintro e w6 ⟨v6, rfl, hv6, hb6⟩
    have HB6 : Hid (Below w1.heap.size w1 w6) := HB5.out.trans (hb6.mono HB5.out.size)
    have HV6 : Hid (IsTyps w6.heap.size w6 v4 ts) := (HV5.out.below hb6).up hb6.size
    have HV7 : Hid (IsTyps w6.heap.size w6 v6 ts) := hv6
    clear hb6 hv6
    go_wp2_with fail
    refine (eqTypS_any ts ts _ _ w6 HV6.out HV7.out).mono ?_
    rintro e w7 ⟨rfl, hb7⟩
    have hd : decide (ts = ts) = true := by simp
    rw [hd]
    have HB7 : Hid (Below w1.heap.size w1 w7) := HB6.out.trans (hb7.mono HB6.out.size)
    clear hb7 hd
    go_wp2_with fail
    go_ret
    exact ⟨rfl, HB7.out⟩
theorem door_met (os : Os) (args : Array Value) : laidMetH Tryd.prog laidKR ((World.doorLaid Tryd.prog 400 os).forCall (fun _ _ => 0) ⟨#[], args, []⟩).memory :=
  laidMetH_of_parts3 (fuel := 8) (laidMet_of_run' 8 (by kernel_rfl) (by kernel_rfl)) (by kernel_rfl) (by kernel_rfl)
set_option maxRecDepth 100000 in
theorem lifted (os : Os) (started : os.Started) (H : Type) (enc : TypeId × Value → H) :
    ReturnsInHanded {} Tryd.checked os 3 .any (fun w args => (Rows.fnExactSszSizeSpec.pre enc Tryd.prog Tryd.f3 [] false w args ∧ laidMetH Tryd.prog laidKR w) ∧ sizedMet enc Tryd.prog Tryd.f3 (OpenSpec.ofChange Rows.fnExactSszSizeSpec) false w args)
      (Rows.fnExactSszSizeSpec.post enc Tryd.prog Tryd.f3 false true false false) := by
  refine returnsInHanded_of_change_and (C := Tryd.checked) (X := fun w _ => laidMetH Tryd.prog laidKR w) (fun _ _ _ hh h => h.of_heap hh) Tryd.own started (by kernel_rfl) Tryd.func3
    (ChangeSpec.witness_shaped (enc := enc) (C := Tryd.checked) (os := os) (X := fun w _ => laidMetH Tryd.prog laidKR w) false (World.doorLaid Tryd.prog 400 os) #[.slice none 0 0] 8 rfl (World.shaped_of_RefB (by kernel_rfl) (by kernel_rfl)) (by kernel_rfl) (by kernel_rfl) (by kernel_rfl) (door_met os _)) ?_
  intro W base args ds gs before hval0 hW _ _ hL _
  have hval : ∀ (j : Nat) t v, Tryd.f3.params[j]? = some t → args[j]? = some v → Value.okWide Tryd.prog W .any base t v := hval0
  have hW' := hW
  obtain ⟨p, q, hA0, hV0, rfl, hfz, hnd⟩ := hW
  have hA : DataW.TrodAll enc Tryd.prog W 0 (fun _ => true) true Tryd.f3.params.toList args.toList ds p := hA0
  have hV : DataW.TrodVars enc Tryd.prog W (fun _ => true) ["loop.example/g00774/impl.kindRows"] gs q := hV0
  rw [Tryd.params3] at hA hval
  obtain ⟨v0, vs0, d0, ds0, p0, q0, hargs, rfl, rfl, h0, r0⟩ := trodAll_cons hA
  obtain ⟨rfl, rfl, rfl⟩ := trodAll_nil r0
  obtain rfl : args = #[v0] := by cases args; simp_all
  obtain ⟨g, t, cs, fuel, d, p', rfl, hg, ht, hvar, hd, rfl⟩ := trodVars_one hV
  obtain rfl := Option.some.inj (Tryd.gKR.symm.trans hg)
  obtain rfl := Option.some.inj (Tryd.tKR.symm.trans ht)
  obtain rfl : cs = kc := Option.some.inj (hvar.symm.trans (kr_of_laid hL))
  obtain ⟨rfl, rfl⟩ := DataW.Trod.unique (v := .agg kc) ⟨fuel, hd⟩ ⟨4, reads_kr enc W _⟩
  have hkr : KR W := KR.of_laid hL
  obtain ⟨a0, len0, cap0, rfl⟩ := okWide_slice Tryd.underlying22 (hval 0 22 v0 rfl rfl)
  have k0 := h0
  have lt0 : ∀ x ∈ p0, x.block < W.heap.size := by obtain ⟨m, hm⟩ := k0; exact DataW.trod_lt m _ _ _ hm
  have w0 : ArgTyps W a0 len0 cap0 := by
    obtain ⟨fuel, hf⟩ := h0
    exact open_typs (by simpa [Value.cells] using hf)
  clear hA0 hV0 hval0
  refine (walk a0 len0 cap0 W w0 hkr).mono fun e W' ⟨he, bel⟩ => ?_
  subst he
  have hvar' : W'.var? Tryd.prog "loop.example/g00774/impl.kindRows" = some kc := by
    have hb0 : W'.heap[0]? = W.heap[0]? := bel.block 0 hkr.1
    unfold World.var? at hvar ⊢
    rw [hg] at hvar ⊢
    simp only [Option.bind_some] at hvar ⊢
    rw [hb0]; exact hvar
  exact ⟨_, rfl, _, _, _, [], _, _, hW', trodAll_mk1 (shut_bool Tryd.underlying4 _), (trodAll_cons_mk (Below.trod Tryd.laidOut (by kernel_rfl) (of_decide_eq_true (by kernel_rfl)) k0 bel lt0) trodAll_mk0), ⟨0, 56, kc, 4, [], [], hg, ht, hvar', reads_kr enc W' _, rfl, rfl⟩, bel.frame _, fun h => by cases h⟩
theorem over : Rows.fnExactSszSizeRow.holds Tryd.pinned (OpenSpec.ofChange Rows.fnExactSszSizeSpec) :=
  OpenClaim.holds_of_wide 3 Tryd.f3 rfl rfl rfl rfl rfl rfl rfl ⟨rfl, rfl, rfl, rfl, rfl⟩ rfl rfl rfl rfl rfl (by kernel_rfl) Tryd.func3 (by kernel_rfl)
    (of_decide_eq_true (by kernel_rfl)) (by unfold Func.isWrapper; first | (rw [if_pos (by decide +kernel)]; kernel_rfl) | (rw [if_neg (by decide +kernel)]; exact ⟨rfl, rfl⟩))
    (fun os started H enc _ => lifted os started H enc)
theorem proved : Rows.FnExactSszSizeCardSaid :=
  Claim7.holds_tied_plain_at .later [] [.data] true (true, "d57c336eb199716a415c5940ea1c3179095f35e5fe984fe889bf8ceab06432be") false
    over (fun _ h => by cases h) (by kernel_rfl) (fun _ h => by cases h) fnExactSszSize_row_tie rfl ⟨rfl, rfl⟩ (by kernel_rfl) rfl
    (fun f fn hf hfn => by
      obtain rfl : f = 3 := Option.some.inj ((show Tryd.prog.funcNamed "loop.example/g00774/laws.FnExactSszSize" = some 3 by kernel_rfl).symm.trans hf) |>.symm
      obtain rfl : fn = Tryd.f3 := (Option.some.inj (Tryd.func3.symm.trans hfn)).symm
      exact ⟨by kernel_rfl, fun j t ht => by
        rw [Tryd.params3] at ht
        have hm : t ∈ [22] := by simpa using Array.mem_of_getElem? ht
        have hall : ([22].all fun u => !Tryd.prog.wantsStandIn u) = true := by kernel_rfl
        exact (show Tryd.prog.wantsStandIn t = false by simpa using List.all_eq_true.1 hall t hm)⟩)
    (by kernel_rfl)
#print axioms proved
end Go.Proofs.YtmfdglolgdhegaaDoor.fnExactSszSize
