/- Whatever its arguments, laws.FnExactTakeFrames returns true and leaves them, and the table that it reads, as they were; the table starts as the program's text lays it. -/
import Derived.Test.YtloobcmeafejpaaDoorCards
import Derived.Test.YtloobcmeafejpaaDoorTie
import Derived.Test.YtloobcmeafejpaaDoorTFe
import Derived.Test.YtloobcmeafejpaaDoorG7k
import Derived.SevenTiedAt
namespace Go.Proofs.YtloobcmeafejpaaDoor.fnExactTakeFrames
open Go.ChangeShapes Go.WideShapes Go.ChangeAt Go.RowKit
open Go.ChangeMaps (open_string shut_string)
set_option linter.unusedVariables false
theorem own_form {w : World} {B t sz n : Nat} {v : Value} {xs : List Value} (h : w.ownsRow B t sz v n xs) : ∃ ad cap, v = .slice ad n cap := by
  rcases h.2 with ⟨rfl, h0⟩ | ⟨g, cap, cur, rfl, _⟩
  · exact ⟨none, 0, by rw [h0]⟩
  · exact ⟨_, _, rfl⟩
theorem gb_below {w w' : World} {r : Option Nat} {B : Nat} (hg : w.grownBy w' r) (h : ∀ k, r = some k → B ≤ k) (hB : B ≤ w.heap.size) : Below B w w' :=
  ⟨hg.os, hg.tape, hg.output, hg.size, fun k hk => hg.block k (by omega) (fun e => by have := h k e.symm; omega)⟩

set_option maxRecDepth 100000 in
set_option maxHeartbeats 4000000 in
theorem walk (a0 : ByteArray) (w : World) (w0 : a0.size ≤ maxLen) (hkr : KR w) :
    Calls Tryd.prog 4 #[.string a0] w fun e w' => e = .returned (.bool true) ∧ Below w.heap.size w w' := by
  by_cases hs : 1048576 < a0.size
  · clear hkr
    unfold maxLen at w0
    go_enter Tryd.func4, Tryd.ntmps4
    go_wp2_with fail
    go_ret
    exact ⟨rfl, Below.refl _ _⟩
  · have HS : Hid (∀ w, Calls Tryd.prog 7 #[.string a0] w fun e w' => TfE a0 w.heap.size w' e ∧ Below w.heap.size w w') := fun w => specTakeFrames_any a0 w (by omega)
    have HI : Hid (∀ w, KR w → Calls Tryd.prog 8 #[.string a0] w fun e w' => TfE a0 w.heap.size w' e ∧ Below w.heap.size w w') := fun w h => implTakeFrames_any a0 w h (by omega)
    have HK : Hid (KR w) := hkr
    have hle : a0.size ≤ 1048576 := by omega
    clear hkr hs w0
    go_enter Tryd.func4, Tryd.ntmps4
    go_wp2_with fail
    refine (HS.out w).mono ?_
    rintro e w1 ⟨⟨v1, p, X, rfl, he1, ho1⟩, hb1⟩
    have HE1 : Hid (FEnd a0 p X) := he1
    have hXl : X.length ≤ 200000 := by have := he1.1.2; omega
    have hpl : p ≤ 1048576 := by have := he1.1.2; omega
    obtain ⟨ad1, cap1, rfl⟩ := own_form ho1
    have HB1 : Hid (Below w.heap.size w w1) := hb1
    have hs1 : w.heap.size ≤ w1.heap.size := hb1.size
    have HO1 : Hid (w1.ownsRow w.heap.size 9 1 (.slice ad1 X.length cap1) X.length (strv X)) := ho1
    clear hb1 ho1 he1
    go_wp2_with fail
    refine (HI.out w1 (HK.out.below HB1.out (Nat.le_refl _))).mono ?_
    rintro e w2 ⟨⟨v2, p', X', rfl, he2, ho2⟩, hb2⟩
    obtain ⟨rfl, rfl⟩ := HE1.out.one he2
    obtain ⟨ad2, cap2, rfl⟩ := own_form ho2
    have HB2 : Hid (Below w.heap.size w w2) := HB1.out.trans (hb2.mono hs1)
    have hs2 : w1.heap.size ≤ w2.heap.size := hb2.size
    have HB12 : Hid (Below w1.heap.size w1 w2) := hb2
    have HO2 : Hid (w2.ownsRow w1.heap.size 9 1 (.slice ad2 X.length cap2) X.length (strv X)) := ho2
    clear hb2 ho2 he2
    go_wp2_with fail
    refine (eqStringS_same X _ _ ad2 ad1 cap2 cap1 w2 hXl HO2.out (own_kept HO1.out HB12.out)).mono ?_
    rintro e w3 ⟨rfl, hb3⟩
    have HB3 : Hid (Below w.heap.size w w3) := HB2.out.trans (hb3.mono (by omega))
    have HB13 : Hid (Below w1.heap.size w1 w3) := HB12.out.trans (hb3.mono hs2)
    have HO3 : Hid (w3.ownsRow w1.heap.size 9 1 (.slice ad2 X.length cap2) X.length (strv X)) := own_kept HO2.out hb3
    have hs3 : w1.heap.size ≤ w3.heap.size := HB13.out.size
    clear hb3
    go_wp2_with fail
    refine (markStringS_any 1 X.length w1.heap.size (.slice ad2 X.length cap2) w3 (by decide) (by decide) hXl (MkR.start HO3.out)).mono ?_
    rintro e w4 ⟨⟨rfl, hmk⟩, hg4⟩
    have hb4 := gb_below hg4 (fun k e => (World.ownsRow.lt HO3.out k e).1) hs3
    have HB4 : Hid (Below w.heap.size w w4) := HB3.out.trans (hb4.mono hs1)
    have HB14 : Hid (Below w1.heap.size w1 w4) := HB13.out.trans hb4
    have HM4 : Hid (MkR 1 X.length X.length w1.heap.size w4 (.slice ad2 X.length cap2)) := hmk
    have hs4 : w1.heap.size ≤ w4.heap.size := HB14.out.size
    clear hb4 hmk hg4
    obtain ⟨L, hL⟩ : ∃ L : Nat, 1 + X.length = L := ⟨_, rfl⟩
    have HLE : Hid (1 + X.length = L) := hL
    have hL1 : 1 ≤ L := by omega
    have hL2 : L ≤ 200001 := by omega
    rw [hL]
    clear hL
    have HH : Hid (∀ w', MkR 1 X.length X.length w1.heap.size w' (.slice ad2 X.length cap2) → Calls Tryd.prog 11 #[.slice ad2 X.length cap2, .int .i64 1] w' fun e w'' => e = .returned (.int .i64 (L : Int)) ∧ Below w'.heap.size w' w'') := fun w' h => by have := heldStringS_any 1 _ _ (.slice ad2 X.length cap2) w' (by decide) (by decide) hXl h; rw [HLE.out] at this; exact this
    go_wp2_with fail
    refine (HH.out _ HM4.out).mono ?_
    rintro e w5 ⟨rfl, hb5⟩
    have HB5 : Hid (Below w.heap.size w w5) := HB4.out.trans (hb5.mono (by omega))
    have HB15 : Hid (Below w1.heap.size w1 w5) := HB14.out.trans (hb5.mono hs4)
    have HM5 : Hid (MkR 1 X.length X.length w1.heap.size w5 (.slice ad2 X.length cap2)) := HM4.out.below hb5
    have hs5 : w1.heap.size ≤ w5.heap.size := HB15.out.size
    clear hb5
    go_wp2_with fail
    refine (HI.out w5 (HK.out.below HB5.out (Nat.le_refl _))).mono ?_
    rintro e w6 ⟨⟨v6, p', X', rfl, he6, ho6⟩, hb6⟩
    obtain ⟨rfl, rfl⟩ := HE1.out.one he6
    obtain ⟨ad6, cap6, rfl⟩ := own_form ho6
    have HB6 : Hid (Below w.heap.size w w6) := HB5.out.trans (hb6.mono (by omega))
    have HB16 : Hid (Below w1.heap.size w1 w6) := HB15.out.trans (hb6.mono hs5)
    have HM6 : Hid (MkR 1 X.length X.length w1.heap.size w6 (.slice ad2 X.length cap2)) := HM5.out.below hb6
    have HO6 : Hid (w6.ownsRow w5.heap.size 9 1 (.slice ad6 X.length cap6) X.length (strv X)) := ho6
    have hs6 : w1.heap.size ≤ w6.heap.size := HB16.out.size
    clear hb6 ho6 he6
    go_wp2_with fail
    refine (eqStringS_same X _ _ ad6 ad1 cap6 cap1 w6 hXl HO6.out (own_kept HO1.out HB16.out)).mono ?_
    rintro e w7 ⟨rfl, hb7⟩
    have HB7 : Hid (Below w.heap.size w w7) := HB6.out.trans (hb7.mono (by omega))
    have HM7 : Hid (MkR 1 X.length X.length w1.heap.size w7 (.slice ad2 X.length cap2)) := HM6.out.below hb7
    clear hb7
    go_wp2_with fail
    refine (HH.out _ HM7.out).mono ?_
    rintro e w8 ⟨rfl, hb8⟩
    have HB8 : Hid (Below w.heap.size w w8) := HB7.out.trans (hb8.mono HB7.out.size)
    clear hb8
    go_wp2_with fail
    go_ret
    exact ⟨rfl, HB8.out⟩
theorem door_met (os : Os) (args : Array Value) : laidMetH Tryd.prog laidKR ((World.doorLaid Tryd.prog 400 os).forCall (fun _ _ => 0) ⟨#[], args, []⟩).memory :=
  laidMetH_of_parts3 (fuel := 8) (laidMet_of_run' 8 (by kernel_rfl) (by kernel_rfl)) (by kernel_rfl) (by kernel_rfl)
set_option maxRecDepth 100000 in
theorem lifted (os : Os) (started : os.Started) (H : Type) (enc : TypeId × Value → H) :
    ReturnsInHanded {} Tryd.checked os 4 .any (fun w args => (Rows.fnExactTakeFramesSpec.pre enc Tryd.prog Tryd.f4 [] false w args ∧ laidMetH Tryd.prog laidKR w) ∧ sizedMet enc Tryd.prog Tryd.f4 (OpenSpec.ofChange Rows.fnExactTakeFramesSpec) false w args)
      (Rows.fnExactTakeFramesSpec.post enc Tryd.prog Tryd.f4 false true false false) := by
  refine returnsInHanded_of_change_and (C := Tryd.checked) (X := fun w _ => laidMetH Tryd.prog laidKR w) (fun _ _ _ hh h => h.of_heap hh) Tryd.own started (by kernel_rfl) Tryd.func4
    (ChangeSpec.witness_shaped (enc := enc) (C := Tryd.checked) (os := os) (X := fun w _ => laidMetH Tryd.prog laidKR w) false (World.doorLaid Tryd.prog 400 os) #[.string ByteArray.empty] 8 rfl (World.shaped_of_RefB (by kernel_rfl) (by kernel_rfl)) (by kernel_rfl) (by kernel_rfl) (by kernel_rfl) (door_met os _)) ?_
  intro W base args ds gs before hval0 hW _ _ hL _
  have hval : ∀ (j : Nat) t v, Tryd.f4.params[j]? = some t → args[j]? = some v → Value.okWide Tryd.prog W .any base t v := hval0
  have hW' := hW
  obtain ⟨p, q, hA0, hV0, rfl, hfz, hnd⟩ := hW
  have hA : DataW.TrodAll enc Tryd.prog W 0 (fun _ => true) true Tryd.f4.params.toList args.toList ds p := hA0
  have hV : DataW.TrodVars enc Tryd.prog W (fun _ => true) ["loop.example/g00774/impl.crcParts"] gs q := hV0
  rw [Tryd.params4] at hA hval
  obtain ⟨v0, vs0, d0, ds0, p0, q0, hargs, rfl, rfl, h0, r0⟩ := trodAll_cons hA
  obtain ⟨rfl, rfl, rfl⟩ := trodAll_nil r0
  obtain rfl : args = #[v0] := by cases args; simp_all
  obtain ⟨g, t, cs, fuel, d, p', rfl, hg, ht, hvar, hd, rfl⟩ := trodVars_one hV
  obtain rfl := Option.some.inj (Tryd.gKR.symm.trans hg)
  obtain rfl := Option.some.inj (Tryd.tKR.symm.trans ht)
  obtain rfl : cs = kc := Option.some.inj (hvar.symm.trans (kr_of_laid hL))
  obtain ⟨rfl, rfl⟩ := DataW.Trod.unique (v := .agg kc) ⟨fuel, hd⟩ ⟨4, reads_kr enc W _⟩
  have hkr : KR W := KR.of_laid hL
  obtain ⟨a0, rfl, rfl, rfl, w0⟩ := open_string Tryd.underlying9 (hval 0 9 v0 rfl rfl) h0
  clear hA0 hV0 hval0
  refine (walk a0 W w0 hkr).mono fun e W' ⟨he, bel⟩ => ?_
  subst he
  have hvar' : W'.var? Tryd.prog "loop.example/g00774/impl.crcParts" = some kc := by
    have hb0 : W'.heap[0]? = W.heap[0]? := bel.block 0 hkr.1
    unfold World.var? at hvar ⊢
    rw [hg] at hvar ⊢
    simp only [Option.bind_some] at hvar ⊢
    rw [hb0]; exact hvar
  exact ⟨_, rfl, _, _, _, [], _, _, hW', trodAll_mk1 (shut_bool Tryd.underlying4 _), (trodAll_cons_mk (shut_string Tryd.underlying9 w0) trodAll_mk0), ⟨0, 41, kc, 4, [], [], hg, ht, hvar', reads_kr enc W' _, rfl, rfl⟩, bel.frame _, fun h => by cases h⟩
theorem over : Rows.fnExactTakeFramesRow.holds Tryd.pinned (OpenSpec.ofChange Rows.fnExactTakeFramesSpec) :=
  OpenClaim.holds_of_wide 4 Tryd.f4 rfl rfl rfl rfl rfl rfl rfl ⟨rfl, rfl, rfl, rfl, rfl⟩ rfl rfl rfl rfl rfl (by kernel_rfl) Tryd.func4 (by kernel_rfl)
    (of_decide_eq_true (by kernel_rfl)) (by unfold Func.isWrapper; first | (rw [if_pos (by decide +kernel)]; kernel_rfl) | (rw [if_neg (by decide +kernel)]; exact ⟨rfl, rfl⟩))
    (fun os started H enc _ => lifted os started H enc)
theorem proved : Rows.FnExactTakeFramesCardSaid :=
  Claim7.holds_tied_plain_at .later [] [.data] true (true, "520d6f807cbb5abaab94c5eb90a26e9af6efdaea66279e7178ac0be1d5d1a5b4") true
    over (fun _ h => by cases h) (by kernel_rfl) (fun _ h => by cases h) fnExactTakeFrames_row_tie rfl ⟨rfl, rfl⟩ (by kernel_rfl) rfl
    (fun f fn hf hfn => by
      obtain rfl : f = 4 := Option.some.inj ((show Tryd.prog.funcNamed "loop.example/g00774/laws.FnExactTakeFrames" = some 4 by kernel_rfl).symm.trans hf) |>.symm
      obtain rfl : fn = Tryd.f4 := (Option.some.inj (Tryd.func4.symm.trans hfn)).symm
      exact ⟨by kernel_rfl, fun j t ht => by
        rw [Tryd.params4] at ht
        have hm : t ∈ [9] := by simpa using Array.mem_of_getElem? ht
        have hall : ([9].all fun u => !Tryd.prog.wantsStandIn u) = true := by kernel_rfl
        exact (show Tryd.prog.wantsStandIn t = false by simpa using List.all_eq_true.1 hall t hm)⟩)
    (by kernel_rfl)
#print axioms proved
end Go.Proofs.YtloobcmeafejpaaDoor.fnExactTakeFrames
