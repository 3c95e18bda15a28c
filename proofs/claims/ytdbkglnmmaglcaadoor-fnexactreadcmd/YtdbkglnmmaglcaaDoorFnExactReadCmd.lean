/- Whatever its arguments, laws.FnExactReadCmd returns true and leaves them, and the table that it reads, as they were; the table starts as the program's text lays it. -/
import Derived.Test.YtdbkglnmmaglcaaDoorCards
import Derived.Test.YtdbkglnmmaglcaaDoorTie
import Derived.Test.YtdbkglnmmaglcaaDoorRCf
import Derived.Test.YtdbkglnmmaglcaaDoorGTk
import Derived.SevenTiedAt
namespace Go.Proofs.YtdbkglnmmaglcaaDoor.fnExactReadCmd
open Go.ChangeShapes Go.WideShapes Go.ChangeAt Go.RowKit
open Go.ChangeMaps (open_string shut_string)
set_option linter.unusedVariables false

set_option maxRecDepth 100000 in
set_option maxHeartbeats 2000000 in
theorem walk (a0 : ByteArray) (w : World) (w0 : a0.size ≤ maxLen) (hkr : KR w) :
    Calls Tryd.prog 4 #[.string a0] w fun e w' => e = .returned (.bool true) ∧ Below w.heap.size w w' := by
  by_cases hs : 1048576 < a0.size
  · clear hkr
    unfold maxLen at w0
    go_enter Tryd.func4, Tryd.ntmps4
    go_wp2_with fail
    go_ret
    exact ⟨rfl, Below.refl _ _⟩
  · have HS : Hid (∀ w, Calls Tryd.prog 9 #[.string a0] w fun e w' => RcV a0 e ∧ Below w.heap.size w w') := fun w => specReadCmd_any a0 w (by omega)
    have HI : Hid (∀ w, KR w → Calls Tryd.prog 10 #[.string a0] w fun e w' => RcV a0 e ∧ Below w.heap.size w w') := fun w h => implReadCmd_any a0 w h (by omega)
    have HK : Hid (KR w) := hkr
    have hle : a0.size ≤ 1048576 := by omega
    clear hkr hs w0
    go_enter Tryd.func4, Tryd.ntmps4
    go_wp2_with fail
    refine (HS.out _).mono ?_
    rintro e w1 ⟨⟨k, a, d, b, rfl, hr⟩, hb1⟩
    have HR : Hid (RcOk a0 k a d b) := hr
    have HK1 : Hid (KR w1) := HK.out.below hb1 (Nat.le_refl _)
    have HB1 : Hid (Below w.heap.size w w1) := hb1
    obtain ⟨C1, hC1⟩ : ∃ C, w1.heap.size = C := ⟨_, rfl⟩
    have HC1 : Hid (w1.heap.size = C1) := hC1
    obtain ⟨X, hX⟩ : ∃ X, w1.alloc (.cells #[.int .i64 k, .int .i64 a, .string d] 26) = X := ⟨_, rfl⟩
    have HXX : Hid (w1.alloc (.cells #[.int .i64 k, .int .i64 a, .string d] 26) = X) := hX
    have HCX : Hid (X.heap[C1]? = some (.cells #[.int .i64 k, .int .i64 a, .string d] 26 (0, 0))) := by show _ = _; rw [← hX, ← hC1]; exact heap_alloc_new w1 _
    have HBX : Hid (Below w.heap.size w X) := by show Below _ _ _; rw [← hX]; exact hb1.alloc hb1.size _
    have HKX : Hid (KR X) := HK.out.below HBX.out (Nat.le_refl _)
    have hCw : w.heap.size ≤ C1 := by rw [← hC1]; exact hb1.size
    clear hb1 hr hC1 hX
    go_wp2_with fail
    rw [HXX.out]
    try rw [HC1.out]
    refine (HI.out _ HKX.out).mono ?_
    rintro e w2 ⟨⟨k', a', d', b', rfl, hr'⟩, hb2⟩
    obtain ⟨rfl, rfl, rfl, rfl⟩ := HR.out.one hr'
    obtain ⟨C2, hC2⟩ : ∃ C, w2.heap.size = C := ⟨_, rfl⟩
    have HC2 : Hid (w2.heap.size = C2) := hC2
    obtain ⟨Y, hY⟩ : ∃ Y, w2.alloc (.cells #[.int .i64 k, .int .i64 a, .string d] 26) = Y := ⟨_, rfl⟩
    have HYY : Hid (w2.alloc (.cells #[.int .i64 k, .int .i64 a, .string d] 26) = Y) := hY
    have h12 : w2.heap[C1]? = some (.cells #[.int .i64 k, .int .i64 a, .string d] 26 (0, 0)) := (hb2.block C1 (blk_lt HCX.out)).trans HCX.out
    have hC12 : C1 < C2 := by have := blk_lt h12; omega
    have HCY : Hid (Y.heap[C1]? = some (.cells #[.int .i64 k, .int .i64 a, .string d] 26 (0, 0))) := by show _ = _; rw [← hY]; exact (Below.heap_alloc w2 _ _ (blk_lt h12)).trans h12
    have HBY : Hid (Below w.heap.size w Y) := by show Below _ _ _; rw [← hY]; exact (HBX.out.trans (hb2.mono (by have := blk_lt HCX.out; omega))).alloc (by omega) _
    obtain ⟨⟨p0, p1, p2⟩, -⟩ := cells3 HCY.out
    rw [← hY] at p0 p1 p2
    have HE : Hid (∀ w, Calls Tryd.prog 11 #[.agg #[.int .i64 k, .int .i64 a, .string d], .agg #[.int .i64 k, .int .i64 a, .string d]] w fun e w' => e = .returned (.bool true) ∧ Below w.heap.size w w') := fun w => eqCmd_same k a d w
    clear hb2 hr' hC2 hY h12
    cases b
    all_goals
      go_wp2_with fail
      try rw [HC2.out]
      try rw [HYY.out]
      try (go_wp2_with fail)
      refine (HE.out _).mono ?_
      rintro e w3 ⟨rfl, hb3⟩
      have HB3 : Hid (Below w.heap.size w w3) := HBY.out.trans (hb3.mono HBY.out.size)
      clear hb3
      go_wp2_with fail
      go_ret
      exact ⟨rfl, HB3.out⟩
theorem door_met (os : Os) (args : Array Value) : laidMetH Tryd.prog laidKR ((World.doorLaid Tryd.prog 400 os).forCall (fun _ _ => 0) ⟨#[], args, []⟩).memory :=
  laidMetH_of_parts3 (fuel := 8) (laidMet_of_run' 8 (by kernel_rfl) (by kernel_rfl)) (by kernel_rfl) (by kernel_rfl)
set_option maxRecDepth 100000 in
theorem lifted (os : Os) (started : os.Started) (H : Type) (enc : TypeId × Value → H) :
    ReturnsInHanded {} Tryd.checked os 4 .any (fun w args => (Rows.fnExactReadCmdSpec.pre enc Tryd.prog Tryd.f4 [] false w args ∧ laidMetH Tryd.prog laidKR w) ∧ sizedMet enc Tryd.prog Tryd.f4 (OpenSpec.ofChange Rows.fnExactReadCmdSpec) false w args)
      (Rows.fnExactReadCmdSpec.post enc Tryd.prog Tryd.f4 false true false false) := by
  refine returnsInHanded_of_change_and (C := Tryd.checked) (X := fun w _ => laidMetH Tryd.prog laidKR w) (fun _ _ _ hh h => h.of_heap hh) Tryd.own started (by kernel_rfl) Tryd.func4
    (ChangeSpec.witness_shaped (enc := enc) (C := Tryd.checked) (os := os) (X := fun w _ => laidMetH Tryd.prog laidKR w) false (World.doorLaid Tryd.prog 400 os) #[.string ByteArray.empty] 8 rfl (World.shaped_of_RefB (by kernel_rfl) (by kernel_rfl)) (by kernel_rfl) (by kernel_rfl) (by kernel_rfl) (door_met os _)) ?_
  intro W base args ds gs before hval0 hW _ _ hL _
  have hval : ∀ (j : Nat) t v, Tryd.f4.params[j]? = some t → args[j]? = some v → Value.okWide Tryd.prog W .any base t v := hval0
  have hW' := hW
  obtain ⟨p, q, hA0, hV0, rfl, hfz, hnd⟩ := hW
  have hA : DataW.TrodAll enc Tryd.prog W 0 (fun _ => true) true Tryd.f4.params.toList args.toList ds p := hA0
  have hV : DataW.TrodVars enc Tryd.prog W (fun _ => true) ["loop.example/g00774/impl.formatNames"] gs q := hV0
  rw [Tryd.params4] at hA hval
  obtain ⟨v0, vs0, d0, ds0, p0, q0, hargs, rfl, rfl, h0, r0⟩ := trodAll_cons hA
  obtain ⟨rfl, rfl, rfl⟩ := trodAll_nil r0
  obtain rfl : args = #[v0] := by cases args; simp_all
  obtain ⟨g, t, cs, fuel, d, p', rfl, hg, ht, hvar, hd, rfl⟩ := trodVars_one hV
  obtain rfl := Option.some.inj (Tryd.gKR.symm.trans hg)
  obtain rfl := Option.some.inj (Tryd.tKR.symm.trans ht)
  obtain rfl : cs = kc := Option.some.inj (hvar.symm.trans (kr_of_laid hL))
  obtain ⟨rfl, rfl⟩ := DataW.Trod.unique (v := .agg kc) ⟨fuel, hd⟩ ⟨4, reads_kr enc W _⟩
  have hkr : KR W := KR.of_laid hL
  obtain ⟨a0, rfl, rfl, rfl, w0⟩ := open_string Tryd.underlying9 (hval 0 9 v0 rfl rfl) h0
  clear hA0 hV0 hval0
  refine (walk a0 W w0 hkr).mono fun e W' ⟨he, bel⟩ => ?_
  subst he
  have hvar' : W'.var? Tryd.prog "loop.example/g00774/impl.formatNames" = some kc := by
    have hb0 : W'.heap[0]? = W.heap[0]? := bel.block 0 hkr.1
    unfold World.var? at hvar ⊢
    rw [hg] at hvar ⊢
    simp only [Option.bind_some] at hvar ⊢
    rw [hb0]; exact hvar
  exact ⟨_, rfl, _, _, _, [], _, _, hW', trodAll_mk1 (shut_bool Tryd.underlying4 _), (trodAll_cons_mk (shut_string Tryd.underlying9 w0) trodAll_mk0), ⟨0, 45, kc, 4, [], [], hg, ht, hvar', reads_kr enc W' _, rfl, rfl⟩, bel.frame _, fun h => by cases h⟩
theorem over : Rows.fnExactReadCmdRow.holds Tryd.pinned (OpenSpec.ofChange Rows.fnExactReadCmdSpec) :=
  OpenClaim.holds_of_wide 4 Tryd.f4 rfl rfl rfl rfl rfl rfl rfl ⟨rfl, rfl, rfl, rfl, rfl⟩ rfl rfl rfl rfl rfl (by kernel_rfl) Tryd.func4 (by kernel_rfl)
    (of_decide_eq_true (by kernel_rfl)) (by unfold Func.isWrapper; first | (rw [if_pos (by decide +kernel)]; kernel_rfl) | (rw [if_neg (by decide +kernel)]; exact ⟨rfl, rfl⟩))
    (fun os started H enc _ => lifted os started H enc)
theorem proved : Rows.FnExactReadCmdCardSaid :=
  Claim7.holds_tied_plain_at .later [] [.data] true (true, "73ffd076303595a2dda9f7634a39cdeb4d441650e13501463e12fe10ecc7f506") false
    over (fun _ h => by cases h) (by kernel_rfl) (fun _ h => by cases h) fnExactReadCmd_row_tie rfl ⟨rfl, rfl⟩ (by kernel_rfl) rfl
    (fun f fn hf hfn => by
      obtain rfl : f = 4 := Option.some.inj ((show Tryd.prog.funcNamed "loop.example/g00774/laws.FnExactReadCmd" = some 4 by kernel_rfl).symm.trans hf) |>.symm
      obtain rfl : fn = Tryd.f4 := (Option.some.inj (Tryd.func4.symm.trans hfn)).symm
      exact ⟨by kernel_rfl, fun j t ht => by
        rw [Tryd.params4] at ht
        have hm : t ∈ [9] := by simpa using Array.mem_of_getElem? ht
        have hall : ([9].all fun u => !Tryd.prog.wantsStandIn u) = true := by kernel_rfl
        exact (show Tryd.prog.wantsStandIn t = false by simpa using List.all_eq_true.1 hall t hm)⟩)
    (by kernel_rfl)
#print axioms proved
end Go.Proofs.YtdbkglnmmaglcaaDoor.fnExactReadCmd
