/- Whatever its arguments, laws.FnExactCmdText returns true and leaves them, and the table that it reads, as they were; the table starts as the program's text lays it. -/
import Derived.Test.YtdbkglnmmaglcaaDoorCards
import Derived.Test.YtdbkglnmmaglcaaDoorTie
import Derived.Test.YtdbkglnmmaglcaaDoorGTa
import Derived.Test.YtdbkglnmmaglcaaDoorGTk
import Derived.SevenTiedAt
import Derived.Lib.SmallJoins
namespace Go.Proofs.YtdbkglnmmaglcaaDoor.fnExactCmdText
open Go.ChangeShapes Go.WideShapes Go.ChangeAt Go.RowKit
open Go.ChangeMaps (open_string shut_string)
open Go.Joins
set_option linter.unusedVariables false
theorem cells23 : Tryd.prog.cellsOf 23 = 3 := by kernel_rfl

set_option maxRecDepth 100000 in
set_option maxHeartbeats 2000000 in
theorem walk (a0a : Int) (a0b : Int) (a0c : ByteArray) (w : World) (w0a : (Lit.int .i64 a0a).wf = true) (w0b : (Lit.int .i64 a0b).wf = true) (w0c : a0c.size ≤ maxLen) (hkr : KR w) :
    Calls Tryd.prog 3 #[.agg #[.int .i64 a0a, .int .i64 a0b, .string a0c]] w fun e w' => e = .returned (.bool true) ∧ Below w.heap.size w w' := by
  obtain ⟨c0, c1, c2⟩ : (w.alloc (.cells #[.int .i64 a0a, .int .i64 a0b, .string a0c] 23)).cell? ⟨w.heap.size, 0, none⟩ = some (.int .i64 a0a) ∧ (w.alloc (.cells #[.int .i64 a0a, .int .i64 a0b, .string a0c] 23)).cell? ⟨w.heap.size, 1, none⟩ = some (.int .i64 a0b) ∧ (w.alloc (.cells #[.int .i64 a0a, .int .i64 a0b, .string a0c] 23)).cell? ⟨w.heap.size, 2, none⟩ = some (.string a0c) := ⟨by rw [cell_of_row _ _ 0 _ _ _ (heap_alloc_new w _)]; rfl, by rw [cell_of_row _ _ 1 _ _ _ (heap_alloc_new w _)]; rfl, by rw [cell_of_row _ _ 2 _ _ _ (heap_alloc_new w _)]; rfl⟩
  obtain ⟨W, hW⟩ : ∃ W, w.alloc (.cells #[.int .i64 a0a, .int .i64 a0b, .string a0c] 23) = W := ⟨_, rfl⟩
  have HB : Hid (Below w.heap.size w W) := by show Below _ _ _; rw [← hW]; exact bel1 _ _
  have hlt : w.heap.size < W.heap.size := by rw [← hW]; simp
  rw [hW] at c0 c1 c2
  have HWW : Hid (w.alloc (.cells #[.int .i64 a0a, .int .i64 a0b, .string a0c] 23) = W) := hW
  clear hW
  have HK : Hid (KR w) := hkr
  clear hkr
  by_cases hs : 1048576 < a0c.size
  · have HZ : Hid (∀ w : World, Calls Tryd.prog 5 #[.agg #[.int .i64 a0a, .int .i64 a0b, .string a0c], .int .i64 1048576] w fun e w' => e = .returned (.int .i64 (-1)) ∧ Below w.heap.size w w') := fun w => by have := szCmd_any a0a a0b a0c 1048576 w (by omega) (by omega) w0c; rwa [if_pos (by omega)] at this
    clear w0a w0b w0c hs
    go_enter Tryd.func3, Tryd.ntmps3
    go_wp2_with fail
    rw [HWW.out]
    refine (HZ.out _).mono ?_
    rintro e w1 ⟨rfl, hb1⟩
    have HB1 : Hid (Below w.heap.size w w1) := HB.out.trans (hb1.mono HB.out.size)
    clear hb1
    go_wp2_with fail
    go_ret
    exact ⟨rfl, HB1.out⟩
  · have hsz : a0c.size ≤ 1048576 := by omega
    obtain ⟨L, hL⟩ : ∃ L : Int, (1048576 : Int) - a0c.size = L := ⟨_, rfl⟩
    have hL0 : 0 ≤ L := by omega
    have hL1 : ¬ L < 0 := by omega
    have HZ : Hid (∀ w : World, Calls Tryd.prog 5 #[.agg #[.int .i64 a0a, .int .i64 a0b, .string a0c], .int .i64 1048576] w fun e w' => e = .returned (.int .i64 L) ∧ Below w.heap.size w w') := fun w => by have := szCmd_any a0a a0b a0c 1048576 w (by omega) (by omega) w0c; rw [if_neg (by omega), hL] at this; exact this
    have HT : Hid (∀ w : World, Calls Tryd.prog 7 #[.agg #[.int .i64 a0a, .int .i64 a0b, .string a0c]] w fun e w' => e = .returned (.agg #[.int .i64 a0a, .int .i64 a0b, .string a0c]) ∧ Below w.heap.size w w') := fun w => toCmd_any a0a a0b a0c w
    obtain ⟨R, hR⟩ : ∃ R, cmdT a0a a0b a0c = R := ⟨_, rfl⟩
    have HS : Hid (∀ w : World, Calls Tryd.prog 6 #[.agg #[.int .i64 a0a, .int .i64 a0b, .string a0c]] w fun e w' => e = .returned (.string R) ∧ Below w.heap.size w w') := fun w => by have := specCmdText_any a0a a0b a0c w (by omega); rw [hR] at this; exact this
    have HI : Hid (∀ w : World, KR w → Calls Tryd.prog 8 #[.agg #[.int .i64 a0a, .int .i64 a0b, .string a0c]] w fun e w' => e = .returned (.string R) ∧ Below w.heap.size w w') := fun w h => by have := implCmdText_any a0a a0b a0c w h (by omega); rw [hR] at this; exact this
    have hRR : (R.toList == R.toList) = true := by simp
    clear w0a w0b w0c hs hL hR hsz
    go_enter Tryd.func3, Tryd.ntmps3
    go_wp2_with fail
    rw [HWW.out]
    refine (HZ.out _).mono ?_
    rintro e w1 ⟨rfl, hb1⟩
    have HB1 : Hid (Below w.heap.size w w1) := HB.out.trans (hb1.mono HB.out.size)
    have hl1 : w.heap.size < w1.heap.size := by have := hb1.size; omega
    have d0 : w1.cell? ⟨w.heap.size, 0, none⟩ = some (.int .i64 a0a) := by rw [hb1.cell (p := ⟨w.heap.size, 0, none⟩) hlt]; exact c0
    have d1 : w1.cell? ⟨w.heap.size, 1, none⟩ = some (.int .i64 a0b) := by rw [hb1.cell (p := ⟨w.heap.size, 1, none⟩) hlt]; exact c1
    have d2 : w1.cell? ⟨w.heap.size, 2, none⟩ = some (.string a0c) := by rw [hb1.cell (p := ⟨w.heap.size, 2, none⟩) hlt]; exact c2
    clear hb1 c0 c1 c2 hlt
    go_wp2_with fail
    refine (HT.out _).mono ?_
    rintro e w2 ⟨rfl, hb2⟩
    have HB2 : Hid (Below w.heap.size w w2) := HB1.out.trans (hb2.mono HB1.out.size)
    have HBB : Hid (Below w1.heap.size w1 w2) := hb2
    clear hb2
    go_wp2_with fail
    refine (HS.out _).mono ?_
    rintro e w3 ⟨rfl, hb3⟩
    have HB3 : Hid (Below w.heap.size w w3) := HB2.out.trans (hb3.mono HB2.out.size)
    have hb13 : Below w1.heap.size w1 w3 := HBB.out.trans (hb3.mono HBB.out.size)
    have e0 : w3.cell? ⟨w.heap.size, 0, none⟩ = some (.int .i64 a0a) := by rw [hb13.cell (p := ⟨w.heap.size, 0, none⟩) hl1]; exact d0
    have e1 : w3.cell? ⟨w.heap.size, 1, none⟩ = some (.int .i64 a0b) := by rw [hb13.cell (p := ⟨w.heap.size, 1, none⟩) hl1]; exact d1
    have e2 : w3.cell? ⟨w.heap.size, 2, none⟩ = some (.string a0c) := by rw [hb13.cell (p := ⟨w.heap.size, 2, none⟩) hl1]; exact d2
    clear hb3 hb13 d0 d1 d2
    go_wp2_with fail
    refine (HT.out _).mono ?_
    rintro e w4 ⟨rfl, hb4⟩
    have HK4 : Hid (KR w4) := HK.out.below (HB3.out.trans (hb4.mono HB3.out.size)) (Nat.le_refl _)
    have HB4 : Hid (Below w.heap.size w w4) := HB3.out.trans (hb4.mono HB3.out.size)
    clear hb4
    go_wp2_with fail
    refine (HI.out _ HK4.out).mono ?_
    rintro e w5 ⟨rfl, hb5⟩
    have HB5 : Hid (Below w.heap.size w w5) := HB4.out.trans (hb5.mono HB4.out.size)
    clear hb5 e0 e1 e2
    go_wp2_with fail
    go_ret
    exact ⟨rfl, HB5.out⟩
theorem door_met (os : Os) (args : Array Value) : laidMetH Tryd.prog laidKR ((World.doorLaid Tryd.prog 400 os).forCall (fun _ _ => 0) ⟨#[], args, []⟩).memory :=
  laidMetH_of_parts3 (fuel := 8) (laidMet_of_run' 8 (by kernel_rfl) (by kernel_rfl)) (by kernel_rfl) (by kernel_rfl)
set_option maxRecDepth 100000 in
theorem lifted (os : Os) (started : os.Started) (H : Type) (enc : TypeId × Value → H) :
    ReturnsInHanded {} Tryd.checked os 3 .any (fun w args => (Rows.fnExactCmdTextSpec.pre enc Tryd.prog Tryd.f3 [] false w args ∧ laidMetH Tryd.prog laidKR w) ∧ sizedMet enc Tryd.prog Tryd.f3 (OpenSpec.ofChange Rows.fnExactCmdTextSpec) false w args)
      (Rows.fnExactCmdTextSpec.post enc Tryd.prog Tryd.f3 false true false false) := by
  refine returnsInHanded_of_change_and (C := Tryd.checked) (X := fun w _ => laidMetH Tryd.prog laidKR w) (fun _ _ _ hh h => h.of_heap hh) Tryd.own started (by kernel_rfl) Tryd.func3
    (ChangeSpec.witness_shaped (enc := enc) (C := Tryd.checked) (os := os) (X := fun w _ => laidMetH Tryd.prog laidKR w) false (World.doorLaid Tryd.prog 400 os) #[.agg #[.int .i64 0, .int .i64 0, .string ByteArray.empty]] 8 rfl (World.shaped_of_RefB (by kernel_rfl) (by kernel_rfl)) (by kernel_rfl) (by kernel_rfl) (by kernel_rfl) (door_met os _)) ?_
  intro W base args ds gs before hval0 hW _ _ hL _
  have hval : ∀ (j : Nat) t v, Tryd.f3.params[j]? = some t → args[j]? = some v → Value.okWide Tryd.prog W .any base t v := hval0
  have hW' := hW
  obtain ⟨p, q, hA0, hV0, rfl, hfz, hnd⟩ := hW
  have hA : DataW.TrodAll enc Tryd.prog W 0 (fun _ => true) true Tryd.f3.params.toList args.toList ds p := hA0
  have hV : DataW.TrodVars enc Tryd.prog W (fun _ => true) ["loop.example/g00774/impl.formatNames"] gs q := hV0
  rw [Tryd.params3] at hA hval
  obtain ⟨v0, vs0, d0, ds0, p0, q0, hargs, rfl, rfl, h0, r0⟩ := trodAll_cons hA
  obtain ⟨rfl, rfl, rfl⟩ := trodAll_nil r0
  obtain rfl : args = #[v0] := by cases args; simp_all
  obtain ⟨g, t, cs, fuel, d, p', rfl, hg, ht, hvar, hd, rfl⟩ := trodVars_one hV
  obtain rfl := Option.some.inj (Tryd.gKR.symm.trans hg)
  obtain rfl := Option.some.inj (Tryd.tKR.symm.trans ht)
  obtain rfl : cs = kc := Option.some.inj (hvar.symm.trans (kr_of_laid hL))
  obtain ⟨rfl, rfl⟩ := DataW.Trod.unique (v := .agg kc) ⟨fuel, hd⟩ ⟨4, reads_kr enc W _⟩
  have hkr : KR W := KR.of_laid hL
  obtain ⟨c0a, c0b, c0c, y0a, y0b, y0c, m0, rfl, rfl, rfl, hy0a, hy0b, hy0c⟩ := open_agg3 Tryd.underlying23 (by kernel_rfl) cells23 (hval 0 23 v0 rfl rfl) h0
  obtain ⟨a0a, e0a, r0a, w0a⟩ := DataW.trod_int Tryd.underlying2 hy0a
  simp at e0a
  subst e0a r0a
  obtain ⟨a0b, e0b, r0b, w0b⟩ := DataW.trod_int Tryd.underlying2 hy0b
  simp at e0b
  subst e0b r0b
  obtain ⟨a0c, e0c, r0c, w0c⟩ := DataW.trod_string Tryd.underlying9 hy0c
  simp at e0c
  subst e0c r0c
  clear hA0 hV0 hval0
  refine (walk a0a a0b a0c W w0a w0b w0c hkr).mono fun e W' ⟨he, bel⟩ => ?_
  subst he
  have hvar' : W'.var? Tryd.prog "loop.example/g00774/impl.formatNames" = some kc := by
    have hb0 : W'.heap[0]? = W.heap[0]? := bel.block 0 hkr.1
    unfold World.var? at hvar ⊢
    rw [hg] at hvar ⊢
    simp only [Option.bind_some] at hvar ⊢
    rw [hb0]; exact hvar
  exact ⟨_, rfl, _, _, _, [], _, _, hW', trodAll_mk1 (shut_bool Tryd.underlying4 _), (trodAll_cons_mk (shut_agg3 (y0 := (.lit (.int .i64 a0a), [])) (y1 := (.lit (.int .i64 a0b), [])) (y2 := (.lit (.string a0c.data.toList), [])) Tryd.underlying23 (by kernel_rfl) cells23 (field_of_Trod (shut_int Tryd.underlying2 w0a) rfl) (field_of_Trod (shut_int Tryd.underlying2 w0b) rfl) (field_of_Trod (shut_string Tryd.underlying9 w0c) rfl)) trodAll_mk0), ⟨0, 45, kc, 4, [], [], hg, ht, hvar', reads_kr enc W' _, rfl, rfl⟩, bel.frame _, fun h => by cases h⟩
theorem over : Rows.fnExactCmdTextRow.holds Tryd.pinned (OpenSpec.ofChange Rows.fnExactCmdTextSpec) :=
  OpenClaim.holds_of_wide 3 Tryd.f3 rfl rfl rfl rfl rfl rfl rfl ⟨rfl, rfl, rfl, rfl, rfl⟩ rfl rfl rfl rfl rfl (by kernel_rfl) Tryd.func3 (by kernel_rfl)
    (of_decide_eq_true (by kernel_rfl)) (by unfold Func.isWrapper; first | (rw [if_pos (by decide +kernel)]; kernel_rfl) | (rw [if_neg (by decide +kernel)]; exact ⟨rfl, rfl⟩))
    (fun os started H enc _ => lifted os started H enc)
theorem proved : Rows.FnExactCmdTextCardSaid :=
  Claim7.holds_tied_plain_at .later [] [.data] true (true, "73ffd076303595a2dda9f7634a39cdeb4d441650e13501463e12fe10ecc7f506") false
    over (fun _ h => by cases h) (by kernel_rfl) (fun _ h => by cases h) fnExactCmdText_row_tie rfl ⟨rfl, rfl⟩ (by kernel_rfl) rfl
    (fun f fn hf hfn => by
      obtain rfl : f = 3 := Option.some.inj ((show Tryd.prog.funcNamed "loop.example/g00774/laws.FnExactCmdText" = some 3 by kernel_rfl).symm.trans hf) |>.symm
      obtain rfl : fn = Tryd.f3 := (Option.some.inj (Tryd.func3.symm.trans hfn)).symm
      exact ⟨by kernel_rfl, fun j t ht => by
        rw [Tryd.params3] at ht
        have hm : t ∈ [23] := by simpa using Array.mem_of_getElem? ht
        have hall : ([23].all fun u => !Tryd.prog.wantsStandIn u) = true := by kernel_rfl
        exact (show Tryd.prog.wantsStandIn t = false by simpa using List.all_eq_true.1 hall t hm)⟩)
    (by kernel_rfl)
#print axioms proved
end Go.Proofs.YtdbkglnmmaglcaaDoor.fnExactCmdText
