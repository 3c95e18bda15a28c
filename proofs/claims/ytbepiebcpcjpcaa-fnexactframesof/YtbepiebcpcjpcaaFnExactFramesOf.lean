/- Whatever its arguments, laws.FnExactFramesOf returns true and leaves them as they were; no condition. -/
import Derived.Test.YtbepiebcpcjpcaaFRu
import Derived.Test.YtbepiebcpcjpcaaFRo
import Derived.ProofKit
import Derived.OpenShut
import Derived.ShutString
import Derived.ChangeOld
namespace Go.Proofs.Ytbepiebcpcjpcaa.fnExactFramesOf
open Go.ChangeShapes Go.WideShapes Go.ChangeAt Go.RowKit
open Go.ChangeMaps (open_string shut_string)
set_option linter.unusedVariables false
theorem own : ownKnob Try.prog.godebug = none := by kernel_rfl

set_option maxRecDepth 100000 in
set_option maxHeartbeats 2000000 in
theorem walk (a0 : ByteArray) (w : World) (w0 : a0.size ≤ maxLen) :
    Calls Try.prog 6 #[.string a0] w fun e w' => e = .returned (.bool true) ∧ Below w.heap.size w w' := by
  by_cases hs : 1048576 < a0.size
  · go_enter Try.func6, Try.ntmps6
    go_wp2_with fail
    go_ret
    exact ⟨rfl, Below.refl _ _⟩
  · have hsz : a0.size ≤ 1048576 := by omega
    obtain ⟨E, hE⟩ : ∃ E : Nat, (fs a0.data.toList).2.1 = E := ⟨_, rfl⟩
    obtain ⟨l, hl⟩ : ∃ l, (fs a0.data.toList).1 = l := ⟨_, rfl⟩
    have HL : Hid (l.length ≤ 400000) := by
      show _ ≤ _
      have := fs_bound _ a0.data.toList (Nat.le_refl _)
      rw [hl] at this
      simp at this
      omega
    have HS : Hid (∀ w : World, Calls Try.prog 21 #[.string a0] w fun e w' => (∃ v, e = .returned (.tuple #[v, .int .i64 (E : Nat)]) ∧ OwnF w.heap.size w' v l) ∧ Below w.heap.size w w') := fun w => by have := specFramesOf_any a0 w hsz; unfold FsE at this; rw [hE, hl] at this; exact this
    have HI : Hid (∀ w : World, Calls Try.prog 22 #[.string a0] w fun e w' => (∃ v, e = .returned (.tuple #[v, .int .i64 (E : Nat)]) ∧ OwnF w.heap.size w' v l) ∧ Below w.heap.size w w') := fun w => by have := implFramesOf_any a0 w (by omega); unfold FsE at this; rw [hE, hl] at this; exact this
    clear hE hl
    go_enter Try.func6, Try.ntmps6
    go_wp2_with fail
    refine (HS.out w).mono ?_
    rintro e w1 ⟨⟨v1, rfl, ho1⟩, hb1⟩
    have HB1 : Hid (Below w.heap.size w w1) := hb1
    have hs1 : w.heap.size ≤ w1.heap.size := hb1.size
    have HO1 : Hid (OwnF w.heap.size w1 v1 l) := ho1
    clear hb1 ho1
    go_wp2_with fail
    refine (HI.out w1).mono ?_
    rintro e w2 ⟨⟨v2, rfl, ho2⟩, hb2⟩
    have HB2 : Hid (Below w.heap.size w w2) := HB1.out.trans (hb2.mono hs1)
    have hs2 : w1.heap.size ≤ w2.heap.size := hb2.size
    have HB12 : Hid (Below w1.heap.size w1 w2) := hb2
    have HO2 : Hid (OwnF w1.heap.size w2 v2 l) := ho2
    clear hb2 ho2
    go_wp2_with fail
    refine (eqFrameS_same l _ _ v2 v1 w2 HO2.out (HO1.out.kept HB12.out)).mono ?_
    rintro e w3 ⟨rfl, hb3⟩
    have HB3 : Hid (Below w.heap.size w w3) := HB2.out.trans (hb3.mono (by omega))
    have HB13 : Hid (Below w1.heap.size w1 w3) := HB12.out.trans (hb3.mono hs2)
    have HO3 : Hid (OwnF w1.heap.size w3 v2 l) := HO2.out.kept hb3
    have hs3 : w1.heap.size ≤ w3.heap.size := HB13.out.size
    clear hb3
    go_wp2_with fail
    refine (markFrameS_any 1 l.length w1.heap.size v2 w3 (by decide) (by decide) HL.out (MkFs.start HO3.out)).mono ?_
    rintro e w4 ⟨⟨rfl, hmk⟩, hb4⟩
    have HB4 : Hid (Below w.heap.size w w4) := HB3.out.trans (hb4.mono hs1)
    have HB14 : Hid (Below w1.heap.size w1 w4) := HB13.out.trans hb4
    have HM4 : Hid (MkFs 1 l.length l.length w1.heap.size w4 v2) := hmk
    have hs4 : w1.heap.size ≤ w4.heap.size := HB14.out.size
    clear hb4 hmk
    obtain ⟨L, hL⟩ : ∃ L : Nat, 1 + 3 * l.length = L := ⟨_, rfl⟩
    have HLE : Hid (1 + 3 * l.length = L) := hL
    have hL1 : 1 ≤ L := by omega
    have hL2 : L ≤ 1200001 := by have := HL.out; omega
    rw [hL]
    clear hL
    have HH : Hid (∀ w', MkFs 1 l.length l.length w1.heap.size w' v2 → Calls Try.prog 20 #[v2, .int .i64 1] w' fun e w'' => e = .returned (.int .i64 (L : Int)) ∧ Below w'.heap.size w' w'') := fun w' h => by have := heldFrameS_any 1 _ _ v2 w' (by decide) (by decide) HL.out h; rw [HLE.out] at this; exact this
    go_wp2_with fail
    refine (HH.out _ HM4.out).mono ?_
    rintro e w5 ⟨rfl, hb5⟩
    have HB5 : Hid (Below w.heap.size w w5) := HB4.out.trans (hb5.mono (by omega))
    have HB15 : Hid (Below w1.heap.size w1 w5) := HB14.out.trans (hb5.mono hs4)
    have HM5 : Hid (MkFs 1 l.length l.length w1.heap.size w5 v2) := HM4.out.below hb5
    have hs5 : w1.heap.size ≤ w5.heap.size := HB15.out.size
    clear hb5
    go_wp2_with fail
    refine (HI.out w5).mono ?_
    rintro e w6 ⟨⟨v6, rfl, ho6⟩, hb6⟩
    have HB6 : Hid (Below w.heap.size w w6) := HB5.out.trans (hb6.mono (by omega))
    have HB16 : Hid (Below w1.heap.size w1 w6) := HB15.out.trans (hb6.mono hs5)
    have HM6 : Hid (MkFs 1 l.length l.length w1.heap.size w6 v2) := HM5.out.below hb6
    have HO6 : Hid (OwnF w5.heap.size w6 v6 l) := ho6
    have hs6 : w1.heap.size ≤ w6.heap.size := HB16.out.size
    clear hb6 ho6
    go_wp2_with fail
    refine (eqFrameS_same l _ _ v6 v1 w6 HO6.out (HO1.out.kept HB16.out)).mono ?_
    rintro e w7 ⟨rfl, hb7⟩
    have HB7 : Hid (Below w.heap.size w w7) := HB6.out.trans (hb7.mono (by omega))
    have HM7 : Hid (MkFs 1 l.length l.length w1.heap.size w7 v2) := HM6.out.below hb7
    clear hb7
    go_wp2_with fail
    refine (HH.out _ HM7.out).mono ?_
    rintro e w8 ⟨rfl, hb8⟩
    have HB8 : Hid (Below w.heap.size w w8) := HB7.out.trans (hb8.mono HB7.out.size)
    clear hb8
    go_wp2_with fail
    go_ret
    exact ⟨rfl, HB8.out⟩
set_option maxRecDepth 100000 in
theorem lifted (os : Os) (started : os.Started) (H : Type) (enc : TypeId × Value → H) :
    ReturnsInHanded {} Try.checked os 6 .any (Rows.fnExactFramesOfSpec.pre6 enc Try.prog Try.f6 Rows.fnExactFramesOfRow.domain false) (Rows.fnExactFramesOfSpec.post enc Try.prog Try.f6 false true false false) := by
  refine returnsInHanded_of_change (C := Try.checked) own started (by kernel_rfl) Try.func6
    (ChangeSpec.witness6 (enc := enc) (C := Try.checked) false ⟨#[], #[.string ByteArray.empty], []⟩ 8 (by kernel_rfl) (by kernel_rfl) (by kernel_rfl) (by kernel_rfl)) ?_
  intro W base args ds gs before hval0 hW hcnd _
  have hval : ∀ (j : Nat) t v, Try.f6.params[j]? = some t → args[j]? = some v → Value.okWide Try.prog W .any base t v := hval0
  have hW' := hW
  obtain ⟨p, q, hA0, hV, rfl, hfz, hnd⟩ := hW
  have hA : DataW.TrodAll enc Try.prog W 0 (fun _ => true) true Try.f6.params.toList args.toList ds p := hA0
  rw [Try.params6] at hA hval
  obtain ⟨v0, vs0, d0, ds0, p0, q0, hargs, rfl, rfl, h0, r0⟩ := trodAll_cons hA
  obtain ⟨rfl, rfl, rfl⟩ := trodAll_nil r0
  obtain rfl : args = #[v0] := by cases args; simp_all
  obtain ⟨rfl, rfl⟩ := trodVars_none hV
  obtain ⟨a0, rfl, rfl, rfl, w0⟩ := open_string Try.underlying9 (hval 0 9 v0 rfl rfl) h0
  clear hA0 hval0
  refine (walk a0 W w0).mono fun e W' ⟨he, bel⟩ => ?_
  subst he
  exact ⟨_, rfl, _, _, _, [], _, [], hW', trodAll_mk1 (shut_bool Try.underlying4 _), (trodAll_cons_mk (shut_string Try.underlying9 w0) trodAll_mk0), rfl, bel.frame _, fun h => by cases h⟩
theorem over : Rows.fnExactFramesOfRow.holds Try.pinned (OpenSpec.ofChange Rows.fnExactFramesOfSpec) :=
  OpenClaim.holds_of_wide 6 Try.f6 rfl rfl rfl rfl rfl rfl rfl ⟨rfl, rfl, rfl, rfl, rfl⟩ rfl rfl rfl rfl rfl (by kernel_rfl) Try.func6 (by kernel_rfl)
    (of_decide_eq_true (by kernel_rfl)) (by unfold Func.isWrapper; first | (rw [if_pos (by decide +kernel)]; kernel_rfl) | (rw [if_neg (by decide +kernel)]; exact ⟨rfl, rfl⟩))
    (fun os started H enc _ => lifted os started H enc)
theorem proved : Rows.FnExactFramesOfSaid := over
#print axioms proved
end Go.Proofs.Ytbepiebcpcjpcaa.fnExactFramesOf
