/- Whatever its arguments, laws.FnLengths returns true and leaves them as they were; no condition. -/
import Derived.Test.YtmegoiggchghpabDrawC
import Derived.ProofKit
import Derived.OpenShut
import Derived.ShutString
import Derived.ChangeOld
namespace Go.Proofs.Ytmegoiggchghpab.fnLengths
open Go.ChangeShapes Go.WideShapes Go.ChangeAt Go.RowKit
open Go.ChangeMaps (open_string shut_string)
set_option linter.unusedVariables false
theorem own : ownKnob Try.prog.godebug = none := by kernel_rfl
theorem laidOut : laidOutB Try.prog = true := by kernel_rfl

set_option maxRecDepth 100000 in
set_option maxHeartbeats 2000000 in
theorem walk (a0 : Option Addr) (len0 cap0 : Nat) (z0 : List Int) (a1 : Option Addr) (len1 cap1 : Nat) (z1 : List Int) (w : World) (w0 : IsRow .u8 w a0 len0 cap0 z0) (w1 : IsRow .u8 w a1 len1 cap1 z1) :
    Calls Try.prog 3 #[.slice a0 len0 cap0, .slice a1 len1 cap1] w fun e w' => e = .returned (.bool true) ∧ Below w.heap.size w w' := by
  have hlm0 := w0.len
  have hlm1 := w1.len
  have HB0 : Hid _ := fun w => big_any a0 len0 cap0 w hlm0
  have HB1 : Hid _ := fun w => big_any a1 len1 cap1 w hlm1
  by_cases hbig0 : 1048576 < len0
  · rw [decide_eq_true hbig0] at HB0
    clear w0 w1 hlm0 hlm1 hbig0
    go_enter Try.func3, Try.ntmps3
    go_wp2_with (go_at_call 5; refine (HB0.out _).mono ?_; rintro e w1 ⟨rfl, rfl⟩)
    go_ret
    exact ⟨rfl, Below.refl _ _⟩
  · rw [decide_eq_false hbig0] at HB0
    by_cases hbig1 : 1048576 < len1
    · rw [decide_eq_true hbig1] at HB1
      clear w0 w1 hlm0 hlm1 hbig0 hbig1
      go_enter Try.func3, Try.ntmps3
      go_wp2_with fail
      refine (HB0.out _).mono ?_
      rintro e w1 ⟨rfl, rfl⟩
      go_wp2_with fail
      refine (HB1.out _).mono ?_
      rintro e w1 ⟨rfl, rfl⟩
      go_wp2
      go_ret
      exact ⟨rfl, Below.refl _ _⟩
    · rw [decide_eq_false hbig1] at HB1
      have c0 := w0.code
      have c1 := w1.code
      have HD : Hid _ := DrawPutVarint_any w.heap.size a0 len0 cap0 w (Nat.le_refl _) c0 (by omega)
      have HC1 : Hid (CodeAt w.heap.size a1 len1 w) := c1
      have hl1 : len1 ≤ 1048576 := by omega
      clear w0 w1 hlm0 hlm1 hbig0 hbig1 c0 c1
      go_enter Try.func3, Try.ntmps3
      go_wp2_with fail
      refine (HB0.out _).mono ?_
      rintro e wx ⟨rfl, hwx⟩
      subst hwx
      go_wp2_with fail
      refine (HB1.out _).mono ?_
      rintro e wx ⟨rfl, hwx⟩
      subst hwx
      go_wp2_with fail
      refine Calls.mono HD.out ?_
      rintro e w2 ⟨⟨n, hn, rfl⟩, hb2⟩
      go_wp2_with fail
      refine (DrawPutVarint_any wx.heap.size a1 len1 cap1 w2 hb2.size (HC1.out.below hb2) hl1).mono ?_
      rintro e w3 ⟨⟨m, hm, rfl⟩, hb3⟩
      replace hb2 := below_step' hb2 hb3
      clear hb3 HD HC1 HB0 HB1
      by_cases hnm : m < n
      · have L1 := putVar_mono m n (by omega)
        have L2 := putSize_mono m n (by omega)
        have L3 := putCompact_mono m n (by omega)
        have L4 := putVar_ten n hn
        have L5 := putSize_nine n
        have L6 := putCompact_nine n hn
        have HVa : Hid _ := fun w => implPutVarint_any m w hm
        have HVb : Hid _ := fun w => implPutVarint_any n w hn
        have HSb : Hid _ := fun w => specPutVarint_any n w hn
        have HZa : Hid _ := fun w => implPutSize_any m w hm
        have HZb : Hid _ := fun w => implPutSize_any n w hn
        have HCa : Hid _ := fun w => implPutCompact_any m w hm
        have HCb : Hid _ := fun w => implPutCompact_any n w hn
        generalize putVar m = va at *
        generalize putVar n = vb at *
        generalize putSize m = za at *
        generalize putSize n = zb at *
        generalize putCompact m = ca at *
        generalize putCompact n = cb at *
        have L7 : decide ((cb.length : Int) ≤ 9) = true := decide_eq_true (by omega)
        go_wp2_with (first
          | (go_at_call_of 7 (Value.int IntKind.u64 ((m : Nat) : Int)); refine (HVa.out _).mono ?_; rintro e w4 ⟨rfl, hb4⟩; replace hb2 := below_step' hb2 hb4; clear hb4)
          | (go_at_call_of 7 (Value.int IntKind.u64 ((n : Nat) : Int)); refine (HVb.out _).mono ?_; rintro e w4 ⟨rfl, hb4⟩; replace hb2 := below_step' hb2 hb4; clear hb4)
          | (go_at_call 10; refine (HSb.out _).mono ?_; rintro e w4 ⟨rfl, hb4⟩; replace hb2 := below_step' hb2 hb4; clear hb4)
          | (go_at_call_of 8 (Value.int IntKind.u64 ((m : Nat) : Int)); refine (HZa.out _).mono ?_; rintro e w4 ⟨rfl, hb4⟩; replace hb2 := below_step' hb2 hb4; clear hb4)
          | (go_at_call_of 8 (Value.int IntKind.u64 ((n : Nat) : Int)); refine (HZb.out _).mono ?_; rintro e w4 ⟨rfl, hb4⟩; replace hb2 := below_step' hb2 hb4; clear hb4)
          | (go_at_call_of 9 (Value.int IntKind.u64 ((m : Nat) : Int)); refine (HCa.out _).mono ?_; rintro e w4 ⟨rfl, hb4⟩; replace hb2 := below_step' hb2 hb4; clear hb4)
          | (go_at_call_of 9 (Value.int IntKind.u64 ((n : Nat) : Int)); refine (HCb.out _).mono ?_; rintro e w4 ⟨rfl, hb4⟩; replace hb2 := below_step' hb2 hb4; clear hb4))
        go_ret
        exact ⟨rfl, hb2⟩
      · have L1 := putVar_mono n m (by omega)
        have L2 := putSize_mono n m (by omega)
        have L3 := putCompact_mono n m (by omega)
        have L4 := putVar_ten m hm
        have L5 := putSize_nine m
        have L6 := putCompact_nine m hm
        have HVa : Hid _ := fun w => implPutVarint_any n w hn
        have HVb : Hid _ := fun w => implPutVarint_any m w hm
        have HSb : Hid _ := fun w => specPutVarint_any m w hm
        have HZa : Hid _ := fun w => implPutSize_any n w hn
        have HZb : Hid _ := fun w => implPutSize_any m w hm
        have HCa : Hid _ := fun w => implPutCompact_any n w hn
        have HCb : Hid _ := fun w => implPutCompact_any m w hm
        generalize putVar n = va at *
        generalize putVar m = vb at *
        generalize putSize n = za at *
        generalize putSize m = zb at *
        generalize putCompact n = ca at *
        generalize putCompact m = cb at *
        have L7 : decide ((cb.length : Int) ≤ 9) = true := decide_eq_true (by omega)
        go_wp2_with (first
          | (go_at_call_of 7 (Value.int IntKind.u64 ((n : Nat) : Int)); refine (HVa.out _).mono ?_; rintro e w4 ⟨rfl, hb4⟩; replace hb2 := below_step' hb2 hb4; clear hb4)
          | (go_at_call_of 7 (Value.int IntKind.u64 ((m : Nat) : Int)); refine (HVb.out _).mono ?_; rintro e w4 ⟨rfl, hb4⟩; replace hb2 := below_step' hb2 hb4; clear hb4)
          | (go_at_call 10; refine (HSb.out _).mono ?_; rintro e w4 ⟨rfl, hb4⟩; replace hb2 := below_step' hb2 hb4; clear hb4)
          | (go_at_call_of 8 (Value.int IntKind.u64 ((n : Nat) : Int)); refine (HZa.out _).mono ?_; rintro e w4 ⟨rfl, hb4⟩; replace hb2 := below_step' hb2 hb4; clear hb4)
          | (go_at_call_of 8 (Value.int IntKind.u64 ((m : Nat) : Int)); refine (HZb.out _).mono ?_; rintro e w4 ⟨rfl, hb4⟩; replace hb2 := below_step' hb2 hb4; clear hb4)
          | (go_at_call_of 9 (Value.int IntKind.u64 ((n : Nat) : Int)); refine (HCa.out _).mono ?_; rintro e w4 ⟨rfl, hb4⟩; replace hb2 := below_step' hb2 hb4; clear hb4)
          | (go_at_call_of 9 (Value.int IntKind.u64 ((m : Nat) : Int)); refine (HCb.out _).mono ?_; rintro e w4 ⟨rfl, hb4⟩; replace hb2 := below_step' hb2 hb4; clear hb4))
        go_ret
        exact ⟨rfl, hb2⟩
set_option maxRecDepth 100000 in
theorem lifted (os : Os) (started : os.Started) (H : Type) (enc : TypeId × Value → H) :
    ReturnsInHanded {} Try.checked os 3 .any (Rows.fnLengthsSpec.pre6 enc Try.prog Try.f3 Rows.fnLengthsRow.domain false) (Rows.fnLengthsSpec.post enc Try.prog Try.f3 false true false false) := by
  refine returnsInHanded_of_change (C := Try.checked) own started (by kernel_rfl) Try.func3
    (ChangeSpec.witness6 (enc := enc) (C := Try.checked) false ⟨#[], #[.slice none 0 0, .slice none 0 0], []⟩ 8 (by kernel_rfl) (by kernel_rfl) (by kernel_rfl) (by kernel_rfl)) ?_
  intro W base args ds gs before hval0 hW hcnd _
  have hval : ∀ (j : Nat) t v, Try.f3.params[j]? = some t → args[j]? = some v → Value.okWide Try.prog W .any base t v := hval0
  have hW' := hW
  obtain ⟨p, q, hA0, hV, rfl, hfz, hnd⟩ := hW
  have hA : DataW.TrodAll enc Try.prog W 0 (fun _ => true) true Try.f3.params.toList args.toList ds p := hA0
  rw [Try.params3] at hA hval
  obtain ⟨v0, vs0, d0, ds0, p0, q0, hargs, rfl, rfl, h0, r0⟩ := trodAll_cons hA
  obtain ⟨v1, vs1, d1, ds1, p1, q1, rfl, rfl, rfl, h1, r1⟩ := trodAll_cons r0
  obtain ⟨rfl, rfl, rfl⟩ := trodAll_nil r1
  obtain rfl : args = #[v0, v1] := by cases args; simp_all
  obtain ⟨rfl, rfl⟩ := trodVars_none hV
  obtain ⟨a0, len0, cap0, rfl⟩ := okWide_slice Try.underlying22 (hval 0 22 v0 rfl rfl)
  have k0 := h0
  have lt0 : ∀ x ∈ p0, x.block < W.heap.size := by obtain ⟨m, hm⟩ := k0; exact DataW.trod_lt m _ _ _ hm
  obtain ⟨z0, w0⟩ : ∃ zs, IsRow .u8 W a0 len0 cap0 zs := by
    obtain ⟨fuel, hf⟩ := h0
    rcases open_ints Try.underlying22 Try.underlying5 (by kernel_rfl) hf with ⟨hcs, _⟩ | ⟨x, l, c, zs, hcs, _, hl, hm, hz, _, hcell, hwz⟩
    · simp [Value.cells] at hcs
      obtain ⟨rfl, rfl, rfl⟩ := hcs
      exact ⟨[], .inl ⟨rfl, rfl, rfl, rfl⟩⟩
    · simp [Value.cells] at hcs
      obtain ⟨rfl, rfl, rfl⟩ := hcs
      exact ⟨zs, .inr ⟨_, rfl, hl, hm, by simpa using hz, hcell, hwz⟩⟩
  obtain ⟨a1, len1, cap1, rfl⟩ := okWide_slice Try.underlying22 (hval 1 22 v1 rfl rfl)
  have k1 := h1
  have lt1 : ∀ x ∈ p1, x.block < W.heap.size := by obtain ⟨m, hm⟩ := k1; exact DataW.trod_lt m _ _ _ hm
  obtain ⟨z1, w1⟩ : ∃ zs, IsRow .u8 W a1 len1 cap1 zs := by
    obtain ⟨fuel, hf⟩ := h1
    rcases open_ints Try.underlying22 Try.underlying5 (by kernel_rfl) hf with ⟨hcs, _⟩ | ⟨x, l, c, zs, hcs, _, hl, hm, hz, _, hcell, hwz⟩
    · simp [Value.cells] at hcs
      obtain ⟨rfl, rfl, rfl⟩ := hcs
      exact ⟨[], .inl ⟨rfl, rfl, rfl, rfl⟩⟩
    · simp [Value.cells] at hcs
      obtain ⟨rfl, rfl, rfl⟩ := hcs
      exact ⟨zs, .inr ⟨_, rfl, hl, hm, by simpa using hz, hcell, hwz⟩⟩
  clear hA0 hval0
  refine (walk a0 len0 cap0 z0 a1 len1 cap1 z1 W w0 w1).mono fun e W' ⟨he, bel⟩ => ?_
  subst he
  exact ⟨_, rfl, _, _, _, [], _, [], hW', trodAll_mk1 (shut_bool Try.underlying4 _), (trodAll_cons_mk (Below.trod laidOut (by kernel_rfl) (of_decide_eq_true (by kernel_rfl)) k0 bel lt0) (trodAll_cons_mk (Below.trod laidOut (by kernel_rfl) (of_decide_eq_true (by kernel_rfl)) k1 bel lt1) trodAll_mk0)), rfl, bel.frame _, fun h => by cases h⟩
theorem over : Rows.fnLengthsRow.holds Try.pinned (OpenSpec.ofChange Rows.fnLengthsSpec) :=
  OpenClaim.holds_of_wide 3 Try.f3 rfl rfl rfl rfl rfl rfl rfl ⟨rfl, rfl, rfl, rfl, rfl⟩ rfl rfl rfl rfl rfl (by kernel_rfl) Try.func3 (by kernel_rfl)
    (of_decide_eq_true (by kernel_rfl)) (by unfold Func.isWrapper; first | (rw [if_pos (by decide +kernel)]; kernel_rfl) | (rw [if_neg (by decide +kernel)]; exact ⟨rfl, rfl⟩))
    (fun os started H enc _ => lifted os started H enc)
theorem proved : Rows.FnLengthsSaid := over
#print axioms proved
end Go.Proofs.Ytmegoiggchghpab.fnLengths
