/- Whatever its arguments, laws.FnVarintPart returns true and leaves them as they were; no condition. -/
import Derived.Test.YtmegoiggchghpabDrawB
import Derived.ProofKit
import Derived.OpenShut
import Derived.ShutString
import Derived.ChangeOld
namespace Go.Proofs.Ytmegoiggchghpab.fnVarintPart
open Go.ChangeShapes Go.WideShapes Go.ChangeAt Go.RowKit
open Go.ChangeMaps (open_string shut_string)
set_option linter.unusedVariables false
theorem own : ownKnob Try.prog.godebug = none := by kernel_rfl
theorem laidOut : laidOutB Try.prog = true := by kernel_rfl

set_option maxRecDepth 100000 in
set_option maxHeartbeats 1000000 in
theorem walk (a0 : Option Addr) (len0 cap0 : Nat) (z0 : List Int) (w : World) (w0 : IsRow .u8 w a0 len0 cap0 z0) :
    Calls Try.prog 4 #[.slice a0 len0 cap0] w fun e w' => e = .returned (.bool true) ∧ Below w.heap.size w w' := by
  have hlm := w0.len
  by_cases hbig : 1048576 < len0
  · have hd : decide (1048576 < len0) = true := decide_eq_true hbig
    have HB : Hid _ := fun w => big_any a0 len0 cap0 w hlm
    rw [hd] at HB
    clear w0 hlm hbig hd
    go_enter Try.func4, Try.ntmps4
    go_wp2_with (go_at_call 5; refine (HB.out _).mono ?_; rintro e w1 ⟨rfl, rfl⟩)
    go_ret
    exact ⟨rfl, Below.refl _ _⟩
  · have hd : decide (1048576 < len0) = false := decide_eq_false hbig
    have HB : Hid _ := fun w => big_any a0 len0 cap0 w hlm
    rw [hd] at HB
    have HD : Hid _ := DrawPutVarint_any w.heap.size a0 len0 cap0 w (Nat.le_refl _) w0.code (by omega)
    clear w0 hlm hbig hd
    go_enter Try.func4, Try.ntmps4
    go_wp2_with (first | (go_at_call 5; refine (HB.out _).mono ?_; rintro e w1 ⟨rfl, rfl⟩) | fail)
    refine Calls.mono HD.out ?_
    rintro e w2 ⟨⟨n, hn, rfl⟩, hb2⟩
    have HS : Hid _ := fun w => specPutVarint_any n w hn
    have HI : Hid _ := fun w => implPutVarint_any n w hn
    by_cases h128 : n < 128
    · have el : (putVar n).length = 1 := by rw [putVar_small n h128]; rfl
      have hni : (n : Int) < 128 := by omega
      generalize putVar n = t at *
      go_wp2_with (first | (go_at_call 7; refine (HI.out _).mono ?_; rintro e w3 ⟨rfl, hb3⟩; replace hb2 := below_step' hb2 hb3; clear hb3) | (go_at_call 10; refine (HS.out _).mono ?_; rintro e w3 ⟨rfl, hb3⟩; replace hb2 := below_step' hb2 hb3; clear hb3))
      go_ret
      exact ⟨rfl, hb2⟩
    · have ep := putVar_big n hn h128
      have I2 := fun w => implPutVarint_any (n / 128) w (by omega)
      rw [show ((n / 128 : Nat) : Int) = (n : Int) / 128 from by omega] at I2
      have HI2 : Hid _ := I2
      clear I2
      have ev := vb_toNat n
      have hni : (128 : Int) ≤ (n : Int) := by omega
      rw [ep] at HS HI
      obtain ⟨S, hS⟩ : ∃ S : ByteArray, S = ⟨(vb n :: putVar (n / 128)).toArray⟩ := ⟨_, rfl⟩
      have hSz : 0 < S.size := by rw [hS]; simp [ByteArray.size]
      have hS1 : (S.extract 1 S.size).toList = putVar (n / 128) := by
        rw [ByteArray.toList_eq, Lib.extract_data, hS]; simp [ByteArray.size]
      have hS0 : (S[0]'hSz).toNat = n % 128 + 128 := by
        have : S[0]'hSz = vb n := by subst hS; rfl
        rw [this]; exact ev
      have hSi : (1 : Int) ≤ (S.size : Int) := by omega
      have hSm : (S.size : Int) ≤ 1000 := by
        have hlen := varF_le 10 (n / 128)
        rw [hS]; simp [ByteArray.size]; unfold putVar; omega
      rw [← hS] at HS HI
      have hcmp : (IntKind.u64.wrap (((S[0]'hSz).toNat : Nat) : Int) == IntKind.u64.wrap ((n : Int).tmod 128 + 128)) = true := by
        rw [beq_iff_eq, hS0, Int.tmod_eq_emod_of_nonneg (by omega), IntKind.wrap_u64, IntKind.wrap_u64]
        omega
      clear hS ep ev hS0
      generalize putVar (n / 128) = t at *
      go_wp2_with fail
      refine (HI.out _).mono ?_
      rintro e w3 ⟨rfl, hb3⟩
      replace hb2 := below_step' hb2 hb3
      clear hb3
      go_wp2_with (go_at_call 10; refine (HS.out _).mono ?_; rintro e w3 ⟨rfl, hb3⟩; replace hb2 := below_step' hb2 hb3; clear hb3)
      go_region_with (go_at_call 7; refine (HI2.out _).mono ?_; rintro e w3 ⟨rfl, hb3⟩; replace hb2 := below_step' hb2.drew hb3; clear hb3)
      all_goals
        go_wp2
        go_ret
        exact ⟨rfl, hb2⟩
set_option maxRecDepth 100000 in
theorem lifted (os : Os) (started : os.Started) (H : Type) (enc : TypeId × Value → H) :
    ReturnsInHanded {} Try.checked os 4 .any (Rows.fnVarintPartSpec.pre6 enc Try.prog Try.f4 Rows.fnVarintPartRow.domain false) (Rows.fnVarintPartSpec.post enc Try.prog Try.f4 false true false false) := by
  refine returnsInHanded_of_change (C := Try.checked) own started (by kernel_rfl) Try.func4
    (ChangeSpec.witness6 (enc := enc) (C := Try.checked) false ⟨#[], #[.slice none 0 0], []⟩ 8 (by kernel_rfl) (by kernel_rfl) (by kernel_rfl) (by kernel_rfl)) ?_
  intro W base args ds gs before hval0 hW hcnd _
  have hval : ∀ (j : Nat) t v, Try.f4.params[j]? = some t → args[j]? = some v → Value.okWide Try.prog W .any base t v := hval0
  have hW' := hW
  obtain ⟨p, q, hA0, hV, rfl, hfz, hnd⟩ := hW
  have hA : DataW.TrodAll enc Try.prog W 0 (fun _ => true) true Try.f4.params.toList args.toList ds p := hA0
  rw [Try.params4] at hA hval
  obtain ⟨v0, vs0, d0, ds0, p0, q0, hargs, rfl, rfl, h0, r0⟩ := trodAll_cons hA
  obtain ⟨rfl, rfl, rfl⟩ := trodAll_nil r0
  obtain rfl : args = #[v0] := by cases args; simp_all
  obtain ⟨rfl, rfl⟩ := trodVars_none hV
  obtain ⟨a0, len0, cap0, rfl⟩ := okWide_slice Try.underlying22 (hval 0 22 v0 rfl rfl)
  have k0 := h0
  have lt0 : ∀ x ∈ p0, x.block < W.heap.size := by obtain ⟨m, hm⟩ := k0; exact DataW.trod_lt m _ _ _ hm
  obtain ⟨z0, w0⟩ : ∃ zs, IsRow .u8 W a0 len0 cap0 zs := by
    obtain ⟨fuel, hf⟩ := h0
    rcases open_ints Try.underlying22 Try.underlying5 (by kernel_rfl) hf with ⟨hcs, _⟩ | ⟨x, l, c, zs, hcs, _, hl, hm, hz, _, hcell, hwz⟩
    · simp [Value.cells] at hcs
      obtain ⟨rfl, rfl, rfl⟩ := hcs
      exact ⟨[], .inl ⟨rfl, rfl, rfl, rfl⟩⟩
    · simp [Value.cells] at hcs
      obtain ⟨rfl, rfl, rfl⟩ := hcs
      exact ⟨zs, .inr ⟨_, rfl, hl, hm, by simpa using hz, hcell, hwz⟩⟩
  clear hA0 hval0
  refine (walk a0 len0 cap0 z0 W w0).mono fun e W' ⟨he, bel⟩ => ?_
  subst he
  exact ⟨_, rfl, _, _, _, [], _, [], hW', trodAll_mk1 (shut_bool Try.underlying4 _), (trodAll_cons_mk (Below.trod laidOut (by kernel_rfl) (of_decide_eq_true (by kernel_rfl)) k0 bel lt0) trodAll_mk0), rfl, bel.frame _, fun h => by cases h⟩
theorem over : Rows.fnVarintPartRow.holds Try.pinned (OpenSpec.ofChange Rows.fnVarintPartSpec) :=
  OpenClaim.holds_of_wide 4 Try.f4 rfl rfl rfl rfl rfl rfl rfl ⟨rfl, rfl, rfl, rfl, rfl⟩ rfl rfl rfl rfl rfl (by kernel_rfl) Try.func4 (by kernel_rfl)
    (of_decide_eq_true (by kernel_rfl)) (by unfold Func.isWrapper; first | (rw [if_pos (by decide +kernel)]; kernel_rfl) | (rw [if_neg (by decide +kernel)]; exact ⟨rfl, rfl⟩))
    (fun os started H enc _ => lifted os started H enc)
theorem proved : Rows.FnVarintPartSaid := over
#print axioms proved
end Go.Proofs.Ytmegoiggchghpab.fnVarintPart
