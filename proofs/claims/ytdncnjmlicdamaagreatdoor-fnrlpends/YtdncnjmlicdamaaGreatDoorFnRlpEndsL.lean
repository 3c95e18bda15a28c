/- Whatever its arguments, laws.FnRlpEnds returns true and leaves them, and the table that it reads, as they were; the table starts as the program's text lays it. -/
import Derived.Test.YtdncnjmlicdamaaGreatDoorFnRlpEndsW
namespace Go.Proofs.YtdncnjmlicdamaaGreatDoor.fnRlpEnds
open Go.ChangeShapes Go.WideShapes Go.ChangeAt Go.RowKit
open Go.ChangeMaps (open_string shut_string)
set_option linter.unusedVariables false
theorem door_met (os : Os) (args : Array Value) : laidMetH Tryz.prog laidD ((World.doorLaid Tryz.prog 400 os).forCall (fun _ _ => 0) ⟨#[], args, []⟩).memory :=
  laidMetH_of_parts3 (fuel := 8) (laidMet_of_run' 8 (by kernel_rfl) (by kernel_rfl)) (by kernel_rfl) (by kernel_rfl)
set_option maxRecDepth 100000 in
theorem lifted (os : Os) (started : os.Started) (H : Type) (enc : TypeId × Value → H) :
    ReturnsInHanded {} Tryz.checked os 5 .any (fun w args => (Rows.fnRlpEndsSpec.pre enc Tryz.prog Tryz.f5 [] false w args ∧ laidMetH Tryz.prog laidD w) ∧ sizedMet enc Tryz.prog Tryz.f5 (OpenSpec.ofChange Rows.fnRlpEndsSpec) false w args)
      (Rows.fnRlpEndsSpec.post enc Tryz.prog Tryz.f5 false true false false) := by
  refine returnsInHanded_of_change_and (C := Tryz.checked) (X := fun w _ => laidMetH Tryz.prog laidD w) (fun _ _ _ hh h => h.of_heap hh) Tryz.own started (by kernel_rfl) Tryz.func5
    (ChangeSpec.witness_shaped (enc := enc) (C := Tryz.checked) (os := os) (X := fun w _ => laidMetH Tryz.prog laidD w) false (World.doorLaid Tryz.prog 400 os) #[.slice none 0 0] 8 rfl (World.shaped_of_RefB (by kernel_rfl) (by kernel_rfl)) (by kernel_rfl) (by kernel_rfl) (by kernel_rfl) (door_met os _)) ?_
  intro W base args ds gs before hval0 hW _ _ hL _
  have hval : ∀ (j : Nat) t v, Tryz.f5.params[j]? = some t → args[j]? = some v → Value.okWide Tryz.prog W .any base t v := hval0
  have hW' := hW
  obtain ⟨p, q, hA0, hV0, rfl, hfz, hnd⟩ := hW
  have hA : DataW.TrodAll enc Tryz.prog W 0 (fun _ => true) true Tryz.f5.params.toList args.toList ds p := hA0
  have hV : DataW.TrodVars enc Tryz.prog W (fun _ => true) ["loop.example/g00774/impl.errType", "loop.example/g00774/impl.kindRows", "loop.example/g00774/impl.errForm"] gs q := hV0
  rw [Tryz.params5] at hA hval
  obtain ⟨v0, vs0, d0, ds0, p0, q0, hargs, rfl, rfl, h0, r0⟩ := trodAll_cons hA
  obtain ⟨rfl, rfl, rfl⟩ := trodAll_nil r0
  obtain rfl : args = #[v0] := by cases args; simp_all
  obtain ⟨g0, t0, cs0, f0, d0, p0, g, t, cs, fuel, d, p', g1, t1, cs1, f1, d1, p1, rfl, hg0, ht0, hvar0, hd0, hg, ht, hvar, hd, hg1, ht1, hvar1, hd1, rfl⟩ := trodVars_three hV
  obtain rfl := Option.some.inj (Tryz.gEF.symm.trans hg1)
  obtain rfl := Option.some.inj (Tryz.tEF.symm.trans ht1)
  obtain ⟨x1, rfl, ix1, rfl, rfl, hc1⟩ := token_of hg1 Tryz.underlying39 hvar1 hd1
  obtain rfl := Option.some.inj (Tryz.gET.symm.trans hg0)
  obtain rfl := Option.some.inj (Tryz.tET.symm.trans ht0)
  obtain ⟨x0, rfl, ix0, rfl, rfl, hc0⟩ := token_of hg0 Tryz.underlying39 hvar0 hd0
  obtain rfl := Option.some.inj (Tryz.gKR.symm.trans hg)
  obtain rfl := Option.some.inj (Tryz.tKR.symm.trans ht)
  obtain rfl : cs = kc := Option.some.inj (hvar.symm.trans (kr_of_laid (laidD_kr hL)))
  obtain ⟨rfl, rfl⟩ := DataW.Trod.unique (v := .agg kc) ⟨fuel, hd⟩ ⟨4, reads_kr enc W _⟩
  have hkr : KR W := KR.of_laid (laidD_kr hL)
  have hET : ET W := ET.of_laidD hL
  have hEF : EF W := EF.of_laidD hL
  obtain ⟨a0, len0, cap0, rfl⟩ := okWide_slice Tryz.underlying22 (hval 0 22 v0 rfl rfl)
  have k0 := h0
  have lt0 : ∀ x ∈ p0, x.block < W.heap.size := by obtain ⟨m, hm⟩ := k0; exact DataW.trod_lt m _ _ _ hm
  obtain ⟨z0, w0⟩ : ∃ zs, IsRow .u8 W a0 len0 cap0 zs := by
    obtain ⟨fuel, hf⟩ := h0
    rcases open_ints Tryz.underlying22 Tryz.underlying5 (by kernel_rfl) hf with ⟨hcs, _⟩ | ⟨x, l, c, zs, hcs, _, hl, hm, hz, _, hcell, hwz⟩
    · simp [Value.cells] at hcs
      obtain ⟨rfl, rfl, rfl⟩ := hcs
      exact ⟨[], .inl ⟨rfl, rfl, rfl, rfl⟩⟩
    · simp [Value.cells] at hcs
      obtain ⟨rfl, rfl, rfl⟩ := hcs
      exact ⟨zs, .inr ⟨_, rfl, hl, hm, by simpa using hz, hcell, hwz⟩⟩
  clear hA0 hV0 hval0
  refine (walk a0 len0 cap0 z0 W w0 hkr hET hEF).mono fun e W' ⟨he, bel⟩ => ?_
  subst he
  have hvar' : W'.var? Tryz.prog "loop.example/g00774/impl.kindRows" = some kc := by
    have hb0 : W'.heap[2]? = W.heap[2]? := bel.block 2 hkr.1
    unfold World.var? at hvar ⊢
    rw [hg] at hvar ⊢
    simp only [Option.bind_some] at hvar ⊢
    rw [hb0]; exact hvar
  have hvar0' : W'.var? Tryz.prog "loop.example/g00774/impl.errType" = some #[x0] := by
    have hb0 : W'.heap[0]? = W.heap[0]? := bel.block 0 hET.1
    unfold World.var? at hvar0 ⊢
    rw [hg0] at hvar0 ⊢
    simp only [Option.bind_some] at hvar0 ⊢
    rw [hb0]; exact hvar0
  have hvar1' : W'.var? Tryz.prog "loop.example/g00774/impl.errForm" = some #[x1] := by
    have hb0 : W'.heap[1]? = W.heap[1]? := bel.block 1 (let ⟨_, _, h⟩ := hEF; h.1)
    unfold World.var? at hvar1 ⊢
    rw [hg1] at hvar1 ⊢
    simp only [Option.bind_some] at hvar1 ⊢
    rw [hb0]; exact hvar1
  exact ⟨_, rfl, _, _, _, [], _, _, hW', trodAll_mk1 (shut_bool Tryz.underlying4 _), (trodAll_cons_mk (Below.trod Tryz.laidOut (by kernel_rfl) (of_decide_eq_true (by kernel_rfl)) k0 bel lt0) trodAll_mk0), ⟨0, 39, #[x0], 1, [], _, hg0, ht0, hvar0', trod_held Tryz.underlying39 ix0 0, ⟨2, 139, kc, 4, [], _, hg, ht, hvar', reads_kr enc W' _, ⟨1, 39, #[x1], 1, [], [], hg1, ht1, hvar1', trod_held Tryz.underlying39 ix1 0, rfl, rfl⟩, rfl⟩, rfl⟩, bel.frame _, fun h => by cases h⟩
end Go.Proofs.YtdncnjmlicdamaaGreatDoor.fnRlpEnds
