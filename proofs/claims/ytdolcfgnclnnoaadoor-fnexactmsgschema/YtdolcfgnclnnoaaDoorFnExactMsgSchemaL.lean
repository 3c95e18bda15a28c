/- Whatever its arguments, laws.FnExactMsgSchema returns true and leaves them, and the table that it reads, as they were; the table starts as the program's text lays it. -/
import Derived.Test.YtdolcfgnclnnoaaDoorFnExactMsgSchemaW
namespace Go.Proofs.YtdolcfgnclnnoaaDoor.fnExactMsgSchema
open Go.ChangeShapes Go.WideShapes Go.ChangeAt Go.RowKit
open Go.ChangeMaps (open_string shut_string)
set_option linter.unusedVariables false
set_option maxRecDepth 100000 in
theorem lifted (os : Os) (started : os.Started) (H : Type) (enc : TypeId × Value → H) :
    ReturnsInHanded {} Tryd.checked os 4 .any (fun w args => (Rows.fnExactMsgSchemaSpec.pre enc Tryd.prog Tryd.f4 [] false w args ∧ laidMetH Tryd.prog laidM w) ∧ sizedMet enc Tryd.prog Tryd.f4 (OpenSpec.ofChange Rows.fnExactMsgSchemaSpec) false w args)
      (Rows.fnExactMsgSchemaSpec.post enc Tryd.prog Tryd.f4 false true false false) := by
  refine returnsInHanded_sh (C := Tryd.checked) (X := fun w _ => laidMetH Tryd.prog laidM w) (fun _ _ _ hh h => h.of_heap hh) Tryd.own started (by kernel_rfl) Tryd.func4
    (ChangeSpec.witness_shaped (enc := enc) (C := Tryd.checked) (os := os) (X := fun w _ => laidMetH Tryd.prog laidM w) false (World.laidAll Tryd.prog os laidM) #[.int .i64 0] 8 (World.laidAll_os _ _ _) (World.shaped_of_ZipB (by kernel_rfl) (by kernel_rfl)) (by kernel_rfl) (by kernel_rfl) (by kernel_rfl) (by rw [MakeChecks.laidMetH_plain _ _ _ (by kernel_rfl)]; exact laidMet_laidAll _ (by kernel_rfl) (by kernel_rfl))) ?_
  intro W base args ds gs before hval0 hW hL hsh
  have hval : ∀ (j : Nat) t v, Tryd.f4.params[j]? = some t → args[j]? = some v → Value.okWide Tryd.prog W .any base t v := hval0
  have hW' := hW
  obtain ⟨p, q, hA0, hV0, rfl, hfz, hnd⟩ := hW
  have hA : DataW.TrodAll enc Tryd.prog W 0 (fun _ => true) true Tryd.f4.params.toList args.toList ds p := hA0
  have hV : DataW.TrodVars enc Tryd.prog W (fun _ => true) ["loop.example/g00774/impl.kindRows"] gs q := hV0
  rw [Tryd.params4] at hA hval
  obtain ⟨v0, vs0, d0, ds0, p0, q0, hargs, rfl, rfl, h0, r0⟩ := trodAll_cons hA
  obtain ⟨rfl, rfl, rfl⟩ := trodAll_nil r0
  obtain rfl : args = #[v0] := by cases args; simp_all
  obtain ⟨g, t, cs, fuel, d, p', rfl, hg, ht, hvar, hd, rfl⟩ := trodVars_one hV
  obtain rfl := Option.some.inj (Tryd.gKR.symm.trans hg)
  obtain rfl := Option.some.inj (Tryd.tKR.symm.trans ht)
  obtain rfl : cs = kc := Option.some.inj (hvar.symm.trans (kr_of_laid (laidM_kr hL)))
  obtain ⟨rfl, rfl⟩ := DataW.Trod.unique (v := .agg kc) ⟨fuel, hd⟩ ⟨4, reads_kr enc W _⟩
  have hkr : KR W := KR.of_laid (laidM_kr hL)
  have hev : EV W := EV.of_laid hL hsh
  obtain ⟨a0, rfl, rfl, rfl, w0⟩ := open_int Tryd.underlying2 (hval 0 2 v0 rfl rfl) h0
  clear hA0 hV0 hval0
  refine (walk a0 W w0 hev).mono fun e W' ⟨he, bel⟩ => ?_
  subst he
  have hvar' : W'.var? Tryd.prog "loop.example/g00774/impl.kindRows" = some kc := by
    have hb0 : W'.heap[0]? = W.heap[0]? := bel.block 0 hkr.1
    unfold World.var? at hvar ⊢
    rw [hg] at hvar ⊢
    simp only [Option.bind_some] at hvar ⊢
    rw [hb0]; exact hvar
  exact ⟨_, rfl, _, _, _, [], _, _, hW', trodAll_mk1 (shut_bool Tryd.underlying4 _), (trodAll_cons_mk (shut_int Tryd.underlying2 w0) trodAll_mk0), ⟨0, 53, kc, 4, [], [], hg, ht, hvar', reads_kr enc W' _, rfl, rfl⟩, bel.frame _, fun h => by cases h⟩
end Go.Proofs.YtdolcfgnclnnoaaDoor.fnExactMsgSchema
