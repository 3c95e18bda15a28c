/- Whatever its arguments, laws.FnExactCommitOf returns true and leaves them, and the table that it reads, as they were; the table starts as the program's text lays it. -/
import Derived.Test.YtelbmcgpelkakaaGreatDoorFnExactCommitOfW
namespace Go.Proofs.YtelbmcgpelkakaaGreatDoor.fnExactCommitOf
open Go.ChangeShapes Go.WideShapes Go.ChangeAt Go.RowKit
open Go.ChangeMaps (open_string shut_string)
set_option linter.unusedVariables false
set_option maxRecDepth 100000 in
theorem lifted (os : Os) (started : os.Started) (H : Type) (enc : TypeId × Value → H) :
    ReturnsInHanded {} Tryz.checked os 4 .any (fun w args => (Rows.fnExactCommitOfSpec.pre enc Tryz.prog Tryz.f4 [] false w args ∧ laidMetH Tryz.prog laidM w) ∧ sizedMet enc Tryz.prog Tryz.f4 (OpenSpec.ofChange Rows.fnExactCommitOfSpec) false w args)
      (Rows.fnExactCommitOfSpec.post enc Tryz.prog Tryz.f4 false true false false) := by
  refine returnsInHanded_sh (C := Tryz.checked) (X := fun w _ => laidMetH Tryz.prog laidM w) (fun _ _ _ hh h => h.of_heap hh) Tryz.own started (by kernel_rfl) Tryz.func4
    (ChangeSpec.witness_shaped (enc := enc) (C := Tryz.checked) (os := os) (X := fun w _ => laidMetH Tryz.prog laidM w) false (World.laidAll Tryz.prog os laidM) #[.slice none 0 0] 8 (World.laidAll_os _ _ _) (World.shaped_of_ZipB (by kernel_rfl) (by kernel_rfl)) (by kernel_rfl) (by kernel_rfl) (by kernel_rfl) (by rw [MakeChecks.laidMetH_plain _ _ _ (by kernel_rfl)]; exact laidMet_laidAll _ (by kernel_rfl) (by kernel_rfl))) ?_
  intro W base args ds gs before hval0 hW hL hsh
  have hval : ∀ (j : Nat) t v, Tryz.f4.params[j]? = some t → args[j]? = some v → Value.okWide Tryz.prog W .any base t v := hval0
  have hW' := hW
  obtain ⟨p, q, hA0, hV0, rfl, hfz, hnd⟩ := hW
  have hA : DataW.TrodAll enc Tryz.prog W 0 (fun _ => true) true Tryz.f4.params.toList args.toList ds p := hA0
  have hV : DataW.TrodVars enc Tryz.prog W (fun _ => true) ["loop.example/g00774/impl.kindRows"] gs q := hV0
  rw [Tryz.params4] at hA hval
  obtain ⟨v0, vs0, d0, ds0, p0, q0, hargs, rfl, rfl, h0, r0⟩ := trodAll_cons hA
  obtain ⟨rfl, rfl, rfl⟩ := trodAll_nil r0
  obtain rfl : args = #[v0] := by cases args; simp_all
  obtain ⟨g, t, cs, fuel, d, p', rfl, hg, ht, hvar, hd, rfl⟩ := trodVars_one hV
  obtain rfl := Option.some.inj (Tryz.gKR.symm.trans hg)
  obtain rfl := Option.some.inj (Tryz.tKR.symm.trans ht)
  obtain rfl : cs = kc := Option.some.inj (hvar.symm.trans (kr_of_laid (laidM_kr hL)))
  obtain ⟨rfl, rfl⟩ := DataW.Trod.unique (v := .agg kc) ⟨fuel, hd⟩ ⟨4, reads_kr enc W _⟩
  have hkr : KR W := KR.of_laid (laidM_kr hL)
  have hev : EV W := EV.of_laid hL hsh
  obtain ⟨a0, len0, cap0, rfl⟩ := okWide_slice Tryz.underlying22 (hval 0 22 v0 rfl rfl)
  have k0 := h0
  have lt0 : ∀ x ∈ p0, x.block < W.heap.size := by obtain ⟨m, hm⟩ := k0; exact DataW.trod_lt m _ _ _ hm
  have w0 : ArgItems W a0 len0 cap0 := by
    obtain ⟨fuel, hf⟩ := h0
    exact open_items (by simpa [Value.cells] using hf)
  clear hA0 hV0 hval0
  refine (walk a0 len0 cap0 W w0 hev).mono fun e W' ⟨he, bel⟩ => ?_
  subst he
  have hvar' : W'.var? Tryz.prog "loop.example/g00774/impl.kindRows" = some kc := by
    have hb0 : W'.heap[0]? = W.heap[0]? := bel.block 0 hkr.1
    unfold World.var? at hvar ⊢
    rw [hg] at hvar ⊢
    simp only [Option.bind_some] at hvar ⊢
    rw [hb0]; exact hvar
  exact ⟨_, rfl, _, _, _, [], _, _, hW', trodAll_mk1 (shut_bool Tryz.underlying4 _), (trodAll_cons_mk (Below.trod Tryz.laidOut (by kernel_rfl) (of_decide_eq_true (by kernel_rfl)) k0 bel lt0) trodAll_mk0), ⟨0, 152, kc, 4, [], [], hg, ht, hvar', reads_kr enc W' _, rfl, rfl⟩, bel.frame _, fun h => by cases h⟩
end Go.Proofs.YtelbmcgpelkakaaGreatDoor.fnExactCommitOf
