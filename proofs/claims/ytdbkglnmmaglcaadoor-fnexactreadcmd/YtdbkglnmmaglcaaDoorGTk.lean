/- The table of names, off what its text lays. -/
import Derived.Test.YtdbkglnmmaglcaaDoorGTa
import Derived.ProofKit
import Derived.OpenShut
import Derived.ShutString
import Derived.ChangeOld
import Derived.LaidMore
import Derived.LaidOnce
import Derived.Stop.Joined
import Derived.Stop.LaidErr
namespace Go.Proofs.YtdbkglnmmaglcaaDoor
open Go.ChangeShapes Go.WideShapes Go.ChangeAt Go.RowKit
open Go.ChangeMaps (open_string shut_string)
set_option linter.unusedVariables false
theorem Tryd.own : ownKnob Tryd.prog.godebug = none := by kernel_rfl
theorem Tryd.laidOut : laidOutB Tryd.prog = true := by kernel_rfl
theorem Tryd.tKR : (Tryd.prog.globals[0]?).map (·.type) = some 45 := by kernel_rfl
abbrev laidKR : List (String × DataW Unit) := [("loop.example/g00774/impl.formatNames", Rows.laid_loop_example_g00774_impl_formatNames)]
theorem laid_rows {H : Type} : (Rows.laid_loop_example_g00774_impl_formatNames : DataW H) = .agg ((List.range 5).map fun j => .lit (.string (fmtS j).data.toList)) := rfl
theorem kc_rows : ∀ j, j < 5 → kc.toList[j]? = some (.string (fmtS j))
  | 0, _ => rfl
  | 1, _ => rfl
  | 2, _ => rfl
  | 3, _ => rfl
  | 4, _ => rfl
theorem str_inj {a b : ByteArray} (h : a.data.toList = b.data.toList) : a = b := by
  obtain ⟨⟨l⟩⟩ := a
  obtain ⟨⟨l'⟩⟩ := b
  simp at h
  subst h
  rfl
theorem drop_one {α : Type} {cs : List α} {i : Nat} {c : α} (h : (cs.drop i).take 1 = [c]) : cs[i]? = some c := by
  have := congrArg (fun l : List α => l[0]?) h
  simpa using this
set_option maxRecDepth 100000 in
theorem kr_of_laid {W : World} (h : laidMetH Tryd.prog laidKR W) : W.var? Tryd.prog "loop.example/g00774/impl.formatNames" = some kc := by
  rw [MakeChecks.laidMetH_plain _ _ _ (by kernel_rfl)] at h
  obtain ⟨ps, ⟨g, t, cs, fuel, p, q, hg, ht, hv, hd, _, _⟩, _, _⟩ := h
  obtain rfl := Option.some.inj (Tryd.gKR.symm.trans hg)
  obtain rfl := Option.some.inj (Tryd.tKR.symm.trans ht)
  have c73 : Tryd.prog.cellsOf 45 = 5 := by kernel_rfl
  have c72 : Tryd.prog.cellsOf 9 = 1 := by kernel_rfl
  obtain ⟨xs, m, _, ex, hlen, hl, hel⟩ := DataW.trod_array Tryd.underlying45 hd
  rw [c73] at hlen
  rw [laid_rows] at ex
  have e3 := (DataW.agg.inj (Prod.mk.inj ex).1)
  have : cs.toList = kc.toList := by
    apply List.ext_getElem?
    intro i
    by_cases hi : i < 5
    · rw [kc_rows i hi]
      have h1 := hel i hi
      rw [c72, Nat.mul_one] at h1
      have hx : xs[i]? = some xs[i] := List.getElem?_eq_getElem (by omega)
      rw [hx] at h1
      have h2 : xs[i].1 = .lit (.string (fmtS i).data.toList) := by
        have h3 := congrArg (fun l : List (DataW Unit) => l[i]?) e3
        simp [hx, hi] at h3
        exact h3.symm
      obtain ⟨s1, q1, r1, _⟩ := DataW.trod_string Tryd.underlying9 h1
      rw [r1] at h2
      simp only [DataW.lit.injEq, Lit.string.injEq] at h2
      rw [drop_one q1, str_inj h2]
    · rw [List.getElem?_eq_none (by omega), List.getElem?_eq_none (by show 5 ≤ i; omega)]
  rw [hv]
  congr 1
  exact Array.ext' this
theorem KR.of_laid {W : World} (h : laidMetH Tryd.prog laidKR W) : KR W := by
  have hv := kr_of_laid h
  refine ⟨?_, hv⟩
  unfold World.var? at hv
  rw [Tryd.gKR] at hv
  simp only [Option.bind_some] at hv
  split at hv
  · rename_i cs t fr heq
    rcases Nat.lt_or_ge 0 W.heap.size with h' | h'
    · exact h'
    · simp [Array.getElem?_eq_none h'] at heq
  · cases hv
theorem reads_kr {H : Type} (enc : TypeId × Value → H) (W : World) (sp : Nat → Bool) : DataW.trod enc Tryd.prog W 0 sp true 4 45 kc.toList = some (Rows.laid_loop_example_g00774_impl_formatNames, []) := by kernel_rfl
end Go.Proofs.YtdbkglnmmaglcaaDoor
