/- What the program's text lays into the variables of errors, read. -/
import Derived.Test.YtocealohiflheaaDoorS7q
import Derived.Test.YtocealohiflheaaDoorS2k
import Derived.Test.YtocealohiflheaaDoorS3l
namespace Go.Proofs.YtocealohiflheaaDoor
open Go.RowKit Go.Sort Go.ChangeShapes Go.WideShapes
set_option linter.unusedVariables false
theorem laidMet_head {P : Program} {x : String × DataW Unit} {r : List (String × DataW Unit)} {w : World} (h : laidMet P (x :: r) w) : laidMet P [x] w := by
  obtain ⟨ps, hv, hnd, hrows⟩ := h
  obtain ⟨n, d⟩ := x
  obtain ⟨g, t, cs, fuel, p, q, a1, a2, a3, a4, hq, rfl⟩ := hv
  exact ⟨MemPlace.row ⟨g, 0, none⟩ cs.size ++ p ++ [], ⟨g, t, cs, fuel, p, [], a1, a2, a3, a4, rfl, rfl⟩, by simpa using List.Nodup.sublist (List.sublist_append_left _ _) hnd, fun b off hm => hrows b off (by simp at hm ⊢; rcases hm with hm | hm <;> simp [hm])⟩
theorem Tryd.starE : "*" ++ "errors.errorString" = "*errors.errorString" := by decide
theorem Tryd.rowE (u : TypeId) (h : Tryd.prog.typeName? 3 u = some "*errors.errorString") : u = 138 :=
  typeName_ptr_named (nm := "errors.errorString") (by rw [Tryd.starE]; kernel_rfl) (by kernel_rfl) (by decide) u (by rw [Tryd.starE]; exact h)
theorem Tryd.cellsES : Tryd.prog.cellsOf 173 = 1 := by kernel_rfl
theorem Tryd.cellsSt : Tryd.prog.cellsOf 9 = 1 := by kernel_rfl
theorem Tryd.gET : Tryd.prog.globalNamed "loop.example/g00774/impl.errType" = some 0 := by kernel_rfl
theorem Tryd.tET : (Tryd.prog.globals[0]?).map (·.type) = some 60 := by kernel_rfl
abbrev laidE : List (String × DataW Unit) := [("loop.example/g00774/impl.kindRows", Rows.laid_loop_example_g00774_impl_kindRows), ("loop.example/g00774/impl.errType", Rows.laid_loop_example_g00774_impl_errType)]
theorem laidE_kr {W : World} (h : laidMetH Tryd.prog laidE W) : laidMetH Tryd.prog laidKR W := by
  rw [MakeChecks.laidMetH_plain _ _ _ (by kernel_rfl)] at h ⊢
  exact laidMet_head h
theorem laidE_et {W : World} (h : laidMetH Tryd.prog laidE W) : ∃ T z, W.var? Tryd.prog "loop.example/g00774/impl.errType" = some #[.iface T z] := by
  rw [MakeChecks.laidMetH_plain _ _ _ (by kernel_rfl)] at h
  obtain ⟨a, s, h1, _⟩ := laid_sentinel h.tail Tryd.gET Tryd.tET Tryd.underlying60 Tryd.rowE Tryd.underlying138 Tryd.underlying173 rfl rfl Tryd.underlying9 Tryd.cellsES Tryd.cellsSt
  exact ⟨_, _, h1⟩
theorem ET.of_laid {W : World} (h : laidMetH Tryd.prog laidE W) : ET W := by
  obtain ⟨T, z, hv⟩ := laidE_et h
  have hc : W.cell? ⟨0, 0, none⟩ = some (.iface T z) := by simpa using World.var?_cell Tryd.gET hv 0
  refine ⟨?_, T, z, hc⟩
  rcases Nat.lt_or_ge 0 W.heap.size with h' | h'
  · exact h'
  · simp [World.cell?, Array.getElem?_eq_none h'] at hc
end Go.Proofs.YtocealohiflheaaDoor
