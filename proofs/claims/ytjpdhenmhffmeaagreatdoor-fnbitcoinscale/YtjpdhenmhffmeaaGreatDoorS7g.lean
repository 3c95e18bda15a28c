/- What the program's text lays into the variables of errors, read. -/
import Derived.Test.YtjpdhenmhffmeaaGreatDoorS7q
import Derived.Test.YtjpdhenmhffmeaaGreatDoorS2k
import Derived.Test.YtjpdhenmhffmeaaGreatDoorS3l
namespace Go.Proofs.YtjpdhenmhffmeaaGreatDoor
open Go.RowKit Go.Sort Go.ChangeShapes Go.WideShapes
set_option linter.unusedVariables false
theorem laidMet_head {P : Program} {x : String × DataW Unit} {r : List (String × DataW Unit)} {w : World} (h : laidMet P (x :: r) w) : laidMet P [x] w := by
  obtain ⟨ps, hv, hnd, hrows⟩ := h
  obtain ⟨n, d⟩ := x
  obtain ⟨g, t, cs, fuel, p, q, a1, a2, a3, a4, hq, rfl⟩ := hv
  exact ⟨MemPlace.row ⟨g, 0, none⟩ cs.size ++ p ++ [], ⟨g, t, cs, fuel, p, [], a1, a2, a3, a4, rfl, rfl⟩, by simpa using List.Nodup.sublist (List.sublist_append_left _ _) hnd, fun b off hm => hrows b off (by simp at hm ⊢; rcases hm with hm | hm <;> simp [hm])⟩
theorem Tryz.starE : "*" ++ "errors.errorString" = "*errors.errorString" := by decide
theorem Tryz.rowE (u : TypeId) (h : Tryz.prog.typeName? 3 u = some "*errors.errorString") : u = 155 :=
  typeName_ptr_named (nm := "errors.errorString") (by rw [Tryz.starE]; kernel_rfl) (by kernel_rfl) (by decide) u (by rw [Tryz.starE]; exact h)
theorem Tryz.cellsES : Tryz.prog.cellsOf 186 = 1 := by kernel_rfl
theorem Tryz.cellsSt : Tryz.prog.cellsOf 9 = 1 := by kernel_rfl
theorem Tryz.gET : Tryz.prog.globalNamed "loop.example/g00774/impl.errType" = some 0 := by kernel_rfl
theorem Tryz.tET : (Tryz.prog.globals[0]?).map (·.type) = some 40 := by kernel_rfl
abbrev laidE : List (String × DataW Unit) := [("loop.example/g00774/impl.kindRows", Rows.laid_loop_example_g00774_impl_kindRows), ("loop.example/g00774/impl.errType", Rows.laid_loop_example_g00774_impl_errType)]
theorem laidE_kr {W : World} (h : laidMetH Tryz.prog laidE W) : laidMetH Tryz.prog laidKR W := by
  rw [MakeChecks.laidMetH_plain _ _ _ (by kernel_rfl)] at h ⊢
  exact laidMet_head h
theorem laidE_et {W : World} (h : laidMetH Tryz.prog laidE W) : ∃ T z, W.var? Tryz.prog "loop.example/g00774/impl.errType" = some #[.iface T z] := by
  rw [MakeChecks.laidMetH_plain _ _ _ (by kernel_rfl)] at h
  obtain ⟨a, s, h1, _⟩ := laid_sentinel h.tail Tryz.gET Tryz.tET Tryz.underlying40 Tryz.rowE Tryz.underlying155 Tryz.underlying186 rfl rfl Tryz.underlying9 Tryz.cellsES Tryz.cellsSt
  exact ⟨_, _, h1⟩
theorem ET.of_laid {W : World} (h : laidMetH Tryz.prog laidE W) : ET W := by
  obtain ⟨T, z, hv⟩ := laidE_et h
  have hc : W.cell? ⟨0, 0, none⟩ = some (.iface T z) := by simpa using World.var?_cell Tryz.gET hv 0
  refine ⟨?_, T, z, hc⟩
  rcases Nat.lt_or_ge 0 W.heap.size with h' | h'
  · exact h'
  · simp [World.cell?, Array.getElem?_eq_none h'] at hc
end Go.Proofs.YtjpdhenmhffmeaaGreatDoor
