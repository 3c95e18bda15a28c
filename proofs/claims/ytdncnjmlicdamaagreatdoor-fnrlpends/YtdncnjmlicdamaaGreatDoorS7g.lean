/- What the program's text lays into the variables of errors, read. -/
import Derived.Test.YtdncnjmlicdamaaGreatDoorS8e
import Derived.Test.YtdncnjmlicdamaaGreatDoorSBq
import Derived.Test.YtdncnjmlicdamaaGreatDoorS3l
import Derived.OpenShut
namespace Go.Proofs.YtdncnjmlicdamaaGreatDoor
open Go.RowKit Go.Sort Go.ChangeShapes Go.WideShapes
set_option linter.unusedVariables false
theorem laidMet_head {P : Program} {x : String × DataW Unit} {r : List (String × DataW Unit)} {w : World} (h : laidMet P (x :: r) w) : laidMet P [x] w := by
  obtain ⟨ps, hv, hnd, hrows⟩ := h
  obtain ⟨n, d⟩ := x
  obtain ⟨g, t, cs, fuel, p, q, a1, a2, a3, a4, hq, rfl⟩ := hv
  exact ⟨MemPlace.row ⟨g, 0, none⟩ cs.size ++ p ++ [], ⟨g, t, cs, fuel, p, [], a1, a2, a3, a4, rfl, rfl⟩, by simpa using List.Nodup.sublist (List.sublist_append_left _ _) hnd, fun b off hm => hrows b off (by simp at hm ⊢; rcases hm with hm | hm <;> simp [hm])⟩
theorem Tryz.starE : "*" ++ "errors.errorString" = "*errors.errorString" := by decide
theorem Tryz.rowE (u : TypeId) (h : Tryz.prog.typeName? 3 u = some "*errors.errorString") : u = 142 :=
  typeName_ptr_named (nm := "errors.errorString") (by rw [Tryz.starE]; kernel_rfl) (by kernel_rfl) (by decide) u (by rw [Tryz.starE]; exact h)
theorem Tryz.cellsES : Tryz.prog.cellsOf 183 = 1 := by kernel_rfl
theorem Tryz.cellsSt : Tryz.prog.cellsOf 9 = 1 := by kernel_rfl
theorem Tryz.gET : Tryz.prog.globalNamed "loop.example/g00774/impl.errType" = some 0 := by kernel_rfl
theorem Tryz.tET : (Tryz.prog.globals[0]?).map (·.type) = some 39 := by kernel_rfl
abbrev laidE : List (String × DataW Unit) := [("loop.example/g00774/impl.kindRows", Rows.laid_loop_example_g00774_impl_kindRows), ("loop.example/g00774/impl.errType", Rows.laid_loop_example_g00774_impl_errType)]
/-- Three named variables, opened. -/
theorem trodVars_three {H : Type} {enc : TypeId × Value → H} {P : Program} {w : World} {spare : Nat → Bool} {n0 n1 n2 : String} {gs : List (DataW H)} {ps : List MemPlace} (h : DataW.TrodVars enc P w spare [n0, n1, n2] gs ps) :
    ∃ g0 t0 cs0 f0 d0 p0 g1 t1 cs1 f1 d1 p1 g2 t2 cs2 f2 d2 p2, gs = [d0, d1, d2] ∧ P.globalNamed n0 = some g0 ∧ (P.globals[g0]?).map (·.type) = some t0 ∧ w.var? P n0 = some cs0 ∧ DataW.trod enc P w 0 spare true f0 t0 cs0.toList = some (d0, p0) ∧
      P.globalNamed n1 = some g1 ∧ (P.globals[g1]?).map (·.type) = some t1 ∧ w.var? P n1 = some cs1 ∧ DataW.trod enc P w 0 spare true f1 t1 cs1.toList = some (d1, p1) ∧
      P.globalNamed n2 = some g2 ∧ (P.globals[g2]?).map (·.type) = some t2 ∧ w.var? P n2 = some cs2 ∧ DataW.trod enc P w 0 spare true f2 t2 cs2.toList = some (d2, p2) ∧
      ps = MemPlace.row ⟨g0, 0, none⟩ cs0.size ++ p0 ++ (MemPlace.row ⟨g1, 0, none⟩ cs1.size ++ p1 ++ (MemPlace.row ⟨g2, 0, none⟩ cs2.size ++ p2)) := by
  cases gs with
  | nil => simp [DataW.TrodVars] at h
  | cons d ds =>
    obtain ⟨g0, t0, cs0, f0, p0, q0, h1, h2, h3, h4, hs, e⟩ := h
    obtain ⟨g1, t1, cs1, f1, d1, p1, g2, t2, cs2, f2, d2, p2, rfl, k1, k2, k3, k4, k5, k6, k7, k8, rfl⟩ := trodVars_two hs
    exact ⟨g0, t0, cs0, f0, d, p0, g1, t1, cs1, f1, d1, p1, g2, t2, cs2, f2, d2, p2, rfl, h1, h2, h3, h4, k1, k2, k3, k4, k5, k6, k7, k8, e⟩
theorem Tryz.gEF : Tryz.prog.globalNamed "loop.example/g00774/impl.errForm" = some 1 := by kernel_rfl
theorem Tryz.tEF : (Tryz.prog.globals[1]?).map (·.type) = some 39 := by kernel_rfl
abbrev laidD : List (String × DataW Unit) := [("loop.example/g00774/impl.kindRows", Rows.laid_loop_example_g00774_impl_kindRows), ("loop.example/g00774/impl.errType", Rows.laid_loop_example_g00774_impl_errType), ("loop.example/g00774/impl.errForm", Rows.laid_loop_example_g00774_impl_errForm)]
theorem laidD_kr {W : World} (h : laidMetH Tryz.prog laidD W) : laidMetH Tryz.prog laidKR W := by
  rw [MakeChecks.laidMetH_plain _ _ _ (by kernel_rfl)] at h ⊢
  exact laidMet_head h
theorem laidD_et {W : World} (h : laidMetH Tryz.prog laidD W) : ∃ T z, W.var? Tryz.prog "loop.example/g00774/impl.errType" = some #[.iface T z] := by
  rw [MakeChecks.laidMetH_plain _ _ _ (by kernel_rfl)] at h
  obtain ⟨a, s, h1, _⟩ := laid_sentinel (laidMet_head h.tail) Tryz.gET Tryz.tET Tryz.underlying39 Tryz.rowE Tryz.underlying142 Tryz.underlying183 rfl rfl Tryz.underlying9 Tryz.cellsES Tryz.cellsSt
  exact ⟨_, _, h1⟩
theorem laidD_ef {W : World} (h : laidMetH Tryz.prog laidD W) : ∃ T z, W.var? Tryz.prog "loop.example/g00774/impl.errForm" = some #[.iface T z] := by
  rw [MakeChecks.laidMetH_plain _ _ _ (by kernel_rfl)] at h
  obtain ⟨a, s, h1, _⟩ := laid_sentinel h.tail.tail Tryz.gEF Tryz.tEF Tryz.underlying39 Tryz.rowE Tryz.underlying142 Tryz.underlying183 rfl rfl Tryz.underlying9 Tryz.cellsES Tryz.cellsSt
  exact ⟨_, _, h1⟩
theorem ET.of_laidD {W : World} (h : laidMetH Tryz.prog laidD W) : ET W := by
  obtain ⟨T, z, hv⟩ := laidD_et h
  have hc : W.cell? ⟨0, 0, none⟩ = some (.iface T z) := by simpa using World.var?_cell Tryz.gET hv 0
  refine ⟨?_, T, z, hc⟩
  rcases Nat.lt_or_ge 0 W.heap.size with h' | h'
  · exact h'
  · simp [World.cell?, Array.getElem?_eq_none h'] at hc
theorem EF.of_laidD {W : World} (h : laidMetH Tryz.prog laidD W) : EF W := by
  obtain ⟨T, z, hv⟩ := laidD_ef h
  have hc : W.cell? ⟨1, 0, none⟩ = some (.iface T z) := by simpa using World.var?_cell Tryz.gEF hv 0
  refine ⟨T, z, ?_, hc⟩
  rcases Nat.lt_or_ge 1 W.heap.size with h' | h'
  · exact h'
  · simp [World.cell?, Array.getElem?_eq_none h'] at hc
theorem laidE_kr {W : World} (h : laidMetH Tryz.prog laidE W) : laidMetH Tryz.prog laidKR W := by
  rw [MakeChecks.laidMetH_plain _ _ _ (by kernel_rfl)] at h ⊢
  exact laidMet_head h
theorem laidE_et {W : World} (h : laidMetH Tryz.prog laidE W) : ∃ T z, W.var? Tryz.prog "loop.example/g00774/impl.errType" = some #[.iface T z] := by
  rw [MakeChecks.laidMetH_plain _ _ _ (by kernel_rfl)] at h
  obtain ⟨a, s, h1, _⟩ := laid_sentinel h.tail Tryz.gET Tryz.tET Tryz.underlying39 Tryz.rowE Tryz.underlying142 Tryz.underlying183 rfl rfl Tryz.underlying9 Tryz.cellsES Tryz.cellsSt
  exact ⟨_, _, h1⟩
theorem ET.of_laid {W : World} (h : laidMetH Tryz.prog laidE W) : ET W := by
  obtain ⟨T, z, hv⟩ := laidE_et h
  have hc : W.cell? ⟨0, 0, none⟩ = some (.iface T z) := by simpa using World.var?_cell Tryz.gET hv 0
  refine ⟨?_, T, z, hc⟩
  rcases Nat.lt_or_ge 0 W.heap.size with h' | h'
  · exact h'
  · simp [World.cell?, Array.getElem?_eq_none h'] at hc
end Go.Proofs.YtdncnjmlicdamaaGreatDoor
