/- The draws of schemas, sometimes hurt: contracts. -/
import Derived.Test.YtepffjfgomhepaaGreatDoorDrawT
namespace Go.Proofs.YtepffjfgomhepaaGreatDoor
open Go.RowKit
set_option linter.unusedVariables false
/-- What schema leaves. -/
def SchPost (B0 B : Nat) (a : Option Addr) (len cap : Nat) (w : World) (e : Ending) (w' : World) : Prop :=
  (∃ v ts, e = .returned v ∧ w'.ownsRow w.heap.size 83 2 v ts.length (flatT ts) ∧ 0 < ts.length ∧ ts.length ≤ 24 ∧ wfT ts ∧ schOk ts = true) ∧ RdAt B0 B a len cap w' ∧ w.grownBy w' (some B)
set_option maxHeartbeats 1000000 in
theorem schema_any (B0 B : Nat) (a : Option Addr) (len cap : Nat) (w : World) (h : RdAt B0 B a len cap w) : Calls Tryz.prog 24 #[.pointer (some ⟨B, 0, none⟩)] w fun e w' => SchPost B0 B a len cap w e w' := by
  go_enter Tryz.func24, Tryz.ntmps24
  go_wp2_with fail
  refine (below_any B0 B a len cap 3 _ h (by decide) (by decide)).mono ?_
  rintro e w1 ⟨⟨x, hx, rfl⟩, hr1, hg1⟩
  clear h
  go_wp2_with fail
  refine (once_any B0 B a len cap 3 _ hr1 (by decide) (by decide)).mono ?_
  rintro e w2 ⟨⟨b, rfl⟩, hr2, hg2⟩
  have hg12 := gb_trans hg1 hg2
  clear hr1 hg1 hg2
  go_wp2_with fail
  rw [show (1 + (x : Int)) = ((1 + x : Nat) : Int) from by omega]
  refine (typ_any B0 B a len cap (1 + x) b w2 (by omega) hr2).mono ?_
  rintro e w3 ⟨⟨v, ts, rfl, hown, hl, hl', hwf⟩, hr3, hg3⟩
  have HWG : Hid (wfG (1 + x) ts) := hwf
  clear hwf
  have hl40 : ts.length ≤ 40 := by
    have : Lb (1 + x) ≤ 40 := by
      match x, hx with
      | 0, _ => simp [Lb]
      | 1, _ => simp [Lb]
      | 2, _ => simp [Lb]
    omega
  have hg := gb_trans hg12 hg3
  have hown' := own_base hown (show w.heap.size ≤ w2.heap.size from hg12.size)
  obtain ⟨g, c, rfl, _, _⟩ := hown.form hl
  clear hr2 hg12 hg3 hown hl'
  by_cases h24 : 24 < ts.length
  · have hd : decide ((24 : Int) < ts.length) = true := by simp; omega
    have ho : (w3.alloc (.cells #[.int .i64 5, .int .i64 3, .int .i64 8, .int .i64 0, .int .i64 1, .int .i64 16] 83)).ownsRow w3.heap.size 83 2 (.slice (some ⟨w3.heap.size, 0, none⟩) 3 3) 3 (flatT [(5, 3), (8, 0), (1, 16)]) :=
      World.ownsRow_lit w3 #[.int .i64 5, .int .i64 3, .int .i64 8, .int .i64 0, .int .i64 1, .int .i64 16] 3 (Nat.le_refl _) (by decide) rfl
    go_wp2_with fail
    go_ret
    refine ⟨⟨_, [(5, 3), (8, 0), (1, 16)], rfl, own_base ho hg.size, by simp, by simp, fun t ht => ?_, rfl⟩, hr3.full (bel1 _ _), gb_trans hg (gb_alloc _ _ _)⟩
    simp at ht
    rcases ht with rfl | rfl | rfl <;> exact ⟨inI_of (by omega) (by omega), inI_of (by omega) (by omega)⟩
  · have hd : decide ((24 : Int) < ts.length) = false := by simp; omega
    go_wp2_with fail
    go_ret
    exact ⟨⟨_, ts, rfl, hown', hl, by omega, HWG.out.1, schOk_iff.2 ⟨by omega, en_mono (by omega) HWG.out.2⟩⟩, hr3, hg⟩
end Go.Proofs.YtepffjfgomhepaaGreatDoor
