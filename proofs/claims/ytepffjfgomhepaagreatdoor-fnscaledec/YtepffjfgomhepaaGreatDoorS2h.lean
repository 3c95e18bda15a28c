/- The program's exported functions on schemas: contracts. -/
import Derived.Test.YtepffjfgomhepaaGreatDoorS2g
namespace Go.Proofs.YtepffjfgomhepaaGreatDoor
open Go.RowKit
set_option linter.unusedVariables false
/-- What parseSchema leaves. -/
def PsPost (ts : List (Int × Int)) (w : World) (e : Ending) (w' : World) : Prop :=
  Below w.heap.size w w' ∧ ((schOk ts = false ∧ e = .returned (.pointer none)) ∨ (schOk ts = true ∧ ∃ u, e = .returned (.pointer (some ⟨u, 0, none⟩)) ∧ TreeAt ts 7 w' (fun b => w.heap.size ≤ b ∧ b < w'.heap.size) u 0))
set_option maxHeartbeats 400000 in
theorem parseSchema_any (ts : List (Int × Int)) (v : Value) (w : World) (hv : IsTyps w.heap.size w v ts) (hw : KR w) : Calls Tryz.prog 29 #[v] w fun e w' => PsPost ts w e w' := by
  have HV : Hid (IsTyps w.heap.size w v ts) := hv
  have HW : Hid (KR w) := hw
  obtain ⟨ad, cap, rfl, h1, h2, h3⟩ := hv.form
  clear h3 hv hw
  by_cases h40 : 40 < ts.length
  · have HR : Hid (schOk ts = false) := schOk_big h40
    go_enter Tryz.func29, Tryz.ntmps29
    go_wp2_with fail
    go_ret
    exact ⟨Below.refl _ _, .inl ⟨HR.out, rfl⟩⟩
  · have hd : decide ((40 : Int) < ts.length) = false := by simp; omega
    go_enter Tryz.func29, Tryz.ntmps29
    go_wp2_with fail
    refine (parseType_any ts 7 0 0 _ w (by omega) (by omega) (by omega) HV.out HW.out).mono ?_
    rintro e w1 ⟨hb, ⟨he, rfl⟩ | ⟨u, rfl, htr⟩⟩
    · have HR : Hid (schOk ts = false) := schOk_no he
      clear he
      go_wp2_with fail
      go_ret
      exact ⟨hb, .inl ⟨HR.out, rfl⟩⟩
    · obtain ⟨_, e0, he, hc⟩ := htr.end
      have HT : Hid (TreeAt ts 7 w1 (fun b => w.heap.size ≤ b ∧ b < w1.heap.size) u 0) := htr
      have HB : Hid (Below w.heap.size w w1) := hb
      have HR : Hid (schOk ts = decide (e0 = ts.length)) := schOk_end (by omega) he
      clear he htr hb
      by_cases hq : e0 = ts.length
      · have HS : Hid (schOk ts = true) := by show _ = _; rw [HR.out]; simp [hq]
        have hq' : (((e0 : Nat) : Int) != (ts.length : Int)) = false := by simp [hq]
        subst hq
        go_wp2_with fail
        go_ret
        exact ⟨HB.out, .inr ⟨HS.out, _, rfl, HT.out⟩⟩
      · have HS : Hid (schOk ts = false) := by show _ = _; rw [HR.out]; simp [hq]
        have hq' : (((e0 : Nat) : Int) != (ts.length : Int)) = true := by rw [bne_iff_ne]; omega
        clear hq
        go_wp2_with fail
        go_ret
        exact ⟨HB.out, .inl ⟨HS.out, rfl⟩⟩
end Go.Proofs.YtepffjfgomhepaaGreatDoor
