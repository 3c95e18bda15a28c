/- The laws' own comparison of rows of types that are alike: contract. -/
import Derived.Test.YtlfodnkiamogiaaGreatDoorS2i
import Derived.BigQuiet
import Derived.Deep.QuietTactic
namespace Go.Proofs.YtlfodnkiamogiaaGreatDoor
open Go.RowKit Go.Sort
set_option linter.unusedVariables false
set_option maxRecDepth 100000 in
set_option maxHeartbeats 2000000 in
theorem sameTyps_any (ts : List (Int × Int)) (v v' : Value) (w : World) (hv : IsTyps w.heap.size w v ts) (hv' : IsTyps w.heap.size w v' ts) : Calls Tryz.prog 11 #[v, v'] w fun e w' => e = .returned (.bool true) ∧ Below w.heap.size w w' := by
  have HV : Hid (IsTyps w.heap.size w v ts) := hv
  have HV' : Hid (IsTyps w.heap.size w v' ts) := hv'
  obtain ⟨ad, cap, rfl, h1, h2, h3⟩ := hv.form
  obtain ⟨ad', cap', rfl, h1', h2', h3'⟩ := hv'.form
  have hsm := hv.small
  clear h3 h3' hv hv'
  go_enter Tryz.func11, Tryz.ntmps11
  go_wp2_with fail
  go_loopg [5] ts.length (fun gk i wr => ∃ j : Nat, j + gk = ts.length ∧ i = .int .i64 j ∧ Below w.heap.size w wr)
  case atStart => exact ⟨0, by omega, rfl, Below.refl _ _⟩
  case round =>
    obtain ⟨j, hj', rfl, hb⟩ := hrel
    have HJ : Hid (j + gk = ts.length) := hj'
    have HB : Hid (Below w.heap.size w wr) := hb
    have hj : j ≤ ts.length := by omega
    clear hj'
    by_cases hlt : j < ts.length
    · obtain ⟨b, o, c, e1, hbl, _, _, c0, c1⟩ := (HV.out.below hb).at hlt
      obtain ⟨b', o', c', e1', hbl', _, _, c0', c1'⟩ := (HV'.out.below hb).at hlt
      cases e1
      cases e1'
      obtain ⟨k, hk⟩ : ∃ k, ts[j].1 = k := ⟨_, rfl⟩
      obtain ⟨m, hm⟩ : ∃ m, ts[j].2 = m := ⟨_, rfl⟩
      rw [hk] at c0 c0'
      rw [hm] at c1 c1'
      clear hk hm hb
      go_wp2_with fail
      go_quiet (fail)
      go_wp2_with fail
      go_roundg (gk - 1)
      case rel => exact ⟨j + 1, by have := HJ.out; omega, by go_num, below_drewN HB.out _⟩
      case measure => have := HJ.out; omega
    · clear hb
      go_wp2_with fail
      go_ret
      exact ⟨rfl, HB.out⟩
end Go.Proofs.YtlfodnkiamogiaaGreatDoor
