/- S7e, S7f: one text. -/
import Derived.Test.YtepffjfgomhepaaDoorS7d
import Derived.Test.YtepffjfgomhepaaDoorS7q
namespace Go.Proofs.YtepffjfgomhepaaDoor
open Go.RowKit Go.Sort
set_option linter.unusedVariables false
end Go.Proofs.YtepffjfgomhepaaDoor
namespace Go.Proofs.YtepffjfgomhepaaDoor
open Go.RowKit Go.Sort
set_option linter.unusedVariables false
set_option maxHeartbeats 2000000 in
theorem schemaFor_sc (b : Bool) (ts : List (Int × Int)) (v : Value) (w : World) (hv : IsTyps w.heap.size w v ts) (hw : KR w) (he : ET w)
    (hA : schOk ts = true → ∀ (u : Nat) (w : World) (S : Nat → Prop), TreeAt ts 7 w S u 0 → (∀ c, S c → c < w.heap.size) → Calls Tryd.prog 104 #[.agg #[], .pointer (some ⟨u, 0, none⟩)] w fun e w' => e = .returned (.bool b) ∧ Below w.heap.size w w') :
    Calls Tryd.prog 33 #[.iface 54 (.agg #[.func (.func 35) #[] #[], .func (.func 36) #[] #[]]), v] w fun e w' => SfPost ts (schOk ts && b) w e w' := by
  have HC : Hid (Calls Tryd.prog 46 #[v] w fun e w' => PsPost ts w e w') := parseSchema_any ts v w hv hw
  have HE : Hid (ET w) := he
  have HA : Hid (schOk ts = true → ∀ (u : Nat) (w : World) (S : Nat → Prop), TreeAt ts 7 w S u 0 → (∀ c, S c → c < w.heap.size) → Calls Tryd.prog 104 #[.agg #[], .pointer (some ⟨u, 0, none⟩)] w fun e w' => e = .returned (.bool b) ∧ Below w.heap.size w w') := hA
  clear hv hw he hA
  go_enter Tryd.func33, Tryd.ntmps33
  go_wp2_with fail
  refine Calls.mono HC.out ?_
  rintro e w1 ⟨hb1, ⟨hs, rfl⟩ | ⟨hs, u, rfl, htr⟩⟩
  · have HR : Hid ((schOk ts && b) = false) := by show _ = _; rw [hs]; rfl
    obtain ⟨e1, T, z, e2⟩ := ET.below (B := 0) HE.out hb1
    clear hs
    go_wp2_with fail
    go_region
    all_goals
      go_wp2_with fail
      go_ret2
      exact ⟨by first | exact hb1 | exact hb1.drew, .inl ⟨HR.out, T, z, rfl⟩⟩
  · have HB1 : Hid (Below w.heap.size w w1) := hb1
    have HT : Hid (TreeAt ts 7 w1 (fun b => w.heap.size ≤ b ∧ b < w1.heap.size) u 0) := htr
    have HS : Hid (schOk ts = true) := hs
    clear hs htr hb1
    go_wp2_with fail
    refine (HA.out HS.out u _ _ HT.out (fun c hc => hc.2)).mono ?_
    rintro e w2 ⟨rfl, hb2⟩
    have HB2 : Hid (Below w.heap.size w w2) := HB1.out.trans (hb2.mono HB1.out.size)
    have HT2 : Hid (TreeAt ts 7 w2 (fun b => w.heap.size ≤ b ∧ b < w2.heap.size) u 0) := (HT.out.bel (fun c hc => hc.2) hb2).keep (fun c hc => ⟨hc.1, by have := hb2.size; omega⟩) (fun _ _ => rfl)
    obtain ⟨e1, T, z, e2⟩ := ET.below (B := 0) HE.out HB2.out
    clear hb2
    cases b with
    | true =>
      have HR : Hid ((schOk ts && true) = true) := by show _ = _; rw [HS.out]; rfl
      clear e1 e2
      go_wp2_with fail
      go_ret2
      exact ⟨HB2.out, .inr ⟨HR.out, u, rfl, HT2.out⟩⟩
    | false =>
      have HR : Hid ((schOk ts && false) = false) := by show _ = _; rw [HS.out]; rfl
      go_wp2_with fail
      go_region
      all_goals
        go_wp2_with fail
        go_ret2
        exact ⟨by first | exact HB2.out | exact HB2.out.drew, .inl ⟨HR.out, T, z, rfl⟩⟩
end Go.Proofs.YtepffjfgomhepaaDoor
