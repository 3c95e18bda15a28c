/- S7h, S7i: one text. -/
import Derived.Test.YtepffjfgomhepaaDoorS7d
import Derived.Test.YtepffjfgomhepaaDoorS7q
namespace Go.Proofs.YtepffjfgomhepaaDoor
open Go.RowKit Go.Sort
set_option linter.unusedVariables false
end Go.Proofs.YtepffjfgomhepaaDoor
namespace Go.Proofs.YtepffjfgomhepaaDoor
open Go.RowKit Go.Sort
set_option linter.unusedVariables false
theorem btOk_no {ts : List (Int × Int)} {j : Nat} (hj : j < ts.length) (h : ts[j].1 = 8 ∨ ts[j].1 = 9) : btOk ts = false := by
  cases hb : btOk ts with
  | false => rfl
  | true =>
    unfold btOk at hb
    rw [List.all_eq_true] at hb
    have := hb ts[j] (List.getElem_mem hj)
    simp at this
    omega
theorem btOk_yes {ts : List (Int × Int)} (h : ∀ q (h : q < ts.length), ¬ (ts[q].1 = 8 ∨ ts[q].1 = 9)) : btOk ts = true := by
  unfold btOk
  rw [List.all_eq_true]
  intro t ht
  obtain ⟨i, hi, rfl⟩ := List.getElem_of_mem ht
  simpa using h i hi
set_option maxHeartbeats 2000000 in
theorem specBitcoinOk_any (ts : List (Int × Int)) (v : Value) (w : World) (hv : IsTyps w.heap.size w v ts) : Calls Tryd.prog 25 #[v] w fun e w' => e = .returned (.bool (schOk ts && btOk ts)) ∧ Below w.heap.size w w' := by
  have HC : Hid (∀ w', Below w.heap.size w w' → Calls Tryd.prog 16 #[v] w' fun e w'' => e = .returned (.bool (schOk ts)) ∧ Below w'.heap.size w' w'') := fun w' hb => specSchemaOk_any ts v w' ((hv.below hb).up hb.size)
  have HV : Hid (IsTyps w.heap.size w v ts) := hv
  have hst := hv.small
  obtain ⟨ad, cap, rfl, h1, h2, h3⟩ := hv.form
  clear h3 hv
  go_enter Tryd.func25, Tryd.ntmps25
  go_wp2_with fail
  go_loopg [3] ts.length (fun gk i wr => ∃ j : Nat, j + gk = ts.length ∧ i = .int .i64 j ∧ (∀ q (h : q < ts.length), q < j → ¬ (ts[q].1 = 8 ∨ ts[q].1 = 9)) ∧ Below w.heap.size w wr)
  case atStart => exact ⟨0, by omega, rfl, fun q h hq => by omega, Below.refl _ _⟩
  case round =>
    obtain ⟨j, hj', rfl, hall, hbel⟩ := hrel
    have HJ : Hid (j + gk = ts.length) := hj'
    have hj : j ≤ ts.length := by omega
    have HALL : Hid (∀ q (h : q < ts.length), q < j → ¬ (ts[q].1 = 8 ∨ ts[q].1 = 9)) := hall
    have HB : Hid (Below w.heap.size w wr) := hbel
    clear hj' hall
    by_cases hjk : j < ts.length
    · obtain ⟨b, o, cap', e1, hb, g1, g2, c0, c1⟩ := (HV.out.below hbel).at hjk
      cases e1
      have hgr : b < wr.heap.size := by have := hbel.size; omega
      obtain ⟨k, hk⟩ : ∃ k, ts[j].1 = k := ⟨_, rfl⟩
      have HKE : Hid (ts[j].1 = k) := hk
      rw [hk] at c0
      clear c1 hk hbel
      by_cases h8 : k = 8
      · have HR : Hid ((schOk ts && btOk ts) = false) := by show _ = _; rw [btOk_no hjk (.inl (HKE.out.trans h8)), Bool.and_false]
        subst h8
        go_wp2_with fail
        go_ret
        exact ⟨by rw [HR.out]; try rfl, HB.out⟩
      · by_cases h9 : k = 9
        · have HR : Hid ((schOk ts && btOk ts) = false) := by show _ = _; rw [btOk_no hjk (.inr (HKE.out.trans h9)), Bool.and_false]
          subst h9
          go_wp2_with fail
          go_ret
          exact ⟨by rw [HR.out]; try rfl, HB.out⟩
        · have HN : Hid (∀ q (h : q < ts.length), q < j + 1 → ¬ (ts[q].1 = 8 ∨ ts[q].1 = 9)) := fun q h hq => by
            by_cases hqj : q < j
            · exact HALL.out q h hqj
            · have e : q = j := by omega
              subst e
              rw [HKE.out]; omega
          have e8 := beqF h8
          have e9 := beqF h9
          clear h8 h9
          go_wp2_with fail
          go_roundg (gk - 1)
          case rel => exact ⟨j + 1, by have := HJ.out; omega, by go_num, HN.out, HB.out⟩
          case measure => have := HJ.out; omega
    · have HR : Hid (btOk ts = true) := btOk_yes (fun q h => HALL.out q h (by omega))
      clear hbel
      go_wp2_with fail
      refine (HC.out _ HB.out).mono ?_
      rintro e w1 ⟨rfl, hb1⟩
      have HB1 : Hid (Below w.heap.size w w1) := HB.out.trans (hb1.mono HB.out.size)
      clear hb1
      go_wp2_with fail
      go_ret
      exact ⟨by rw [HR.out, Bool.and_true]; try rfl, HB1.out⟩
set_option maxHeartbeats 2000000 in
theorem schemaFor_bc (b : Bool) (ts : List (Int × Int)) (v : Value) (w : World) (hv : IsTyps w.heap.size w v ts) (hw : KR w) (he : ET w)
    (hA : schOk ts = true → ∀ (u : Nat) (w : World) (S : Nat → Prop), TreeAt ts 7 w S u 0 → (∀ c, S c → c < w.heap.size) → Calls Tryd.prog 122 #[.agg #[.func (.func 37) #[] #[], .func (.func 38) #[] #[]], .pointer (some ⟨u, 0, none⟩)] w fun e w' => e = .returned (.bool b) ∧ Below w.heap.size w w') :
    Calls Tryd.prog 33 #[.iface 63 (.agg #[.func (.func 37) #[] #[], .func (.func 38) #[] #[]]), v] w fun e w' => SfPost ts (schOk ts && b) w e w' := by
  have HC : Hid (Calls Tryd.prog 46 #[v] w fun e w' => PsPost ts w e w') := parseSchema_any ts v w hv hw
  have HE : Hid (ET w) := he
  have HA : Hid (schOk ts = true → ∀ (u : Nat) (w : World) (S : Nat → Prop), TreeAt ts 7 w S u 0 → (∀ c, S c → c < w.heap.size) → Calls Tryd.prog 122 #[.agg #[.func (.func 37) #[] #[], .func (.func 38) #[] #[]], .pointer (some ⟨u, 0, none⟩)] w fun e w' => e = .returned (.bool b) ∧ Below w.heap.size w w') := hA
  clear hv hw he hA
  go_enter Tryd.func33, Tryd.ntmps33
  go_wp2_with fail
  refine Calls.mono HC.out ?_
  rintro e w1 ⟨hb1, ⟨hs, rfl⟩ | ⟨hs, u, rfl, htr⟩⟩
  · have HR : Hid ((schOk ts && b) = false) := by show _ = _; rw [hs]; rfl
    obtain ⟨e1, T, z, e2⟩ := ET.below (B := 0) HE.out hb1
    clear hs
    go_wp2_with fail
    go_region
    all_goals
      go_wp2_with fail
      go_ret2
      exact ⟨by first | exact hb1 | exact hb1.drew, .inl ⟨HR.out, T, z, rfl⟩⟩
  · have HB1 : Hid (Below w.heap.size w w1) := hb1
    have HT : Hid (TreeAt ts 7 w1 (fun b => w.heap.size ≤ b ∧ b < w1.heap.size) u 0) := htr
    have HS : Hid (schOk ts = true) := hs
    clear hs htr hb1
    go_wp2_with fail
    refine (HA.out HS.out u _ _ HT.out (fun c hc => hc.2)).mono ?_
    rintro e w2 ⟨rfl, hb2⟩
    have HB2 : Hid (Below w.heap.size w w2) := HB1.out.trans (hb2.mono HB1.out.size)
    have HT2 : Hid (TreeAt ts 7 w2 (fun b => w.heap.size ≤ b ∧ b < w2.heap.size) u 0) := (HT.out.bel (fun c hc => hc.2) hb2).keep (fun c hc => ⟨hc.1, by have := hb2.size; omega⟩) (fun _ _ => rfl)
    obtain ⟨e1, T, z, e2⟩ := ET.below (B := 0) HE.out HB2.out
    clear hb2
    cases b with
    | true =>
      have HR : Hid ((schOk ts && true) = true) := by show _ = _; rw [HS.out]; rfl
      clear e1 e2
      go_wp2_with fail
      go_ret2
      exact ⟨HB2.out, .inr ⟨HR.out, u, rfl, HT2.out⟩⟩
    | false =>
      have HR : Hid ((schOk ts && false) = false) := by show _ = _; rw [HS.out]; rfl
      go_wp2_with fail
      go_region
      all_goals
        go_wp2_with fail
        go_ret2
        exact ⟨by first | exact HB2.out | exact HB2.out.drew, .inl ⟨HR.out, T, z, rfl⟩⟩
end Go.Proofs.YtepffjfgomhepaaDoor
