/- The draws of schemas that mostly have no options and unions, and of their values: contracts. -/
import Derived.Test.YtichgnddbnibjaaGreatDoorDrawY
namespace Go.Proofs.YtichgnddbnibjaaGreatDoor
open Go.RowKit
set_option linter.unusedVariables false
set_option maxHeartbeats 2000000 in
theorem bits_any (B0 B : Nat) (a : Option Addr) (len cap : Nat) (w : World) (h : RdAt B0 B a len cap w) : Calls Tryz.prog 20 #[.pointer (some ⟨B, 0, none⟩)] w fun e w' => SchPost B0 B a len cap w e w' := by
  have hsz := h.size
  go_enter Tryz.func20, Tryz.ntmps20
  go_wp2_with fail
  refine (schema_any B0 B a len cap _ h).mono ?_
  rintro e w1 ⟨⟨v, ts, rfl, hown, h0, h24, hwf, hsch⟩, hr1, hg1⟩
  obtain ⟨g, c, rfl, _, _⟩ := hown.form h0
  have HO1 : Hid (w1.ownsRow w.heap.size 70 2 (.slice (some ⟨g, 0, none⟩) ts.length c) ts.length (flatT ts)) := hown
  have HS1 : Hid (wfT ts ∧ schOk ts = true) := ⟨hwf, hsch⟩
  have HR1 : Hid (RdAt B0 B a len cap w1) := hr1
  have HG1 : Hid (w.grownBy w1 (some B)) := hg1
  have hs1 : w.heap.size ≤ w1.heap.size := hg1.size
  clear hown hwf hsch hr1 hg1 h
  go_wp2_with fail
  go_loopg [4] ts.length (fun gk i wr => ∃ j : Nat, j + gk = ts.length ∧ i = .int .i64 j ∧ RdAt B0 B a len cap wr ∧ w1.grownBy wr (some B))
  case atStart => exact ⟨0, by omega, rfl, HR1.out, gb_refl _ _⟩
  case round =>
    obtain ⟨j, hj', rfl, hr, hg⟩ := hrel
    have HJ : Hid (j + gk = ts.length) := hj'
    have hj : j ≤ ts.length := by omega
    clear hj'
    by_cases hlt : j < ts.length
    · have HG : Hid (w1.grownBy wr (some B)) := hg
      clear hg
      go_wp2_with fail
      refine (once_any B0 B a len cap 12 _ hr (by decide) (by decide)).mono ?_
      rintro e w2 ⟨⟨b, rfl⟩, hr2, hg2⟩
      have HR2 : Hid (RdAt B0 B a len cap w2) := hr2
      have HG2 : Hid (w1.grownBy w2 (some B)) := gb_trans HG.out hg2
      have HO2 : Hid (w2.ownsRow w.heap.size 70 2 (.slice (some ⟨g, 0, none⟩) ts.length c) ts.length (flatT ts)) := World.ownsRow.kept HO1.out HG2.out (own_ne2 HO1.out hsz)
      clear hr2 hg2 hr
      cases b with
      | true =>
        go_wp2_with fail
        go_ret
        exact ⟨⟨_, ts, rfl, HO2.out, h0, h24, HS1.out.1, HS1.out.2⟩, HR2.out, gb_trans HG1.out HG2.out⟩
      | false =>
        have c0 : w2.cell? ⟨g, j * 2, none⟩ = some (.int .i64 ts[j].1) := (HO2.out.cellAt (j * 2) (by omega)).trans (flatT_at ts j hlt).1
        obtain ⟨k, hk⟩ : ∃ k, ts[j].1 = k := ⟨_, rfl⟩
        rw [hk] at c0
        clear hk
        have HTY : Hid (Calls Tryz.prog 37 #[.pointer (some ⟨B, 0, none⟩), .int .i64 2, .bool true] w2 fun e w' => TypPost B0 B a len cap 2 w2 e w') := typ_any B0 B a len cap 2 true w2 (by omega) HR2.out
        by_cases h89 : k = 8 ∨ k = 9
        · have hs2 : w.heap.size ≤ w2.heap.size := Nat.le_trans hs1 HG2.out.size
          rcases h89 with rfl | rfl
          all_goals
            go_wp2_with fail
            refine Calls.mono HTY.out ?_
            rintro e w3 ⟨⟨v3, ts3, rfl, hown3, hl3, hl3', hwf3⟩, hr3, hg3⟩
            have hLb : Lb 2 ≤ 24 := by decide
            have HX : Hid (SchPost B0 B a len cap w (.returned v3) w3) := ⟨⟨_, ts3, rfl, own_base hown3 hs2, hl3, by omega, hwf3.1, schOk_iff.2 ⟨by omega, en_mono (by omega) hwf3.2⟩⟩, hr3, gb_trans (gb_trans HG1.out HG2.out) hg3⟩
            clear hown3 hl3 hl3' hwf3 hr3 hg3 c0
            go_wp2_with fail
            go_ret
            exact HX.out
        · have h8 : (k == 8) = false := by simp; omega
          have h9 : (k == 9) = false := by simp; omega
          go_wp2_with fail
          go_roundg (gk - 1)
          case rel => exact ⟨j + 1, by have := HJ.out; omega, by go_num, HR2.out, HG2.out⟩
          case measure => have := HJ.out; omega
    · have ej : j = ts.length := by omega
      subst ej
      have HO2 : Hid (wr.ownsRow w.heap.size 70 2 (.slice (some ⟨g, 0, none⟩) ts.length c) ts.length (flatT ts)) := World.ownsRow.kept HO1.out hg (own_ne2 HO1.out hsz)
      have HX : Hid (SchPost B0 B a len cap w (.returned (.slice (some ⟨g, 0, none⟩) ts.length c)) wr) := ⟨⟨_, ts, rfl, HO2.out, h0, h24, HS1.out.1, HS1.out.2⟩, hr, gb_trans HG1.out hg⟩
      clear hr hg
      go_wp2_with fail
      go_ret
      exact HX.out
set_option maxHeartbeats 1000000 in
theorem DrawBitcoinEnc_any (B0 : Nat) (a : Option Addr) (len cap : Nat) (w : World) (hB : B0 ≤ w.heap.size) (hc : CodeAt B0 a len w) (hl : len ≤ 1048576) : Calls Tryz.prog 7 #[.slice a len cap] w fun e w' => DrawTPost w e w' := by
  go_enter Tryz.func7, Tryz.ntmps7
  go_wp2_with fail
  refine (l1Open_any B0 a len cap _ hB hc hl).mono ?_
  rintro e w1 ⟨rfl, hr1, hb1⟩
  have hs1 := hr1.size
  go_wp2_with fail
  refine (bits_any B0 _ a len cap _ hr1).mono ?_
  rintro e w2 ⟨⟨v, ts, rfl, hown, h0, h24, hwf, hsch⟩, hr2, hg2⟩
  have HO2 : Hid (w2.ownsRow w1.heap.size 70 2 v ts.length (flatT ts)) := hown
  have HV : Hid (Calls Tryz.prog 22 #[.pointer (some ⟨w.heap.size, 0, none⟩), v, .int .i64 0] w2 fun e w' => VaPost B0 w.heap.size a len cap 7 w2 e w') :=
    value_any B0 w.heap.size a len cap ts 7 0 ts.length v w2 (Nat.le_refl _) (schOk_iff.1 hsch).2 hr2 (fun w' hg => own_typs (World.ownsRow.kept hown hg (own_ne2 hown hs1)) (by omega) hwf)
  have HWT : Hid (wfT ts) := hwf
  have HB2 : Hid (Below w.heap.size w w2) := hb1.trans (gb_below hg2 (Nat.le_refl _) hs1)
  have hs2 : w1.heap.size ≤ w2.heap.size := hg2.size
  clear hown hwf hr1 hr2 hg2 hb1 hsch
  go_wp2_with fail
  refine Calls.mono HV.out ?_
  rintro e w3 ⟨⟨v3, vs3, rfl, hown3, h3, h3', hwf3⟩, hr3, hg3⟩
  have HO3 : Hid (w3.ownsRow w1.heap.size 70 2 v ts.length (flatT ts)) := World.ownsRow.kept HO2.out hg3 (own_ne2 HO2.out hs1)
  have HV3 : Hid (Calls Tryz.prog 21 #[.pointer (some ⟨w.heap.size, 0, none⟩), v3] w3 fun e w' => HvPost B0 w.heap.size a len cap w2.heap.size v3 w3 e w') :=
    hurtValue_any B0 w.heap.size a len cap w2.heap.size v3 vs3 w3 hr3 (by omega) hg3.size hown3 h3 (by omega) hwf3
  have HOL3 : Hid (∀ g, v3.ownBlock = some g → w2.heap.size ≤ g) := fun g hg => (World.ownsRow.lt hown3 g hg).1
  have HVL : Hid (∀ g, v.ownBlock = some g → w1.heap.size ≤ g ∧ g < w2.heap.size) := fun g hg => World.ownsRow.lt HO2.out g hg
  have HB3 : Hid (Below w.heap.size w w3) := HB2.out.trans (gb_below hg3 (Nat.le_refl _) (by omega))
  have hs3 : w2.heap.size ≤ w3.heap.size := hg3.size
  clear hown3 hr3 hg3 hwf3
  go_wp2_with fail
  refine Calls.mono HV3.out ?_
  rintro e w4 ⟨⟨v4, vs4, rfl, hown4, h4, hwf4⟩, hr4, hk4⟩
  have HO4 : Hid (w4.ownsRow w1.heap.size 70 2 v ts.length (flatT ts)) := own_keepX HO3.out (fun g hg => by
    have h1 := HVL.out g hg
    exact hk4.2.2.2.2 g (by omega) (by omega) (fun e => by have := HOL3.out g e.symm; omega))
  have HS4 : Hid (Calls Tryz.prog 23 #[.pointer (some ⟨w.heap.size, 0, none⟩), v] w4 fun e w' => HurtPost B0 w.heap.size a len cap w1.heap.size v w4 e w') :=
    hurtSchema_any B0 w.heap.size a len cap w1.heap.size v ts w4 hr4 hs1 (by have := hk4.2.2.2.1; omega) HO4.out h0 h24 HWT.out
  have HOV4 : Hid (OwnIt w2.heap.size w4 v4 vs4 ∧ vs4.length ≤ 1500 ∧ wfI vs4) := ⟨hown4, h4, hwf4⟩
  have HB4 : Hid (Below w.heap.size w w4) := HB3.out.trans (hk4.below (Nat.le_refl _) (by omega) (fun g hg => by have := HOL3.out g hg; omega))
  have hs4 : w3.heap.size ≤ w4.heap.size := hk4.2.2.2.1
  clear hown4 hwf4 hr4 hk4 HV HV3 HO3 HO2
  go_wp2_with fail
  refine Calls.mono HS4.out ?_
  rintro e w5 ⟨⟨v5, ts5, rfl, hown5, h5, hwf5⟩, hr5, hk5⟩
  have HX : Hid (DrawTPost w (.returned (.tuple #[v5, v4])) w5) := by
    have hv4 : OwnIt w2.heap.size w5 v4 vs4 := own_keepX HOV4.out.1 (fun g hg => by
      have h1 := World.ownsRow.lt HOV4.out.1 g hg
      exact hk5.2.2.2.2 g h1.2 (by omega) (fun e => by have := HVL.out g e.symm; omega))
    exact ⟨v5, ts5, v4, vs4, rfl, own_base hown5 (by omega), h5, hwf5, own_base hv4 (by omega), HOV4.out.2.1, HOV4.out.2.2, HB4.out.trans (hk5.below (Nat.le_refl _) (by omega) (fun g hg => by have := HVL.out g hg; omega))⟩
  clear hown5 hwf5 hr5 hk5
  go_wp2_with fail
  go_ret2
  exact HX.out
end Go.Proofs.YtichgnddbnibjaaGreatDoor
