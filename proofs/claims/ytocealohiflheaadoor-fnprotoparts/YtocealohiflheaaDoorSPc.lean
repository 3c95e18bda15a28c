/- Messages: the specification's side: contracts. -/
import Derived.Test.YtocealohiflheaaDoorSPa
namespace Go.Proofs.YtocealohiflheaaDoor
open Go.RowKit Go.Sort
set_option linter.unusedVariables false
/-- The contract of l7Message, f levels being left. -/
def M7Hyp (ts : List (Int × Int)) (f : Nat) : Prop :=
  ∀ (a e0 : Nat) (vt : Value) (w : World), f ≤ 7 → en ts f a = some e0 → IsTyps w.heap.size w vt ts → Calls Tryd.prog 41 #[vt, .int .i64 a] w fun e w' => e = .returned (.bool (pm ts f a)) ∧ Below w.heap.size w w'
set_option maxHeartbeats 2000000 in
theorem l7Part_any (ts : List (Int × Int)) (f : Nat) (hyp : M7Hyp ts f) (a e0 : Nat) (vt : Value) (w : World) (hf : f ≤ 7) (he : en ts f a = some e0) (hv : IsTyps w.heap.size w vt ts) :
    Calls Tryd.prog 57 #[vt, .int .i64 a] w fun e w' => e = .returned (.bool (ppB ts (pm ts f) a)) ∧ Below w.heap.size w w' := by
  have HM : Hid (Calls Tryd.prog 41 #[vt, .int .i64 a] w fun e w' => e = .returned (.bool (pm ts f a)) ∧ Below w.heap.size w w') := hyp a e0 vt w hf he hv
  have ha : a < ts.length := by have := en_lt he; omega
  have hok : tyOk ts[a].1 ts[a].2 = true := by
    cases f with
    | zero => cases he
    | succ f => obtain ⟨_, h, _⟩ := en_inv he; exact h
  obtain ⟨b, o, cap, hv', hb, h1, h2, c0, c1⟩ := hv.at ha
  have hst := hv.small
  have HP : Hid (ppB ts (pm ts f) a = (decide (kids ts[a].1 ts[a].2 = 0) || pm ts f a)) := ppB_ok ha
  obtain ⟨k, hk⟩ : ∃ k, ts[a].1 = k := ⟨_, rfl⟩
  obtain ⟨n, hn⟩ : ∃ n, ts[a].2 = n := ⟨_, rfl⟩
  rw [hk] at c0 hok HP
  rw [hn] at c1 hok HP
  subst hv'
  clear hk hn hyp he hv
  simp only [tyOk, decide_eq_true_eq] at hok
  have hkk : k = 1 ∨ k = 2 ∨ k = 3 ∨ k = 4 ∨ k = 5 ∨ k = 6 ∨ k = 7 ∨ k = 8 ∨ k = 9 := by omega
  by_cases hlow : k = 1 ∨ k = 2 ∨ k = 3 ∨ k = 4
  · have HR : Hid (ppB ts (pm ts f) a = true) := by
      show _ = _
      rw [HP.out]
      have : kids k n = 0 := by unfold kids; rw [if_neg (by omega), if_neg (by omega)]
      rw [this]; rfl
    clear HP HM hkk hok
    rcases hlow with rfl | rfl | rfl | rfl
    all_goals
      go_enter Tryd.func57, Tryd.ntmps57
      go_wp2_with fail
      go_ret
      exact ⟨by rw [HR.out]; try rfl, Below.refl _ _⟩
  · have HR : Hid (ppB ts (pm ts f) a = pm ts f a) := by
      show _ = _
      rw [HP.out]
      have : ¬ kids k n = 0 := by unfold kids; split <;> (try split) <;> omega
      rw [decide_eq_false this]; rfl
    clear HP
    have hk5 : k = 5 ∨ k = 6 ∨ k = 7 ∨ k = 8 ∨ k = 9 := by omega
    clear hkk hlow hok
    generalize pm ts f a = q at HM HR
    rcases hk5 with rfl | rfl | rfl | rfl | rfl
    all_goals
      go_enter Tryd.func57, Tryd.ntmps57
      go_wp2_with fail
      refine Calls.mono HM.out ?_
      rintro e w1 ⟨rfl, hb1⟩
      go_wp2_with fail
      go_ret
      exact ⟨by rw [HR.out]; try rfl, hb1⟩
set_option maxRecDepth 100000 in
set_option maxHeartbeats 4000000 in
theorem l7Message_succ (ts : List (Int × Int)) (f : Nat) (hyp : M7Hyp ts f) : M7Hyp ts (f + 1) := by
  intro a e0 vt w hf he hv
  obtain ⟨ha, hok, hit⟩ := en_inv he
  have HV : Hid (IsTyps w.heap.size w vt ts) := hv
  have HPA : Hid (∀ q e w', en ts f q = some e → Below w.heap.size w w' → Calls Tryd.prog 57 #[vt, .int .i64 q] w' fun e w'' => e = .returned (.bool (ppB ts (pm ts f) q)) ∧ Below w'.heap.size w' w'') := fun q e w' hq hb => l7Part_any ts f hyp q e vt w' (by omega) hq ((hv.below hb).up hb.size)
  have HSK : Hid (∀ q e w', en ts f q = some e → Below w.heap.size w w' → Calls Tryd.prog 58 #[vt, .int .i64 q] w' fun e' w'' => e' = .returned (.int .i64 (e : Int)) ∧ Below w'.heap.size w' w'') := fun q e w' hq hb => by
    have hl := en_lt hq
    have hsm := hv.small
    have := l2Skip_any ts q vt w' (by omega) ((hv.below hb).up hb.size)
    rw [en_mono (show f ≤ 7 by omega) hq] at this
    exact this
  have HD : Hid (pm ts (f + 1) a = (decide (ts[a].1 = 7) && allTo (en ts f) (fdB ts (pm ts f)) (a + 1) (kids ts[a].1 ts[a].2))) := pm_ok ha
  have HIT : Hid (iter (en ts f) (a + 1) (kids ts[a].1 ts[a].2) = some e0) := hit
  obtain ⟨b, o, cap, hv', hb, h1, h2, c0, c1⟩ := hv.at ha
  have hst := hv.small
  obtain ⟨k, hk⟩ : ∃ k, ts[a].1 = k := ⟨_, rfl⟩
  obtain ⟨n, hn⟩ : ∃ n, ts[a].2 = n := ⟨_, rfl⟩
  rw [hk] at c0 hok HD HIT
  rw [hn] at c1 hok HD HIT
  subst hv'
  clear hk hn hyp hv hit
  by_cases h7 : k = 7
  · have hn6 : 1 ≤ n ∧ n ≤ 6 := by simp only [tyOk, decide_eq_true_eq] at hok; omega
    obtain ⟨K, rfl⟩ := Int.eq_ofNat_of_zero_le (show 0 ≤ n by omega)
    have hkd : kids k K = K := by subst h7; simp [kids]
    rw [hkd] at HD HIT
    have HD2 : Hid (pm ts (f + 1) a = allTo (en ts f) (fdB ts (pm ts f)) (a + 1) K) := by show _ = _; rw [HD.out]; simp [h7]
    subst h7
    clear HD hok hkd he
    go_enter Tryd.func41, Tryd.ntmps41
    go_wp2_with fail
    go_loopg [5, 6] K (fun gk p i wr => ∃ j x : Nat, j + gk = K ∧ i = .int .i64 j ∧ p = .int .i64 x ∧ iter (en ts f) (a + 1) j = some x ∧ allTo (en ts f) (fdB ts (pm ts f)) (a + 1) j = true ∧ Below w.heap.size w wr)
    case atStart => exact ⟨0, a + 1, by omega, rfl, by go_num, rfl, rfl, Below.refl _ _⟩
    case round =>
      obtain ⟨j, x, hj', rfl, rfl, hx, hall, hbel⟩ := hrel
      have HJ : Hid (j + gk = K) := hj'
      have hj : j ≤ K := by omega
      have HX : Hid (iter (en ts f) (a + 1) j = some x) := hx
      have HALL : Hid (allTo (en ts f) (fdB ts (pm ts f)) (a + 1) j = true) := hall
      have HB : Hid (Below w.heap.size w wr) := hbel
      have hbr : b < wr.heap.size := by have := hbel.size; omega
      have d0 : wr.cell? ⟨b, o + a * 2, none⟩ = some (.int .i64 7) := by rw [hbel.cell (p := ⟨b, o + a * 2, none⟩) hb]; exact c0
      have d1 : wr.cell? ⟨b, o + a * 2 + 1, none⟩ = some (.int .i64 (K : Int)) := by rw [hbel.cell (p := ⟨b, o + a * 2 + 1, none⟩) hb]; exact c1
      clear hj' hx hall
      by_cases hjk : j < K
      · obtain ⟨y, hy⟩ := iter_part HIT.out (show j + 1 ≤ K by omega)
        have HY : Hid (iter (en ts f) (a + 1) (j + 1) = some y) := hy
        rw [iter_succ, HX.out] at hy
        have hey : en ts f x = some y := hy
        have HEY : Hid (en ts f x = some y) := hey
        have hxl : x < ts.length := by have := en_lt hey; omega
        have hyl := (en_lt hey).2
        obtain ⟨b', o', cap', hv', hb', _, _, x0, x1⟩ := (HV.out.below hbel).at hxl
        cases hv'
        have HN : Hid (allTo (en ts f) (fdB ts (pm ts f)) (a + 1) (j + 1) = fdB ts (pm ts f) x) := by show _ = _; rw [allTo_succ HX.out, HALL.out]; rfl
        have HF : Hid (fdB ts (pm ts f) x = if ts[x].1 = 5 ∨ ts[x].1 = 8 then ppB ts (pm ts f) (x + 1) else ppB ts (pm ts f) x) := fdB_ok hxl
        have HCH : Hid (ts[x].1 = 5 ∨ ts[x].1 = 8 → ∃ e, en ts f (x + 1) = some e) := fun h => by
          cases f with
          | zero => cases hey
          | succ f => exact ⟨_, en_mono (Nat.le_succ f) (en_child hey hxl h)⟩
        obtain ⟨kx, hkx⟩ : ∃ kx, ts[x].1 = kx := ⟨_, rfl⟩
        rw [hkx] at x0 HF HCH
        have HEND : Hid (∀ (q : Bool) (w2 : World), Below wr.heap.size wr w2 → fdB ts (pm ts f) x = q → (q = true → allTo (en ts f) (fdB ts (pm ts f)) (a + 1) (j + 1) = true) ∧ (q = false → pm ts (f + 1) a = false) ∧ Below w.heap.size w w2) := fun q w2 hb2 hbv =>
          ⟨fun hb => by rw [HN.out, hbv, hb], fun hb => by rw [HD2.out]; exact allTo_false (HN.out.trans (hbv.trans hb)) K (by omega), HB.out.trans (hb2.mono HB.out.size)⟩
        clear hy hey hkx hbel c0 c1 x1
        have key : ∀ (q : Bool) (z e : Nat), en ts f z = some e → ppB ts (pm ts f) z = q → True := fun _ _ _ _ _ => trivial
        clear key
        by_cases hq : kx = 5 ∨ kx = 8
        · obtain ⟨ez, hez⟩ := HCH.out hq
          have HPV : Hid (fdB ts (pm ts f) x = ppB ts (pm ts f) (x + 1)) := by show _ = _; rw [HF.out, if_pos hq]
          have HPC : Hid (Calls Tryd.prog 57 #[.slice (some ⟨b, o, none⟩) ts.length cap, .int .i64 ((x : Int) + 1)] wr fun e w'' => e = .returned (.bool (ppB ts (pm ts f) (x + 1))) ∧ Below wr.heap.size wr w'') := by
            have := HPA.out (x + 1) ez wr hez HB.out
            show Calls _ _ _ _ _
            simpa using this
          clear hez HF HCH
          generalize ppB ts (pm ts f) (x + 1) = q at HPV HPC
          rcases hq with rfl | rfl
          all_goals
            go_wp2_with fail
            refine Calls.mono HPC.out ?_
            rintro e w2 ⟨rfl, hb2⟩
            obtain ⟨u1, u2, u4⟩ := HEND.out q w2 hb2 HPV.out
            have HU4 : Hid (Below w.heap.size w w2) := u4
            clear hb2 u4
            cases q with
            | true =>
              have HU : Hid (allTo (en ts f) (fdB ts (pm ts f)) (a + 1) (j + 1) = true) := u1 rfl
              clear u1 u2
              go_wp2_with fail
              refine (HSK.out x y w2 HEY.out HU4.out).mono ?_
              rintro e w3 ⟨rfl, hb3⟩
              have HU5 : Hid (Below w.heap.size w w3) := HU4.out.trans (hb3.mono HU4.out.size)
              clear hb3
              go_wp2_with fail
              go_roundg (gk - 1)
              case rel => exact ⟨j + 1, y, by have := HJ.out; omega, by go_num, rfl, HY.out, HU.out, HU5.out⟩
              case measure => have := HJ.out; omega
            | false =>
              have HR : Hid (pm ts (f + 1) a = false) := u2 rfl
              clear u1 u2
              go_wp2_with fail
              go_ret
              exact ⟨by rw [HR.out]; try rfl, HU4.out⟩
        · have e5 : (kx == 5) = false := beqF (fun h => hq (.inl h))
          have e8 : (kx == 8) = false := beqF (fun h => hq (.inr h))
          have HPV : Hid (fdB ts (pm ts f) x = ppB ts (pm ts f) x) := by show _ = _; rw [HF.out, if_neg hq]
          have HPC : Hid (Calls Tryd.prog 57 #[.slice (some ⟨b, o, none⟩) ts.length cap, .int .i64 (x : Int)] wr fun e w'' => e = .returned (.bool (ppB ts (pm ts f) x)) ∧ Below wr.heap.size wr w'') := HPA.out x y wr HEY.out HB.out
          clear HF HCH hq
          generalize ppB ts (pm ts f) x = q at HPV HPC
          go_wp2_with fail
          refine Calls.mono HPC.out ?_
          rintro e w2 ⟨rfl, hb2⟩
          obtain ⟨u1, u2, u4⟩ := HEND.out q w2 hb2 HPV.out
          have HU4 : Hid (Below w.heap.size w w2) := u4
          clear hb2 u4
          cases q with
          | true =>
            have HU : Hid (allTo (en ts f) (fdB ts (pm ts f)) (a + 1) (j + 1) = true) := u1 rfl
            clear u1 u2
            go_wp2_with fail
            refine (HSK.out x y w2 HEY.out HU4.out).mono ?_
            rintro e w3 ⟨rfl, hb3⟩
            have HU5 : Hid (Below w.heap.size w w3) := HU4.out.trans (hb3.mono HU4.out.size)
            clear hb3
            go_wp2_with fail
            go_roundg (gk - 1)
            case rel => exact ⟨j + 1, y, by have := HJ.out; omega, by go_num, rfl, HY.out, HU.out, HU5.out⟩
            case measure => have := HJ.out; omega
          | false =>
            have HR : Hid (pm ts (f + 1) a = false) := u2 rfl
            clear u1 u2
            go_wp2_with fail
            go_ret
            exact ⟨by rw [HR.out]; try rfl, HU4.out⟩
      · have e1 : j = K := by omega
        have HR : Hid (pm ts (f + 1) a = true) := by show _ = _; rw [HD2.out, ← e1]; exact HALL.out
        clear hbel c0 c1
        go_wp2_with fail
        go_ret
        exact ⟨by rw [HR.out]; try rfl, HB.out⟩
  · have HR : Hid (pm ts (f + 1) a = false) := by show _ = _; rw [HD.out]; simp [h7]
    have e7 : (k != 7) = true := by simp [h7]
    clear HD h7 hok he
    go_enter Tryd.func41, Tryd.ntmps41
    go_wp2_with fail
    go_ret
    exact ⟨by rw [HR.out]; try rfl, Below.refl _ _⟩
theorem l7Message_all (ts : List (Int × Int)) : ∀ f, M7Hyp ts f := by
  intro f
  induction f with
  | zero => intro a e0 vt w _ h; cases h
  | succ f ih => exact l7Message_succ ts f ih
set_option maxHeartbeats 1000000 in
theorem specProtoOk_any (ts : List (Int × Int)) (v : Value) (w : World) (hv : IsTyps w.heap.size w v ts) : Calls Tryd.prog 24 #[v] w fun e w' => e = .returned (.bool (schOk ts && pm ts 7 0)) ∧ Below w.heap.size w w' := by
  have HC : Hid (Calls Tryd.prog 19 #[v] w fun e w' => e = .returned (.bool (schOk ts)) ∧ Below w.heap.size w w') := specSchemaOk_any ts v w hv
  have HM : Hid (schOk ts = true → ∀ w', Below w.heap.size w w' → Calls Tryd.prog 41 #[v, .int .i64 0] w' fun e w'' => e = .returned (.bool (pm ts 7 0)) ∧ Below w'.heap.size w' w'') := fun hs w' hb => l7Message_all ts 7 0 ts.length v w' (Nat.le_refl _) (schOk_iff.1 hs).2 ((hv.below hb).up hb.size)
  clear hv
  generalize schOk ts = s at HC HM ⊢
  generalize pm ts 7 0 = q at HM ⊢
  cases s with
  | false =>
    go_enter Tryd.func24, Tryd.ntmps24
    go_wp2_with fail
    refine Calls.mono HC.out ?_
    rintro e w1 ⟨rfl, hb1⟩
    go_wp2_with fail
    go_ret
    exact ⟨rfl, hb1⟩
  | true =>
    have HM2 : Hid (∀ w', Below w.heap.size w w' → Calls Tryd.prog 41 #[v, .int .i64 0] w' fun e w'' => e = .returned (.bool q) ∧ Below w'.heap.size w' w'') := HM.out rfl
    clear HM
    go_enter Tryd.func24, Tryd.ntmps24
    go_wp2_with fail
    refine Calls.mono HC.out ?_
    rintro e w1 ⟨rfl, hb1⟩
    have HB1 : Hid (Below w.heap.size w w1) := hb1
    clear hb1
    go_wp2_with fail
    refine (HM2.out _ HB1.out).mono ?_
    rintro e w2 ⟨rfl, hb2⟩
    have HB2 : Hid (Below w.heap.size w w2) := HB1.out.trans (hb2.mono HB1.out.size)
    clear hb2
    go_wp2_with fail
    go_ret
    exact ⟨rfl, HB2.out⟩
end Go.Proofs.YtocealohiflheaaDoor
