/- The specification's functions on schemas: where a type ends, how deep it lies. -/
import Derived.Test.YtepffjfgomhepaaGreatDoorS2a
import Derived.Deep.LoopGhost
namespace Go.Proofs.YtepffjfgomhepaaGreatDoor
open Go.RowKit
set_option linter.unusedVariables false
/-- What l2End answers. -/
def endRes (ts : List (Int × Int)) (f a : Nat) : Value := match en ts f a with
  | none => .tuple #[.int .i64 (-1), .int .i64 0]
  | some e => .tuple #[.int .i64 e, .int .i64 (dp ts f a)]
theorem endRes_none {ts : List (Int × Int)} {f a : Nat} (h : en ts f a = none) : endRes ts f a = .tuple #[.int .i64 (-1), .int .i64 0] := by simp [endRes, h]
theorem endRes_some {ts : List (Int × Int)} {f a e : Nat} (h : en ts f a = some e) : endRes ts f a = .tuple #[.int .i64 e, .int .i64 (dp ts f a)] := by simp [endRes, h]
set_option maxHeartbeats 1000000 in
theorem l2End_any (ts : List (Int × Int)) : ∀ (f : Nat) (a : Nat) (d : Int) (v : Value) (w : World), d + f = 7 → 0 ≤ d → a ≤ 1048577 → IsTyps w.heap.size w v ts →
    Calls Tryz.prog 48 #[v, .int .i64 a, .int .i64 d] w fun e w' => e = .returned (endRes ts f a) ∧ Below w.heap.size w w' := by
  intro f
  induction f with
  | zero =>
    intro a d v w hd hd0 ha hv
    rw [endRes_none (en_zero _ _)]
    obtain ⟨ad, cap, hv', h1, h2, h3⟩ := hv.form
    subst hv'
    clear h3
    have hd7 : (6 : Int) < d := by omega
    have hd6 : decide ((6 : Int) < d) = true := by simpa using hd7
    by_cases hlt : a < ts.length
    · have hl : decide (ts.length ≤ a) = false := by simp; omega
      go_enter Tryz.func48, Tryz.ntmps48
      go_wp2_with fail
      go_ret2
      exact ⟨rfl, Below.refl _ _⟩
    · have hl : decide (ts.length ≤ a) = true := by simp; omega
      go_enter Tryz.func48, Tryz.ntmps48
      go_wp2_with fail
      go_ret2
      exact ⟨rfl, Below.refl _ _⟩
  | succ f ih =>
    intro a d v w hd hd0 ha hv
    by_cases hlt : a < ts.length
    · obtain ⟨b, o, cap, hv', hb, h1, h2, c0, c1⟩ := hv.at hlt
      have HV : Hid (IsTyps w.heap.size w v ts) := hv
      clear hv
      have hl : decide (ts.length ≤ a) = false := by simp; omega
      have hd6 : decide ((6 : Int) < d) = false := by simp; omega
      cases ht : tyOk ts[a].1 ts[a].2 with
      | false =>
        rw [endRes_none (en_bad hlt ht)]
        generalize ts[a].1 = k at *
        generalize ts[a].2 = n at *
        subst hv'
        go_enter Tryz.func48, Tryz.ntmps48
        go_wp2_with (go_at_call 73; refine (l2Typ_any _ _ _).mono ?_; rintro e w' ⟨rfl, hb'⟩)
        go_ret2
        exact ⟨rfl, hb'⟩
      | true =>
        have HE : Hid (en ts (f + 1) a = iter (en ts f) (a + 1) (kids ts[a].1 ts[a].2)) := en_ok hlt ht
        have HD : Hid (dp ts (f + 1) a = mxTo (en ts f) (dp ts f) (a + 1) (6 - f) (kids ts[a].1 ts[a].2)) := dp_at hlt
        have hkd : kids ts[a].1 ts[a].2 ≤ 6 := kids_le ht
        generalize ts[a].1 = k at *
        generalize ts[a].2 = n at *
        obtain ⟨K, hK⟩ : ∃ K, kids k n = K := ⟨_, rfl⟩
        rw [hK] at hkd
        have HK : Hid (kids k n = K) := hK
        clear hK
        have HI : Hid (∀ (a : Nat) (d : Int) (v : Value) (w : World), d + f = 7 → 0 ≤ d → a ≤ 1048577 → IsTyps w.heap.size w v ts → Calls Tryz.prog 48 #[v, .int .i64 a, .int .i64 d] w fun e w' => e = .returned (endRes ts f a) ∧ Below w.heap.size w w') := ih
        clear ih
        have Hv' : Hid (v = .slice (some ⟨b, o, none⟩) ts.length cap) := hv'
        have hdlo : d ≤ 6 := by omega
        have Hd : Hid (d + ((f + 1 : Nat) : Int) = 7) := hd
        clear hd
        subst hv'
        go_enter Tryz.func48, Tryz.ntmps48
        go_wp2_with (go_at_call 73; refine (l2Typ_any _ _ _).mono ?_; rintro e w1 ⟨rfl, hb1⟩)
        go_loopg [8, 9, 10] K (fun gk e m i wr => ∃ j x : Nat, j + gk = K ∧ iter (en ts f) (a + 1) j = some x ∧ e = .int .i64 x ∧ m = .int .i64 (mxTo (en ts f) (dp ts f) (a + 1) (6 - f) j : Nat) ∧ i = .int .i64 j ∧ Below w.heap.size w wr)
        case atStart => exact ⟨0, a + 1, by omega, rfl, by go_num, by simp only [mxTo]; have := Hd.out; congr 1; omega, rfl, hb1⟩
        case round =>
          obtain ⟨j, x, hj', hx, rfl, rfl, rfl, hb⟩ := hrel
          have hj : j ≤ K := by omega
          have HJ : Hid (j + gk = K) := hj'
          clear hj'
          have hxl : x ≤ 1048577 := by
            cases j with
            | zero => cases hx; have := HV.out.small; omega
            | succ j =>
              rw [iter_succ] at hx
              obtain ⟨y, _, hy⟩ := Option.bind_eq_some_iff.1 hx
              have := (en_lt hy).2
              have := HV.out.small
              omega
          have HX : Hid (iter (en ts f) (a + 1) j = some x) := hx
          clear hx
          have c0' : wr.cell? ⟨b, o + a * 2, none⟩ = some (.int .i64 k) := by rw [hb.cell (p := ⟨b, o + a * 2, none⟩) ‹_›]; exact c0
          have c1' : wr.cell? ⟨b, o + a * 2 + 1, none⟩ = some (.int .i64 n) := by rw [hb.cell (p := ⟨b, o + a * 2 + 1, none⟩) ‹_›]; exact c1
          go_wp2_with (go_at_call 70; refine (l2Kids_any _ _ _ (by assumption)).mono ?_; rintro e w2 ⟨rfl, hb2⟩; rw [HK.out])
          · have hbw : Below w.heap.size w w2 := hb.trans (hb2.mono hb.size)
            refine (HI.out x (d + 1) _ w2 (by have := Hd.out; omega) (by omega) hxl ((HV.out.below hbw).up hbw.size)).mono ?_
            rintro e w3 ⟨rfl, hb3⟩
            have hb' := hbw.trans (hb3.mono hbw.size)
            clear hbw hb3 hb2
            cases he : en ts f x with
            | none =>
              rw [endRes_none he]
              have HR : Hid (endRes ts (f + 1) a = .tuple #[.int .i64 (-1), .int .i64 0]) := endRes_none (by rw [HE.out, HK.out]; exact iter_none (j := j + 1) (by rw [iter_succ, HX.out]; exact he) K (by omega))
              clear he
              go_wp2_with fail
              go_ret2
              exact ⟨by rw [HR.out]; try rfl, hb'⟩
            | some y =>
              rw [endRes_some he]
              have HS : Hid (iter (en ts f) (a + 1) (j + 1) = some y) := by show _ = _; rw [iter_succ, HX.out]; exact he
              have HM : Hid (mxTo (en ts f) (dp ts f) (a + 1) (6 - f) (j + 1) = max (mxTo (en ts f) (dp ts f) (a + 1) (6 - f) j) (dp ts f x)) := mxTo_succ _ _ _ _ _ HX.out
              clear he
              generalize mxTo (en ts f) (dp ts f) (a + 1) (6 - f) j = p at *
              generalize dp ts f x = q at *
              by_cases hpq : p < q
              · go_wp2_with fail
                go_roundg (gk - 1)
                case rel => exact ⟨j + 1, y, by have := HJ.out; omega, HS.out, rfl, by rw [HM.out]; rw [Nat.max_eq_right (by omega)], by go_num, hb'⟩
                case measure => have := HJ.out; omega
              · go_wp2_with fail
                go_roundg (gk - 1)
                case rel => exact ⟨j + 1, y, by have := HJ.out; omega, HS.out, rfl, by rw [HM.out]; rw [Nat.max_eq_left (by omega)], by go_num, hb'⟩
                case measure => have := HJ.out; omega
          · have hbw : Below w.heap.size w w2 := hb.trans (hb2.mono hb.size)
            have e1 : j = K := by omega
            have HR : Hid (endRes ts (f + 1) a = .tuple #[.int .i64 x, .int .i64 (mxTo (en ts f) (dp ts f) (a + 1) (6 - f) j : Nat)]) := by
              show _ = _
              rw [endRes_some (e := x) (by rw [HE.out, HK.out, ← e1]; exact HX.out), HD.out, HK.out, e1]
            clear e1
            go_ret2
            exact ⟨by rw [HR.out]; try rfl, hbw⟩
    · rw [endRes_none (en_none (by omega))]
      obtain ⟨ad, cap, hv', h1, h2, h3⟩ := hv.form
      subst hv'
      clear h3
      have hl : decide (ts.length ≤ a) = true := by simp; omega
      go_enter Tryz.func48, Tryz.ntmps48
      go_wp2_with fail
      go_ret2
      exact ⟨rfl, Below.refl _ _⟩
end Go.Proofs.YtepffjfgomhepaaGreatDoor
