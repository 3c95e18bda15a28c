/- The program's functions on schemas: contracts. -/
import Derived.Test.YtdphfgdmgckifaaDoorS2f
namespace Go.Proofs.YtdphfgdmgckifaaDoor
open Go.RowKit
set_option linter.unusedVariables false
/-- A node's cells and its parts, opened. -/
theorem TreeAt.open {ts : List (Int × Int)} {f u a : Nat} {w : World} {S : Nat → Prop} (h : TreeAt ts (f + 1) w S u a) : ∃ (ha : a < ts.length) (K e : Nat) (ad : Option Addr) (cap : Nat),
    kids ts[a].1 ts[a].2 = K ∧ K ≤ 6 ∧ tyOk ts[a].1 ts[a].2 = true ∧ en ts (f + 1) a = some e ∧ iter (en ts f) (a + 1) K = some e ∧ w.cell? ⟨u, 2, none⟩ = some (.int .i64 a) ∧ w.cell? ⟨u, 3, none⟩ = some (.int .i64 e) ∧
    w.cell? ⟨u, 4, none⟩ = some (.int .i64 (6 - f : Nat)) ∧ w.cell? ⟨u, 5, none⟩ = some (.slice ad K cap) ∧ K ≤ cap ∧ cap ≤ maxLen ∧
      (K = 0 ∨ ∃ g, ad = some ⟨g, 0, none⟩ ∧ ∀ j, j < K → ∃ c p, iter (en ts f) (a + 1) j = some p ∧ w.cell? ⟨g, j, none⟩ = some (.pointer (some ⟨c, 0, none⟩)) ∧ TreeAt ts f w S c p) := by
  obtain ⟨hu, ha, e, ad, cap, h1, h2, c0, c1, c2, c3, c4, c5, h3, h4, h5⟩ := h
  refine ⟨ha, _, e, ad, cap, rfl, kids_le h1, h1, h2, by rw [← en_ok ha h1]; exact h2, c2, c3, c4, c5, h3, h4, ?_⟩
  rcases h5 with h5 | ⟨g, hg, _, hk⟩
  · exact .inl h5
  · exact .inr ⟨g, hg, hk⟩
set_option maxHeartbeats 1000000 in
theorem deepest_any (ts : List (Int × Int)) : ∀ (f u a : Nat) (w : World) (S : Nat → Prop), f ≤ 7 → TreeAt ts f w S u a →
    Calls Tryd.prog 24 #[.pointer (some ⟨u, 0, none⟩)] w fun e w' => e = .returned (.int .i64 (dp ts f a)) ∧ w' = w := by
  intro f
  induction f with
  | zero => intro u a w S _ h; exact h.elim
  | succ f ih =>
    intro u a w S hf h
    obtain ⟨ha, K, e, ad, cap, hK, hK6, ht, he, hi, c2, c3, c4, c5, h3, h4, h5⟩ := h.open
    have HI : Hid (∀ (u a : Nat) (w : World) (S : Nat → Prop), f ≤ 7 → TreeAt ts f w S u a → Calls Tryd.prog 24 #[.pointer (some ⟨u, 0, none⟩)] w fun e w' => e = .returned (.int .i64 (dp ts f a)) ∧ w' = w) := ih
    have HD : Hid (dp ts (f + 1) a = mxTo (en ts f) (dp ts f) (a + 1) (6 - f) K) := by show _ = _; rw [dp_at ha, hK]
    have HIT : Hid (iter (en ts f) (a + 1) K = some e) := hi
    have H5 : Hid (K = 0 ∨ ∃ g, ad = some ⟨g, 0, none⟩ ∧ ∀ j, j < K → ∃ c p, iter (en ts f) (a + 1) j = some p ∧ w.cell? ⟨g, j, none⟩ = some (.pointer (some ⟨c, 0, none⟩)) ∧ TreeAt ts f w S c p) := h5
    clear ih h hK he hi ht h5 c2 c3
    go_enter Tryd.func24, Tryd.ntmps24
    go_wp2_with fail
    go_loopg [3, 15] K (fun gk m i wr => ∃ j : Nat, j + gk = K ∧ i = .int .i64 j ∧ m = .int .i64 (mxTo (en ts f) (dp ts f) (a + 1) (6 - f) j : Nat) ∧ wr = w)
    case atStart => exact ⟨0, by omega, rfl, rfl, rfl⟩
    case round =>
      obtain ⟨j, hj', rfl, rfl, rfl⟩ := hrel
      have HJ : Hid (j + gk = K) := hj'
      have hj : j ≤ K := by omega
      clear hj'
      by_cases hjk : j < K
      · obtain ⟨g, rfl, hk⟩ := H5.out.resolve_left (by omega)
        obtain ⟨c, p, hp, hcell, htr⟩ := hk j hjk
        have HM : Hid (mxTo (en ts f) (dp ts f) (a + 1) (6 - f) (j + 1) = max (mxTo (en ts f) (dp ts f) (a + 1) (6 - f) j) (dp ts f p)) := mxTo_succ _ _ _ _ _ hp
        have HT : Hid (TreeAt ts f wr S c p) := htr
        clear hk hp htr
        generalize mxTo (en ts f) (dp ts f) (a + 1) (6 - f) j = x at *
        go_wp2_with fail
        refine (HI.out c p _ S (by omega) HT.out).mono ?_
        rintro e w2 ⟨rfl, rfl⟩
        generalize dp ts f p = q at *
        by_cases hpq : x < q
        · go_wp2_with fail
          go_roundg (gk - 1)
          case rel => exact ⟨j + 1, by have := HJ.out; omega, by go_num, by rw [HM.out]; rw [Nat.max_eq_right (by omega)], rfl⟩
          case measure => have := HJ.out; omega
        · go_wp2_with fail
          go_roundg (gk - 1)
          case rel => exact ⟨j + 1, by have := HJ.out; omega, by go_num, by rw [HM.out]; rw [Nat.max_eq_left (by omega)], rfl⟩
          case measure => have := HJ.out; omega
      · have e1 : j = K := by omega
        have HR : Hid (dp ts (f + 1) a = mxTo (en ts f) (dp ts f) (a + 1) (6 - f) j) := by show _ = _; rw [HD.out, e1]
        clear e1
        go_wp2_with fail
        go_ret
        exact ⟨by rw [HR.out]; try rfl, rfl⟩
/-- What find leaves. -/
def FindPost (ts : List (Int × Int)) (f a : Nat) (w : World) (S : Nat → Prop) (p : Int) (e : Ending) : Prop :=
  ∃ e0, en ts f a = some e0 ∧ (((a : Int) ≤ p ∧ p < e0 ∧ ∃ c q f' : Nat, p = q ∧ f' ≤ f ∧ e = .returned (.pointer (some ⟨c, 0, none⟩)) ∧ TreeAt ts f' w S c q) ∨ (¬ ((a : Int) ≤ p ∧ p < e0) ∧ e = .returned (.pointer none)))
set_option maxHeartbeats 1000000 in
theorem find_any (ts : List (Int × Int)) : ∀ (f u a : Nat) (w : World) (S : Nat → Prop) (p : Int), f ≤ 7 → TreeAt ts f w S u a →
    Calls Tryd.prog 27 #[.pointer (some ⟨u, 0, none⟩), .int .i64 p] w fun e w' => FindPost ts f a w S p e ∧ w' = w := by
  intro f
  induction f with
  | zero => intro u a w S p _ h; exact h.elim
  | succ f ih =>
    intro u a w S p hf h
    obtain ⟨ha, K, e, ad, cap, hK, hK6, ht, he, hi, c2, c3, c4, c5, h3, h4, h5⟩ := h.open
    have HI : Hid (∀ (u a : Nat) (w : World) (S : Nat → Prop) (p : Int), f ≤ 7 → TreeAt ts f w S u a → Calls Tryd.prog 27 #[.pointer (some ⟨u, 0, none⟩), .int .i64 p] w fun e w' => FindPost ts f a w S p e ∧ w' = w) := ih
    have HE : Hid (en ts (f + 1) a = some e) := he
    have HIT : Hid (iter (en ts f) (a + 1) K = some e) := hi
    have HT : Hid (TreeAt ts (f + 1) w S u a) := h
    have H5 : Hid (K = 0 ∨ ∃ g, ad = some ⟨g, 0, none⟩ ∧ ∀ j, j < K → ∃ c p, iter (en ts f) (a + 1) j = some p ∧ w.cell? ⟨g, j, none⟩ = some (.pointer (some ⟨c, 0, none⟩)) ∧ TreeAt ts f w S c p) := h5
    have hae : a < e := (en_lt he).1
    clear ih h hK he hi ht h5 c3 c4
    by_cases hpa : (a : Int) = p
    · have hq : ((a : Int) == p) = true := by simp [hpa]
      have HA : Hid ((a : Int) = p) := hpa
      clear hpa
      go_enter Tryd.func27, Tryd.ntmps27
      go_wp2_with fail
      go_ret
      exact ⟨⟨e, HE.out, .inl ⟨by have := HA.out; omega, by have := HA.out; omega, u, a, f + 1, by have := HA.out; omega, Nat.le_refl _, rfl, HT.out⟩⟩, rfl⟩
    · have hq : ((a : Int) == p) = false := beqF hpa
      have HA : Hid (¬ (a : Int) = p) := hpa
      clear hpa
      go_enter Tryd.func27, Tryd.ntmps27
      go_wp2_with fail
      go_loopg [20] K (fun gk i wr => ∃ j x : Nat, j + gk = K ∧ i = .int .i64 j ∧ iter (en ts f) (a + 1) j = some x ∧ (p < a ∨ (x : Int) ≤ p) ∧ wr = w)
      case atStart => exact ⟨0, a + 1, by omega, rfl, rfl, by have := HA.out; omega, rfl⟩
      case round =>
        obtain ⟨j, x, hj', rfl, hx, hpx, rfl⟩ := hrel
        have HJ : Hid (j + gk = K) := hj'
        have hj : j ≤ K := by omega
        have HX : Hid (iter (en ts f) (a + 1) j = some x) := hx
        have HPX : Hid (p < a ∨ (x : Int) ≤ p) := hpx
        have hax : a + 1 ≤ x := iter_up (fun a e h => (en_lt h).1) hx (Nat.zero_le j) (iter_zero _ _)
        clear hj' hx hpx
        by_cases hjk : j < K
        · obtain ⟨g, rfl, hk⟩ := H5.out.resolve_left (by omega)
          obtain ⟨c, p', hp', hcell, htr⟩ := hk j hjk
          have ex : p' = x := by rw [HX.out] at hp'; cases hp'; rfl
          subst ex
          have HTR : Hid (TreeAt ts f wr S c p') := htr
          clear hk hp' htr
          go_wp2_with fail
          refine (HI.out c p' _ S p (by omega) HTR.out).mono ?_
          rintro e' w2 ⟨⟨e0, he0, ⟨q1, q2, c', q, f', q3, q4, rfl, q5⟩ | ⟨q1, rfl⟩⟩, rfl⟩
          · have hle : e0 ≤ e := iter_up (fun a e h => (en_lt h).1) HIT.out (show j + 1 ≤ K by omega) (by rw [iter_succ, HX.out]; exact he0)
            have HQ : Hid (p = q ∧ f' ≤ f ∧ TreeAt ts f' w2 S c' q) := ⟨q3, q4, q5⟩
            have HL : Hid ((a : Int) ≤ p ∧ p < e) := ⟨by omega, by omega⟩
            clear q1 q2 q3 q4 q5 he0 hle
            go_wp2_with fail
            go_ret
            exact ⟨⟨e, HE.out, .inl ⟨HL.out.1, HL.out.2, c', q, f', HQ.out.1, by have := HQ.out.2.1; omega, rfl, HQ.out.2.2⟩⟩, rfl⟩
          · have hx' := (en_lt he0).1
            have HS : Hid (iter (en ts f) (a + 1) (j + 1) = some e0) := by show _ = _; rw [iter_succ, HX.out]; exact he0
            have HN : Hid (p < a ∨ (e0 : Int) ≤ p) := by show _ ∨ _; have := HPX.out; omega
            clear q1 he0 hx'
            go_wp2_with fail
            go_roundg (gk - 1)
            case rel => exact ⟨j + 1, e0, by have := HJ.out; omega, by go_num, HS.out, HN.out, rfl⟩
            case measure => have := HJ.out; omega
        · have e1 : j = K := by omega
          have e2 : x = e := by have h1 := HX.out; rw [e1, HIT.out] at h1; cases h1; rfl
          have HN : Hid (¬ ((a : Int) ≤ p ∧ p < e)) := by show ¬ _; have := HPX.out; omega
          clear e1 e2
          go_wp2_with fail
          go_ret
          exact ⟨⟨e, HE.out, .inr ⟨HN.out, rfl⟩⟩, rfl⟩
end Go.Proofs.YtdphfgdmgckifaaDoor
