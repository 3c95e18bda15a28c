/- S2a, S2b, S2c, S2d: one text. -/
import Derived.Test.YtocealohiflheaaDoorPt
import Derived.Deep.LoopGhost
namespace Go.Proofs.YtocealohiflheaaDoor
open Go.RowKit
set_option linter.unusedVariables false
def inI (n : Int) : Prop := -9223372036854775808 ≤ n ∧ n ≤ 9223372036854775807
/-- A slice of types in memory: its elements, each in two cells, in blocks below B. -/
structure IsTyps (B : Nat) (w : World) (v : Value) (ts : List (Int × Int)) : Prop where
  small : ts.length ≤ 1048577
  wf : ∀ t ∈ ts, inI t.1 ∧ inI t.2
  form : ∃ ad cap, v = .slice ad ts.length cap ∧ ts.length ≤ cap ∧ cap ≤ maxLen ∧
    (ts.length = 0 ∨ ∃ b o : Nat, ad = some ⟨b, o, none⟩ ∧ b < B ∧ ∀ i (h : i < ts.length), w.cell? ⟨b, o + i * 2, none⟩ = some (.int .i64 ts[i].1) ∧ w.cell? ⟨b, o + i * 2 + 1, none⟩ = some (.int .i64 ts[i].2))
theorem IsTyps.below {B : Nat} {w w' : World} {v : Value} {ts : List (Int × Int)} (h : IsTyps B w v ts) (hb : Below B w w') : IsTyps B w' v ts := by
  obtain ⟨ad, cap, hv, h1, h2, h3⟩ := h.form
  refine ⟨h.small, h.wf, ad, cap, hv, h1, h2, ?_⟩
  rcases h3 with h3 | ⟨b, o, ha, hlt, hc⟩
  · exact .inl h3
  · exact .inr ⟨b, o, ha, hlt, fun i hi => by rw [hb.cell (p := ⟨b, o + i * 2, none⟩) hlt, hb.cell (p := ⟨b, o + i * 2 + 1, none⟩) hlt]; exact hc i hi⟩
theorem IsTyps.up {B B' : Nat} {w : World} {v : Value} {ts : List (Int × Int)} (h : IsTyps B w v ts) (hB : B ≤ B') : IsTyps B' w v ts := by
  obtain ⟨ad, cap, hv, h1, h2, h3⟩ := h.form
  refine ⟨h.small, h.wf, ad, cap, hv, h1, h2, ?_⟩
  rcases h3 with h3 | ⟨b, o, ha, hlt, hc⟩
  · exact .inl h3
  · exact .inr ⟨b, o, ha, by omega, hc⟩
/-- The type at a place, as the walk reads it. -/
theorem IsTyps.at {B : Nat} {w : World} {v : Value} {ts : List (Int × Int)} (h : IsTyps B w v ts) {i : Nat} (hi : i < ts.length) :
    ∃ b o cap : Nat, v = .slice (some ⟨b, o, none⟩) ts.length cap ∧ b < B ∧ ts.length ≤ cap ∧ cap ≤ maxLen ∧ w.cell? ⟨b, o + i * 2, none⟩ = some (.int .i64 ts[i].1) ∧ w.cell? ⟨b, o + i * 2 + 1, none⟩ = some (.int .i64 ts[i].2) := by
  obtain ⟨ad, cap, hv, h1, h2, h3⟩ := h.form
  rcases h3 with h3 | ⟨b, o, ha, hlt, hc⟩
  · omega
  · exact ⟨b, o, cap, by rw [hv, ha], hlt, h1, h2, (hc i hi).1, (hc i hi).2⟩
theorem l1InW_any (n a b : Int) (w : World) : Calls Tryd.prog 72 #[.int .i64 n, .int .i64 a, .int .i64 b] w fun e w' => e = .returned (.bool (decide (a ≤ n ∧ n ≤ b))) ∧ w' = w := by
  by_cases h1 : a ≤ n <;> by_cases h2 : n ≤ b
  all_goals
    go_enter Tryd.func72, Tryd.ntmps72
    go_wp2
    go_ret
    exact ⟨by simp [h1, h2], rfl⟩
theorem bel1 (w : World) (o : Obj) : Below w.heap.size w (w.alloc o) := (Below.refl _ _).alloc (Nat.le_refl _) _
set_option maxHeartbeats 400000 in
theorem l2Kids_any (k n : Int) (w : World) (hok : tyOk k n = true) : Calls Tryd.prog 56 #[.agg #[.int .i64 k, .int .i64 n]] w fun e w' => e = .returned (.int .i64 (kids k n)) ∧ Below w.heap.size w w' := by
  simp only [tyOk, decide_eq_true_eq] at hok
  have hk : k = 1 ∨ k = 2 ∨ k = 3 ∨ k = 4 ∨ k = 5 ∨ k = 6 ∨ k = 7 ∨ k = 8 ∨ k = 9 := by omega
  rcases hk with rfl | rfl | rfl | rfl | rfl | rfl | rfl | rfl | rfl
  all_goals
    go_enter Tryd.func56, Tryd.ntmps56
    go_wp2
    go_ret
    exact ⟨by simp [kids] <;> omega, bel1 _ _⟩
theorem ret_b {a b : Bool} (h : a = b) : Ending.returned (.bool a) = .returned (.bool b) := by rw [h]
theorem ret_i {k : IntKind} {a b : Int} (h : a = b) : Ending.returned (.int k a) = .returned (.int k b) := by rw [h]
theorem ret_ii {a b c d : Int} (h : a = c) (h' : b = d) : Ending.returned (.tuple #[.int .i64 a, .int .i64 b]) = .returned (.tuple #[.int .i64 c, .int .i64 d]) := by rw [h, h']
theorem beqF {a b : Int} (h : a ≠ b) : (a == b) = false := by simp [h]
theorem beq_dec (a b : Int) : (a == b) = decide (a = b) := by by_cases h : a = b <;> simp [h]
theorem tyOk_other {k n : Int} (h : k < 1 ∨ 9 < k) : tyOk k n = false := by
  simp only [tyOk, decide_eq_false_iff_not]; omega
set_option maxHeartbeats 400000 in
theorem l2Typ_any (k n : Int) (w : World) : Calls Tryd.prog 55 #[.agg #[.int .i64 k, .int .i64 n]] w fun e w' => e = .returned (.bool (tyOk k n)) ∧ Below w.heap.size w w' := by
  by_cases hr : k < 1 ∨ 9 < k
  · rw [tyOk_other hr]
    have k1 := beqF (show k ≠ 1 by omega)
    have k2 := beqF (show k ≠ 2 by omega)
    have k3 := beqF (show k ≠ 3 by omega)
    have k4 := beqF (show k ≠ 4 by omega)
    have k5 := beqF (show k ≠ 5 by omega)
    have k6 := beqF (show k ≠ 6 by omega)
    have k7 := beqF (show k ≠ 7 by omega)
    have k8 := beqF (show k ≠ 8 by omega)
    have k9 := beqF (show k ≠ 9 by omega)
    clear hr
    go_enter Tryd.func55, Tryd.ntmps55
    go_wp2
    go_ret
    exact ⟨rfl, bel1 _ _⟩
  · have hk : k = 1 ∨ k = 2 ∨ k = 3 ∨ k = 4 ∨ k = 5 ∨ k = 6 ∨ k = 7 ∨ k = 8 ∨ k = 9 := by omega
    clear hr
    rcases hk with rfl | hk
    · by_cases h1 : n = 8
      · subst h1
        go_enter Tryd.func55, Tryd.ntmps55
        go_wp2
        go_ret
        exact ⟨rfl, bel1 _ _⟩
      by_cases h2 : n = 16
      · subst h2
        go_enter Tryd.func55, Tryd.ntmps55
        go_wp2
        go_ret
        exact ⟨rfl, bel1 _ _⟩
      by_cases h3 : n = 32
      · subst h3
        go_enter Tryd.func55, Tryd.ntmps55
        go_wp2
        go_ret
        exact ⟨rfl, bel1 _ _⟩
      have h1 := beqF h1
      have h2 := beqF h2
      have h3 := beqF h3
      go_enter Tryd.func55, Tryd.ntmps55
      go_wp2
      go_ret
      exact ⟨ret_b (by simp at h1 h2 h3; simp [tyOk, h1, h2, h3, beq_dec]), bel1 _ _⟩
    · rcases hk with rfl | rfl | rfl | rfl | rfl | rfl | rfl | rfl
      all_goals
        go_enter Tryd.func55, Tryd.ntmps55
        go_wp2_with (go_at_call 72; refine (l1InW_any _ _ _ _).mono ?_; rintro e w' ⟨rfl, rfl⟩)
        go_ret
        exact ⟨ret_b (by simp [tyOk, beq_dec]), bel1 _ _⟩
end Go.Proofs.YtocealohiflheaaDoor
namespace Go.Proofs.YtocealohiflheaaDoor
open Go.RowKit
set_option linter.unusedVariables false
/-- What l2End answers. -/
def endRes (ts : List (Int × Int)) (f a : Nat) : Value := match en ts f a with
  | none => .tuple #[.int .i64 (-1), .int .i64 0]
  | some e => .tuple #[.int .i64 e, .int .i64 (dp ts f a)]
theorem endRes_none {ts : List (Int × Int)} {f a : Nat} (h : en ts f a = none) : endRes ts f a = .tuple #[.int .i64 (-1), .int .i64 0] := by simp [endRes, h]
theorem endRes_some {ts : List (Int × Int)} {f a e : Nat} (h : en ts f a = some e) : endRes ts f a = .tuple #[.int .i64 e, .int .i64 (dp ts f a)] := by simp [endRes, h]
set_option maxHeartbeats 1000000 in
theorem l2End_any (ts : List (Int × Int)) : ∀ (f : Nat) (a : Nat) (d : Int) (v : Value) (w : World), d + f = 7 → 0 ≤ d → a ≤ 1048577 → IsTyps w.heap.size w v ts →
    Calls Tryd.prog 39 #[v, .int .i64 a, .int .i64 d] w fun e w' => e = .returned (endRes ts f a) ∧ Below w.heap.size w w' := by
  intro f
  induction f with
  | zero =>
    intro a d v w hd hd0 ha hv
    rw [endRes_none (en_zero _ _)]
    obtain ⟨ad, cap, hv', h1, h2, h3⟩ := hv.form
    subst hv'
    clear h3
    have hd7 : (6 : Int) < d := by omega
    have hd6 : decide ((6 : Int) < d) = true := by simpa using hd7
    by_cases hlt : a < ts.length
    · have hl : decide (ts.length ≤ a) = false := by simp; omega
      go_enter Tryd.func39, Tryd.ntmps39
      go_wp2_with fail
      go_ret2
      exact ⟨rfl, Below.refl _ _⟩
    · have hl : decide (ts.length ≤ a) = true := by simp; omega
      go_enter Tryd.func39, Tryd.ntmps39
      go_wp2_with fail
      go_ret2
      exact ⟨rfl, Below.refl _ _⟩
  | succ f ih =>
    intro a d v w hd hd0 ha hv
    by_cases hlt : a < ts.length
    · obtain ⟨b, o, cap, hv', hb, h1, h2, c0, c1⟩ := hv.at hlt
      have HV : Hid (IsTyps w.heap.size w v ts) := hv
      clear hv
      have hl : decide (ts.length ≤ a) = false := by simp; omega
      have hd6 : decide ((6 : Int) < d) = false := by simp; omega
      cases ht : tyOk ts[a].1 ts[a].2 with
      | false =>
        rw [endRes_none (en_bad hlt ht)]
        generalize ts[a].1 = k at *
        generalize ts[a].2 = n at *
        subst hv'
        go_enter Tryd.func39, Tryd.ntmps39
        go_wp2_with (go_at_call 55; refine (l2Typ_any _ _ _).mono ?_; rintro e w' ⟨rfl, hb'⟩)
        go_ret2
        exact ⟨rfl, hb'⟩
      | true =>
        have HE : Hid (en ts (f + 1) a = iter (en ts f) (a + 1) (kids ts[a].1 ts[a].2)) := en_ok hlt ht
        have HD : Hid (dp ts (f + 1) a = mxTo (en ts f) (dp ts f) (a + 1) (6 - f) (kids ts[a].1 ts[a].2)) := dp_at hlt
        have hkd : kids ts[a].1 ts[a].2 ≤ 6 := kids_le ht
        generalize ts[a].1 = k at *
        generalize ts[a].2 = n at *
        obtain ⟨K, hK⟩ : ∃ K, kids k n = K := ⟨_, rfl⟩
        rw [hK] at hkd
        have HK : Hid (kids k n = K) := hK
        clear hK
        have HI : Hid (∀ (a : Nat) (d : Int) (v : Value) (w : World), d + f = 7 → 0 ≤ d → a ≤ 1048577 → IsTyps w.heap.size w v ts → Calls Tryd.prog 39 #[v, .int .i64 a, .int .i64 d] w fun e w' => e = .returned (endRes ts f a) ∧ Below w.heap.size w w') := ih
        clear ih
        have Hv' : Hid (v = .slice (some ⟨b, o, none⟩) ts.length cap) := hv'
        have hdlo : d ≤ 6 := by omega
        have Hd : Hid (d + ((f + 1 : Nat) : Int) = 7) := hd
        clear hd
        subst hv'
        go_enter Tryd.func39, Tryd.ntmps39
        go_wp2_with (go_at_call 55; refine (l2Typ_any _ _ _).mono ?_; rintro e w1 ⟨rfl, hb1⟩)
        go_loopg [8, 9, 10] K (fun gk e m i wr => ∃ j x : Nat, j + gk = K ∧ iter (en ts f) (a + 1) j = some x ∧ e = .int .i64 x ∧ m = .int .i64 (mxTo (en ts f) (dp ts f) (a + 1) (6 - f) j : Nat) ∧ i = .int .i64 j ∧ Below w.heap.size w wr)
        case atStart => exact ⟨0, a + 1, by omega, rfl, by go_num, by simp only [mxTo]; have := Hd.out; congr 1; omega, rfl, hb1⟩
        case round =>
          obtain ⟨j, x, hj', hx, rfl, rfl, rfl, hb⟩ := hrel
          have hj : j ≤ K := by omega
          have HJ : Hid (j + gk = K) := hj'
          clear hj'
          have hxl : x ≤ 1048577 := by
            cases j with
            | zero => cases hx; have := HV.out.small; omega
            | succ j =>
              rw [iter_succ] at hx
              obtain ⟨y, _, hy⟩ := Option.bind_eq_some_iff.1 hx
              have := (en_lt hy).2
              have := HV.out.small
              omega
          have HX : Hid (iter (en ts f) (a + 1) j = some x) := hx
          clear hx
          have c0' : wr.cell? ⟨b, o + a * 2, none⟩ = some (.int .i64 k) := by rw [hb.cell (p := ⟨b, o + a * 2, none⟩) ‹_›]; exact c0
          have c1' : wr.cell? ⟨b, o + a * 2 + 1, none⟩ = some (.int .i64 n) := by rw [hb.cell (p := ⟨b, o + a * 2 + 1, none⟩) ‹_›]; exact c1
          go_wp2_with (go_at_call 56; refine (l2Kids_any _ _ _ (by assumption)).mono ?_; rintro e w2 ⟨rfl, hb2⟩; rw [HK.out])
          · have hbw : Below w.heap.size w w2 := hb.trans (hb2.mono hb.size)
            refine (HI.out x (d + 1) _ w2 (by have := Hd.out; omega) (by omega) hxl ((HV.out.below hbw).up hbw.size)).mono ?_
            rintro e w3 ⟨rfl, hb3⟩
            have hb' := hbw.trans (hb3.mono hbw.size)
            clear hbw hb3 hb2
            cases he : en ts f x with
            | none =>
              rw [endRes_none he]
              have HR : Hid (endRes ts (f + 1) a = .tuple #[.int .i64 (-1), .int .i64 0]) := endRes_none (by rw [HE.out, HK.out]; exact iter_none (j := j + 1) (by rw [iter_succ, HX.out]; exact he) K (by omega))
              clear he
              go_wp2_with fail
              go_ret2
              exact ⟨by rw [HR.out]; try rfl, hb'⟩
            | some y =>
              rw [endRes_some he]
              have HS : Hid (iter (en ts f) (a + 1) (j + 1) = some y) := by show _ = _; rw [iter_succ, HX.out]; exact he
              have HM : Hid (mxTo (en ts f) (dp ts f) (a + 1) (6 - f) (j + 1) = max (mxTo (en ts f) (dp ts f) (a + 1) (6 - f) j) (dp ts f x)) := mxTo_succ _ _ _ _ _ HX.out
              clear he
              generalize mxTo (en ts f) (dp ts f) (a + 1) (6 - f) j = p at *
              generalize dp ts f x = q at *
              by_cases hpq : p < q
              · go_wp2_with fail
                go_roundg (gk - 1)
                case rel => exact ⟨j + 1, y, by have := HJ.out; omega, HS.out, rfl, by rw [HM.out]; rw [Nat.max_eq_right (by omega)], by go_num, hb'⟩
                case measure => have := HJ.out; omega
              · go_wp2_with fail
                go_roundg (gk - 1)
                case rel => exact ⟨j + 1, y, by have := HJ.out; omega, HS.out, rfl, by rw [HM.out]; rw [Nat.max_eq_left (by omega)], by go_num, hb'⟩
                case measure => have := HJ.out; omega
          · have hbw : Below w.heap.size w w2 := hb.trans (hb2.mono hb.size)
            have e1 : j = K := by omega
            have HR : Hid (endRes ts (f + 1) a = .tuple #[.int .i64 x, .int .i64 (mxTo (en ts f) (dp ts f) (a + 1) (6 - f) j : Nat)]) := by
              show _ = _
              rw [endRes_some (e := x) (by rw [HE.out, HK.out, ← e1]; exact HX.out), HD.out, HK.out, e1]
            clear e1
            go_ret2
            exact ⟨by rw [HR.out]; try rfl, hbw⟩
    · rw [endRes_none (en_none (by omega))]
      obtain ⟨ad, cap, hv', h1, h2, h3⟩ := hv.form
      subst hv'
      clear h3
      have hl : decide (ts.length ≤ a) = true := by simp; omega
      go_enter Tryd.func39, Tryd.ntmps39
      go_wp2_with fail
      go_ret2
      exact ⟨rfl, Below.refl _ _⟩
end Go.Proofs.YtocealohiflheaaDoor
namespace Go.Proofs.YtocealohiflheaaDoor
open Go.RowKit
set_option linter.unusedVariables false
theorem schOk_big {ts : List (Int × Int)} (h : 40 < ts.length) : schOk ts = false := by simp [schOk]; omega
theorem schOk_no {ts : List (Int × Int)} (h : en ts 7 0 = none) : schOk ts = false := by simp [schOk, h]
theorem schOk_end {ts : List (Int × Int)} {e : Nat} (h40 : ts.length ≤ 40) (h : en ts 7 0 = some e) : schOk ts = decide (e = ts.length) := by
  by_cases e1 : e = ts.length <;> simp [schOk, h, h40, e1]
theorem schOk_inv {ts : List (Int × Int)} (h : schOk ts = true) : ts.length ≤ 40 ∧ en ts 7 0 = some ts.length := by simpa [schOk] using h
set_option maxHeartbeats 400000 in
theorem specSchemaOk_any (ts : List (Int × Int)) (v : Value) (w : World) (hv : IsTyps w.heap.size w v ts) : Calls Tryd.prog 19 #[v] w fun e w' => e = .returned (.bool (schOk ts)) ∧ Below w.heap.size w w' := by
  have HV : Hid (IsTyps w.heap.size w v ts) := hv
  obtain ⟨ad, cap, rfl, h1, h2, h3⟩ := hv.form
  clear h3 hv
  by_cases h40 : 40 < ts.length
  · rw [schOk_big h40]
    go_enter Tryd.func19, Tryd.ntmps19
    go_wp2_with fail
    go_ret
    exact ⟨rfl, Below.refl _ _⟩
  · have hd : decide ((40 : Int) < ts.length) = false := by simp; omega
    go_enter Tryd.func19, Tryd.ntmps19
    go_wp2_with fail
    refine (l2End_any ts 7 0 0 _ w (by omega) (by omega) (by omega) HV.out).mono ?_
    rintro e w1 ⟨rfl, hb⟩
    cases he : en ts 7 0 with
    | none =>
      rw [endRes_none he]
      have HR : Hid (schOk ts = false) := schOk_no he
      clear he
      have hn : ((-1 : Int) == (ts.length : Int)) = false := beqF (by omega)
      go_wp2_with fail
      go_ret
      exact ⟨by rw [HR.out]; try rfl, hb⟩
    | some x =>
      rw [endRes_some he]
      have HR : Hid (schOk ts = decide (x = ts.length)) := schOk_end (by omega) he
      clear he
      go_wp2_with fail
      go_ret
      exact ⟨by rw [HR.out]; exact ret_b (by simp [beq_dec]; omega), hb⟩
theorem endOf_out {ts : List (Int × Int)} {a : Int} (h : ¬ (0 ≤ a ∧ a < ts.length)) : endOf ts a = -1 := by
  unfold endOf; rw [if_neg]; simp only [Bool.and_eq_true, decide_eq_true_eq]; omega
theorem endOf_no {ts : List (Int × Int)} {a : Int} (h : schOk ts = false) : endOf ts a = -1 := by simp [endOf, h]
theorem endOf_in {ts : List (Int × Int)} {a : Nat} (hs : schOk ts = true) (h : a < ts.length) : endOf ts a = (((en ts 7 a).map Int.ofNat).getD (-1)) := by
  have e : decide ((0 : Int) ≤ a ∧ (a : Int) < ts.length) = true := by simp; exact h
  unfold endOf; rw [hs, e, Bool.and_self, if_pos rfl, Int.toNat_natCast]
set_option maxHeartbeats 400000 in
theorem l2Skip_any (ts : List (Int × Int)) (a : Nat) (v : Value) (w : World) (ha : a ≤ 1048577) (hv : IsTyps w.heap.size w v ts) : Calls Tryd.prog 58 #[v, .int .i64 a] w fun e w' => e = .returned (.int .i64 (((en ts 7 a).map Int.ofNat).getD (-1))) ∧ Below w.heap.size w w' := by
  have HV : Hid (IsTyps w.heap.size w v ts) := hv
  clear hv
  cases he : en ts 7 a with
  | none =>
    have HC : Hid (endRes ts 7 a = .tuple #[.int .i64 (-1), .int .i64 0]) := endRes_none he
    clear he
    go_enter Tryd.func58, Tryd.ntmps58
    go_wp2_with fail
    refine (l2End_any ts 7 a 0 _ w (by omega) (by omega) ha HV.out).mono ?_
    rintro e w1 ⟨rfl, hb⟩
    rw [HC.out]
    go_wp2_with fail
    go_ret
    exact ⟨rfl, hb⟩
  | some x =>
    have HC : Hid (endRes ts 7 a = .tuple #[.int .i64 x, .int .i64 (dp ts 7 a)]) := endRes_some he
    clear he
    go_enter Tryd.func58, Tryd.ntmps58
    go_wp2_with fail
    refine (l2End_any ts 7 a 0 _ w (by omega) (by omega) ha HV.out).mono ?_
    rintro e w1 ⟨rfl, hb⟩
    rw [HC.out]
    go_wp2_with fail
    go_ret
    exact ⟨rfl, hb⟩
end Go.Proofs.YtocealohiflheaaDoor
namespace Go.Proofs.YtocealohiflheaaDoor
open Go.RowKit
set_option linter.unusedVariables false
/-- The cells of the table of kinds. -/
def kc : Array Value := #[.int .i64 1, .string ⟨#[117]⟩, .bool true, .int .i64 8, .int .i64 64, .int .i64 2, .string ⟨#[98, 111, 111, 108]⟩, .bool false, .int .i64 0, .int .i64 0, .int .i64 3, .string ⟨#[98, 121, 116, 101, 115]⟩, .bool true, .int .i64 0, .int .i64 200, .int .i64 4, .string ⟨#[102, 105, 120, 101, 100]⟩, .bool true, .int .i64 1, .int .i64 64, .int .i64 5, .string ⟨#[108, 105, 115, 116]⟩, .bool true, .int .i64 1, .int .i64 20, .int .i64 6, .string ⟨#[118, 101, 99, 116, 111, 114]⟩, .bool true, .int .i64 1, .int .i64 8, .int .i64 7, .string ⟨#[115, 116, 114, 117, 99, 116]⟩, .bool true, .int .i64 1, .int .i64 6, .int .i64 8, .string ⟨#[111, 112, 116, 105, 111, 110]⟩, .bool false, .int .i64 0, .int .i64 0, .int .i64 9, .string ⟨#[117, 110, 105, 111, 110]⟩, .bool true, .int .i64 1, .int .i64 4]
def kWords : List ByteArray := [⟨#[117]⟩, ⟨#[98, 111, 111, 108]⟩, ⟨#[98, 121, 116, 101, 115]⟩, ⟨#[102, 105, 120, 101, 100]⟩, ⟨#[108, 105, 115, 116]⟩, ⟨#[118, 101, 99, 116, 111, 114]⟩, ⟨#[115, 116, 114, 117, 99, 116]⟩, ⟨#[111, 112, 116, 105, 111, 110]⟩, ⟨#[117, 110, 105, 111, 110]⟩]
def kNums : List Bool := [true, false, true, true, true, true, true, false, true]
def kLo : List Int := [8, 0, 0, 1, 1, 1, 1, 0, 1]
def kHi : List Int := [64, 0, 200, 64, 20, 8, 6, 0, 4]
def rs (j : Nat) : ByteArray := kWords.getD j ByteArray.empty
def rb (j : Nat) : Bool := kNums.getD j false
def rlo (j : Nat) : Int := kLo.getD j 0
def rhi (j : Nat) : Int := kHi.getD j 0
/-- The table lies in memory as its text lays it. -/
def KR (w : World) : Prop := 1 < w.heap.size ∧ ∃ t fr, w.heap[1]? = some (.cells kc t fr)
theorem KR.below {w w' : World} (h : KR w) (hb : Below w.heap.size w w') : KR w' := by
  obtain ⟨h0, t, fr, hh⟩ := h
  exact ⟨by have := hb.size; omega, t, fr, by rw [hb.block 1 h0]; exact hh⟩
theorem Tryd.infoKR : (Tryd.prog.info? 137).map (·.size) = some kc.size := by kernel_rfl
set_option maxRecDepth 100000 in
theorem kr_at : ∀ (j : Nat), j < 9 → ∀ w, (Instr.index 137 (.agg kc) (.int .i64 j)).run Tryd.prog w = .ok (.agg #[.int .i64 ((j : Int) + 1), .string (rs j), .bool (rb j), .int .i64 (rlo j), .int .i64 (rhi j)]) w
  | 0, _, _ => by kernel_rfl
  | 1, _, _ => by kernel_rfl
  | 2, _, _ => by kernel_rfl
  | 3, _, _ => by kernel_rfl
  | 4, _, _ => by kernel_rfl
  | 5, _, _ => by kernel_rfl
  | 6, _, _ => by kernel_rfl
  | 7, _, _ => by kernel_rfl
  | 8, _, _ => by kernel_rfl
theorem tyOk_row : ∀ (j : Nat), 0 < j → j < 9 → ∀ n : Int, tyOk ((j : Int) + 1) n = (decide (rlo j ≤ n) && decide (n ≤ rhi j))
  | 1, _, _, n => by simp [tyOk, rlo, rhi, kLo, kHi]; rw [Bool.eq_iff_iff]; simp; omega
  | 2, _, _, n => by simp [tyOk, rlo, rhi, kLo, kHi]
  | 3, _, _, n => by simp [tyOk, rlo, rhi, kLo, kHi]
  | 4, _, _, n => by simp [tyOk, rlo, rhi, kLo, kHi]
  | 5, _, _, n => by simp [tyOk, rlo, rhi, kLo, kHi]
  | 6, _, _, n => by simp [tyOk, rlo, rhi, kLo, kHi]
  | 7, _, _, n => by simp [tyOk, rlo, rhi, kLo, kHi]; rw [Bool.eq_iff_iff]; simp; omega
  | 8, _, _, n => by simp [tyOk, rlo, rhi, kLo, kHi]
set_option maxHeartbeats 1000000 in
theorem typOk_any (k n : Int) (w : World) (hw : KR w) : Calls Tryd.prog 80 #[.agg #[.int .i64 k, .int .i64 n]] w fun e w' => e = .returned (.bool (tyOk k n)) ∧ Below w.heap.size w w' := by
  by_cases hk : k = 1
  · subst hk
    clear hw
    by_cases h1 : n = 8
    · subst h1
      go_enter Tryd.func80, Tryd.ntmps80
      go_wp2
      go_ret
      exact ⟨rfl, bel1 _ _⟩
    by_cases h2 : n = 16
    · subst h2
      go_enter Tryd.func80, Tryd.ntmps80
      go_wp2
      go_ret
      exact ⟨rfl, bel1 _ _⟩
    by_cases h3 : n = 32
    · subst h3
      go_enter Tryd.func80, Tryd.ntmps80
      go_wp2
      go_ret
      exact ⟨rfl, bel1 _ _⟩
    have h1 := beqF h1
    have h2 := beqF h2
    have h3 := beqF h3
    go_enter Tryd.func80, Tryd.ntmps80
    go_wp2
    go_ret
    exact ⟨ret_b (by simp at h1 h2 h3; simp [tyOk, h1, h2, h3, beq_dec]), bel1 _ _⟩
  · have k1 := beqF hk
    obtain ⟨h0, t, fr, hg⟩ := hw
    have hg1 : (w.alloc (.cells #[.int .i64 k, .int .i64 n] 40)).heap[1]? = some (.cells kc t fr) := by rw [Below.heap_alloc _ _ _ h0]; exact hg
    have HG : Hid (w.heap[1]? = some (.cells kc t fr)) := hg
    clear hg
    go_enter Tryd.func80, Tryd.ntmps80
    go_wp2_with (refine wpList_load_row rfl 137 _ rfl 1 rfl t kc fr _ hg1 Tryd.underlying137 rfl Tryd.infoKR ?_)
    have hbB : Below w.heap.size w (w.alloc (.cells #[.int .i64 k, .int .i64 n] 40)) := bel1 _ _
    go_loopg [27] 9 (fun gk i wr => ∃ j : Nat, j + gk = 9 ∧ i = .int .i64 j ∧ ¬ (1 ≤ k ∧ k ≤ j) ∧ Below (w.heap.size + 1) (w.alloc (.cells #[.int .i64 k, .int .i64 n] 40)) wr)
    case atStart => exact ⟨0, rfl, rfl, by omega, Below.refl _ _⟩
    case round =>
      obtain ⟨j, hj', rfl, hno, hb⟩ := hrel
      have HJ : Hid (j + gk = 9) := hj'
      have c0 : wr.cell? ⟨w.heap.size, 0, none⟩ = some (.int .i64 k) := by rw [hb.cell (p := ⟨w.heap.size, 0, none⟩) (by simp)]; simp [go_sem]
      have c1 : wr.cell? ⟨w.heap.size, 1, none⟩ = some (.int .i64 n) := by rw [hb.cell (p := ⟨w.heap.size, 1, none⟩) (by simp)]; simp [go_sem]
      have hsz : w.heap.size < wr.heap.size := by have := hb.size; simp at this; omega
      have hbw : Below w.heap.size w wr := hbB.trans (hb.mono (by omega))
      by_cases hlt : j < 9
      · have hix := kr_at j hlt
        by_cases hkj : (j : Int) + 1 = k
        · have HT : Hid (tyOk k n = (decide (rlo j ≤ n) && decide (n ≤ rhi j))) := by show _ = _; rw [← hkj]; exact tyOk_row j (by omega) hlt n
          have hq : ((j : Int) + 1 == k) = true := by simp [hkj]
          clear hkj hno hj' hbB hb
          generalize rlo j = lo at *
          generalize rhi j = hi at *
          generalize rs j = ss at *
          generalize rb j = sb at *
          by_cases hlo : lo ≤ n
          · have hd : decide (lo ≤ n) = true := by simpa using hlo
            go_wp2_with fail
            go_ret
            exact ⟨by rw [HT.out, hd]; exact ret_b (by simp), hbw.alloc (by omega) _⟩
          · have hd : decide (lo ≤ n) = false := by simpa using hlo
            go_wp2_with fail
            go_ret
            exact ⟨by rw [HT.out, hd]; exact ret_b (by simp), hbw.alloc (by omega) _⟩
        · have hq : ((j : Int) + 1 == k) = false := beqF hkj
          have hno' : ¬ (1 ≤ k ∧ k ≤ ((j + 1 : Nat) : Int)) := by omega
          have HN : Hid (¬ (1 ≤ k ∧ k ≤ ((j + 1 : Nat) : Int))) := hno'
          clear hkj hno hj' hbB hno'
          generalize rlo j = lo at *
          generalize rhi j = hi at *
          generalize rs j = ss at *
          generalize rb j = sb at *
          go_wp2_with fail
          go_roundg (gk - 1)
          case rel => exact ⟨j + 1, by have := HJ.out; omega, by go_num, HN.out, hb.alloc (by omega) _⟩
          case measure => have := HJ.out; omega
      · have HT : Hid (tyOk k n = false) := tyOk_other (by omega)
        have e9 : j = 9 := by omega
        subst e9
        clear hno hj' hbB hb
        go_wp2_with fail
        go_ret
        exact ⟨by rw [HT.out]; try rfl, hbw⟩
end Go.Proofs.YtocealohiflheaaDoor
