/- S2a, S2b, S2c, S2d, S2e, S2f, S2g, S2h: one text. -/
import Derived.Test.YtdncnjmlicdamaaGreatDoorPv
import Derived.Deep.LoopGhost
import Derived.Deep.AppendLies
namespace Go.Proofs.YtdncnjmlicdamaaGreatDoor
open Go.RowKit
set_option linter.unusedVariables false
def inI (n : Int) : Prop := -9223372036854775808 ≤ n ∧ n ≤ 9223372036854775807
/-- A slice of types in memory: its elements, each in two cells, in blocks below B. -/
structure IsTyps (B : Nat) (w : World) (v : Value) (ts : List (Int × Int)) : Prop where
  small : ts.length ≤ 1048577
  wf : ∀ t ∈ ts, inI t.1 ∧ inI t.2
  form : ∃ ad cap, v = .slice ad ts.length cap ∧ ts.length ≤ cap ∧ cap ≤ maxLen ∧
    (ts.length = 0 ∨ ∃ b o : Nat, ad = some ⟨b, o, none⟩ ∧ b < B ∧ ∀ i (h : i < ts.length), w.cell? ⟨b, o + i * 2, none⟩ = some (.int .i64 ts[i].1) ∧ w.cell? ⟨b, o + i * 2 + 1, none⟩ = some (.int .i64 ts[i].2))
theorem IsTyps.below {B : Nat} {w w' : World} {v : Value} {ts : List (Int × Int)} (h : IsTyps B w v ts) (hb : Below B w w') : IsTyps B w' v ts := by
  obtain ⟨ad, cap, hv, h1, h2, h3⟩ := h.form
  refine ⟨h.small, h.wf, ad, cap, hv, h1, h2, ?_⟩
  rcases h3 with h3 | ⟨b, o, ha, hlt, hc⟩
  · exact .inl h3
  · exact .inr ⟨b, o, ha, hlt, fun i hi => by rw [hb.cell (p := ⟨b, o + i * 2, none⟩) hlt, hb.cell (p := ⟨b, o + i * 2 + 1, none⟩) hlt]; exact hc i hi⟩
theorem IsTyps.up {B B' : Nat} {w : World} {v : Value} {ts : List (Int × Int)} (h : IsTyps B w v ts) (hB : B ≤ B') : IsTyps B' w v ts := by
  obtain ⟨ad, cap, hv, h1, h2, h3⟩ := h.form
  refine ⟨h.small, h.wf, ad, cap, hv, h1, h2, ?_⟩
  rcases h3 with h3 | ⟨b, o, ha, hlt, hc⟩
  · exact .inl h3
  · exact .inr ⟨b, o, ha, by omega, hc⟩
/-- The type at a place, as the walk reads it. -/
theorem IsTyps.at {B : Nat} {w : World} {v : Value} {ts : List (Int × Int)} (h : IsTyps B w v ts) {i : Nat} (hi : i < ts.length) :
    ∃ b o cap : Nat, v = .slice (some ⟨b, o, none⟩) ts.length cap ∧ b < B ∧ ts.length ≤ cap ∧ cap ≤ maxLen ∧ w.cell? ⟨b, o + i * 2, none⟩ = some (.int .i64 ts[i].1) ∧ w.cell? ⟨b, o + i * 2 + 1, none⟩ = some (.int .i64 ts[i].2) := by
  obtain ⟨ad, cap, hv, h1, h2, h3⟩ := h.form
  rcases h3 with h3 | ⟨b, o, ha, hlt, hc⟩
  · omega
  · exact ⟨b, o, cap, by rw [hv, ha], hlt, h1, h2, (hc i hi).1, (hc i hi).2⟩
theorem l1InW_any (n a b : Int) (w : World) : Calls Tryz.prog 73 #[.int .i64 n, .int .i64 a, .int .i64 b] w fun e w' => e = .returned (.bool (decide (a ≤ n ∧ n ≤ b))) ∧ w' = w := by
  by_cases h1 : a ≤ n <;> by_cases h2 : n ≤ b
  all_goals
    go_enter Tryz.func73, Tryz.ntmps73
    go_wp2
    go_ret
    exact ⟨by simp [h1, h2], rfl⟩
theorem bel1 (w : World) (o : Obj) : Below w.heap.size w (w.alloc o) := (Below.refl _ _).alloc (Nat.le_refl _) _
set_option maxHeartbeats 400000 in
theorem l2Kids_any (k n : Int) (w : World) (hok : tyOk k n = true) : Calls Tryz.prog 60 #[.agg #[.int .i64 k, .int .i64 n]] w fun e w' => e = .returned (.int .i64 (kids k n)) ∧ Below w.heap.size w w' := by
  simp only [tyOk, decide_eq_true_eq] at hok
  have hk : k = 1 ∨ k = 2 ∨ k = 3 ∨ k = 4 ∨ k = 5 ∨ k = 6 ∨ k = 7 ∨ k = 8 ∨ k = 9 := by omega
  rcases hk with rfl | rfl | rfl | rfl | rfl | rfl | rfl | rfl | rfl
  all_goals
    go_enter Tryz.func60, Tryz.ntmps60
    go_wp2
    go_ret
    exact ⟨by simp [kids] <;> omega, bel1 _ _⟩
theorem ret_b {a b : Bool} (h : a = b) : Ending.returned (.bool a) = .returned (.bool b) := by rw [h]
theorem ret_i {k : IntKind} {a b : Int} (h : a = b) : Ending.returned (.int k a) = .returned (.int k b) := by rw [h]
theorem ret_ii {a b c d : Int} (h : a = c) (h' : b = d) : Ending.returned (.tuple #[.int .i64 a, .int .i64 b]) = .returned (.tuple #[.int .i64 c, .int .i64 d]) := by rw [h, h']
theorem beqF {a b : Int} (h : a ≠ b) : (a == b) = false := by simp [h]
theorem beq_dec (a b : Int) : (a == b) = decide (a = b) := by by_cases h : a = b <;> simp [h]
theorem tyOk_other {k n : Int} (h : k < 1 ∨ 9 < k) : tyOk k n = false := by
  simp only [tyOk, decide_eq_false_iff_not]; omega
set_option maxHeartbeats 400000 in
theorem l2Typ_any (k n : Int) (w : World) : Calls Tryz.prog 63 #[.agg #[.int .i64 k, .int .i64 n]] w fun e w' => e = .returned (.bool (tyOk k n)) ∧ Below w.heap.size w w' := by
  by_cases hr : k < 1 ∨ 9 < k
  · rw [tyOk_other hr]
    have k1 := beqF (show k ≠ 1 by omega)
    have k2 := beqF (show k ≠ 2 by omega)
    have k3 := beqF (show k ≠ 3 by omega)
    have k4 := beqF (show k ≠ 4 by omega)
    have k5 := beqF (show k ≠ 5 by omega)
    have k6 := beqF (show k ≠ 6 by omega)
    have k7 := beqF (show k ≠ 7 by omega)
    have k8 := beqF (show k ≠ 8 by omega)
    have k9 := beqF (show k ≠ 9 by omega)
    clear hr
    go_enter Tryz.func63, Tryz.ntmps63
    go_wp2
    go_ret
    exact ⟨rfl, bel1 _ _⟩
  · have hk : k = 1 ∨ k = 2 ∨ k = 3 ∨ k = 4 ∨ k = 5 ∨ k = 6 ∨ k = 7 ∨ k = 8 ∨ k = 9 := by omega
    clear hr
    rcases hk with rfl | hk
    · by_cases h1 : n = 8
      · subst h1
        go_enter Tryz.func63, Tryz.ntmps63
        go_wp2
        go_ret
        exact ⟨rfl, bel1 _ _⟩
      by_cases h2 : n = 16
      · subst h2
        go_enter Tryz.func63, Tryz.ntmps63
        go_wp2
        go_ret
        exact ⟨rfl, bel1 _ _⟩
      by_cases h3 : n = 32
      · subst h3
        go_enter Tryz.func63, Tryz.ntmps63
        go_wp2
        go_ret
        exact ⟨rfl, bel1 _ _⟩
      have h1 := beqF h1
      have h2 := beqF h2
      have h3 := beqF h3
      go_enter Tryz.func63, Tryz.ntmps63
      go_wp2
      go_ret
      exact ⟨ret_b (by simp at h1 h2 h3; simp [tyOk, h1, h2, h3, beq_dec]), bel1 _ _⟩
    · rcases hk with rfl | rfl | rfl | rfl | rfl | rfl | rfl | rfl
      all_goals
        go_enter Tryz.func63, Tryz.ntmps63
        go_wp2_with (go_at_call 73; refine (l1InW_any _ _ _ _).mono ?_; rintro e w' ⟨rfl, rfl⟩)
        go_ret
        exact ⟨ret_b (by simp [tyOk, beq_dec]), bel1 _ _⟩
end Go.Proofs.YtdncnjmlicdamaaGreatDoor
namespace Go.Proofs.YtdncnjmlicdamaaGreatDoor
open Go.RowKit
set_option linter.unusedVariables false
/-- What l2End answers. -/
def endRes (ts : List (Int × Int)) (f a : Nat) : Value := match en ts f a with
  | none => .tuple #[.int .i64 (-1), .int .i64 0]
  | some e => .tuple #[.int .i64 e, .int .i64 (dp ts f a)]
theorem endRes_none {ts : List (Int × Int)} {f a : Nat} (h : en ts f a = none) : endRes ts f a = .tuple #[.int .i64 (-1), .int .i64 0] := by simp [endRes, h]
theorem endRes_some {ts : List (Int × Int)} {f a e : Nat} (h : en ts f a = some e) : endRes ts f a = .tuple #[.int .i64 e, .int .i64 (dp ts f a)] := by simp [endRes, h]
set_option maxHeartbeats 1000000 in
theorem l2End_any (ts : List (Int × Int)) : ∀ (f : Nat) (a : Nat) (d : Int) (v : Value) (w : World), d + f = 7 → 0 ≤ d → a ≤ 1048577 → IsTyps w.heap.size w v ts →
    Calls Tryz.prog 46 #[v, .int .i64 a, .int .i64 d] w fun e w' => e = .returned (endRes ts f a) ∧ Below w.heap.size w w' := by
  intro f
  induction f with
  | zero =>
    intro a d v w hd hd0 ha hv
    rw [endRes_none (en_zero _ _)]
    obtain ⟨ad, cap, hv', h1, h2, h3⟩ := hv.form
    subst hv'
    clear h3
    have hd7 : (6 : Int) < d := by omega
    have hd6 : decide ((6 : Int) < d) = true := by simpa using hd7
    by_cases hlt : a < ts.length
    · have hl : decide (ts.length ≤ a) = false := by simp; omega
      go_enter Tryz.func46, Tryz.ntmps46
      go_wp2_with fail
      go_ret2
      exact ⟨rfl, Below.refl _ _⟩
    · have hl : decide (ts.length ≤ a) = true := by simp; omega
      go_enter Tryz.func46, Tryz.ntmps46
      go_wp2_with fail
      go_ret2
      exact ⟨rfl, Below.refl _ _⟩
  | succ f ih =>
    intro a d v w hd hd0 ha hv
    by_cases hlt : a < ts.length
    · obtain ⟨b, o, cap, hv', hb, h1, h2, c0, c1⟩ := hv.at hlt
      have HV : Hid (IsTyps w.heap.size w v ts) := hv
      clear hv
      have hl : decide (ts.length ≤ a) = false := by simp; omega
      have hd6 : decide ((6 : Int) < d) = false := by simp; omega
      cases ht : tyOk ts[a].1 ts[a].2 with
      | false =>
        rw [endRes_none (en_bad hlt ht)]
        generalize ts[a].1 = k at *
        generalize ts[a].2 = n at *
        subst hv'
        go_enter Tryz.func46, Tryz.ntmps46
        go_wp2_with (go_at_call 63; refine (l2Typ_any _ _ _).mono ?_; rintro e w' ⟨rfl, hb'⟩)
        go_ret2
        exact ⟨rfl, hb'⟩
      | true =>
        have HE : Hid (en ts (f + 1) a = iter (en ts f) (a + 1) (kids ts[a].1 ts[a].2)) := en_ok hlt ht
        have HD : Hid (dp ts (f + 1) a = mxTo (en ts f) (dp ts f) (a + 1) (6 - f) (kids ts[a].1 ts[a].2)) := dp_at hlt
        have hkd : kids ts[a].1 ts[a].2 ≤ 6 := kids_le ht
        generalize ts[a].1 = k at *
        generalize ts[a].2 = n at *
        obtain ⟨K, hK⟩ : ∃ K, kids k n = K := ⟨_, rfl⟩
        rw [hK] at hkd
        have HK : Hid (kids k n = K) := hK
        clear hK
        have HI : Hid (∀ (a : Nat) (d : Int) (v : Value) (w : World), d + f = 7 → 0 ≤ d → a ≤ 1048577 → IsTyps w.heap.size w v ts → Calls Tryz.prog 46 #[v, .int .i64 a, .int .i64 d] w fun e w' => e = .returned (endRes ts f a) ∧ Below w.heap.size w w') := ih
        clear ih
        have Hv' : Hid (v = .slice (some ⟨b, o, none⟩) ts.length cap) := hv'
        have hdlo : d ≤ 6 := by omega
        have Hd : Hid (d + ((f + 1 : Nat) : Int) = 7) := hd
        clear hd
        subst hv'
        go_enter Tryz.func46, Tryz.ntmps46
        go_wp2_with (go_at_call 63; refine (l2Typ_any _ _ _).mono ?_; rintro e w1 ⟨rfl, hb1⟩)
        go_loopg [8, 9, 10] K (fun gk e m i wr => ∃ j x : Nat, j + gk = K ∧ iter (en ts f) (a + 1) j = some x ∧ e = .int .i64 x ∧ m = .int .i64 (mxTo (en ts f) (dp ts f) (a + 1) (6 - f) j : Nat) ∧ i = .int .i64 j ∧ Below w.heap.size w wr)
        case atStart => exact ⟨0, a + 1, by omega, rfl, by go_num, by simp only [mxTo]; have := Hd.out; congr 1; omega, rfl, hb1⟩
        case round =>
          obtain ⟨j, x, hj', hx, rfl, rfl, rfl, hb⟩ := hrel
          have hj : j ≤ K := by omega
          have HJ : Hid (j + gk = K) := hj'
          clear hj'
          have hxl : x ≤ 1048577 := by
            cases j with
            | zero => cases hx; have := HV.out.small; omega
            | succ j =>
              rw [iter_succ] at hx
              obtain ⟨y, _, hy⟩ := Option.bind_eq_some_iff.1 hx
              have := (en_lt hy).2
              have := HV.out.small
              omega
          have HX : Hid (iter (en ts f) (a + 1) j = some x) := hx
          clear hx
          have c0' : wr.cell? ⟨b, o + a * 2, none⟩ = some (.int .i64 k) := by rw [hb.cell (p := ⟨b, o + a * 2, none⟩) ‹_›]; exact c0
          have c1' : wr.cell? ⟨b, o + a * 2 + 1, none⟩ = some (.int .i64 n) := by rw [hb.cell (p := ⟨b, o + a * 2 + 1, none⟩) ‹_›]; exact c1
          go_wp2_with (go_at_call 60; refine (l2Kids_any _ _ _ (by assumption)).mono ?_; rintro e w2 ⟨rfl, hb2⟩; rw [HK.out])
          · have hbw : Below w.heap.size w w2 := hb.trans (hb2.mono hb.size)
            refine (HI.out x (d + 1) _ w2 (by have := Hd.out; omega) (by omega) hxl ((HV.out.below hbw).up hbw.size)).mono ?_
            rintro e w3 ⟨rfl, hb3⟩
            have hb' := hbw.trans (hb3.mono hbw.size)
            clear hbw hb3 hb2
            cases he : en ts f x with
            | none =>
              rw [endRes_none he]
              have HR : Hid (endRes ts (f + 1) a = .tuple #[.int .i64 (-1), .int .i64 0]) := endRes_none (by rw [HE.out, HK.out]; exact iter_none (j := j + 1) (by rw [iter_succ, HX.out]; exact he) K (by omega))
              clear he
              go_wp2_with fail
              go_ret2
              exact ⟨by rw [HR.out]; try rfl, hb'⟩
            | some y =>
              rw [endRes_some he]
              have HS : Hid (iter (en ts f) (a + 1) (j + 1) = some y) := by show _ = _; rw [iter_succ, HX.out]; exact he
              have HM : Hid (mxTo (en ts f) (dp ts f) (a + 1) (6 - f) (j + 1) = max (mxTo (en ts f) (dp ts f) (a + 1) (6 - f) j) (dp ts f x)) := mxTo_succ _ _ _ _ _ HX.out
              clear he
              generalize mxTo (en ts f) (dp ts f) (a + 1) (6 - f) j = p at *
              generalize dp ts f x = q at *
              by_cases hpq : p < q
              · go_wp2_with fail
                go_roundg (gk - 1)
                case rel => exact ⟨j + 1, y, by have := HJ.out; omega, HS.out, rfl, by rw [HM.out]; rw [Nat.max_eq_right (by omega)], by go_num, hb'⟩
                case measure => have := HJ.out; omega
              · go_wp2_with fail
                go_roundg (gk - 1)
                case rel => exact ⟨j + 1, y, by have := HJ.out; omega, HS.out, rfl, by rw [HM.out]; rw [Nat.max_eq_left (by omega)], by go_num, hb'⟩
                case measure => have := HJ.out; omega
          · have hbw : Below w.heap.size w w2 := hb.trans (hb2.mono hb.size)
            have e1 : j = K := by omega
            have HR : Hid (endRes ts (f + 1) a = .tuple #[.int .i64 x, .int .i64 (mxTo (en ts f) (dp ts f) (a + 1) (6 - f) j : Nat)]) := by
              show _ = _
              rw [endRes_some (e := x) (by rw [HE.out, HK.out, ← e1]; exact HX.out), HD.out, HK.out, e1]
            clear e1
            go_ret2
            exact ⟨by rw [HR.out]; try rfl, hbw⟩
    · rw [endRes_none (en_none (by omega))]
      obtain ⟨ad, cap, hv', h1, h2, h3⟩ := hv.form
      subst hv'
      clear h3
      have hl : decide (ts.length ≤ a) = true := by simp; omega
      go_enter Tryz.func46, Tryz.ntmps46
      go_wp2_with fail
      go_ret2
      exact ⟨rfl, Below.refl _ _⟩
end Go.Proofs.YtdncnjmlicdamaaGreatDoor
namespace Go.Proofs.YtdncnjmlicdamaaGreatDoor
open Go.RowKit
set_option linter.unusedVariables false
theorem schOk_big {ts : List (Int × Int)} (h : 40 < ts.length) : schOk ts = false := by simp [schOk]; omega
theorem schOk_no {ts : List (Int × Int)} (h : en ts 7 0 = none) : schOk ts = false := by simp [schOk, h]
theorem schOk_end {ts : List (Int × Int)} {e : Nat} (h40 : ts.length ≤ 40) (h : en ts 7 0 = some e) : schOk ts = decide (e = ts.length) := by
  by_cases e1 : e = ts.length <;> simp [schOk, h, h40, e1]
theorem schOk_inv {ts : List (Int × Int)} (h : schOk ts = true) : ts.length ≤ 40 ∧ en ts 7 0 = some ts.length := by simpa [schOk] using h
set_option maxHeartbeats 400000 in
theorem specSchemaOk_any (ts : List (Int × Int)) (v : Value) (w : World) (hv : IsTyps w.heap.size w v ts) : Calls Tryz.prog 26 #[v] w fun e w' => e = .returned (.bool (schOk ts)) ∧ Below w.heap.size w w' := by
  have HV : Hid (IsTyps w.heap.size w v ts) := hv
  obtain ⟨ad, cap, rfl, h1, h2, h3⟩ := hv.form
  clear h3 hv
  by_cases h40 : 40 < ts.length
  · rw [schOk_big h40]
    go_enter Tryz.func26, Tryz.ntmps26
    go_wp2_with fail
    go_ret
    exact ⟨rfl, Below.refl _ _⟩
  · have hd : decide ((40 : Int) < ts.length) = false := by simp; omega
    go_enter Tryz.func26, Tryz.ntmps26
    go_wp2_with fail
    refine (l2End_any ts 7 0 0 _ w (by omega) (by omega) (by omega) HV.out).mono ?_
    rintro e w1 ⟨rfl, hb⟩
    cases he : en ts 7 0 with
    | none =>
      rw [endRes_none he]
      have HR : Hid (schOk ts = false) := schOk_no he
      clear he
      have hn : ((-1 : Int) == (ts.length : Int)) = false := beqF (by omega)
      go_wp2_with fail
      go_ret
      exact ⟨by rw [HR.out]; try rfl, hb⟩
    | some x =>
      rw [endRes_some he]
      have HR : Hid (schOk ts = decide (x = ts.length)) := schOk_end (by omega) he
      clear he
      go_wp2_with fail
      go_ret
      exact ⟨by rw [HR.out]; exact ret_b (by simp [beq_dec]; omega), hb⟩
theorem endOf_out {ts : List (Int × Int)} {a : Int} (h : ¬ (0 ≤ a ∧ a < ts.length)) : endOf ts a = -1 := by
  unfold endOf; rw [if_neg]; simp only [Bool.and_eq_true, decide_eq_true_eq]; omega
theorem endOf_no {ts : List (Int × Int)} {a : Int} (h : schOk ts = false) : endOf ts a = -1 := by simp [endOf, h]
theorem endOf_in {ts : List (Int × Int)} {a : Nat} (hs : schOk ts = true) (h : a < ts.length) : endOf ts a = (((en ts 7 a).map Int.ofNat).getD (-1)) := by
  have e : decide ((0 : Int) ≤ a ∧ (a : Int) < ts.length) = true := by simp; exact h
  unfold endOf; rw [hs, e, Bool.and_self, if_pos rfl, Int.toNat_natCast]
set_option maxHeartbeats 400000 in
theorem l2Skip_any (ts : List (Int × Int)) (a : Nat) (v : Value) (w : World) (ha : a ≤ 1048577) (hv : IsTyps w.heap.size w v ts) : Calls Tryz.prog 57 #[v, .int .i64 a] w fun e w' => e = .returned (.int .i64 (((en ts 7 a).map Int.ofNat).getD (-1))) ∧ Below w.heap.size w w' := by
  have HV : Hid (IsTyps w.heap.size w v ts) := hv
  clear hv
  cases he : en ts 7 a with
  | none =>
    have HC : Hid (endRes ts 7 a = .tuple #[.int .i64 (-1), .int .i64 0]) := endRes_none he
    clear he
    go_enter Tryz.func57, Tryz.ntmps57
    go_wp2_with fail
    refine (l2End_any ts 7 a 0 _ w (by omega) (by omega) ha HV.out).mono ?_
    rintro e w1 ⟨rfl, hb⟩
    rw [HC.out]
    go_wp2_with fail
    go_ret
    exact ⟨rfl, hb⟩
  | some x =>
    have HC : Hid (endRes ts 7 a = .tuple #[.int .i64 x, .int .i64 (dp ts 7 a)]) := endRes_some he
    clear he
    go_enter Tryz.func57, Tryz.ntmps57
    go_wp2_with fail
    refine (l2End_any ts 7 a 0 _ w (by omega) (by omega) ha HV.out).mono ?_
    rintro e w1 ⟨rfl, hb⟩
    rw [HC.out]
    go_wp2_with fail
    go_ret
    exact ⟨rfl, hb⟩
end Go.Proofs.YtdncnjmlicdamaaGreatDoor
namespace Go.Proofs.YtdncnjmlicdamaaGreatDoor
open Go.RowKit
set_option linter.unusedVariables false
/-- The cells of the table of kinds. -/
def kc : Array Value := #[.int .i64 1, .string ⟨#[117]⟩, .bool true, .int .i64 8, .int .i64 64, .int .i64 2, .string ⟨#[98, 111, 111, 108]⟩, .bool false, .int .i64 0, .int .i64 0, .int .i64 3, .string ⟨#[98, 121, 116, 101, 115]⟩, .bool true, .int .i64 0, .int .i64 200, .int .i64 4, .string ⟨#[102, 105, 120, 101, 100]⟩, .bool true, .int .i64 1, .int .i64 64, .int .i64 5, .string ⟨#[108, 105, 115, 116]⟩, .bool true, .int .i64 1, .int .i64 20, .int .i64 6, .string ⟨#[118, 101, 99, 116, 111, 114]⟩, .bool true, .int .i64 1, .int .i64 8, .int .i64 7, .string ⟨#[115, 116, 114, 117, 99, 116]⟩, .bool true, .int .i64 1, .int .i64 6, .int .i64 8, .string ⟨#[111, 112, 116, 105, 111, 110]⟩, .bool false, .int .i64 0, .int .i64 0, .int .i64 9, .string ⟨#[117, 110, 105, 111, 110]⟩, .bool true, .int .i64 1, .int .i64 4]
def kWords : List ByteArray := [⟨#[117]⟩, ⟨#[98, 111, 111, 108]⟩, ⟨#[98, 121, 116, 101, 115]⟩, ⟨#[102, 105, 120, 101, 100]⟩, ⟨#[108, 105, 115, 116]⟩, ⟨#[118, 101, 99, 116, 111, 114]⟩, ⟨#[115, 116, 114, 117, 99, 116]⟩, ⟨#[111, 112, 116, 105, 111, 110]⟩, ⟨#[117, 110, 105, 111, 110]⟩]
def kNums : List Bool := [true, false, true, true, true, true, true, false, true]
def kLo : List Int := [8, 0, 0, 1, 1, 1, 1, 0, 1]
def kHi : List Int := [64, 0, 200, 64, 20, 8, 6, 0, 4]
def rs (j : Nat) : ByteArray := kWords.getD j ByteArray.empty
def rb (j : Nat) : Bool := kNums.getD j false
def rlo (j : Nat) : Int := kLo.getD j 0
def rhi (j : Nat) : Int := kHi.getD j 0
/-- The table lies in memory as its text lays it. -/
def KR (w : World) : Prop := 2 < w.heap.size ∧ ∃ t fr, w.heap[2]? = some (.cells kc t fr)
theorem KR.below {w w' : World} (h : KR w) (hb : Below w.heap.size w w') : KR w' := by
  obtain ⟨h0, t, fr, hh⟩ := h
  exact ⟨by have := hb.size; omega, t, fr, by rw [hb.block 2 h0]; exact hh⟩
theorem Tryz.infoKR : (Tryz.prog.info? 139).map (·.size) = some kc.size := by kernel_rfl
set_option maxRecDepth 100000 in
theorem kr_at : ∀ (j : Nat), j < 9 → ∀ w, (Instr.index 139 (.agg kc) (.int .i64 j)).run Tryz.prog w = .ok (.agg #[.int .i64 ((j : Int) + 1), .string (rs j), .bool (rb j), .int .i64 (rlo j), .int .i64 (rhi j)]) w
  | 0, _, _ => by kernel_rfl
  | 1, _, _ => by kernel_rfl
  | 2, _, _ => by kernel_rfl
  | 3, _, _ => by kernel_rfl
  | 4, _, _ => by kernel_rfl
  | 5, _, _ => by kernel_rfl
  | 6, _, _ => by kernel_rfl
  | 7, _, _ => by kernel_rfl
  | 8, _, _ => by kernel_rfl
theorem tyOk_row : ∀ (j : Nat), 0 < j → j < 9 → ∀ n : Int, tyOk ((j : Int) + 1) n = (decide (rlo j ≤ n) && decide (n ≤ rhi j))
  | 1, _, _, n => by simp [tyOk, rlo, rhi, kLo, kHi]; rw [Bool.eq_iff_iff]; simp; omega
  | 2, _, _, n => by simp [tyOk, rlo, rhi, kLo, kHi]
  | 3, _, _, n => by simp [tyOk, rlo, rhi, kLo, kHi]
  | 4, _, _, n => by simp [tyOk, rlo, rhi, kLo, kHi]
  | 5, _, _, n => by simp [tyOk, rlo, rhi, kLo, kHi]
  | 6, _, _, n => by simp [tyOk, rlo, rhi, kLo, kHi]
  | 7, _, _, n => by simp [tyOk, rlo, rhi, kLo, kHi]; rw [Bool.eq_iff_iff]; simp; omega
  | 8, _, _, n => by simp [tyOk, rlo, rhi, kLo, kHi]
set_option maxHeartbeats 1000000 in
theorem typOk_any (k n : Int) (w : World) (hw : KR w) : Calls Tryz.prog 65 #[.agg #[.int .i64 k, .int .i64 n]] w fun e w' => e = .returned (.bool (tyOk k n)) ∧ Below w.heap.size w w' := by
  by_cases hk : k = 1
  · subst hk
    clear hw
    by_cases h1 : n = 8
    · subst h1
      go_enter Tryz.func65, Tryz.ntmps65
      go_wp2
      go_ret
      exact ⟨rfl, bel1 _ _⟩
    by_cases h2 : n = 16
    · subst h2
      go_enter Tryz.func65, Tryz.ntmps65
      go_wp2
      go_ret
      exact ⟨rfl, bel1 _ _⟩
    by_cases h3 : n = 32
    · subst h3
      go_enter Tryz.func65, Tryz.ntmps65
      go_wp2
      go_ret
      exact ⟨rfl, bel1 _ _⟩
    have h1 := beqF h1
    have h2 := beqF h2
    have h3 := beqF h3
    go_enter Tryz.func65, Tryz.ntmps65
    go_wp2
    go_ret
    exact ⟨ret_b (by simp at h1 h2 h3; simp [tyOk, h1, h2, h3, beq_dec]), bel1 _ _⟩
  · have k1 := beqF hk
    obtain ⟨h0, t, fr, hg⟩ := hw
    have hg1 : (w.alloc (.cells #[.int .i64 k, .int .i64 n] 88)).heap[2]? = some (.cells kc t fr) := by rw [Below.heap_alloc _ _ _ h0]; exact hg
    have HG : Hid (w.heap[2]? = some (.cells kc t fr)) := hg
    clear hg
    go_enter Tryz.func65, Tryz.ntmps65
    go_wp2_with (refine wpList_load_row rfl 139 _ rfl 2 rfl t kc fr _ hg1 Tryz.underlying139 rfl Tryz.infoKR ?_)
    have hbB : Below w.heap.size w (w.alloc (.cells #[.int .i64 k, .int .i64 n] 88)) := bel1 _ _
    go_loopg [27] 9 (fun gk i wr => ∃ j : Nat, j + gk = 9 ∧ i = .int .i64 j ∧ ¬ (1 ≤ k ∧ k ≤ j) ∧ Below (w.heap.size + 1) (w.alloc (.cells #[.int .i64 k, .int .i64 n] 88)) wr)
    case atStart => exact ⟨0, rfl, rfl, by omega, Below.refl _ _⟩
    case round =>
      obtain ⟨j, hj', rfl, hno, hb⟩ := hrel
      have HJ : Hid (j + gk = 9) := hj'
      have c0 : wr.cell? ⟨w.heap.size, 0, none⟩ = some (.int .i64 k) := by rw [hb.cell (p := ⟨w.heap.size, 0, none⟩) (by simp)]; simp [go_sem]
      have c1 : wr.cell? ⟨w.heap.size, 1, none⟩ = some (.int .i64 n) := by rw [hb.cell (p := ⟨w.heap.size, 1, none⟩) (by simp)]; simp [go_sem]
      have hsz : w.heap.size < wr.heap.size := by have := hb.size; simp at this; omega
      have hbw : Below w.heap.size w wr := hbB.trans (hb.mono (by omega))
      by_cases hlt : j < 9
      · have hix := kr_at j hlt
        by_cases hkj : (j : Int) + 1 = k
        · have HT : Hid (tyOk k n = (decide (rlo j ≤ n) && decide (n ≤ rhi j))) := by show _ = _; rw [← hkj]; exact tyOk_row j (by omega) hlt n
          have hq : ((j : Int) + 1 == k) = true := by simp [hkj]
          clear hkj hno hj' hbB hb
          generalize rlo j = lo at *
          generalize rhi j = hi at *
          generalize rs j = ss at *
          generalize rb j = sb at *
          by_cases hlo : lo ≤ n
          · have hd : decide (lo ≤ n) = true := by simpa using hlo
            go_wp2_with fail
            go_ret
            exact ⟨by rw [HT.out, hd]; exact ret_b (by simp), hbw.alloc (by omega) _⟩
          · have hd : decide (lo ≤ n) = false := by simpa using hlo
            go_wp2_with fail
            go_ret
            exact ⟨by rw [HT.out, hd]; exact ret_b (by simp), hbw.alloc (by omega) _⟩
        · have hq : ((j : Int) + 1 == k) = false := beqF hkj
          have hno' : ¬ (1 ≤ k ∧ k ≤ ((j + 1 : Nat) : Int)) := by omega
          have HN : Hid (¬ (1 ≤ k ∧ k ≤ ((j + 1 : Nat) : Int))) := hno'
          clear hkj hno hj' hbB hno'
          generalize rlo j = lo at *
          generalize rhi j = hi at *
          generalize rs j = ss at *
          generalize rb j = sb at *
          go_wp2_with fail
          go_roundg (gk - 1)
          case rel => exact ⟨j + 1, by have := HJ.out; omega, by go_num, HN.out, hb.alloc (by omega) _⟩
          case measure => have := HJ.out; omega
      · have HT : Hid (tyOk k n = false) := tyOk_other (by omega)
        have e9 : j = 9 := by omega
        subst e9
        clear hno hj' hbB hb
        go_wp2_with fail
        go_ret
        exact ⟨by rw [HT.out]; try rfl, hbw⟩
end Go.Proofs.YtdncnjmlicdamaaGreatDoor
namespace Go.Proofs.YtdncnjmlicdamaaGreatDoor
open Go.RowKit
set_option linter.unusedVariables false
theorem set_block {w : World} {N i : Nat} {cs : Array Value} {t : TypeId} {fr : Nat × Nat} (h : w.heap[N]? = some (.cells cs t fr)) (v : Value) : (w.setCell ⟨N, i, none⟩ v).heap[N]? = some (.cells (cs.setIfInBounds i v) t fr) := by
  have hlt : N < w.heap.size := by
    rcases Nat.lt_or_ge N w.heap.size with h' | h'
    · exact h'
    · simp [Array.getElem?_eq_none h'] at h
  have h' : w.heap[N] = .cells cs t fr := by simpa [Array.getElem?_eq_getElem hlt] using h
  show (w.heap.modify N _)[N]? = _
  rw [Array.getElem?_eq_getElem (by simpa using hlt), Array.getElem_modify_self, h']
  rfl
theorem blk_lt {w : World} {b : Nat} {o : Obj} (h : w.heap[b]? = some o) : b < w.heap.size := by
  rcases Nat.lt_or_ge b w.heap.size with h' | h'
  · exact h'
  · simp [Array.getElem?_eq_none h'] at h
/-- The tree of the type at place a, f levels being left, its first node at block u, all of it in blocks of S. -/
def TreeAt (ts : List (Int × Int)) : Nat → World → (Nat → Prop) → Nat → Nat → Prop
  | 0, _, _, _, _ => False
  | f + 1, w, S, u, a => S u ∧ ∃ (ha : a < ts.length) (e : Nat) (ad : Option Addr) (cap : Nat), tyOk ts[a].1 ts[a].2 = true ∧ en ts (f + 1) a = some e ∧
      w.cell? ⟨u, 0, none⟩ = some (.int .i64 ts[a].1) ∧ w.cell? ⟨u, 1, none⟩ = some (.int .i64 ts[a].2) ∧ w.cell? ⟨u, 2, none⟩ = some (.int .i64 a) ∧ w.cell? ⟨u, 3, none⟩ = some (.int .i64 e) ∧
      w.cell? ⟨u, 4, none⟩ = some (.int .i64 (6 - f : Nat)) ∧ w.cell? ⟨u, 5, none⟩ = some (.slice ad (kids ts[a].1 ts[a].2) cap) ∧ kids ts[a].1 ts[a].2 ≤ cap ∧ cap ≤ maxLen ∧
      (kids ts[a].1 ts[a].2 = 0 ∨ ∃ g, ad = some ⟨g, 0, none⟩ ∧ S g ∧
        ∀ j, j < kids ts[a].1 ts[a].2 → ∃ c p, iter (en ts f) (a + 1) j = some p ∧ w.cell? ⟨g, j, none⟩ = some (.pointer (some ⟨c, 0, none⟩)) ∧ TreeAt ts f w S c p)
theorem TreeAt.keep {ts : List (Int × Int)} {S S' : Nat → Prop} {w w' : World} (hS : ∀ b, S b → S' b) (hw : ∀ b, S b → w'.heap[b]? = w.heap[b]?) : ∀ {f u a : Nat}, TreeAt ts f w S u a → TreeAt ts f w' S' u a := by
  intro f
  induction f with
  | zero => intro u a h; exact h
  | succ f ih =>
    intro u a h
    obtain ⟨hu, ha, e, ad, cap, h1, h2, c0, c1, c2, c3, c4, c5, h3, h4, h5⟩ := h
    have hc : ∀ i, w'.cell? ⟨u, i, none⟩ = w.cell? ⟨u, i, none⟩ := fun i => World.cell?_of_block (w := w) (a := ⟨u, i, none⟩) (hw u hu)
    refine ⟨hS u hu, ha, e, ad, cap, h1, h2, (hc 0).trans c0, (hc 1).trans c1, (hc 2).trans c2, (hc 3).trans c3, (hc 4).trans c4, (hc 5).trans c5, h3, h4, ?_⟩
    rcases h5 with h5 | ⟨g, hg, hgS, hk⟩
    · exact .inl h5
    · refine .inr ⟨g, hg, hS g hgS, fun j hj => ?_⟩
      obtain ⟨c, p, hp, hcell, ht⟩ := hk j hj
      exact ⟨c, p, hp, (World.cell?_of_block (w := w) (a := ⟨g, j, none⟩) (hw g hgS)).trans hcell, ih ht⟩
/-- What a tree says of its first node. -/
theorem TreeAt.end {ts : List (Int × Int)} {f u a : Nat} {w : World} {S : Nat → Prop} (h : TreeAt ts f w S u a) : S u ∧ ∃ e, en ts f a = some e ∧ w.cell? ⟨u, 3, none⟩ = some (.int .i64 e) := by
  cases f with
  | zero => exact h.elim
  | succ f =>
    obtain ⟨hu, ha, e, ad, cap, h1, h2, c0, c1, c2, c3, _⟩ := h
    exact ⟨hu, e, h2, c3⟩
set_option maxHeartbeats 400000 in
theorem partsOf_any (k n : Int) (w : World) (hok : tyOk k n = true) : Calls Tryz.prog 66 #[.agg #[.int .i64 k, .int .i64 n]] w fun e w' => e = .returned (.int .i64 (kids k n)) ∧ Below w.heap.size w w' := by
  simp only [tyOk, decide_eq_true_eq] at hok
  have hk : k = 1 ∨ k = 2 ∨ k = 3 ∨ k = 4 ∨ k = 5 ∨ k = 6 ∨ k = 7 ∨ k = 8 ∨ k = 9 := by omega
  rcases hk with rfl | rfl | rfl | rfl | rfl | rfl | rfl | rfl | rfl
  all_goals
    go_enter Tryz.func66, Tryz.ntmps66
    go_wp2
    go_ret
    exact ⟨by simp [kids] <;> omega, bel1 _ _⟩
/-- Where the parsing of a node stands behind j of its parts: its block N, the parts' slice v, the parts' blocks us. -/
structure PtInv (ts : List (Int × Int)) (f a N : Nat) (k n d : Int) (w wr : World) (j x : Nat) (v : Value) (us : List Nat) : Prop where
  pos : iter (en ts f) (a + 1) j = some x
  bel : Below w.heap.size w wr
  low : w.heap.size ≤ N
  node : wr.heap[N]? = some (.cells #[.int .i64 k, .int .i64 n, .int .i64 a, .int .i64 x, .int .i64 d, v] 101 (0, 0))
  len : us.length = j
  row : wr.ownsRow (N + 1) 61 1 v j (us.map fun u => .pointer (some ⟨u, 0, none⟩))
  kin : ∀ i (h : i < us.length), ∃ p, iter (en ts f) (a + 1) i = some p ∧ TreeAt ts f wr (fun b => N < b ∧ b < wr.heap.size ∧ some b ≠ v.ownBlock) us[i] p
theorem PtInv.start {ts : List (Int × Int)} {f a : Nat} {k n d : Int} {w w1 w2 : World} (hb1 : Below w.heap.size w w1)
    (hb2 : Below (w1.heap.size + 1) (w1.alloc (.cells #[.int .i64 k, .int .i64 n, .int .i64 a, .int .i64 ((a : Int) + 1), .int .i64 d, .slice none 0 0] 101)) w2) : PtInv ts f a w1.heap.size k n d w w2 0 (a + 1) (.slice none 0 0) [] := by
  refine ⟨rfl, ?_, hb1.size, ?_, rfl, World.ownsRow_nil _ _ _ _, fun i h => by simp at h⟩
  · exact (hb1.alloc hb1.size _).trans (hb2.mono (by have := hb1.size; omega))
  · rw [hb2.block w1.heap.size (by omega), heap_alloc_new]
    simp
theorem gb_bel {w w' : World} (h : Below w.heap.size w w') : w.grownBy w' none := ⟨h.os, h.tape, h.output, h.size, fun k hk _ => h.block k hk⟩
/-- One part more: parsed in w1, appended in w2, the node's two cells set. -/
theorem PtInv.next {ts : List (Int × Int)} {f a N : Nat} {k n d : Int} {w wr w1 w2 : World} {j x y u g cap : Nat} {v : Value} {us : List Nat} {o : Obj}
    (h : PtInv ts f a N k n d w wr j x v us) (hb1 : Below wr.heap.size wr w1) (ht : TreeAt ts f w1 (fun b => wr.heap.size ≤ b ∧ b < w1.heap.size) u x) (hy : en ts f x = some y)
    (hg : (w1.alloc o).grownBy w2 v.ownBlock) (hat : v.ownBlock = some g ∨ g = w1.heap.size + 1) (hgl : g < w2.heap.size)
    (hrow : w2.ownsRow (N + 1) 61 1 (.slice (some ⟨g, 0, none⟩) (j + 1) cap) (j + 1) (us.map (fun u => Value.pointer (some ⟨u, 0, none⟩)) ++ [.pointer (some ⟨u, 0, none⟩)])) :
    PtInv ts f a N k n d w ((w2.setCell ⟨N, 5, none⟩ (.slice (some ⟨g, 0, none⟩) (j + 1) cap)).setCell ⟨N, 3, none⟩ (.int .i64 y)) (j + 1) y (.slice (some ⟨g, 0, none⟩) (j + 1) cap) (us ++ [u]) := by
  have hN := blk_lt h.node
  have hNg : N + 1 ≤ g := by
    have := hrow.lt g rfl
    omega
  have hown : ∀ b, v.ownBlock = some b → N + 1 ≤ b ∧ b < wr.heap.size := h.row.lt
  have hs1 := hb1.size
  have hs2 : w1.heap.size + 1 ≤ w2.heap.size := by have := hg.size; simpa using this
  have hsz : ((w2.setCell ⟨N, 5, none⟩ (.slice (some ⟨g, 0, none⟩) (j + 1) cap)).setCell ⟨N, 3, none⟩ (.int .i64 y)).heap.size = w2.heap.size := by simp [World.setCell]
  have hNo : some N ≠ v.ownBlock := fun e => by have := hown N e.symm; omega
  have hN2 : w2.heap[N]? = some (.cells #[.int .i64 k, .int .i64 n, .int .i64 a, .int .i64 x, .int .i64 d, v] 101 (0, 0)) := by
    rw [hg.block N (by simp; omega) hNo, Below.heap_alloc _ _ _ (by omega), hb1.block N hN]; exact h.node
  have far : ∀ b, b ≠ N → ((w2.setCell ⟨N, 5, none⟩ (.slice (some ⟨g, 0, none⟩) (j + 1) cap)).setCell ⟨N, 3, none⟩ (.int .i64 y)).heap[b]? = w2.heap[b]? := fun b hb => by
    rw [Below.heap_setCell _ _ _ _ hb, Below.heap_setCell _ _ _ _ hb]
  have old : ∀ b, b < w1.heap.size → b ≠ N → some b ≠ v.ownBlock → ((w2.setCell ⟨N, 5, none⟩ (.slice (some ⟨g, 0, none⟩) (j + 1) cap)).setCell ⟨N, 3, none⟩ (.int .i64 y)).heap[b]? = w1.heap[b]? := fun b hb hbN hbo => by
    rw [far b hbN, hg.block b (by simp; omega) hbo, Below.heap_alloc _ _ _ hb]
  refine ⟨by rw [iter_succ, h.pos]; exact hy, ?_, h.low, ?_, by simp [h.len], ?_, ?_⟩
  · have b1 : Below w.heap.size w w1 := h.bel.trans (hb1.mono h.bel.size)
    have b2 : Below w.heap.size w (w1.alloc o) := b1.alloc (by have := b1.size; omega) o
    have b3 : Below w.heap.size w w2 := b2.grown hg (by have := b2.size; omega) (fun q hq => by have := hown q hq; have := h.low; omega)
    exact (b3.setCell (p := ⟨N, 5, none⟩) h.low _).setCell (p := ⟨N, 3, none⟩) h.low _
  · have e1 := set_block (i := 5) hN2 (.slice (some ⟨g, 0, none⟩) (j + 1) cap)
    have e2 := set_block (i := 3) e1 (.int .i64 y)
    rw [e2]; simp
  · have r1 := ownsRow_setCell_below hrow (a := ⟨N, 5, none⟩) (by simp) (.slice (some ⟨g, 0, none⟩) (j + 1) cap)
    have r2 := ownsRow_setCell_below r1 (a := ⟨N, 3, none⟩) (by simp) (.int .i64 y)
    simpa using r2
  · intro i hi
    by_cases hij : i < us.length
    · obtain ⟨p, hp, htr⟩ := h.kin i hij
      refine ⟨p, hp, ?_⟩
      rw [List.getElem_append_left hij]
      refine htr.keep (fun b ⟨q1, q2, q3⟩ => ⟨q1, by rw [hsz]; omega, ?_⟩) (fun b ⟨q1, q2, q3⟩ => ?_)
      · intro e
        have e' : b = g := by simpa [Value.ownBlock] using e
        rcases hat with hat | hat
        · exact q3 (by rw [hat, e'])
        · omega
      · rw [old b (by omega) (by omega) q3, hb1.block b q2]
    · have hi' : i = us.length := by simp at hi; omega
      subst hi'
      refine ⟨x, by rw [h.len]; exact h.pos, ?_⟩
      rw [List.getElem_append_right (Nat.le_refl _)]
      simp only [Nat.sub_self, List.getElem_cons_zero]
      refine ht.keep (fun b ⟨q1, q2⟩ => ⟨by omega, by rw [hsz]; omega, ?_⟩) (fun b ⟨q1, q2⟩ => ?_)
      · intro e
        have e' : b = g := by simpa [Value.ownBlock] using e
        rcases hat with hat | hat
        · have := hown g hat; omega
        · omega
      · exact old b q2 (by omega) (fun e => by have := hown b e.symm; omega)
/-- All parts are there: the tree. -/
theorem PtInv.done {ts : List (Int × Int)} {f a N : Nat} {k n d : Int} {w wr : World} {j x : Nat} {v : Value} {us : List Nat} (h : PtInv ts f a N k n d w wr j x v us)
    (ha : a < ts.length) (hk : ts[a].1 = k) (hn : ts[a].2 = n) (ht : tyOk k n = true) (hj : j = kids k n) (hd : d = (6 - f : Nat)) :
    TreeAt ts (f + 1) wr (fun b => w.heap.size ≤ b ∧ b < wr.heap.size) N a := by
  subst hk hn hj hd
  have hN := blk_lt h.node
  have hc : ∀ i, wr.cell? ⟨N, i, none⟩ = _ := fun i => cell_of_row wr N i _ _ _ h.node
  have hform : ∃ ad cap, v = .slice ad (kids ts[a].1 ts[a].2) cap ∧ kids ts[a].1 ts[a].2 ≤ cap ∧ cap ≤ maxLen ∧ (kids ts[a].1 ts[a].2 = 0 ∨ ∃ g, ad = some ⟨g, 0, none⟩) := by
    rcases h.row.2 with ⟨hv, h0⟩ | ⟨g, cap, cur, hv, hg, hh, h1, h2, _⟩
    · exact ⟨none, 0, by rw [hv, h0], by omega, by simp [maxLen], .inl h0⟩
    · exact ⟨_, cap, hv, h1, h2, .inr ⟨g, rfl⟩⟩
  obtain ⟨ad, cap, rfl, h1, h2, h3⟩ := hform
  refine ⟨⟨h.low, hN⟩, ha, x, ad, cap, ht, by rw [en_ok ha ht]; exact h.pos, by rw [hc]; simp, by rw [hc]; simp, by rw [hc]; simp, by rw [hc]; simp, by rw [hc]; simp, by rw [hc]; simp, h1, h2, ?_⟩
  rcases h3 with h3 | ⟨g, rfl⟩
  · exact .inl h3
  · have hgl := h.row.lt g rfl
    refine .inr ⟨g, rfl, ⟨by have := h.low; omega, hgl.2⟩, fun i hi => ?_⟩
    have hi' : i < us.length := by rw [h.len]; exact hi
    obtain ⟨p, hp, htr⟩ := h.kin i hi'
    refine ⟨us[i], p, hp, ?_, htr.keep (fun b ⟨q1, q2, _⟩ => ⟨by have := h.low; omega, q2⟩) (fun _ _ => rfl)⟩
    have := h.row.cellAt i (by simpa using hi)
    rw [this]
    simp [List.getElem?_eq_getElem hi']
end Go.Proofs.YtdncnjmlicdamaaGreatDoor
namespace Go.Proofs.YtdncnjmlicdamaaGreatDoor
open Go.RowKit
set_option linter.unusedVariables false
theorem Tryz.infoPN : (Tryz.prog.info? 61).map (fun i => (i.zero, i.size, i.bytes)) = some (some (.pointer none), 1, 8) := by kernel_rfl
/-- What parseType leaves. -/
def PtPost (ts : List (Int × Int)) (f a : Nat) (w : World) (e : Ending) (w' : World) : Prop :=
  Below w.heap.size w w' ∧ ((en ts f a = none ∧ e = .returned (.pointer none)) ∨ ∃ u, e = .returned (.pointer (some ⟨u, 0, none⟩)) ∧ TreeAt ts f w' (fun b => w.heap.size ≤ b ∧ b < w'.heap.size) u a)
set_option maxHeartbeats 2000000 in
theorem parseType_any (ts : List (Int × Int)) : ∀ (f : Nat) (a : Nat) (d : Int) (v : Value) (w : World), d + f = 7 → 0 ≤ d → a ≤ 1048577 → IsTyps w.heap.size w v ts → KR w →
    Calls Tryz.prog 49 #[v, .int .i64 a, .int .i64 d] w fun e w' => PtPost ts f a w e w' := by
  intro f
  induction f with
  | zero =>
    intro a d v w hd hd0 ha hv hw
    have HR : Hid (en ts 0 a = none) := en_zero _ _
    obtain ⟨ad, cap, hv', h1, h2, h3⟩ := hv.form
    subst hv'
    clear h3 hw
    have hd7 : (6 : Int) < d := by omega
    have hd6 : decide ((6 : Int) < d) = true := by simpa using hd7
    by_cases hlt : a < ts.length
    · have hl : decide (ts.length ≤ a) = false := by simp; omega
      go_enter Tryz.func49, Tryz.ntmps49
      go_wp2_with fail
      go_ret
      exact ⟨Below.refl _ _, .inl ⟨HR.out, rfl⟩⟩
    · have hl : decide (ts.length ≤ a) = true := by simp; omega
      go_enter Tryz.func49, Tryz.ntmps49
      go_wp2_with fail
      go_ret
      exact ⟨Below.refl _ _, .inl ⟨HR.out, rfl⟩⟩
  | succ f ih =>
    intro a d v w hd hd0 ha hv hw
    by_cases hlt : a < ts.length
    · obtain ⟨b, o, cap, hv', hb, h1, h2, c0, c1⟩ := hv.at hlt
      have HV : Hid (IsTyps w.heap.size w v ts) := hv
      have HW : Hid (KR w) := hw
      clear hv hw
      have hl : decide (ts.length ≤ a) = false := by simp; omega
      have hd6 : decide ((6 : Int) < d) = false := by simp; omega
      cases ht : tyOk ts[a].1 ts[a].2 with
      | false =>
        have HR : Hid (en ts (f + 1) a = none) := en_bad hlt ht
        generalize ts[a].1 = k at *
        generalize ts[a].2 = n at *
        subst hv'
        go_enter Tryz.func49, Tryz.ntmps49
        go_wp2_with (go_at_call 65; refine (typOk_any _ _ _ HW.out).mono ?_; rintro e w' ⟨rfl, hb'⟩)
        go_ret
        exact ⟨hb', .inl ⟨HR.out, rfl⟩⟩
      | true =>
        have HE : Hid (en ts (f + 1) a = iter (en ts f) (a + 1) (kids ts[a].1 ts[a].2)) := en_ok hlt ht
        have hkd : kids ts[a].1 ts[a].2 ≤ 6 := kids_le ht
        obtain ⟨k, hk⟩ : ∃ k, ts[a].1 = k := ⟨_, rfl⟩
        obtain ⟨n, hn⟩ : ∃ n, ts[a].2 = n := ⟨_, rfl⟩
        have Hk : Hid (ts[a].1 = k) := hk
        have Hn : Hid (ts[a].2 = n) := hn
        rw [hk, hn] at HE ht hkd
        rw [hk] at c0
        rw [hn] at c1
        clear hk hn
        obtain ⟨K, hK⟩ : ∃ K, kids k n = K := ⟨_, rfl⟩
        rw [hK] at hkd HE
        have HK : Hid (kids k n = K) := hK
        clear hK
        have HI : Hid (∀ (a : Nat) (d : Int) (v : Value) (w : World), d + f = 7 → 0 ≤ d → a ≤ 1048577 → IsTyps w.heap.size w v ts → KR w → Calls Tryz.prog 49 #[v, .int .i64 a, .int .i64 d] w fun e w' => PtPost ts f a w e w') := ih
        clear ih
        have hdlo : d ≤ 6 := by omega
        have Hd : Hid (d + ((f + 1 : Nat) : Int) = 7) := hd
        clear hd
        subst hv'
        go_enter Tryz.func49, Tryz.ntmps49
        go_wp2_with (go_at_call 65; refine (typOk_any _ _ _ HW.out).mono ?_; rintro e w1 ⟨rfl, hb1⟩; obtain ⟨hc, hf⟩ := (⟨fun o => hb1.cell (p := ⟨b, o, none⟩) (by assumption), fun o => hb1.frozen (p := ⟨b, o, none⟩) (by assumption)⟩ : (∀ o, w1.cell? ⟨b, o, none⟩ = w.cell? ⟨b, o, none⟩) ∧ (∀ o, w1.frozen? ⟨b, o, none⟩ = w.frozen? ⟨b, o, none⟩)); have hbs : b < w1.heap.size := (by have := hb1.size; omega))
        refine (partsOf_any _ _ _ (by assumption)).mono ?_
        rintro e w2 ⟨rfl, hb2⟩
        rw [HK.out]
        go_wp2_with fail
        have hst : PtInv ts f a w1.heap.size k n d w w2 0 (a + 1) (.slice none 0 0) [] := PtInv.start hb1 (by simpa using hb2)
        go_loopg [40] K (fun gk i wr => ∃ (j x : Nat) (v : Value) (us : List Nat), j + gk = K ∧ i = .int .i64 j ∧ PtInv ts f a w1.heap.size k n d w wr j x v us)
        case atStart => exact ⟨0, a + 1, _, _, by omega, rfl, hst⟩
        case round =>
          clear hst hb2 w2 hc hf hbs c0 c1
          obtain ⟨j, x, v, us, hj', rfl, hp⟩ := hrel
          have HJ : Hid (j + gk = K) := hj'
          have hj : j ≤ K := by omega
          clear hj'
          have HP : Hid (PtInv ts f a w1.heap.size k n d w wr j x v us) := hp
          have hnl : w1.heap.size < wr.heap.size := blk_lt hp.node
          by_cases hjk : j < K
          · have n3 : wr.cell? ⟨w1.heap.size, 3, none⟩ = some (.int .i64 x) := by rw [cell_of_row wr _ 3 _ _ _ hp.node]; simp
            clear hp
            have hxl : x ≤ 1048577 := by
              cases j with
              | zero => cases HP.out.pos; have := HV.out.small; omega
              | succ j =>
                have hx := HP.out.pos
                rw [iter_succ] at hx
                obtain ⟨y, _, hy⟩ := Option.bind_eq_some_iff.1 hx
                have := (en_lt hy).2
                have := HV.out.small
                omega
            go_wp2_with fail
            refine (HI.out x (d + 1) _ wr (by have := Hd.out; omega) (by omega) hxl ((HV.out.below HP.out.bel).up HP.out.bel.size) (HW.out.below HP.out.bel)).mono ?_
            rintro e w3 ⟨hb3, ⟨he, rfl⟩ | ⟨u, rfl, htr⟩⟩
            · have HR : Hid (en ts (f + 1) a = none) := by show _ = _; rw [HE.out]; exact iter_none (j := j + 1) (by rw [iter_succ, HP.out.pos]; exact he) K (by omega)
              have HB : Hid (Below w.heap.size w w3) := HP.out.bel.trans (hb3.mono HP.out.bel.size)
              clear he n3 hb3
              go_wp2_with fail
              go_ret
              exact ⟨HB.out, .inl ⟨HR.out, rfl⟩⟩
            · obtain ⟨hu3, y, hy, hy3⟩ := htr.end
              have HT : Hid (TreeAt ts f w3 (fun b => wr.heap.size ≤ b ∧ b < w3.heap.size) u x) := htr
              have HY : Hid (en ts f x = some y) := hy
              have hN3 : w3.heap[w1.heap.size]? = _ := (hb3.block w1.heap.size hnl).trans HP.out.node
              have HN3 : Hid (w3.heap[w1.heap.size]? = some (.cells #[.int .i64 k, .int .i64 n, .int .i64 a, .int .i64 x, .int .i64 d, v] 101 (0, 0))) := hN3
              have n5 : w3.cell? ⟨w1.heap.size, 5, none⟩ = some v := by rw [cell_of_row w3 _ 5 _ _ _ hN3]; simp
              have hr3 : w3.ownsRow (w1.heap.size + 1) 61 1 v j (us.map fun u => .pointer (some ⟨u, 0, none⟩)) := HP.out.row.kept (gb_bel hb3) (by cases v.ownBlock <;> simp)
              have HR3 : Hid (w3.ownsRow (w1.heap.size + 1) 61 1 v j (us.map fun u => .pointer (some ⟨u, 0, none⟩))) := hr3
              have hs3 : w1.heap.size < w3.heap.size := by have := hb3.size; omega
              have hu0 : wr.heap.size ≤ u := hu3.1
              have hu1 : u < w3.heap.size := hu3.2
              have huN : ¬ u = w1.heap.size := by omega
              have hNu : ¬ w1.heap.size = u := by omega
              have HB3 : Hid (Below wr.heap.size wr w3) := hb3
              obtain ⟨i0, hi, hz0, hz1, hz2⟩ := info_parts Tryz.infoPN
              clear htr hy hN3 hr3 hb3 hu3 n3
              go_wp2_with (at_builtin; refine wpList_append_lies _ rfl _ _ 99 rfl (w1.heap.size + 1) 61 i0 (.pointer none) 1 8 Tryz.underlying99 hi hz0 hz1 hz2 rfl (by decide) v j _ rfl (HR3.out.alloc _) ⟨w3.heap.size, 0, none⟩ 1 1 [.pointer (some ⟨u, 0, none⟩)] rfl rfl ?c1 ?c2 (by omega) ?c3 ?c4 ?c5 (w3.heap.size + 1) (by simp) ?_)
              case c1 =>
                intro i u hi
                match i, hi with
                | 0, hi => simp at hi; subst hi; simp [Addr.add]
              case c2 => intro u hu; simp at hu; subst hu; rfl
              case c3 => unfold maxLen; omega
              case c4 => omega
              case c5 => simp; omega
              intro g cap' w4 hown' hgrow hat hlt'
              have hNo : some w1.heap.size ≠ v.ownBlock := fun e => by have := HR3.out.lt _ e.symm; omega
              have huo : some u ≠ v.ownBlock := fun e => by have := HP.out.row.lt _ e.symm; omega
              have m5 : w4.cell? ⟨w1.heap.size, 5, none⟩ = some v := by rw [hgrow.cell_far ⟨w1.heap.size, 5, none⟩ (by simp; omega) hNo, World.cell?_alloc_lt _ _ _ hs3]; exact n5
              have hN4 : w4.heap[w1.heap.size]? = some (.cells #[.int .i64 k, .int .i64 n, .int .i64 a, .int .i64 x, .int .i64 d, v] 101 (0, 0)) := by rw [hgrow.block _ (by simp; omega) hNo, Below.heap_alloc _ _ _ hs3]; exact HN3.out
              have m3 : w4.cell? ⟨w1.heap.size, 3, none⟩ = some (.int .i64 x) := by rw [cell_of_row w4 _ 3 _ _ _ hN4]; simp
              have f5 : w4.frozen? ⟨w1.heap.size, 5, none⟩ = false := by simp [World.frozen?, hN4]
              have f3 : w4.frozen? ⟨w1.heap.size, 3, none⟩ = false := by simp [World.frozen?, hN4]
              have my : w4.cell? ⟨u, 3, none⟩ = some (.int .i64 y) := by rw [hgrow.cell_far ⟨u, 3, none⟩ (by simp; omega) huo, World.cell?_alloc_lt _ _ _ hu1]; exact hy3
              have HP' := HP.out.next HB3.out HT.out HY.out hgrow hat hlt' hown'
              have HQ : Hid (PtInv ts f a w1.heap.size k n d w ((w4.setCell ⟨w1.heap.size, 5, none⟩ (.slice (some ⟨g, 0, none⟩) (j + 1) cap')).setCell ⟨w1.heap.size, 3, none⟩ (.int .i64 y)) (j + 1) y (.slice (some ⟨g, 0, none⟩) (j + 1) cap') (us ++ [u])) := HP'
              clear HP' hown' hgrow hat hlt' hN4 hNo huo n5 hy3
              go_wp2_with fail
              go_roundg (gk - 1)
              case rel => exact ⟨j + 1, y, _, us ++ [u], by have := HJ.out; omega, by go_num, HQ.out⟩
              case measure => have := HJ.out; omega
          · have e1 : j = K := by omega
            have hfin : TreeAt ts (f + 1) wr (fun b => w.heap.size ≤ b ∧ b < wr.heap.size) w1.heap.size a := hp.done hlt Hk.out Hn.out ht (by rw [HK.out]; exact e1) (by have := Hd.out; omega)
            have HF : Hid (TreeAt ts (f + 1) wr (fun b => w.heap.size ≤ b ∧ b < wr.heap.size) w1.heap.size a) := hfin
            clear e1 hfin hp
            go_wp2_with fail
            go_ret
            exact ⟨HP.out.bel, .inr ⟨_, rfl, HF.out⟩⟩
    · have HR : Hid (en ts (f + 1) a = none) := en_none (by omega)
      obtain ⟨ad, cap, hv', h1, h2, h3⟩ := hv.form
      subst hv'
      clear h3 hw
      have hl : decide (ts.length ≤ a) = true := by simp; omega
      go_enter Tryz.func49, Tryz.ntmps49
      go_wp2_with fail
      go_ret
      exact ⟨Below.refl _ _, .inl ⟨HR.out, rfl⟩⟩
end Go.Proofs.YtdncnjmlicdamaaGreatDoor
namespace Go.Proofs.YtdncnjmlicdamaaGreatDoor
open Go.RowKit
set_option linter.unusedVariables false
/-- A node's cells and its parts, opened. -/
theorem TreeAt.open {ts : List (Int × Int)} {f u a : Nat} {w : World} {S : Nat → Prop} (h : TreeAt ts (f + 1) w S u a) : ∃ (ha : a < ts.length) (K e : Nat) (ad : Option Addr) (cap : Nat),
    kids ts[a].1 ts[a].2 = K ∧ K ≤ 6 ∧ tyOk ts[a].1 ts[a].2 = true ∧ en ts (f + 1) a = some e ∧ iter (en ts f) (a + 1) K = some e ∧ w.cell? ⟨u, 2, none⟩ = some (.int .i64 a) ∧ w.cell? ⟨u, 3, none⟩ = some (.int .i64 e) ∧
    w.cell? ⟨u, 4, none⟩ = some (.int .i64 (6 - f : Nat)) ∧ w.cell? ⟨u, 5, none⟩ = some (.slice ad K cap) ∧ K ≤ cap ∧ cap ≤ maxLen ∧
      (K = 0 ∨ ∃ g, ad = some ⟨g, 0, none⟩ ∧ ∀ j, j < K → ∃ c p, iter (en ts f) (a + 1) j = some p ∧ w.cell? ⟨g, j, none⟩ = some (.pointer (some ⟨c, 0, none⟩)) ∧ TreeAt ts f w S c p) := by
  obtain ⟨hu, ha, e, ad, cap, h1, h2, c0, c1, c2, c3, c4, c5, h3, h4, h5⟩ := h
  refine ⟨ha, _, e, ad, cap, rfl, kids_le h1, h1, h2, by rw [← en_ok ha h1]; exact h2, c2, c3, c4, c5, h3, h4, ?_⟩
  rcases h5 with h5 | ⟨g, hg, _, hk⟩
  · exact .inl h5
  · exact .inr ⟨g, hg, hk⟩
end Go.Proofs.YtdncnjmlicdamaaGreatDoor
namespace Go.Proofs.YtdncnjmlicdamaaGreatDoor
open Go.RowKit
set_option linter.unusedVariables false
/-- What parseSchema leaves. -/
def PsPost (ts : List (Int × Int)) (w : World) (e : Ending) (w' : World) : Prop :=
  Below w.heap.size w w' ∧ ((schOk ts = false ∧ e = .returned (.pointer none)) ∨ (schOk ts = true ∧ ∃ u, e = .returned (.pointer (some ⟨u, 0, none⟩)) ∧ TreeAt ts 7 w' (fun b => w.heap.size ≤ b ∧ b < w'.heap.size) u 0))
set_option maxHeartbeats 400000 in
theorem parseSchema_any (ts : List (Int × Int)) (v : Value) (w : World) (hv : IsTyps w.heap.size w v ts) (hw : KR w) : Calls Tryz.prog 28 #[v] w fun e w' => PsPost ts w e w' := by
  have HV : Hid (IsTyps w.heap.size w v ts) := hv
  have HW : Hid (KR w) := hw
  obtain ⟨ad, cap, rfl, h1, h2, h3⟩ := hv.form
  clear h3 hv hw
  by_cases h40 : 40 < ts.length
  · have HR : Hid (schOk ts = false) := schOk_big h40
    go_enter Tryz.func28, Tryz.ntmps28
    go_wp2_with fail
    go_ret
    exact ⟨Below.refl _ _, .inl ⟨HR.out, rfl⟩⟩
  · have hd : decide ((40 : Int) < ts.length) = false := by simp; omega
    go_enter Tryz.func28, Tryz.ntmps28
    go_wp2_with fail
    refine (parseType_any ts 7 0 0 _ w (by omega) (by omega) (by omega) HV.out HW.out).mono ?_
    rintro e w1 ⟨hb, ⟨he, rfl⟩ | ⟨u, rfl, htr⟩⟩
    · have HR : Hid (schOk ts = false) := schOk_no he
      clear he
      go_wp2_with fail
      go_ret
      exact ⟨hb, .inl ⟨HR.out, rfl⟩⟩
    · obtain ⟨_, e0, he, hc⟩ := htr.end
      have HT : Hid (TreeAt ts 7 w1 (fun b => w.heap.size ≤ b ∧ b < w1.heap.size) u 0) := htr
      have HB : Hid (Below w.heap.size w w1) := hb
      have HR : Hid (schOk ts = decide (e0 = ts.length)) := schOk_end (by omega) he
      clear he htr hb
      by_cases hq : e0 = ts.length
      · have HS : Hid (schOk ts = true) := by show _ = _; rw [HR.out]; simp [hq]
        have hq' : (((e0 : Nat) : Int) != (ts.length : Int)) = false := by simp [hq]
        subst hq
        go_wp2_with fail
        go_ret
        exact ⟨HB.out, .inr ⟨HS.out, _, rfl, HT.out⟩⟩
      · have HS : Hid (schOk ts = false) := by show _ = _; rw [HR.out]; simp [hq]
        have hq' : (((e0 : Nat) : Int) != (ts.length : Int)) = true := by rw [bne_iff_ne]; omega
        clear hq
        go_wp2_with fail
        go_ret
        exact ⟨HB.out, .inl ⟨HS.out, rfl⟩⟩
end Go.Proofs.YtdncnjmlicdamaaGreatDoor
