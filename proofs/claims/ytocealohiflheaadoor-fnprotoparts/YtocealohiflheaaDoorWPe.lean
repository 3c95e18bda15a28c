/- Messages, as the program writes them: a field; a value: contracts. -/
import Derived.Test.YtocealohiflheaaDoorWPc
namespace Go.Proofs.YtocealohiflheaaDoor
open Go.RowKit Go.Sort
set_option linter.unusedVariables false
theorem blk_of_cell {w : World} {b i : Nat} {v : Value} (h : w.cell? ⟨b, i, none⟩ = some v) : b < w.heap.size := World.block_lt_of_cell? w _ h
theorem isNothing_val (ts : List (Int × Int)) (vs : List It) (hvs : ∀ x ∈ vs, x.n < 18446744073709551616 ∧ x.s.size ≤ 1048577) (f a q : Nat) (hk7 : ∀ h : a < ts.length, ts[a].1 = 5 ∨ ts[a].1 ≤ 3) (S : Nat → Prop) (x : Value) (w : World) (hx : VAt ts vs f w S x a q) (hS : ∀ c, S c → c < w.heap.size) :
    Calls Tryd.prog 111 #[x] w fun e w' => ∃ b, e = .returned (.bool b) ∧ (∀ h : q < vs.length, b = isNo vs[q]) ∧ Below w.heap.size w w' := by
  cases f with
  | zero => exact hx.elim
  | succ f =>
    obtain ⟨u, ha, hq, ht, hfit, hx⟩ := hx
    obtain ⟨_, e0, ad0, cap0, hok, hit, hu, c0, c1, _⟩ := ht.openT
    have hul := hS u hu
    have hf' : vs[q].k = ts[a].1 ∧ fitsN ts[a].1 ts[a].2 vs[q].n = true ∧ fitsS ts[a].1 ts[a].2 vs[q].s.size = true := by simpa [fitsI] using hfit
    have hk := hk7 ha
    rcases hx with ⟨hk', rfl⟩ | ⟨hk', rfl⟩ | ⟨hk', ad, cap, rfl, h1, h2, h3⟩ | ⟨hk', y, rfl, h3⟩
    · refine (isNothing_num _ _ _ _ w (item_num u _ vs[q].n w c0 hul)).mono ?_
      rintro e w1 ⟨rfl, hb⟩
      refine ⟨_, rfl, fun _ => ?_, hb⟩
      have hs0 : vs[q].s.size = 0 := by
        have h := hf'.2.2
        unfold fitsS at h
        rw [if_neg (by omega), if_neg (by omega)] at h
        exact of_decide_eq_true h
      show (decide (vs[q].n = 0) && decide ((⟨#[]⟩ : ByteArray).size = 0)) = (decide (vs[q].n = 0) && decide (vs[q].s.size = 0))
      rw [hs0]; rfl
    · refine (isNothing_byt _ _ _ _ w (item_byt u _ vs[q].s w c0 hul)).mono ?_
      rintro e w1 ⟨rfl, hb⟩
      refine ⟨_, rfl, fun _ => ?_, hb⟩
      have hn0 : vs[q].n = 0 := by
        have h := hf'.2.1
        unfold fitsN at h
        rw [if_neg (by omega), if_neg (by omega), if_neg (by omega), if_neg (by omega), if_neg (by omega)] at h
        exact of_decide_eq_true h
      show (decide (0 = 0) && decide (vs[q].s.size = 0)) = (decide (vs[q].n = 0) && decide (vs[q].s.size = 0))
      rw [hn0]
    · have hs0 : vs[q].s.size = 0 := by
        have h := hf'.2.2
        unfold fitsS at h
        rw [if_neg (by omega), if_neg (by omega)] at h
        exact of_decide_eq_true h
      have hn20 : vs[q].n ≤ 20 := by
        have h := np_le hok hf'.2.1
        unfold np at h
        rwa [if_pos (by omega)] at h
      refine (isNothing_ser _ _ _ _ w (item_ser u _ vs[q].n cap ad hn20 w c0 hul)).mono ?_
      rintro e w1 ⟨rfl, hb⟩
      refine ⟨_, rfl, fun _ => ?_, hb⟩
      show (decide (vs[q].n = 0) && decide ((⟨#[]⟩ : ByteArray).size = 0)) = (decide (vs[q].n = 0) && decide (vs[q].s.size = 0))
      rw [hs0]; rfl
    · omega
set_option maxHeartbeats 1000000 in
theorem wf_a (i c : Nat) (k : Int) (x : Value) (B : List UInt8) (w : World) (hk : k = 4 ∨ k = 7) (c0 : w.cell? ⟨c, 0, none⟩ = some (.int .i64 k)) (hc : c < w.heap.size)
    (hP : ∀ w', Below w.heap.size w w' → Calls Tryd.prog 112 #[.agg #[], .int .i64 i, .pointer (some ⟨c, 0, none⟩), x] w' fun e w'' => e = .returned (.string ⟨B.toArray⟩) ∧ Below w'.heap.size w' w'') :
    Calls Tryd.prog 105 #[.agg #[], .int .i64 i, .pointer (some ⟨c, 0, none⟩), x] w fun e w' => e = .returned (.string ⟨B.toArray⟩) ∧ Below w.heap.size w w' := by
  have HP : Hid (∀ w', Below w.heap.size w w' → Calls Tryd.prog 112 #[.agg #[], .int .i64 i, .pointer (some ⟨c, 0, none⟩), x] w' fun e w'' => e = .returned (.string ⟨B.toArray⟩) ∧ Below w'.heap.size w' w'') := hP
  have r0 : (w.alloc (.cells #[] 64)).cell? ⟨c, 0, none⟩ = some (.int .i64 k) := by rw [(bel1 w _).cell (p := ⟨c, 0, none⟩) hc]; exact c0
  clear hP
  rcases hk with rfl | rfl
  all_goals
    go_enter Tryd.func105, Tryd.ntmps105
    go_wp2_with fail
    refine (HP.out _ (bel1 _ _)).mono ?_
    rintro e w1 ⟨rfl, hb1⟩
    have HB1 : Hid (Below w.heap.size w w1) := (bel1 _ _).trans (hb1.mono (by simp))
    clear hb1
    go_wp2_with fail
    go_ret
    exact ⟨rfl, HB1.out⟩
set_option maxHeartbeats 2000000 in
theorem wf_b (i c : Nat) (k : Int) (x : Value) (b : Bool) (B : List UInt8) (w : World) (hk : k = 1 ∨ k = 2 ∨ k = 3) (c0 : w.cell? ⟨c, 0, none⟩ = some (.int .i64 k)) (hc : c < w.heap.size)
    (hN : ∀ w', Below w.heap.size w w' → Calls Tryd.prog 111 #[x] w' fun e w'' => e = .returned (.bool b) ∧ Below w'.heap.size w' w'')
    (hP : ∀ w', Below w.heap.size w w' → Calls Tryd.prog 112 #[.agg #[], .int .i64 i, .pointer (some ⟨c, 0, none⟩), x] w' fun e w'' => e = .returned (.string ⟨B.toArray⟩) ∧ Below w'.heap.size w' w'') :
    Calls Tryd.prog 105 #[.agg #[], .int .i64 i, .pointer (some ⟨c, 0, none⟩), x] w fun e w' => e = .returned (.string ⟨(if b then [] else B).toArray⟩) ∧ Below w.heap.size w w' := by
  have HP : Hid (∀ w', Below w.heap.size w w' → Calls Tryd.prog 112 #[.agg #[], .int .i64 i, .pointer (some ⟨c, 0, none⟩), x] w' fun e w'' => e = .returned (.string ⟨B.toArray⟩) ∧ Below w'.heap.size w' w'') := hP
  have HN : Hid (∀ w', Below w.heap.size w w' → Calls Tryd.prog 111 #[x] w' fun e w'' => e = .returned (.bool b) ∧ Below w'.heap.size w' w'') := hN
  have r0 : (w.alloc (.cells #[] 64)).cell? ⟨c, 0, none⟩ = some (.int .i64 k) := by rw [(bel1 w _).cell (p := ⟨c, 0, none⟩) hc]; exact c0
  clear hP hN
  rcases hk with rfl | rfl | rfl
  all_goals
    go_enter Tryd.func105, Tryd.ntmps105
    go_wp2_with fail
    refine (HN.out _ (bel1 _ _)).mono ?_
    rintro e w1 ⟨rfl, hb1⟩
    have HB1 : Hid (Below w.heap.size w w1) := (bel1 _ _).trans (hb1.mono (by simp))
    clear hb1
    cases b with
    | true =>
      go_wp2_with fail
      go_ret
      exact ⟨rfl, HB1.out⟩
    | false =>
      go_wp2_with fail
      refine (HP.out _ HB1.out).mono ?_
      rintro e w2 ⟨rfl, hb2⟩
      have HB2 : Hid (Below w.heap.size w w2) := HB1.out.trans (hb2.mono HB1.out.size)
      clear hb2
      go_wp2_with fail
      go_ret
      exact ⟨rfl, HB2.out⟩
set_option maxHeartbeats 2000000 in
theorem wf_c (i c g cap c' : Nat) (k' : Int) (x : Value) (b : Bool) (B : List UInt8) (w : World) (hk' : isNk k' = true) (c0 : w.cell? ⟨c, 0, none⟩ = some (.int .i64 5)) (hc : c < w.heap.size) (c5 : w.cell? ⟨c, 5, none⟩ = some (.slice (some ⟨g, 0, none⟩) 1 cap)) (h1 : 1 ≤ cap) (h2 : cap ≤ maxLen)
    (cg : w.cell? ⟨g, 0, none⟩ = some (.pointer (some ⟨c', 0, none⟩))) (hg : g < w.heap.size) (ck : w.cell? ⟨c', 0, none⟩ = some (.int .i64 k')) (hc' : c' < w.heap.size)
    (hN : ∀ w', Below w.heap.size w w' → Calls Tryd.prog 111 #[x] w' fun e w'' => e = .returned (.bool b) ∧ Below w'.heap.size w' w'')
    (hP : ∀ w', Below w.heap.size w w' → Calls Tryd.prog 112 #[.agg #[], .int .i64 i, .pointer (some ⟨c, 0, none⟩), x] w' fun e w'' => e = .returned (.string ⟨B.toArray⟩) ∧ Below w'.heap.size w' w'') :
    Calls Tryd.prog 105 #[.agg #[], .int .i64 i, .pointer (some ⟨c, 0, none⟩), x] w fun e w' => e = .returned (.string ⟨(if b then [] else B).toArray⟩) ∧ Below w.heap.size w w' := by
  have HP : Hid (∀ w', Below w.heap.size w w' → Calls Tryd.prog 112 #[.agg #[], .int .i64 i, .pointer (some ⟨c, 0, none⟩), x] w' fun e w'' => e = .returned (.string ⟨B.toArray⟩) ∧ Below w'.heap.size w' w'') := hP
  have HN : Hid (∀ w', Below w.heap.size w w' → Calls Tryd.prog 111 #[x] w' fun e w'' => e = .returned (.bool b) ∧ Below w'.heap.size w' w'') := hN
  have r0 : (w.alloc (.cells #[] 64)).cell? ⟨c, 0, none⟩ = some (.int .i64 5) := by rw [(bel1 w _).cell (p := ⟨c, 0, none⟩) hc]; exact c0
  have r5 : (w.alloc (.cells #[] 64)).cell? ⟨c, 5, none⟩ = some (.slice (some ⟨g, 0, none⟩) 1 cap) := by rw [(bel1 w _).cell (p := ⟨c, 5, none⟩) hc]; exact c5
  have rg : (w.alloc (.cells #[] 64)).cell? ⟨g, 0, none⟩ = some (.pointer (some ⟨c', 0, none⟩)) := by rw [(bel1 w _).cell (p := ⟨g, 0, none⟩) hg]; exact cg
  have HI : Hid (Calls Tryd.prog 108 #[.pointer (some ⟨c', 0, none⟩)] (w.alloc (.cells #[] 64)) fun e w' => e = .returned (.bool true) ∧ w' = w.alloc (.cells #[] 64)) := by
    have := isNumber_any c' k' (w.alloc (.cells #[] 64)) (by rw [(bel1 w _).cell (p := ⟨c', 0, none⟩) hc']; exact ck)
    rwa [hk'] at this
  unfold maxLen at h2
  clear hP hN c0 c5 cg ck hk'
  go_enter Tryd.func105, Tryd.ntmps105
  go_wp2_with fail
  refine Calls.mono HI.out ?_
  rintro e w0 ⟨rfl, rfl⟩
  go_wp2_with fail
  refine (HN.out _ (bel1 _ _)).mono ?_
  rintro e w1 ⟨rfl, hb1⟩
  have HB1 : Hid (Below w.heap.size w w1) := (bel1 _ _).trans (hb1.mono (by simp))
  clear hb1
  cases b with
  | true =>
    go_wp2_with fail
    go_ret
    exact ⟨rfl, HB1.out⟩
  | false =>
    go_wp2_with fail
    refine (HP.out _ HB1.out).mono ?_
    rintro e w2 ⟨rfl, hb2⟩
    have HB2 : Hid (Below w.heap.size w w2) := HB1.out.trans (hb2.mono HB1.out.size)
    clear hb2
    go_wp2_with fail
    go_ret
    exact ⟨rfl, HB2.out⟩
set_option maxRecDepth 100000 in
set_option maxHeartbeats 4000000 in
theorem wf_d_5_1 (i c g cap c' : Nat) (k' : Int) (x : Value) (B : List UInt8) (w : World) (hk' : isNk k' = false) (c0 : w.cell? ⟨c, 0, none⟩ = some (.int .i64 5)) (hc : c < w.heap.size) (c5 : w.cell? ⟨c, 5, none⟩ = some (.slice (some ⟨g, 0, none⟩) 1 cap)) (h1 : 1 ≤ cap) (h2 : cap ≤ maxLen)
    (cg : w.cell? ⟨g, 0, none⟩ = some (.pointer (some ⟨c', 0, none⟩))) (hg : g < w.heap.size) (ck : w.cell? ⟨c', 0, none⟩ = some (.int .i64 k')) (hc' : c' < w.heap.size)
    (hP : ∀ w', Below w.heap.size w w' → Calls Tryd.prog 110 #[x] w' fun e w'' => (∃ ad n cp, e = .returned (.slice ad n cp) ∧ ∀ w3, Below w''.heap.size w'' w3 → Calls Tryd.prog 109 #[.agg #[], .int .i64 i, .pointer (some ⟨c', 0, none⟩), .slice ad n cp] w3 fun e w4 => e = .returned (.string ⟨B.toArray⟩) ∧ Below w3.heap.size w3 w4) ∧ Below w'.heap.size w' w'') :
    Calls Tryd.prog 105 #[.agg #[], .int .i64 i, .pointer (some ⟨c, 0, none⟩), x] w fun e w' => e = .returned (.string ⟨B.toArray⟩) ∧ Below w.heap.size w w' := by
  obtain ⟨X, hX⟩ : ∃ X : ByteArray, (⟨B.toArray⟩ : ByteArray) = X := ⟨_, rfl⟩
  rw [hX] at hP ⊢
  have HPB : Hid (∀ w', Below w.heap.size w w' → Calls Tryd.prog 110 #[x] w' fun e w'' => (∃ ad n cp, e = .returned (.slice ad n cp) ∧ ∀ w3, Below w''.heap.size w'' w3 → Calls Tryd.prog 109 #[.agg #[], .int .i64 i, .pointer (some ⟨c', 0, none⟩), .slice ad n cp] w3 fun e w4 => e = .returned (.string X) ∧ Below w3.heap.size w3 w4) ∧ Below w'.heap.size w' w'') := hP
  have r0 : (w.alloc (.cells #[] 64)).cell? ⟨c, 0, none⟩ = some (.int .i64 5) := by rw [(bel1 w _).cell (p := ⟨c, 0, none⟩) hc]; exact c0
  have HK : Hid (∀ w3, Below w.heap.size w w3 → w3.cell? ⟨c, 5, none⟩ = some (.slice (some ⟨g, 0, none⟩) 1 cap) ∧ w3.cell? ⟨g, 0, none⟩ = some (.pointer (some ⟨c', 0, none⟩))) := fun w3 hb => ⟨by rw [hb.cell (p := ⟨c, 5, none⟩) hc]; exact c5, by rw [hb.cell (p := ⟨g, 0, none⟩) hg]; exact cg⟩
  have HB0 : Hid (Below w.heap.size w (w.alloc (.cells #[] 64)).drew) := (bel1 _ _).drew
  have HS0 : Hid ((w.alloc (.cells #[] 64)).drew.cell? ⟨c, 5, none⟩ = some (.slice (some ⟨g, 0, none⟩) 1 cap) ∧ (w.alloc (.cells #[] 64)).drew.cell? ⟨g, 0, none⟩ = some (.pointer (some ⟨c', 0, none⟩))) := HK.out _ HB0.out
  unfold maxLen at h2
  clear hP hX
  have r5 : (w.alloc (.cells #[] 64)).cell? ⟨c, 5, none⟩ = some (.slice (some ⟨g, 0, none⟩) 1 cap) := by rw [(bel1 w _).cell (p := ⟨c, 5, none⟩) hc]; exact c5
  have rg : (w.alloc (.cells #[] 64)).cell? ⟨g, 0, none⟩ = some (.pointer (some ⟨c', 0, none⟩)) := by rw [(bel1 w _).cell (p := ⟨g, 0, none⟩) hg]; exact cg
  have HI : Hid (Calls Tryd.prog 108 #[.pointer (some ⟨c', 0, none⟩)] (w.alloc (.cells #[] 64)) fun e w' => e = .returned (.bool false) ∧ w' = w.alloc (.cells #[] 64)) := by
    have := isNumber_any c' k' (w.alloc (.cells #[] 64)) (by rw [(bel1 w _).cell (p := ⟨c', 0, none⟩) hc']; exact ck)
    rwa [hk'] at this
  clear c0 c5 cg ck hk'
  go_enter Tryd.func105, Tryd.ntmps105
  go_wp2_with fail
  refine Calls.mono HI.out ?_
  rintro e w0 ⟨rfl, rfl⟩
  go_wp2_with fail
  go_region_held3 (fun W => W.cell? ⟨c, 5, none⟩ = some (.slice (some ⟨g, 0, none⟩) 1 cap) ∧ W.cell? ⟨g, 0, none⟩ = some (.pointer (some ⟨c', 0, none⟩))) (first | exact HS0.out | exact HS5.out | exact HS4.out) (first
    | (go_at_call 110; refine (HPB.out _ HB0.out).mono ?_; rintro e w4 ⟨⟨ad, n4, cp4, rfl, hwa⟩, hb4⟩; have HWA : Hid (∀ w3, Below w4.heap.size w4 w3 → Calls Tryd.prog 109 #[.agg #[], .int .i64 i, .pointer (some ⟨c', 0, none⟩), .slice ad n4 cp4] w3 fun e w4 => e = .returned (.string X) ∧ Below w3.heap.size w3 w4) := hwa; have HB4 : Hid (Below w.heap.size w w4) := HB0.out.trans (hb4.mono HB0.out.size); have HS4 : Hid _ := HK.out w4 HB4.out; clear hwa hb4)
    | (go_at_call 109; refine (HWA.out _ (Below.refl _ _)).mono ?_; rintro e w5 ⟨rfl, hb5⟩; have HB5 : Hid (Below w.heap.size w w5) := HB4.out.trans (hb5.mono HB4.out.size); have HS5 : Hid _ := HK.out w5 HB5.out; clear hb5))
  all_goals
    go_wp2_with fail
    go_ret
    exact ⟨rfl, HB5.out⟩
set_option maxRecDepth 100000 in
set_option maxHeartbeats 4000000 in
theorem wf_d_6_1 (i c g cap c' : Nat) (k' : Int) (x : Value) (B : List UInt8) (w : World) (c0 : w.cell? ⟨c, 0, none⟩ = some (.int .i64 6)) (hc : c < w.heap.size) (c5 : w.cell? ⟨c, 5, none⟩ = some (.slice (some ⟨g, 0, none⟩) 1 cap)) (h1 : 1 ≤ cap) (h2 : cap ≤ maxLen)
    (cg : w.cell? ⟨g, 0, none⟩ = some (.pointer (some ⟨c', 0, none⟩))) (hg : g < w.heap.size) (ck : w.cell? ⟨c', 0, none⟩ = some (.int .i64 k')) (hc' : c' < w.heap.size)
    (hP : ∀ w', Below w.heap.size w w' → Calls Tryd.prog 110 #[x] w' fun e w'' => (∃ ad n cp, e = .returned (.slice ad n cp) ∧ ∀ w3, Below w''.heap.size w'' w3 → Calls Tryd.prog 109 #[.agg #[], .int .i64 i, .pointer (some ⟨c', 0, none⟩), .slice ad n cp] w3 fun e w4 => e = .returned (.string ⟨B.toArray⟩) ∧ Below w3.heap.size w3 w4) ∧ Below w'.heap.size w' w'') :
    Calls Tryd.prog 105 #[.agg #[], .int .i64 i, .pointer (some ⟨c, 0, none⟩), x] w fun e w' => e = .returned (.string ⟨B.toArray⟩) ∧ Below w.heap.size w w' := by
  obtain ⟨X, hX⟩ : ∃ X : ByteArray, (⟨B.toArray⟩ : ByteArray) = X := ⟨_, rfl⟩
  rw [hX] at hP ⊢
  have HPB : Hid (∀ w', Below w.heap.size w w' → Calls Tryd.prog 110 #[x] w' fun e w'' => (∃ ad n cp, e = .returned (.slice ad n cp) ∧ ∀ w3, Below w''.heap.size w'' w3 → Calls Tryd.prog 109 #[.agg #[], .int .i64 i, .pointer (some ⟨c', 0, none⟩), .slice ad n cp] w3 fun e w4 => e = .returned (.string X) ∧ Below w3.heap.size w3 w4) ∧ Below w'.heap.size w' w'') := hP
  have r0 : (w.alloc (.cells #[] 64)).cell? ⟨c, 0, none⟩ = some (.int .i64 6) := by rw [(bel1 w _).cell (p := ⟨c, 0, none⟩) hc]; exact c0
  have HK : Hid (∀ w3, Below w.heap.size w w3 → w3.cell? ⟨c, 5, none⟩ = some (.slice (some ⟨g, 0, none⟩) 1 cap) ∧ w3.cell? ⟨g, 0, none⟩ = some (.pointer (some ⟨c', 0, none⟩))) := fun w3 hb => ⟨by rw [hb.cell (p := ⟨c, 5, none⟩) hc]; exact c5, by rw [hb.cell (p := ⟨g, 0, none⟩) hg]; exact cg⟩
  have HB0 : Hid (Below w.heap.size w (w.alloc (.cells #[] 64)).drew) := (bel1 _ _).drew
  have HS0 : Hid ((w.alloc (.cells #[] 64)).drew.cell? ⟨c, 5, none⟩ = some (.slice (some ⟨g, 0, none⟩) 1 cap) ∧ (w.alloc (.cells #[] 64)).drew.cell? ⟨g, 0, none⟩ = some (.pointer (some ⟨c', 0, none⟩))) := HK.out _ HB0.out
  unfold maxLen at h2
  clear hP hX
  clear c0 c5 cg ck
  go_enter Tryd.func105, Tryd.ntmps105
  go_wp2_with fail
  go_region_held3 (fun W => W.cell? ⟨c, 5, none⟩ = some (.slice (some ⟨g, 0, none⟩) 1 cap) ∧ W.cell? ⟨g, 0, none⟩ = some (.pointer (some ⟨c', 0, none⟩))) (first | exact HS0.out | exact HS5.out | exact HS4.out) (first
    | (go_at_call 110; refine (HPB.out _ HB0.out).mono ?_; rintro e w4 ⟨⟨ad, n4, cp4, rfl, hwa⟩, hb4⟩; have HWA : Hid (∀ w3, Below w4.heap.size w4 w3 → Calls Tryd.prog 109 #[.agg #[], .int .i64 i, .pointer (some ⟨c', 0, none⟩), .slice ad n4 cp4] w3 fun e w4 => e = .returned (.string X) ∧ Below w3.heap.size w3 w4) := hwa; have HB4 : Hid (Below w.heap.size w w4) := HB0.out.trans (hb4.mono HB0.out.size); have HS4 : Hid _ := HK.out w4 HB4.out; clear hwa hb4)
    | (go_at_call 109; refine (HWA.out _ (Below.refl _ _)).mono ?_; rintro e w5 ⟨rfl, hb5⟩; have HB5 : Hid (Below w.heap.size w w5) := HB4.out.trans (hb5.mono HB4.out.size); have HS5 : Hid _ := HK.out w5 HB5.out; clear hb5))
  all_goals
    go_wp2_with fail
    go_ret
    exact ⟨rfl, HB5.out⟩
set_option maxRecDepth 100000 in
set_option maxHeartbeats 4000000 in
theorem wf_d_8_1 (i c g cap c' : Nat) (k' : Int) (x : Value) (B : List UInt8) (w : World) (c0 : w.cell? ⟨c, 0, none⟩ = some (.int .i64 8)) (hc : c < w.heap.size) (c5 : w.cell? ⟨c, 5, none⟩ = some (.slice (some ⟨g, 0, none⟩) 1 cap)) (h1 : 1 ≤ cap) (h2 : cap ≤ maxLen)
    (cg : w.cell? ⟨g, 0, none⟩ = some (.pointer (some ⟨c', 0, none⟩))) (hg : g < w.heap.size) (ck : w.cell? ⟨c', 0, none⟩ = some (.int .i64 k')) (hc' : c' < w.heap.size)
    (hP : ∀ w', Below w.heap.size w w' → Calls Tryd.prog 110 #[x] w' fun e w'' => (∃ ad n cp, e = .returned (.slice ad n cp) ∧ ∀ w3, Below w''.heap.size w'' w3 → Calls Tryd.prog 109 #[.agg #[], .int .i64 i, .pointer (some ⟨c', 0, none⟩), .slice ad n cp] w3 fun e w4 => e = .returned (.string ⟨B.toArray⟩) ∧ Below w3.heap.size w3 w4) ∧ Below w'.heap.size w' w'') :
    Calls Tryd.prog 105 #[.agg #[], .int .i64 i, .pointer (some ⟨c, 0, none⟩), x] w fun e w' => e = .returned (.string ⟨B.toArray⟩) ∧ Below w.heap.size w w' := by
  obtain ⟨X, hX⟩ : ∃ X : ByteArray, (⟨B.toArray⟩ : ByteArray) = X := ⟨_, rfl⟩
  rw [hX] at hP ⊢
  have HPB : Hid (∀ w', Below w.heap.size w w' → Calls Tryd.prog 110 #[x] w' fun e w'' => (∃ ad n cp, e = .returned (.slice ad n cp) ∧ ∀ w3, Below w''.heap.size w'' w3 → Calls Tryd.prog 109 #[.agg #[], .int .i64 i, .pointer (some ⟨c', 0, none⟩), .slice ad n cp] w3 fun e w4 => e = .returned (.string X) ∧ Below w3.heap.size w3 w4) ∧ Below w'.heap.size w' w'') := hP
  have r0 : (w.alloc (.cells #[] 64)).cell? ⟨c, 0, none⟩ = some (.int .i64 8) := by rw [(bel1 w _).cell (p := ⟨c, 0, none⟩) hc]; exact c0
  have HK : Hid (∀ w3, Below w.heap.size w w3 → w3.cell? ⟨c, 5, none⟩ = some (.slice (some ⟨g, 0, none⟩) 1 cap) ∧ w3.cell? ⟨g, 0, none⟩ = some (.pointer (some ⟨c', 0, none⟩))) := fun w3 hb => ⟨by rw [hb.cell (p := ⟨c, 5, none⟩) hc]; exact c5, by rw [hb.cell (p := ⟨g, 0, none⟩) hg]; exact cg⟩
  have HB0 : Hid (Below w.heap.size w (w.alloc (.cells #[] 64)).drew) := (bel1 _ _).drew
  have HS0 : Hid ((w.alloc (.cells #[] 64)).drew.cell? ⟨c, 5, none⟩ = some (.slice (some ⟨g, 0, none⟩) 1 cap) ∧ (w.alloc (.cells #[] 64)).drew.cell? ⟨g, 0, none⟩ = some (.pointer (some ⟨c', 0, none⟩))) := HK.out _ HB0.out
  unfold maxLen at h2
  clear hP hX
  clear c0 c5 cg ck
  go_enter Tryd.func105, Tryd.ntmps105
  go_wp2_with fail
  go_region_held3 (fun W => W.cell? ⟨c, 5, none⟩ = some (.slice (some ⟨g, 0, none⟩) 1 cap) ∧ W.cell? ⟨g, 0, none⟩ = some (.pointer (some ⟨c', 0, none⟩))) (first | exact HS0.out | exact HS5.out | exact HS4.out) (first
    | (go_at_call 110; refine (HPB.out _ HB0.out).mono ?_; rintro e w4 ⟨⟨ad, n4, cp4, rfl, hwa⟩, hb4⟩; have HWA : Hid (∀ w3, Below w4.heap.size w4 w3 → Calls Tryd.prog 109 #[.agg #[], .int .i64 i, .pointer (some ⟨c', 0, none⟩), .slice ad n4 cp4] w3 fun e w4 => e = .returned (.string X) ∧ Below w3.heap.size w3 w4) := hwa; have HB4 : Hid (Below w.heap.size w w4) := HB0.out.trans (hb4.mono HB0.out.size); have HS4 : Hid _ := HK.out w4 HB4.out; clear hwa hb4)
    | (go_at_call 109; refine (HWA.out _ (Below.refl _ _)).mono ?_; rintro e w5 ⟨rfl, hb5⟩; have HB5 : Hid (Below w.heap.size w w5) := HB4.out.trans (hb5.mono HB4.out.size); have HS5 : Hid _ := HK.out w5 HB5.out; clear hb5))
  all_goals
    go_wp2_with fail
    go_ret
    exact ⟨rfl, HB5.out⟩
set_option maxRecDepth 100000 in
set_option maxHeartbeats 4000000 in
theorem wf_d_9_1 (i c g cap c' : Nat) (k' : Int) (x : Value) (B : List UInt8) (w : World) (c0 : w.cell? ⟨c, 0, none⟩ = some (.int .i64 9)) (hc : c < w.heap.size) (c5 : w.cell? ⟨c, 5, none⟩ = some (.slice (some ⟨g, 0, none⟩) 1 cap)) (h1 : 1 ≤ cap) (h2 : cap ≤ maxLen)
    (cg : w.cell? ⟨g, 0, none⟩ = some (.pointer (some ⟨c', 0, none⟩))) (hg : g < w.heap.size) (ck : w.cell? ⟨c', 0, none⟩ = some (.int .i64 k')) (hc' : c' < w.heap.size)
    (hP : ∀ w', Below w.heap.size w w' → Calls Tryd.prog 110 #[x] w' fun e w'' => (∃ ad n cp, e = .returned (.slice ad n cp) ∧ ∀ w3, Below w''.heap.size w'' w3 → Calls Tryd.prog 109 #[.agg #[], .int .i64 i, .pointer (some ⟨c', 0, none⟩), .slice ad n cp] w3 fun e w4 => e = .returned (.string ⟨B.toArray⟩) ∧ Below w3.heap.size w3 w4) ∧ Below w'.heap.size w' w'') :
    Calls Tryd.prog 105 #[.agg #[], .int .i64 i, .pointer (some ⟨c, 0, none⟩), x] w fun e w' => e = .returned (.string ⟨B.toArray⟩) ∧ Below w.heap.size w w' := by
  obtain ⟨X, hX⟩ : ∃ X : ByteArray, (⟨B.toArray⟩ : ByteArray) = X := ⟨_, rfl⟩
  rw [hX] at hP ⊢
  have HPB : Hid (∀ w', Below w.heap.size w w' → Calls Tryd.prog 110 #[x] w' fun e w'' => (∃ ad n cp, e = .returned (.slice ad n cp) ∧ ∀ w3, Below w''.heap.size w'' w3 → Calls Tryd.prog 109 #[.agg #[], .int .i64 i, .pointer (some ⟨c', 0, none⟩), .slice ad n cp] w3 fun e w4 => e = .returned (.string X) ∧ Below w3.heap.size w3 w4) ∧ Below w'.heap.size w' w'') := hP
  have r0 : (w.alloc (.cells #[] 64)).cell? ⟨c, 0, none⟩ = some (.int .i64 9) := by rw [(bel1 w _).cell (p := ⟨c, 0, none⟩) hc]; exact c0
  have HK : Hid (∀ w3, Below w.heap.size w w3 → w3.cell? ⟨c, 5, none⟩ = some (.slice (some ⟨g, 0, none⟩) 1 cap) ∧ w3.cell? ⟨g, 0, none⟩ = some (.pointer (some ⟨c', 0, none⟩))) := fun w3 hb => ⟨by rw [hb.cell (p := ⟨c, 5, none⟩) hc]; exact c5, by rw [hb.cell (p := ⟨g, 0, none⟩) hg]; exact cg⟩
  have HB0 : Hid (Below w.heap.size w (w.alloc (.cells #[] 64)).drew) := (bel1 _ _).drew
  have HS0 : Hid ((w.alloc (.cells #[] 64)).drew.cell? ⟨c, 5, none⟩ = some (.slice (some ⟨g, 0, none⟩) 1 cap) ∧ (w.alloc (.cells #[] 64)).drew.cell? ⟨g, 0, none⟩ = some (.pointer (some ⟨c', 0, none⟩))) := HK.out _ HB0.out
  unfold maxLen at h2
  clear hP hX
  clear c0 c5 cg ck
  go_enter Tryd.func105, Tryd.ntmps105
  go_wp2_with fail
  go_region_held3 (fun W => W.cell? ⟨c, 5, none⟩ = some (.slice (some ⟨g, 0, none⟩) 1 cap) ∧ W.cell? ⟨g, 0, none⟩ = some (.pointer (some ⟨c', 0, none⟩))) (first | exact HS0.out | exact HS5.out | exact HS4.out) (first
    | (go_at_call 110; refine (HPB.out _ HB0.out).mono ?_; rintro e w4 ⟨⟨ad, n4, cp4, rfl, hwa⟩, hb4⟩; have HWA : Hid (∀ w3, Below w4.heap.size w4 w3 → Calls Tryd.prog 109 #[.agg #[], .int .i64 i, .pointer (some ⟨c', 0, none⟩), .slice ad n4 cp4] w3 fun e w4 => e = .returned (.string X) ∧ Below w3.heap.size w3 w4) := hwa; have HB4 : Hid (Below w.heap.size w w4) := HB0.out.trans (hb4.mono HB0.out.size); have HS4 : Hid _ := HK.out w4 HB4.out; clear hwa hb4)
    | (go_at_call 109; refine (HWA.out _ (Below.refl _ _)).mono ?_; rintro e w5 ⟨rfl, hb5⟩; have HB5 : Hid (Below w.heap.size w w5) := HB4.out.trans (hb5.mono HB4.out.size); have HS5 : Hid _ := HK.out w5 HB5.out; clear hb5))
  all_goals
    go_wp2_with fail
    go_ret
    exact ⟨rfl, HB5.out⟩
set_option maxRecDepth 100000 in
set_option maxHeartbeats 4000000 in
theorem wf_d_9_2 (i c g cap c' : Nat) (k' : Int) (x : Value) (B : List UInt8) (w : World) (c0 : w.cell? ⟨c, 0, none⟩ = some (.int .i64 9)) (hc : c < w.heap.size) (c5 : w.cell? ⟨c, 5, none⟩ = some (.slice (some ⟨g, 0, none⟩) 2 cap)) (h1 : 2 ≤ cap) (h2 : cap ≤ maxLen)
    (cg : w.cell? ⟨g, 0, none⟩ = some (.pointer (some ⟨c', 0, none⟩))) (hg : g < w.heap.size) (ck : w.cell? ⟨c', 0, none⟩ = some (.int .i64 k')) (hc' : c' < w.heap.size)
    (hP : ∀ w', Below w.heap.size w w' → Calls Tryd.prog 110 #[x] w' fun e w'' => (∃ ad n cp, e = .returned (.slice ad n cp) ∧ ∀ w3, Below w''.heap.size w'' w3 → Calls Tryd.prog 109 #[.agg #[], .int .i64 i, .pointer (some ⟨c', 0, none⟩), .slice ad n cp] w3 fun e w4 => e = .returned (.string ⟨B.toArray⟩) ∧ Below w3.heap.size w3 w4) ∧ Below w'.heap.size w' w'') :
    Calls Tryd.prog 105 #[.agg #[], .int .i64 i, .pointer (some ⟨c, 0, none⟩), x] w fun e w' => e = .returned (.string ⟨B.toArray⟩) ∧ Below w.heap.size w w' := by
  obtain ⟨X, hX⟩ : ∃ X : ByteArray, (⟨B.toArray⟩ : ByteArray) = X := ⟨_, rfl⟩
  rw [hX] at hP ⊢
  have HPB : Hid (∀ w', Below w.heap.size w w' → Calls Tryd.prog 110 #[x] w' fun e w'' => (∃ ad n cp, e = .returned (.slice ad n cp) ∧ ∀ w3, Below w''.heap.size w'' w3 → Calls Tryd.prog 109 #[.agg #[], .int .i64 i, .pointer (some ⟨c', 0, none⟩), .slice ad n cp] w3 fun e w4 => e = .returned (.string X) ∧ Below w3.heap.size w3 w4) ∧ Below w'.heap.size w' w'') := hP
  have r0 : (w.alloc (.cells #[] 64)).cell? ⟨c, 0, none⟩ = some (.int .i64 9) := by rw [(bel1 w _).cell (p := ⟨c, 0, none⟩) hc]; exact c0
  have HK : Hid (∀ w3, Below w.heap.size w w3 → w3.cell? ⟨c, 5, none⟩ = some (.slice (some ⟨g, 0, none⟩) 2 cap) ∧ w3.cell? ⟨g, 0, none⟩ = some (.pointer (some ⟨c', 0, none⟩))) := fun w3 hb => ⟨by rw [hb.cell (p := ⟨c, 5, none⟩) hc]; exact c5, by rw [hb.cell (p := ⟨g, 0, none⟩) hg]; exact cg⟩
  have HB0 : Hid (Below w.heap.size w (w.alloc (.cells #[] 64)).drew) := (bel1 _ _).drew
  have HS0 : Hid ((w.alloc (.cells #[] 64)).drew.cell? ⟨c, 5, none⟩ = some (.slice (some ⟨g, 0, none⟩) 2 cap) ∧ (w.alloc (.cells #[] 64)).drew.cell? ⟨g, 0, none⟩ = some (.pointer (some ⟨c', 0, none⟩))) := HK.out _ HB0.out
  unfold maxLen at h2
  clear hP hX
  clear c0 c5 cg ck
  go_enter Tryd.func105, Tryd.ntmps105
  go_wp2_with fail
  go_region_held3 (fun W => W.cell? ⟨c, 5, none⟩ = some (.slice (some ⟨g, 0, none⟩) 2 cap) ∧ W.cell? ⟨g, 0, none⟩ = some (.pointer (some ⟨c', 0, none⟩))) (first | exact HS0.out | exact HS5.out | exact HS4.out) (first
    | (go_at_call 110; refine (HPB.out _ HB0.out).mono ?_; rintro e w4 ⟨⟨ad, n4, cp4, rfl, hwa⟩, hb4⟩; have HWA : Hid (∀ w3, Below w4.heap.size w4 w3 → Calls Tryd.prog 109 #[.agg #[], .int .i64 i, .pointer (some ⟨c', 0, none⟩), .slice ad n4 cp4] w3 fun e w4 => e = .returned (.string X) ∧ Below w3.heap.size w3 w4) := hwa; have HB4 : Hid (Below w.heap.size w w4) := HB0.out.trans (hb4.mono HB0.out.size); have HS4 : Hid _ := HK.out w4 HB4.out; clear hwa hb4)
    | (go_at_call 109; refine (HWA.out _ (Below.refl _ _)).mono ?_; rintro e w5 ⟨rfl, hb5⟩; have HB5 : Hid (Below w.heap.size w w5) := HB4.out.trans (hb5.mono HB4.out.size); have HS5 : Hid _ := HK.out w5 HB5.out; clear hb5))
  all_goals
    go_wp2_with fail
    go_ret
    exact ⟨rfl, HB5.out⟩
set_option maxRecDepth 100000 in
set_option maxHeartbeats 4000000 in
theorem wf_d_9_3 (i c g cap c' : Nat) (k' : Int) (x : Value) (B : List UInt8) (w : World) (c0 : w.cell? ⟨c, 0, none⟩ = some (.int .i64 9)) (hc : c < w.heap.size) (c5 : w.cell? ⟨c, 5, none⟩ = some (.slice (some ⟨g, 0, none⟩) 3 cap)) (h1 : 3 ≤ cap) (h2 : cap ≤ maxLen)
    (cg : w.cell? ⟨g, 0, none⟩ = some (.pointer (some ⟨c', 0, none⟩))) (hg : g < w.heap.size) (ck : w.cell? ⟨c', 0, none⟩ = some (.int .i64 k')) (hc' : c' < w.heap.size)
    (hP : ∀ w', Below w.heap.size w w' → Calls Tryd.prog 110 #[x] w' fun e w'' => (∃ ad n cp, e = .returned (.slice ad n cp) ∧ ∀ w3, Below w''.heap.size w'' w3 → Calls Tryd.prog 109 #[.agg #[], .int .i64 i, .pointer (some ⟨c', 0, none⟩), .slice ad n cp] w3 fun e w4 => e = .returned (.string ⟨B.toArray⟩) ∧ Below w3.heap.size w3 w4) ∧ Below w'.heap.size w' w'') :
    Calls Tryd.prog 105 #[.agg #[], .int .i64 i, .pointer (some ⟨c, 0, none⟩), x] w fun e w' => e = .returned (.string ⟨B.toArray⟩) ∧ Below w.heap.size w w' := by
  obtain ⟨X, hX⟩ : ∃ X : ByteArray, (⟨B.toArray⟩ : ByteArray) = X := ⟨_, rfl⟩
  rw [hX] at hP ⊢
  have HPB : Hid (∀ w', Below w.heap.size w w' → Calls Tryd.prog 110 #[x] w' fun e w'' => (∃ ad n cp, e = .returned (.slice ad n cp) ∧ ∀ w3, Below w''.heap.size w'' w3 → Calls Tryd.prog 109 #[.agg #[], .int .i64 i, .pointer (some ⟨c', 0, none⟩), .slice ad n cp] w3 fun e w4 => e = .returned (.string X) ∧ Below w3.heap.size w3 w4) ∧ Below w'.heap.size w' w'') := hP
  have r0 : (w.alloc (.cells #[] 64)).cell? ⟨c, 0, none⟩ = some (.int .i64 9) := by rw [(bel1 w _).cell (p := ⟨c, 0, none⟩) hc]; exact c0
  have HK : Hid (∀ w3, Below w.heap.size w w3 → w3.cell? ⟨c, 5, none⟩ = some (.slice (some ⟨g, 0, none⟩) 3 cap) ∧ w3.cell? ⟨g, 0, none⟩ = some (.pointer (some ⟨c', 0, none⟩))) := fun w3 hb => ⟨by rw [hb.cell (p := ⟨c, 5, none⟩) hc]; exact c5, by rw [hb.cell (p := ⟨g, 0, none⟩) hg]; exact cg⟩
  have HB0 : Hid (Below w.heap.size w (w.alloc (.cells #[] 64)).drew) := (bel1 _ _).drew
  have HS0 : Hid ((w.alloc (.cells #[] 64)).drew.cell? ⟨c, 5, none⟩ = some (.slice (some ⟨g, 0, none⟩) 3 cap) ∧ (w.alloc (.cells #[] 64)).drew.cell? ⟨g, 0, none⟩ = some (.pointer (some ⟨c', 0, none⟩))) := HK.out _ HB0.out
  unfold maxLen at h2
  clear hP hX
  clear c0 c5 cg ck
  go_enter Tryd.func105, Tryd.ntmps105
  go_wp2_with fail
  go_region_held3 (fun W => W.cell? ⟨c, 5, none⟩ = some (.slice (some ⟨g, 0, none⟩) 3 cap) ∧ W.cell? ⟨g, 0, none⟩ = some (.pointer (some ⟨c', 0, none⟩))) (first | exact HS0.out | exact HS5.out | exact HS4.out) (first
    | (go_at_call 110; refine (HPB.out _ HB0.out).mono ?_; rintro e w4 ⟨⟨ad, n4, cp4, rfl, hwa⟩, hb4⟩; have HWA : Hid (∀ w3, Below w4.heap.size w4 w3 → Calls Tryd.prog 109 #[.agg #[], .int .i64 i, .pointer (some ⟨c', 0, none⟩), .slice ad n4 cp4] w3 fun e w4 => e = .returned (.string X) ∧ Below w3.heap.size w3 w4) := hwa; have HB4 : Hid (Below w.heap.size w w4) := HB0.out.trans (hb4.mono HB0.out.size); have HS4 : Hid _ := HK.out w4 HB4.out; clear hwa hb4)
    | (go_at_call 109; refine (HWA.out _ (Below.refl _ _)).mono ?_; rintro e w5 ⟨rfl, hb5⟩; have HB5 : Hid (Below w.heap.size w w5) := HB4.out.trans (hb5.mono HB4.out.size); have HS5 : Hid _ := HK.out w5 HB5.out; clear hb5))
  all_goals
    go_wp2_with fail
    go_ret
    exact ⟨rfl, HB5.out⟩
set_option maxRecDepth 100000 in
set_option maxHeartbeats 4000000 in
theorem wf_d_9_4 (i c g cap c' : Nat) (k' : Int) (x : Value) (B : List UInt8) (w : World) (c0 : w.cell? ⟨c, 0, none⟩ = some (.int .i64 9)) (hc : c < w.heap.size) (c5 : w.cell? ⟨c, 5, none⟩ = some (.slice (some ⟨g, 0, none⟩) 4 cap)) (h1 : 4 ≤ cap) (h2 : cap ≤ maxLen)
    (cg : w.cell? ⟨g, 0, none⟩ = some (.pointer (some ⟨c', 0, none⟩))) (hg : g < w.heap.size) (ck : w.cell? ⟨c', 0, none⟩ = some (.int .i64 k')) (hc' : c' < w.heap.size)
    (hP : ∀ w', Below w.heap.size w w' → Calls Tryd.prog 110 #[x] w' fun e w'' => (∃ ad n cp, e = .returned (.slice ad n cp) ∧ ∀ w3, Below w''.heap.size w'' w3 → Calls Tryd.prog 109 #[.agg #[], .int .i64 i, .pointer (some ⟨c', 0, none⟩), .slice ad n cp] w3 fun e w4 => e = .returned (.string ⟨B.toArray⟩) ∧ Below w3.heap.size w3 w4) ∧ Below w'.heap.size w' w'') :
    Calls Tryd.prog 105 #[.agg #[], .int .i64 i, .pointer (some ⟨c, 0, none⟩), x] w fun e w' => e = .returned (.string ⟨B.toArray⟩) ∧ Below w.heap.size w w' := by
  obtain ⟨X, hX⟩ : ∃ X : ByteArray, (⟨B.toArray⟩ : ByteArray) = X := ⟨_, rfl⟩
  rw [hX] at hP ⊢
  have HPB : Hid (∀ w', Below w.heap.size w w' → Calls Tryd.prog 110 #[x] w' fun e w'' => (∃ ad n cp, e = .returned (.slice ad n cp) ∧ ∀ w3, Below w''.heap.size w'' w3 → Calls Tryd.prog 109 #[.agg #[], .int .i64 i, .pointer (some ⟨c', 0, none⟩), .slice ad n cp] w3 fun e w4 => e = .returned (.string X) ∧ Below w3.heap.size w3 w4) ∧ Below w'.heap.size w' w'') := hP
  have r0 : (w.alloc (.cells #[] 64)).cell? ⟨c, 0, none⟩ = some (.int .i64 9) := by rw [(bel1 w _).cell (p := ⟨c, 0, none⟩) hc]; exact c0
  have HK : Hid (∀ w3, Below w.heap.size w w3 → w3.cell? ⟨c, 5, none⟩ = some (.slice (some ⟨g, 0, none⟩) 4 cap) ∧ w3.cell? ⟨g, 0, none⟩ = some (.pointer (some ⟨c', 0, none⟩))) := fun w3 hb => ⟨by rw [hb.cell (p := ⟨c, 5, none⟩) hc]; exact c5, by rw [hb.cell (p := ⟨g, 0, none⟩) hg]; exact cg⟩
  have HB0 : Hid (Below w.heap.size w (w.alloc (.cells #[] 64)).drew) := (bel1 _ _).drew
  have HS0 : Hid ((w.alloc (.cells #[] 64)).drew.cell? ⟨c, 5, none⟩ = some (.slice (some ⟨g, 0, none⟩) 4 cap) ∧ (w.alloc (.cells #[] 64)).drew.cell? ⟨g, 0, none⟩ = some (.pointer (some ⟨c', 0, none⟩))) := HK.out _ HB0.out
  unfold maxLen at h2
  clear hP hX
  clear c0 c5 cg ck
  go_enter Tryd.func105, Tryd.ntmps105
  go_wp2_with fail
  go_region_held3 (fun W => W.cell? ⟨c, 5, none⟩ = some (.slice (some ⟨g, 0, none⟩) 4 cap) ∧ W.cell? ⟨g, 0, none⟩ = some (.pointer (some ⟨c', 0, none⟩))) (first | exact HS0.out | exact HS5.out | exact HS4.out) (first
    | (go_at_call 110; refine (HPB.out _ HB0.out).mono ?_; rintro e w4 ⟨⟨ad, n4, cp4, rfl, hwa⟩, hb4⟩; have HWA : Hid (∀ w3, Below w4.heap.size w4 w3 → Calls Tryd.prog 109 #[.agg #[], .int .i64 i, .pointer (some ⟨c', 0, none⟩), .slice ad n4 cp4] w3 fun e w4 => e = .returned (.string X) ∧ Below w3.heap.size w3 w4) := hwa; have HB4 : Hid (Below w.heap.size w w4) := HB0.out.trans (hb4.mono HB0.out.size); have HS4 : Hid _ := HK.out w4 HB4.out; clear hwa hb4)
    | (go_at_call 109; refine (HWA.out _ (Below.refl _ _)).mono ?_; rintro e w5 ⟨rfl, hb5⟩; have HB5 : Hid (Below w.heap.size w w5) := HB4.out.trans (hb5.mono HB4.out.size); have HS5 : Hid _ := HK.out w5 HB5.out; clear hb5))
  all_goals
    go_wp2_with fail
    go_ret
    exact ⟨rfl, HB5.out⟩
theorem wf_d (i c g nk cap c' : Nat) (k k' : Int) (x : Value) (B : List UInt8) (w : World) (hk : (k = 5 ∧ isNk k' = false ∧ nk = 1) ∨ (k = 6 ∧ nk = 1) ∨ (k = 8 ∧ nk = 1) ∨ (k = 9 ∧ (nk = 1 ∨ nk = 2 ∨ nk = 3 ∨ nk = 4))) (c0 : w.cell? ⟨c, 0, none⟩ = some (.int .i64 k)) (hc : c < w.heap.size) (c5 : w.cell? ⟨c, 5, none⟩ = some (.slice (some ⟨g, 0, none⟩) nk cap)) (h1 : nk ≤ cap) (h2 : cap ≤ maxLen)
    (cg : w.cell? ⟨g, 0, none⟩ = some (.pointer (some ⟨c', 0, none⟩))) (hg : g < w.heap.size) (ck : w.cell? ⟨c', 0, none⟩ = some (.int .i64 k')) (hc' : c' < w.heap.size)
    (hP : ∀ w', Below w.heap.size w w' → Calls Tryd.prog 110 #[x] w' fun e w'' => (∃ ad n cp, e = .returned (.slice ad n cp) ∧ ∀ w3, Below w''.heap.size w'' w3 → Calls Tryd.prog 109 #[.agg #[], .int .i64 i, .pointer (some ⟨c', 0, none⟩), .slice ad n cp] w3 fun e w4 => e = .returned (.string ⟨B.toArray⟩) ∧ Below w3.heap.size w3 w4) ∧ Below w'.heap.size w' w'') :
    Calls Tryd.prog 105 #[.agg #[], .int .i64 i, .pointer (some ⟨c, 0, none⟩), x] w fun e w' => e = .returned (.string ⟨B.toArray⟩) ∧ Below w.heap.size w w' := by
  rcases hk with ⟨rfl, hk', rfl⟩ | ⟨rfl, rfl⟩ | ⟨rfl, rfl⟩ | ⟨rfl, rfl | rfl | rfl | rfl⟩
  · exact wf_d_5_1 i c g cap c' k' x B w hk' c0 hc c5 h1 h2 cg hg ck hc' hP
  · exact wf_d_6_1 i c g cap c' k' x B w c0 hc c5 h1 h2 cg hg ck hc' hP
  · exact wf_d_8_1 i c g cap c' k' x B w c0 hc c5 h1 h2 cg hg ck hc' hP
  · exact wf_d_9_1 i c g cap c' k' x B w c0 hc c5 h1 h2 cg hg ck hc' hP
  · exact wf_d_9_2 i c g cap c' k' x B w c0 hc c5 h1 h2 cg hg ck hc' hP
  · exact wf_d_9_3 i c g cap c' k' x B w c0 hc c5 h1 h2 cg hg ck hc' hP
  · exact wf_d_9_4 i c g cap c' k' x B w c0 hc c5 h1 h2 cg hg ck hc' hP
end Go.Proofs.YtocealohiflheaaDoor
