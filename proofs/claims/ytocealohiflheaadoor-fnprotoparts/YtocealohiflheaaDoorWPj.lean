/- WPh, WPi, WPj: one text. -/
import Derived.Test.YtocealohiflheaaDoorWPc
import Derived.Test.YtocealohiflheaaDoorS3l
import Derived.Test.YtocealohiflheaaDoorSPa
import Derived.Test.YtocealohiflheaaDoorS3j
namespace Go.Proofs.YtocealohiflheaaDoor
open Go.RowKit Go.Sort
set_option linter.unusedVariables false
/-- What stands behind the tag: a number, or how many bytes there are, and these. -/
def bdL (k : Int) (B : List UInt8) : List UInt8 := if isNk k then B else putVar B.length ++ B
theorem prP_bd (i : Nat) (k : Int) (B : List UInt8) : prP i k B = putVar (tgN i k) ++ bdL k B := rfl
theorem bdL_len (k : Int) (B : List UInt8) : (bdL k B).length ≤ 11 + B.length := by
  unfold bdL
  have := putVar_len B.length
  split
  · omega
  · simp only [List.length_append]; omega
theorem ba_ph (l : List UInt8) : ByteArray.size ⟨l.toArray⟩ = l.length := by show l.toArray.size = _; simp
theorem isNk_not {k : Int} (h : ¬ (k = 1 ∨ k = 2)) : isNk k = false := decide_eq_false h
theorem l7Number_any (k n : Int) (w : World) : Calls Tryd.prog 61 #[.agg #[.int .i64 k, .int .i64 n]] w fun e w' => e = .returned (.bool (isNk k)) ∧ Below w.heap.size w w' := by
  by_cases h1 : k = 1
  · subst h1
    rw [show isNk 1 = true from rfl]
    go_enter Tryd.func61, Tryd.ntmps61
    go_wp2
    go_ret
    exact ⟨rfl, bel1 _ _⟩
  · by_cases h2 : k = 2
    · subst h2
      rw [show isNk 2 = true from rfl]
      go_enter Tryd.func61, Tryd.ntmps61
      go_wp2
      go_ret
      exact ⟨rfl, bel1 _ _⟩
    · have e1 : (k == 1) = false := beqF h1
      have e2 : (k == 2) = false := beqF h2
      rw [isNk_not (by omega)]
      clear h1 h2
      go_enter Tryd.func61, Tryd.ntmps61
      go_wp2
      go_ret
      exact ⟨rfl, bel1 _ _⟩
theorem l7Long_any (B : List UInt8) (w : World) (hB : B.length ≤ 1000000) : Calls Tryd.prog 64 #[.string ⟨B.toArray⟩] w fun e w' => e = .returned (.string ⟨(putVar B.length ++ B).toArray⟩) ∧ Below w.heap.size w w' := by
  have HP : Hid (∀ w, Calls Tryd.prog 63 #[.int .u64 (ByteArray.size ⟨B.toArray⟩)] w fun e w' => e = .returned (.string ⟨(putVar B.length).toArray⟩) ∧ Below w.heap.size w w') := fun w => by
    have := specPutVarint_any B.length w (by omega)
    rwa [show (B.length : Int) = (ByteArray.size ⟨B.toArray⟩ : Nat) by rw [ba_ph]] at this
  have HR : Hid ((⟨(putVar B.length ++ B).toArray⟩ : ByteArray) = ⟨(putVar B.length).toArray⟩ ++ ⟨B.toArray⟩) := (cat_list _ _).symm
  have hs1 : ByteArray.size ⟨(putVar B.length).toArray⟩ ≤ 11 := by rw [ba_ph]; exact putVar_len _
  have hs2 : ByteArray.size ⟨B.toArray⟩ ≤ 1000000 := by rw [ba_ph]; exact hB
  obtain ⟨D1, hD1⟩ : ∃ D : ByteArray, (⟨(putVar B.length).toArray⟩ : ByteArray) = D := ⟨_, rfl⟩
  obtain ⟨D2, hD2⟩ : ∃ D : ByteArray, (⟨B.toArray⟩ : ByteArray) = D := ⟨_, rfl⟩
  rw [hD1] at HP hs1 HR
  rw [hD2] at HP hs2 HR ⊢
  clear hD1 hD2 hB
  go_enter Tryd.func64, Tryd.ntmps64
  go_wp2_with fail
  refine (HP.out _).mono ?_
  rintro e w1 ⟨rfl, hb1⟩
  go_wp2_with fail
  go_ret
  exact ⟨by rw [HR.out]; try rfl, hb1⟩
theorem l7Tag_any (i : Nat) (k n : Int) (w : World) (hi : i ≤ 20) : Calls Tryd.prog 62 #[.int .i64 i, .agg #[.int .i64 k, .int .i64 n]] w fun e w' => e = .returned (.string ⟨(putVar (tgN i k)).toArray⟩) ∧ Below w.heap.size w w' := by
  have HN : Hid (∀ w, Calls Tryd.prog 61 #[.agg #[.int .i64 k, .int .i64 n]] w fun e w' => e = .returned (.bool (isNk k)) ∧ Below w.heap.size w w') := fun w => l7Number_any k n w
  cases hk : isNk k with
  | true =>
    rw [hk] at HN
    have HP : Hid (∀ w, Calls Tryd.prog 63 #[.int .u64 (8 * ((i : Int) + 1))] w fun e w' => e = .returned (.string ⟨(putVar (tgN i k)).toArray⟩) ∧ Below w.heap.size w w') := fun w => by
      have := specPutVarint_any (tgN i k) w (by unfold tgN; split <;> omega)
      rwa [show ((tgN i k : Nat) : Int) = 8 * ((i : Int) + 1) by unfold tgN; rw [hk]; simp] at this
    generalize (⟨(putVar (tgN i k)).toArray⟩ : ByteArray) = S at HP ⊢
    clear hk
    go_enter Tryd.func62, Tryd.ntmps62
    go_wp2_with fail
    refine Calls.mono (HN.out _) ?_
    rintro e w1 ⟨rfl, hb1⟩
    have HB1 : Hid (Below w.heap.size w w1) := (bel1 _ _).trans (hb1.mono (by simp))
    clear hb1
    go_wp2_with fail
    refine Calls.mono (HP.out _) ?_
    rintro e w2 ⟨rfl, hb2⟩
    have HB2 : Hid (Below w.heap.size w w2) := HB1.out.trans (hb2.mono HB1.out.size)
    clear hb2
    go_wp2_with fail
    go_ret
    exact ⟨rfl, HB2.out⟩
  | false =>
    rw [hk] at HN
    have HP : Hid (∀ w, Calls Tryd.prog 63 #[.int .u64 (8 * ((i : Int) + 1) + 2)] w fun e w' => e = .returned (.string ⟨(putVar (tgN i k)).toArray⟩) ∧ Below w.heap.size w w') := fun w => by
      have := specPutVarint_any (tgN i k) w (by unfold tgN; split <;> omega)
      rwa [show ((tgN i k : Nat) : Int) = 8 * ((i : Int) + 1) + 2 by unfold tgN; rw [hk]; simp] at this
    generalize (⟨(putVar (tgN i k)).toArray⟩ : ByteArray) = S at HP ⊢
    clear hk
    go_enter Tryd.func62, Tryd.ntmps62
    go_wp2_with fail
    refine Calls.mono (HN.out _) ?_
    rintro e w1 ⟨rfl, hb1⟩
    have HB1 : Hid (Below w.heap.size w w1) := (bel1 _ _).trans (hb1.mono (by simp))
    clear hb1
    go_wp2_with fail
    refine Calls.mono (HP.out _) ?_
    rintro e w2 ⟨rfl, hb2⟩
    have HB2 : Hid (Below w.heap.size w w2) := HB1.out.trans (hb2.mono HB1.out.size)
    clear hb2
    go_wp2_with fail
    go_ret
    exact ⟨rfl, HB2.out⟩
/-- The contracts of l7Enc, l7Body, l7Field, f levels being left. -/
def E7Hyp (ts : List (Int × Int)) (vs : List It) (f : Nat) : Prop := ∀ (a q q' e0 : Nat) (vt vv : Value) (w : World), f ≤ 7 → en ts f a = some e0 → ve ts vs f a q = some q' → pm ts f a = true → IsTyps w.heap.size w vt ts → IsItems w.heap.size w vv vs →
  Calls Tryd.prog 26 #[vt, .int .i64 a, vv, .int .i64 q] w fun e w' => e = .returned (.tuple #[.string ⟨(prX ts vs f none a q).toArray⟩, .int .i64 q']) ∧ Below w.heap.size w w'
def B7Hyp (ts : List (Int × Int)) (vs : List It) (f : Nat) : Prop := ∀ (a q q' e0 : Nat) (vt vv : Value) (w : World), f ≤ 7 → en ts f a = some e0 → ve ts vs f a q = some q' → ppB ts (pm ts f) a = true → IsTyps w.heap.size w vt ts → IsItems w.heap.size w vv vs →
  Calls Tryd.prog 60 #[vt, .int .i64 a, vv, .int .i64 q] w fun e w' => e = .returned (.tuple #[.string ⟨(bdL (knd ts a) (prX ts vs f none a q)).toArray⟩, .int .i64 q']) ∧ Below w.heap.size w w'
theorem pm_kind {ts : List (Int × Int)} {f a : Nat} (ha : a < ts.length) (h : pm ts f a = true) : ts[a].1 = 7 := by
  cases f with
  | zero => cases h
  | succ f =>
    rw [pm_ok ha] at h
    simp only [Bool.and_eq_true, decide_eq_true_eq] at h
    exact h.1
set_option maxRecDepth 100000 in
set_option maxHeartbeats 4000000 in
theorem l7Body_of (ts : List (Int × Int)) (vs : List It) (hl : vs.length ≤ 200) (f : Nat) (hE : E7Hyp ts vs f) : B7Hyp ts vs f := by
  intro a q q' e0 vt vv w hf7 he hv hp hT hI
  have hen := he
  have hve := hv
  cases f with
  | zero => cases he
  | succ f =>
    obtain ⟨ha, hok, hit⟩ := en_inv he
    obtain ⟨_, hq, hfit, hvit⟩ := ve_inv hv
    obtain ⟨b, o, cap, rfl, hbl, h1, h2, c0, c1⟩ := hT.at ha
    obtain ⟨b', o', C, rfl, hbl', h1', h2', i0, i1, i2⟩ := hI.at hq
    have hst := hT.small
    obtain ⟨_, _, _, hsm, _, _, hwf⟩ := hI.form
    obtain ⟨wk, wn, ws⟩ := hwf vs[q] (List.getElem_mem hq)
    have hfit' : vs[q].k = ts[a].1 ∧ fitsN ts[a].1 ts[a].2 vs[q].n = true := by simp [fitsI] at hfit; exact ⟨hfit.1, hfit.2.1⟩
    have hle := prX_le hl none hen hve
    rw [ppB_ok ha] at hp
    rw [knd_ok ha]
    have hq200 : q ≤ 200 := by omega
    unfold maxLen at h2 h2'
    have HN : Hid (∀ w, Calls Tryd.prog 61 #[.agg #[.int .i64 ts[a].1, .int .i64 ts[a].2]] w fun e w' => e = .returned (.bool (isNk ts[a].1)) ∧ Below w.heap.size w w') := fun w => l7Number_any _ _ w
    by_cases h7 : ts[a].1 = 7
    · have hpm : pm ts (f + 1) a = true := by
        simp only [Bool.or_eq_true, decide_eq_true_eq] at hp
        rcases hp with h | h
        · have := hok
          simp only [tyOk, decide_eq_true_eq] at this
          unfold kids at h
          rw [if_neg (by omega), if_pos (by omega)] at h
          omega
        · exact h
      have HE : Hid (∀ w', Below w.heap.size w w' → Calls Tryd.prog 26 #[.slice (some ⟨b, o, none⟩) ts.length cap, .int .i64 a, .slice (some ⟨b', o', none⟩) vs.length C, .int .i64 q] w' fun e w'' => e = .returned (.tuple #[.string ⟨(prX ts vs (f + 1) none a q).toArray⟩, .int .i64 q']) ∧ Below w'.heap.size w' w'') := fun w' hb => hE a q q' e0 _ _ w' hf7 hen hve hpm ((hT.below hb).up hb.size) ((hI.below hb).up hb.size)
      obtain ⟨W, hW⟩ : ∃ W, prX ts vs (f + 1) none a q = W := ⟨_, rfl⟩
      rw [hW] at HE hle ⊢
      have HL : Hid (∀ w, Calls Tryd.prog 64 #[.string ⟨W.toArray⟩] w fun e w' => e = .returned (.string ⟨(bdL 7 W).toArray⟩) ∧ Below w.heap.size w w') := fun w => l7Long_any W w (by omega)
      rw [h7] at c0 HN ⊢
      have HK : Hid (∀ w', Below w.heap.size w w' → w'.cell? ⟨b, o + a * 2, none⟩ = some (.int .i64 7)) := fun w' hb => by rw [hb.cell (p := ⟨b, o + a * 2, none⟩) hbl]; exact c0
      generalize (⟨(bdL 7 W).toArray⟩ : ByteArray) = R at HL ⊢
      generalize (⟨W.toArray⟩ : ByteArray) = X at HL HE
      generalize ts[a].2 = tn at *
      clear hT hI hW hwf wk hp hit hfit hfit' hvit hE
      go_enter Tryd.func60, Tryd.ntmps60
      go_wp2_with fail
      refine (HN.out _).mono ?_
      rintro e w1 ⟨rfl, hb1⟩
      have HB1 : Hid (Below w.heap.size w w1) := hb1
      have d0 := HK.out w1 hb1
      clear hb1 c0 c1
      go_wp2_with fail
      refine (HE.out _ HB1.out).mono ?_
      rintro e w2 ⟨rfl, hb2⟩
      have HB2 : Hid (Below w.heap.size w w2) := HB1.out.trans (hb2.mono HB1.out.size)
      clear hb2 d0
      go_wp2_with fail
      refine (HL.out _).mono ?_
      rintro e w3 ⟨rfl, hb3⟩
      have HB3 : Hid (Below w.heap.size w w3) := HB2.out.trans (hb3.mono HB2.out.size)
      clear hb3
      go_wp2_with fail
      go_ret2
      exact ⟨rfl, HB3.out⟩
    · have hk0 : kids ts[a].1 ts[a].2 = 0 := by
        simp only [Bool.or_eq_true, decide_eq_true_eq] at hp
        rcases hp with h | h
        · exact h
        · exact absurd (pm_kind ha h) h7
      have hk4 : ts[a].1 = 1 ∨ ts[a].1 = 2 ∨ ts[a].1 = 3 ∨ ts[a].1 = 4 := by
        have := hok
        simp only [tyOk, decide_eq_true_eq] at this
        unfold kids at hk0
        split at hk0
        · omega
        · split at hk0 <;> omega
      have hnp : np ts[a].1 vs[q].n = 0 := by unfold np; rw [if_neg (by omega), if_neg (by omega)]
      rw [hnp] at hvit
      cases hvit
      have HK : Hid (∀ w', Below w.heap.size w w' → w'.cell? ⟨b, o + a * 2, none⟩ = some (.int .i64 ts[a].1) ∧ w'.cell? ⟨b', o' + q * 3 + 1, none⟩ = some (.int .u64 vs[q].n) ∧ w'.cell? ⟨b', o' + q * 3 + 2, none⟩ = some (.string vs[q].s)) := fun w' hb => ⟨by rw [hb.cell (p := ⟨b, o + a * 2, none⟩) hbl]; exact c0, by rw [hb.cell (p := ⟨b', o' + q * 3 + 1, none⟩) hbl']; exact i1, by rw [hb.cell (p := ⟨b', o' + q * 3 + 2, none⟩) hbl']; exact i2⟩
      rw [prX_none ha hq]
      by_cases h12 : ts[a].1 = 1 ∨ ts[a].1 = 2
      · have e1 : prW ts vs f (prX ts vs f) a q ts[a].1 vs[q] = putVar vs[q].n := by unfold prW; rw [if_pos h12]
        have hn : isNk ts[a].1 = true := decide_eq_true h12
        rw [e1]
        rw [show bdL ts[a].1 (putVar vs[q].n) = putVar vs[q].n by unfold bdL; rw [hn]; rfl]
        rw [hn] at HN
        have HP : Hid (∀ w, Calls Tryd.prog 63 #[.int .u64 vs[q].n] w fun e w' => e = .returned (.string ⟨(putVar vs[q].n).toArray⟩) ∧ Below w.heap.size w w') := fun w => specPutVarint_any _ w wn
        generalize (⟨(putVar vs[q].n).toArray⟩ : ByteArray) = R at HP ⊢
        generalize ts[a].1 = tk at *
        generalize ts[a].2 = tn at *
        generalize vs[q] = it at *
        clear hT hI hwf wk hp hit hfit hfit' hE hle hve hen e1 hk0 hk4 hnp h7 h12
        obtain ⟨ik, im, is⟩ := it
        go_enter Tryd.func60, Tryd.ntmps60
        go_wp2_with fail
        refine (HN.out _).mono ?_
        rintro e w1 ⟨rfl, hb1⟩
        have HB1 : Hid (Below w.heap.size w w1) := hb1
        obtain ⟨d0, d1, d2⟩ := HK.out w1 hb1
        clear hb1 c0 c1 i0 i1 i2
        go_wp2_with fail
        refine (HP.out _).mono ?_
        rintro e w2 ⟨rfl, hb2⟩
        have HB2 : Hid (Below w.heap.size w w2) := HB1.out.trans (hb2.mono HB1.out.size)
        clear hb2 d0 d1 d2
        go_wp2_with fail
        go_ret2
        exact ⟨by first | rfl | (congr 3; go_num), HB2.out⟩
      · have h34 : ts[a].1 = 3 ∨ ts[a].1 = 4 := by omega
        have e1 : prW ts vs f (prX ts vs f) a q ts[a].1 vs[q] = vs[q].s.data.toList := by unfold prW; rw [if_neg h12, if_pos h34]
        have hn : isNk ts[a].1 = false := isNk_not h12
        have h200 := fit_pr hok hfit
        rw [e1]
        rw [hn] at HN
        have h7' : (ts[a].1 == 7) = false := beqF h7
        have HL : Hid (∀ w, Calls Tryd.prog 64 #[.string vs[q].s] w fun e w' => e = .returned (.string ⟨(bdL ts[a].1 vs[q].s.data.toList).toArray⟩) ∧ Below w.heap.size w w') := fun w => by
          have := l7Long_any vs[q].s.data.toList w (by have : vs[q].s.data.toList.length = vs[q].s.size := Array.length_toList; omega)
          rw [show bdL ts[a].1 vs[q].s.data.toList = putVar vs[q].s.data.toList.length ++ vs[q].s.data.toList by unfold bdL; rw [hn]; rfl]
          simpa using this
        generalize (⟨(bdL ts[a].1 vs[q].s.data.toList).toArray⟩ : ByteArray) = R at HL ⊢
        generalize ts[a].1 = tk at *
        generalize ts[a].2 = tn at *
        generalize vs[q] = it at *
        clear hT hI hwf wk hp hit hfit hfit' hE hle hve hen e1 hk0 hk4 hnp h7 h12 h34
        obtain ⟨ik, im, is⟩ := it
        go_enter Tryd.func60, Tryd.ntmps60
        go_wp2_with fail
        refine (HN.out _).mono ?_
        rintro e w1 ⟨rfl, hb1⟩
        have HB1 : Hid (Below w.heap.size w w1) := hb1
        obtain ⟨d0, d1, d2⟩ := HK.out w1 hb1
        clear hb1 c0 c1 i0 i1 i2
        go_wp2_with fail
        refine (HL.out _).mono ?_
        rintro e w2 ⟨rfl, hb2⟩
        have HB2 : Hid (Below w.heap.size w w2) := HB1.out.trans (hb2.mono HB1.out.size)
        clear hb2 d0 d1 d2
        go_wp2_with fail
        go_ret2
        exact ⟨by first | rfl | (congr 3; go_num), HB2.out⟩
end Go.Proofs.YtocealohiflheaaDoor
namespace Go.Proofs.YtocealohiflheaaDoor
open Go.RowKit Go.Sort
set_option linter.unusedVariables false
theorem cell_b {w w1 : World} {H i : Nat} {v : Value} (h : w.cell? ⟨H, i, none⟩ = some v) (hH : H < w.heap.size) (hb : Below w.heap.size w w1) : w1.cell? ⟨H, i, none⟩ = some v := by
  rw [hb.cell (p := ⟨H, i, none⟩) hH]; exact h
set_option maxRecDepth 100000 in
set_option maxHeartbeats 4000000 in
theorem l7F_n0 (i a q q' b o cap L b' o' C V : Nat) (k tn : Int) (im : Nat) (is X T : ByteArray) (w : World) (h5 : k ≠ 5) (h8 : k ≠ 8) (ha : a < L) (hL : L ≤ cap) (hcap : cap ≤ maxLen) (hq : q < V) (hV : V ≤ C) (hC : C ≤ maxLen) (hX : X.size ≤ 100000) (hT : T.size ≤ 100) (him : im < 18446744073709551616) (hn : isNk k = true) (hm : im = 0)
    (hbl : b < w.heap.size) (hbl' : b' < w.heap.size) (c0 : w.cell? ⟨b, o + a * 2, none⟩ = some (.int .i64 k)) (c1 : w.cell? ⟨b, o + a * 2 + 1, none⟩ = some (.int .i64 tn)) (i0 : w.cell? ⟨b', o' + q * 3, none⟩ = some (.int .i64 k)) (i1 : w.cell? ⟨b', o' + q * 3 + 1, none⟩ = some (.int .u64 im)) (i2 : w.cell? ⟨b', o' + q * 3 + 2, none⟩ = some (.string is))
    (hB : ∀ w', Below w.heap.size w w' → Calls Tryd.prog 60 #[.slice (some ⟨b, o, none⟩) L cap, .int .i64 a, .slice (some ⟨b', o', none⟩) V C, .int .i64 q] w' fun e w'' => e = .returned (.tuple #[.string X, .int .i64 q']) ∧ Below w'.heap.size w' w'')
    (hTg : ∀ w, Calls Tryd.prog 62 #[.int .i64 i, .agg #[.int .i64 k, .int .i64 tn]] w fun e w' => e = .returned (.string T) ∧ Below w.heap.size w w') :
    Calls Tryd.prog 44 #[.slice (some ⟨b, o, none⟩) L cap, .int .i64 a, .slice (some ⟨b', o', none⟩) V C, .int .i64 q, .int .i64 i] w fun e w' => e = .returned (.tuple #[.string ⟨#[]⟩, .int .i64 q']) ∧ Below w.heap.size w w' := by
  have HB : Hid (∀ w', Below w.heap.size w w' → Calls Tryd.prog 60 #[.slice (some ⟨b, o, none⟩) L cap, .int .i64 a, .slice (some ⟨b', o', none⟩) V C, .int .i64 q] w' fun e w'' => e = .returned (.tuple #[.string X, .int .i64 q']) ∧ Below w'.heap.size w' w'') := hB
  have HT : Hid (∀ w, Calls Tryd.prog 62 #[.int .i64 i, .agg #[.int .i64 k, .int .i64 tn]] w fun e w' => e = .returned (.string T) ∧ Below w.heap.size w w') := hTg
  have HN : Hid (∀ w, Calls Tryd.prog 61 #[.agg #[.int .i64 k, .int .i64 tn]] w fun e w' => e = .returned (.bool true) ∧ Below w.heap.size w w') := fun w => by have := l7Number_any k tn w; rwa [hn] at this
  have HK : Hid (∀ w', Below w.heap.size w w' → w'.cell? ⟨b, o + a * 2, none⟩ = some (.int .i64 k) ∧ w'.cell? ⟨b, o + a * 2 + 1, none⟩ = some (.int .i64 tn)) := fun w' hb => ⟨cell_b c0 hbl hb, cell_b c1 hbl hb⟩
  have k5 : (k == 5) = false := beqF h5
  have k8 : (k == 8) = false := beqF h8
  have k5' : (k != 5) = true := by simp [bne, k5]
  have k8' : (k != 8) = true := by simp [bne, k8]
  have hm0 : ((im : Int) == 0) = true := by rw [hm]; rfl
  clear hm
  unfold maxLen at hcap hC
  clear hB hTg h5 h8
  go_enter Tryd.func44, Tryd.ntmps44
  go_wp2_with fail
  refine (HB.out _ (bel1 _ _)).mono ?_
  rintro e w1 ⟨rfl, hb1⟩
  have HB1 : Hid (Below w.heap.size w w1) := (bel1 _ _).trans (hb1.mono (by simp))
  have hH1 : w.heap.size < w1.heap.size := by have := hb1.size; simp at this; omega
  have x0 : w1.cell? ⟨w.heap.size, 0, none⟩ = some (.int .i64 k) := cell_b (by simp [go_sem]) (by simp) hb1
  have x1 : w1.cell? ⟨w.heap.size, 1, none⟩ = some (.int .u64 im) := cell_b (by simp [go_sem]) (by simp) hb1
  have x2 : w1.cell? ⟨w.heap.size, 2, none⟩ = some (.string is) := cell_b (by simp [go_sem]) (by simp) hb1
  obtain ⟨d0, d1⟩ := HK.out w1 HB1.out
  clear hb1 c0 c1 i0 i1 i2
  go_wp2_with fail
  refine (HN.out _).mono ?_
  rintro e w2 ⟨rfl, hb2⟩
  have HB2 : Hid (Below w.heap.size w w2) := HB1.out.trans (hb2.mono HB1.out.size)
  have y0 := cell_b x0 hH1 hb2
  have y1 := cell_b x1 hH1 hb2
  have y2 := cell_b x2 hH1 hb2
  obtain ⟨e0, e1⟩ := HK.out w2 HB2.out
  clear hb2 x0 x1 x2 d0 d1
  go_wp2_with fail
  go_ret2
  exact ⟨rfl, HB2.out⟩
set_option maxRecDepth 100000 in
set_option maxHeartbeats 4000000 in
theorem l7F_n1 (i a q q' b o cap L b' o' C V : Nat) (k tn : Int) (im : Nat) (is X T : ByteArray) (w : World) (h5 : k ≠ 5) (h8 : k ≠ 8) (ha : a < L) (hL : L ≤ cap) (hcap : cap ≤ maxLen) (hq : q < V) (hV : V ≤ C) (hC : C ≤ maxLen) (hX : X.size ≤ 100000) (hT : T.size ≤ 100) (him : im < 18446744073709551616) (hn : isNk k = true) (h3 : k ≠ 3) (hm : im ≠ 0)
    (hbl : b < w.heap.size) (hbl' : b' < w.heap.size) (c0 : w.cell? ⟨b, o + a * 2, none⟩ = some (.int .i64 k)) (c1 : w.cell? ⟨b, o + a * 2 + 1, none⟩ = some (.int .i64 tn)) (i0 : w.cell? ⟨b', o' + q * 3, none⟩ = some (.int .i64 k)) (i1 : w.cell? ⟨b', o' + q * 3 + 1, none⟩ = some (.int .u64 im)) (i2 : w.cell? ⟨b', o' + q * 3 + 2, none⟩ = some (.string is))
    (hB : ∀ w', Below w.heap.size w w' → Calls Tryd.prog 60 #[.slice (some ⟨b, o, none⟩) L cap, .int .i64 a, .slice (some ⟨b', o', none⟩) V C, .int .i64 q] w' fun e w'' => e = .returned (.tuple #[.string X, .int .i64 q']) ∧ Below w'.heap.size w' w'')
    (hTg : ∀ w, Calls Tryd.prog 62 #[.int .i64 i, .agg #[.int .i64 k, .int .i64 tn]] w fun e w' => e = .returned (.string T) ∧ Below w.heap.size w w') :
    Calls Tryd.prog 44 #[.slice (some ⟨b, o, none⟩) L cap, .int .i64 a, .slice (some ⟨b', o', none⟩) V C, .int .i64 q, .int .i64 i] w fun e w' => e = .returned (.tuple #[.string (T ++ X), .int .i64 q']) ∧ Below w.heap.size w w' := by
  have HB : Hid (∀ w', Below w.heap.size w w' → Calls Tryd.prog 60 #[.slice (some ⟨b, o, none⟩) L cap, .int .i64 a, .slice (some ⟨b', o', none⟩) V C, .int .i64 q] w' fun e w'' => e = .returned (.tuple #[.string X, .int .i64 q']) ∧ Below w'.heap.size w' w'') := hB
  have HT : Hid (∀ w, Calls Tryd.prog 62 #[.int .i64 i, .agg #[.int .i64 k, .int .i64 tn]] w fun e w' => e = .returned (.string T) ∧ Below w.heap.size w w') := hTg
  have HN : Hid (∀ w, Calls Tryd.prog 61 #[.agg #[.int .i64 k, .int .i64 tn]] w fun e w' => e = .returned (.bool true) ∧ Below w.heap.size w w') := fun w => by have := l7Number_any k tn w; rwa [hn] at this
  have HK : Hid (∀ w', Below w.heap.size w w' → w'.cell? ⟨b, o + a * 2, none⟩ = some (.int .i64 k) ∧ w'.cell? ⟨b, o + a * 2 + 1, none⟩ = some (.int .i64 tn)) := fun w' hb => ⟨cell_b c0 hbl hb, cell_b c1 hbl hb⟩
  have k5 : (k == 5) = false := beqF h5
  have k8 : (k == 8) = false := beqF h8
  have k5' : (k != 5) = true := by simp [bne, k5]
  have k8' : (k != 8) = true := by simp [bne, k8]
  have k3 : (k == 3) = false := beqF h3
  have hm0 : ((im : Int) == 0) = false := by simp; omega
  unfold maxLen at hcap hC
  clear hB hTg h5 h8
  go_enter Tryd.func44, Tryd.ntmps44
  go_wp2_with fail
  refine (HB.out _ (bel1 _ _)).mono ?_
  rintro e w1 ⟨rfl, hb1⟩
  have HB1 : Hid (Below w.heap.size w w1) := (bel1 _ _).trans (hb1.mono (by simp))
  have hH1 : w.heap.size < w1.heap.size := by have := hb1.size; simp at this; omega
  have x0 : w1.cell? ⟨w.heap.size, 0, none⟩ = some (.int .i64 k) := cell_b (by simp [go_sem]) (by simp) hb1
  have x1 : w1.cell? ⟨w.heap.size, 1, none⟩ = some (.int .u64 im) := cell_b (by simp [go_sem]) (by simp) hb1
  have x2 : w1.cell? ⟨w.heap.size, 2, none⟩ = some (.string is) := cell_b (by simp [go_sem]) (by simp) hb1
  obtain ⟨d0, d1⟩ := HK.out w1 HB1.out
  clear hb1 c0 c1 i0 i1 i2
  go_wp2_with fail
  refine (HN.out _).mono ?_
  rintro e w2 ⟨rfl, hb2⟩
  have HB2 : Hid (Below w.heap.size w w2) := HB1.out.trans (hb2.mono HB1.out.size)
  have y0 := cell_b x0 hH1 hb2
  have y1 := cell_b x1 hH1 hb2
  have y2 := cell_b x2 hH1 hb2
  obtain ⟨e0, e1⟩ := HK.out w2 HB2.out
  clear hb2 x0 x1 x2 d0 d1
  go_wp2_with fail
  refine (HT.out _).mono ?_
  rintro e w3 ⟨rfl, hb3⟩
  have HB3 : Hid (Below w.heap.size w w3) := HB2.out.trans (hb3.mono HB2.out.size)
  clear hb3 y0 y1 y2 e0 e1
  go_wp2_with fail
  go_ret2
  exact ⟨rfl, HB3.out⟩
set_option maxRecDepth 100000 in
set_option maxHeartbeats 4000000 in
theorem l7F_b0 (i a q q' b o cap L b' o' C V : Nat) (k tn : Int) (im : Nat) (is X T : ByteArray) (w : World) (h5 : k ≠ 5) (h8 : k ≠ 8) (ha : a < L) (hL : L ≤ cap) (hcap : cap ≤ maxLen) (hq : q < V) (hV : V ≤ C) (hC : C ≤ maxLen) (hX : X.size ≤ 100000) (hT : T.size ≤ 100) (him : im < 18446744073709551616) (hn : isNk k = false) (h3 : k = 3) (hz : is.size = 0)
    (hbl : b < w.heap.size) (hbl' : b' < w.heap.size) (c0 : w.cell? ⟨b, o + a * 2, none⟩ = some (.int .i64 k)) (c1 : w.cell? ⟨b, o + a * 2 + 1, none⟩ = some (.int .i64 tn)) (i0 : w.cell? ⟨b', o' + q * 3, none⟩ = some (.int .i64 k)) (i1 : w.cell? ⟨b', o' + q * 3 + 1, none⟩ = some (.int .u64 im)) (i2 : w.cell? ⟨b', o' + q * 3 + 2, none⟩ = some (.string is))
    (hB : ∀ w', Below w.heap.size w w' → Calls Tryd.prog 60 #[.slice (some ⟨b, o, none⟩) L cap, .int .i64 a, .slice (some ⟨b', o', none⟩) V C, .int .i64 q] w' fun e w'' => e = .returned (.tuple #[.string X, .int .i64 q']) ∧ Below w'.heap.size w' w'')
    (hTg : ∀ w, Calls Tryd.prog 62 #[.int .i64 i, .agg #[.int .i64 k, .int .i64 tn]] w fun e w' => e = .returned (.string T) ∧ Below w.heap.size w w') :
    Calls Tryd.prog 44 #[.slice (some ⟨b, o, none⟩) L cap, .int .i64 a, .slice (some ⟨b', o', none⟩) V C, .int .i64 q, .int .i64 i] w fun e w' => e = .returned (.tuple #[.string ⟨#[]⟩, .int .i64 q']) ∧ Below w.heap.size w w' := by
  have HB : Hid (∀ w', Below w.heap.size w w' → Calls Tryd.prog 60 #[.slice (some ⟨b, o, none⟩) L cap, .int .i64 a, .slice (some ⟨b', o', none⟩) V C, .int .i64 q] w' fun e w'' => e = .returned (.tuple #[.string X, .int .i64 q']) ∧ Below w'.heap.size w' w'') := hB
  have HT : Hid (∀ w, Calls Tryd.prog 62 #[.int .i64 i, .agg #[.int .i64 k, .int .i64 tn]] w fun e w' => e = .returned (.string T) ∧ Below w.heap.size w w') := hTg
  have HN : Hid (∀ w, Calls Tryd.prog 61 #[.agg #[.int .i64 k, .int .i64 tn]] w fun e w' => e = .returned (.bool false) ∧ Below w.heap.size w w') := fun w => by have := l7Number_any k tn w; rwa [hn] at this
  have HK : Hid (∀ w', Below w.heap.size w w' → w'.cell? ⟨b, o + a * 2, none⟩ = some (.int .i64 k) ∧ w'.cell? ⟨b, o + a * 2 + 1, none⟩ = some (.int .i64 tn)) := fun w' hb => ⟨cell_b c0 hbl hb, cell_b c1 hbl hb⟩
  have k5 : (k == 5) = false := beqF h5
  have k8 : (k == 8) = false := beqF h8
  have k5' : (k != 5) = true := by simp [bne, k5]
  have k8' : (k != 8) = true := by simp [bne, k8]
  have k3 : (k == 3) = true := by rw [h3]; rfl
  have he : is.toList.isEmpty = true := by rw [str_empty]; exact decide_eq_true hz
  clear hz h3
  unfold maxLen at hcap hC
  clear hB hTg h5 h8
  go_enter Tryd.func44, Tryd.ntmps44
  go_wp2_with fail
  refine (HB.out _ (bel1 _ _)).mono ?_
  rintro e w1 ⟨rfl, hb1⟩
  have HB1 : Hid (Below w.heap.size w w1) := (bel1 _ _).trans (hb1.mono (by simp))
  have hH1 : w.heap.size < w1.heap.size := by have := hb1.size; simp at this; omega
  have x0 : w1.cell? ⟨w.heap.size, 0, none⟩ = some (.int .i64 k) := cell_b (by simp [go_sem]) (by simp) hb1
  have x1 : w1.cell? ⟨w.heap.size, 1, none⟩ = some (.int .u64 im) := cell_b (by simp [go_sem]) (by simp) hb1
  have x2 : w1.cell? ⟨w.heap.size, 2, none⟩ = some (.string is) := cell_b (by simp [go_sem]) (by simp) hb1
  obtain ⟨d0, d1⟩ := HK.out w1 HB1.out
  clear hb1 c0 c1 i0 i1 i2
  go_wp2_with fail
  refine (HN.out _).mono ?_
  rintro e w2 ⟨rfl, hb2⟩
  have HB2 : Hid (Below w.heap.size w w2) := HB1.out.trans (hb2.mono HB1.out.size)
  have y0 := cell_b x0 hH1 hb2
  have y1 := cell_b x1 hH1 hb2
  have y2 := cell_b x2 hH1 hb2
  obtain ⟨e0, e1⟩ := HK.out w2 HB2.out
  clear hb2 x0 x1 x2 d0 d1
  go_wp2_with fail
  go_ret2
  exact ⟨rfl, HB2.out⟩
set_option maxRecDepth 100000 in
set_option maxHeartbeats 4000000 in
theorem l7F_b1 (i a q q' b o cap L b' o' C V : Nat) (k tn : Int) (im : Nat) (is X T : ByteArray) (w : World) (h5 : k ≠ 5) (h8 : k ≠ 8) (ha : a < L) (hL : L ≤ cap) (hcap : cap ≤ maxLen) (hq : q < V) (hV : V ≤ C) (hC : C ≤ maxLen) (hX : X.size ≤ 100000) (hT : T.size ≤ 100) (him : im < 18446744073709551616) (hn : isNk k = false) (h3 : k = 3) (hz : is.size ≠ 0)
    (hbl : b < w.heap.size) (hbl' : b' < w.heap.size) (c0 : w.cell? ⟨b, o + a * 2, none⟩ = some (.int .i64 k)) (c1 : w.cell? ⟨b, o + a * 2 + 1, none⟩ = some (.int .i64 tn)) (i0 : w.cell? ⟨b', o' + q * 3, none⟩ = some (.int .i64 k)) (i1 : w.cell? ⟨b', o' + q * 3 + 1, none⟩ = some (.int .u64 im)) (i2 : w.cell? ⟨b', o' + q * 3 + 2, none⟩ = some (.string is))
    (hB : ∀ w', Below w.heap.size w w' → Calls Tryd.prog 60 #[.slice (some ⟨b, o, none⟩) L cap, .int .i64 a, .slice (some ⟨b', o', none⟩) V C, .int .i64 q] w' fun e w'' => e = .returned (.tuple #[.string X, .int .i64 q']) ∧ Below w'.heap.size w' w'')
    (hTg : ∀ w, Calls Tryd.prog 62 #[.int .i64 i, .agg #[.int .i64 k, .int .i64 tn]] w fun e w' => e = .returned (.string T) ∧ Below w.heap.size w w') :
    Calls Tryd.prog 44 #[.slice (some ⟨b, o, none⟩) L cap, .int .i64 a, .slice (some ⟨b', o', none⟩) V C, .int .i64 q, .int .i64 i] w fun e w' => e = .returned (.tuple #[.string (T ++ X), .int .i64 q']) ∧ Below w.heap.size w w' := by
  have HB : Hid (∀ w', Below w.heap.size w w' → Calls Tryd.prog 60 #[.slice (some ⟨b, o, none⟩) L cap, .int .i64 a, .slice (some ⟨b', o', none⟩) V C, .int .i64 q] w' fun e w'' => e = .returned (.tuple #[.string X, .int .i64 q']) ∧ Below w'.heap.size w' w'') := hB
  have HT : Hid (∀ w, Calls Tryd.prog 62 #[.int .i64 i, .agg #[.int .i64 k, .int .i64 tn]] w fun e w' => e = .returned (.string T) ∧ Below w.heap.size w w') := hTg
  have HN : Hid (∀ w, Calls Tryd.prog 61 #[.agg #[.int .i64 k, .int .i64 tn]] w fun e w' => e = .returned (.bool false) ∧ Below w.heap.size w w') := fun w => by have := l7Number_any k tn w; rwa [hn] at this
  have HK : Hid (∀ w', Below w.heap.size w w' → w'.cell? ⟨b, o + a * 2, none⟩ = some (.int .i64 k) ∧ w'.cell? ⟨b, o + a * 2 + 1, none⟩ = some (.int .i64 tn)) := fun w' hb => ⟨cell_b c0 hbl hb, cell_b c1 hbl hb⟩
  have k5 : (k == 5) = false := beqF h5
  have k8 : (k == 8) = false := beqF h8
  have k5' : (k != 5) = true := by simp [bne, k5]
  have k8' : (k != 8) = true := by simp [bne, k8]
  have k3 : (k == 3) = true := by rw [h3]; rfl
  have he : is.toList.isEmpty = false := by rw [str_empty]; exact decide_eq_false hz
  clear hz h3
  unfold maxLen at hcap hC
  clear hB hTg h5 h8
  go_enter Tryd.func44, Tryd.ntmps44
  go_wp2_with fail
  refine (HB.out _ (bel1 _ _)).mono ?_
  rintro e w1 ⟨rfl, hb1⟩
  have HB1 : Hid (Below w.heap.size w w1) := (bel1 _ _).trans (hb1.mono (by simp))
  have hH1 : w.heap.size < w1.heap.size := by have := hb1.size; simp at this; omega
  have x0 : w1.cell? ⟨w.heap.size, 0, none⟩ = some (.int .i64 k) := cell_b (by simp [go_sem]) (by simp) hb1
  have x1 : w1.cell? ⟨w.heap.size, 1, none⟩ = some (.int .u64 im) := cell_b (by simp [go_sem]) (by simp) hb1
  have x2 : w1.cell? ⟨w.heap.size, 2, none⟩ = some (.string is) := cell_b (by simp [go_sem]) (by simp) hb1
  obtain ⟨d0, d1⟩ := HK.out w1 HB1.out
  clear hb1 c0 c1 i0 i1 i2
  go_wp2_with fail
  refine (HN.out _).mono ?_
  rintro e w2 ⟨rfl, hb2⟩
  have HB2 : Hid (Below w.heap.size w w2) := HB1.out.trans (hb2.mono HB1.out.size)
  have y0 := cell_b x0 hH1 hb2
  have y1 := cell_b x1 hH1 hb2
  have y2 := cell_b x2 hH1 hb2
  obtain ⟨e0, e1⟩ := HK.out w2 HB2.out
  clear hb2 x0 x1 x2 d0 d1
  go_wp2_with fail
  refine (HT.out _).mono ?_
  rintro e w3 ⟨rfl, hb3⟩
  have HB3 : Hid (Below w.heap.size w w3) := HB2.out.trans (hb3.mono HB2.out.size)
  clear hb3 y0 y1 y2 e0 e1
  go_wp2_with fail
  go_ret2
  exact ⟨rfl, HB3.out⟩
set_option maxRecDepth 100000 in
set_option maxHeartbeats 4000000 in
theorem l7F_x1 (i a q q' b o cap L b' o' C V : Nat) (k tn : Int) (im : Nat) (is X T : ByteArray) (w : World) (h5 : k ≠ 5) (h8 : k ≠ 8) (ha : a < L) (hL : L ≤ cap) (hcap : cap ≤ maxLen) (hq : q < V) (hV : V ≤ C) (hC : C ≤ maxLen) (hX : X.size ≤ 100000) (hT : T.size ≤ 100) (him : im < 18446744073709551616) (hn : isNk k = false) (h3 : k ≠ 3)
    (hbl : b < w.heap.size) (hbl' : b' < w.heap.size) (c0 : w.cell? ⟨b, o + a * 2, none⟩ = some (.int .i64 k)) (c1 : w.cell? ⟨b, o + a * 2 + 1, none⟩ = some (.int .i64 tn)) (i0 : w.cell? ⟨b', o' + q * 3, none⟩ = some (.int .i64 k)) (i1 : w.cell? ⟨b', o' + q * 3 + 1, none⟩ = some (.int .u64 im)) (i2 : w.cell? ⟨b', o' + q * 3 + 2, none⟩ = some (.string is))
    (hB : ∀ w', Below w.heap.size w w' → Calls Tryd.prog 60 #[.slice (some ⟨b, o, none⟩) L cap, .int .i64 a, .slice (some ⟨b', o', none⟩) V C, .int .i64 q] w' fun e w'' => e = .returned (.tuple #[.string X, .int .i64 q']) ∧ Below w'.heap.size w' w'')
    (hTg : ∀ w, Calls Tryd.prog 62 #[.int .i64 i, .agg #[.int .i64 k, .int .i64 tn]] w fun e w' => e = .returned (.string T) ∧ Below w.heap.size w w') :
    Calls Tryd.prog 44 #[.slice (some ⟨b, o, none⟩) L cap, .int .i64 a, .slice (some ⟨b', o', none⟩) V C, .int .i64 q, .int .i64 i] w fun e w' => e = .returned (.tuple #[.string (T ++ X), .int .i64 q']) ∧ Below w.heap.size w w' := by
  have HB : Hid (∀ w', Below w.heap.size w w' → Calls Tryd.prog 60 #[.slice (some ⟨b, o, none⟩) L cap, .int .i64 a, .slice (some ⟨b', o', none⟩) V C, .int .i64 q] w' fun e w'' => e = .returned (.tuple #[.string X, .int .i64 q']) ∧ Below w'.heap.size w' w'') := hB
  have HT : Hid (∀ w, Calls Tryd.prog 62 #[.int .i64 i, .agg #[.int .i64 k, .int .i64 tn]] w fun e w' => e = .returned (.string T) ∧ Below w.heap.size w w') := hTg
  have HN : Hid (∀ w, Calls Tryd.prog 61 #[.agg #[.int .i64 k, .int .i64 tn]] w fun e w' => e = .returned (.bool false) ∧ Below w.heap.size w w') := fun w => by have := l7Number_any k tn w; rwa [hn] at this
  have HK : Hid (∀ w', Below w.heap.size w w' → w'.cell? ⟨b, o + a * 2, none⟩ = some (.int .i64 k) ∧ w'.cell? ⟨b, o + a * 2 + 1, none⟩ = some (.int .i64 tn)) := fun w' hb => ⟨cell_b c0 hbl hb, cell_b c1 hbl hb⟩
  have k5 : (k == 5) = false := beqF h5
  have k8 : (k == 8) = false := beqF h8
  have k5' : (k != 5) = true := by simp [bne, k5]
  have k8' : (k != 8) = true := by simp [bne, k8]
  have k3 : (k == 3) = false := beqF h3
  unfold maxLen at hcap hC
  clear hB hTg h5 h8
  go_enter Tryd.func44, Tryd.ntmps44
  go_wp2_with fail
  refine (HB.out _ (bel1 _ _)).mono ?_
  rintro e w1 ⟨rfl, hb1⟩
  have HB1 : Hid (Below w.heap.size w w1) := (bel1 _ _).trans (hb1.mono (by simp))
  have hH1 : w.heap.size < w1.heap.size := by have := hb1.size; simp at this; omega
  have x0 : w1.cell? ⟨w.heap.size, 0, none⟩ = some (.int .i64 k) := cell_b (by simp [go_sem]) (by simp) hb1
  have x1 : w1.cell? ⟨w.heap.size, 1, none⟩ = some (.int .u64 im) := cell_b (by simp [go_sem]) (by simp) hb1
  have x2 : w1.cell? ⟨w.heap.size, 2, none⟩ = some (.string is) := cell_b (by simp [go_sem]) (by simp) hb1
  obtain ⟨d0, d1⟩ := HK.out w1 HB1.out
  clear hb1 c0 c1 i0 i1 i2
  go_wp2_with fail
  refine (HN.out _).mono ?_
  rintro e w2 ⟨rfl, hb2⟩
  have HB2 : Hid (Below w.heap.size w w2) := HB1.out.trans (hb2.mono HB1.out.size)
  have y0 := cell_b x0 hH1 hb2
  have y1 := cell_b x1 hH1 hb2
  have y2 := cell_b x2 hH1 hb2
  obtain ⟨e0, e1⟩ := HK.out w2 HB2.out
  clear hb2 x0 x1 x2 d0 d1
  go_wp2_with fail
  refine (HT.out _).mono ?_
  rintro e w3 ⟨rfl, hb3⟩
  have HB3 : Hid (Below w.heap.size w w3) := HB2.out.trans (hb3.mono HB2.out.size)
  clear hb3 y0 y1 y2 e0 e1
  go_wp2_with fail
  go_ret2
  exact ⟨rfl, HB3.out⟩
set_option maxRecDepth 100000 in
set_option maxHeartbeats 8000000 in
theorem l7L_optn (i a q N b o cap L b' o' C V : Nat) (kt ktn : Int) (is : ByteArray) (Y : Nat → Nat) (E : Nat → List UInt8) (w : World) (hi : i ≤ 20) (hN : N ≤ 20) (hn : isNk kt = true) (ha : a + 1 < L) (hL : L ≤ cap) (hcap : cap ≤ maxLen) (hq : q < V) (hV : V ≤ C) (hC : C ≤ maxLen) (hV2 : V ≤ 1048577)
    (hE : ∀ j, j < N → (E j).length ≤ 60000) (hY0 : Y 0 = q + 1) (hY : ∀ j, j ≤ N → Y j ≤ 1048577)
    (hbl : b < w.heap.size) (hbl' : b' < w.heap.size) (c0 : w.cell? ⟨b, o + (a + 1) * 2, none⟩ = some (.int .i64 kt)) (c1 : w.cell? ⟨b, o + (a + 1) * 2 + 1, none⟩ = some (.int .i64 ktn)) (i0 : w.cell? ⟨b', o' + q * 3, none⟩ = some (.int .i64 8)) (i1 : w.cell? ⟨b', o' + q * 3 + 1, none⟩ = some (.int .u64 N)) (i2 : w.cell? ⟨b', o' + q * 3 + 2, none⟩ = some (.string is))
    (hB : ∀ j, j < N → ∀ w', Below w.heap.size w w' → Calls Tryd.prog 60 #[.slice (some ⟨b, o, none⟩) L cap, .int .i64 ((a : Int) + 1), .slice (some ⟨b', o', none⟩) V C, .int .i64 (Y j)] w' fun e w'' => e = .returned (.tuple #[.string ⟨(bdL kt (E j)).toArray⟩, .int .i64 (Y (j + 1))]) ∧ Below w'.heap.size w' w'') :
    Calls Tryd.prog 44 #[.slice (some ⟨b, o, none⟩) L cap, .int .i64 a, .slice (some ⟨b', o', none⟩) V C, .int .i64 q, .int .i64 i] w fun e w' => e = .returned (.tuple #[.string ⟨(catE (fun j => prP i kt (E j)) N).toArray⟩, .int .i64 (Y N)]) ∧ Below w.heap.size w w' := by
  obtain ⟨A, hA⟩ : ∃ A : Nat, A = a + 1 := ⟨_, rfl⟩
  have hAi : (a : Int) + 1 = (A : Int) := by omega
  rw [← hA] at c0 c1 ha
  rw [hAi] at hB
  have ha' : a < L := by omega
  clear hA
  obtain ⟨W0, hW0⟩ : ∃ W0, W0 = (w.alloc (.cells #[.int .i64 8, .int .u64 N, .string is] 42)).alloc (.cells #[.int .i64 kt, .int .i64 ktn] 40) := ⟨_, rfl⟩
  have hWs : W0.heap.size = w.heap.size + 2 := by rw [hW0]; simp
  have HW0B : Hid (Below w.heap.size w W0) := by show Below _ _ _; rw [hW0]; exact bel2 _ _ _
  have HX0 : Hid (∀ w', Below W0.heap.size W0 w' → w'.cell? ⟨w.heap.size, 0, none⟩ = some (.int .i64 8) ∧ w'.cell? ⟨w.heap.size, 1, none⟩ = some (.int .u64 N) ∧ w'.cell? ⟨w.heap.size, 2, none⟩ = some (.string is) ∧ w'.cell? ⟨w.heap.size + 1, 0, none⟩ = some (.int .i64 kt) ∧ w'.cell? ⟨w.heap.size + 1, 1, none⟩ = some (.int .i64 ktn)) := fun w' hb => by
    refine ⟨cell_b ?_ (by omega) hb, cell_b ?_ (by omega) hb, cell_b ?_ (by omega) hb, cell_b ?_ (by omega) hb, cell_b ?_ (by omega) hb⟩ <;> rw [hW0] <;> simp [go_sem]
  have HB : Hid (∀ j, j < N → ∀ w', Below w.heap.size w w' → Calls Tryd.prog 60 #[.slice (some ⟨b, o, none⟩) L cap, .int .i64 (A : Int), .slice (some ⟨b', o', none⟩) V C, .int .i64 (Y j)] w' fun e w'' => e = .returned (.tuple #[.string ⟨(bdL kt (E j)).toArray⟩, .int .i64 (Y (j + 1))]) ∧ Below w'.heap.size w' w'') := hB
  have HN : Hid (∀ w, Calls Tryd.prog 61 #[.agg #[.int .i64 kt, .int .i64 ktn]] w fun e w' => e = .returned (.bool true) ∧ Below w.heap.size w w') := fun w => by have := l7Number_any kt ktn w; rwa [hn] at this
  have HDl : Hid (∀ j, j < N → ByteArray.size ⟨(bdL kt (E j)).toArray⟩ ≤ 60011) := fun j hj => by rw [ba_ph]; have h1 := hE j hj; have h2 := bdL_len kt (E j); omega
  have HT : Hid (∀ w, Calls Tryd.prog 62 #[.int .i64 i, .agg #[.int .i64 kt, .int .i64 ktn]] w fun e w' => e = .returned (.string ⟨(putVar (tgN i kt)).toArray⟩) ∧ Below w.heap.size w w') := fun w => l7Tag_any i kt ktn w hi
  have hTs : ByteArray.size ⟨(putVar (tgN i kt)).toArray⟩ ≤ 11 := by rw [ba_ph]; exact putVar_len _
  obtain ⟨T, hT⟩ : ∃ T : ByteArray, (⟨(putVar (tgN i kt)).toArray⟩ : ByteArray) = T := ⟨_, rfl⟩
  have HTE : Hid ((⟨(putVar (tgN i kt)).toArray⟩ : ByteArray) = T) := hT
  rw [hT] at HT hTs
  obtain ⟨G, hG⟩ : ∃ G : Nat → List UInt8, G = fun j => prP i kt (E j) := ⟨_, rfl⟩
  have HGE : Hid (∀ j, G j = putVar (tgN i kt) ++ bdL kt (E j)) := fun j => by rw [hG]; exact prP_bd i kt (E j)
  have HGG : Hid (∀ j, j < N → (G j).length ≤ 60040) := fun j hj => by rw [hG]; have h1 := hE j hj; have h2 := prP_len i kt (E j); show (prP i kt (E j)).length ≤ _; omega
  rw [← hG]
  clear hT hG
  have HY : Hid (∀ j, j ≤ N → Y j ≤ 1048577) := hY
  have HY0 : Hid (Y 0 = q + 1) := hY0
  have HWE : Hid (W0 = (w.alloc (.cells #[.int .i64 8, .int .u64 N, .string is] 42)).alloc (.cells #[.int .i64 kt, .int .i64 ktn] 40)) := hW0
  have hq2 : q ≤ 1048577 := by omega
  unfold maxLen at hcap hC
  have HGl : Hid (∀ j, j ≤ N → ByteArray.size ⟨(catE G j).toArray⟩ ≤ 1300000) := fun j hj => by
    rw [ba_ph]
    have h1 := catE_len (E := G) (L := 60040) HGG.out j hj
    have h2 : j * 60040 ≤ 20 * 60040 := Nat.mul_le_mul_right _ (by omega)
    omega
  clear hB hE hY hY0 hW0 hn
  go_enter Tryd.func44, Tryd.ntmps44
  go_wp2_with fail
  go_loopg [3, 16, 17] N (fun gk x o n wr => ∃ (j : Nat) (X : ByteArray), j + gk = N ∧ n = .int .u64 j ∧ x = .int .i64 (Y j) ∧ o = .string X ∧ X = ⟨(catE G j).toArray⟩ ∧ Below W0.heap.size W0 wr)
  case atStart => exact ⟨0, ⟨#[]⟩, by omega, rfl, by rw [HY0.out]; go_num, rfl, rfl, by rw [HWE.out]; exact Below.refl _ _⟩
  case round =>
    obtain ⟨j, X, hj', rfl, rfl, rfl, hX, hb⟩ := hrel
    have HJ : Hid (j + gk = N) := hj'
    have HXE : Hid (X = ⟨(catE G j).toArray⟩) := hX
    have HBr : Hid (Below W0.heap.size W0 wr) := hb
    have HBw : Hid (Below w.heap.size w wr) := HW0B.out.trans (hb.mono HW0B.out.size)
    have hj : j ≤ N := by omega
    have hXs : X.size ≤ 1300000 := by rw [hX]; exact HGl.out j hj
    have hyj := HY.out j hj
    have hH : w.heap.size + 2 ≤ wr.heap.size := by have := hb.size; omega
    obtain ⟨x0, x1, x2, x3, x4⟩ := HX0.out wr hb
    clear hj' hX hb
    by_cases hjN : j < N
    · have HBj := HB.out j hjN wr HBw.out
      have hDs := HDl.out j hjN
      have hyj1 := HY.out (j + 1) (by omega)
      have HCS : Hid (catE G (j + 1) = catE G j ++ G j) := rfl
      obtain ⟨D, hD⟩ : ∃ D : ByteArray, (⟨(bdL kt (E j)).toArray⟩ : ByteArray) = D := ⟨_, rfl⟩
      have HDE : Hid ((⟨(bdL kt (E j)).toArray⟩ : ByteArray) = D) := hD
      obtain ⟨y', hy'⟩ : ∃ y', Y (j + 1) = y' := ⟨_, rfl⟩
      have HYE : Hid (Y (j + 1) = y') := hy'
      rw [hD, hy'] at HBj
      rw [hD] at hDs
      rw [hy'] at hyj1
      obtain ⟨y, hy⟩ : ∃ y, Y j = y := ⟨_, rfl⟩
      rw [hy] at HBj hyj ⊢
      have HBJ : Hid (Calls Tryd.prog 60 #[.slice (some ⟨b, o, none⟩) L cap, .int .i64 (A : Int), .slice (some ⟨b', o', none⟩) V C, .int .i64 y] wr fun e w'' => e = .returned (.tuple #[.string D, .int .i64 y']) ∧ Below wr.heap.size wr w'') := HBj
      clear HBj hD hy' hy
      go_wp2_with fail
      refine HBJ.out.mono ?_
      rintro e w1 ⟨rfl, hb1⟩
      have HB1 : Hid (Below W0.heap.size W0 w1) := HBr.out.trans (hb1.mono HBr.out.size)
      clear hb1 x0 x1 x2 x3 x4
      obtain ⟨x0, x1, x2, x3, x4⟩ := HX0.out w1 HB1.out
      go_wp2_with fail
      refine (HT.out _).mono ?_
      rintro e w3 ⟨rfl, hb3⟩
      have HB3 : Hid (Below W0.heap.size W0 w3) := HB1.out.trans (hb3.mono HB1.out.size)
      have HXN : Hid (X ++ (T ++ D) = ⟨(catE G (j + 1)).toArray⟩) := by
        show _ = _
        rw [HCS.out, HGE.out, HXE.out, ← HTE.out, ← HDE.out, cat_list, cat_list]
      have hTD : (T ++ D).size ≤ 60022 := by rw [ByteArray.size_append]; omega
      clear hb3 x0 x1 x2 x3 x4
      go_wp2_with fail
      go_roundg (gk - 1)
      case rel => exact ⟨j + 1, X ++ (T ++ D), by have := HJ.out; omega, by go_num, by rw [HYE.out], rfl, HXN.out, HB3.out⟩
      case measure => have := HJ.out; omega
    · have ej : j = N := by omega
      subst ej
      have HFB : Hid (Below w.heap.size w wr) := HW0B.out.trans (HBr.out.mono HW0B.out.size)
      go_wp2_with fail
      go_ret2
      exact ⟨by rw [HXE.out]; try rfl, HFB.out⟩
set_option maxRecDepth 100000 in
set_option maxHeartbeats 8000000 in
theorem l7L_optx (i a q N b o cap L b' o' C V : Nat) (kt ktn : Int) (is : ByteArray) (Y : Nat → Nat) (E : Nat → List UInt8) (w : World) (hi : i ≤ 20) (hN : N ≤ 20) (hn : isNk kt = false) (ha : a + 1 < L) (hL : L ≤ cap) (hcap : cap ≤ maxLen) (hq : q < V) (hV : V ≤ C) (hC : C ≤ maxLen) (hV2 : V ≤ 1048577)
    (hE : ∀ j, j < N → (E j).length ≤ 60000) (hY0 : Y 0 = q + 1) (hY : ∀ j, j ≤ N → Y j ≤ 1048577)
    (hbl : b < w.heap.size) (hbl' : b' < w.heap.size) (c0 : w.cell? ⟨b, o + (a + 1) * 2, none⟩ = some (.int .i64 kt)) (c1 : w.cell? ⟨b, o + (a + 1) * 2 + 1, none⟩ = some (.int .i64 ktn)) (i0 : w.cell? ⟨b', o' + q * 3, none⟩ = some (.int .i64 8)) (i1 : w.cell? ⟨b', o' + q * 3 + 1, none⟩ = some (.int .u64 N)) (i2 : w.cell? ⟨b', o' + q * 3 + 2, none⟩ = some (.string is))
    (hB : ∀ j, j < N → ∀ w', Below w.heap.size w w' → Calls Tryd.prog 60 #[.slice (some ⟨b, o, none⟩) L cap, .int .i64 ((a : Int) + 1), .slice (some ⟨b', o', none⟩) V C, .int .i64 (Y j)] w' fun e w'' => e = .returned (.tuple #[.string ⟨(bdL kt (E j)).toArray⟩, .int .i64 (Y (j + 1))]) ∧ Below w'.heap.size w' w'') :
    Calls Tryd.prog 44 #[.slice (some ⟨b, o, none⟩) L cap, .int .i64 a, .slice (some ⟨b', o', none⟩) V C, .int .i64 q, .int .i64 i] w fun e w' => e = .returned (.tuple #[.string ⟨(catE (fun j => prP i kt (E j)) N).toArray⟩, .int .i64 (Y N)]) ∧ Below w.heap.size w w' := by
  obtain ⟨A, hA⟩ : ∃ A : Nat, A = a + 1 := ⟨_, rfl⟩
  have hAi : (a : Int) + 1 = (A : Int) := by omega
  rw [← hA] at c0 c1 ha
  rw [hAi] at hB
  have ha' : a < L := by omega
  clear hA
  obtain ⟨W0, hW0⟩ : ∃ W0, W0 = (w.alloc (.cells #[.int .i64 8, .int .u64 N, .string is] 42)).alloc (.cells #[.int .i64 kt, .int .i64 ktn] 40) := ⟨_, rfl⟩
  have hWs : W0.heap.size = w.heap.size + 2 := by rw [hW0]; simp
  have HW0B : Hid (Below w.heap.size w W0) := by show Below _ _ _; rw [hW0]; exact bel2 _ _ _
  have HX0 : Hid (∀ w', Below W0.heap.size W0 w' → w'.cell? ⟨w.heap.size, 0, none⟩ = some (.int .i64 8) ∧ w'.cell? ⟨w.heap.size, 1, none⟩ = some (.int .u64 N) ∧ w'.cell? ⟨w.heap.size, 2, none⟩ = some (.string is) ∧ w'.cell? ⟨w.heap.size + 1, 0, none⟩ = some (.int .i64 kt) ∧ w'.cell? ⟨w.heap.size + 1, 1, none⟩ = some (.int .i64 ktn)) := fun w' hb => by
    refine ⟨cell_b ?_ (by omega) hb, cell_b ?_ (by omega) hb, cell_b ?_ (by omega) hb, cell_b ?_ (by omega) hb, cell_b ?_ (by omega) hb⟩ <;> rw [hW0] <;> simp [go_sem]
  have HB : Hid (∀ j, j < N → ∀ w', Below w.heap.size w w' → Calls Tryd.prog 60 #[.slice (some ⟨b, o, none⟩) L cap, .int .i64 (A : Int), .slice (some ⟨b', o', none⟩) V C, .int .i64 (Y j)] w' fun e w'' => e = .returned (.tuple #[.string ⟨(bdL kt (E j)).toArray⟩, .int .i64 (Y (j + 1))]) ∧ Below w'.heap.size w' w'') := hB
  have HN : Hid (∀ w, Calls Tryd.prog 61 #[.agg #[.int .i64 kt, .int .i64 ktn]] w fun e w' => e = .returned (.bool false) ∧ Below w.heap.size w w') := fun w => by have := l7Number_any kt ktn w; rwa [hn] at this
  have HDl : Hid (∀ j, j < N → ByteArray.size ⟨(bdL kt (E j)).toArray⟩ ≤ 60011) := fun j hj => by rw [ba_ph]; have h1 := hE j hj; have h2 := bdL_len kt (E j); omega
  have HT : Hid (∀ w, Calls Tryd.prog 62 #[.int .i64 i, .agg #[.int .i64 kt, .int .i64 ktn]] w fun e w' => e = .returned (.string ⟨(putVar (tgN i kt)).toArray⟩) ∧ Below w.heap.size w w') := fun w => l7Tag_any i kt ktn w hi
  have hTs : ByteArray.size ⟨(putVar (tgN i kt)).toArray⟩ ≤ 11 := by rw [ba_ph]; exact putVar_len _
  obtain ⟨T, hT⟩ : ∃ T : ByteArray, (⟨(putVar (tgN i kt)).toArray⟩ : ByteArray) = T := ⟨_, rfl⟩
  have HTE : Hid ((⟨(putVar (tgN i kt)).toArray⟩ : ByteArray) = T) := hT
  rw [hT] at HT hTs
  obtain ⟨G, hG⟩ : ∃ G : Nat → List UInt8, G = fun j => prP i kt (E j) := ⟨_, rfl⟩
  have HGE : Hid (∀ j, G j = putVar (tgN i kt) ++ bdL kt (E j)) := fun j => by rw [hG]; exact prP_bd i kt (E j)
  have HGG : Hid (∀ j, j < N → (G j).length ≤ 60040) := fun j hj => by rw [hG]; have h1 := hE j hj; have h2 := prP_len i kt (E j); show (prP i kt (E j)).length ≤ _; omega
  rw [← hG]
  clear hT hG
  have HY : Hid (∀ j, j ≤ N → Y j ≤ 1048577) := hY
  have HY0 : Hid (Y 0 = q + 1) := hY0
  have HWE : Hid (W0 = (w.alloc (.cells #[.int .i64 8, .int .u64 N, .string is] 42)).alloc (.cells #[.int .i64 kt, .int .i64 ktn] 40)) := hW0
  have hq2 : q ≤ 1048577 := by omega
  unfold maxLen at hcap hC
  have HGl : Hid (∀ j, j ≤ N → ByteArray.size ⟨(catE G j).toArray⟩ ≤ 1300000) := fun j hj => by
    rw [ba_ph]
    have h1 := catE_len (E := G) (L := 60040) HGG.out j hj
    have h2 : j * 60040 ≤ 20 * 60040 := Nat.mul_le_mul_right _ (by omega)
    omega
  clear hB hE hY hY0 hW0 hn
  go_enter Tryd.func44, Tryd.ntmps44
  go_wp2_with fail
  go_loopg [3, 16, 17] N (fun gk x o n wr => ∃ (j : Nat) (X : ByteArray), j + gk = N ∧ n = .int .u64 j ∧ x = .int .i64 (Y j) ∧ o = .string X ∧ X = ⟨(catE G j).toArray⟩ ∧ Below W0.heap.size W0 wr)
  case atStart => exact ⟨0, ⟨#[]⟩, by omega, rfl, by rw [HY0.out]; go_num, rfl, rfl, by rw [HWE.out]; exact Below.refl _ _⟩
  case round =>
    obtain ⟨j, X, hj', rfl, rfl, rfl, hX, hb⟩ := hrel
    have HJ : Hid (j + gk = N) := hj'
    have HXE : Hid (X = ⟨(catE G j).toArray⟩) := hX
    have HBr : Hid (Below W0.heap.size W0 wr) := hb
    have HBw : Hid (Below w.heap.size w wr) := HW0B.out.trans (hb.mono HW0B.out.size)
    have hj : j ≤ N := by omega
    have hXs : X.size ≤ 1300000 := by rw [hX]; exact HGl.out j hj
    have hyj := HY.out j hj
    have hH : w.heap.size + 2 ≤ wr.heap.size := by have := hb.size; omega
    obtain ⟨x0, x1, x2, x3, x4⟩ := HX0.out wr hb
    clear hj' hX hb
    by_cases hjN : j < N
    · have HBj := HB.out j hjN wr HBw.out
      have hDs := HDl.out j hjN
      have hyj1 := HY.out (j + 1) (by omega)
      have HCS : Hid (catE G (j + 1) = catE G j ++ G j) := rfl
      obtain ⟨D, hD⟩ : ∃ D : ByteArray, (⟨(bdL kt (E j)).toArray⟩ : ByteArray) = D := ⟨_, rfl⟩
      have HDE : Hid ((⟨(bdL kt (E j)).toArray⟩ : ByteArray) = D) := hD
      obtain ⟨y', hy'⟩ : ∃ y', Y (j + 1) = y' := ⟨_, rfl⟩
      have HYE : Hid (Y (j + 1) = y') := hy'
      rw [hD, hy'] at HBj
      rw [hD] at hDs
      rw [hy'] at hyj1
      obtain ⟨y, hy⟩ : ∃ y, Y j = y := ⟨_, rfl⟩
      rw [hy] at HBj hyj ⊢
      have HBJ : Hid (Calls Tryd.prog 60 #[.slice (some ⟨b, o, none⟩) L cap, .int .i64 (A : Int), .slice (some ⟨b', o', none⟩) V C, .int .i64 y] wr fun e w'' => e = .returned (.tuple #[.string D, .int .i64 y']) ∧ Below wr.heap.size wr w'') := HBj
      clear HBj hD hy' hy
      go_wp2_with fail
      refine HBJ.out.mono ?_
      rintro e w1 ⟨rfl, hb1⟩
      have HB1 : Hid (Below W0.heap.size W0 w1) := HBr.out.trans (hb1.mono HBr.out.size)
      clear hb1 x0 x1 x2 x3 x4
      obtain ⟨x0, x1, x2, x3, x4⟩ := HX0.out w1 HB1.out
      go_wp2_with fail
      refine (HT.out _).mono ?_
      rintro e w3 ⟨rfl, hb3⟩
      have HB3 : Hid (Below W0.heap.size W0 w3) := HB1.out.trans (hb3.mono HB1.out.size)
      have HXN : Hid (X ++ (T ++ D) = ⟨(catE G (j + 1)).toArray⟩) := by
        show _ = _
        rw [HCS.out, HGE.out, HXE.out, ← HTE.out, ← HDE.out, cat_list, cat_list]
      have hTD : (T ++ D).size ≤ 60022 := by rw [ByteArray.size_append]; omega
      clear hb3 x0 x1 x2 x3 x4
      go_wp2_with fail
      go_roundg (gk - 1)
      case rel => exact ⟨j + 1, X ++ (T ++ D), by have := HJ.out; omega, by go_num, by rw [HYE.out], rfl, HXN.out, HB3.out⟩
      case measure => have := HJ.out; omega
    · have ej : j = N := by omega
      subst ej
      have HFB : Hid (Below w.heap.size w wr) := HW0B.out.trans (HBr.out.mono HW0B.out.size)
      go_wp2_with fail
      go_ret2
      exact ⟨by rw [HXE.out]; try rfl, HFB.out⟩
set_option maxRecDepth 100000 in
set_option maxHeartbeats 8000000 in
theorem l7L_each (i a q N b o cap L b' o' C V : Nat) (kt ktn : Int) (is : ByteArray) (Y : Nat → Nat) (E : Nat → List UInt8) (w : World) (hi : i ≤ 20) (hN : N ≤ 20) (hn : isNk kt = false) (ha : a + 1 < L) (hL : L ≤ cap) (hcap : cap ≤ maxLen) (hq : q < V) (hV : V ≤ C) (hC : C ≤ maxLen) (hV2 : V ≤ 1048577)
    (hE : ∀ j, j < N → (E j).length ≤ 60000) (hY0 : Y 0 = q + 1) (hY : ∀ j, j ≤ N → Y j ≤ 1048577)
    (hbl : b < w.heap.size) (hbl' : b' < w.heap.size) (c0 : w.cell? ⟨b, o + (a + 1) * 2, none⟩ = some (.int .i64 kt)) (c1 : w.cell? ⟨b, o + (a + 1) * 2 + 1, none⟩ = some (.int .i64 ktn)) (i0 : w.cell? ⟨b', o' + q * 3, none⟩ = some (.int .i64 5)) (i1 : w.cell? ⟨b', o' + q * 3 + 1, none⟩ = some (.int .u64 N)) (i2 : w.cell? ⟨b', o' + q * 3 + 2, none⟩ = some (.string is))
    (hB : ∀ j, j < N → ∀ w', Below w.heap.size w w' → Calls Tryd.prog 60 #[.slice (some ⟨b, o, none⟩) L cap, .int .i64 ((a : Int) + 1), .slice (some ⟨b', o', none⟩) V C, .int .i64 (Y j)] w' fun e w'' => e = .returned (.tuple #[.string ⟨(bdL kt (E j)).toArray⟩, .int .i64 (Y (j + 1))]) ∧ Below w'.heap.size w' w'') :
    Calls Tryd.prog 44 #[.slice (some ⟨b, o, none⟩) L cap, .int .i64 a, .slice (some ⟨b', o', none⟩) V C, .int .i64 q, .int .i64 i] w fun e w' => e = .returned (.tuple #[.string ⟨(catE (fun j => prP i kt (E j)) N).toArray⟩, .int .i64 (Y N)]) ∧ Below w.heap.size w w' := by
  obtain ⟨A, hA⟩ : ∃ A : Nat, A = a + 1 := ⟨_, rfl⟩
  have hAi : (a : Int) + 1 = (A : Int) := by omega
  rw [← hA] at c0 c1 ha
  rw [hAi] at hB
  have ha' : a < L := by omega
  clear hA
  obtain ⟨W0, hW0⟩ : ∃ W0, W0 = (w.alloc (.cells #[.int .i64 5, .int .u64 N, .string is] 42)).alloc (.cells #[.int .i64 kt, .int .i64 ktn] 40) := ⟨_, rfl⟩
  have hWs : W0.heap.size = w.heap.size + 2 := by rw [hW0]; simp
  have HW0B : Hid (Below w.heap.size w W0) := by show Below _ _ _; rw [hW0]; exact bel2 _ _ _
  have HX0 : Hid (∀ w', Below W0.heap.size W0 w' → w'.cell? ⟨w.heap.size, 0, none⟩ = some (.int .i64 5) ∧ w'.cell? ⟨w.heap.size, 1, none⟩ = some (.int .u64 N) ∧ w'.cell? ⟨w.heap.size, 2, none⟩ = some (.string is) ∧ w'.cell? ⟨w.heap.size + 1, 0, none⟩ = some (.int .i64 kt) ∧ w'.cell? ⟨w.heap.size + 1, 1, none⟩ = some (.int .i64 ktn)) := fun w' hb => by
    refine ⟨cell_b ?_ (by omega) hb, cell_b ?_ (by omega) hb, cell_b ?_ (by omega) hb, cell_b ?_ (by omega) hb, cell_b ?_ (by omega) hb⟩ <;> rw [hW0] <;> simp [go_sem]
  have HB : Hid (∀ j, j < N → ∀ w', Below w.heap.size w w' → Calls Tryd.prog 60 #[.slice (some ⟨b, o, none⟩) L cap, .int .i64 (A : Int), .slice (some ⟨b', o', none⟩) V C, .int .i64 (Y j)] w' fun e w'' => e = .returned (.tuple #[.string ⟨(bdL kt (E j)).toArray⟩, .int .i64 (Y (j + 1))]) ∧ Below w'.heap.size w' w'') := hB
  have HN : Hid (∀ w, Calls Tryd.prog 61 #[.agg #[.int .i64 kt, .int .i64 ktn]] w fun e w' => e = .returned (.bool false) ∧ Below w.heap.size w w') := fun w => by have := l7Number_any kt ktn w; rwa [hn] at this
  have HDl : Hid (∀ j, j < N → ByteArray.size ⟨(bdL kt (E j)).toArray⟩ ≤ 60011) := fun j hj => by rw [ba_ph]; have h1 := hE j hj; have h2 := bdL_len kt (E j); omega
  have HT : Hid (∀ w, Calls Tryd.prog 62 #[.int .i64 i, .agg #[.int .i64 kt, .int .i64 ktn]] w fun e w' => e = .returned (.string ⟨(putVar (tgN i kt)).toArray⟩) ∧ Below w.heap.size w w') := fun w => l7Tag_any i kt ktn w hi
  have hTs : ByteArray.size ⟨(putVar (tgN i kt)).toArray⟩ ≤ 11 := by rw [ba_ph]; exact putVar_len _
  obtain ⟨T, hT⟩ : ∃ T : ByteArray, (⟨(putVar (tgN i kt)).toArray⟩ : ByteArray) = T := ⟨_, rfl⟩
  have HTE : Hid ((⟨(putVar (tgN i kt)).toArray⟩ : ByteArray) = T) := hT
  rw [hT] at HT hTs
  obtain ⟨G, hG⟩ : ∃ G : Nat → List UInt8, G = fun j => prP i kt (E j) := ⟨_, rfl⟩
  have HGE : Hid (∀ j, G j = putVar (tgN i kt) ++ bdL kt (E j)) := fun j => by rw [hG]; exact prP_bd i kt (E j)
  have HGG : Hid (∀ j, j < N → (G j).length ≤ 60040) := fun j hj => by rw [hG]; have h1 := hE j hj; have h2 := prP_len i kt (E j); show (prP i kt (E j)).length ≤ _; omega
  rw [← hG]
  clear hT hG
  have HY : Hid (∀ j, j ≤ N → Y j ≤ 1048577) := hY
  have HY0 : Hid (Y 0 = q + 1) := hY0
  have HWE : Hid (W0 = (w.alloc (.cells #[.int .i64 5, .int .u64 N, .string is] 42)).alloc (.cells #[.int .i64 kt, .int .i64 ktn] 40)) := hW0
  have hq2 : q ≤ 1048577 := by omega
  unfold maxLen at hcap hC
  have HGl : Hid (∀ j, j ≤ N → ByteArray.size ⟨(catE G j).toArray⟩ ≤ 1300000) := fun j hj => by
    rw [ba_ph]
    have h1 := catE_len (E := G) (L := 60040) HGG.out j hj
    have h2 : j * 60040 ≤ 20 * 60040 := Nat.mul_le_mul_right _ (by omega)
    omega
  clear hB hE hY hY0 hW0 hn
  go_enter Tryd.func44, Tryd.ntmps44
  go_wp2_with fail
  go_loopg [3, 16, 17] N (fun gk x o n wr => ∃ (j : Nat) (X : ByteArray), j + gk = N ∧ n = .int .u64 j ∧ x = .int .i64 (Y j) ∧ o = .string X ∧ X = ⟨(catE G j).toArray⟩ ∧ Below W0.heap.size W0 wr)
  case atStart => exact ⟨0, ⟨#[]⟩, by omega, rfl, by rw [HY0.out]; go_num, rfl, rfl, by rw [HWE.out]; exact Below.refl _ _⟩
  case round =>
    obtain ⟨j, X, hj', rfl, rfl, rfl, hX, hb⟩ := hrel
    have HJ : Hid (j + gk = N) := hj'
    have HXE : Hid (X = ⟨(catE G j).toArray⟩) := hX
    have HBr : Hid (Below W0.heap.size W0 wr) := hb
    have HBw : Hid (Below w.heap.size w wr) := HW0B.out.trans (hb.mono HW0B.out.size)
    have hj : j ≤ N := by omega
    have hXs : X.size ≤ 1300000 := by rw [hX]; exact HGl.out j hj
    have hyj := HY.out j hj
    have hH : w.heap.size + 2 ≤ wr.heap.size := by have := hb.size; omega
    obtain ⟨x0, x1, x2, x3, x4⟩ := HX0.out wr hb
    clear hj' hX hb
    by_cases hjN : j < N
    · have HBj := HB.out j hjN wr HBw.out
      have hDs := HDl.out j hjN
      have hyj1 := HY.out (j + 1) (by omega)
      have HCS : Hid (catE G (j + 1) = catE G j ++ G j) := rfl
      obtain ⟨D, hD⟩ : ∃ D : ByteArray, (⟨(bdL kt (E j)).toArray⟩ : ByteArray) = D := ⟨_, rfl⟩
      have HDE : Hid ((⟨(bdL kt (E j)).toArray⟩ : ByteArray) = D) := hD
      obtain ⟨y', hy'⟩ : ∃ y', Y (j + 1) = y' := ⟨_, rfl⟩
      have HYE : Hid (Y (j + 1) = y') := hy'
      rw [hD, hy'] at HBj
      rw [hD] at hDs
      rw [hy'] at hyj1
      obtain ⟨y, hy⟩ : ∃ y, Y j = y := ⟨_, rfl⟩
      rw [hy] at HBj hyj ⊢
      have HBJ : Hid (Calls Tryd.prog 60 #[.slice (some ⟨b, o, none⟩) L cap, .int .i64 (A : Int), .slice (some ⟨b', o', none⟩) V C, .int .i64 y] wr fun e w'' => e = .returned (.tuple #[.string D, .int .i64 y']) ∧ Below wr.heap.size wr w'') := HBj
      clear HBj hD hy' hy
      go_wp2_with fail
      refine HBJ.out.mono ?_
      rintro e w1 ⟨rfl, hb1⟩
      have HB1 : Hid (Below W0.heap.size W0 w1) := HBr.out.trans (hb1.mono HBr.out.size)
      clear hb1 x0 x1 x2 x3 x4
      obtain ⟨x0, x1, x2, x3, x4⟩ := HX0.out w1 HB1.out
      go_wp2_with fail
      refine (HN.out _).mono ?_
      rintro e w2 ⟨rfl, hb2⟩
      have HB2 : Hid (Below W0.heap.size W0 w2) := HB1.out.trans (hb2.mono HB1.out.size)
      clear hb2 x0 x1 x2 x3 x4
      obtain ⟨x0, x1, x2, x3, x4⟩ := HX0.out w2 HB2.out
      go_wp2_with fail
      refine (HT.out _).mono ?_
      rintro e w3 ⟨rfl, hb3⟩
      have HB3 : Hid (Below W0.heap.size W0 w3) := HB2.out.trans (hb3.mono HB2.out.size)
      have HXN : Hid (X ++ (T ++ D) = ⟨(catE G (j + 1)).toArray⟩) := by
        show _ = _
        rw [HCS.out, HGE.out, HXE.out, ← HTE.out, ← HDE.out, cat_list, cat_list]
      have hTD : (T ++ D).size ≤ 60022 := by rw [ByteArray.size_append]; omega
      clear hb3 x0 x1 x2 x3 x4
      go_wp2_with fail
      go_roundg (gk - 1)
      case rel => exact ⟨j + 1, X ++ (T ++ D), by have := HJ.out; omega, by go_num, by rw [HYE.out], rfl, HXN.out, HB3.out⟩
      case measure => have := HJ.out; omega
    · have ej : j = N := by omega
      subst ej
      go_wp2_with fail
      refine (HN.out _).mono ?_
      rintro e w2 ⟨rfl, hb2⟩
      have HB2 : Hid (Below W0.heap.size W0 w2) := HBr.out.trans (hb2.mono HBr.out.size)
      clear hb2 x0 x1 x2 x3 x4
      obtain ⟨x0, x1, x2, x3, x4⟩ := HX0.out w2 HB2.out
      have HFB : Hid (Below w.heap.size w w2) := HW0B.out.trans (HB2.out.mono HW0B.out.size)
      go_wp2_with fail
      go_ret2
      exact ⟨by rw [HXE.out]; try rfl, HFB.out⟩
set_option maxRecDepth 100000 in
set_option maxHeartbeats 8000000 in
theorem l7L_num (i a q N b o cap L b' o' C V : Nat) (kt ktn : Int) (is : ByteArray) (Y : Nat → Nat) (E : Nat → List UInt8) (w : World) (hi : i ≤ 20) (hN : N ≤ 20) (hn : isNk kt = true) (ha : a + 1 < L) (hL : L ≤ cap) (hcap : cap ≤ maxLen) (hq : q < V) (hV : V ≤ C) (hC : C ≤ maxLen) (hV2 : V ≤ 1048577)
    (hE : ∀ j, j < N → (E j).length ≤ 60000) (hET : (catE E N).length ≤ 60000) (hY0 : Y 0 = q + 1) (hY : ∀ j, j ≤ N → Y j ≤ 1048577)
    (hbl : b < w.heap.size) (hbl' : b' < w.heap.size) (c0 : w.cell? ⟨b, o + (a + 1) * 2, none⟩ = some (.int .i64 kt)) (c1 : w.cell? ⟨b, o + (a + 1) * 2 + 1, none⟩ = some (.int .i64 ktn)) (i0 : w.cell? ⟨b', o' + q * 3, none⟩ = some (.int .i64 5)) (i1 : w.cell? ⟨b', o' + q * 3 + 1, none⟩ = some (.int .u64 N)) (i2 : w.cell? ⟨b', o' + q * 3 + 2, none⟩ = some (.string is))
    (hB : ∀ j, j < N → ∀ w', Below w.heap.size w w' → Calls Tryd.prog 60 #[.slice (some ⟨b, o, none⟩) L cap, .int .i64 ((a : Int) + 1), .slice (some ⟨b', o', none⟩) V C, .int .i64 (Y j)] w' fun e w'' => e = .returned (.tuple #[.string ⟨(bdL kt (E j)).toArray⟩, .int .i64 (Y (j + 1))]) ∧ Below w'.heap.size w' w'') :
    Calls Tryd.prog 44 #[.slice (some ⟨b, o, none⟩) L cap, .int .i64 a, .slice (some ⟨b', o', none⟩) V C, .int .i64 q, .int .i64 i] w fun e w' => e = .returned (.tuple #[.string ⟨(if N = 0 then [] else prP i 5 (catE E N)).toArray⟩, .int .i64 (Y N)]) ∧ Below w.heap.size w w' := by
  obtain ⟨A, hA⟩ : ∃ A : Nat, A = a + 1 := ⟨_, rfl⟩
  have hAi : (a : Int) + 1 = (A : Int) := by omega
  rw [← hA] at c0 c1 ha
  rw [hAi] at hB
  have ha' : a < L := by omega
  clear hA
  obtain ⟨W0, hW0⟩ : ∃ W0, W0 = (w.alloc (.cells #[.int .i64 5, .int .u64 N, .string is] 42)).alloc (.cells #[.int .i64 kt, .int .i64 ktn] 40) := ⟨_, rfl⟩
  have hWs : W0.heap.size = w.heap.size + 2 := by rw [hW0]; simp
  have HW0B : Hid (Below w.heap.size w W0) := by show Below _ _ _; rw [hW0]; exact bel2 _ _ _
  have HX0 : Hid (∀ w', Below W0.heap.size W0 w' → w'.cell? ⟨w.heap.size, 0, none⟩ = some (.int .i64 5) ∧ w'.cell? ⟨w.heap.size, 1, none⟩ = some (.int .u64 N) ∧ w'.cell? ⟨w.heap.size, 2, none⟩ = some (.string is) ∧ w'.cell? ⟨w.heap.size + 1, 0, none⟩ = some (.int .i64 kt) ∧ w'.cell? ⟨w.heap.size + 1, 1, none⟩ = some (.int .i64 ktn)) := fun w' hb => by
    refine ⟨cell_b ?_ (by omega) hb, cell_b ?_ (by omega) hb, cell_b ?_ (by omega) hb, cell_b ?_ (by omega) hb, cell_b ?_ (by omega) hb⟩ <;> rw [hW0] <;> simp [go_sem]
  have HB : Hid (∀ j, j < N → ∀ w', Below w.heap.size w w' → Calls Tryd.prog 60 #[.slice (some ⟨b, o, none⟩) L cap, .int .i64 (A : Int), .slice (some ⟨b', o', none⟩) V C, .int .i64 (Y j)] w' fun e w'' => e = .returned (.tuple #[.string ⟨(bdL kt (E j)).toArray⟩, .int .i64 (Y (j + 1))]) ∧ Below w'.heap.size w' w'') := hB
  have HN : Hid (∀ w, Calls Tryd.prog 61 #[.agg #[.int .i64 kt, .int .i64 ktn]] w fun e w' => e = .returned (.bool true) ∧ Below w.heap.size w w') := fun w => by have := l7Number_any kt ktn w; rwa [hn] at this
  have HDl : Hid (∀ j, j < N → ByteArray.size ⟨(bdL kt (E j)).toArray⟩ ≤ 60011) := fun j hj => by rw [ba_ph]; have h1 := hE j hj; have h2 := bdL_len kt (E j); omega
  obtain ⟨G, hG⟩ : ∃ G : Nat → List UInt8, G = E := ⟨_, rfl⟩
  have HGE : Hid (∀ j, G j = bdL kt (E j)) := fun j => by rw [hG]; unfold bdL; rw [hn]; rfl
  have HGG : Hid (∀ j, j < N → (G j).length ≤ 60040) := fun j hj => by rw [hG]; have h1 := hE j hj; omega
  have HGT : Hid ((catE G N).length ≤ 60000) := by rw [hG]; exact hET
  rw [← hG]
  clear hG
  have HY : Hid (∀ j, j ≤ N → Y j ≤ 1048577) := hY
  have HY0 : Hid (Y 0 = q + 1) := hY0
  have HWE : Hid (W0 = (w.alloc (.cells #[.int .i64 5, .int .u64 N, .string is] 42)).alloc (.cells #[.int .i64 kt, .int .i64 ktn] 40)) := hW0
  have hq2 : q ≤ 1048577 := by omega
  unfold maxLen at hcap hC
  have HGl : Hid (∀ j, j ≤ N → ByteArray.size ⟨(catE G j).toArray⟩ ≤ 1300000) := fun j hj => by
    rw [ba_ph]
    have h1 := catE_len (E := G) (L := 60040) HGG.out j hj
    have h2 : j * 60040 ≤ 20 * 60040 := Nat.mul_le_mul_right _ (by omega)
    omega
  clear hB hE hY hY0 hW0 hn hET
  go_enter Tryd.func44, Tryd.ntmps44
  go_wp2_with fail
  go_loopg [3, 16, 17] N (fun gk x o n wr => ∃ (j : Nat) (X : ByteArray), j + gk = N ∧ n = .int .u64 j ∧ x = .int .i64 (Y j) ∧ o = .string X ∧ X = ⟨(catE G j).toArray⟩ ∧ Below W0.heap.size W0 wr)
  case atStart => exact ⟨0, ⟨#[]⟩, by omega, rfl, by rw [HY0.out]; go_num, rfl, rfl, by rw [HWE.out]; exact Below.refl _ _⟩
  case round =>
    obtain ⟨j, X, hj', rfl, rfl, rfl, hX, hb⟩ := hrel
    have HJ : Hid (j + gk = N) := hj'
    have HXE : Hid (X = ⟨(catE G j).toArray⟩) := hX
    have HBr : Hid (Below W0.heap.size W0 wr) := hb
    have HBw : Hid (Below w.heap.size w wr) := HW0B.out.trans (hb.mono HW0B.out.size)
    have hj : j ≤ N := by omega
    have hXs : X.size ≤ 1300000 := by rw [hX]; exact HGl.out j hj
    have hyj := HY.out j hj
    have hH : w.heap.size + 2 ≤ wr.heap.size := by have := hb.size; omega
    obtain ⟨x0, x1, x2, x3, x4⟩ := HX0.out wr hb
    clear hj' hX hb
    by_cases hjN : j < N
    · have HBj := HB.out j hjN wr HBw.out
      have hDs := HDl.out j hjN
      have hyj1 := HY.out (j + 1) (by omega)
      have HCS : Hid (catE G (j + 1) = catE G j ++ G j) := rfl
      obtain ⟨D, hD⟩ : ∃ D : ByteArray, (⟨(bdL kt (E j)).toArray⟩ : ByteArray) = D := ⟨_, rfl⟩
      have HDE : Hid ((⟨(bdL kt (E j)).toArray⟩ : ByteArray) = D) := hD
      obtain ⟨y', hy'⟩ : ∃ y', Y (j + 1) = y' := ⟨_, rfl⟩
      have HYE : Hid (Y (j + 1) = y') := hy'
      rw [hD, hy'] at HBj
      rw [hD] at hDs
      rw [hy'] at hyj1
      obtain ⟨y, hy⟩ : ∃ y, Y j = y := ⟨_, rfl⟩
      rw [hy] at HBj hyj ⊢
      have HBJ : Hid (Calls Tryd.prog 60 #[.slice (some ⟨b, o, none⟩) L cap, .int .i64 (A : Int), .slice (some ⟨b', o', none⟩) V C, .int .i64 y] wr fun e w'' => e = .returned (.tuple #[.string D, .int .i64 y']) ∧ Below wr.heap.size wr w'') := HBj
      clear HBj hD hy' hy
      go_wp2_with fail
      refine HBJ.out.mono ?_
      rintro e w1 ⟨rfl, hb1⟩
      have HB1 : Hid (Below W0.heap.size W0 w1) := HBr.out.trans (hb1.mono HBr.out.size)
      clear hb1 x0 x1 x2 x3 x4
      obtain ⟨x0, x1, x2, x3, x4⟩ := HX0.out w1 HB1.out
      go_wp2_with fail
      refine (HN.out _).mono ?_
      rintro e w2 ⟨rfl, hb2⟩
      have HB2 : Hid (Below W0.heap.size W0 w2) := HB1.out.trans (hb2.mono HB1.out.size)
      clear hb2 x0 x1 x2 x3 x4
      obtain ⟨x0, x1, x2, x3, x4⟩ := HX0.out w2 HB2.out
      have HXN : Hid (X ++ D = ⟨(catE G (j + 1)).toArray⟩) := by
        show _ = _
        rw [HCS.out, HGE.out, HXE.out, ← HDE.out, cat_list]
      go_wp2_with fail
      go_roundg (gk - 1)
      case rel => exact ⟨j + 1, X ++ D, by have := HJ.out; omega, by go_num, by rw [HYE.out], rfl, HXN.out, HB2.out⟩
      case measure => have := HJ.out; omega
    · have ej : j = N := by omega
      subst ej
      go_wp2_with fail
      refine (HN.out _).mono ?_
      rintro e w2 ⟨rfl, hb2⟩
      have HB2 : Hid (Below W0.heap.size W0 w2) := HBr.out.trans (hb2.mono HBr.out.size)
      clear hb2 x0 x1 x2 x3 x4
      obtain ⟨x0, x1, x2, x3, x4⟩ := HX0.out w2 HB2.out
      by_cases h0 : j = 0
      · subst h0
        have hXz : X = ⟨#[]⟩ := HXE.out
        have HFB : Hid (Below w.heap.size w w2) := HW0B.out.trans (HB2.out.mono HW0B.out.size)
        go_wp2_with fail
        go_ret2
        exact ⟨by first | rfl | (rw [hXz]; rfl), HFB.out⟩
      · have h0i : decide ((0 : Int) < (j : Int)) = true := by simp; omega
        have HP : Hid (∀ w, Calls Tryd.prog 63 #[.int .u64 (8 * ((i : Int) + 1) + 2)] w fun e w' => e = .returned (.string ⟨(putVar (tgN i 5)).toArray⟩) ∧ Below w.heap.size w w') := fun w => by
          have := specPutVarint_any (tgN i 5) w (by unfold tgN; split <;> omega)
          rwa [show ((tgN i 5 : Nat) : Int) = 8 * ((i : Int) + 1) + 2 by simp [tgN, isNk]] at this
        have HL : Hid (∀ w, Calls Tryd.prog 64 #[.string X] w fun e w' => e = .returned (.string ⟨(putVar (catE G j).length ++ catE G j).toArray⟩) ∧ Below w.heap.size w w') := fun w => by
          rw [HXE.out]
          refine l7Long_any _ w ?_
          have := HGT.out
          omega
        have hs1 : ByteArray.size ⟨(putVar (tgN i 5)).toArray⟩ ≤ 11 := by rw [ba_ph]; exact putVar_len _
        have hs2 : ByteArray.size ⟨(putVar (catE G j).length ++ catE G j).toArray⟩ ≤ 1300011 := by
          have h1 := HGl.out j (Nat.le_refl _)
          have h2 := putVar_len (catE G j).length
          rw [ba_ph] at h1 ⊢
          rw [List.length_append]; omega
        have HRR : Hid ((⟨(putVar (tgN i 5)).toArray⟩ : ByteArray) ++ ⟨(putVar (catE G j).length ++ catE G j).toArray⟩ = ⟨(prP i 5 (catE G j)).toArray⟩) := by
          show _ = _
          rw [cat_list]; rfl
        obtain ⟨D1, hD1⟩ : ∃ D : ByteArray, (⟨(putVar (tgN i 5)).toArray⟩ : ByteArray) = D := ⟨_, rfl⟩
        obtain ⟨D2, hD2⟩ : ∃ D : ByteArray, (⟨(putVar (catE G j).length ++ catE G j).toArray⟩ : ByteArray) = D := ⟨_, rfl⟩
        rw [hD1] at HP hs1 HRR
        rw [hD2] at HL hs2 HRR
        clear hD1 hD2
        go_wp2_with fail
        refine (HP.out _).mono ?_
        rintro e w4 ⟨rfl, hb4⟩
        have HB4 : Hid (Below W0.heap.size W0 w4) := HB2.out.trans (hb4.mono HB2.out.size)
        clear hb4 x0 x1 x2 x3 x4
        go_wp2_with fail
        refine (HL.out _).mono ?_
        rintro e w5 ⟨rfl, hb5⟩
        have HB5 : Hid (Below W0.heap.size W0 w5) := HB4.out.trans (hb5.mono HB4.out.size)
        have HFB : Hid (Below w.heap.size w w5) := HW0B.out.trans (HB5.out.mono HW0B.out.size)
        clear hb5
        go_wp2_with fail
        go_ret2
        exact ⟨by first | exact congrArg (fun s => Ending.returned (.tuple #[.string s, .int .i64 (Y j)])) HRR.out, HFB.out⟩
end Go.Proofs.YtocealohiflheaaDoor
namespace Go.Proofs.YtocealohiflheaaDoor
open Go.RowKit Go.Sort
set_option linter.unusedVariables false
def F7Hyp (ts : List (Int × Int)) (vs : List It) (f : Nat) : Prop := ∀ (i a q q' e0 : Nat) (vt vv : Value) (w : World), i ≤ 20 → f ≤ 7 → en ts f a = some e0 → ve ts vs f a q = some q' → fdB ts (pm ts f) a = true → IsTyps w.heap.size w vt ts → IsItems w.heap.size w vv vs →
  Calls Tryd.prog 44 #[vt, .int .i64 a, vv, .int .i64 q, .int .i64 i] w fun e w' => e = .returned (.tuple #[.string ⟨(prX ts vs f (some i) a q).toArray⟩, .int .i64 q']) ∧ Below w.heap.size w w'
set_option maxHeartbeats 4000000 in
theorem l7Field_of (ts : List (Int × Int)) (vs : List It) (hl : vs.length ≤ 200) (f : Nat) (hB1 : B7Hyp ts vs (f + 1)) (hB0 : B7Hyp ts vs f) : F7Hyp ts vs (f + 1) := by
  intro i a q q' e0 vt vv w hi hf7 he hv hp hT hI
  have hen := he
  have hve := hv
  obtain ⟨ha, hok, hit⟩ := en_inv he
  obtain ⟨_, hq, hfit, hvit⟩ := ve_inv hv
  obtain ⟨b, o, cap, rfl, hbl, h1, h2, c0, c1⟩ := hT.at ha
  obtain ⟨b', o', C, rfl, hbl', h1', h2', i0, i1, i2⟩ := hI.at hq
  have hst := hT.small
  obtain ⟨_, _, _, hsm, _, _, hwf⟩ := hI.form
  obtain ⟨wk, wn, ws⟩ := hwf vs[q] (List.getElem_mem hq)
  have hf' : vs[q].k = ts[a].1 ∧ fitsN ts[a].1 ts[a].2 vs[q].n = true ∧ fitsS ts[a].1 ts[a].2 vs[q].s.size = true := by simpa [fitsI] using hfit
  have hle := prX_le hl none hen hve
  rw [fdB_ok ha] at hp
  rw [hf'.1] at i0
  rw [prX_some ha hq]
  have hkk : ts[a].1 = 1 ∨ ts[a].1 = 2 ∨ ts[a].1 = 3 ∨ ts[a].1 = 4 ∨ ts[a].1 = 5 ∨ ts[a].1 = 6 ∨ ts[a].1 = 7 ∨ ts[a].1 = 8 ∨ ts[a].1 = 9 := by
    have := hok
    simp only [tyOk, decide_eq_true_eq] at this
    omega
  by_cases h58 : ts[a].1 = 5 ∨ ts[a].1 = 8
  · rw [if_pos h58] at hp
    have hec := en_child hen ha h58
    have ha1 : a + 1 < ts.length := by have := (en_lt hec).1; have := (en_lt hec).2; omega
    have hnp : np ts[a].1 vs[q].n = vs[q].n := by unfold np; rw [if_pos (by omega)]
    have h20 := np_le hok hf'.2.1
    rw [hnp] at hvit h20
    have hpl : ∀ j, pl ts f a ts[a].1 vs[q].n j = a + 1 := fun j => by unfold pl; rw [if_neg (by omega), if_neg (by omega)]
    have hpart : ∀ j, j < vs[q].n → ∃ y y', vit (ve ts vs f) (pl ts f a ts[a].1 vs[q].n) (q + 1) j = some y ∧ vit (ve ts vs f) (pl ts f a ts[a].1 vs[q].n) (q + 1) (j + 1) = some y' ∧ ve ts vs f (a + 1) y = some y' ∧ (prX ts vs f none (a + 1) y).length ≤ 60000 := fun j hj => by
      obtain ⟨y, hy⟩ := vit_part hvit (show j ≤ vs[q].n by omega)
      obtain ⟨y', hy'⟩ := vit_part hvit (show j + 1 ≤ vs[q].n by omega)
      have h := hy'
      rw [vit_succ, hy] at h
      have h' : ve ts vs f (pl ts f a ts[a].1 vs[q].n j) y = some y' := h
      rw [hpl] at h'
      exact ⟨y, y', hy, hy', h', prX_le hl none hec h'⟩
    have hpp : ppB ts (pm ts f) (a + 1) = true := by
      rw [ppB_ok ha1] at hp ⊢
      rw [← pm_up hec]; exact hp
    obtain ⟨b2, o2, cap2, e2, _, _, _, c2, c3⟩ := hT.at ha1
    cases e2
    obtain ⟨Y, hY⟩ : ∃ Y : Nat → Nat, Y = fun j => (vit (ve ts vs f) (pl ts f a ts[a].1 vs[q].n) (q + 1) j).getD 0 := ⟨_, rfl⟩
    obtain ⟨E, hE⟩ : ∃ E : Nat → List UInt8, E = fun j => prX ts vs f none (a + 1) (Y j) := ⟨_, rfl⟩
    have hYN : Y vs[q].n = q' := by rw [hY]; simp only [hvit, Option.getD_some]
    have hY0 : Y 0 = q + 1 := by rw [hY]; rfl
    have hYl : ∀ j, j ≤ vs[q].n → Y j ≤ 1048577 := fun j hj => by
      obtain ⟨y, hy⟩ := vit_part hvit hj
      have := (vit_lt (show q + 1 ≤ vs.length by omega) hy).2
      rw [hY]; simp only [hy, Option.getD_some]; omega
    have hEl : ∀ j, j < vs[q].n → (E j).length ≤ 60000 := fun j hj => by
      obtain ⟨y, y', hy, hy', hv', hlen⟩ := hpart j hj
      rw [hE, hY]; simp only [hy, Option.getD_some]; exact hlen
    have hEE : (fun j => prX ts vs f none (pl ts f a ts[a].1 vs[q].n j) ((vit (ve ts vs f) (pl ts f a ts[a].1 vs[q].n) (q + 1) j).getD 0)) = E := by
      funext j
      rw [hE, hY, hpl]
    have hBd : ∀ j, j < vs[q].n → ∀ w', Below w.heap.size w w' → Calls Tryd.prog 60 #[.slice (some ⟨b, o, none⟩) ts.length cap, .int .i64 ((a : Int) + 1), .slice (some ⟨b', o', none⟩) vs.length C, .int .i64 (Y j)] w' fun e w'' => e = .returned (.tuple #[.string ⟨(bdL ts[a + 1].1 (E j)).toArray⟩, .int .i64 (Y (j + 1))]) ∧ Below w'.heap.size w' w'' := fun j hj w' hb => by
      obtain ⟨y, y', hy, hy', hv', hlen⟩ := hpart j hj
      have := hB0 (a + 1) y y' e0 _ _ w' (by omega) hec hv' hpp ((hT.below hb).up hb.size) ((hI.below hb).up hb.size)
      rw [knd_ok ha1] at this
      have e1 : Y j = y := by rw [hY]; simp only [hy, Option.getD_some]
      have e2 : Y (j + 1) = y' := by rw [hY]; simp only [hy', Option.getD_some]
      have e3 : E j = prX ts vs f none (a + 1) y := by rw [hE]; simp only [e1]
      rw [e1, e2, e3]
      rwa [show (((a + 1 : Nat) : Nat) : Int) = (a : Int) + 1 by omega] at this
    rw [knd_ok ha1, hnp]
    have hGG : (fun j => prP i ts[a + 1].1 (prX ts vs f none (pl ts f a ts[a].1 vs[q].n j) ((vit (ve ts vs f) (pl ts f a ts[a].1 vs[q].n) (q + 1) j).getD 0))) = fun j => prP i ts[a + 1].1 (E j) := by
      funext j
      rw [hE, hY, hpl]
    rw [hGG]
    rcases h58 with h5 | h8
    · rw [h5] at i0
      cases hk : isNk ts[a + 1].1 with
      | true =>
        have e1 : eachK ts[a].1 ts[a + 1].1 = false := by rw [h5, show eachK 5 ts[a + 1].1 = !isNk ts[a + 1].1 from rfl, hk]; rfl
        have hW : prX ts vs (f + 1) none a q = catE E vs[q].n := by
          rw [prX_none ha hq]
          unfold prW
          rw [if_neg (by omega), if_neg (by omega), if_neg (by omega), if_pos (by omega), hnp, hEE]
        have hs0 : vs[q].s.size = 0 := by
          have h := hf'.2.2
          unfold fitsS at h
          rw [if_neg (by omega), if_neg (by omega)] at h
          exact of_decide_eq_true h
        have := l7L_num i a q vs[q].n b o cap ts.length b' o' C vs.length ts[a + 1].1 ts[a + 1].2 vs[q].s Y E w hi h20 hk ha1 h1 h2 hq h1' h2' hsm hEl (by rw [← hW]; exact hle) hY0 hYl hbl hbl' c2 c3 i0 i1 i2 hBd
        rw [hYN] at this
        rw [e1, hW]
        have e2 : (if (decide (ts[a].1 = 5 ∨ ts[a].1 ≤ 3) && isNo vs[q]) = true then [] else prP i ts[a].1 (catE E vs[q].n)) = if vs[q].n = 0 then [] else prP i 5 (catE E vs[q].n) := by
          rw [decide_eq_true (.inl h5), Bool.true_and, h5]
          unfold isNo
          rw [hs0]
          by_cases hn0 : vs[q].n = 0
          · simp [hn0]
          · simp [hn0]
        rw [if_neg (by decide), e2]
        exact this
      | false =>
        have e1 : eachK ts[a].1 ts[a + 1].1 = true := by rw [h5, show eachK 5 ts[a + 1].1 = !isNk ts[a + 1].1 from rfl, hk]; rfl
        have := l7L_each i a q vs[q].n b o cap ts.length b' o' C vs.length ts[a + 1].1 ts[a + 1].2 vs[q].s Y E w hi h20 hk ha1 h1 h2 hq h1' h2' hsm hEl hY0 hYl hbl hbl' c2 c3 i0 i1 i2 hBd
        rw [hYN] at this
        rw [if_pos e1]
        exact this
    · rw [h8] at i0
      have e1 : eachK ts[a].1 ts[a + 1].1 = true := by rw [h8]; rfl
      rw [if_pos e1]
      cases hk : isNk ts[a + 1].1 with
      | true =>
        have := l7L_optn i a q vs[q].n b o cap ts.length b' o' C vs.length ts[a + 1].1 ts[a + 1].2 vs[q].s Y E w hi h20 hk ha1 h1 h2 hq h1' h2' hsm hEl hY0 hYl hbl hbl' c2 c3 i0 i1 i2 hBd
        rw [hYN] at this
        exact this
      | false =>
        have := l7L_optx i a q vs[q].n b o cap ts.length b' o' C vs.length ts[a + 1].1 ts[a + 1].2 vs[q].s Y E w hi h20 hk ha1 h1 h2 hq h1' h2' hsm hEl hY0 hYl hbl hbl' c2 c3 i0 i1 i2 hBd
        rw [hYN] at this
        exact this
  · rw [if_neg h58] at hp
    have hk5 : ts[a].1 ≠ 5 := fun h => h58 (.inl h)
    have hk8 : ts[a].1 ≠ 8 := fun h => h58 (.inr h)
    have hk17 : ts[a].1 = 1 ∨ ts[a].1 = 2 ∨ ts[a].1 = 3 ∨ ts[a].1 = 4 ∨ ts[a].1 = 7 := by
      rw [ppB_ok ha] at hp
      simp only [Bool.or_eq_true, decide_eq_true_eq] at hp
      rcases hp with h | h
      · have := hok
        simp only [tyOk, decide_eq_true_eq] at this
        unfold kids at h
        split at h
        · omega
        · split at h <;> omega
      · have := pm_kind ha h; omega
    have e1 : eachK ts[a].1 (knd ts (a + 1)) = false := by rcases hk17 with h | h | h | h | h <;> rw [h] <;> rfl
    rw [if_neg (by rw [e1]; decide)]
    have hBd : ∀ w', Below w.heap.size w w' → Calls Tryd.prog 60 #[.slice (some ⟨b, o, none⟩) ts.length cap, .int .i64 a, .slice (some ⟨b', o', none⟩) vs.length C, .int .i64 q] w' fun e w'' => e = .returned (.tuple #[.string ⟨(bdL ts[a].1 (prX ts vs (f + 1) none a q)).toArray⟩, .int .i64 q']) ∧ Below w'.heap.size w' w'' := fun w' hb => by
      have := hB1 a q q' e0 _ _ w' hf7 hen hve hp ((hT.below hb).up hb.size) ((hI.below hb).up hb.size)
      rwa [knd_ok ha] at this
    have hTg : ∀ w, Calls Tryd.prog 62 #[.int .i64 i, .agg #[.int .i64 ts[a].1, .int .i64 ts[a].2]] w fun e w' => e = .returned (.string ⟨(putVar (tgN i ts[a].1)).toArray⟩) ∧ Below w.heap.size w w' := fun w => l7Tag_any i _ _ w hi
    have hXs : ByteArray.size ⟨(bdL ts[a].1 (prX ts vs (f + 1) none a q)).toArray⟩ ≤ 100000 := by rw [ba_ph]; have := bdL_len ts[a].1 (prX ts vs (f + 1) none a q); omega
    have hTs : ByteArray.size ⟨(putVar (tgN i ts[a].1)).toArray⟩ ≤ 100 := by rw [ba_ph]; have := putVar_len (tgN i ts[a].1); omega
    have hcat : (⟨(putVar (tgN i ts[a].1)).toArray⟩ : ByteArray) ++ ⟨(bdL ts[a].1 (prX ts vs (f + 1) none a q)).toArray⟩ = ⟨(prP i ts[a].1 (prX ts vs (f + 1) none a q)).toArray⟩ := by rw [cat_list, prP_bd]
    by_cases h12 : ts[a].1 = 1 ∨ ts[a].1 = 2
    · have hn : isNk ts[a].1 = true := decide_eq_true h12
      have hs0 : vs[q].s.size = 0 := by
        have h := hf'.2.2
        unfold fitsS at h
        rw [if_neg (by omega), if_neg (by omega)] at h
        exact of_decide_eq_true h
      by_cases hm : vs[q].n = 0
      · have e2 : (decide (ts[a].1 = 5 ∨ ts[a].1 ≤ 3) && isNo vs[q]) = true := by rw [decide_eq_true (by omega)]; unfold isNo; rw [hs0, hm]; rfl
        rw [if_pos e2]
        exact l7F_n0 i a q q' b o cap ts.length b' o' C vs.length ts[a].1 ts[a].2 vs[q].n vs[q].s _ _ w hk5 hk8 ha h1 h2 hq h1' h2' hXs hTs wn hn hm hbl hbl' c0 c1 i0 i1 i2 hBd hTg
      · have e2 : (decide (ts[a].1 = 5 ∨ ts[a].1 ≤ 3) && isNo vs[q]) = false := by rw [decide_eq_true (by omega)]; unfold isNo; rw [decide_eq_false hm]; rfl
        rw [if_neg (by rw [e2]; decide), ← hcat]
        exact l7F_n1 i a q q' b o cap ts.length b' o' C vs.length ts[a].1 ts[a].2 vs[q].n vs[q].s _ _ w hk5 hk8 ha h1 h2 hq h1' h2' hXs hTs wn hn (by omega) hm hbl hbl' c0 c1 i0 i1 i2 hBd hTg
    · have hn : isNk ts[a].1 = false := isNk_not h12
      by_cases h3 : ts[a].1 = 3
      · have hn0 : vs[q].n = 0 := by
          have h := hf'.2.1
          unfold fitsN at h
          rw [if_neg (by omega), if_neg (by omega), if_neg (by omega), if_neg (by omega), if_neg (by omega)] at h
          exact of_decide_eq_true h
        by_cases hz : vs[q].s.size = 0
        · have e2 : (decide (ts[a].1 = 5 ∨ ts[a].1 ≤ 3) && isNo vs[q]) = true := by rw [decide_eq_true (by omega)]; unfold isNo; rw [hz, hn0]; rfl
          rw [if_pos e2]
          exact l7F_b0 i a q q' b o cap ts.length b' o' C vs.length ts[a].1 ts[a].2 vs[q].n vs[q].s _ _ w hk5 hk8 ha h1 h2 hq h1' h2' hXs hTs wn hn h3 hz hbl hbl' c0 c1 i0 i1 i2 hBd hTg
        · have e2 : (decide (ts[a].1 = 5 ∨ ts[a].1 ≤ 3) && isNo vs[q]) = false := by rw [decide_eq_true (by omega)]; unfold isNo; rw [decide_eq_false hz]; simp
          rw [if_neg (by rw [e2]; decide), ← hcat]
          exact l7F_b1 i a q q' b o cap ts.length b' o' C vs.length ts[a].1 ts[a].2 vs[q].n vs[q].s _ _ w hk5 hk8 ha h1 h2 hq h1' h2' hXs hTs wn hn h3 hz hbl hbl' c0 c1 i0 i1 i2 hBd hTg
      · have e2 : (decide (ts[a].1 = 5 ∨ ts[a].1 ≤ 3) && isNo vs[q]) = false := by rw [decide_eq_false (by omega)]; rfl
        rw [if_neg (by rw [e2]; decide), ← hcat]
        exact l7F_x1 i a q q' b o cap ts.length b' o' C vs.length ts[a].1 ts[a].2 vs[q].n vs[q].s _ _ w hk5 hk8 ha h1 h2 hq h1' h2' hXs hTs wn hn h3 hbl hbl' c0 c1 i0 i1 i2 hBd hTg
end Go.Proofs.YtocealohiflheaaDoor
