/- Whatever its arguments, laws.FnRlpDec returns true and leaves them, and the table that it reads, as they were; the table starts as the program's text lays it. -/
import Derived.Test.YtdncnjmlicdamaaGreatDoorCards
import Derived.Test.YtdncnjmlicdamaaGreatDoorTie
import Derived.Test.YtdncnjmlicdamaaGreatDoorRDp
import Derived.Test.YtdncnjmlicdamaaGreatDoorRDi
import Derived.Test.YtdncnjmlicdamaaGreatDoorS8e
import Derived.Test.YtdncnjmlicdamaaGreatDoorDrawRl
import Derived.Test.YtdncnjmlicdamaaGreatDoorSRj
import Derived.Test.YtdncnjmlicdamaaGreatDoorS7g
import Derived.SevenTiedAt
namespace Go.Proofs.YtdncnjmlicdamaaGreatDoor.fnRlpDec
open Go.ChangeShapes Go.WideShapes Go.ChangeAt Go.RowKit
open Go.ChangeMaps (open_string shut_string)
set_option linter.unusedVariables false
theorem big_any (a : Option Addr) (len cap : Nat) (w : World) (hl : len ≤ maxLen) : Calls Tryz.prog 6 #[.slice a len cap] w fun e w' => e = .returned (.bool (decide (1048576 < len))) ∧ w' = w := by
  unfold maxLen at hl
  go_enter Tryz.func6, Tryz.ntmps6
  go_wp2
  go_ret
  exact ⟨ret_b (by simp; omega), rfl⟩
theorem row_len {k : IntKind} {w : World} {a : Option Addr} {len cap : Nat} {zs : List Int} (h : IsRow k w a len cap zs) : len ≤ cap ∧ cap ≤ maxLen := by
  rcases h with ⟨_, rfl, rfl, _⟩ | ⟨x, _, h1, h2, _⟩
  · simp [maxLen]
  · exact ⟨h1, h2⟩
theorem own_sl {w : World} {base e size : Nat} {v : Value} {n : Nat} {xs : List Value} (h : w.ownsRow base e size v n xs) : ∃ ad cap, v = .slice ad n cap := by
  rcases h.2 with ⟨hv, h0⟩ | ⟨g, cap, cur, hv, _⟩
  · exact ⟨none, 0, by rw [hv, h0]⟩
  · exact ⟨_, cap, hv⟩

set_option maxRecDepth 100000 in
set_option maxHeartbeats 8000000 in
theorem walk (a0 : Option Addr) (len0 cap0 : Nat) (z0 : List Int) (w : World) (w0 : IsRow .u8 w a0 len0 cap0 z0) (hkr : KR w) (hEF : EF w) (hET : ET w) :
    Calls Tryz.prog 4 #[.slice a0 len0 cap0] w fun e w' => e = .returned (.bool true) ∧ Below w.heap.size w w' := by
  obtain ⟨hlc, hcm⟩ := row_len w0
  have hlm : len0 ≤ maxLen := Nat.le_trans hlc hcm
  by_cases hbig : 1048576 < len0
  · have hd : decide (1048576 < len0) = true := decide_eq_true hbig
    have HB : Hid (∀ w, Calls Tryz.prog 6 #[.slice a0 len0 cap0] w fun e w' => e = .returned (.bool true) ∧ w' = w) := fun w => by have := big_any a0 len0 cap0 w hlm; rwa [hd] at this
    clear w0 hlm hbig hd hkr hET hEF hlc hcm
    go_enter Tryz.func4, Tryz.ntmps4
    go_wp2_with fail
    refine (HB.out _).mono ?_
    rintro e w1 ⟨rfl, rfl⟩
    go_wp2_with fail
    go_ret
    exact ⟨rfl, Below.refl _ _⟩
  · have hd : decide (1048576 < len0) = false := decide_eq_false hbig
    have HB : Hid (∀ w, Calls Tryz.prog 6 #[.slice a0 len0 cap0] w fun e w' => e = .returned (.bool false) ∧ w' = w) := fun w => by have := big_any a0 len0 cap0 w hlm; rwa [hd] at this
    have HCD : Hid (CodeAt w.heap.size a0 len0 w ∧ len0 ≤ 1048576 ∧ len0 ≤ cap0 ∧ cap0 ≤ maxLen) := ⟨w0.code, by omega, hlc, hcm⟩
    have HK : Hid (KR w) := hkr
    have HE : Hid (ET w) := hET
    have HF : Hid (EF w) := hEF
    have HD : Hid (Calls Tryz.prog 12 #[.slice a0 len0 cap0] w fun e w' => DrawSPost w e w') := DrawRlpDec_any w.heap.size a0 len0 cap0 w (Nat.le_refl _) w0.code (by omega)
    clear w0 hlm hbig hd hkr hET hEF hlc hcm
    go_enter Tryz.func4, Tryz.ntmps4
    go_wp2_with fail
    refine (HB.out _).mono ?_
    rintro e w1 ⟨rfl, rfl⟩
    go_wp2_with fail
    refine Calls.mono HD.out ?_
    rintro e w2 ⟨v, ts, D, rfl, hot, h24, hwf, hsch, hDs, hb2⟩
    have HT : Hid (IsTyps w2.heap.size w2 v ts) := own_typs hot (by omega) hwf
    have HB2 : Hid (Below w1.heap.size w1 w2) := hb2
    obtain ⟨R, hR⟩ : ∃ R, rlR (schOk ts) ts D.data.toList = R := ⟨_, rfl⟩
    have HRE : Hid (rlR (schOk ts) ts D.data.toList = R) := hR
    have HSC : Hid ((schOk ts) = true → schOk ts = true) := fun h => by first | exact h | (simp only [Bool.and_eq_true] at h; exact h.1)
    have hRW := rlR_wf (ok := (schOk ts)) (ts := ts) (b := D.data.toList) HSC.out
    rw [hR] at hRW
    have HDI : Hid (∀ w', Below w2.heap.size w2 w' → Calls Tryz.prog 10 #[v, .string D] w' fun e w'' => DecV R w' e w'') := fun w' hb => by rw [← hR]; exact implRlpDec_any ts v D w' ((HT.out.below hb).up hb.size) (by omega) (HK.out.below (hb2.trans (hb.mono hb2.size))) (ET.below (B := 0) HE.out (hb2.trans (hb.mono hb2.size))) (EF.below HF.out (hb2.trans (hb.mono hb2.size)))
    have HDS : Hid (∀ w', Below w2.heap.size w2 w' → Calls Tryz.prog 13 #[v, .string D] w' fun e w'' => DecV R w' e w'') := fun w' hb => by rw [← hR]; exact specRlpDec_any ts v D w' ((HT.out.below hb).up hb.size) (by omega)
    obtain ⟨o, ho⟩ : ∃ o, R.isSome = o := ⟨_, rfl⟩
    obtain ⟨vs, hvs⟩ : ∃ vs, R.getD [] = vs := ⟨_, rfl⟩
    rw [hvs] at hRW
    have HO : Hid (R.isSome = o) := ho
    have HVS : Hid (R.getD [] = vs) := hvs
    have hvl : vs.length ≤ 200 := hRW.1
    have HIT : Hid (∀ (B : Nat) (w' : World) (v : Value), OwnIt B w' v vs → IsItems w'.heap.size w' v vs) := fun B w' v h => h.items (by omega) hRW.2
    obtain ⟨ad, cT, rfl⟩ := own_sl hot
    clear hot hwf hb2 HD HB hR hRW ho hvs h24 hsch
    have hqo : (o != o) = false := by cases o <;> rfl
    have hqo' : (o == o) = true := by cases o <;> rfl
    go_wp2_with fail
    refine (HDI.out w2 (Below.refl _ _)).mono ?_
    rintro e w3 ⟨⟨v3, rfl, hown⟩, hb3⟩
    rw [HO.out]
    rw [HVS.out] at hown
    have HB3 : Hid (Below w2.heap.size w2 w3) := hb3
    have HO3 : Hid (OwnIt w2.heap.size w3 v3 vs) := hown
    clear hb3 hown
    go_wp2_with fail
    refine (HDS.out w3 HB3.out).mono ?_
    rintro e w4 ⟨⟨v4, rfl, hown⟩, hb4⟩
    rw [HO.out]
    rw [HVS.out] at hown
    have HB4 : Hid (Below w2.heap.size w2 w4) := HB3.out.trans (hb4.mono HB3.out.size)
    have HO34 : Hid (OwnIt w2.heap.size w4 v3 vs) := HO3.out.kept hb4
    have HO4 : Hid (OwnIt w3.heap.size w4 v4 vs) := hown
    clear hb4 hown
    obtain ⟨ad3, c3, rfl, q3, q3', _⟩ := HO3.out.form
    obtain ⟨ad4, c4, rfl, q4, q4', _⟩ := HO4.out.form
    unfold maxLen at q3' q4'
    go_wp2_with fail
    refine (sameItems_any vs _ _ w4 (HIT.out _ _ _ HO34.out) (HIT.out _ _ _ HO4.out)).mono ?_
    rintro e w5 ⟨rfl, hb5⟩
    have HB5 : Hid (Below w2.heap.size w2 w5) := HB4.out.trans (hb5.mono HB4.out.size)
    have HO35 : Hid (OwnIt w2.heap.size w5 _ vs) := HO34.out.kept hb5
    have HO45 : Hid (OwnIt w3.heap.size w5 _ vs) := HO4.out.kept hb5
    have HBA : Hid (Below w1.heap.size w1 w5) := HB2.out.trans (HB5.out.mono HB2.out.size)
    clear hb5
    cases o with
    | false =>
      go_wp2_with fail
      refine (sameItems_any vs _ _ w5 (HIT.out _ _ _ HO35.out) (HIT.out _ _ _ HO45.out)).mono ?_
      rintro e w6 ⟨rfl, hb6⟩
      have HB6 : Hid (Below w1.heap.size w1 w6) := HBA.out.trans (hb6.mono HBA.out.size)
      clear hb6
      go_wp2_with fail
      go_ret
      exact ⟨rfl, HB6.out⟩
    | true =>
      obtain ⟨l, rfl⟩ := Option.isSome_iff_exists.1 HO.out
      have hl : l = vs := HVS.out
      subst hl
      obtain ⟨hty, hen⟩ := rlR_back HSC.out HRE.out
      have hok : (schOk ts) = true := (rlR_inv HRE.out).1
      have HIE : Hid (∀ w', Below w5.heap.size w5 w' → IsItems w'.heap.size w' (.slice ad3 l.length c3) l) := fun w' hb => (((HIT.out _ _ _ HO35.out)).below hb).up hb.size
      have HTW : Hid (∀ w', Below w5.heap.size w5 w' → IsTyps w'.heap.size w' (.slice ad ts.length cT) ts ∧ Below w1.heap.size w1 w') := fun w' hb => ⟨(HT.out.below (HB5.out.trans (hb.mono HB5.out.size))).up (by have := HB5.out.size; have := hb.size; omega), HBA.out.trans (hb.mono HBA.out.size)⟩
      have HEN : Hid (Calls Tryz.prog 8 #[.slice ad ts.length cT, .slice ad3 l.length c3] w5 fun e w'' => e = .returned (.tuple #[.string D, .bool true]) ∧ Below w5.heap.size w5 w'') := by
        have h := implRlpEnc_any ts l _ _ w5 (HTW.out w5 (Below.refl _ _)).1 (HIE.out w5 (Below.refl _ _)) (HK.out.below HBA.out) (ET.below (B := 0) HE.out HBA.out)
        have e1 : (typedB ts l) = true := by exact hty
        have e2 : encB (typedB ts l) (rlpL ts l) = D := by
          rw [e1]
          show (⟨(rlE ts l 7 0 0).toArray⟩ : ByteArray) = D
          apply ba_ext
          rw [ba_of]; exact hen
        rw [e2, e1] at h
        exact h
      have HTP : Hid (∀ w', Below w5.heap.size w5 w' → Calls Tryz.prog 14 #[.slice ad ts.length cT, .slice ad3 l.length c3] w' fun e w'' => e = .returned (.bool true) ∧ Below w'.heap.size w' w'') := fun w' hb => by
        have h := implTyped_any ts l _ _ w' (HTW.out w' hb).1 (HIE.out w' hb) (HK.out.below (HTW.out w' hb).2)
        rwa [hty] at h
      clear hty hen hok
      have hDD : (D.toList == D.toList) = true := by simp
      go_wp2_with fail
      refine Calls.mono HEN.out ?_
      rintro e w6 ⟨rfl, hb6⟩
      have HB6 : Hid (Below w5.heap.size w5 w6) := hb6
      clear hb6
      go_wp2_with fail
      refine (HTP.out w6 HB6.out).mono ?_
      rintro e w7 ⟨rfl, hb7⟩
      have HB7 : Hid (Below w1.heap.size w1 w7) := HBA.out.trans ((HB6.out.trans (hb7.mono HB6.out.size)).mono HBA.out.size)
      clear hb7
      go_wp2_with fail
      go_ret
      exact ⟨rfl, HB7.out⟩
end Go.Proofs.YtdncnjmlicdamaaGreatDoor.fnRlpDec
