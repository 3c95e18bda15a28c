/- Whatever its arguments, laws.FnRlp returns true and leaves them, and the table that it reads, as they were; the table starts as the program's text lays it. -/
import Derived.Test.YtdncnjmlicdamaaGreatDoorCards
import Derived.Test.YtdncnjmlicdamaaGreatDoorTie
import Derived.Test.YtdncnjmlicdamaaGreatDoorRDp
import Derived.Test.YtdncnjmlicdamaaGreatDoorRDi
import Derived.Test.YtdncnjmlicdamaaGreatDoorS8e
import Derived.Test.YtdncnjmlicdamaaGreatDoorDrawRl
import Derived.Test.YtdncnjmlicdamaaGreatDoorSRj
import Derived.Test.YtdncnjmlicdamaaGreatDoorS7g
import Derived.SevenTiedAt
namespace Go.Proofs.YtdncnjmlicdamaaGreatDoor.fnRlp
open Go.ChangeShapes Go.WideShapes Go.ChangeAt Go.RowKit
open Go.ChangeMaps (open_string shut_string)
set_option linter.unusedVariables false
theorem big_any (a : Option Addr) (len cap : Nat) (w : World) (hl : len ≤ maxLen) : Calls Tryz.prog 6 #[.slice a len cap] w fun e w' => e = .returned (.bool (decide (1048576 < len))) ∧ w' = w := by
  unfold maxLen at hl
  go_enter Tryz.func6, Tryz.ntmps6
  go_wp2
  go_ret
  exact ⟨ret_b (by simp; omega), rfl⟩
theorem row_len {k : IntKind} {w : World} {a : Option Addr} {len cap : Nat} {zs : List Int} (h : IsRow k w a len cap zs) : len ≤ cap ∧ cap ≤ maxLen := by
  rcases h with ⟨_, rfl, rfl, _⟩ | ⟨x, _, h1, h2, _⟩
  · simp [maxLen]
  · exact ⟨h1, h2⟩
theorem own_sl {w : World} {base e size : Nat} {v : Value} {n : Nat} {xs : List Value} (h : w.ownsRow base e size v n xs) : ∃ ad cap, v = .slice ad n cap := by
  rcases h.2 with ⟨hv, h0⟩ | ⟨g, cap, cur, hv, _⟩
  · exact ⟨none, 0, by rw [hv, h0]⟩
  · exact ⟨_, cap, hv⟩
theorem drawn (B0 : Nat) (a : Option Addr) (len cap : Nat) (w : World) (hB : B0 ≤ w.heap.size) (hc : CodeAt B0 a len w) (hl : len ≤ 1048576) : Calls Tryz.prog 7 #[.slice a len cap] w fun e w' => DrawTPost w e w' := by
  have HC : Hid (Calls Tryz.prog 17 #[.slice a len cap] w fun e w' => DrawTPost w e w') := DrawTyped_any B0 a len cap w hB hc hl
  clear hc
  go_enter Tryz.func7, Tryz.ntmps7
  go_wp2_with fail
  refine Calls.mono HC.out ?_
  rintro e w1 ⟨v, ts, v', vs, rfl, h1, h2, h3, h4, h5, h6, h7⟩
  have HX : Hid (DrawTPost w (.returned (.tuple #[v, v'])) w1) := ⟨v, ts, v', vs, rfl, h1, h2, h3, h4, h5, h6, h7⟩
  clear h1 h2 h3 h4 h5 h6 h7
  go_wp2_with fail
  go_ret2
  exact HX.out

set_option maxRecDepth 100000 in
set_option maxHeartbeats 8000000 in
theorem walk (a0 : Option Addr) (len0 cap0 : Nat) (z0 : List Int) (w : World) (w0 : IsRow .u8 w a0 len0 cap0 z0) (hkr : KR w) (hET : ET w) (hEF : EF w) :
    Calls Tryz.prog 3 #[.slice a0 len0 cap0] w fun e w' => e = .returned (.bool true) ∧ Below w.heap.size w w' := by
  obtain ⟨hlc, hcm⟩ := row_len w0
  have hlm : len0 ≤ maxLen := Nat.le_trans hlc hcm
  by_cases hbig : 1048576 < len0
  · have hd : decide (1048576 < len0) = true := decide_eq_true hbig
    have HB : Hid (∀ w, Calls Tryz.prog 6 #[.slice a0 len0 cap0] w fun e w' => e = .returned (.bool true) ∧ w' = w) := fun w => by have := big_any a0 len0 cap0 w hlm; rwa [hd] at this
    clear w0 hlm hbig hd hkr hET hEF hlc hcm
    go_enter Tryz.func3, Tryz.ntmps3
    go_wp2_with fail
    refine (HB.out _).mono ?_
    rintro e w1 ⟨rfl, rfl⟩
    go_wp2_with fail
    go_ret
    exact ⟨rfl, Below.refl _ _⟩
  · have hd : decide (1048576 < len0) = false := decide_eq_false hbig
    have HB : Hid (∀ w, Calls Tryz.prog 6 #[.slice a0 len0 cap0] w fun e w' => e = .returned (.bool false) ∧ w' = w) := fun w => by have := big_any a0 len0 cap0 w hlm; rwa [hd] at this
    have HCD : Hid (CodeAt w.heap.size a0 len0 w ∧ len0 ≤ 1048576 ∧ len0 ≤ cap0 ∧ cap0 ≤ maxLen) := ⟨w0.code, by omega, hlc, hcm⟩
    have HK : Hid (KR w) := hkr
    have HE : Hid (ET w) := hET
    have HF : Hid (EF w) := hEF
    have HD : Hid (Calls Tryz.prog 7 #[.slice a0 len0 cap0] w fun e w' => DrawTPost w e w') := drawn w.heap.size a0 len0 cap0 w (Nat.le_refl _) w0.code (by omega)
    clear w0 hlm hbig hd hkr hET hEF hlc hcm
    go_enter Tryz.func3, Tryz.ntmps3
    go_wp2_with fail
    refine (HB.out _).mono ?_
    rintro e w1 ⟨rfl, rfl⟩
    go_wp2_with fail
    refine Calls.mono HD.out ?_
    rintro e w2 ⟨v, ts, v', vs, rfl, hot, h41, hwf, hoi, h15, hwi, hb2⟩
    have HT : Hid (IsTyps w2.heap.size w2 v ts) := own_typs hot (by omega) hwf
    have HI : Hid (IsItems w2.heap.size w2 v' vs) := hoi.items (by omega) (wfI_it hwi)
    have HWI : Hid (∀ x ∈ vs, x.s.size ≤ 1000) := fun x hx => (hwi x hx).2.2
    have HWF : Hid (∀ x ∈ vs, inI x.k ∧ x.n < 18446744073709551616 ∧ x.s.size ≤ 1048577) := wfI_it hwi
    have HB2 : Hid (Below w1.heap.size w1 w2) := hb2
    have HE2 : Hid (∀ w', Below w2.heap.size w2 w' → Calls Tryz.prog 8 #[v, v'] w' fun e w'' => e = .returned (.tuple #[.string (encB (typedB ts vs) (rlpL ts vs)), .bool (typedB ts vs)]) ∧ Below w'.heap.size w' w'') := fun w' hb => implRlpEnc_any ts vs v v' w' ((HT.out.below hb).up hb.size) ((HI.out.below hb).up hb.size) (HK.out.below (hb2.trans (hb.mono hb2.size))) (ET.below (B := 0) HE.out (hb2.trans (hb.mono hb2.size)))
    have HS2 : Hid (∀ w', Below w2.heap.size w2 w' → Calls Tryz.prog 9 #[v, v'] w' fun e w'' => e = .returned (.tuple #[.string (encB (typedB ts vs) (rlpL ts vs)), .bool (typedB ts vs)]) ∧ Below w'.heap.size w' w'') := fun w' hb => specRlpEnc_any ts vs v v' w' ((HT.out.below hb).up hb.size) ((HI.out.below hb).up hb.size)
    have HD2 : Hid (∀ w' (D : ByteArray), Below w2.heap.size w2 w' → D.size ≤ 1048576 → Calls Tryz.prog 10 #[v, .string D] w' fun e w'' => DecV (rlR (schOk ts) ts D.data.toList) w' e w'') := fun w' D hb hD => implRlpDec_any ts v D w' ((HT.out.below hb).up hb.size) hD (HK.out.below (hb2.trans (hb.mono hb2.size))) (ET.below (B := 0) HE.out (hb2.trans (hb.mono hb2.size))) (EF.below HF.out (hb2.trans (hb.mono hb2.size)))
    have h15' : vs.length ≤ 1500 := h15
    obtain ⟨ad, cT, rfl⟩ := own_sl hot
    obtain ⟨bd, cI, rfl⟩ := own_sl hoi
    obtain ⟨o, ho⟩ : ∃ o, (typedB ts vs) = o := ⟨_, rfl⟩
    obtain ⟨D, hD⟩ : ∃ D, encB (typedB ts vs) (rlpL ts vs) = D := ⟨_, rfl⟩
    have HO : Hid ((typedB ts vs) = o) := ho
    have HDE : Hid (encB (typedB ts vs) (rlpL ts vs) = D) := hD
    rw [hD, ho] at HE2 HS2
    clear hot hoi hwf hwi hb2 HD HB ho hD h41 h15
    have hqo : (o != o) = false := by cases o <;> rfl
    have hqo' : (o == o) = true := by cases o <;> rfl
    go_wp2_with fail
    refine (HE2.out w2 (Below.refl _ _)).mono ?_
    rintro e w3 ⟨rfl, hb3⟩
    have HB3 : Hid (Below w2.heap.size w2 w3) := hb3
    clear hb3
    go_wp2_with fail
    refine (HS2.out w3 HB3.out).mono ?_
    rintro e w4 ⟨rfl, hb4⟩
    have HB4 : Hid (Below w2.heap.size w2 w4) := HB3.out.trans (hb4.mono HB3.out.size)
    have HI4 : Hid (IsItems w4.heap.size w4 (.slice bd vs.length cI) vs) := (HI.out.below HB4.out).up HB4.out.size
    have HBA : Hid (Below w1.heap.size w1 w4) := HB2.out.trans (HB4.out.mono HB2.out.size)
    clear hb4
    cases o with
    | false =>
      go_wp2_with fail
      go_ret
      exact ⟨rfl, HBA.out⟩
    | true =>
      have HTY : Hid (typedB ts vs = true) := by
        have h := HO.out
        exact h
      have HSK : Hid ((schOk ts) = true) := by
        have h := HO.out
        have h1 := (typ_ve HTY.out).1
        exact h1
      have hDe : (⟨(rlpL ts vs).toArray⟩ : ByteArray) = D := by
        have h := HDE.out
        rw [HO.out] at h
        exact h
      have hDs : D.size ≤ 204000 := by
        rw [← hDe]
        show (⟨(rlE ts vs 7 0 0).toArray⟩ : ByteArray).size ≤ 204000
        rw [ba_len]
        exact rl_small HTY.out
      have HR : Hid (rlR (schOk ts) ts D.data.toList = some vs) := by
        show _ = _
        rw [HSK.out, ← hDe, ba_of]
        exact rlR_put HTY.out
      have HDC : Hid (Calls Tryz.prog 10 #[.slice ad ts.length cT, .string D] w4 fun e w' => DecV (some vs) w4 e w') := by
        have h := HD2.out w4 D HB4.out (by omega)
        rwa [HR.out] at h
      clear hDe
      go_wp2_with fail
      refine Calls.mono HDC.out ?_
      rintro e w5 ⟨⟨v5, rfl, hown⟩, hb5⟩
      have HB5 : Hid (Below w1.heap.size w1 w5) := HBA.out.trans (hb5.mono HBA.out.size)
      have HI5 : Hid (IsItems w5.heap.size w5 (.slice bd vs.length cI) vs) := (HI4.out.below hb5).up hb5.size
      have HV5 : Hid (IsItems w5.heap.size w5 v5 vs) := OwnIt.items hown (by show vs.length ≤ _; omega) HWF.out
      clear hb5 hown
      go_wp2_with fail
      refine (sameItems_any vs _ _ w5 HV5.out HI5.out).mono ?_
      rintro e w6 ⟨rfl, hb6⟩
      have HB6 : Hid (Below w1.heap.size w1 w6) := HB5.out.trans (hb6.mono HB5.out.size)
      clear hb6
      go_wp2_with fail
      go_ret
      exact ⟨rfl, HB6.out⟩
end Go.Proofs.YtdncnjmlicdamaaGreatDoor.fnRlp
