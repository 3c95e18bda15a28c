/- Whatever its arguments, laws.FnRlpEnds returns true and leaves them, and the table that it reads, as they were; the table starts as the program's text lays it. -/
import Derived.Test.YtdncnjmlicdamaaGreatDoorCards
import Derived.Test.YtdncnjmlicdamaaGreatDoorTie
import Derived.Test.YtdncnjmlicdamaaGreatDoorRDp
import Derived.Test.YtdncnjmlicdamaaGreatDoorRDi
import Derived.Test.YtdncnjmlicdamaaGreatDoorS8e
import Derived.Test.YtdncnjmlicdamaaGreatDoorDrawRl
import Derived.Test.YtdncnjmlicdamaaGreatDoorSRj
import Derived.Test.YtdncnjmlicdamaaGreatDoorS7g
import Derived.SevenTiedAt
namespace Go.Proofs.YtdncnjmlicdamaaGreatDoor.fnRlpEnds
open Go.ChangeShapes Go.WideShapes Go.ChangeAt Go.RowKit
open Go.ChangeMaps (open_string shut_string)
set_option linter.unusedVariables false
theorem big_any (a : Option Addr) (len cap : Nat) (w : World) (hl : len ≤ maxLen) : Calls Tryz.prog 6 #[.slice a len cap] w fun e w' => e = .returned (.bool (decide (1048576 < len))) ∧ w' = w := by
  unfold maxLen at hl
  go_enter Tryz.func6, Tryz.ntmps6
  go_wp2
  go_ret
  exact ⟨ret_b (by simp; omega), rfl⟩
theorem row_len {k : IntKind} {w : World} {a : Option Addr} {len cap : Nat} {zs : List Int} (h : IsRow k w a len cap zs) : len ≤ cap ∧ cap ≤ maxLen := by
  rcases h with ⟨_, rfl, rfl, _⟩ | ⟨x, _, h1, h2, _⟩
  · simp [maxLen]
  · exact ⟨h1, h2⟩
theorem own_sl {w : World} {base e size : Nat} {v : Value} {n : Nat} {xs : List Value} (h : w.ownsRow base e size v n xs) : ∃ ad cap, v = .slice ad n cap := by
  rcases h.2 with ⟨hv, h0⟩ | ⟨g, cap, cur, hv, _⟩
  · exact ⟨none, 0, by rw [hv, h0]⟩
  · exact ⟨_, cap, hv⟩
theorem drawn (B0 : Nat) (a : Option Addr) (len cap : Nat) (w : World) (hB : B0 ≤ w.heap.size) (hc : CodeAt B0 a len w) (hl : len ≤ 1048576) : Calls Tryz.prog 7 #[.slice a len cap] w fun e w' => DrawTPost w e w' := by
  have HC : Hid (Calls Tryz.prog 17 #[.slice a len cap] w fun e w' => DrawTPost w e w') := DrawTyped_any B0 a len cap w hB hc hl
  clear hc
  go_enter Tryz.func7, Tryz.ntmps7
  go_wp2_with fail
  refine Calls.mono HC.out ?_
  rintro e w1 ⟨v, ts, v', vs, rfl, h1, h2, h3, h4, h5, h6, h7⟩
  have HX : Hid (DrawTPost w (.returned (.tuple #[v, v'])) w1) := ⟨v, ts, v', vs, rfl, h1, h2, h3, h4, h5, h6, h7⟩
  clear h1 h2 h3 h4 h5 h6 h7
  go_wp2_with fail
  go_ret2
  exact HX.out

set_option maxRecDepth 100000 in
set_option maxHeartbeats 8000000 in
theorem walk (a0 : Option Addr) (len0 cap0 : Nat) (z0 : List Int) (w : World) (w0 : IsRow .u8 w a0 len0 cap0 z0) (hkr : KR w) (hET : ET w) (hEF : EF w) :
    Calls Tryz.prog 5 #[.slice a0 len0 cap0] w fun e w' => e = .returned (.bool true) ∧ Below w.heap.size w w' := by
  obtain ⟨hlc, hcm⟩ := row_len w0
  have hlm : len0 ≤ maxLen := Nat.le_trans hlc hcm
  by_cases hbig : 1048576 < len0
  · have hd : decide (1048576 < len0) = true := decide_eq_true hbig
    have HB : Hid (∀ w, Calls Tryz.prog 6 #[.slice a0 len0 cap0] w fun e w' => e = .returned (.bool true) ∧ w' = w) := fun w => by have := big_any a0 len0 cap0 w hlm; rwa [hd] at this
    clear w0 hlm hbig hd hkr hET hEF hlc hcm
    go_enter Tryz.func5, Tryz.ntmps5
    go_wp2_with fail
    refine (HB.out _).mono ?_
    rintro e w1 ⟨rfl, rfl⟩
    go_wp2_with fail
    go_ret
    exact ⟨rfl, Below.refl _ _⟩
  · have hd : decide (1048576 < len0) = false := decide_eq_false hbig
    have HB : Hid (∀ w, Calls Tryz.prog 6 #[.slice a0 len0 cap0] w fun e w' => e = .returned (.bool false) ∧ w' = w) := fun w => by have := big_any a0 len0 cap0 w hlm; rwa [hd] at this
    have HCD : Hid (CodeAt w.heap.size a0 len0 w ∧ len0 ≤ 1048576 ∧ len0 ≤ cap0 ∧ cap0 ≤ maxLen) := ⟨w0.code, by omega, hlc, hcm⟩
    have HK : Hid (KR w) := hkr
    have HE : Hid (ET w) := hET
    have HF : Hid (EF w) := hEF
    have HD : Hid (Calls Tryz.prog 7 #[.slice a0 len0 cap0] w fun e w' => DrawTPost w e w') := drawn w.heap.size a0 len0 cap0 w (Nat.le_refl _) w0.code (by omega)
    clear w0 hlm hbig hd hkr hET hEF hlc hcm
    go_enter Tryz.func5, Tryz.ntmps5
    go_wp2_with fail
    refine (HB.out _).mono ?_
    rintro e w1 ⟨rfl, rfl⟩
    go_wp2_with fail
    refine Calls.mono HD.out ?_
    rintro e w2 ⟨v, ts, v', vs, rfl, hot, h41, hwf, hoi, h15, hwi, hb2⟩
    have HT : Hid (IsTyps w2.heap.size w2 v ts) := own_typs hot (by omega) hwf
    have HI : Hid (IsItems w2.heap.size w2 v' vs) := hoi.items (by omega) (wfI_it hwi)
    have HWI : Hid (∀ x ∈ vs, x.s.size ≤ 1000) := fun x hx => (hwi x hx).2.2
    have HWF : Hid (∀ x ∈ vs, inI x.k ∧ x.n < 18446744073709551616 ∧ x.s.size ≤ 1048577) := wfI_it hwi
    have HB2 : Hid (Below w1.heap.size w1 w2) := hb2
    have HE2 : Hid (∀ w', Below w2.heap.size w2 w' → Calls Tryz.prog 8 #[v, v'] w' fun e w'' => e = .returned (.tuple #[.string (encB (typedB ts vs) (rlpL ts vs)), .bool (typedB ts vs)]) ∧ Below w'.heap.size w' w'') := fun w' hb => implRlpEnc_any ts vs v v' w' ((HT.out.below hb).up hb.size) ((HI.out.below hb).up hb.size) (HK.out.below (hb2.trans (hb.mono hb2.size))) (ET.below (B := 0) HE.out (hb2.trans (hb.mono hb2.size)))
    have HS2 : Hid (∀ w', Below w2.heap.size w2 w' → Calls Tryz.prog 9 #[v, v'] w' fun e w'' => e = .returned (.tuple #[.string (encB (typedB ts vs) (rlpL ts vs)), .bool (typedB ts vs)]) ∧ Below w'.heap.size w' w'') := fun w' hb => specRlpEnc_any ts vs v v' w' ((HT.out.below hb).up hb.size) ((HI.out.below hb).up hb.size)
    have HD2 : Hid (∀ w' (D : ByteArray), Below w2.heap.size w2 w' → D.size ≤ 1048576 → Calls Tryz.prog 10 #[v, .string D] w' fun e w'' => DecV (rlR (schOk ts) ts D.data.toList) w' e w'') := fun w' D hb hD => implRlpDec_any ts v D w' ((HT.out.below hb).up hb.size) hD (HK.out.below (hb2.trans (hb.mono hb2.size))) (ET.below (B := 0) HE.out (hb2.trans (hb.mono hb2.size))) (EF.below HF.out (hb2.trans (hb.mono hb2.size)))
    have h15' : vs.length ≤ 1500 := h15
    obtain ⟨ad, cT, rfl⟩ := own_sl hot
    obtain ⟨bd, cI, rfl⟩ := own_sl hoi
    obtain ⟨o, ho⟩ : ∃ o, (typedB ts vs) = o := ⟨_, rfl⟩
    obtain ⟨D, hD⟩ : ∃ D, encB (typedB ts vs) (rlpL ts vs) = D := ⟨_, rfl⟩
    have HO : Hid ((typedB ts vs) = o) := ho
    have HDE : Hid (encB (typedB ts vs) (rlpL ts vs) = D) := hD
    rw [hD, ho] at HE2 HS2
    clear hot hoi hwf hwi hb2 HD HB ho hD h41 h15
    have hqo : (o != o) = false := by cases o <;> rfl
    have hqo' : (o == o) = true := by cases o <;> rfl
    go_wp2_with fail
    refine (HE2.out w2 (Below.refl _ _)).mono ?_
    rintro e w3 ⟨rfl, hb3⟩
    have HB3 : Hid (Below w2.heap.size w2 w3) := hb3
    clear hb3
    go_wp2_with fail
    refine (HS2.out w3 HB3.out).mono ?_
    rintro e w4 ⟨rfl, hb4⟩
    have HB4 : Hid (Below w2.heap.size w2 w4) := HB3.out.trans (hb4.mono HB3.out.size)
    have HI4 : Hid (IsItems w4.heap.size w4 (.slice bd vs.length cI) vs) := (HI.out.below HB4.out).up HB4.out.size
    have HBA : Hid (Below w1.heap.size w1 w4) := HB2.out.trans (HB4.out.mono HB2.out.size)
    clear hb4
    cases o with
    | false =>
      go_wp2_with fail
      go_ret
      exact ⟨rfl, HBA.out⟩
    | true =>
      have HTY : Hid (typedB ts vs = true) := by
        have h := HO.out
        exact h
      have HSK : Hid ((schOk ts) = true) := by
        have h := HO.out
        have h1 := (typ_ve HTY.out).1
        exact h1
      have hDe : (⟨(rlpL ts vs).toArray⟩ : ByteArray) = D := by
        have h := HDE.out
        rw [HO.out] at h
        exact h
      have hDs : D.size ≤ 204000 := by
        rw [← hDe]
        show (⟨(rlE ts vs 7 0 0).toArray⟩ : ByteArray).size ≤ 204000
        rw [ba_len]
        exact rl_small HTY.out
      have hDl : D.data.toList = rlE ts vs 7 0 0 := by rw [← hDe]; exact ba_of _
      have hDp : 1 ≤ D.size := by
        rw [← hDe]
        show 1 ≤ (⟨(rlE ts vs 7 0 0).toArray⟩ : ByteArray).size
        rw [ba_len]
        exact rl_pos HTY.out
      have HMORE : Hid (∀ c : UInt8, rlR (schOk ts) ts (D ++ ⟨#[c]⟩).data.toList = none) := fun c => by
        have e : D ++ ⟨#[c]⟩ = ⟨(rlE ts vs 7 0 0 ++ [c]).toArray⟩ := by
          apply ba_ext
          rw [ba_of, ← hDl]
          simp
        rw [e, ba_of]
        exact rlR_more HTY.out _ c
      have HLESS : Hid (∀ p, p < D.size → rlR (schOk ts) ts (D.extract 0 p).data.toList = none) := fun p hp => by
        have e : D.extract 0 p = ⟨((rlE ts vs 7 0 0).take p).toArray⟩ := by rw [← hDl, ex_head]
        rw [e, ba_of]
        refine rlR_less HTY.out _ (fun _ => (typ_ve HTY.out).1) ?_
        show p < (rlE ts vs 7 0 0).length
        rw [← hDl, lst_len]; exact hp
      have HBY : Hid (∀ w', Below w1.heap.size w1 w' → Calls Tryz.prog 15 #[.slice a0 len0 cap0, .int .i64 3] w' fun e w'' => (∃ v : Nat, v ≤ 255 ∧ e = .returned (.int .i64 v)) ∧ w'' = w') := fun w' hb => byteOf_any w1.heap.size a0 len0 cap0 3 w' (HCD.out.1.below hb) HCD.out.2.1 HCD.out.2.2.1 HCD.out.2.2.2 (by decide)
      have HPL : Hid (∀ w', Below w1.heap.size w1 w' → Calls Tryz.prog 16 #[.int .i64 D.size, .slice a0 len0 cap0] w' fun e w'' => (∃ v : Nat, v < D.size ∧ e = .returned (.int .i64 v)) ∧ w'' = w') := fun w' hb => place_any w1.heap.size a0 len0 cap0 D.size w' (HCD.out.1.below hb) HCD.out.2.1 HCD.out.2.2.1 HCD.out.2.2.2 hDp (by omega)
      clear hDe hDl
      go_wp2_with fail
      refine (HBY.out w4 HBA.out).mono ?_
      rintro e w5 ⟨⟨c, hc, rfl⟩, rfl⟩
      have hw8 : IntKind.u8.wrap (c : Int) = (c : Int) := by rw [IntKind.wrap_u8]; omega
      have hcv := convB w5 c (c : Int) (by omega) rfl
      have HBL : Hid (Below w2.heap.size w2 (w5.alloc (.cells #[.int .u8 (c : Int)] 5))) := HB4.out.alloc HB4.out.size _
      have hsz1 : ¬ (9223372036854775807 < D.size + ByteArray.size ⟨#[UInt8.ofNat c]⟩) := by show ¬ (9223372036854775807 < D.size + 1); omega
      have hsz2 : (D ++ ⟨#[UInt8.ofNat c]⟩).size ≤ 1048576 := by rw [ByteArray.size_append]; show D.size + 1 ≤ _; omega
      have HDM : Hid (∀ w', Below w2.heap.size w2 w' → Calls Tryz.prog 10 #[.slice ad ts.length cT, .string (D ++ ⟨#[UInt8.ofNat c]⟩)] w' fun e w'' => DecV none w' e w'') := fun w' hb => by
        have h := HD2.out w' _ hb hsz2
        rwa [HMORE.out] at h
      clear hsz2
      go_wp2_with fail
      refine (HDM.out _ HBL.out).mono ?_
      rintro e w6 ⟨⟨v6, rfl, _⟩, hb6⟩
      have HB6 : Hid (Below w2.heap.size w2 w6) := HBL.out.trans (hb6.mono HBL.out.size)
      have HBB : Hid (Below w1.heap.size w1 w6) := HB2.out.trans (HB6.out.mono HB2.out.size)
      clear hb6 hcv hw8
      go_wp2_with fail
      refine (HPL.out w6 HBB.out).mono ?_
      rintro e w7 ⟨⟨p, hp, rfl⟩, rfl⟩
      have hpi : (p : Int) ≤ (D.size : Int) := by omega
      have HDL : Hid (Calls Tryz.prog 10 #[.slice ad ts.length cT, .string (D.extract 0 p)] w7 fun e w'' => DecV none w7 e w'') := by
        have h := HD2.out w7 (D.extract 0 p) HB6.out (by simp; omega)
        rwa [HLESS.out p hp] at h
      go_wp2_with fail
      refine Calls.mono HDL.out ?_
      rintro e w8 ⟨⟨v8, rfl, _⟩, hb8⟩
      have HB8 : Hid (Below w1.heap.size w1 w8) := HBB.out.trans (hb8.mono HBB.out.size)
      clear hb8
      go_wp2_with fail
      go_ret
      exact ⟨rfl, HB8.out⟩
end Go.Proofs.YtdncnjmlicdamaaGreatDoor.fnRlpEnds
