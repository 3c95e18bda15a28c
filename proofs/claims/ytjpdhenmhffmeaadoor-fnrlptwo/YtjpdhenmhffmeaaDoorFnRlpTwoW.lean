/- Whatever its arguments, laws.FnRlpTwo returns true and leaves them, and the table that it reads, as they were; the table starts as the program's text lays it. -/
import Derived.Test.YtjpdhenmhffmeaaDoorCards
import Derived.Test.YtjpdhenmhffmeaaDoorTie
import Derived.Test.YtjpdhenmhffmeaaDoorS8e
import Derived.Test.YtjpdhenmhffmeaaDoorS7g
import Derived.Test.YtjpdhenmhffmeaaDoorDrawZ
import Derived.Test.YtjpdhenmhffmeaaDoorPy
import Derived.SevenTiedAt
namespace Go.Proofs.YtjpdhenmhffmeaaDoor.fnRlpTwo
open Go.ChangeShapes Go.WideShapes Go.ChangeAt Go.RowKit
open Go.ChangeMaps (open_string shut_string)
set_option linter.unusedVariables false
theorem big_any (a : Option Addr) (len cap : Nat) (w : World) (hl : len ≤ maxLen) : Calls Tryd.prog 6 #[.slice a len cap] w fun e w' => e = .returned (.bool (decide (1048576 < len))) ∧ w' = w := by
  unfold maxLen at hl
  go_enter Tryd.func6, Tryd.ntmps6
  go_wp2
  go_ret
  exact ⟨ret_b (by simp; omega), rfl⟩
theorem row_len {k : IntKind} {w : World} {a : Option Addr} {len cap : Nat} {zs : List Int} (h : IsRow k w a len cap zs) : len ≤ maxLen := by
  rcases h with ⟨_, rfl, _, _⟩ | ⟨x, _, h1, h2, _⟩
  · simp [maxLen]
  · omega
theorem wfI_items {vs : List It} (h : wfI vs) : ∀ x ∈ vs, inI x.k ∧ x.n < 18446744073709551616 ∧ x.s.size ≤ 1048577 := fun x hx => by
  obtain ⟨h1, h2, h3⟩ := h x hx
  exact ⟨h1, h2, by omega⟩
set_option maxHeartbeats 1000000 in
theorem drawn (B0 : Nat) (a : Option Addr) (len cap : Nat) (w : World) (hB : B0 ≤ w.heap.size) (hc : CodeAt B0 a len w) (hl : len ≤ 1048576) : Calls Tryd.prog 7 #[.slice a len cap] w fun e w' => DrawTPost w e w' := by
  have HD : Hid (Calls Tryd.prog 18 #[.slice a len cap] w fun e w' => DrawTPost w e w') := DrawTyped_any B0 a len cap w hB hc hl
  clear hc
  go_enter Tryd.func7, Tryd.ntmps7
  go_wp2_with fail
  refine Calls.mono HD.out ?_
  rintro e w1 ⟨v, ts, v', vs, rfl, hr⟩
  have HX : Hid (DrawTPost w (.returned (.tuple #[v, v'])) w1) := ⟨v, ts, v', vs, rfl, hr⟩
  clear hr
  go_wp2_with fail
  go_ret2
  exact HX.out
theorem ba_two (a b : List UInt8) : (⟨(a ++ b).toArray⟩ : ByteArray) = ⟨a.toArray⟩ ++ ⟨b.toArray⟩ := by
  apply ByteArray.ext
  simp [ByteArray.data_append]
theorem ba_three (a b c : List UInt8) : (⟨(a ++ (b ++ c)).toArray⟩ : ByteArray) = ⟨a.toArray⟩ ++ ⟨b.toArray⟩ ++ ⟨c.toArray⟩ := by
  apply ByteArray.ext
  simp [ByteArray.data_append]
theorem own_sl {w : World} {base e size : Nat} {v : Value} {n : Nat} {xs : List Value} (h : w.ownsRow base e size v n xs) : ∃ ad cap, v = .slice ad n cap := by
  rcases h.2 with ⟨hv, h0⟩ | ⟨g, cap, cur, hv, _⟩
  · exact ⟨none, 0, by rw [hv, h0]⟩
  · exact ⟨_, cap, hv⟩

set_option maxRecDepth 100000 in
set_option maxHeartbeats 4000000 in
theorem walk (a0 : Option Addr) (len0 cap0 : Nat) (z0 : List Int) (w : World) (w0 : IsRow .u8 w a0 len0 cap0 z0) (hkr : KR w) (hET : ET w) :
    Calls Tryd.prog 3 #[.slice a0 len0 cap0] w fun e w' => e = .returned (.bool true) ∧ Below w.heap.size w w' := by
  have hlm := row_len w0
  by_cases hbig : 1048576 < len0
  · have hd : decide (1048576 < len0) = true := decide_eq_true hbig
    have HB : Hid (∀ w, Calls Tryd.prog 6 #[.slice a0 len0 cap0] w fun e w' => e = .returned (.bool true) ∧ w' = w) := fun w => by have := big_any a0 len0 cap0 w hlm; rwa [hd] at this
    clear w0 hlm hbig hd hkr hET
    go_enter Tryd.func3, Tryd.ntmps3
    go_wp2_with fail
    refine (HB.out _).mono ?_
    rintro e w1 ⟨rfl, rfl⟩
    go_wp2_with fail
    go_ret
    exact ⟨rfl, Below.refl _ _⟩
  · have hd : decide (1048576 < len0) = false := decide_eq_false hbig
    have HB : Hid (∀ w, Calls Tryd.prog 6 #[.slice a0 len0 cap0] w fun e w' => e = .returned (.bool false) ∧ w' = w) := fun w => by have := big_any a0 len0 cap0 w hlm; rwa [hd] at this
    have HD : Hid (Calls Tryd.prog 7 #[.slice a0 len0 cap0] w fun e w' => DrawTPost w e w') := drawn w.heap.size a0 len0 cap0 w (Nat.le_refl _) w0.code (by omega)
    have HK : Hid (KR w) := hkr
    have HE : Hid (ET w) := hET
    clear w0 hlm hbig hd hkr hET
    go_enter Tryd.func3, Tryd.ntmps3
    go_wp2_with fail
    refine (HB.out _).mono ?_
    rintro e w1 ⟨rfl, rfl⟩
    go_wp2_with fail
    refine Calls.mono HD.out ?_
    rintro e w2 ⟨v, ts, v', vs, rfl, hot, h41, hwf, hoi, h15, hwi, hb2⟩
    have HT : Hid (IsTyps w2.heap.size w2 v ts) := own_typs hot (by omega) hwf
    have HI : Hid (IsItems w2.heap.size w2 v' vs) := hoi.items (by omega) (wfI_items hwi)
    have HOT : Hid (w2.ownsRow w1.heap.size 37 2 v ts.length (flatT ts)) := hot
    have HTW : Hid (∀ w', Below w2.heap.size w2 w' → Calls Tryd.prog 10 #[v, v', v'] w' fun e w'' => TwPost ts vs w' e w'') := fun w' hb => twice_any ts vs v v' w1.heap.size w' (hot.kept (gb_bel hb) (by cases v.ownBlock <;> simp)) (hoi.kept hb) h41 hwf h15 hwi
    have HWF : Hid (wfT ts ∧ wfI vs ∧ ts.length ≤ 41 ∧ vs.length ≤ 1500) := ⟨hwf, hwi, h41, h15⟩
    have HB2 : Hid (Below w1.heap.size w1 w2) := hb2
    have HE2 : Hid (∀ w', Below w2.heap.size w2 w' → Calls Tryd.prog 8 #[v, v'] w' fun e w'' => e = .returned (.tuple #[.string (encB (typedB ts vs) (rlpL ts vs)), .bool (typedB ts vs)]) ∧ Below w'.heap.size w' w'') := fun w' hb => implRlpEnc_any ts vs v v' w' ((HT.out.below hb).up hb.size) ((HI.out.below hb).up hb.size) (HK.out.below (hb2.trans (hb.mono hb2.size))) (ET.below (B := 0) HE.out (hb2.trans (hb.mono hb2.size)))
    have HS2 : Hid (∀ w', Below w2.heap.size w2 w' → Calls Tryd.prog 9 #[v, v'] w' fun e w'' => e = .returned (.tuple #[.string (encB (typedB ts vs) (rlpL ts vs)), .bool (typedB ts vs)]) ∧ Below w'.heap.size w' w'') := fun w' hb => specRlpEnc_any ts vs v v' w' ((HT.out.below hb).up hb.size) ((HI.out.below hb).up hb.size)
    obtain ⟨ad, cT, rfl⟩ := own_sl hot
    obtain ⟨bd, cI, rfl⟩ := own_sl hoi
    obtain ⟨o, ho⟩ : ∃ o, typedB ts vs = o := ⟨_, rfl⟩
    obtain ⟨D, hD⟩ : ∃ D, encB (typedB ts vs) (rlpL ts vs) = D := ⟨_, rfl⟩
    have HO : Hid (typedB ts vs = o) := ho
    have HDE : Hid (encB (typedB ts vs) (rlpL ts vs) = D) := hD
    rw [hD, ho] at HE2 HS2
    clear hot hoi hwf hwi hb2 HD HB ho hD h41 h15
    go_wp2_with fail
    refine (HE2.out w2 (Below.refl _ _)).mono ?_
    rintro e w3 ⟨rfl, hb3⟩
    have HB3 : Hid (Below w2.heap.size w2 w3) := hb3
    clear hb3
    go_wp2_with fail
    refine (HS2.out w3 HB3.out).mono ?_
    rintro e w4 ⟨rfl, hb4⟩
    have HB4 : Hid (Below w2.heap.size w2 w4) := HB3.out.trans (hb4.mono HB3.out.size)
    clear hb4
    go_wp2_with fail
    refine (HTW.out w4 HB4.out).mono ?_
    rintro e w5 ⟨t, x, rfl, hot5, hox5, hb5⟩
    have HB5 : Hid (Below w2.heap.size w2 w5) := HB4.out.trans (hb5.mono HB4.out.size)
    have HOT5 : Hid (w5.ownsRow w4.heap.size 37 2 t (twT ts).length (flatT (twT ts))) := hot5
    have HOX5 : Hid (OwnIt w4.heap.size w5 x (twX 7 vs)) := hox5
    obtain ⟨f, hf⟩ : ∃ f, (schOk (twT ts) && decide ((twX 7 vs).length ≤ 200)) = f := ⟨_, rfl⟩
    have HF : Hid ((schOk (twT ts) && decide ((twX 7 vs).length ≤ 200)) = f) := hf
    rw [hf]
    obtain ⟨ta, tc, rfl⟩ := own_sl hot5
    obtain ⟨xa, xc, rfl⟩ := own_sl hox5
    have HBA : Hid (Below w1.heap.size w1 w5) := HB2.out.trans (HB5.out.mono HB2.out.size)
    clear hot5 hox5 hb5 hf
    have hqo : (o != o) = false := by cases o <;> rfl
    have hqo' : (o == o) = true := by cases o <;> rfl
    cases o with
    | false =>
      go_wp2_with fail
      go_ret
      exact ⟨rfl, HBA.out⟩
    | true =>
      cases f with
      | false =>
        go_wp2_with fail
        go_ret
        exact ⟨rfl, HBA.out⟩
      | true =>
        have HF2 : Hid (schOk (twT ts) = true ∧ (twX 7 vs).length ≤ 200) := by
          have h := HF.out
          simp only [Bool.and_eq_true, decide_eq_true_eq] at h
          exact h
        have hDe : (⟨(rlpL ts vs).toArray⟩ : ByteArray) = D := by
          have h := HDE.out
          rw [HO.out] at h
          exact h
        have htw := (two_sc (fun _ => []) HO.out HF2.out.1 HF2.out.2).1
        obtain ⟨k1, k2, k3⟩ := typed_inv HO.out
        obtain ⟨m1, m2, m3⟩ := typed_inv htw
        have h40 : (rlE (twT ts) (twX 7 vs) 7 0 0).length ≤ 40600 := rlE_le (fun x h => (wfI_items (wfI_tw ⟨by decide, by decide⟩ HWF.out.2.1) x h).2.1) m2 (schOk_iff.1 m1).2 m3
        have h2r := two_rl HO.out HF2.out.1
        have hDl : D.size = (rlE ts vs 7 0 0).length := by rw [← hDe]; exact ba_size _
        have hDs : 2 * D.size ≤ 40600 := by
          rw [h2r] at h40
          unfold rlL at h40
          simp only [List.length_append] at h40
          omega
        have hph : putHead true ((2 * D.size : Nat) : Int) = headL true (2 * D.size) := by unfold putHead; rw [if_pos (by omega)]; rfl
        obtain ⟨PH, hPH⟩ : ∃ PH : ByteArray, ⟨(putHead true ((2 * D.size : Nat) : Int)).toArray⟩ = PH := ⟨_, rfl⟩
        have hPHs : PH.size ≤ 3 := by rw [← hPH, hph]; rw [ba_size]; exact headL_len true (by omega)
        have HP : Hid (∀ w, Calls Tryd.prog 11 #[.bool true, .int .i64 (2 * (D.size : Int))] w fun e w' => e = .returned (.string PH) ∧ Below w.heap.size w w') := fun w => by
          have := implPutHead_any true ((2 * D.size : Nat) : Int) w
          rw [hPH] at this
          rwa [show ((2 * D.size : Nat) : Int) = 2 * (D.size : Int) by omega] at this
        have HC1 : Hid (Calls Tryd.prog 8 #[.slice ta (twT ts).length tc, .slice xa (twX 7 vs).length xc] w5 fun e w'' => e = .returned (.tuple #[.string (PH ++ D ++ D), .bool true]) ∧ Below w5.heap.size w5 w'') := by
          have h3 : encB true (rlpL (twT ts) (twX 7 vs)) = PH ++ D ++ D := by
            show (⟨(rlE (twT ts) (twX 7 vs) 7 0 0).toArray⟩ : ByteArray) = PH ++ D ++ D
            rw [h2r, ← hPH, hph, hDl, ← hDe]
            unfold rlL
            rw [List.length_append, show (rlE ts vs 7 0 0).length + (rlE ts vs 7 0 0).length = 2 * (rlE ts vs 7 0 0).length by omega]
            exact ba_three _ _ _
          have := implRlpEnc_any (twT ts) (twX 7 vs) (.slice ta (twT ts).length tc) (.slice xa (twX 7 vs).length xc) w5 (own_typs HOT5.out (by have := HWF.out.2.2.1; simp [twT]; omega) (wfT_tw HWF.out.1)) (HOX5.out.items (by have := HWF.out.2.2.2; simp [twX]; omega) (wfI_items (wfI_tw ⟨by decide, by decide⟩ HWF.out.2.1))) (HK.out.below HBA.out) (ET.below (B := 0) HE.out HBA.out)
          rw [htw, h3] at this
          exact this
        obtain ⟨Lt, hLt⟩ : ∃ L, (twT ts).length = L := ⟨_, rfl⟩
        obtain ⟨Lx, hLx⟩ : ∃ L, (twX 7 vs).length = L := ⟨_, rfl⟩
        rw [hLt, hLx] at HC1
        rw [hLt, hLx]
        clear hLt hLx hDe hDl hph hPH h2r h40 m1 m2 m3 k1 k2 k3 htw
        go_wp2_with fail
        refine HC1.out.mono ?_
        rintro e w6 ⟨rfl, hb6⟩
        have HB6 : Hid (Below w1.heap.size w1 w6) := HBA.out.trans (hb6.mono HBA.out.size)
        clear hb6
        have hPD : (PH ++ D).size ≤ 40700 := by rw [ByteArray.size_append]; omega
        have hPDD : (PH ++ D ++ D).size ≤ 81300 := by rw [ByteArray.size_append, ByteArray.size_append]; omega
        go_wp2_with fail
        refine (HP.out w6).mono ?_
        rintro e w7 ⟨rfl, hb7⟩
        have HB7 : Hid (Below w1.heap.size w1 w7) := HB6.out.trans (hb7.mono HB6.out.size)
        clear hb7
        go_wp2_with fail
        go_ret
        exact ⟨rfl, HB7.out⟩
end Go.Proofs.YtjpdhenmhffmeaaDoor.fnRlpTwo
