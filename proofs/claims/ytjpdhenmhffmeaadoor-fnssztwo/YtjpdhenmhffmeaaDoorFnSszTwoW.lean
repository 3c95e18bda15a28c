/- Whatever its arguments, laws.FnSszTwo returns true and leaves them, and the table that it reads, as they were; the table starts as the program's text lays it. -/
import Derived.Test.YtjpdhenmhffmeaaDoorCards
import Derived.Test.YtjpdhenmhffmeaaDoorTie
import Derived.Test.YtjpdhenmhffmeaaDoorS9i
import Derived.Test.YtjpdhenmhffmeaaDoorS7g
import Derived.Test.YtjpdhenmhffmeaaDoorDrawZ
import Derived.Test.YtjpdhenmhffmeaaDoorPz
import Derived.Test.YtjpdhenmhffmeaaDoorS6c
import Derived.SevenTiedAt
namespace Go.Proofs.YtjpdhenmhffmeaaDoor.fnSszTwo
open Go.ChangeShapes Go.WideShapes Go.ChangeAt Go.RowKit
open Go.ChangeMaps (open_string shut_string)
set_option linter.unusedVariables false
theorem big_any (a : Option Addr) (len cap : Nat) (w : World) (hl : len ≤ maxLen) : Calls Tryd.prog 6 #[.slice a len cap] w fun e w' => e = .returned (.bool (decide (1048576 < len))) ∧ w' = w := by
  unfold maxLen at hl
  go_enter Tryd.func6, Tryd.ntmps6
  go_wp2
  go_ret
  exact ⟨ret_b (by simp; omega), rfl⟩
theorem row_len {k : IntKind} {w : World} {a : Option Addr} {len cap : Nat} {zs : List Int} (h : IsRow k w a len cap zs) : len ≤ maxLen := by
  rcases h with ⟨_, rfl, _, _⟩ | ⟨x, _, h1, h2, _⟩
  · simp [maxLen]
  · omega
theorem wfI_items {vs : List It} (h : wfI vs) : ∀ x ∈ vs, inI x.k ∧ x.n < 18446744073709551616 ∧ x.s.size ≤ 1048577 := fun x hx => by
  obtain ⟨h1, h2, h3⟩ := h x hx
  exact ⟨h1, h2, by omega⟩
set_option maxHeartbeats 1000000 in
theorem drawn (B0 : Nat) (a : Option Addr) (len cap : Nat) (w : World) (hB : B0 ≤ w.heap.size) (hc : CodeAt B0 a len w) (hl : len ≤ 1048576) : Calls Tryd.prog 12 #[.slice a len cap] w fun e w' => DrawTPost w e w' := by
  have HD : Hid (Calls Tryd.prog 18 #[.slice a len cap] w fun e w' => DrawTPost w e w') := DrawTyped_any B0 a len cap w hB hc hl
  clear hc
  go_enter Tryd.func12, Tryd.ntmps12
  go_wp2_with fail
  refine Calls.mono HD.out ?_
  rintro e w1 ⟨v, ts, v', vs, rfl, hr⟩
  have HX : Hid (DrawTPost w (.returned (.tuple #[v, v'])) w1) := ⟨v, ts, v', vs, rfl, hr⟩
  clear hr
  go_wp2_with fail
  go_ret2
  exact HX.out
theorem ba_two (a b : List UInt8) : (⟨(a ++ b).toArray⟩ : ByteArray) = ⟨a.toArray⟩ ++ ⟨b.toArray⟩ := by
  apply ByteArray.ext
  simp [ByteArray.data_append]
theorem ba_three (a b c : List UInt8) : (⟨(a ++ (b ++ c)).toArray⟩ : ByteArray) = ⟨a.toArray⟩ ++ ⟨b.toArray⟩ ++ ⟨c.toArray⟩ := by
  apply ByteArray.ext
  simp [ByteArray.data_append]
theorem own_sl {w : World} {base e size : Nat} {v : Value} {n : Nat} {xs : List Value} (h : w.ownsRow base e size v n xs) : ∃ ad cap, v = .slice ad n cap := by
  rcases h.2 with ⟨hv, h0⟩ | ⟨g, cap, cur, hv, _⟩
  · exact ⟨none, 0, by rw [hv, h0]⟩
  · exact ⟨_, cap, hv⟩

set_option maxRecDepth 100000 in
set_option maxHeartbeats 4000000 in
theorem walk (a0 : Option Addr) (len0 cap0 : Nat) (z0 : List Int) (w : World) (w0 : IsRow .u8 w a0 len0 cap0 z0) (hkr : KR w) (hET : ET w) :
    Calls Tryd.prog 4 #[.slice a0 len0 cap0] w fun e w' => e = .returned (.bool true) ∧ Below w.heap.size w w' := by
  have hlm := row_len w0
  by_cases hbig : 1048576 < len0
  · have hd : decide (1048576 < len0) = true := decide_eq_true hbig
    have HB : Hid (∀ w, Calls Tryd.prog 6 #[.slice a0 len0 cap0] w fun e w' => e = .returned (.bool true) ∧ w' = w) := fun w => by have := big_any a0 len0 cap0 w hlm; rwa [hd] at this
    clear w0 hlm hbig hd hkr hET
    go_enter Tryd.func4, Tryd.ntmps4
    go_wp2_with fail
    refine (HB.out _).mono ?_
    rintro e w1 ⟨rfl, rfl⟩
    go_wp2_with fail
    go_ret
    exact ⟨rfl, Below.refl _ _⟩
  · have hd : decide (1048576 < len0) = false := decide_eq_false hbig
    have HB : Hid (∀ w, Calls Tryd.prog 6 #[.slice a0 len0 cap0] w fun e w' => e = .returned (.bool false) ∧ w' = w) := fun w => by have := big_any a0 len0 cap0 w hlm; rwa [hd] at this
    have HD : Hid (Calls Tryd.prog 12 #[.slice a0 len0 cap0] w fun e w' => DrawTPost w e w') := drawn w.heap.size a0 len0 cap0 w (Nat.le_refl _) w0.code (by omega)
    have HK : Hid (KR w) := hkr
    have HE : Hid (ET w) := hET
    clear w0 hlm hbig hd hkr hET
    go_enter Tryd.func4, Tryd.ntmps4
    go_wp2_with fail
    refine (HB.out _).mono ?_
    rintro e w1 ⟨rfl, rfl⟩
    go_wp2_with fail
    refine Calls.mono HD.out ?_
    rintro e w2 ⟨v, ts, v', vs, rfl, hot, h41, hwf, hoi, h15, hwi, hb2⟩
    have HT : Hid (IsTyps w2.heap.size w2 v ts) := own_typs hot (by omega) hwf
    have HI : Hid (IsItems w2.heap.size w2 v' vs) := hoi.items (by omega) (wfI_items hwi)
    have HOT : Hid (w2.ownsRow w1.heap.size 37 2 v ts.length (flatT ts)) := hot
    have HTW : Hid (∀ w', Below w2.heap.size w2 w' → Calls Tryd.prog 10 #[v, v', v'] w' fun e w'' => TwPost ts vs w' e w'') := fun w' hb => twice_any ts vs v v' w1.heap.size w' (hot.kept (gb_bel hb) (by cases v.ownBlock <;> simp)) (hoi.kept hb) h41 hwf h15 hwi
    have HWF : Hid (wfT ts ∧ wfI vs ∧ ts.length ≤ 41 ∧ vs.length ≤ 1500) := ⟨hwf, hwi, h41, h15⟩
    have HB2 : Hid (Below w1.heap.size w1 w2) := hb2
    have HE2 : Hid (∀ w', Below w2.heap.size w2 w' → Calls Tryd.prog 13 #[v, v'] w' fun e w'' => e = .returned (.tuple #[.string (encB (typedB ts vs) (sszL ts vs)), .bool (typedB ts vs)]) ∧ Below w'.heap.size w' w'') := fun w' hb => implSszEnc_any ts vs v v' w' ((HT.out.below hb).up hb.size) ((HI.out.below hb).up hb.size) (HK.out.below (hb2.trans (hb.mono hb2.size))) (ET.below (B := 0) HE.out (hb2.trans (hb.mono hb2.size)))
    have HS2 : Hid (∀ w', Below w2.heap.size w2 w' → Calls Tryd.prog 14 #[v, v'] w' fun e w'' => e = .returned (.tuple #[.string (encB (typedB ts vs) (sszL ts vs)), .bool (typedB ts vs)]) ∧ Below w'.heap.size w' w'') := fun w' hb => specSszEnc_any ts vs v v' w' ((HT.out.below hb).up hb.size) ((HI.out.below hb).up hb.size)
    obtain ⟨ad, cT, rfl⟩ := own_sl hot
    obtain ⟨bd, cI, rfl⟩ := own_sl hoi
    obtain ⟨o, ho⟩ : ∃ o, typedB ts vs = o := ⟨_, rfl⟩
    obtain ⟨D, hD⟩ : ∃ D, encB (typedB ts vs) (sszL ts vs) = D := ⟨_, rfl⟩
    have HO : Hid (typedB ts vs = o) := ho
    have HDE : Hid (encB (typedB ts vs) (sszL ts vs) = D) := hD
    rw [hD, ho] at HE2 HS2
    clear hot hoi hwf hwi hb2 HD HB ho hD h41 h15
    go_wp2_with fail
    refine (HE2.out w2 (Below.refl _ _)).mono ?_
    rintro e w3 ⟨rfl, hb3⟩
    have HB3 : Hid (Below w2.heap.size w2 w3) := hb3
    clear hb3
    go_wp2_with fail
    refine (HS2.out w3 HB3.out).mono ?_
    rintro e w4 ⟨rfl, hb4⟩
    have HB4 : Hid (Below w2.heap.size w2 w4) := HB3.out.trans (hb4.mono HB3.out.size)
    clear hb4
    go_wp2_with fail
    refine (HTW.out w4 HB4.out).mono ?_
    rintro e w5 ⟨t, x, rfl, hot5, hox5, hb5⟩
    have HB5 : Hid (Below w2.heap.size w2 w5) := HB4.out.trans (hb5.mono HB4.out.size)
    have HOT5 : Hid (w5.ownsRow w4.heap.size 37 2 t (twT ts).length (flatT (twT ts))) := hot5
    have HOX5 : Hid (OwnIt w4.heap.size w5 x (twX 7 vs)) := hox5
    obtain ⟨f, hf⟩ : ∃ f, (schOk (twT ts) && decide ((twX 7 vs).length ≤ 200)) = f := ⟨_, rfl⟩
    have HF : Hid ((schOk (twT ts) && decide ((twX 7 vs).length ≤ 200)) = f) := hf
    rw [hf]
    obtain ⟨ta, tc, rfl⟩ := own_sl hot5
    obtain ⟨xa, xc, rfl⟩ := own_sl hox5
    have HBA : Hid (Below w1.heap.size w1 w5) := HB2.out.trans (HB5.out.mono HB2.out.size)
    clear hot5 hox5 hb5 hf
    have hqo : (o != o) = false := by cases o <;> rfl
    have hqo' : (o == o) = true := by cases o <;> rfl
    cases o with
    | false =>
      go_wp2_with fail
      go_ret
      exact ⟨rfl, HBA.out⟩
    | true =>
      cases f with
      | false =>
        go_wp2_with fail
        go_ret
        exact ⟨rfl, HBA.out⟩
      | true =>
        have HF2 : Hid (schOk (twT ts) = true ∧ (twX 7 vs).length ≤ 200) := by
          have h := HF.out
          simp only [Bool.and_eq_true, decide_eq_true_eq] at h
          exact h
        have hDe : (⟨(sszL ts vs).toArray⟩ : ByteArray) = D := by
          have h := HDE.out
          rw [HO.out] at h
          exact h
        have htw := (two_sc (fun _ => []) HO.out HF2.out.1 HF2.out.2).1
        obtain ⟨k1, k2, k3⟩ := typed_inv HO.out
        obtain ⟨m1, m2, m3⟩ := typed_inv htw
        have hDs : D.size ≤ 209720000 := by
          rw [← hDe, ba_size]
          exact ssE_le (fun x h => (wfI_items HWF.out.2.1 x h).2.2) k2 (schOk_iff.1 k1).2 k3
        have hDl : D.size = (ssE ts vs 7 0 0).length := by rw [← hDe]; exact ba_size _
        obtain ⟨zs, hzs⟩ : ∃ z, szT ts 7 0 = z := ⟨_, rfl⟩
        have hzr := szT_small (ts := ts) (f := 7) (a := 0) (by omega)
        have hSZ : sszSize ts = zs := by unfold sszSize; rw [k1, ← hzs]; rfl
        have HT2 : Hid (IsTyps w5.heap.size w5 (.slice ta (twT ts).length tc) (twT ts)) := own_typs HOT5.out (by have := HWF.out.2.2.1; simp [twT]; omega) (wfT_tw HWF.out.1)
        have h2s := two_ss HO.out HF2.out.1
        rw [hzs] at h2s hzr
        have HCS : Hid (∀ w', Below w5.heap.size w5 w' → Calls Tryd.prog 15 #[.slice ad ts.length cT] w' fun e w'' => e = .returned (.int .i64 zs) ∧ Below w'.heap.size w' w'') := fun w' hb => by
          have hb2 := HB5.out.trans (hb.mono HB5.out.size)
          have := implSszSize_any ts _ w' ((HT.out.below hb2).up hb2.size) (HK.out.below (HBA.out.trans (hb.mono HBA.out.size)))
          rwa [hSZ] at this
        have hST : ∀ w', Below w5.heap.size w5 w' → Calls Tryd.prog 15 #[.slice ta (twT ts).length tc] w' fun e w'' => e = .returned (.int .i64 (szT (twT ts) 7 0)) ∧ Below w'.heap.size w' w'' := fun w' hb => by
          have := implSszSize_any (twT ts) _ w' ((HT2.out.below hb).up hb.size) (HK.out.below (HBA.out.trans (hb.mono HBA.out.size)))
          rwa [show sszSize (twT ts) = szT (twT ts) 7 0 by unfold sszSize; rw [m1]; rfl] at this
        have hC1 := implSszEnc_any (twT ts) (twX 7 vs) (.slice ta (twT ts).length tc) (.slice xa (twX 7 vs).length xc) w5 HT2.out (HOX5.out.items (by have := HWF.out.2.2.2; simp [twX]; omega) (wfI_items (wfI_tw ⟨by decide, by decide⟩ HWF.out.2.1))) (HK.out.below HBA.out) (ET.below (B := 0) HE.out HBA.out)
        rw [htw] at hC1
        have hd9 : D.size + D.size ≤ 9223372036854775807 := by omega
        by_cases hz : 0 ≤ zs
        · obtain ⟨e1, e2⟩ := h2s.1 hz
          have HC1 : Hid (Calls Tryd.prog 13 #[.slice ta (twT ts).length tc, .slice xa (twX 7 vs).length xc] w5 fun e w'' => e = .returned (.tuple #[.string (D ++ D), .bool true]) ∧ Below w5.heap.size w5 w'') := by
            have h3 : encB true (sszL (twT ts) (twX 7 vs)) = D ++ D := by
              show (⟨(ssE (twT ts) (twX 7 vs) 7 0 0).toArray⟩ : ByteArray) = D ++ D
              rw [e1, ← hDe]
              exact ba_two _ _
            rwa [h3] at hC1
          have HST : Hid (∀ w', Below w5.heap.size w5 w' → Calls Tryd.prog 15 #[.slice ta (twT ts).length tc] w' fun e w'' => e = .returned (.int .i64 (2 * zs)) ∧ Below w'.heap.size w' w'') := by rw [e2] at hST; exact hST
          have hdz : decide ((0 : Int) ≤ zs) = true := decide_eq_true hz
          obtain ⟨Lt, hLt⟩ : ∃ L, (twT ts).length = L := ⟨_, rfl⟩
          obtain ⟨Lx, hLx⟩ : ∃ L, (twX 7 vs).length = L := ⟨_, rfl⟩
          rw [hLt, hLx] at HC1
          rw [hLt] at HST
          rw [hLt, hLx]
          clear hLt hLx hDe hDl h2s hST hC1 e1 e2 m1 m2 m3 k1 k2 k3 htw hSZ hzs HT2
          go_wp2_with fail
          refine HC1.out.mono ?_
          rintro e w6 ⟨rfl, hb6⟩
          have HB6 : Hid (Below w5.heap.size w5 w6) := hb6
          clear hb6
          go_wp2_with fail
          refine (HCS.out w6 HB6.out).mono ?_
          rintro e w7 ⟨rfl, hb7⟩
          have HB7 : Hid (Below w5.heap.size w5 w7) := HB6.out.trans (hb7.mono HB6.out.size)
          clear hb7
          have hDD : (D ++ D).size ≤ 2000000000 := by rw [ByteArray.size_append]; omega
          go_wp2_with fail
          refine (HST.out w7 HB7.out).mono ?_
          rintro e w8 ⟨rfl, hb8⟩
          have HB8 : Hid (Below w5.heap.size w5 w8) := HB7.out.trans (hb8.mono HB7.out.size)
          clear hb8
          go_wp2_with fail
          refine (HCS.out w8 HB8.out).mono ?_
          rintro e w9 ⟨rfl, hb9⟩
          have HB9 : Hid (Below w5.heap.size w5 w9) := HB8.out.trans (hb9.mono HB8.out.size)
          clear hb9
          have HBZ : Hid (Below w1.heap.size w1 w9) := HBA.out.trans (HB9.out.mono HBA.out.size)
          go_wp2_with fail
          go_ret
          exact ⟨rfl, HBZ.out⟩
        · obtain ⟨e1, e2⟩ := h2s.2 (by omega)
          obtain ⟨P8, hP8⟩ : ∃ P : ByteArray, ⟨(leL 8 4).toArray⟩ = P := ⟨_, rfl⟩
          obtain ⟨PD, hPD⟩ : ∃ P : ByteArray, ⟨(leL (8 + D.size) 4).toArray⟩ = P := ⟨_, rfl⟩
          have hP8s : P8.size = 4 := by rw [← hP8, ba_size]; exact leL_len _ _
          have hPDs : PD.size = 4 := by rw [← hPD, ba_size]; exact leL_len _ _
          have HP8 : Hid (∀ w, Calls Tryd.prog 16 #[.int .u64 8, .int .i64 4] w fun e w' => e = .returned (.string P8) ∧ Below w.heap.size w w') := fun w => by
            have := implPutLe_any 8 4 w (by decide)
            rw [show putLe 8 4 = leL 8 4 from putLe_yes 8 4 (by decide) (by decide) (by decide), hP8] at this
            exact this
          have HPD : Hid (∀ w, Calls Tryd.prog 16 #[.int .u64 (8 + (D.size : Int)), .int .i64 4] w fun e w' => e = .returned (.string PD) ∧ Below w.heap.size w w') := fun w => by
            have := implPutLe_any (8 + D.size) 4 w (by omega)
            rw [show putLe (8 + D.size) 4 = leL (8 + D.size) 4 from putLe_yes (8 + D.size) 4 (by decide) (by decide) (by omega), hPD] at this
            rwa [show ((8 + D.size : Nat) : Int) = 8 + (D.size : Int) by omega] at this
          have HC1 : Hid (Calls Tryd.prog 13 #[.slice ta (twT ts).length tc, .slice xa (twX 7 vs).length xc] w5 fun e w'' => e = .returned (.tuple #[.string (P8 ++ PD ++ D ++ D), .bool true]) ∧ Below w5.heap.size w5 w'') := by
            have h3 : encB true (sszL (twT ts) (twX 7 vs)) = P8 ++ PD ++ D ++ D := by
              show (⟨(ssE (twT ts) (twX 7 vs) 7 0 0).toArray⟩ : ByteArray) = _
              rw [e1, ← hP8, ← hPD, hDl, ← hDe]
              rw [ba_two, ba_three, ← ByteArray.append_assoc, ← ByteArray.append_assoc]
              rfl
            rwa [h3] at hC1
          have HST : Hid (∀ w', Below w5.heap.size w5 w' → Calls Tryd.prog 15 #[.slice ta (twT ts).length tc] w' fun e w'' => e = .returned (.int .i64 (-1)) ∧ Below w'.heap.size w' w'') := by rw [e2] at hST; exact hST
          have hdz : decide ((0 : Int) ≤ zs) = false := decide_eq_false hz
          obtain ⟨Lt, hLt⟩ : ∃ L, (twT ts).length = L := ⟨_, rfl⟩
          obtain ⟨Lx, hLx⟩ : ∃ L, (twX 7 vs).length = L := ⟨_, rfl⟩
          rw [hLt, hLx] at HC1
          rw [hLt] at HST
          rw [hLt, hLx]
          clear hLt hLx hDe hDl h2s hST hC1 e1 e2 m1 m2 m3 k1 k2 k3 htw hSZ hzs HT2 hP8 hPD
          go_wp2_with fail
          refine HC1.out.mono ?_
          rintro e w6 ⟨rfl, hb6⟩
          have HB6 : Hid (Below w5.heap.size w5 w6) := hb6
          clear hb6
          go_wp2_with fail
          refine (HCS.out w6 HB6.out).mono ?_
          rintro e w7 ⟨rfl, hb7⟩
          have HB7 : Hid (Below w5.heap.size w5 w7) := HB6.out.trans (hb7.mono HB6.out.size)
          clear hb7
          have hq1 : (P8 ++ PD).size = 8 := by rw [ByteArray.size_append]; omega
          have hq2 : (P8 ++ PD ++ D).size ≤ 209720008 := by rw [ByteArray.size_append]; omega
          have hq3 : (P8 ++ PD ++ D ++ D).size ≤ 419440008 := by rw [ByteArray.size_append]; omega
          go_wp2_with fail
          refine (HP8.out w7).mono ?_
          rintro e w8 ⟨rfl, hb8⟩
          have HB8 : Hid (Below w5.heap.size w5 w8) := HB7.out.trans (hb8.mono HB7.out.size)
          clear hb8
          go_wp2_with fail
          refine (HPD.out w8).mono ?_
          rintro e w9 ⟨rfl, hb9⟩
          have HB9 : Hid (Below w5.heap.size w5 w9) := HB8.out.trans (hb9.mono HB8.out.size)
          clear hb9
          go_wp2_with fail
          refine (HST.out w9 HB9.out).mono ?_
          rintro e w10 ⟨rfl, hb10⟩
          have HB10 : Hid (Below w5.heap.size w5 w10) := HB9.out.trans (hb10.mono HB9.out.size)
          clear hb10
          have HBZ : Hid (Below w1.heap.size w1 w10) := HBA.out.trans (HB10.out.mono HBA.out.size)
          go_wp2_with fail
          go_ret
          exact ⟨rfl, HBZ.out⟩
end Go.Proofs.YtjpdhenmhffmeaaDoor.fnSszTwo
