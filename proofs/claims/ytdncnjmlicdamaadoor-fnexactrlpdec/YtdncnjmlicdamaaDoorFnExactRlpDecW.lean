/- Whatever its arguments, laws.FnExactRlpDec returns true and leaves them, and the table that it reads, as they were; the table starts as the program's text lays it. -/
import Derived.Test.YtdncnjmlicdamaaDoorCards
import Derived.Test.YtdncnjmlicdamaaDoorTie
import Derived.Test.YtdncnjmlicdamaaDoorRDp
import Derived.Test.YtdncnjmlicdamaaDoorRDi
import Derived.Test.YtdncnjmlicdamaaDoorSRl
import Derived.Test.YtdncnjmlicdamaaDoorSBm
import Derived.Test.YtdncnjmlicdamaaDoorS7g
import Derived.SevenTiedAt
namespace Go.Proofs.YtdncnjmlicdamaaDoor.fnExactRlpDec
open Go.ChangeShapes Go.WideShapes Go.ChangeAt Go.RowKit
open Go.ChangeMaps (open_string shut_string)
set_option linter.unusedVariables false

set_option maxRecDepth 100000 in
set_option maxHeartbeats 8000000 in
theorem walk (a0 : Option Addr) (len0 cap0 : Nat) (a1 : ByteArray) (w : World) (w0 : ArgTyps w a0 len0 cap0) (w1 : a1.size ≤ maxLen) (hkr : KR w) (hEF : EF w) (hET : ET w) :
    Calls Tryd.prog 3 #[.slice a0 len0 cap0, .string a1] w fun e w' => e = .returned (.bool true) ∧ Below w.heap.size w w' := by
  obtain ⟨h1, h2, h3⟩ := w0
  by_cases hbs : 1048576 < a1.size
  · have i0 : decide ((1048576 : Int) < (a1.size : Int)) = true := by simp; omega
    clear h3
    go_enter Tryd.func3, Tryd.ntmps3
    go_wp2_with fail
    go_ret
    exact ⟨rfl, Below.refl _ _⟩
  · have i0 : decide ((1048576 : Int) < (a1.size : Int)) = false := by simp; omega
    have hb : a1.size ≤ 1048576 := by omega
    by_cases hs : 1048576 < len0
    · have HZ : Hid (∀ w, Calls Tryd.prog 4 #[.slice a0 len0 cap0, .int .i64 1048576] w fun e w' => e = .returned (.int .i64 (-1)) ∧ w' = w) := fun w => by
        have := szTypS_any a0 len0 cap0 1048576 w (by omega) (by omega) (by omega)
        rwa [if_pos (by omega)] at this
      clear h3
      go_enter Tryd.func3, Tryd.ntmps3
      go_wp2_with fail
      refine (HZ.out _).mono ?_
      rintro e w1 ⟨rfl, rfl⟩
      go_wp2_with fail
      go_ret
      exact ⟨rfl, Below.refl _ _⟩
    · obtain ⟨ts, hts, hv⟩ := h3 (by omega)
      obtain ⟨L, hL⟩ : ∃ L : Nat, (1048576 : Int) - (len0 : Int) = (L : Int) := ⟨1048576 - len0, by omega⟩
      have HZ : Hid (∀ w, Calls Tryd.prog 4 #[.slice a0 len0 cap0, .int .i64 1048576] w fun e w' => e = .returned (.int .i64 (L : Int)) ∧ w' = w) := fun w => by
        have := szTypS_any a0 len0 cap0 1048576 w (by omega) (by omega) (by omega)
        rw [if_neg (by omega), hL] at this
        exact this
      have hz : ¬ (L : Int) < 0 := by omega
      have htl : ts.length ≤ 1048576 := by omega
      have HV : Hid (IsTyps w.heap.size w (.slice a0 len0 cap0) ts) := hv
      have HK : Hid (KR w) := hkr
      have HE : Hid (ET w) := hET
      have HF : Hid (EF w) := hEF
      obtain ⟨R, hR⟩ : ∃ R, rlR (schOk ts) ts a1.data.toList = R := ⟨_, rfl⟩
      have hRW := rlR_wf (ok := schOk ts) (ts := ts) (b := a1.data.toList) (fun h => h)
      rw [hR] at hRW
      have HSP : Hid (∀ v' w', IsTyps w'.heap.size w' v' ts → Calls Tryd.prog 5 #[v', .string a1] w' fun e w'' => DecV R w' e w'') := fun v' w' h => by rw [← hR]; exact specRlpDec_any ts v' a1 w' h hb
      have HIM : Hid (∀ v' w', IsTyps w'.heap.size w' v' ts → Below w.heap.size w w' → Calls Tryd.prog 7 #[v', .string a1] w' fun e w'' => DecV R w' e w'') := fun v' w' h hbw => by rw [← hR]; exact implRlpDec_any ts v' a1 w' h hb (hkr.below hbw) (ET.below (B := 0) hET hbw) (EF.below hEF hbw)
      have HTO : Hid (∀ w', Below w.heap.size w w' → Calls Tryd.prog 6 #[.slice a0 len0 cap0] w' fun e w'' => (e = .returned (.slice (some ⟨w'.heap.size, 0, none⟩) ts.length ts.length) ∧ RowTo ts w'' w'.heap.size ts.length ∧ IsTyps w''.heap.size w'' (.slice (some ⟨w'.heap.size, 0, none⟩) ts.length ts.length) ts) ∧ Below w'.heap.size w' w'') := fun w' hbw => toTypS_row ts _ w' ((HV.out.below hbw).up hbw.size)
      obtain ⟨o, ho⟩ : ∃ o, R.isSome = o := ⟨_, rfl⟩
      obtain ⟨vs, hvs⟩ : ∃ vs, R.getD [] = vs := ⟨_, rfl⟩
      rw [hvs] at hRW
      have HO : Hid (R.isSome = o) := ho
      have HVS : Hid (R.getD [] = vs) := hvs
      have hvl : vs.length ≤ 200 := hRW.1
      have HIT : Hid (∀ (B : Nat) (w' : World) (v : Value), OwnIt B w' v vs → IsItems w'.heap.size w' v vs) := fun B w' v h => h.items (by omega) hRW.2
      have hq : (o != o) = false := by cases o <;> rfl
      have hq2 : (o == o) = true := by cases o <;> rfl
      obtain ⟨n, hn⟩ : ∃ n, vs.length = n := ⟨_, rfl⟩
      have HN : Hid (vs.length = n) := hn
      clear h3 hv hkr hET hEF hts hs hL hR hRW ho hvs
      go_enter Tryd.func3, Tryd.ntmps3
      go_wp2_with fail
      refine (HZ.out _).mono ?_
      rintro e w1 ⟨rfl, rfl⟩
      go_wp2_with fail
      refine (HTO.out _ (Below.refl _ _)).mono ?_
      rintro e w2 ⟨⟨rfl, _, ht⟩, hb2⟩
      have HB2 : Hid (Below w1.heap.size w1 w2) := hb2
      have HT2 : Hid (IsTyps w2.heap.size w2 (.slice (some ⟨w1.heap.size, 0, none⟩) ts.length ts.length) ts) := ht
      clear hb2 ht
      go_wp2_with fail
      refine (HSP.out _ _ HT2.out).mono ?_
      rintro e w3 ⟨⟨v3, rfl, hown⟩, hb3⟩
      rw [HO.out]
      rw [HVS.out] at hown
      have HB3 : Hid (Below w1.heap.size w1 w3) := HB2.out.trans (hb3.mono HB2.out.size)
      have HO3 : Hid (OwnIt w2.heap.size w3 v3 vs) := hown
      clear hb3 hown
      go_wp2_with fail
      refine (HTO.out _ HB3.out).mono ?_
      rintro e w4 ⟨⟨rfl, hrow, ht⟩, hb4⟩
      have HB4 : Hid (Below w1.heap.size w1 w4) := HB3.out.trans (hb4.mono HB3.out.size)
      have HT4 : Hid (IsTyps w4.heap.size w4 (.slice (some ⟨w3.heap.size, 0, none⟩) ts.length ts.length) ts) := ht
      have HR4 : Hid (RowTo ts w4 w3.heap.size ts.length) := hrow
      have HO4 : Hid (OwnIt w2.heap.size w4 v3 vs) := HO3.out.kept hb4
      have HX4 : Hid (w3.heap.size < w4.heap.size) := by obtain ⟨cs, h, _⟩ := hrow; exact blk_lt h
      have HX3 : Hid (∀ k, v3.ownBlock = some k → k < w3.heap.size) := fun k hk => (World.ownsRow.lt HO3.out k hk).2
      clear hb4 ht hrow
      have HX0 : Hid (w1.heap.size ≤ w3.heap.size) := HB3.out.size
      obtain ⟨X, hX⟩ : ∃ X, w3.heap.size = X := ⟨_, rfl⟩
      rw [hX] at HT4 HR4 HX4 HX3 HX0 ⊢
      clear hX
      go_wp2_with fail
      refine (HIM.out _ _ HT4.out HB4.out).mono ?_
      rintro e w5 ⟨⟨v5, rfl, hown⟩, hb5⟩
      rw [HO.out]
      rw [HVS.out] at hown
      have HB5 : Hid (Below w1.heap.size w1 w5) := HB4.out.trans (hb5.mono HB4.out.size)
      have HO35 : Hid (OwnIt w2.heap.size w5 v3 vs) := HO4.out.kept hb5
      have HO5 : Hid (OwnIt w4.heap.size w5 v5 vs) := hown
      have HR5 : Hid (RowTo ts w5 X ts.length) := HR4.out.keep (hb5.block _ HX4.out)
      have HT5 : Hid (IsTyps w5.heap.size w5 (.slice (some ⟨X, 0, none⟩) ts.length ts.length) ts) := (HT4.out.below hb5).up hb5.size
      have HX5 : Hid (X < w5.heap.size) := Nat.lt_of_lt_of_le HX4.out hb5.size
      clear hb5 hown
      go_wp2_with fail
      refine (eqItemS_same vs _ _ w5 (HIT.out _ _ _ HO5.out) (HIT.out _ _ _ HO35.out)).mono ?_
      rintro e w6 ⟨rfl, hb6⟩
      have HB6 : Hid (Below w1.heap.size w1 w6) := HB5.out.trans (hb6.mono HB5.out.size)
      have HO36 : Hid (OwnIt w2.heap.size w6 v3 vs) := HO35.out.kept hb6
      have HO56 : Hid (OwnIt w4.heap.size w6 v5 vs) := HO5.out.kept hb6
      have HR6 : Hid (RowTo ts w6 X ts.length) := HR5.out.keep (hb6.block _ HX5.out)
      have HT6 : Hid (IsTyps w6.heap.size w6 (.slice (some ⟨X, 0, none⟩) ts.length ts.length) ts) := (HT5.out.below hb6).up hb6.size
      have HX6 : Hid (X < w6.heap.size) := Nat.lt_of_lt_of_le HX5.out hb6.size
      clear hb6
      go_wp2_with fail
      refine (HTO.out _ HB6.out).mono ?_
      rintro e w7 ⟨⟨rfl, _, ht⟩, hb7⟩
      have HB7 : Hid (Below w1.heap.size w1 w7) := HB6.out.trans (hb7.mono HB6.out.size)
      have HO37 : Hid (OwnIt w2.heap.size w7 v3 vs) := HO36.out.kept hb7
      have HO57 : Hid (OwnIt w4.heap.size w7 v5 vs) := HO56.out.kept hb7
      have HR7 : Hid (RowTo ts w7 X ts.length) := HR6.out.keep (hb7.block _ HX6.out)
      have HT7 : Hid (IsTyps w7.heap.size w7 (.slice (some ⟨X, 0, none⟩) ts.length ts.length) ts) := (HT6.out.below hb7).up hb7.size
      have HT7' : Hid (IsTyps w7.heap.size w7 (.slice (some ⟨w6.heap.size, 0, none⟩) ts.length ts.length) ts) := ht
      have HX7 : Hid (X < w7.heap.size) := Nat.lt_of_lt_of_le HX6.out hb7.size
      clear hb7 ht
      go_wp2_with fail
      refine (eqTypS_any ts ts _ _ w7 HT7.out HT7'.out).mono ?_
      rintro e w8 ⟨rfl, hb8⟩
      have hd : decide (ts = ts) = true := by simp
      rw [hd]
      have HB8 : Hid (Below w1.heap.size w1 w8) := HB7.out.trans (hb8.mono HB7.out.size)
      have HO38 : Hid (OwnIt w2.heap.size w8 v3 vs) := HO37.out.kept hb8
      have HO58 : Hid (OwnIt w4.heap.size w8 v5 vs) := HO57.out.kept hb8
      have HR8 : Hid (RowTo ts w8 X ts.length) := HR7.out.keep (hb8.block _ HX7.out)
      have HX8 : Hid (X < w8.heap.size) := Nat.lt_of_lt_of_le HX7.out hb8.size
      clear hb8 hd
      go_wp2_with fail
      refine (markTypS_row 1 ts X w8 (by decide) (by omega) HR8.out).mono ?_
      rintro e w9 ⟨rfl, hg⟩
      have HB9 : Hid (Below w1.heap.size w1 w9) := HB8.out.trans (mkt_below hg HX0.out HX8.out)
      have HO39 : Hid (OwnIt w2.heap.size w9 v3 vs) := World.ownsRow.kept HO38.out hg (by cases hv : v3.ownBlock with | none => exact .inl rfl | some k => exact .inr (fun e => by have h1 := HX3.out k hv; simp only [Option.some.injEq] at e; omega))
      have HO59 : Hid (OwnIt w4.heap.size w9 v5 vs) := World.ownsRow.kept HO58.out hg (by cases hv : v5.ownBlock with | none => exact .inl rfl | some k => exact .inr (fun e => by have h1 := (World.ownsRow.lt HO5.out k hv).1; have h2 := HX4.out; simp only [Option.some.injEq] at e; omega))
      clear hg
      obtain ⟨K, hK⟩ : ∃ K : Nat, 1 + 2 * ts.length = K := ⟨_, rfl⟩
      have hK0 : ¬ (K : Int) < 0 := by omega
      have hK1 : decide ((K : Int) < 0) = false := by simp
      have hK2 : K ≤ 2097155 := by omega
      rw [hK]
      clear hK
      go_wp2_with fail
      refine (eqItemS_same vs _ _ w9 (HIT.out _ _ _ HO59.out) (HIT.out _ _ _ HO39.out)).mono ?_
      rintro e w10 ⟨rfl, hb10⟩
      have HB10 : Hid (Below w1.heap.size w1 w10) := HB9.out.trans (hb10.mono HB9.out.size)
      have HO3a : Hid (OwnIt w2.heap.size w10 v3 vs) := HO39.out.kept hb10
      have HO5a : Hid (OwnIt w4.heap.size w10 v5 vs) := HO59.out.kept hb10
      clear hb10 hK0 hK1
      go_wp2_with fail
      refine (markItemS_any 1 n w4.heap.size v5 w10 (by decide) (by decide) (by omega) (by have h := MkS.ofOwn HO5a.out; rw [HN.out] at h; exact h)).mono ?_
      rintro e w11 ⟨⟨rfl, hmk⟩, hg⟩
      have hlow : ∀ k, v5.ownBlock = some k → w4.heap.size ≤ k := fun k hk => (World.ownsRow.lt HO5a.out k hk).1
      have hb : Below w1.heap.size w10 w11 := ⟨hg.os, hg.tape, hg.output, hg.size, fun k hk => hg.block k (by have := HB10.out.size; omega) (fun e => by have := hlow k e.symm; have := HB4.out.size; omega)⟩
      have HB11 : Hid (Below w1.heap.size w1 w11) := HB10.out.trans hb
      have HO3b : Hid (OwnIt w2.heap.size w11 v3 vs) := World.ownsRow.kept HO3a.out hg (by cases hv : v3.ownBlock with | none => exact .inl rfl | some k => exact .inr (fun e => by have h1 := hlow k e.symm; have h2 := HX3.out k hv; have h3 := HX4.out; omega))
      have HM11 : Hid (MkS 1 n n w4.heap.size w11 v5) := hmk
      obtain ⟨Q, hQ⟩ : ∃ Q : Nat, 1 + 3 * n = Q := ⟨_, rfl⟩
      have hQ0 : ¬ (Q : Int) < 0 := by omega
      have hQ1 : Q ≤ 3001 := by omega
      rw [hQ]
      have HH : Hid (∀ w', MkS 1 n n w4.heap.size w' v5 → Calls Tryd.prog 12 #[v5, .int .i64 1] w' fun e w'' => e = .returned (.int .i64 (Q : Int)) ∧ Below w'.heap.size w' w'') := fun w' h => by have := heldItemS_any 1 n w4.heap.size v5 w' (by decide) (by decide) (by omega) h; rw [hQ] at this; exact this
      clear hQ hb hg hmk hlow
      go_wp2_with fail
      refine (HH.out _ HM11.out).mono ?_
      rintro e w12 ⟨rfl, hb⟩
      have HB12 : Hid (Below w1.heap.size w1 w12) := HB11.out.trans (hb.mono HB11.out.size)
      have HO3c : Hid (OwnIt w2.heap.size w12 v3 vs) := HO3b.out.kept hb
      have HM12 : Hid (MkS 1 n n w4.heap.size w12 v5) := HM11.out.below hb
      clear hb
      go_wp2_with fail
      refine (HTO.out _ HB12.out).mono ?_
      rintro e w13 ⟨⟨rfl, _, ht⟩, hb⟩
      have HB13 : Hid (Below w1.heap.size w1 w13) := HB12.out.trans (hb.mono HB12.out.size)
      have HO3d : Hid (OwnIt w2.heap.size w13 v3 vs) := HO3c.out.kept hb
      have HM13 : Hid (MkS 1 n n w4.heap.size w13 v5) := HM12.out.below hb
      have HT13 : Hid (IsTyps w13.heap.size w13 (.slice (some ⟨w12.heap.size, 0, none⟩) ts.length ts.length) ts) := ht
      clear hb ht
      go_wp2_with fail
      refine (HIM.out _ _ HT13.out HB13.out).mono ?_
      rintro e w14 ⟨⟨v14, rfl, hown⟩, hb⟩
      rw [HO.out]
      rw [HVS.out] at hown
      have HB14 : Hid (Below w1.heap.size w1 w14) := HB13.out.trans (hb.mono HB13.out.size)
      have HO3e : Hid (OwnIt w2.heap.size w14 v3 vs) := HO3d.out.kept hb
      have HM14 : Hid (MkS 1 n n w4.heap.size w14 v5) := HM13.out.below hb
      have HO14 : Hid (OwnIt w13.heap.size w14 v14 vs) := hown
      clear hb hown
      go_wp2_with fail
      refine (eqItemS_same vs _ _ w14 (HIT.out _ _ _ HO14.out) (HIT.out _ _ _ HO3e.out)).mono ?_
      rintro e w15 ⟨rfl, hb⟩
      have HB15 : Hid (Below w1.heap.size w1 w15) := HB14.out.trans (hb.mono HB14.out.size)
      have HM15 : Hid (MkS 1 n n w4.heap.size w15 v5) := HM14.out.below hb
      clear hb
      go_wp2_with fail
      refine (HH.out _ HM15.out).mono ?_
      rintro e w16 ⟨rfl, hb⟩
      have HB16 : Hid (Below w1.heap.size w1 w16) := HB15.out.trans (hb.mono HB15.out.size)
      clear hb
      go_wp2_with fail
      go_ret
      exact ⟨rfl, HB16.out⟩
end Go.Proofs.YtdncnjmlicdamaaDoor.fnExactRlpDec
