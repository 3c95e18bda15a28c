/- Whatever its arguments, laws.FnExactProtoEnc returns true and leaves them, and the table that it reads, as they were; the table starts as the program's text lays it. -/
import Derived.Test.YtocealohiflheaaDoorCards
import Derived.Test.YtocealohiflheaaDoorTie
import Derived.Test.YtocealohiflheaaDoorWPl
import Derived.Test.YtocealohiflheaaDoorS7g
import Derived.Test.YtocealohiflheaaDoorS3l
import Derived.SevenTiedAt
namespace Go.Proofs.YtocealohiflheaaDoor.fnExactProtoEnc
open Go.ChangeShapes Go.WideShapes Go.ChangeAt Go.RowKit
open Go.ChangeMaps (open_string shut_string)
set_option linter.unusedVariables false

set_option maxRecDepth 100000 in
set_option maxHeartbeats 2000000 in
theorem walk (a0 : Option Addr) (len0 cap0 : Nat) (a1 : Option Addr) (len1 cap1 : Nat) (w : World) (w0 : ArgTyps w a0 len0 cap0) (w1 : ArgItems w a1 len1 cap1) (hkr : KR w) (hET : ET w) :
    Calls Tryd.prog 3 #[.slice a0 len0 cap0, .slice a1 len1 cap1] w fun e w' => e = .returned (.bool true) ∧ Below w.heap.size w w' := by
  obtain ⟨h1, h2, h3⟩ := w0
  obtain ⟨g1, g2, vs, hvs, hraw⟩ := w1
  by_cases hs : 1048576 < len0
  · have HZ : Hid (∀ w, Calls Tryd.prog 7 #[.slice a0 len0 cap0, .int .i64 1048576] w fun e w' => e = .returned (.int .i64 (-1)) ∧ w' = w) := fun w => by
      have := szTypS_any a0 len0 cap0 1048576 w (by omega) (by omega) (by omega)
      rwa [if_pos (by omega)] at this
    clear h3 hraw
    go_enter Tryd.func3, Tryd.ntmps3
    go_wp2_with fail
    refine (HZ.out _).mono ?_
    rintro e w1 ⟨rfl, rfl⟩
    go_wp2_with fail
    go_ret
    exact ⟨rfl, Below.refl _ _⟩
  · obtain ⟨ts, hts, hv⟩ := h3 (by omega)
    obtain ⟨L, hL⟩ : ∃ L : Nat, (1048576 : Int) - (len0 : Int) = (L : Int) := ⟨1048576 - len0, by omega⟩
    have hLl : L ≤ 1048576 := by omega
    have HZ : Hid (∀ w, Calls Tryd.prog 7 #[.slice a0 len0 cap0, .int .i64 1048576] w fun e w' => e = .returned (.int .i64 (L : Int)) ∧ w' = w) := fun w => by
      have := szTypS_any a0 len0 cap0 1048576 w (by omega) (by omega) (by omega)
      rw [if_neg (by omega), hL] at this
      exact this
    have hz : ¬ (L : Int) < 0 := by omega
    have HV : Hid (IsTyps w.heap.size w (.slice a0 len0 cap0) ts) := hv
    have HK : Hid (KR w) := hkr
    have HE : Hid (ET w) := hET
    clear h3 hv hkr hts hs hL hET
    by_cases hs1 : L < len1
    · have HY : Hid (∀ w, Calls Tryd.prog 8 #[.slice a1 len1 cap1, .int .i64 (L : Int)] w fun e w' => e = .returned (.int .i64 (-1)) ∧ Below w.heap.size w w') := fun w => szItemS_big a1 len1 cap1 L w hLl (by omega) hs1
      clear hraw hvs
      go_enter Tryd.func3, Tryd.ntmps3
      go_wp2_with fail
      refine (HZ.out _).mono ?_
      rintro e w1 ⟨rfl, rfl⟩
      go_wp2_with fail
      refine (HY.out _).mono ?_
      rintro e w2 ⟨rfl, hb2⟩
      go_wp2_with fail
      go_ret
      exact ⟨rfl, hb2⟩
    · subst hvs
      have HY : Hid (Calls Tryd.prog 8 #[.slice a1 vs.length cap1, .int .i64 (L : Int)] w fun e w' => (∃ r : Int, e = .returned (.int .i64 r) ∧ (r = -1 ∨ (0 ≤ r ∧ ∀ x ∈ vs, x.s.size ≤ 1048577))) ∧ Below w.heap.size w w') := szItemS_any vs a1 cap1 L w hLl g1 g2 (by omega) hraw
      have HRW : Hid (RawItems w a1 vs) := hraw
      have hvl : vs.length ≤ 1048577 := by omega
      clear hraw
      go_enter Tryd.func3, Tryd.ntmps3
      go_wp2_with fail
      refine (HZ.out _).mono ?_
      rintro e w1 ⟨rfl, rfl⟩
      go_wp2_with fail
      refine Calls.mono HY.out ?_
      rintro e w2 ⟨⟨r, rfl, hr | ⟨hr, hall⟩⟩, hb2⟩
      · subst hr
        go_wp2_with fail
        go_ret
        exact ⟨rfl, hb2⟩
      · have HI : Hid (IsItems w1.heap.size w1 (.slice a1 vs.length cap1) vs) := HRW.out.items hvl g1 g2 hall
        have HB2 : Hid (Below w1.heap.size w1 w2) := hb2
        have hr' : ¬ r < 0 := by omega
        clear hall hb2 HY HZ HRW
        have HTO : Hid (∀ w', Below w1.heap.size w1 w' → Calls Tryd.prog 10 #[.slice a0 len0 cap0] w' fun e w'' => ∃ v', e = .returned v' ∧ IsTyps w''.heap.size w'' v' ts ∧ Below w'.heap.size w' w'') := fun w' hb => toTypS_any ts _ w' ((HV.out.below hb).up hb.size)
        have HIO : Hid (∀ w', Below w1.heap.size w1 w' → Calls Tryd.prog 11 #[.slice a1 vs.length cap1] w' fun e w'' => ∃ v', e = .returned v' ∧ IsItems w''.heap.size w'' v' vs ∧ Below w'.heap.size w' w'') := fun w' hb => toItemS_any vs _ w' ((HI.out.below hb).up hb.size)
        go_wp2_with fail
        refine (HTO.out _ HB2.out).mono ?_
        rintro e w3 ⟨v3, rfl, hv3, hb3⟩
        have HB3 : Hid (Below w1.heap.size w1 w3) := HB2.out.trans (hb3.mono HB2.out.size)
        have HV3 : Hid (IsTyps w3.heap.size w3 v3 ts) := hv3
        clear hv3 hb3
        go_wp2_with fail
        refine (HIO.out _ HB3.out).mono ?_
        rintro e w4 ⟨v4, rfl, hv4, hb4⟩
        have HB4 : Hid (Below w1.heap.size w1 w4) := HB3.out.trans (hb4.mono HB3.out.size)
        have HV4 : Hid (IsTyps w4.heap.size w4 v3 ts) := (HV3.out.below hb4).up hb4.size
        have HI4 : Hid (IsItems w4.heap.size w4 v4 vs) := hv4
        clear hv4 hb4 HV3
        go_wp2_with fail
        refine (specProtoEnc_any ts vs _ _ _ HV4.out HI4.out).mono ?_
        rintro e w5 ⟨rfl, hb5⟩
        obtain ⟨x, hx⟩ : ∃ x, (pm ts 7 0 && typedB ts vs) = x := ⟨_, rfl⟩
        obtain ⟨y, hy⟩ : ∃ y, encB (pm ts 7 0 && typedB ts vs) (proL ts vs) = y := ⟨_, rfl⟩
        have HX : Hid ((pm ts 7 0 && typedB ts vs) = x) := hx
        have HYY : Hid (encB (pm ts 7 0 && typedB ts vs) (proL ts vs) = y) := hy
        rw [hy, hx]
        have HB5 : Hid (Below w1.heap.size w1 w5) := HB4.out.trans (hb5.mono HB4.out.size)
        clear hx hy hb5 HV4 HI4
        go_wp2_with fail
        refine (HTO.out _ HB5.out).mono ?_
        rintro e w6 ⟨v6, rfl, hv6, hb6⟩
        have HB6 : Hid (Below w1.heap.size w1 w6) := HB5.out.trans (hb6.mono HB5.out.size)
        have HV6 : Hid (IsTyps w6.heap.size w6 v6 ts) := hv6
        clear hv6 hb6
        go_wp2_with fail
        refine (HIO.out _ HB6.out).mono ?_
        rintro e w7 ⟨v7, rfl, hv7, hb7⟩
        have HB7 : Hid (Below w1.heap.size w1 w7) := HB6.out.trans (hb7.mono HB6.out.size)
        have HV7 : Hid (IsTyps w7.heap.size w7 v6 ts) := (HV6.out.below hb7).up hb7.size
        have HI7 : Hid (IsItems w7.heap.size w7 v7 vs) := hv7
        clear hv7 hb7 HV6
        go_wp2_with fail
        refine (implProtoEnc_any ts vs _ _ _ HV7.out HI7.out (HK.out.below HB7.out) (ET.below (B := 0) HE.out HB7.out)).mono ?_
        rintro e w8 ⟨rfl, hb8⟩
        rw [HYY.out, HX.out]
        have HB8 : Hid (Below w1.heap.size w1 w8) := HB7.out.trans (hb8.mono HB7.out.size)
        have HV8 : Hid (IsTyps w8.heap.size w8 v6 ts) := (HV7.out.below hb8).up hb8.size
        have HI8 : Hid (IsItems w8.heap.size w8 v7 vs) := (HI7.out.below hb8).up hb8.size
        clear hb8 HV7 HI7
        have hq : (x != x) = false := by cases x <;> rfl
        go_wp2_with fail
        refine (HTO.out _ HB8.out).mono ?_
        rintro e w9 ⟨v9, rfl, hv9, hb9⟩
        have HB9 : Hid (Below w1.heap.size w1 w9) := HB8.out.trans (hb9.mono HB8.out.size)
        have HV9 : Hid (IsTyps w9.heap.size w9 v6 ts) := (HV8.out.below hb9).up hb9.size
        have HV9' : Hid (IsTyps w9.heap.size w9 v9 ts) := hv9
        have HI9 : Hid (IsItems w9.heap.size w9 v7 vs) := (HI8.out.below hb9).up hb9.size
        clear hv9 hb9 HV8 HI8
        go_wp2_with fail
        refine (eqTypS_any ts ts _ _ w9 HV9.out HV9'.out).mono ?_
        rintro e wa ⟨rfl, hba⟩
        have hd : decide (ts = ts) = true := by simp
        rw [hd]
        have HBa : Hid (Below w1.heap.size w1 wa) := HB9.out.trans (hba.mono HB9.out.size)
        have HIa : Hid (IsItems wa.heap.size wa v7 vs) := (HI9.out.below hba).up hba.size
        clear hba hd HV9 HV9' HI9
        go_wp2_with fail
        refine (HIO.out _ HBa.out).mono ?_
        rintro e wb ⟨vb, rfl, hvb, hbb⟩
        have HBb : Hid (Below w1.heap.size w1 wb) := HBa.out.trans (hbb.mono HBa.out.size)
        have HIb : Hid (IsItems wb.heap.size wb v7 vs) := (HIa.out.below hbb).up hbb.size
        have HIb' : Hid (IsItems wb.heap.size wb vb vs) := hvb
        clear hvb hbb HIa
        go_wp2_with fail
        refine (eqItemS_same vs _ _ wb HIb.out HIb'.out).mono ?_
        rintro e wc ⟨rfl, hbc⟩
        have HBc : Hid (Below w1.heap.size w1 wc) := HBb.out.trans (hbc.mono HBb.out.size)
        clear hbc
        go_wp2_with fail
        go_ret
        exact ⟨rfl, HBc.out⟩
end Go.Proofs.YtocealohiflheaaDoor.fnExactProtoEnc
