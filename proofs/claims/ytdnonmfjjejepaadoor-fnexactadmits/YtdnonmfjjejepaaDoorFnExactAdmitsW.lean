/- Whatever its arguments, laws.FnExactAdmits returns true and leaves them, and the table that it reads, as they were; the table starts as the program's text lays it. -/
import Derived.Test.YtdnonmfjjejepaaDoorCards
import Derived.Test.YtdnonmfjjejepaaDoorTie
import Derived.Test.YtdnonmfjjejepaaDoorSQb
import Derived.Test.YtdnonmfjjejepaaDoorSPg
import Derived.Test.YtdnonmfjjejepaaDoorS2j
import Derived.Test.YtdnonmfjjejepaaDoorS2k
import Derived.SevenTiedAt
namespace Go.Proofs.YtdnonmfjjejepaaDoor.fnExactAdmits
open Go.ChangeShapes Go.WideShapes Go.ChangeAt Go.RowKit
open Go.ChangeMaps (open_string shut_string)
set_option linter.unusedVariables false

set_option maxHeartbeats 1000000 in
theorem walk (a0 : Int) (a1 : Option Addr) (len1 cap1 : Nat) (w : World) (w0 : (Lit.int .i64 a0).wf = true) (w1 : ArgTyps w a1 len1 cap1) (hkr : KR w) (hET : ET w) :
    Calls Tryd.prog 3 #[.int .i64 a0, .slice a1 len1 cap1] w fun e w' => e = .returned (.bool true) ∧ Below w.heap.size w w' := by
  obtain ⟨h1, h2, h3⟩ := w1
  by_cases hs : 1048576 < len1
  · have HZ : Hid (∀ w, Calls Tryd.prog 4 #[.slice a1 len1 cap1, .int .i64 1048576] w fun e w' => e = .returned (.int .i64 (-1)) ∧ w' = w) := fun w => by
      have := szTypS_any a1 len1 cap1 1048576 w (by omega) (by omega) (by omega)
      rwa [if_pos (by omega)] at this
    clear h3
    go_enter Tryd.func3, Tryd.ntmps3
    go_wp2_with fail
    refine (HZ.out _).mono ?_
    rintro e w1 ⟨rfl, rfl⟩
    go_wp2_with fail
    go_ret
    exact ⟨rfl, Below.refl _ _⟩
  · obtain ⟨ts, hts, hv⟩ := h3 (by omega)
    have hle : len1 ≤ 1048576 := by omega
    have HZ : Hid (∀ w, Calls Tryd.prog 4 #[.slice a1 len1 cap1, .int .i64 1048576] w fun e w' => e = .returned (.int .i64 (1048576 - len1)) ∧ w' = w) := fun w => by
      have := szTypS_any a1 len1 cap1 1048576 w (by omega) (by omega) (by omega)
      rwa [if_neg (by omega)] at this
    have hz : ¬ (1048576 - (len1 : Int)) < 0 := by omega
    have HV : Hid (IsTyps w.heap.size w (.slice a1 len1 cap1) ts) := hv
    have HK : Hid (KR w) := hkr
    have HE : Hid (ET w) := hET
    clear hET h3 hv hkr hts hs
    go_enter Tryd.func3, Tryd.ntmps3
    go_wp2_with fail
    refine (HZ.out _).mono ?_
    rintro e w1 ⟨rfl, rfl⟩
    go_wp2_with fail
    refine (toTypS_any ts _ w1 HV.out).mono ?_
    rintro e w2 ⟨v2, rfl, hv2, hb2⟩
    go_wp2_with fail
    refine (specAdmits_any a0 ts _ _ hv2).mono ?_
    rintro e w3 ⟨rfl, hb3⟩
    obtain ⟨x, hx⟩ : ∃ x, (adm a0 ts) = x := ⟨_, rfl⟩
    have HX : Hid ((adm a0 ts) = x) := hx
    rw [hx]
    clear hx
    have B3 : Below w1.heap.size w1 w3 := hb2.trans (hb3.mono hb2.size)
    have HB3 : Hid (Below w1.heap.size w1 w3) := B3
    clear hv2 hb2 hb3 B3
    go_wp2_with fail
    refine (toTypS_any ts _ w3 ((HV.out.below HB3.out).up HB3.out.size)).mono ?_
    rintro e w4 ⟨v4, rfl, hv4, hb4⟩
    have HB4 : Hid (Below w1.heap.size w1 w4) := HB3.out.trans (hb4.mono HB3.out.size)
    have HV4 : Hid (IsTyps w4.heap.size w4 v4 ts) := hv4
    clear hv4 hb4
    go_wp2_with fail
    refine (implAdmits_any a0 ts _ _ HV4.out (HK.out.below HB4.out) (ET.below (B := 0) HE.out HB4.out)).mono ?_
    rintro e w5 ⟨rfl, hb5⟩
    rw [HX.out]
    have HB5 : Hid (Below w1.heap.size w1 w5) := HB4.out.trans (hb5.mono HB4.out.size)
    have HV5 : Hid (IsTyps w5.heap.size w5 v4 ts) := (HV4.out.below hb5).up hb5.size
    clear hb5
    have hq : (x != x) = false := by cases x <;> rfl
    go_wp2_with fail
    refine (toTypS_any ts _ w5 ((HV.out.below HB5.out).up HB5.out.size)).mono ?_
    rintro e w6 ⟨v6, rfl, hv6, hb6⟩
    have HB6 : Hid (Below w1.heap.size w1 w6) := HB5.out.trans (hb6.mono HB5.out.size)
    have HV6 : Hid (IsTyps w6.heap.size w6 v4 ts) := (HV5.out.below hb6).up hb6.size
    have HV7 : Hid (IsTyps w6.heap.size w6 v6 ts) := hv6
    clear hb6 hv6
    go_wp2_with fail
    refine (eqTypS_any ts ts _ _ w6 HV6.out HV7.out).mono ?_
    rintro e w7 ⟨rfl, hb7⟩
    have hd : decide (ts = ts) = true := by simp
    rw [hd]
    have HB7 : Hid (Below w1.heap.size w1 w7) := HB6.out.trans (hb7.mono HB6.out.size)
    clear hb7 hd
    go_wp2_with fail
    go_ret
    exact ⟨rfl, HB7.out⟩
end Go.Proofs.YtdnonmfjjejepaaDoor.fnExactAdmits
