/- Whatever its arguments, laws.FnSchemas returns true and leaves them, and the table that it reads, as they were; the table starts as the program's text lays it. -/
import Derived.Test.YtlfodnkiamogiaaGreatDoorCards
import Derived.Test.YtlfodnkiamogiaaGreatDoorTie
import Derived.Test.YtlfodnkiamogiaaGreatDoorDrawR
import Derived.Test.YtlfodnkiamogiaaGreatDoorSRs
import Derived.Test.YtlfodnkiamogiaaGreatDoorS4e
import Derived.Test.YtlfodnkiamogiaaGreatDoorSRh
import Derived.Test.YtlfodnkiamogiaaGreatDoorSRk
import Derived.Test.YtlfodnkiamogiaaGreatDoorS2k
import Derived.SevenTiedAt
import Derived.Lay
namespace Go.Proofs.YtlfodnkiamogiaaGreatDoor.fnSchemas
open Go.ChangeShapes Go.WideShapes Go.ChangeAt Go.RowKit
open Go.ChangeMaps (open_string shut_string)
set_option linter.unusedVariables false
theorem big_any (a : Option Addr) (len cap : Nat) (w : World) (hl : len ≤ maxLen) : Calls Tryz.prog 4 #[.slice a len cap] w fun e w' => e = .returned (.bool (decide (1048576 < len))) ∧ w' = w := by
  unfold maxLen at hl
  go_enter Tryz.func4, Tryz.ntmps4
  go_wp2
  go_ret
  exact ⟨ret_b (by simp; omega), rfl⟩
theorem row_len {k : IntKind} {w : World} {a : Option Addr} {len cap : Nat} {zs : List Int} (h : IsRow k w a len cap zs) : len ≤ maxLen := by
  rcases h with ⟨_, rfl, _, _⟩ | ⟨x, _, h1, h2, _⟩
  · simp [maxLen]
  · omega
theorem rd_len {s : List UInt8} {r : Option (List (Int × Int))} (h : RdOk s r) : (r.getD []).length ≤ 40 := by
  cases r with
  | none => simp
  | some ts => exact (schOk_iff.1 (h.1 ts rfl).1).1

set_option maxRecDepth 100000 in
set_option maxHeartbeats 4000000 in
theorem walk (a0 : Option Addr) (len0 cap0 : Nat) (z0 : List Int) (w : World) (w0 : IsRow .u8 w a0 len0 cap0 z0) (hev : EV w) :
    Calls Tryz.prog 3 #[.slice a0 len0 cap0] w fun e w' => e = .returned (.bool true) ∧ Below w.heap.size w w' := by
  have hlm := row_len w0
  have HEV : Hid (EV w) := hev
  by_cases hbig : 1048576 < len0
  · have hd : decide (1048576 < len0) = true := decide_eq_true hbig
    have HB : Hid (∀ w, Calls Tryz.prog 4 #[.slice a0 len0 cap0] w fun e w' => e = .returned (.bool true) ∧ w' = w) := fun w => by have := big_any a0 len0 cap0 w hlm; rwa [hd] at this
    clear w0 hlm hbig hd hev
    go_enter Tryz.func3, Tryz.ntmps3
    go_wp2_with fail
    refine (HB.out _).mono ?_
    rintro e w1 ⟨rfl, rfl⟩
    go_wp2_with fail
    go_ret
    exact ⟨rfl, Below.refl _ _⟩
  · have hd : decide (1048576 < len0) = false := decide_eq_false hbig
    have HB : Hid (∀ w, Calls Tryz.prog 4 #[.slice a0 len0 cap0] w fun e w' => e = .returned (.bool false) ∧ w' = w) := fun w => by have := big_any a0 len0 cap0 w hlm; rwa [hd] at this
    have HD : Hid (Calls Tryz.prog 5 #[.slice a0 len0 cap0] w fun e w' => DrawPost w e w') := DrawSchemaText_any w.heap.size a0 len0 cap0 w (Nat.le_refl _) w0.code (by omega)
    have HU : Hid (∀ w', Below w.heap.size w w' → Calls Tryz.prog 7 #[.slice a0 len0 cap0] w' fun e w'' => (∃ t : ByteArray, e = .returned (.string t) ∧ t.size ≤ 1000) ∧ Below w'.heap.size w' w'') := fun w' hb => DrawReadSchema_any w.heap.size a0 len0 cap0 w' hb.size (w0.code.below hb) (by omega)
    clear w0 hlm hbig hd hev
    go_enter Tryz.func3, Tryz.ntmps3
    go_wp2_with fail
    refine (HB.out _).mono ?_
    rintro e w1 ⟨rfl, rfl⟩
    go_wp2_with fail
    refine Calls.mono HD.out ?_
    rintro e w2 ⟨v2, ts, rfl, hown, h41, hwf, hb2⟩
    have HV2 : Hid (IsTyps w2.heap.size w2 v2 ts) := own_typs hown (by omega) hwf
    have HB2 : Hid (Below w1.heap.size w1 w2) := hb2
    obtain ⟨X, hX⟩ : ∃ X : ByteArray, (⟨(schText ts).toArray⟩ : ByteArray) = X := ⟨_, rfl⟩
    have HXD : Hid (X.data.toList = schText ts) := by show _ = _; rw [← hX]
    have hXs : X.size ≤ 400 := by
      cases hk : schOk ts with
      | true => have h1 := (sch_len hk).1; rw [← HXD.out, ba_len] at h1; exact h1
      | false => have h1 := ba_len X; rw [HXD.out, schText_no hk] at h1; simp at h1; omega
    have HIT : Hid (∀ w', IsTyps w'.heap.size w' v2 ts → EV w' → Calls Tryz.prog 6 #[v2] w' fun e w'' => e = .returned (.string X) ∧ Below w'.heap.size w' w'') := fun w' h he => by rw [← hX]; exact implSchemaText_any ts v2 w' h he.kin he.tab
    have HSTX : Hid (∀ w', IsTyps w'.heap.size w' v2 ts → Calls Tryz.prog 10 #[v2] w' fun e w'' => e = .returned (.string X) ∧ Below w'.heap.size w' w'') := fun w' h => by rw [← hX]; exact specSchemaText_any ts v2 w' h
    have hxx : (X.toList == X.toList) = true := by simp
    clear hown hwf hX HD HB hb2
    go_wp2_with fail
    refine (HIT.out _ HV2.out (HEV.out.below HB2.out)).mono ?_
    rintro e w3 ⟨rfl, hb3⟩
    have HB3 : Hid (Below w1.heap.size w1 w3) := HB2.out.trans (hb3.mono HB2.out.size)
    have HV3 : Hid (IsTyps w3.heap.size w3 v2 ts) := (HV2.out.below hb3).up hb3.size
    clear hb3
    go_wp2_with fail
    refine (HU.out _ HB3.out).mono ?_
    rintro e w4 ⟨⟨U, rfl, hU⟩, hb4⟩
    have HB4 : Hid (Below w1.heap.size w1 w4) := HB3.out.trans (hb4.mono HB3.out.size)
    have HV4 : Hid (IsTyps w4.heap.size w4 v2 ts) := (HV3.out.below hb4).up hb4.size
    clear hb4
    go_wp2_with fail
    refine (implReadSchema_any U w4 (by omega) (HEV.out.below HB4.out)).mono ?_
    rintro e w5 ⟨⟨r, v5, rfl, hr, ho5, hw5⟩, hb5⟩
    have HB5 : Hid (Below w1.heap.size w1 w5) := HB4.out.trans (hb5.mono HB4.out.size)
    have HV5 : Hid (IsTyps w5.heap.size w5 v2 ts) := (HV4.out.below hb5).up hb5.size
    have HX5 : Hid (IsTyps w5.heap.size w5 v5 (r.getD [])) := own_typs ho5 (by have := rd_len hr; omega) hw5
    have HR : Hid (RdOk U.data.toList r) := hr
    clear hb5 hr ho5 hw5
    go_wp2_with fail
    refine (specReadSchema_any U w5 (by omega)).mono ?_
    rintro e w6 ⟨⟨r6, v6, rfl, hr6, ho6, hw6⟩, hb6⟩
    obtain rfl : r = r6 := HR.out.uniq hr6
    have HB6 : Hid (Below w1.heap.size w1 w6) := HB5.out.trans (hb6.mono HB5.out.size)
    have HV6 : Hid (IsTyps w6.heap.size w6 v2 ts) := (HV5.out.below hb6).up hb6.size
    have HX6 : Hid (IsTyps w6.heap.size w6 v5 (r.getD [])) := (HX5.out.below hb6).up hb6.size
    have HY6 : Hid (IsTyps w6.heap.size w6 v6 (r.getD [])) := own_typs ho6 (by have := rd_len hr6; omega) hw6
    clear hb6 hr6 ho6 hw6
    go_wp2_with fail
    refine (HSTX.out _ HV6.out).mono ?_
    rintro e w7a ⟨rfl, hb7⟩
    have HB7a : Hid (Below w1.heap.size w1 w7a) := HB6.out.trans (hb7.mono HB6.out.size)
    have HV7a : Hid (IsTyps w7a.heap.size w7a v2 ts) := (HV6.out.below hb7).up hb7.size
    have HX7a : Hid (IsTyps w7a.heap.size w7a v5 (r.getD [])) := (HX6.out.below hb7).up hb7.size
    have HY7a : Hid (IsTyps w7a.heap.size w7a v6 (r.getD [])) := (HY6.out.below hb7).up hb7.size
    have HSM : Hid (Calls Tryz.prog 11 #[v5, v6] w7a fun e w' => e = .returned (.bool true) ∧ Below w7a.heap.size w7a w') := sameTyps_any _ _ _ w7a HX7a.out HY7a.out
    clear hb7
    cases r with
    | none =>
      go_wp2_with fail
      refine Calls.mono HSM.out ?_
      rintro e w7 ⟨rfl, hb7⟩
      have HB7 : Hid (Below w1.heap.size w1 w7) := HB7a.out.trans (hb7.mono HB7a.out.size)
      have HV7 : Hid (IsTyps w7.heap.size w7 v2 ts) := (HV7a.out.below hb7).up hb7.size
      clear hb7
      go_wp2_with fail
      refine (implReadSchema_any X w7 (by omega) (HEV.out.below HB7.out)).mono ?_
      rintro e w8 ⟨⟨r8, v8, rfl, hr8, ho8, hw8⟩, hb8⟩
      have HB8 : Hid (Below w1.heap.size w1 w8) := HB7.out.trans (hb8.mono HB7.out.size)
      have HV8 : Hid (IsTyps w8.heap.size w8 v2 ts) := (HV7.out.below hb8).up hb8.size
      have HZ8 : Hid (IsTyps w8.heap.size w8 v8 (r8.getD [])) := own_typs ho8 (by have := rd_len hr8; omega) hw8
      rw [HXD.out] at hr8
      have HQ8 : Hid (r8.isSome = schOk ts ∧ (schOk ts = true → r8.getD [] = ts)) := by
        cases hk : schOk ts with
        | true => rw [hr8.2 ts hk rfl]; exact ⟨rfl, fun _ => rfl⟩
        | false =>
          rw [schText_no hk] at hr8
          cases r8 with
          | none => exact ⟨rfl, (by intro e; cases e)⟩
          | some us =>
            obtain ⟨a1, a2⟩ := hr8.1 us rfl
            exact absurd a2 (sch_len a1).2
      rw [HQ8.out.1]
      clear hb8 hr8 ho8 hw8
      go_wp2_with fail
      refine (specSchemaOk_any ts _ w8 HV8.out).mono ?_
      rintro e w9 ⟨rfl, hb9⟩
      have HB9 : Hid (Below w1.heap.size w1 w9) := HB8.out.trans (hb9.mono HB8.out.size)
      have HV9 : Hid (IsTyps w9.heap.size w9 v2 ts) := (HV8.out.below hb9).up hb9.size
      have HZ9 : Hid (IsTyps w9.heap.size w9 v8 (r8.getD [])) := (HZ8.out.below hb9).up hb9.size
      clear hb9
      have HOK : Hid (∀ w', IsTyps w'.heap.size w' v2 ts → KR w' → Calls Tryz.prog 13 #[v2] w' fun e w'' => e = .returned (.bool (schOk ts)) ∧ Below w'.heap.size w' w'') := fun w' h h' => implSchemaOk_any ts v2 w' h h'
      cases hk : schOk ts with
      | true =>
        have HT : Hid (r8.getD [] = ts) := HQ8.out.2 hk
        rw [HT.out] at HZ9
        rw [hk] at HOK
        clear hk
        go_wp2_with fail
        refine (HOK.out _ HV9.out (HEV.out.below HB9.out).kin).mono ?_
        rintro e w10 ⟨rfl, hb10⟩
        have HB10 : Hid (Below w1.heap.size w1 w10) := HB9.out.trans (hb10.mono HB9.out.size)
        have HV10 : Hid (IsTyps w10.heap.size w10 v2 ts) := (HV9.out.below hb10).up hb10.size
        have HZ10 : Hid (IsTyps w10.heap.size w10 v8 ts) := (HZ9.out.below hb10).up hb10.size
        clear hb10
        go_wp2_with fail
        refine (sameTyps_any ts _ _ w10 HZ10.out HV10.out).mono ?_
        rintro e w11 ⟨rfl, hb11⟩
        have HB11 : Hid (Below w1.heap.size w1 w11) := HB10.out.trans (hb11.mono HB10.out.size)
        clear hb11
        go_wp2_with fail
        go_ret
        exact ⟨rfl, HB11.out⟩
      | false =>
        rw [hk] at HOK
        clear hk
        go_wp2_with fail
        refine (HOK.out _ HV9.out (HEV.out.below HB9.out).kin).mono ?_
        rintro e w10 ⟨rfl, hb10⟩
        have HB10 : Hid (Below w1.heap.size w1 w10) := HB9.out.trans (hb10.mono HB9.out.size)
        clear hb10
        go_wp2_with fail
        go_ret
        exact ⟨rfl, HB10.out⟩
    | some us =>
      obtain ⟨hus, hut⟩ := HR.out.1 us rfl
      have HTU : Hid (∀ w', IsTyps w'.heap.size w' v5 us → EV w' → Calls Tryz.prog 6 #[v5] w' fun e w'' => e = .returned (.string U) ∧ Below w'.heap.size w' w'') := fun w' h he => by
        have := implSchemaText_any us v5 w' h he.kin he.tab
        rw [show (⟨(schText us).toArray⟩ : ByteArray) = U from (str_of hut.symm).symm] at this
        exact this
      have huu : (U.toList == U.toList) = true := by simp
      clear hus hut
      go_wp2_with fail
      refine Calls.mono HSM.out ?_
      rintro e w7b ⟨rfl, hb7⟩
      have HB7b : Hid (Below w1.heap.size w1 w7b) := HB7a.out.trans (hb7.mono HB7a.out.size)
      have HV7b : Hid (IsTyps w7b.heap.size w7b v2 ts) := (HV7a.out.below hb7).up hb7.size
      have HX7b : Hid (IsTyps w7b.heap.size w7b v5 us) := (HX7a.out.below hb7).up hb7.size
      clear hb7
      go_wp2_with fail
      refine (HTU.out _ HX7b.out (HEV.out.below HB7b.out)).mono ?_
      rintro e w7 ⟨rfl, hb7⟩
      have HB7 : Hid (Below w1.heap.size w1 w7) := HB7b.out.trans (hb7.mono HB7b.out.size)
      have HV7 : Hid (IsTyps w7.heap.size w7 v2 ts) := (HV7b.out.below hb7).up hb7.size
      clear hb7
      go_wp2_with fail
      refine (implReadSchema_any X w7 (by omega) (HEV.out.below HB7.out)).mono ?_
      rintro e w8 ⟨⟨r8, v8, rfl, hr8, ho8, hw8⟩, hb8⟩
      have HB8 : Hid (Below w1.heap.size w1 w8) := HB7.out.trans (hb8.mono HB7.out.size)
      have HV8 : Hid (IsTyps w8.heap.size w8 v2 ts) := (HV7.out.below hb8).up hb8.size
      have HZ8 : Hid (IsTyps w8.heap.size w8 v8 (r8.getD [])) := own_typs ho8 (by have := rd_len hr8; omega) hw8
      rw [HXD.out] at hr8
      have HQ8 : Hid (r8.isSome = schOk ts ∧ (schOk ts = true → r8.getD [] = ts)) := by
        cases hk : schOk ts with
        | true => rw [hr8.2 ts hk rfl]; exact ⟨rfl, fun _ => rfl⟩
        | false =>
          rw [schText_no hk] at hr8
          cases r8 with
          | none => exact ⟨rfl, (by intro e; cases e)⟩
          | some us =>
            obtain ⟨a1, a2⟩ := hr8.1 us rfl
            exact absurd a2 (sch_len a1).2
      rw [HQ8.out.1]
      clear hb8 hr8 ho8 hw8
      go_wp2_with fail
      refine (specSchemaOk_any ts _ w8 HV8.out).mono ?_
      rintro e w9 ⟨rfl, hb9⟩
      have HB9 : Hid (Below w1.heap.size w1 w9) := HB8.out.trans (hb9.mono HB8.out.size)
      have HV9 : Hid (IsTyps w9.heap.size w9 v2 ts) := (HV8.out.below hb9).up hb9.size
      have HZ9 : Hid (IsTyps w9.heap.size w9 v8 (r8.getD [])) := (HZ8.out.below hb9).up hb9.size
      clear hb9
      have HOK : Hid (∀ w', IsTyps w'.heap.size w' v2 ts → KR w' → Calls Tryz.prog 13 #[v2] w' fun e w'' => e = .returned (.bool (schOk ts)) ∧ Below w'.heap.size w' w'') := fun w' h h' => implSchemaOk_any ts v2 w' h h'
      cases hk : schOk ts with
      | true =>
        have HT : Hid (r8.getD [] = ts) := HQ8.out.2 hk
        rw [HT.out] at HZ9
        rw [hk] at HOK
        clear hk
        go_wp2_with fail
        refine (HOK.out _ HV9.out (HEV.out.below HB9.out).kin).mono ?_
        rintro e w10 ⟨rfl, hb10⟩
        have HB10 : Hid (Below w1.heap.size w1 w10) := HB9.out.trans (hb10.mono HB9.out.size)
        have HV10 : Hid (IsTyps w10.heap.size w10 v2 ts) := (HV9.out.below hb10).up hb10.size
        have HZ10 : Hid (IsTyps w10.heap.size w10 v8 ts) := (HZ9.out.below hb10).up hb10.size
        clear hb10
        go_wp2_with fail
        refine (sameTyps_any ts _ _ w10 HZ10.out HV10.out).mono ?_
        rintro e w11 ⟨rfl, hb11⟩
        have HB11 : Hid (Below w1.heap.size w1 w11) := HB10.out.trans (hb11.mono HB10.out.size)
        clear hb11
        go_wp2_with fail
        go_ret
        exact ⟨rfl, HB11.out⟩
      | false =>
        rw [hk] at HOK
        clear hk
        go_wp2_with fail
        refine (HOK.out _ HV9.out (HEV.out.below HB9.out).kin).mono ?_
        rintro e w10 ⟨rfl, hb10⟩
        have HB10 : Hid (Below w1.heap.size w1 w10) := HB9.out.trans (hb10.mono HB9.out.size)
        clear hb10
        go_wp2_with fail
        go_ret
        exact ⟨rfl, HB10.out⟩
end Go.Proofs.YtlfodnkiamogiaaGreatDoor.fnSchemas
