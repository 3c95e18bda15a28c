/- The program's reading of a number and of a type: contracts. -/
import Derived.Test.YtipmckdlnipgkaaGreatDoorSRa
import Derived.Test.YtipmckdlnipgkaaGreatDoorSRt
import Derived.Test.YtipmckdlnipgkaaGreatDoorS4d
import Derived.Lib.AtoiErrMem
import Derived.Lib.ParseIntBTie
namespace Go.Proofs.YtipmckdlnipgkaaGreatDoor
open Go.RowKit Go.Sort
set_option linter.unusedVariables false
/-- The variables that the library reads: a number, and two errors. -/
structure EV (w : World) : Prop where
  most : ∃ m, w.cell? ⟨1, 0, none⟩ = some (.int .i64 m)
  syn : ∃ ev, w.cell? ⟨4, 0, none⟩ = some ev ∧ (ev = .nilIface ∨ ∃ te pe, ev = .iface te pe)
  ran : ∃ ev, w.cell? ⟨5, 0, none⟩ = some ev ∧ (ev = .nilIface ∨ ∃ te pe, ev = .iface te pe)
  tab : PW w
  kin : KR w
theorem cell_lt {w : World} {b i : Nat} {v : Value} (h : w.cell? ⟨b, i, none⟩ = some v) : b < w.heap.size := by
  rcases Nat.lt_or_ge b w.heap.size with h' | h'
  · exact h'
  · simp [World.cell?, Array.getElem?_eq_none h'] at h
theorem EV.below {w w' : World} (h : EV w) (hb : Below w.heap.size w w') : EV w' := by
  obtain ⟨⟨m, hm⟩, ⟨e1, h1, h1'⟩, ⟨e2, h2, h2'⟩, hp, hk⟩ := h
  exact ⟨⟨m, by rw [hb.cell (cell_lt hm)]; exact hm⟩, ⟨e1, by rw [hb.cell (cell_lt h1)]; exact h1, h1'⟩, ⟨e2, by rw [hb.cell (cell_lt h2)]; exact h2, h2'⟩, hp.below hb, hk.below hb⟩
def DecP (s : List UInt8) (n : Int) (b : Bool) : Prop := inI n ∧ (b = true → s = Lib.itoa n) ∧ ∀ m, m ≤ 200 → s = Lib.decDigits m → b = true ∧ n = (m : Int)
def DecE (s : List UInt8) (e : Ending) : Prop := ∃ n b, e = .returned (.tuple #[.int .i64 n, .bool b]) ∧ DecP s n b
theorem DecE.none {s : List UInt8} (h : ∀ m, m ≤ 200 → s ≠ Lib.decDigits m) : DecE s (.returned (.tuple #[.int .i64 0, .bool false])) := ⟨0, false, rfl, ⟨by decide, by decide⟩, (by intro e; cases e), fun m hm e => absurd e (h m hm)⟩
theorem dec_itoa (m : Nat) : Lib.itoa (m : Int) = Lib.decDigits m := by unfold Lib.itoa; rw [if_neg (by omega)]; rfl
theorem trim_le (s p : List UInt8) : (Lib.trimPrefix s p).length ≤ s.length := by unfold Lib.trimPrefix; split <;> simp
theorem parse_any (s : ByteArray) (w : World) (hs : s.size ≤ 1048576) (hw : EV w) : Calls Tryz.prog 118 #[.string s, .int .i64 10, .int .i64 64] w fun e w' => ((∃ v, e = .returned (.tuple #[.int .i64 v, .nilIface]) ∧ inI v ∧ Lib.parseIntB 64 s.data.toList = .ok v) ∨ (∃ v t p, e = .returned (.tuple #[.int .i64 v, .iface t p]) ∧ ∀ u, Lib.parseIntB 64 s.data.toList ≠ .ok u)) ∧ Below w.heap.size w w' := by
  cases hp : Lib.parseIntB 64 s.data.toList with
  | ok v =>
    refine (Tryz.strconv_ParseInt_10_at64_ok s (by omega) v hp w).mono ?_
    rintro e w' ⟨rfl, hw'⟩
    have hv := Lib.parseIntB_bounds hp
    refine ⟨.inl ⟨v, rfl, ⟨by have := hv.1; omega, by have := hv.2; omega⟩, rfl⟩, ?_⟩
    rcases hw' with rfl | ⟨t, rfl⟩
    · exact Below.refl _ _
    · exact Lib.bytesWorld_below _ _ _
  | «syntax» =>
    obtain ⟨ev, h1, h2⟩ := hw.syn
    refine (Tryz.strconv_ParseInt_10_at64_syntax s (by omega) hp ev w h1 h2).mono ?_
    rintro e w' ⟨N, rfl, _, _, hb⟩
    exact ⟨.inr ⟨_, _, _, rfl, fun u => by simp⟩, hb⟩
  | range =>
    obtain ⟨ev, h1, h2⟩ := hw.ran
    refine (Tryz.strconv_ParseInt_10_at64_range s (by omega) hp ev w h1 h2).mono ?_
    rintro e w' ⟨N, rfl, _, _, hb⟩
    exact ⟨.inr ⟨_, _, _, rfl, fun u => by simp⟩, hb⟩
theorem format_any (n : Int) (w : World) (hn : inI n) (hw : PW w) : Calls Tryz.prog 119 #[.int .i64 n, .int .i64 10] w fun e w' => e = .returned (.string ⟨(Lib.itoa n).toArray⟩) ∧ Below w.heap.size w w' := by
  refine (Tryz.strconv_FormatInt_10 n hn.1 hn.2 w hw).mono ?_
  rintro e w' ⟨rfl, k, os, rfl⟩
  exact ⟨rfl, Lib.below_grow _ w (Nat.le_refl _) k os⟩
set_option maxRecDepth 100000 in
set_option maxHeartbeats 2000000 in
theorem readDecimal_any (s : ByteArray) (w : World) (hs : s.size ≤ 1048576) (hw : EV w) : Calls Tryz.prog 108 #[.string s] w fun e w' => DecE s.data.toList e ∧ Below w.heap.size w w' := by
  have HW : Hid (EV w) := hw
  have HT : Hid (∀ w, Calls Tryz.prog 117 #[.string s, .string ⟨#[45]⟩] w fun e w' => e = .returned (.string ⟨(Lib.trimPrefix s.data.toList [45]).toArray⟩) ∧ w' = w) := fun w => Tryz.strings_TrimPrefix s ⟨#[45]⟩ w
  obtain ⟨t, ht⟩ : ∃ t : ByteArray, (⟨(Lib.trimPrefix s.data.toList [45]).toArray⟩ : ByteArray) = t := ⟨_, rfl⟩
  have hts : t.size ≤ s.size := by
    have h1 := trim_le s.data.toList [45]
    have h2 : t.size = (Lib.trimPrefix s.data.toList [45]).length := by rw [← ht]; simp [ByteArray.size]
    have h3 : s.data.toList.length = s.size := Array.length_toList
    omega
  rw [ht] at HT
  clear hw ht
  by_cases h16 : 16 < t.size
  · have HX : Hid (DecE s.data.toList (.returned (.tuple #[.int .i64 0, .bool false]))) := DecE.none (fun m hm e => by
      have h1 := (okN_of hm).2.2.2.1
      rw [← e] at h1
      have h3 : s.data.toList.length = s.size := Array.length_toList
      omega)
    have hq : decide (16 < (t.size : Int)) = true := by simp; omega
    clear h16
    go_enter Tryz.func108, Tryz.ntmps108
    go_wp2_with fail
    refine (HT.out _).mono ?_
    rintro e w1 ⟨rfl, rfl⟩
    go_wp2_with fail
    go_ret2
    exact ⟨HX.out, Below.refl _ _⟩
  · have hq : decide (16 < (t.size : Int)) = false := by simp; omega
    clear h16
    go_enter Tryz.func108, Tryz.ntmps108
    go_wp2_with fail
    refine (HT.out _).mono ?_
    rintro e w1 ⟨rfl, rfl⟩
    go_wp2_with fail
    refine (parse_any s w1 hs HW.out).mono ?_
    rintro e w2 ⟨⟨v, rfl, hv, hp⟩ | ⟨v, tt, pp, rfl, hp⟩, hb2⟩
    · obtain ⟨D, hD⟩ : ∃ D : ByteArray, (⟨(Lib.itoa v).toArray⟩ : ByteArray) = D := ⟨_, rfl⟩
      have HF : Hid (Calls Tryz.prog 119 #[.int .i64 v, .int .i64 10] w2 fun e w' => e = .returned (.string D) ∧ Below w2.heap.size w2 w') := by rw [← hD]; exact format_any v w2 hv (HW.out.tab.below hb2)
      have HDL : Hid (D.data.toList = Lib.itoa v) := by show _ = _; rw [← hD]
      have HP : Hid (Lib.parseIntB 64 s.data.toList = .ok v) := hp
      have HV : Hid (inI v) := hv
      have HB : Hid (Below w1.heap.size w1 w2) := hb2
      clear hD hp hv hb2
      by_cases he : D.toList = s.toList
      · have hcmp : (D.toList == s.toList) = true := by simp [he]
        have HX : Hid (DecE s.data.toList (.returned (.tuple #[.int .i64 v, .bool true]))) := by
          rw [ByteArray.toList_eq, ByteArray.toList_eq] at he
          refine ⟨v, true, rfl, HV.out, fun _ => by rw [← he, HDL.out], fun m hm e => ⟨rfl, ?_⟩⟩
          have h1 := (okN_of hm).1
          rw [← e, HP.out] at h1
          injection h1
        clear he
        go_wp2_with fail
        refine Calls.mono HF.out ?_
        rintro e w3 ⟨rfl, hb3⟩
        have HB3 : Hid (Below w1.heap.size w1 w3) := HB.out.trans (hb3.mono HB.out.size)
        clear hb3
        go_wp2_with fail
        go_ret2
        exact ⟨HX.out, HB3.out⟩
      · have hcmp : (D.toList == s.toList) = false := by simp [he]
        have HX : Hid (DecE s.data.toList (.returned (.tuple #[.int .i64 0, .bool false]))) := DecE.none (fun m hm e => by
          have h1 := (okN_of hm).1
          rw [← e, HP.out] at h1
          injection h1 with h1
          apply he
          rw [ByteArray.toList_eq, ByteArray.toList_eq, HDL.out, h1, dec_itoa, e])
        clear he
        go_wp2_with fail
        refine Calls.mono HF.out ?_
        rintro e w3 ⟨rfl, hb3⟩
        have HB3 : Hid (Below w1.heap.size w1 w3) := HB.out.trans (hb3.mono HB.out.size)
        clear hb3
        go_wp2_with fail
        go_ret2
        exact ⟨HX.out, HB3.out⟩
    · have HX : Hid (DecE s.data.toList (.returned (.tuple #[.int .i64 0, .bool false]))) := DecE.none (fun m hm e => by
        have h1 := (okN_of hm).1
        rw [← e] at h1
        exact hp _ h1)
      have HB : Hid (Below w1.heap.size w1 w2) := hb2
      clear hp hb2
      go_wp2_with fail
      go_ret2
      exact ⟨HX.out, HB.out⟩
end Go.Proofs.YtipmckdlnipgkaaGreatDoor
