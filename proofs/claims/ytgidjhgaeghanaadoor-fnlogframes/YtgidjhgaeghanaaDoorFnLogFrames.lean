/- Whatever its arguments, laws.FnLogFrames returns true and leaves them, and the table that it reads, as they were; the table starts as the program's text lays it. -/
import Derived.Test.YtgidjhgaeghanaaDoorCards
import Derived.Test.YtgidjhgaeghanaaDoorTie
import Derived.Test.YtgidjhgaeghanaaDoorTFq
import Derived.Test.YtgidjhgaeghanaaDoorG7k
import Derived.SevenTiedAt
namespace Go.Proofs.YtgidjhgaeghanaaDoor.fnLogFrames
open Go.ChangeShapes Go.WideShapes Go.ChangeAt Go.RowKit
open Go.ChangeMaps (open_string shut_string)
set_option linter.unusedVariables false
theorem own_form {w : World} {B t sz n : Nat} {v : Value} {xs : List Value} (h : w.ownsRow B t sz v n xs) : ∃ ad cap, v = .slice ad n cap := by
  rcases h.2 with ⟨rfl, h0⟩ | ⟨g, cap, cur, rfl, _⟩
  · exact ⟨none, 0, by rw [h0]⟩
  · exact ⟨_, _, rfl⟩
theorem row_len {k : IntKind} {w : World} {a : Option Addr} {len cap : Nat} {zs : List Int} (h : IsRow k w a len cap zs) : len ≤ maxLen := by
  rcases h with ⟨_, rfl, _, _⟩ | ⟨x, _, h1, h2, _⟩
  · simp [maxLen]
  · omega
theorem own_take {w : World} {B : Nat} {ad : Option Addr} {cap : Nat} {X Y : List ByteArray} (h : w.ownsRow B 9 1 (.slice ad (X ++ Y).length cap) (X ++ Y).length (strv (X ++ Y))) : w.ownsRow B 9 1 (.slice ad X.length cap) X.length (strv X) := by
  refine ⟨by simp [strv], ?_⟩
  rcases h.2 with ⟨hv, h0⟩ | ⟨g, cap', cur, hv, hg, hh, h1, h2, h3, h4⟩
  · injection hv with e1 e2 e3
    subst e1 e3
    have : X.length = 0 := by rw [List.length_append] at h0; omega
    exact .inl ⟨by rw [this], this⟩
  · injection hv with e1 e2 e3
    subst e1 e3
    rw [List.length_append] at h1 h4
    refine .inr ⟨g, cap, cur, rfl, hg, hh, by omega, h2, h3, ?_⟩
    have e := congrArg (List.take X.length) h4
    rw [List.take_take, Nat.min_eq_left (by omega)] at e
    rw [Nat.mul_one, e]
    simp [strv]
theorem own_cap {w : World} {B t sz n cap : Nat} {ad : Option Addr} {xs : List Value} (h : w.ownsRow B t sz (.slice ad n cap) n xs) : n ≤ cap ∧ cap ≤ maxLen ∧ ((ad = none ∧ n = 0 ∧ cap = 0) ∨ ∃ g, ad = some ⟨g, 0, none⟩) := by
  rcases h.2 with ⟨hv, h0⟩ | ⟨g, cap', cur, hv, hg, hh, h1, h2, _⟩
  · injection hv with e1 e2 e3
    exact ⟨by omega, by rw [e3]; simp [maxLen], .inl ⟨e1, h0, e3⟩⟩
  · injection hv with e1 e2 e3
    exact ⟨by omega, by rw [e3]; exact h2, .inr ⟨g, e1⟩⟩

set_option maxRecDepth 100000 in
set_option maxHeartbeats 8000000 in
theorem walk (a0 : Option Addr) (len0 cap0 : Nat) (z0 : List Int) (w : World) (w0 : IsRow .u8 w a0 len0 cap0 z0) (hkr : KR w) :
    Calls Tryd.prog 3 #[.slice a0 len0 cap0] w fun e w' => e = .returned (.bool true) ∧ Below w.heap.size w w' := by
  have hlm0 := row_len w0
  by_cases hbig : 1048576 < len0
  · have hd : decide (1048576 < len0) = true := decide_eq_true hbig
    have HB : Hid (∀ w, Calls Tryd.prog 4 #[.slice a0 len0 cap0] w fun e w' => e = .returned (.bool true) ∧ w' = w) := fun w => by have := big_any a0 len0 cap0 w hlm0; rwa [hd] at this
    clear w0 hlm0 hbig hd hkr
    go_enter Tryd.func3, Tryd.ntmps3
    go_wp2_with fail
    refine (HB.out _).mono ?_
    rintro e w1 ⟨rfl, rfl⟩
    go_wp2_with fail
    go_ret
    exact ⟨rfl, Below.refl _ _⟩
  · have hd : decide (1048576 < len0) = false := decide_eq_false hbig
    have HBG : Hid (∀ w, Calls Tryd.prog 4 #[.slice a0 len0 cap0] w fun e w' => e = .returned (.bool false) ∧ w' = w) := fun w => by have := big_any a0 len0 cap0 w hlm0; rwa [hd] at this
    have HC : Hid (CodeAt w.heap.size a0 len0 w) := w0.code
    have hl0 : len0 ≤ 1048576 := by omega
    have HK : Hid (KR w) := hkr
    have HDT : Hid (∀ w', Below w.heap.size w w' → Calls Tryd.prog 5 #[.slice a0 len0 cap0] w' fun e w'' => (∃ t : ByteArray, t.size ≤ 200 ∧ e = .returned (.string t)) ∧ Below w'.heap.size w' w'') := fun w' hb => DrawTakeFrames_any w.heap.size a0 len0 cap0 w' hb.size (HC.out.below hb) hl0
    have HDF : Hid (∀ w', Below w.heap.size w w' → Calls Tryd.prog 10 #[.slice a0 len0 cap0] w' fun e w'' => (∃ t : ByteArray, t.size ≤ 20 ∧ e = .returned (.string t)) ∧ Below w'.heap.size w' w'') := fun w' hb => DrawFrameOf_any w.heap.size a0 len0 cap0 w' hb.size (HC.out.below hb) hl0
    have HI : Hid (∀ (s : ByteArray) w', s.size ≤ 1000 → Below w.heap.size w w' → Calls Tryd.prog 6 #[.string s] w' fun e w'' => TfE s w'.heap.size w'' e ∧ Below w'.heap.size w' w'') := fun s w' hs hb => implTakeFrames_any s w' (HK.out.below hb (Nat.le_refl _)) (by omega)
    have HSP : Hid (∀ (s : ByteArray) w', s.size ≤ 1000 → Calls Tryd.prog 7 #[.string s] w' fun e w'' => TfE s w'.heap.size w'' e ∧ Below w'.heap.size w' w'') := fun s w' hs => specTakeFrames_any s w' (by omega)
    have HF : Hid (∀ (t : ByteArray) w', t.size ≤ 1000 → Below w.heap.size w w' → Calls Tryd.prog 9 #[.string t] w' fun e w'' => e = .returned (.string (frameS t)) ∧ Below w'.heap.size w' w'') := fun s w' hs hb => implFrameOf_any s w' (HK.out.below hb (Nat.le_refl _)) (by omega)
    clear w0 hlm0 hbig hd hkr
    go_enter Tryd.func3, Tryd.ntmps3
    go_wp2_with fail
    refine (HBG.out _).mono ?_
    rintro e wz ⟨rfl, hw⟩
    rw [hw]
    clear hw wz
    go_wp2_with fail
    refine (HDT.out _ (Below.refl _ _)).mono ?_
    rintro e w1 ⟨⟨s, hs, rfl⟩, hb1⟩
    have HB1 : Hid (Below w.heap.size w w1) := hb1
    have hz1 : w.heap.size ≤ w1.heap.size := hb1.size
    clear hb1
    go_wp2_with fail
    refine (HI.out s w1 (by omega) HB1.out).mono ?_
    rintro e w2 ⟨⟨v1, p, X, rfl, he1, ho1⟩, hb2⟩
    have HE1 : Hid (FEnd s p X) := he1
    obtain ⟨ad1, cap1, rfl⟩ := own_form ho1
    have HO2 : Hid (w2.ownsRow w1.heap.size 9 1 (.slice ad1 X.length cap1) X.length (strv X)) := ho1
    have HB2 : Hid (Below w.heap.size w w2) := HB1.out.trans (hb2.mono hz1)
    have hz2 : w.heap.size ≤ w2.heap.size := HB2.out.size
    have hpl : p ≤ s.size := he1.1.2.1
    have hXl : X.length ≤ 30 := by have := he1.1.2.2; omega
    have hpi : (p : Int) ≤ (s.size : Int) := by omega
    have hdp : decide (s.size < p) = false := decide_eq_false (by omega)
    clear hb2 ho1 he1
    go_wp2_with fail
    refine (HSP.out s w2 (by omega)).mono ?_
    rintro e w3 ⟨⟨v2, p', X', rfl, he2, ho2⟩, hb3⟩
    obtain ⟨rfl, rfl⟩ := HE1.out.one he2
    obtain ⟨ad2, cap2, rfl⟩ := own_form ho2
    have HO3 : Hid (w3.ownsRow w1.heap.size 9 1 (.slice ad1 X.length cap1) X.length (strv X)) := own_kept HO2.out hb3
    have HP3 : Hid (w3.ownsRow w2.heap.size 9 1 (.slice ad2 X.length cap2) X.length (strv X)) := ho2
    have HB3 : Hid (Below w.heap.size w w3) := HB2.out.trans (hb3.mono hz2)
    have hz3 : w.heap.size ≤ w3.heap.size := HB3.out.size
    clear hb3 ho2 he2
    go_wp2_with fail
    refine (sameTexts_same X _ _ ad1 ad2 cap1 cap2 w3 (by omega) HO3.out HP3.out).mono ?_
    rintro e w4 ⟨rfl, hb4⟩
    have HO4 : Hid (w4.ownsRow w1.heap.size 9 1 (.slice ad1 X.length cap1) X.length (strv X)) := own_kept HO3.out hb4
    have HB4 : Hid (Below w.heap.size w w4) := HB3.out.trans (hb4.mono hz3)
    have hz4 : w.heap.size ≤ w4.heap.size := HB4.out.size
    clear hb4
    go_wp2_with fail
    have hfl : (frs X).length = p := HE1.out.1.len
    have HX : Hid (∀ x ∈ X, x.size ≤ 100000) := HE1.out.1.frs.2
    have HTL : Hid (∀ j (h : j < X.length), frs (X.take (j + 1)) = frs (X.take j) ++ frameL X[j].data.toList ∧ (frs (X.take j)).length + 8 + X[j].size ≤ p) := fun j h => by
      have e1 : frs (X.take (j + 1)) = frs (X.take j) ++ frameL X[j].data.toList := by rw [List.take_succ_eq_append_getElem h, frs_app, frs_one]
      refine ⟨e1, ?_⟩
      have e2 : frs X = frs (X.take (j + 1)) ++ frs (X.drop (j + 1)) := by rw [← frs_app, List.take_append_drop]
      have e3 := congrArg List.length e2
      rw [List.length_append, e1, List.length_append, frameL_len, hfl] at e3
      have : X[j].data.toList.length = X[j].size := rfl
      omega
    have HPL : Hid ((frs X).length = p) := hfl
    clear hfl
    go_loopg [8, 9] X.length (fun gk a i wr => ∃ (j : Nat) (S : ByteArray), j + gk = X.length ∧ a = .string S ∧ i = .int .i64 j ∧ S.data.toList = frs (X.take j) ∧ Below w4.heap.size w4 wr)
    case atStart => exact ⟨0, ⟨#[]⟩, by omega, rfl, rfl, rfl, Below.refl _ _⟩
    case round =>
      obtain ⟨j, S, hj', rfl, rfl, hSl, hb⟩ := hrel
      have HJ : Hid (j + gk = X.length) := hj'
      have HSL : Hid (S.data.toList = frs (X.take j)) := hSl
      have HBR : Hid (Below w4.heap.size w4 wr) := hb
      have hj : j ≤ X.length := by omega
      have hSz : S.size = (frs (X.take j)).length := congrArg List.length hSl
      have HBW : Hid (Below w.heap.size w wr) := HB4.out.trans (hb.mono hz4)
      clear hj' hSl
      by_cases hlt : j < X.length
      · obtain ⟨e1, e2⟩ := HTL.out j hlt
        obtain ⟨g, rfl, hg, c0⟩ := own_at (own_kept HO4.out hb) hlt
        obtain ⟨x, hx⟩ : ∃ x, X[j] = x := ⟨_, rfl⟩
        rw [hx] at e1 e2 c0
        have hxs : x.size ≤ 200 := by omega
        have hfs := frameS_len (t := x) (by omega)
        obtain ⟨F, hF⟩ : ∃ F, frameS x = F := ⟨_, rfl⟩
        rw [hF] at hfs
        have hFz : F.size = 8 + x.size := hfs.2
        have HN : Hid ((S ++ F).data.toList = frs (X.take (j + 1))) := by
          show _ = _
          rw [cat_dl, HSL.out, e1, hfs.1]
        have hSFz : (S ++ F).size = S.size + F.size := by simp
        have hSF2 : S.size + F.size ≤ 200 := by omega
        have HFF : Hid (∀ w', Below w.heap.size w w' → Calls Tryd.prog 9 #[.string x] w' fun e w'' => e = .returned (.string F) ∧ Below w'.heap.size w' w'') := fun w' hb => by have := HF.out x w' (by omega) hb; rwa [hF] at this
        clear e1 e2 hx hF hfs hb
        go_wp2_with fail
        refine (HFF.out _ HBW.out).mono ?_
        rintro e w5 ⟨rfl, hb5⟩
        have HBR5 : Hid (Below w4.heap.size w4 w5) := HBR.out.trans (hb5.mono HBR.out.size)
        clear hb5 c0
        go_wp2_with fail
        go_roundg (gk - 1)
        case rel => exact ⟨j + 1, S ++ F, by have := HJ.out; omega, rfl, by go_num, HN.out, HBR5.out⟩
        case measure => have := HJ.out; omega
      · have ej : j = X.length := by omega
        subst ej
        have HSX : Hid (S.data.toList = frs X) := by have := HSL.out; rwa [List.take_length] at this
        have hSp : S.size = p := by rw [← HPL.out]; exact congrArg List.length HSX.out
        have HO5 : Hid (wr.ownsRow w1.heap.size 9 1 (.slice ad1 X.length cap1) X.length (strv X)) := own_kept HO4.out hb
        have hz5 : w.heap.size ≤ wr.heap.size := HBW.out.size
        clear hb hSz hlt hj
        go_wp2_with fail
        refine (HDF.out _ HBW.out).mono ?_
        rintro e w6 ⟨⟨t, ht, rfl⟩, hb6⟩
        have HB6 : Hid (Below w.heap.size w w6) := HBW.out.trans (hb6.mono hz5)
        have HO6 : Hid (w6.ownsRow w1.heap.size 9 1 (.slice ad1 X.length cap1) X.length (strv X)) := own_kept HO5.out hb6
        have hz6 : w.heap.size ≤ w6.heap.size := HB6.out.size
        have hft := frameS_len (t := t) (by omega)
        obtain ⟨F, hF⟩ : ∃ F, frameS t = F := ⟨_, rfl⟩
        rw [hF] at hft
        have hFz : F.size = 8 + t.size := hft.2
        have HFt : Hid (∀ w', Below w.heap.size w w' → Calls Tryd.prog 9 #[.string t] w' fun e w'' => e = .returned (.string F) ∧ Below w'.heap.size w' w'') := fun w' hb => by have := HF.out t w' (by omega) hb; rwa [hF] at this
        have HA2 : Hid (FEnd (S ++ F) (p + F.size) (X ++ [t])) := by
          have hl : (S ++ F).data.toList = frs (X ++ [t]) := by rw [cat_dl, HSX.out, frs_app, frs_one, hft.1]
          have := end_of hl (fun x hx => by rcases List.mem_append.1 hx with h | h; exact HX.out x h; simp at h; subst h; omega)
          rwa [frs_app, frs_one, List.length_append, HPL.out, frameL_len, show 8 + t.data.toList.length = F.size from by rw [hFz]; rfl] at this
        have hSFz : (S ++ F).size = S.size + F.size := by simp
        clear hb6 hft hF
        go_wp2_with fail
        refine (HFt.out _ HB6.out).mono ?_
        rintro e w7 ⟨rfl, hb7⟩
        have HB7 : Hid (Below w.heap.size w w7) := HB6.out.trans (hb7.mono hz6)
        have HO7 : Hid (w7.ownsRow w1.heap.size 9 1 (.slice ad1 X.length cap1) X.length (strv X)) := own_kept HO6.out hb7
        have hz7 : w.heap.size ≤ w7.heap.size := HB7.out.size
        clear hb7
        go_wp2_with fail
        refine (HI.out (S ++ F) w7 (by omega) HB7.out).mono ?_
        rintro e w8 ⟨⟨v3, p3, X3, rfl, he3, ho3⟩, hb8⟩
        obtain ⟨rfl, rfl⟩ := HA2.out.one he3
        obtain ⟨ad3, cap3, rfl⟩ := own_form ho3
        have HQ8 : Hid (w8.ownsRow w7.heap.size 9 1 (.slice ad3 (X ++ [t]).length cap3) (X ++ [t]).length (strv (X ++ [t]))) := ho3
        have HO8 : Hid (w8.ownsRow w1.heap.size 9 1 (.slice ad1 X.length cap1) X.length (strv X)) := own_kept HO7.out hb8
        have HB8 : Hid (Below w.heap.size w w8) := HB7.out.trans (hb8.mono hz7)
        have hz8 : w.heap.size ≤ w8.heap.size := HB8.out.size
        clear hb8 ho3 he3
        have hlen : (X ++ [t]).length = X.length + 1 := by simp
        obtain ⟨g3, rfl, hg3, hc3⟩ := own_at HQ8.out (j := X.length) (by rw [hlen]; omega)
        rw [List.getElem_concat_length rfl] at hc3
        rw [hlen]
        obtain ⟨k, hk, hkp⟩ : ∃ k : Nat, (len0 : Int) % ((p : Int) + 1) = (k : Int) ∧ k ≤ p := ⟨len0 % (p + 1), by rw [show (p : Int) + 1 = ((p + 1 : Nat) : Int) from by omega, ← Int.natCast_emod], by have := Nat.mod_lt len0 (show 0 < p + 1 by omega); omega⟩
        have hkt : (len0 : Int).tmod ((p : Int) + 1) = (k : Int) := by rw [Int.tmod_eq_emod_of_nonneg (by omega)]; exact hk
        have hki : (k : Int) ≤ (p : Int) := by omega
        have hp0 : ¬ (p : Int) + 1 = 0 := by omega
        obtain ⟨T4, hT4⟩ : ∃ T, S.extract 0 k = T := ⟨_, rfl⟩
        have hT4s : T4.size ≤ 200 := by rw [← hT4]; simp; omega
        have HFEW : Hid (∀ p4 X4, FEnd T4 p4 X4 → ∃ Y, X = X4 ++ Y) := fun p4 X4 h => few_of (s := S) (k := k) (p' := p4) HSX.out HX.out (by rw [hT4]; exact h.1)
        go_wp2_with fail
        refine (HI.out T4 w8 (by omega) HB8.out).mono ?_
        rintro e w9 ⟨⟨v4, p4, X4, rfl, he4, ho4⟩, hb9⟩
        obtain ⟨Y, hY⟩ := HFEW.out p4 X4 he4
        obtain ⟨ad4, cap4, rfl⟩ := own_form ho4
        have HR9 : Hid (w9.ownsRow w8.heap.size 9 1 (.slice ad4 X4.length cap4) X4.length (strv X4)) := ho4
        have HO9 : Hid (w9.ownsRow w1.heap.size 9 1 (.slice ad1 X.length cap1) X.length (strv X)) := own_kept HO8.out hb9
        have HB9 : Hid (Below w.heap.size w w9) := HB8.out.trans (hb9.mono hz8)
        have hz9 : w.heap.size ≤ w9.heap.size := HB9.out.size
        have hc9 : w9.cell? ⟨g3, X.length, none⟩ = some (.string t) := (hb9.cell (p := ⟨g3, X.length, none⟩) hg3).trans hc3
        have hX4 : X4.length ≤ X.length := by rw [hY]; simp
        have HSUB : Hid (∀ w' : World, w9.heap.size ≤ w'.heap.size → w'.ownsRow w1.heap.size 9 1 (.slice ad1 X.length cap1) X.length (strv X) → w'.ownsRow w1.heap.size 9 1 (.slice ad1 X4.length cap1) X4.length (strv X4)) := fun w' _ h => by rw [hY] at h; exact own_take h
        have hUS : s.extract 0 p = S := by
          rw [str_of (S := S) HSX.out]
          refine str_of ?_
          rw [exL, List.drop_zero, Nat.sub_zero]
          exact HE1.out.1.frs.1
        have hSS : (S.toList == S.toList) = true := by simp
        have htt : (t.toList == t.toList) = true := by simp
        have hd4 : decide (X4.length ≤ X.length) = true := decide_eq_true hX4
        obtain ⟨hcap, hcapm, hadc⟩ := own_cap HO9.out
        have hX4c : X4.length ≤ cap1 := by omega
        unfold maxLen at hcapm
        clear hb9 ho4 he4 hc3 hT4 hY
        rcases hadc with ⟨rfl, h0, h1⟩ | ⟨g1, rfl⟩
        · have e4 : X4 = [] := List.eq_nil_of_length_eq_zero (by omega)
          have eX : X = [] := List.eq_nil_of_length_eq_zero h0
          subst e4 eX h1
          have hc0 : w9.cell? ⟨g3, 0, none⟩ = some (.string t) := hc9
          clear hc9
          go_wp2_with fail
          refine (HFt.out _ HB9.out).mono ?_
          rintro e w10 ⟨rfl, hb10⟩
          have HB10 : Hid (Below w.heap.size w w10) := HB9.out.trans (hb10.mono hz9)
          have HST : Hid (Calls Tryd.prog 8 #[.slice ad4 ([] : List ByteArray).length cap4, .slice none ([] : List ByteArray).length 0] w10 fun e w'' => e = .returned (.bool true) ∧ Below w10.heap.size w10 w'') := sameTexts_same [] _ _ ad4 none cap4 0 w10 (by decide) (own_kept HR9.out hb10) (HSUB.out w10 hb10.size (own_kept HO9.out hb10))
          have hz10 : w.heap.size ≤ w10.heap.size := HB10.out.size
          clear hb10 hc0
          go_wp2_with fail
          refine HST.out.mono ?_
          rintro e w11 ⟨rfl, hb11⟩
          have HB11 : Hid (Below w.heap.size w w11) := HB10.out.trans (hb11.mono hz10)
          clear hb11
          go_wp2_with fail
          go_ret
          exact ⟨rfl, HB11.out⟩
        · go_wp2_with fail
          refine (HFt.out _ HB9.out).mono ?_
          rintro e w10 ⟨rfl, hb10⟩
          have HB10 : Hid (Below w.heap.size w w10) := HB9.out.trans (hb10.mono hz9)
          have HST : Hid (Calls Tryd.prog 8 #[.slice ad4 X4.length cap4, .slice (some ⟨g1, 0, none⟩) X4.length cap1] w10 fun e w'' => e = .returned (.bool true) ∧ Below w10.heap.size w10 w'') := sameTexts_same X4 _ _ ad4 _ cap4 cap1 w10 (by omega) (own_kept HR9.out hb10) (HSUB.out w10 hb10.size (own_kept HO9.out hb10))
          have hz10 : w.heap.size ≤ w10.heap.size := HB10.out.size
          clear hb10 hc9
          go_wp2_with fail
          refine HST.out.mono ?_
          rintro e w11 ⟨rfl, hb11⟩
          have HB11 : Hid (Below w.heap.size w w11) := HB10.out.trans (hb11.mono hz10)
          clear hb11
          go_wp2_with fail
          go_ret
          exact ⟨rfl, HB11.out⟩
theorem door_met (os : Os) (args : Array Value) : laidMetH Tryd.prog laidKR ((World.doorLaid Tryd.prog 400 os).forCall (fun _ _ => 0) ⟨#[], args, []⟩).memory :=
  laidMetH_of_parts3 (fuel := 8) (laidMet_of_run' 8 (by kernel_rfl) (by kernel_rfl)) (by kernel_rfl) (by kernel_rfl)
set_option maxRecDepth 100000 in
theorem lifted (os : Os) (started : os.Started) (H : Type) (enc : TypeId × Value → H) :
    ReturnsInHanded {} Tryd.checked os 3 .any (fun w args => (Rows.fnLogFramesSpec.pre enc Tryd.prog Tryd.f3 [] false w args ∧ laidMetH Tryd.prog laidKR w) ∧ sizedMet enc Tryd.prog Tryd.f3 (OpenSpec.ofChange Rows.fnLogFramesSpec) false w args)
      (Rows.fnLogFramesSpec.post enc Tryd.prog Tryd.f3 false true false false) := by
  refine returnsInHanded_of_change_and (C := Tryd.checked) (X := fun w _ => laidMetH Tryd.prog laidKR w) (fun _ _ _ hh h => h.of_heap hh) Tryd.own started (by kernel_rfl) Tryd.func3
    (ChangeSpec.witness_shaped (enc := enc) (C := Tryd.checked) (os := os) (X := fun w _ => laidMetH Tryd.prog laidKR w) false (World.doorLaid Tryd.prog 400 os) #[.slice none 0 0] 8 rfl (World.shaped_of_RefB (by kernel_rfl) (by kernel_rfl)) (by kernel_rfl) (by kernel_rfl) (by kernel_rfl) (door_met os _)) ?_
  intro W base args ds gs before hval0 hW _ _ hL _
  have hval : ∀ (j : Nat) t v, Tryd.f3.params[j]? = some t → args[j]? = some v → Value.okWide Tryd.prog W .any base t v := hval0
  have hW' := hW
  obtain ⟨p, q, hA0, hV0, rfl, hfz, hnd⟩ := hW
  have hA : DataW.TrodAll enc Tryd.prog W 0 (fun _ => true) true Tryd.f3.params.toList args.toList ds p := hA0
  have hV : DataW.TrodVars enc Tryd.prog W (fun _ => true) ["loop.example/g00774/impl.crcParts"] gs q := hV0
  rw [Tryd.params3] at hA hval
  obtain ⟨v0, vs0, d0, ds0, p0, q0, hargs, rfl, rfl, h0, r0⟩ := trodAll_cons hA
  obtain ⟨rfl, rfl, rfl⟩ := trodAll_nil r0
  obtain rfl : args = #[v0] := by cases args; simp_all
  obtain ⟨g, t, cs, fuel, d, p', rfl, hg, ht, hvar, hd, rfl⟩ := trodVars_one hV
  obtain rfl := Option.some.inj (Tryd.gKR.symm.trans hg)
  obtain rfl := Option.some.inj (Tryd.tKR.symm.trans ht)
  obtain rfl : cs = kc := Option.some.inj (hvar.symm.trans (kr_of_laid hL))
  obtain ⟨rfl, rfl⟩ := DataW.Trod.unique (v := .agg kc) ⟨fuel, hd⟩ ⟨4, reads_kr enc W _⟩
  have hkr : KR W := KR.of_laid hL
  obtain ⟨a0, len0, cap0, rfl⟩ := okWide_slice Tryd.underlying22 (hval 0 22 v0 rfl rfl)
  have k0 := h0
  have lt0 : ∀ x ∈ p0, x.block < W.heap.size := by obtain ⟨m, hm⟩ := k0; exact DataW.trod_lt m _ _ _ hm
  obtain ⟨z0, w0⟩ : ∃ zs, IsRow .u8 W a0 len0 cap0 zs := by
    obtain ⟨fuel, hf⟩ := h0
    rcases open_ints Tryd.underlying22 Tryd.underlying5 (by kernel_rfl) hf with ⟨hcs, _⟩ | ⟨x, l, c, zs, hcs, _, hl, hm, hz, _, hcell, hwz⟩
    · simp [Value.cells] at hcs
      obtain ⟨rfl, rfl, rfl⟩ := hcs
      exact ⟨[], .inl ⟨rfl, rfl, rfl, rfl⟩⟩
    · simp [Value.cells] at hcs
      obtain ⟨rfl, rfl, rfl⟩ := hcs
      exact ⟨zs, .inr ⟨_, rfl, hl, hm, by simpa using hz, hcell, hwz⟩⟩
  clear hA0 hV0 hval0
  refine (walk a0 len0 cap0 z0 W w0 hkr).mono fun e W' ⟨he, bel⟩ => ?_
  subst he
  have hvar' : W'.var? Tryd.prog "loop.example/g00774/impl.crcParts" = some kc := by
    have hb0 : W'.heap[0]? = W.heap[0]? := bel.block 0 hkr.1
    unfold World.var? at hvar ⊢
    rw [hg] at hvar ⊢
    simp only [Option.bind_some] at hvar ⊢
    rw [hb0]; exact hvar
  exact ⟨_, rfl, _, _, _, [], _, _, hW', trodAll_mk1 (shut_bool Tryd.underlying4 _), (trodAll_cons_mk (Below.trod Tryd.laidOut (by kernel_rfl) (of_decide_eq_true (by kernel_rfl)) k0 bel lt0) trodAll_mk0), ⟨0, 50, kc, 4, [], [], hg, ht, hvar', reads_kr enc W' _, rfl, rfl⟩, bel.frame _, fun h => by cases h⟩
theorem over : Rows.fnLogFramesRow.holds Tryd.pinned (OpenSpec.ofChange Rows.fnLogFramesSpec) :=
  OpenClaim.holds_of_wide 3 Tryd.f3 rfl rfl rfl rfl rfl rfl rfl ⟨rfl, rfl, rfl, rfl, rfl⟩ rfl rfl rfl rfl rfl (by kernel_rfl) Tryd.func3 (by kernel_rfl)
    (of_decide_eq_true (by kernel_rfl)) (by unfold Func.isWrapper; first | (rw [if_pos (by decide +kernel)]; kernel_rfl) | (rw [if_neg (by decide +kernel)]; exact ⟨rfl, rfl⟩))
    (fun os started H enc _ => lifted os started H enc)
theorem proved : Rows.FnLogFramesCardSaid :=
  Claim7.holds_tied_plain_at .later [] [.data] true (true, "578b0eaefde9b87f7fbbdd2f4dc5d982a2a6e49d1f999b87cfde655d9eb262bb") true
    over (fun _ h => by cases h) (by kernel_rfl) (fun _ h => by cases h) fnLogFrames_row_tie rfl ⟨rfl, rfl⟩ (by kernel_rfl) rfl
    (fun f fn hf hfn => by
      obtain rfl : f = 3 := Option.some.inj ((show Tryd.prog.funcNamed "loop.example/g00774/laws.FnLogFrames" = some 3 by kernel_rfl).symm.trans hf) |>.symm
      obtain rfl : fn = Tryd.f3 := (Option.some.inj (Tryd.func3.symm.trans hfn)).symm
      exact ⟨by kernel_rfl, fun j t ht => by
        rw [Tryd.params3] at ht
        have hm : t ∈ [22] := by simpa using Array.mem_of_getElem? ht
        have hall : ([22].all fun u => !Tryd.prog.wantsStandIn u) = true := by kernel_rfl
        exact (show Tryd.prog.wantsStandIn t = false by simpa using List.all_eq_true.1 hall t hm)⟩)
    (by kernel_rfl)
#print axioms proved
end Go.Proofs.YtgidjhgaeghanaaDoor.fnLogFrames
