/- Whatever its arguments, laws.FnSszSome returns true and leaves them, and the table that it reads, as they were; the table starts as the program's text lays it. -/
import Derived.Test.YtjpdhenmhffmeaaDoorCards
import Derived.Test.YtjpdhenmhffmeaaDoorTie
import Derived.Test.YtjpdhenmhffmeaaDoorS9i
import Derived.Test.YtjpdhenmhffmeaaDoorS7g
import Derived.Test.YtjpdhenmhffmeaaDoorDrawZ
import Derived.Test.YtjpdhenmhffmeaaDoorPz
import Derived.Test.YtjpdhenmhffmeaaDoorS6c
import Derived.SevenTiedAt
namespace Go.Proofs.YtjpdhenmhffmeaaDoor.fnSszSome
open Go.ChangeShapes Go.WideShapes Go.ChangeAt Go.RowKit
open Go.ChangeMaps (open_string shut_string)
set_option linter.unusedVariables false
theorem big_any (a : Option Addr) (len cap : Nat) (w : World) (hl : len ≤ maxLen) : Calls Tryd.prog 6 #[.slice a len cap] w fun e w' => e = .returned (.bool (decide (1048576 < len))) ∧ w' = w := by
  unfold maxLen at hl
  go_enter Tryd.func6, Tryd.ntmps6
  go_wp2
  go_ret
  exact ⟨ret_b (by simp; omega), rfl⟩
theorem row_len {k : IntKind} {w : World} {a : Option Addr} {len cap : Nat} {zs : List Int} (h : IsRow k w a len cap zs) : len ≤ maxLen := by
  rcases h with ⟨_, rfl, _, _⟩ | ⟨x, _, h1, h2, _⟩
  · simp [maxLen]
  · omega
theorem wfI_items {vs : List It} (h : wfI vs) : ∀ x ∈ vs, inI x.k ∧ x.n < 18446744073709551616 ∧ x.s.size ≤ 1048577 := fun x hx => by
  obtain ⟨h1, h2, h3⟩ := h x hx
  exact ⟨h1, h2, by omega⟩
set_option maxHeartbeats 1000000 in
theorem drawn (B0 : Nat) (a : Option Addr) (len cap : Nat) (w : World) (hB : B0 ≤ w.heap.size) (hc : CodeAt B0 a len w) (hl : len ≤ 1048576) : Calls Tryd.prog 12 #[.slice a len cap] w fun e w' => DrawTPost w e w' := by
  have HD : Hid (Calls Tryd.prog 18 #[.slice a len cap] w fun e w' => DrawTPost w e w') := DrawTyped_any B0 a len cap w hB hc hl
  clear hc
  go_enter Tryd.func12, Tryd.ntmps12
  go_wp2_with fail
  refine Calls.mono HD.out ?_
  rintro e w1 ⟨v, ts, v', vs, rfl, hr⟩
  have HX : Hid (DrawTPost w (.returned (.tuple #[v, v'])) w1) := ⟨v, ts, v', vs, rfl, hr⟩
  clear hr
  go_wp2_with fail
  go_ret2
  exact HX.out
theorem ba_two (a b : List UInt8) : (⟨(a ++ b).toArray⟩ : ByteArray) = ⟨a.toArray⟩ ++ ⟨b.toArray⟩ := by
  apply ByteArray.ext
  simp [ByteArray.data_append]
theorem ba_three (a b c : List UInt8) : (⟨(a ++ (b ++ c)).toArray⟩ : ByteArray) = ⟨a.toArray⟩ ++ ⟨b.toArray⟩ ++ ⟨c.toArray⟩ := by
  apply ByteArray.ext
  simp [ByteArray.data_append]
theorem own_sl {w : World} {base e size : Nat} {v : Value} {n : Nat} {xs : List Value} (h : w.ownsRow base e size v n xs) : ∃ ad cap, v = .slice ad n cap := by
  rcases h.2 with ⟨hv, h0⟩ | ⟨g, cap, cur, hv, _⟩
  · exact ⟨none, 0, by rw [hv, h0]⟩
  · exact ⟨_, cap, hv⟩

set_option maxRecDepth 100000 in
set_option maxHeartbeats 4000000 in
theorem walk (a0 : Option Addr) (len0 cap0 : Nat) (z0 : List Int) (w : World) (w0 : IsRow .u8 w a0 len0 cap0 z0) (hkr : KR w) (hET : ET w) :
    Calls Tryd.prog 5 #[.slice a0 len0 cap0] w fun e w' => e = .returned (.bool true) ∧ Below w.heap.size w w' := by
  have hlm := row_len w0
  by_cases hbig : 1048576 < len0
  · have hd : decide (1048576 < len0) = true := decide_eq_true hbig
    have HB : Hid (∀ w, Calls Tryd.prog 6 #[.slice a0 len0 cap0] w fun e w' => e = .returned (.bool true) ∧ w' = w) := fun w => by have := big_any a0 len0 cap0 w hlm; rwa [hd] at this
    clear w0 hlm hbig hd hkr hET
    go_enter Tryd.func5, Tryd.ntmps5
    go_wp2_with fail
    refine (HB.out _).mono ?_
    rintro e w1 ⟨rfl, rfl⟩
    go_wp2_with fail
    go_ret
    exact ⟨rfl, Below.refl _ _⟩
  · have hd : decide (1048576 < len0) = false := decide_eq_false hbig
    have HB : Hid (∀ w, Calls Tryd.prog 6 #[.slice a0 len0 cap0] w fun e w' => e = .returned (.bool false) ∧ w' = w) := fun w => by have := big_any a0 len0 cap0 w hlm; rwa [hd] at this
    have HD : Hid (Calls Tryd.prog 12 #[.slice a0 len0 cap0] w fun e w' => DrawTPost w e w') := drawn w.heap.size a0 len0 cap0 w (Nat.le_refl _) w0.code (by omega)
    have HK : Hid (KR w) := hkr
    have HE : Hid (ET w) := hET
    clear w0 hlm hbig hd hkr hET
    go_enter Tryd.func5, Tryd.ntmps5
    go_wp2_with fail
    refine (HB.out _).mono ?_
    rintro e w1 ⟨rfl, rfl⟩
    go_wp2_with fail
    refine Calls.mono HD.out ?_
    rintro e w2 ⟨v, ts, v', vs, rfl, hot, h41, hwf, hoi, h15, hwi, hb2⟩
    have HT : Hid (IsTyps w2.heap.size w2 v ts) := own_typs hot (by omega) hwf
    have HI : Hid (IsItems w2.heap.size w2 v' vs) := hoi.items (by omega) (wfI_items hwi)
    have HOT : Hid (w2.ownsRow w1.heap.size 37 2 v ts.length (flatT ts)) := hot
    have HOI : Hid (OwnIt w1.heap.size w2 v' vs) := hoi
    have HWF : Hid (wfT ts ∧ wfI vs ∧ ts.length ≤ 41 ∧ vs.length ≤ 1500) := ⟨hwf, hwi, h41, h15⟩
    have HB2 : Hid (Below w1.heap.size w1 w2) := hb2
    have HE2 : Hid (∀ w', Below w2.heap.size w2 w' → Calls Tryd.prog 13 #[v, v'] w' fun e w'' => e = .returned (.tuple #[.string (encB (typedB ts vs) (sszL ts vs)), .bool (typedB ts vs)]) ∧ Below w'.heap.size w' w'') := fun w' hb => implSszEnc_any ts vs v v' w' ((HT.out.below hb).up hb.size) ((HI.out.below hb).up hb.size) (HK.out.below (hb2.trans (hb.mono hb2.size))) (ET.below (B := 0) HE.out (hb2.trans (hb.mono hb2.size)))
    have HS2 : Hid (∀ w', Below w2.heap.size w2 w' → Calls Tryd.prog 14 #[v, v'] w' fun e w'' => e = .returned (.tuple #[.string (encB (typedB ts vs) (sszL ts vs)), .bool (typedB ts vs)]) ∧ Below w'.heap.size w' w'') := fun w' hb => specSszEnc_any ts vs v v' w' ((HT.out.below hb).up hb.size) ((HI.out.below hb).up hb.size)
    obtain ⟨ad, cT, rfl⟩ := own_sl hot
    obtain ⟨bd, cI, rfl⟩ := own_sl hoi
    obtain ⟨o, ho⟩ : ∃ o, typedB ts vs = o := ⟨_, rfl⟩
    obtain ⟨D, hD⟩ : ∃ D, encB (typedB ts vs) (sszL ts vs) = D := ⟨_, rfl⟩
    have HO : Hid (typedB ts vs = o) := ho
    have HDE : Hid (encB (typedB ts vs) (sszL ts vs) = D) := hD
    rw [hD, ho] at HE2 HS2
    clear hot hoi hwf hwi hb2 HD HB ho hD h41 h15
    go_wp2_with fail
    refine (HE2.out w2 (Below.refl _ _)).mono ?_
    rintro e w3 ⟨rfl, hb3⟩
    have HB3 : Hid (Below w2.heap.size w2 w3) := hb3
    clear hb3
    go_wp2_with fail
    refine (HS2.out w3 HB3.out).mono ?_
    rintro e w4 ⟨rfl, hb4⟩
    have HB4 : Hid (Below w2.heap.size w2 w4) := HB3.out.trans (hb4.mono HB3.out.size)
    clear hb4
    obtain ⟨i0, hi, hz0, hz1, hz2⟩ := info_parts Tryd.infoTyp2
    obtain ⟨j0, hj, jz0, jz1, jz2⟩ := info_parts Tryd.infoItem
    have HB14 : Hid (Below w1.heap.size w1 w4) := HB2.out.trans (HB4.out.mono HB2.out.size)
    have hqo : (o != o) = false := by cases o <;> rfl
    have hqo' : (o == o) = true := by cases o <;> rfl
    have HO4 : Hid (w4.ownsRow w1.heap.size 37 2 (.slice ad ts.length cT) ts.length (flatT ts)) := own_keepX HOT.out (fun g hg => HB4.out.block g (World.ownsRow.lt HOT.out g hg).2)
    have HD4 : Hid ((w4.alloc (.cells #[.int .i64 8, .int .i64 0] 37)).ownsRow w4.heap.size 37 2 (.slice (some ⟨w4.heap.size, 0, none⟩) 1 1) 1 (flatT [(8, 0)])) := World.ownsRow_lit w4 #[.int .i64 8, .int .i64 0] 1 (Nat.le_refl _) (by decide) rfl
    by_cases f0 : ts.length = 0
    · have ho0 : o = false := by
        cases o with
        | false => rfl
        | true => have := (en_lt (schOk_iff.1 (typed_inv HO.out).1).2).1; omega
      subst ho0
      have HF0 : Hid (ts.length = 0) := f0
      have HB5 : Hid (Below w1.heap.size w1 (w4.alloc (.cells #[.int .i64 8, .int .i64 0] 37))) := HB14.out.trans ((bel1 w4 _).mono HB14.out.size)
      clear f0
      go_wp2_with (at_builtin; refine wpList_append_none rfl _ _ 24 rfl 37 i0 Tryd.underlying24 hi (some ⟨w4.heap.size, 0, none⟩) ad 1 1 cT (Nat.le_refl _) rfl (by show Value.slice ad ts.length cT = _; rw [HF0.out]) ?_)
      go_ret
      exact ⟨rfl, HB5.out⟩
    · obtain ⟨g2, hg2⟩ : ∃ g, ad = some ⟨g, 0, none⟩ := by
        rcases HOT.out.2 with ⟨_, h0⟩ | ⟨g, cp, cur, h1, _⟩
        · omega
        · cases h1; exact ⟨g, rfl⟩
      subst hg2
      have hpos : 0 < ts.length := by omega
      have hlen : ts.length ≤ 41 := HWF.out.2.2.1
      have hg4 : g2 < w4.heap.size := (World.ownsRow.lt HO4.out g2 rfl).2
      have HC4 : Hid (∀ w' : World, w'.heap[g2]? = w4.heap[g2]? → ∀ j u, (flatT ts)[j]? = some u → w'.cell? ((⟨g2, 0, none⟩ : Addr).add j) = some u) := fun w' hk j u hu => (own_keepX HO4.out (fun g' hg' => by cases hg'; exact hk)).cells (g := g2) rfl j u hu
      go_wp2_with (at_builtin; refine wpList_append_lies _ rfl _ _ 24 rfl w4.heap.size 37 i0 (.agg #[.int .i64 0, .int .i64 0]) 2 16 Tryd.underlying24 hi hz0 hz1 hz2 rfl (by decide) _ 1 (flatT [(8, 0)]) rfl HD4.out ⟨g2, 0, none⟩ ts.length cT (flatT ts) rfl (flatT_len ts) (HC4.out _ (Below.heap_alloc _ _ _ hg4)) (fun u hu => by obtain ⟨z, rfl⟩ := flatT_int ts u hu; rfl) hpos (by unfold maxLen; omega) (by omega) (by simp) _ rfl ?_)
      intro g7 c7 w7 hown7 hgrow7 hat7 hlt7
      have HB47 : Hid (Below w4.heap.size w4 w7) := (bel1 w4 _).grown hgrow7 (by simp) (fun q hq => by simp [Value.ownBlock] at hq; omega)
      have HB7 : Hid (Below w1.heap.size w1 w7) := HB14.out.trans (HB47.out.mono HB14.out.size)
      have HO7 : Hid (w7.ownsRow w4.heap.size 37 2 (.slice (some ⟨g7, 0, none⟩) (1 + ts.length) c7) ((8, 0) :: ts).length (flatT ((8, 0) :: ts))) := by
        have e1 : ((8, 0) :: ts).length = 1 + ts.length := by simp; omega
        show w7.ownsRow w4.heap.size 37 2 (.slice (some ⟨g7, 0, none⟩) (1 + ts.length) c7) ((8, 0) :: ts).length (flatT ((8, 0) :: ts))
        rw [e1]; exact hown7
      have HW7 : Hid (∀ t ∈ ((8, 0) :: ts : List (Int × Int)), inI t.1 ∧ inI t.2) := fun t ht => by
        rcases List.mem_cons.1 ht with rfl | ht
        · exact ⟨⟨by decide, by decide⟩, ⟨by decide, by decide⟩⟩
        · exact HWF.out.1 t ht
      have HT7 : Hid (IsTyps w7.heap.size w7 (.slice (some ⟨g7, 0, none⟩) (1 + ts.length) c7) ((8, 0) :: ts)) := own_typs HO7.out (by simp; omega) HW7.out
      have HI7 : Hid (IsItems w7.heap.size w7 (.slice bd vs.length cI) vs) := (HI.out.below (HB4.out.trans (HB47.out.mono HB4.out.size))).up (HB4.out.trans (HB47.out.mono HB4.out.size)).size
      clear hown7 hgrow7 hat7 hlt7
      obtain ⟨f, hf⟩ : ∃ f, schOk ((8, 0) :: ts) = f := ⟨_, rfl⟩
      have HF : Hid (schOk ((8, 0) :: ts) = f) := hf
      have HSC : Hid (Calls Tryd.prog 17 #[.slice (some ⟨g7, 0, none⟩) (1 + ts.length) c7] w7 fun e w' => e = .returned (.bool f) ∧ Below w7.heap.size w7 w') := by
        have := specSchemaOk_any ((8, 0) :: ts) _ w7 HT7.out
        rwa [hf] at this
      clear hf
      cases o with
      | false =>
        go_wp2_with fail
        go_ret
        exact ⟨rfl, HB7.out⟩
      | true =>
        go_wp2_with fail
        refine HSC.out.mono ?_
        rintro e w8 ⟨rfl, hb8⟩
        have HB78 : Hid (Below w7.heap.size w7 w8) := hb8
        have HB8 : Hid (Below w1.heap.size w1 w8) := HB7.out.trans (hb8.mono HB7.out.size)
        clear hb8
        cases f with
        | false =>
          go_wp2_with fail
          go_ret
          exact ⟨rfl, HB8.out⟩
        | true =>
          have HTY : Hid (schOk ts = true ∧ vs.length ≤ 200 ∧ ve ts vs 7 0 0 = some vs.length) := typed_inv HO.out
          have hvl : vs.length ≤ 200 := HTY.out.2.1
          have hvp : 0 < vs.length := (ve_lt HTY.out.2.2).1
          by_cases h200 : vs.length = 200
          · have hd200 : ((vs.length : Int) == 200) = true := by simp; omega
            have hd200' : decide ((vs.length : Int) = 200) = true := by simp; omega
            clear h200
            go_wp2_with fail
            go_ret
            exact ⟨rfl, HB8.out⟩
          · have hd200 : ((vs.length : Int) == 200) = false := by simp; omega
            have hd200' : decide ((vs.length : Int) = 200) = false := by simp; omega
            have hvl9 : vs.length ≤ 199 := by omega
            have hDe : (⟨(sszL ts vs).toArray⟩ : ByteArray) = D := by
              have h := HDE.out
              rw [HO.out] at h
              exact h
            have hDs : D.size ≤ 209720000 := by
              rw [← hDe, ba_size]
              exact ssE_le (fun x h => (wfI_items HWF.out.2.1 x h).2.2) HTY.out.2.1 (schOk_iff.1 HTY.out.1).2 HTY.out.2.2
            have hSOs : ((⟨#[1]⟩ : ByteArray) ++ D).size ≤ 209720001 := by rw [ByteArray.size_append]; show 1 + D.size ≤ _; omega
            have h1s : (⟨#[1]⟩ : ByteArray).size = 1 := rfl
            have HC9 : Hid (∀ (v : Value) (w' : World), Below w7.heap.size w7 w' → IsItems w'.heap.size w' v (⟨8, 1, ⟨#[]⟩⟩ :: vs) → Calls Tryd.prog 13 #[.slice (some ⟨g7, 0, none⟩) (1 + ts.length) c7, v] w' fun e w'' => e = .returned (.tuple #[.string ((⟨#[1]⟩ : ByteArray) ++ D), .bool true]) ∧ Below w'.heap.size w' w'') := fun v w' hb hi' => by
              have h1 := (opt_some HO.out HF.out (show vs.length + 1 ≤ 200 by omega)).1
              have h3 : encB true (sszL ((8, 0) :: ts) (⟨8, 1, ⟨#[]⟩⟩ :: vs)) = (⟨#[1]⟩ : ByteArray) ++ D := by
                show (⟨(ssE ((8, 0) :: ts) (⟨8, 1, ⟨#[]⟩⟩ :: vs) 7 0 0).toArray⟩ : ByteArray) = (⟨#[1]⟩ : ByteArray) ++ D
                rw [some_ss HO.out HF.out (show vs.length + 1 ≤ 200 by omega), ← hDe]
                exact ba_two [1] _
              have := implSszEnc_any ((8, 0) :: ts) (⟨8, 1, ⟨#[]⟩⟩ :: vs) _ v w' ((HT7.out.below hb).up hb.size) hi' (HK.out.below (HB7.out.trans (hb.mono HB7.out.size))) (ET.below (B := 0) HE.out (HB7.out.trans (hb.mono HB7.out.size)))
              rw [h1, h3] at this
              exact this
            have HCN : Hid (∀ (v : Value) (w' : World), Below w7.heap.size w7 w' → IsItems w'.heap.size w' v [⟨8, 0, ⟨#[]⟩⟩] → Calls Tryd.prog 13 #[.slice (some ⟨g7, 0, none⟩) (1 + ts.length) c7, v] w' fun e w'' => e = .returned (.tuple #[.string ⟨#[0]⟩, .bool true]) ∧ Below w'.heap.size w' w'') := fun v w' hb hi' => by
              have h1 := opt_none (ts := ts) HF.out
              have h3 : encB true (sszL ((8, 0) :: ts) [⟨8, 0, ⟨#[]⟩⟩]) = ⟨#[0]⟩ := by
                show (⟨(ssE ((8, 0) :: ts) [⟨8, 0, ⟨#[]⟩⟩] 7 0 0).toArray⟩ : ByteArray) = _
                rw [none_ss]
              have := implSszEnc_any ((8, 0) :: ts) [⟨8, 0, ⟨#[]⟩⟩] _ v w' ((HT7.out.below hb).up hb.size) hi' (HK.out.below (HB7.out.trans (hb.mono HB7.out.size))) (ET.below (B := 0) HE.out (HB7.out.trans (hb.mono HB7.out.size)))
              rw [h1, h3] at this
              exact this
            have hoi4 : OwnIt w1.heap.size w2 (.slice bd vs.length cI) vs := HOI.out
            obtain ⟨gx, hgx⟩ : ∃ g, bd = some ⟨g, 0, none⟩ := by
              rcases hoi4.2 with ⟨_, h0⟩ | ⟨g, cp, cur, h1, _⟩
              · omega
              · cases h1; exact ⟨g, rfl⟩
            subst hgx
            have HB28 : Hid (Below w2.heap.size w2 w8) := (HB4.out.trans (HB47.out.mono HB4.out.size)).trans (HB78.out.mono (HB4.out.trans (HB47.out.mono HB4.out.size)).size)
            have HX8 : Hid (OwnIt w1.heap.size w8 (.slice (some ⟨gx, 0, none⟩) vs.length cI) vs) := own_keepX hoi4 (fun g hg => HB28.out.block g (World.ownsRow.lt hoi4 g hg).2)
            have hgx8 : gx < w8.heap.size := (World.ownsRow.lt HX8.out gx rfl).2
            have HL8 : Hid ((w8.alloc (.cells #[.int .i64 8, .int .u64 1, .string ⟨#[]⟩] 40)).ownsRow w8.heap.size 40 3 (.slice (some ⟨w8.heap.size, 0, none⟩) 1 1) 1 (flatI [⟨8, 1, ⟨#[]⟩⟩])) := World.ownsRow_lit w8 #[.int .i64 8, .int .u64 1, .string ⟨#[]⟩] 1 (Nat.le_refl _) (by decide) rfl
            have HC8 : Hid (∀ w' : World, w'.heap[gx]? = w8.heap[gx]? → ∀ j u, (flatI vs)[j]? = some u → w'.cell? ((⟨gx, 0, none⟩ : Addr).add j) = some u) := fun w' hk j u hu => World.ownsRow.cells (own_keepX HX8.out (fun g' hg' => by cases hg'; exact hk)) (g := gx) rfl j u hu
            clear hoi4 hDe h200
            go_wp2_with (at_builtin; refine wpList_append_lies _ rfl _ _ 25 rfl w8.heap.size 40 j0 (.agg #[.int .i64 0, .int .u64 0, .string ByteArray.empty]) 3 32 Tryd.underlying25 hj jz0 jz1 jz2 rfl (by decide) _ 1 (flatI [⟨8, 1, ⟨#[]⟩⟩]) rfl HL8.out ⟨gx, 0, none⟩ vs.length cI (flatI vs) rfl (flatI_len vs) (HC8.out _ (Below.heap_alloc _ _ _ hgx8)) (flatI_one _) hvp (by unfold maxLen; omega) (by omega) (by simp) _ rfl ?_)
            intro g9 c9 w9 hown9 hgrow9 hat9 hlt9
            have HB89 : Hid (Below w8.heap.size w8 w9) := (bel1 w8 _).grown hgrow9 (by simp) (fun q hq => by simp [Value.ownBlock] at hq; omega)
            have HB79 : Hid (Below w7.heap.size w7 w9) := HB78.out.trans (HB89.out.mono HB78.out.size)
            have HX9 : Hid (OwnIt w8.heap.size w9 (.slice (some ⟨g9, 0, none⟩) (1 + vs.length) c9) (⟨8, 1, ⟨#[]⟩⟩ :: vs)) := by
              have e1 : ((⟨8, 1, ⟨#[]⟩⟩ : It) :: vs).length = 1 + vs.length := by simp; omega
              show w9.ownsRow w8.heap.size 40 3 (.slice (some ⟨g9, 0, none⟩) (1 + vs.length) c9) ((⟨8, 1, ⟨#[]⟩⟩ : It) :: vs).length (flatI (⟨8, 1, ⟨#[]⟩⟩ :: vs))
              rw [e1]; exact hown9
            have HCC : Hid (Calls Tryd.prog 13 #[.slice (some ⟨g7, 0, none⟩) (1 + ts.length) c7, .slice (some ⟨g9, 0, none⟩) (1 + vs.length) c9] w9 fun e w'' => e = .returned (.tuple #[.string ((⟨#[1]⟩ : ByteArray) ++ D), .bool true]) ∧ Below w9.heap.size w9 w'') := HC9.out _ w9 HB79.out (HX9.out.items (by simp; omega) (fun x hx => by
              rcases List.mem_cons.1 hx with rfl | hx
              · exact ⟨⟨by decide, by decide⟩, by show (1 : Nat) < _; omega, by show (0 : Nat) ≤ _; omega⟩
              · exact wfI_items HWF.out.2.1 x hx))
            clear hown9 hgrow9 hat9 hlt9
            go_wp2_with fail
            refine HCC.out.mono ?_
            rintro e w10 ⟨rfl, hb10⟩
            have HB710 : Hid (Below w7.heap.size w7 w10) := HB79.out.trans (hb10.mono HB79.out.size)
            clear hb10
            have HL10 : Hid ((w10.alloc (.cells #[.int .i64 8, .int .u64 0, .string ⟨#[]⟩] 40)).ownsRow w10.heap.size 40 3 (.slice (some ⟨w10.heap.size, 0, none⟩) 1 1) 1 (flatI [⟨8, 0, ⟨#[]⟩⟩])) := World.ownsRow_lit w10 #[.int .i64 8, .int .u64 0, .string ⟨#[]⟩] 1 (Nat.le_refl _) (by decide) rfl
            have HB711 : Hid (Below w7.heap.size w7 (w10.alloc (.cells #[.int .i64 8, .int .u64 0, .string ⟨#[]⟩] 40))) := HB710.out.trans ((bel1 w10 _).mono HB710.out.size)
            have HX11 : Hid (OwnIt w10.heap.size (w10.alloc (.cells #[.int .i64 8, .int .u64 0, .string ⟨#[]⟩] 40)) (.slice (some ⟨w10.heap.size, 0, none⟩) 1 1) [⟨8, 0, ⟨#[]⟩⟩]) := HL10.out
            have HCM : Hid (Calls Tryd.prog 13 #[.slice (some ⟨g7, 0, none⟩) (1 + ts.length) c7, .slice (some ⟨w10.heap.size, 0, none⟩) 1 1] (w10.alloc (.cells #[.int .i64 8, .int .u64 0, .string ⟨#[]⟩] 40)) fun e w'' => e = .returned (.tuple #[.string ⟨#[0]⟩, .bool true]) ∧ Below (w10.alloc (.cells #[.int .i64 8, .int .u64 0, .string ⟨#[]⟩] 40)).heap.size (w10.alloc (.cells #[.int .i64 8, .int .u64 0, .string ⟨#[]⟩] 40)) w'') := HCN.out _ _ HB711.out (HX11.out.items (by decide) (fun x hx => by
              simp only [List.mem_singleton] at hx
              subst hx
              exact ⟨⟨by decide, by decide⟩, by show (0 : Nat) < _; omega, by show (0 : Nat) ≤ _; omega⟩))
            go_wp2_with fail
            refine HCM.out.mono ?_
            rintro e w12 ⟨rfl, hb12⟩
            have HB12 : Hid (Below w1.heap.size w1 w12) := HB7.out.trans ((HB711.out.trans (hb12.mono HB711.out.size)).mono HB7.out.size)
            clear hb12
            go_wp2_with fail
            go_ret
            exact ⟨rfl, HB12.out⟩
end Go.Proofs.YtjpdhenmhffmeaaDoor.fnSszSome
