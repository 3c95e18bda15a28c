/- Whatever its arguments, laws.FnScaleTwo returns true and leaves them, and the table that it reads, as they were; the table starts as the program's text lays it. -/
import Derived.Test.YtogadhfickojcaaGreatDoorCards
import Derived.Test.YtogadhfickojcaaGreatDoorTie
import Derived.Test.YtogadhfickojcaaGreatDoorS7f
import Derived.Test.YtogadhfickojcaaGreatDoorS7g
import Derived.Test.YtogadhfickojcaaGreatDoorDrawZ
import Derived.SevenTiedAt
namespace Go.Proofs.YtogadhfickojcaaGreatDoor.fnScaleTwo
open Go.ChangeShapes Go.WideShapes Go.ChangeAt Go.RowKit
open Go.ChangeMaps (open_string shut_string)
set_option linter.unusedVariables false
theorem big_any (a : Option Addr) (len cap : Nat) (w : World) (hl : len ≤ maxLen) : Calls Tryz.prog 11 #[.slice a len cap] w fun e w' => e = .returned (.bool (decide (1048576 < len))) ∧ w' = w := by
  unfold maxLen at hl
  go_enter Tryz.func11, Tryz.ntmps11
  go_wp2
  go_ret
  exact ⟨ret_b (by simp; omega), rfl⟩
theorem row_len {k : IntKind} {w : World} {a : Option Addr} {len cap : Nat} {zs : List Int} (h : IsRow k w a len cap zs) : len ≤ maxLen := by
  rcases h with ⟨_, rfl, _, _⟩ | ⟨x, _, h1, h2, _⟩
  · simp [maxLen]
  · omega
theorem wfI_items {vs : List It} (h : wfI vs) : ∀ x ∈ vs, inI x.k ∧ x.n < 18446744073709551616 ∧ x.s.size ≤ 1048577 := fun x hx => by
  obtain ⟨h1, h2, h3⟩ := h x hx
  exact ⟨h1, h2, by omega⟩
set_option maxHeartbeats 1000000 in
theorem drawn (B0 : Nat) (a : Option Addr) (len cap : Nat) (w : World) (hB : B0 ≤ w.heap.size) (hc : CodeAt B0 a len w) (hl : len ≤ 1048576) : Calls Tryz.prog 12 #[.slice a len cap] w fun e w' => DrawTPost w e w' := by
  have HD : Hid (Calls Tryz.prog 32 #[.slice a len cap] w fun e w' => DrawTPost w e w') := DrawTyped_any B0 a len cap w hB hc hl
  clear hc
  go_enter Tryz.func12, Tryz.ntmps12
  go_wp2_with fail
  refine Calls.mono HD.out ?_
  rintro e w1 ⟨v, ts, v', vs, rfl, hr⟩
  have HX : Hid (DrawTPost w (.returned (.tuple #[v, v'])) w1) := ⟨v, ts, v', vs, rfl, hr⟩
  clear hr
  go_wp2_with fail
  go_ret2
  exact HX.out
theorem ba_two (a b : List UInt8) : (⟨(a ++ b).toArray⟩ : ByteArray) = ⟨a.toArray⟩ ++ ⟨b.toArray⟩ := by
  apply ByteArray.ext
  simp [ByteArray.data_append]
theorem ba_three (a b c : List UInt8) : (⟨(a ++ (b ++ c)).toArray⟩ : ByteArray) = ⟨a.toArray⟩ ++ ⟨b.toArray⟩ ++ ⟨c.toArray⟩ := by
  apply ByteArray.ext
  simp [ByteArray.data_append]
theorem own_sl {w : World} {base e size : Nat} {v : Value} {n : Nat} {xs : List Value} (h : w.ownsRow base e size v n xs) : ∃ ad cap, v = .slice ad n cap := by
  rcases h.2 with ⟨hv, h0⟩ | ⟨g, cap, cur, hv, _⟩
  · exact ⟨none, 0, by rw [hv, h0]⟩
  · exact ⟨_, cap, hv⟩

set_option maxRecDepth 100000 in
set_option maxHeartbeats 4000000 in
theorem walk (a0 : Option Addr) (len0 cap0 : Nat) (z0 : List Int) (w : World) (w0 : IsRow .u8 w a0 len0 cap0 z0) (hkr : KR w) (hET : ET w) :
    Calls Tryz.prog 6 #[.slice a0 len0 cap0] w fun e w' => e = .returned (.bool true) ∧ Below w.heap.size w w' := by
  have hlm := row_len w0
  by_cases hbig : 1048576 < len0
  · have hd : decide (1048576 < len0) = true := decide_eq_true hbig
    have HB : Hid (∀ w, Calls Tryz.prog 11 #[.slice a0 len0 cap0] w fun e w' => e = .returned (.bool true) ∧ w' = w) := fun w => by have := big_any a0 len0 cap0 w hlm; rwa [hd] at this
    clear w0 hlm hbig hd hkr hET
    go_enter Tryz.func6, Tryz.ntmps6
    go_wp2_with fail
    refine (HB.out _).mono ?_
    rintro e w1 ⟨rfl, rfl⟩
    go_wp2_with fail
    go_ret
    exact ⟨rfl, Below.refl _ _⟩
  · have hd : decide (1048576 < len0) = false := decide_eq_false hbig
    have HB : Hid (∀ w, Calls Tryz.prog 11 #[.slice a0 len0 cap0] w fun e w' => e = .returned (.bool false) ∧ w' = w) := fun w => by have := big_any a0 len0 cap0 w hlm; rwa [hd] at this
    have HD : Hid (Calls Tryz.prog 12 #[.slice a0 len0 cap0] w fun e w' => DrawTPost w e w') := drawn w.heap.size a0 len0 cap0 w (Nat.le_refl _) w0.code (by omega)
    have HK : Hid (KR w) := hkr
    have HE : Hid (ET w) := hET
    clear w0 hlm hbig hd hkr hET
    go_enter Tryz.func6, Tryz.ntmps6
    go_wp2_with fail
    refine (HB.out _).mono ?_
    rintro e w1 ⟨rfl, rfl⟩
    go_wp2_with fail
    refine Calls.mono HD.out ?_
    rintro e w2 ⟨v, ts, v', vs, rfl, hot, h41, hwf, hoi, h15, hwi, hb2⟩
    have HT : Hid (IsTyps w2.heap.size w2 v ts) := own_typs hot (by omega) hwf
    have HI : Hid (IsItems w2.heap.size w2 v' vs) := hoi.items (by omega) (wfI_items hwi)
    have HOT : Hid (w2.ownsRow w1.heap.size 41 2 v ts.length (flatT ts)) := hot
    have HTW : Hid (∀ w', Below w2.heap.size w2 w' → Calls Tryz.prog 22 #[v, v', v'] w' fun e w'' => TwPost ts vs w' e w'') := fun w' hb => twice_any ts vs v v' w1.heap.size w' (hot.kept (gb_bel hb) (by cases v.ownBlock <;> simp)) (hoi.kept hb) h41 hwf h15 hwi
    have HWF : Hid (wfT ts ∧ wfI vs ∧ ts.length ≤ 41 ∧ vs.length ≤ 1500) := ⟨hwf, hwi, h41, h15⟩
    have HB2 : Hid (Below w1.heap.size w1 w2) := hb2
    have HE2 : Hid (∀ w', Below w2.heap.size w2 w' → Calls Tryz.prog 13 #[v, v'] w' fun e w'' => e = .returned (.tuple #[.string (encB (typedB ts vs) (encL ts vs)), .bool (typedB ts vs)]) ∧ Below w'.heap.size w' w'') := fun w' hb => implScaleEnc_any ts vs v v' w' ((HT.out.below hb).up hb.size) ((HI.out.below hb).up hb.size) (HK.out.below (hb2.trans (hb.mono hb2.size))) (ET.below (B := 0) HE.out (hb2.trans (hb.mono hb2.size)))
    have HS2 : Hid (∀ w', Below w2.heap.size w2 w' → Calls Tryz.prog 14 #[v, v'] w' fun e w'' => e = .returned (.tuple #[.string (encB (typedB ts vs) (encL ts vs)), .bool (typedB ts vs)]) ∧ Below w'.heap.size w' w'') := fun w' hb => specScaleEnc_any ts vs v v' w' ((HT.out.below hb).up hb.size) ((HI.out.below hb).up hb.size)
    obtain ⟨ad, cT, rfl⟩ := own_sl hot
    obtain ⟨bd, cI, rfl⟩ := own_sl hoi
    obtain ⟨o, ho⟩ : ∃ o, typedB ts vs = o := ⟨_, rfl⟩
    obtain ⟨D, hD⟩ : ∃ D, encB (typedB ts vs) (encL ts vs) = D := ⟨_, rfl⟩
    have HO : Hid (typedB ts vs = o) := ho
    have HDE : Hid (encB (typedB ts vs) (encL ts vs) = D) := hD
    rw [hD, ho] at HE2 HS2
    clear hot hoi hwf hwi hb2 HD HB ho hD h41 h15
    go_wp2_with fail
    refine (HE2.out w2 (Below.refl _ _)).mono ?_
    rintro e w3 ⟨rfl, hb3⟩
    have HB3 : Hid (Below w2.heap.size w2 w3) := hb3
    clear hb3
    go_wp2_with fail
    refine (HS2.out w3 HB3.out).mono ?_
    rintro e w4 ⟨rfl, hb4⟩
    have HB4 : Hid (Below w2.heap.size w2 w4) := HB3.out.trans (hb4.mono HB3.out.size)
    clear hb4
    go_wp2_with fail
    refine (HTW.out w4 HB4.out).mono ?_
    rintro e w5 ⟨t, x, rfl, hot5, hox5, hb5⟩
    have HB5 : Hid (Below w2.heap.size w2 w5) := HB4.out.trans (hb5.mono HB4.out.size)
    have HOT5 : Hid (w5.ownsRow w4.heap.size 41 2 t (twT ts).length (flatT (twT ts))) := hot5
    have HOX5 : Hid (OwnIt w4.heap.size w5 x (twX 7 vs)) := hox5
    obtain ⟨f, hf⟩ : ∃ f, (schOk (twT ts) && decide ((twX 7 vs).length ≤ 200)) = f := ⟨_, rfl⟩
    have HF : Hid ((schOk (twT ts) && decide ((twX 7 vs).length ≤ 200)) = f) := hf
    rw [hf]
    obtain ⟨ta, tc, rfl⟩ := own_sl hot5
    obtain ⟨xa, xc, rfl⟩ := own_sl hox5
    have HBA : Hid (Below w1.heap.size w1 w5) := HB2.out.trans (HB5.out.mono HB2.out.size)
    clear hot5 hox5 hb5 hf
    have hqo : (o != o) = false := by cases o <;> rfl
    have hqo' : (o == o) = true := by cases o <;> rfl
    cases o with
    | false =>
      go_wp2_with fail
      go_ret
      exact ⟨rfl, HBA.out⟩
    | true =>
      cases f with
      | false =>
        go_wp2_with fail
        go_ret
        exact ⟨rfl, HBA.out⟩
      | true =>
        have HF2 : Hid (schOk (twT ts) = true ∧ (twX 7 vs).length ≤ 200) := by
          have h := HF.out
          simp only [Bool.and_eq_true, decide_eq_true_eq] at h
          exact h
        have hDe : (⟨(encL ts vs).toArray⟩ : ByteArray) = D := by
          have h := HDE.out
          rw [HO.out] at h
          exact h
        have hDs : D.size ≤ 1000000000 := by
          obtain ⟨k1, k2, k3⟩ := typed_inv HO.out
          rw [← hDe, ba_size]
          exact scE_le cb_len_sc (fun x h => (wfI_items HWF.out.2.1 x h).2.2) k2 (schOk_iff.1 k1).2 k3
        have HC1 : Hid (Calls Tryz.prog 13 #[.slice ta (twT ts).length tc, .slice xa (twX 7 vs).length xc] w5 fun e w'' => e = .returned (.tuple #[.string (D ++ D), .bool true]) ∧ Below w5.heap.size w5 w'') := by
          obtain ⟨h1, h2⟩ := two_sc cb_sc HO.out HF2.out.1 HF2.out.2
          have h3 : encB true (encL (twT ts) (twX 7 vs)) = D ++ D := by
            show (⟨(scE cb_sc (twT ts) (twX 7 vs) 7 0 0).toArray⟩ : ByteArray) = D ++ D
            rw [h2, ← hDe]
            exact ba_two _ _
          have := implScaleEnc_any (twT ts) (twX 7 vs) (.slice ta (twT ts).length tc) (.slice xa (twX 7 vs).length xc) w5 (own_typs HOT5.out (by have := HWF.out.2.2.1; simp [twT]; omega) (wfT_tw HWF.out.1)) (HOX5.out.items (by have := HWF.out.2.2.2; simp [twX]; omega) (wfI_items (wfI_tw ⟨by decide, by decide⟩ HWF.out.2.1))) (HK.out.below HBA.out) (ET.below (B := 0) HE.out HBA.out)
          rw [h1, h3] at this
          exact this
        have HC2 : Hid (∀ (v l : Value) (w' : World), IsTyps w'.heap.size w' l ((5, 5) :: ts) → IsItems w'.heap.size w' v (twX 5 vs) → Below w1.heap.size w1 w' → Calls Tryz.prog 13 #[l, v] w' fun e w'' => e = .returned (.tuple #[.string (⟨(putCompact 2).toArray⟩ ++ D ++ D), .bool true]) ∧ Below w'.heap.size w' w'') := fun v l w' i1 i2 hb => by
          obtain ⟨h1, h2⟩ := list_sc cb_sc HO.out HF2.out.1 HF2.out.2
          have h3 : encB true (encL ((5, 5) :: ts) (twX 5 vs)) = ⟨(putCompact 2).toArray⟩ ++ D ++ D := by
            show (⟨(scE cb_sc ((5, 5) :: ts) (twX 5 vs) 7 0 0).toArray⟩ : ByteArray) = _
            rw [h2, ← hDe]
            exact ba_three _ _ _
          have := implScaleEnc_any ((5, 5) :: ts) (twX 5 vs) l v w' i1 i2 (HK.out.below hb) (ET.below (B := 0) HE.out hb)
          rw [h1, h3] at this
          exact this
        have hpos : 0 < ts.length := (en_lt (schOk_iff.1 (typed_inv HO.out).1).2).1
        obtain ⟨g2, hg2⟩ : ∃ g, ad = some ⟨g, 0, none⟩ := by
          rcases HOT.out.2 with ⟨_, h0⟩ | ⟨g, cp, cur, h1, _⟩
          · omega
          · cases h1; exact ⟨g, rfl⟩
        subst hg2
        obtain ⟨gx, hgx⟩ : ∃ g, xa = some ⟨g, 0, none⟩ := by
          rcases HOX5.out.2 with ⟨_, h0⟩ | ⟨g, cp, cur, h1, _⟩
          · simp [twX] at h0
          · cases h1; exact ⟨g, rfl⟩
        subst hgx
        obtain ⟨i0, hi, hz0, hz1, hz2⟩ := info_parts Tryz.infoTyp2
        have hlen := HWF.out.2.2.1
        obtain ⟨Lt, hLt⟩ : ∃ L, (twT ts).length = L := ⟨_, rfl⟩
        obtain ⟨Lx, hLx⟩ : ∃ L, (twX 7 vs).length = L := ⟨_, rfl⟩
        have hL0 : 0 < Lx := by rw [← hLx]; simp [twX]
        rw [hLt, hLx] at HC1
        rw [hLt, hLx]
        have HLX : Hid ((twX 7 vs).length = Lx) := hLx
        clear hLt hLx hDe
        go_wp2_with fail
        refine HC1.out.mono ?_
        rintro e w6 ⟨rfl, hb6⟩
        have HB6 : Hid (Below w5.heap.size w5 w6) := hb6
        have HO6 : Hid (w6.ownsRow w1.heap.size 41 2 (.slice (some ⟨g2, 0, none⟩) ts.length cT) ts.length (flatT ts)) := own_keepX HOT.out (fun g hg => (HB5.out.trans (hb6.mono HB5.out.size)).block g (World.ownsRow.lt HOT.out g hg).2)
        have HD6 : Hid ((w6.alloc (.cells #[.int .i64 5, .int .i64 5] 41)).ownsRow w6.heap.size 41 2 (.slice (some ⟨w6.heap.size, 0, none⟩) 1 1) 1 (flatT [(5, 5)])) := World.ownsRow_lit w6 #[.int .i64 5, .int .i64 5] 1 (Nat.le_refl _) (by decide) rfl
        have hg6 : g2 < w6.heap.size := (World.ownsRow.lt HO6.out g2 rfl).2
        have HC6 : Hid (∀ w' : World, w'.heap[g2]? = w6.heap[g2]? → ∀ j u, (flatT ts)[j]? = some u → w'.cell? ((⟨g2, 0, none⟩ : Addr).add j) = some u) := fun w' hk j u hu => (own_keepX HO6.out (fun g' hg' => by cases hg'; exact hk)).cells (g := g2) rfl j u hu
        clear hb6
        go_wp2_with (at_builtin; refine wpList_append_lies _ rfl _ _ 24 rfl w6.heap.size 41 i0 (.agg #[.int .i64 0, .int .i64 0]) 2 16 Tryz.underlying24 hi hz0 hz1 hz2 rfl (by decide) _ 1 (flatT [(5, 5)]) rfl HD6.out ⟨g2, 0, none⟩ ts.length cT (flatT ts) rfl (flatT_len ts) (HC6.out _ (Below.heap_alloc _ _ _ hg6)) (fun u hu => by obtain ⟨z, rfl⟩ := flatT_int ts u hu; rfl) hpos (by unfold maxLen; omega) (by omega) (by simp) _ rfl ?_)
        intro g7 c7 w7 hown7 hgrow7 hat7 hlt7
        have HB7 : Hid (Below w6.heap.size w6 w7) := (bel1 w6 _).grown hgrow7 (by simp) (fun q hq => by simp [Value.ownBlock] at hq; omega)
        have HO7 : Hid (w7.ownsRow w6.heap.size 41 2 (.slice (some ⟨g7, 0, none⟩) (1 + ts.length) c7) ((5, 5) :: ts).length (flatT ((5, 5) :: ts))) := by
          have e1 : ((5, 5) :: ts).length = 1 + ts.length := by simp; omega
          show w7.ownsRow w6.heap.size 41 2 (.slice (some ⟨g7, 0, none⟩) (1 + ts.length) c7) ((5, 5) :: ts).length (flatT ((5, 5) :: ts))
          rw [e1]; exact hown7
        have HB57 : Hid (Below w5.heap.size w5 w7) := HB6.out.trans (HB7.out.mono HB6.out.size)
        have HX7 : Hid (OwnIt w4.heap.size w7 (.slice (some ⟨gx, 0, none⟩) Lx xc) (twX 7 vs)) := by
          have h1 := own_keepX HOX5.out (fun g hg => HB57.out.block g (World.ownsRow.lt HOX5.out g hg).2)
          rw [← HLX.out]
          exact h1
        clear hown7 hgrow7 hat7 hlt7
        have hgx := World.ownsRow.lt HX7.out gx rfl
        have hgx5 : gx < w5.heap.size := (World.ownsRow.lt HOX5.out gx rfl).2
        have hg7 := (World.ownsRow.lt HO7.out g7 rfl).1
        have s56 : w5.heap.size ≤ w6.heap.size := HB6.out.size
        have s24 : w2.heap.size ≤ w4.heap.size := HB4.out.size
        have s12 : w1.heap.size ≤ w2.heap.size := HB2.out.size
        have r0 : w7.ownsRow w4.heap.size 44 3 (.slice (some ⟨gx, 0, none⟩) Lx xc) Lx (flatI (twX 7 vs)) := by
          have h1 : w7.ownsRow w4.heap.size 44 3 (.slice (some ⟨gx, 0, none⟩) Lx xc) (twX 7 vs).length (flatI (twX 7 vs)) := HX7.out
          rw [HLX.out] at h1; exact h1
        have r1 := (World.ownsRow.stored r0 0 (.int .i64 5)).1
        have r2 := (World.ownsRow.stored r1 1 (.int .u64 2)).1
        have r3 := (World.ownsRow.stored r2 2 (.string ⟨#[]⟩)).1
        have c0 : w7.cell? ⟨gx, 0, none⟩ = some (.int .i64 7) := by rw [World.ownsRow.cellAt r0 0 (by omega)]; rfl
        have c1 : (w7.setCell ⟨gx, 0, none⟩ (.int .i64 5)).cell? ⟨gx, 1, none⟩ = some (.int .u64 2) := by rw [World.ownsRow.cellAt r1 1 (by omega)]; rfl
        have c2 : ((w7.setCell ⟨gx, 0, none⟩ (.int .i64 5)).setCell ⟨gx, 1, none⟩ (.int .u64 2)).cell? ⟨gx, 2, none⟩ = some (.string ⟨#[]⟩) := by rw [World.ownsRow.cellAt r2 2 (by omega)]; rfl
        have f0 := World.ownsRow.frozenAt r0 0
        have f1 := World.ownsRow.frozenAt r1 1
        have f2 := World.ownsRow.frozenAt r2 2
        obtain ⟨w8, hw8⟩ : ∃ w8, ((w7.setCell ⟨gx, 0, none⟩ (.int .i64 5)).setCell ⟨gx, 1, none⟩ (.int .u64 2)).setCell ⟨gx, 2, none⟩ (.string ⟨#[]⟩) = w8 := ⟨_, rfl⟩
        have HB8 : Hid (Below w1.heap.size w1 w8) := by
          have h := (HBA.out.trans (HB57.out.mono HBA.out.size))
          rw [← hw8]
          exact ((h.setCell (p := ⟨gx, 0, none⟩) (by show w1.heap.size ≤ gx; omega) _).setCell (p := ⟨gx, 1, none⟩) (by show w1.heap.size ≤ gx; omega) _).setCell (p := ⟨gx, 2, none⟩) (by show w1.heap.size ≤ gx; omega) _
        have HX8 : Hid (OwnIt w4.heap.size w8 (.slice (some ⟨gx, 0, none⟩) Lx xc) (twX 5 vs)) := by
          have e1 : (twX 5 vs).length = Lx := HLX.out
          show w8.ownsRow w4.heap.size 44 3 (.slice (some ⟨gx, 0, none⟩) Lx xc) (twX 5 vs).length (flatI (twX 5 vs))
          rw [e1, ← hw8]; exact r3
        have HO8 : Hid (w8.ownsRow w6.heap.size 41 2 (.slice (some ⟨g7, 0, none⟩) (1 + ts.length) c7) ((5, 5) :: ts).length (flatT ((5, 5) :: ts))) := own_keepX HO7.out (fun g hg => by
          cases hg
          rw [← hw8, Below.heap_setCell _ _ _ _ (show g7 ≠ gx by omega), Below.heap_setCell _ _ _ _ (show g7 ≠ gx by omega), Below.heap_setCell _ _ _ _ (show g7 ≠ gx by omega)])
        have HC8 : Hid (Calls Tryz.prog 13 #[.slice (some ⟨g7, 0, none⟩) (1 + ts.length) c7, .slice (some ⟨gx, 0, none⟩) Lx xc] w8 fun e w'' => e = .returned (.tuple #[.string (⟨(putCompact 2).toArray⟩ ++ D ++ D), .bool true]) ∧ Below w8.heap.size w8 w'') := HC2.out _ _ w8 (own_typs HO8.out (by simp; omega) (fun t ht => by
          rcases List.mem_cons.1 ht with rfl | ht
          · exact ⟨⟨by decide, by decide⟩, ⟨by decide, by decide⟩⟩
          · exact HWF.out.1 t ht)) (HX8.out.items (by have := HWF.out.2.2.2; simp [twX]; omega) (wfI_items (wfI_tw ⟨by decide, by decide⟩ HWF.out.2.1))) HB8.out
        clear r0 r1 r2 r3 HX7 HO7 HX8 HO8 HC2 HC1
        go_wp2_with fail
        refine HC8.out.mono ?_
        rintro e w9 ⟨rfl, hb9⟩
        have HB9 : Hid (Below w1.heap.size w1 w9) := HB8.out.trans (hb9.mono HB8.out.size)
        clear hb9 HC8 c0 c1 c2 f0 f1 f2
        have hDD : (D ++ D).size ≤ 2000000000 := by rw [ByteArray.size_append]; omega
        have hd9 : D.size + D.size ≤ 9223372036854775807 := by omega
        obtain ⟨PC, hPC⟩ : ∃ PC, (⟨(putCompact 2).toArray⟩ : ByteArray) = PC := ⟨_, rfl⟩
        have hPs : PC.size = 1 := by rw [← hPC]; rfl
        have hPD : (PC ++ D).size ≤ 1000000001 := by rw [ByteArray.size_append]; omega
        have HP : Hid (∀ w, Calls Tryz.prog 23 #[.int .u64 2] w fun e w' => e = .returned (.string PC) ∧ Below w.heap.size w w') := fun w => by have := implPutCompact_any 2 w (by decide); rw [hPC] at this; exact this
        rw [hPC]
        clear hPC
        go_wp2_with fail
        refine (HP.out w9).mono ?_
        rintro e w10 ⟨rfl, hb10⟩
        have HB10 : Hid (Below w1.heap.size w1 w10) := HB9.out.trans (hb10.mono HB9.out.size)
        clear hb10
        go_wp2_with fail
        go_ret
        exact ⟨rfl, HB10.out⟩
end Go.Proofs.YtogadhfickojcaaGreatDoor.fnScaleTwo
