/- The framer's run: contract. -/
import Derived.Test.YtbepiebcpcjpcaaFRf
namespace Go.Proofs.Ytbepiebcpcjpcaa
open Go.RowKit Go.Sort
set_option linter.unusedVariables false
def RunE (s : ByteArray) (B : Nat) (w' : World) (e : Ending) : Prop := ∃ v, e = .returned (.tuple #[v, .int .i64 ((fs s.data.toList).2.1 : Nat), .bool (fs s.data.toList).2.2]) ∧ OwnF B w' v (fs s.data.toList).1
theorem RunE.of {s : ByteArray} {w0 w : World} {F : Nat} {v : Value} {l : List Fr} {p : Nat} {X Y Z : Value} {g : Bool} (h : FrB s w0 F w v l p X Y Z) (e : tk (s.data.toList.drop p) = (if g then .more else .none)) : RunE s w0.heap.size w (.returned (.tuple #[v, .int .i64 (p : Nat), .bool g])) := by
  have hd := h.at_.done e
  refine ⟨v, by rw [hd], ?_⟩
  rw [hd]
  exact own_down h.own (by have := h.hF; omega)
theorem dl_cons {R : ByteArray} (h : 0 < R.size) : R.data.toList = R[0] :: (R.extract 1 R.size).data.toList := by
  have := drop_cons R 0 h
  rw [ext_dl]
  simp only [List.drop_zero] at this
  rw [this]
  simp
  rw [List.take_of_length_le (by simp)]
theorem dl_size (R : ByteArray) : R.data.toList.length = R.size := by simp
theorem ext_size {R : ByteArray} {k : Nat} (h : k ≤ R.size) : (R.extract k R.size).size = R.size - k := by simp
theorem drop_next {R : ByteArray} {L : List UInt8} {p : Nat} (h : R.data.toList = L.drop p) (h0 : 0 < R.size) : (R.extract 1 R.size).data.toList = L.drop (p + 1) := by
  rw [ext_dl, h, List.drop_drop, List.take_of_length_le]
  have := congrArg List.length h
  simp at this ⊢
  omega
theorem FrB.stored {s : ByteArray} {w0 : World} {F : Nat} {w : World} {v : Value} {l : List Fr} {p : Nat} {X Y Z : Value} (h : FrB s w0 F w v l p X Y Z) (i : Nat) (x : Value) (X' Y' Z' : Value) (hx : (#[X, Y, Z] : Array Value).setIfInBounds i x = #[X', Y', Z']) : FrB s w0 F (w.setCell ⟨F, i, none⟩ x) v l p X' Y' Z' := by
  refine ⟨h.at_, ownsRow_setCell_below h.own (a := ⟨F, i, none⟩) (by simp) _, ?_, h.bel.setCell (p := ⟨F, i, none⟩) (by have := h.hF; simp; omega) _, h.hF⟩
  rw [set_block (i := i) h.blk, hx]
theorem FrB.drew {s : ByteArray} {w0 : World} {F : Nat} {w : World} {v : Value} {l : List Fr} {p : Nat} {X Y Z : Value} (h : FrB s w0 F w v l p X Y Z) : FrB s w0 F w.drew v l p X Y Z := ⟨h.at_, h.own, h.blk, h.bel.drew, h.hF⟩
theorem FrB.below {s : ByteArray} {w0 : World} {F : Nat} {w w' : World} {v : Value} {l : List Fr} {p : Nat} {X Y Z : Value} (h : FrB s w0 F w v l p X Y Z) (hb : Below w.heap.size w w') : FrB s w0 F w' v l p X Y Z := ⟨h.at_, h.own.kept hb, (hb.block F (blk_lt h.blk)).trans h.blk, h.bel.trans (hb.mono h.bel.size), h.hF⟩
theorem FrB.len {s : ByteArray} {w0 : World} {F : Nat} {w : World} {v : Value} {l : List Fr} {p : Nat} {X Y Z : Value} (h : FrB s w0 F w v l p X Y Z) : l.length * 3 ≤ s.size := by
  have := fs_bound _ s.data.toList (Nat.le_refl _)
  rw [h.at_.2] at this
  simp at this
  omega
theorem flatF_one (x : Fr) : ∀ u ∈ flatF [x], u.oneCell' = true := by
  intro u hu
  simp [flatF] at hu
  rcases hu with rfl | rfl | rfl <;> rfl
theorem FrB.appended {s : ByteArray} {w0 : World} {F : Nat} {w : World} {v : Value} {l : List Fr} {p : Nat} {X Y Z : Value} (h : FrB s w0 F w v l p X Y Z) {o : Obj} {w' : World} {g cap : Nat} {x : Fr} {q : Nat} (hat : At s.data.toList (l ++ [x]) q) (hown : w'.ownsRow (F + 1) 26 3 (.slice (some ⟨g, 0, none⟩) (l.length + 1) cap) (l.length + 1) (flatF l ++ flatF [x])) (hg : (w.alloc o).grownBy w' v.ownBlock) : FrB s w0 F w' (.slice (some ⟨g, 0, none⟩) (l.length + 1) cap) (l ++ [x]) q X Y Z := by
  have b1 := h.bel.trans ((bel1 w o).mono h.bel.size)
  have hsz := h.hF
  have hFl := blk_lt h.blk
  have hs1 := (bel1 w o).size
  refine ⟨hat, ?_, ?_, ⟨hg.os.trans b1.os, hg.tape.trans b1.tape, hg.output.trans b1.output, Nat.le_trans b1.size hg.size, fun k hk => ?_⟩, h.hF⟩
  · unfold OwnF; rw [flatF_app, List.length_append]; exact hown
  · rw [hg.block F (by omega) (fun e => by have := (World.ownsRow.lt h.own F e.symm).1; omega), (bel1 w o).block F hFl]; exact h.blk
  · rw [hg.block k (by omega) (fun e => by have := (World.ownsRow.lt h.own k e.symm).1; omega)]; exact b1.block k hk
set_option maxRecDepth 100000 in
set_option maxHeartbeats 4000000 in
theorem runFramer_any (s : ByteArray) (w : World) (hs : s.size ≤ 2097152) : Calls Try.prog 31 #[.string s] w fun e w' => RunE s w.heap.size w' e ∧ Below w.heap.size w w' := by
  have HF : Hid (∀ (n : Int) (w : World), Calls Try.prog 25 #[.int .i64 n] w fun e w' => e = .returned (.bool (decide (1 ≤ n ∧ n ≤ 5))) ∧ w' = w) := isFormat_any
  have HM : Hid (∀ (n : Int) (w : World), Calls Try.prog 26 #[.int .i64 n] w fun e w' => e = .returned (.bool (decide (1 ≤ n ∧ n ≤ 4))) ∧ w' = w) := isMsgKind_any
  obtain ⟨i0, hi, hz0, hz1, hz2⟩ := info_parts Try.infoFrm
  have HII : Hid (Try.prog.info? 26 = some i0) := hi
  go_enter Try.func31, Try.ntmps31
  go_wp2_with fail
  refine wp_scope_labels (FrI s w w.heap.size) rfl rfl rfl rfl rfl ?first ?p0 ?p1 ?p2 ?p3 ?p4
  case p1 =>
    intro n a wr hI K hK
    obtain ⟨v, l, p, R, x6, x7, x8, X, Y, Z, ⟨u10, u11, u12, u13, u14, u15, u16, u17, u18, u19, u20, u21, u22, u23, u24, u25, u26, u27, u28, u29, u30, u31, u32, u33, u34, u35, u36, u37, u38, u39, u40, u41, u42, u43, u44, u45, u46, u47, u48, u49, u50, u51, u52, u53, u54, u55, u56, u57, u58, u59, u60, u61, u62, u63, u64, u65, u66, u67, u68, u69, u70, u71, u72, u73, u74, u75, u76, u77, u78, u79, u80, u81, u82, u83, u84, u85, u86, u87, u88, u89, u90, rfl⟩, hB, ht, hn⟩ := hI
    have HE : Hid (RunE s w.heap.size wr (.returned (.tuple #[v, .int .i64 (p : Nat), .bool true])) ∧ Below w.heap.size w wr) := ⟨RunE.of hB (g := true) ht, hB.bel⟩
    clear hB ht hn hK hi
    go_wp2_with fail
    show bodyPost Try.prog Try.f31 (fun e w' => RunE s w.heap.size w' e ∧ Below w.heap.size w w') Exit.ret _ _
    exact bodyPost_ret (v := .tuple #[v, .int .i64 (p : Nat), .bool true]) (by simp [results, Try.results31, go_sem]) rfl HE.out
  case p2 =>
    intro n a wr hI K hK
    obtain ⟨v, l, p, R, x6, x7, x8, X, Y, Z, ⟨u10, u11, u12, u13, u14, u15, u16, u17, u18, u19, u20, u21, u22, u23, u24, u25, u26, u27, u28, u29, u30, u31, u32, u33, u34, u35, u36, u37, u38, u39, u40, u41, u42, u43, u44, u45, u46, u47, u48, u49, u50, u51, u52, u53, u54, u55, u56, u57, u58, u59, u60, u61, u62, u63, u64, u65, u66, u67, u68, u69, u70, u71, u72, u73, u74, u75, u76, u77, u78, u79, u80, u81, u82, u83, u84, u85, u86, u87, u88, u89, u90, rfl⟩, hB, ht, hn⟩ := hI
    have HE : Hid (RunE s w.heap.size wr (.returned (.tuple #[v, .int .i64 (p : Nat), .bool false])) ∧ Below w.heap.size w wr) := ⟨RunE.of hB (g := false) ht, hB.bel⟩
    clear hB ht hn hK hi
    go_wp2_with fail
    show bodyPost Try.prog Try.f31 (fun e w' => RunE s w.heap.size w' e ∧ Below w.heap.size w w') Exit.ret _ _
    exact bodyPost_ret (v := .tuple #[v, .int .i64 (p : Nat), .bool false]) (by simp [results, Try.results31, go_sem]) rfl HE.out
  case first =>
    intro HP K hK
    have HPh : Hid (PassOf _ _ _ _ _) := HP
    clear HP hi
    go_wp2_with fail
    go_step3
    rename_i hx
    exact hx _ _ (HPh.out (4 * s.size + 3) _ _ ⟨_, [], 0, s, _, _, _, _, _, 0, ⟨#[]⟩, FrameIs.mk, ⟨At.zero _, OwnF.nil _ _, heap_alloc_new w _, bel1 _ _, rfl⟩, ⟨0, rfl⟩, by simp, rfl⟩ K (fun l' n' a' w' _ h => hK l' n' a' w' h))
  case p0 =>
    intro n a wr hI K hK
    obtain ⟨v, l, p, R, x3, x6, x7, x8, X, Y, Z, ⟨u10, u11, u12, u13, u14, u15, u16, u17, u18, u19, u20, u21, u22, u23, u24, u25, u26, u27, u28, u29, u30, u31, u32, u33, u34, u35, u36, u37, u38, u39, u40, u41, u42, u43, u44, u45, u46, u47, u48, u49, u50, u51, u52, u53, u54, u55, u56, u57, u58, u59, u60, u61, u62, u63, u64, u65, u66, u67, u68, u69, u70, u71, u72, u73, u74, u75, u76, u77, u78, u79, u80, u81, u82, u83, u84, u85, u86, u87, u88, u89, u90, rfl⟩, hB, ⟨q, rfl⟩, hR, hn⟩ := hI
    have HB : Hid (FrB s w w.heap.size wr v l p (.int .i64 q) (.int .i64 Y) (.string Z)) := hB
    have HR : Hid (R.data.toList = s.data.toList.drop p) := hR
    have HK : Hid (∀ l' n' a' w', n' < 4 * R.size + 3 → FrI s w w.heap.size l' n' a' w' → K l' a' w') := by subst hn; exact hK
    have hps : p ≤ s.size := hB.p_le
    have hsub : (s.size : Int) - (R.size : Int) = (p : Int) := by have := congrArg List.length hR; simp at this; omega
    have hRs : R.size ≤ s.size := by omega
    obtain ⟨c0, c1, c2, f0, f1, f2⟩ := tri_cells hB.blk
    clear hB hR hK hn hi
    by_cases h0 : R.size = 0
    · have h1 : R.toList.isEmpty = true := by rw [str_empty]; simp [h0]
      have hnil : R.data.toList = [] := List.eq_nil_of_length_eq_zero (by simpa using h0)
      have HE : Hid (tk (s.data.toList.drop p) = .more) := by
        show _ = _
        rw [← HR.out, hnil, tk]
      clear h0 hnil
      go_wp2_with fail
      go_step3
      exact ⟨by decide, HK.out 1 0 _ _ (by omega) ⟨v, l, p, R, _, _, _, _, _, _, FrameIs.mk, HB.out, HE.out, rfl⟩⟩
    · have h1 : R.toList.isEmpty = false := by rw [str_empty]; simp [h0]
      have hR0 : 0 < R.size := by omega
      have HD := dl_cons hR0
      have HN := drop_next HR.out hR0
      obtain ⟨R1, hR1⟩ : ∃ R', R.extract 1 R.size = R' := ⟨_, rfl⟩
      obtain ⟨x, hd⟩ : ∃ d', R[0] = d' := ⟨_, rfl⟩
      have hsz : R1.size + 1 = R.size := by rw [← hR1, ext_size (by omega)]; omega
      rw [hR1, hd] at HD
      rw [hR1] at HN
      have HD_x : Hid (R.data.toList = x :: R1.data.toList) := HD
      have HR1 : Hid (R1.data.toList = s.data.toList.drop (p + 1)) := HN
      have HS_x : Hid (R1.size + 1 = R.size) := hsz
      have hb_x : x.toNat < 256 := x.toNat_lt
      clear HD HN h0 hsz
      have HB10 : FrB s w w.heap.size (wr.setCell ⟨w.heap.size, 0, none⟩ (.int .i64 (x.toNat : Nat))).drew v l p (.int .i64 (x.toNat : Nat)) (.int .i64 Y) (.string Z) := (HB.out.stored 0 _ _ _ _ rfl).drew
      obtain ⟨W1, hW1⟩ : ∃ W, (wr.setCell ⟨w.heap.size, 0, none⟩ (.int .i64 (x.toNat : Nat))).drew = W := ⟨_, rfl⟩
      rw [hW1] at HB10
      have HB1 : Hid (FrB s w w.heap.size W1 v l p (.int .i64 (x.toNat : Nat)) (.int .i64 Y) (.string Z)) := HB10
      have HWW1 : Hid ((wr.setCell ⟨w.heap.size, 0, none⟩ (.int .i64 (x.toNat : Nat))).drew = W1) := hW1
      have HC1 := tri_cells HB10.blk
      have HCC1 : Hid True := trivial
      clear HB10 hW1
      have HCs : Hid _ := HC1
      clear HC1
      go_wp2_with fail
      go_region
      go_wp2_with fail
      rw [HWW1.out]
      refine Calls.mono (HF.out _ _) ?_
      rintro e W1 ⟨rfl, rfl⟩
      clear c0 c1 c2 f0 f1 f2
      obtain ⟨c0, c1, c2, f0, f1, f2⟩ := HCs.out
      by_cases hF : 1 ≤ x.toNat ∧ x.toNat ≤ 5
      · rw [show decide (1 ≤ (x.toNat : Int) ∧ (x.toNat : Int) ≤ 5) = true from by simp; omega]
        by_cases h0 : R1.size = 0
        · have h1 : R1.toList.isEmpty = true := by rw [str_empty]; simp [h0]
          have hnil : R1.data.toList = [] := List.eq_nil_of_length_eq_zero (by simpa using h0)
          have HE : Hid (tk (s.data.toList.drop p) = .more) := by
            show _ = _
            rw [← HR.out, HD_x.out, hnil, tk, if_neg (by omega), tkK]
          clear h0 hnil
          go_wp2_with fail
          go_step3
          exact ⟨by decide, HK.out 1 0 _ _ (by omega) ⟨v, l, p, R1, _, _, _, _, _, _, FrameIs.mk, HB1.out, HE.out, rfl⟩⟩
        · have h1 : R1.toList.isEmpty = false := by rw [str_empty]; simp [h0]
          have hR0 : 0 < R1.size := by omega
          have HD := dl_cons hR0
          have HN := drop_next HR1.out hR0
          obtain ⟨R2, hR1⟩ : ∃ R', R1.extract 1 R1.size = R' := ⟨_, rfl⟩
          obtain ⟨y, hd⟩ : ∃ d', R1[0] = d' := ⟨_, rfl⟩
          have hsz : R2.size + 1 = R1.size := by rw [← hR1, ext_size (by omega)]; omega
          rw [hR1, hd] at HD
          rw [hR1] at HN
          have HD_y : Hid (R1.data.toList = y :: R2.data.toList) := HD
          have HR2 : Hid (R2.data.toList = s.data.toList.drop (p + 1 + 1)) := HN
          have HS_y : Hid (R2.size + 1 = R1.size) := hsz
          have hb_y : y.toNat < 256 := y.toNat_lt
          clear HD HN h0 hsz
          have HB20 : FrB s w w.heap.size (W1.setCell ⟨w.heap.size, 1, none⟩ (.int .i64 (y.toNat : Nat))).drew v l p (.int .i64 (x.toNat : Nat)) (.int .i64 (y.toNat : Nat)) (.string Z) := (HB1.out.stored 1 _ _ _ _ rfl).drew
          obtain ⟨W2, hW2⟩ : ∃ W, (W1.setCell ⟨w.heap.size, 1, none⟩ (.int .i64 (y.toNat : Nat))).drew = W := ⟨_, rfl⟩
          rw [hW2] at HB20
          have HB2 : Hid (FrB s w w.heap.size W2 v l p (.int .i64 (x.toNat : Nat)) (.int .i64 (y.toNat : Nat)) (.string Z)) := HB20
          have HWW2 : Hid ((W1.setCell ⟨w.heap.size, 1, none⟩ (.int .i64 (y.toNat : Nat))).drew = W2) := hW2
          have HC2 := tri_cells HB20.blk
          have HCC2 : Hid True := trivial
          clear HB20 hW2
          have HCt : Hid _ := HC2
          clear HC2
          go_wp2_with fail
          go_region
          go_wp2_with fail
          rw [HWW2.out]
          refine Calls.mono (HM.out _ _) ?_
          rintro e W2 ⟨rfl, rfl⟩
          clear c0 c1 c2 f0 f1 f2
          by_cases hM : 1 ≤ y.toNat ∧ y.toNat ≤ 4
          · rw [show decide (1 ≤ (y.toNat : Int) ∧ (y.toNat : Int) ≤ 4) = true from by simp; omega]
            by_cases h0 : R2.size = 0
            · have h1 : R2.toList.isEmpty = true := by rw [str_empty]; simp [h0]
              have hnil : R2.data.toList = [] := List.eq_nil_of_length_eq_zero (by simpa using h0)
              have HE : Hid (tk (s.data.toList.drop p) = .more) := by
                show _ = _
                rw [← HR.out, HD_x.out, HD_y.out, hnil, tk, if_neg (by omega), tkK, if_neg (by omega), tkL]
              clear h0 hnil
              go_wp2_with fail
              go_step3
              rename_i hx
              refine hx _ _ ?_
              clear hx
              go_wp2_with fail
              go_step3
              exact ⟨by decide, HK.out 1 0 _ _ (by omega) ⟨v, l, p, R2, _, _, _, _, _, _, FrameIs.mk, HB2.out, HE.out, rfl⟩⟩
            · have h1 : R2.toList.isEmpty = false := by rw [str_empty]; simp [h0]
              have hR0 : 0 < R2.size := by omega
              have HD := dl_cons hR0
              have HN := drop_next HR2.out hR0
              obtain ⟨R3, hR1⟩ : ∃ R', R2.extract 1 R2.size = R' := ⟨_, rfl⟩
              obtain ⟨z, hd⟩ : ∃ d', R2[0] = d' := ⟨_, rfl⟩
              have hsz : R3.size + 1 = R2.size := by rw [← hR1, ext_size (by omega)]; omega
              rw [hR1, hd] at HD
              rw [hR1] at HN
              have HD_z : Hid (R2.data.toList = z :: R3.data.toList) := HD
              have HR3 : Hid (R3.data.toList = s.data.toList.drop (p + 1 + 1 + 1)) := HN
              have HS_z : Hid (R3.size + 1 = R2.size) := hsz
              have hb_z : z.toNat < 256 := z.toNat_lt
              clear HD HN h0 hsz
              have hps1 : p + 3 ≤ s.size := by have := congrArg List.length HR3.out; have h2 := congrArg List.length HR2.out; have h3 := HS_z.out; simp at this h2; omega
              by_cases hlt : z.toNat < 128
              · have hlt' : (z.toNat : Int) < 128 := by omega
                have hmod : (z.toNat : Int) % 128 = z.toNat := by omega
                have HE : Hid (tk (s.data.toList.drop p) = (if 1000 < z.toNat ∨ (z.toNat = 0 ∧ (128 : Int) < 128) then .none else tkD x.toNat y.toNat z.toNat 3 R3.data.toList)) := by
                  show _ = _
                  rw [← HR.out, HD_x.out, HD_y.out, HD_z.out, tk, if_neg (by omega), tkK, if_neg (by omega), tkL, if_pos hlt, if_neg (by omega)]
                go_wp2_with fail
                go_step3
                rename_i hx
                refine hx _ _ ?_
                clear hx
                go_wp2_with fail
                go_region
                go_wp2_with fail
                go_step3
                exact ⟨by decide, HK.out 4 (4 * R3.size + 4) _ _ (by have := HS_z.out; have := HS_y.out; have := HS_x.out; omega) ⟨v, l, p, R3, x.toNat, y.toNat, z.toNat, z.toNat, 3, _, _, Z, FrameIs.mk, rfl, HB2.out.drew, HE.out, HR3.out, hps1, hlt, by omega, by omega, rfl⟩⟩
              · have hlt' : ¬ (z.toNat : Int) < 128 := by omega
                obtain ⟨E, hE⟩ : ∃ E : Int, (z.toNat : Int) % 128 = E := ⟨_, rfl⟩
                have HEE : Hid (E = ((z.toNat % 128 : Nat) : Int)) := by show _ = _; omega
                have hE0 : 0 ≤ E := by omega
                have hE1 : E < 128 := by omega
                have hbig : ¬ (1000 : Int) < E + 128 := by omega
                have HE : Hid (tk (s.data.toList.drop p) = tkM x.toNat y.toNat z.toNat R3.data.toList) := by
                  show _ = _
                  rw [← HR.out, HD_x.out, HD_y.out, HD_z.out, tk, if_neg (by omega), tkK, if_neg (by omega), tkL, if_neg hlt]
                go_wp2_with fail
                go_step3
                rename_i hx
                refine hx _ _ ?_
                clear hx
                go_wp2_with fail
                go_region
                go_wp2_with fail
                go_step3
                exact ⟨by decide, HK.out 3 (4 * R3.size + 2) _ _ (by have := HS_z.out; have := HS_y.out; have := HS_x.out; omega) ⟨v, l, p, R3, _, x.toNat, y.toNat, z.toNat, _, Z, FrameIs.mk, HEE.out, HB2.out.drew, HE.out, HR3.out, hps1, rfl⟩⟩
          · rw [show decide (1 ≤ (y.toNat : Int) ∧ (y.toNat : Int) ≤ 4) = false from by simp; omega]
            have HE : Hid (tk (s.data.toList.drop p) = .none) := by
              show _ = _
              rw [← HR.out, HD_x.out, HD_y.out, tk, if_neg (by omega), tkK, if_pos (by omega)]
            go_wp2_with fail
            go_step3
            exact ⟨by decide, HK.out 2 0 _ _ (by omega) ⟨v, l, p, _, _, _, _, _, _, _, FrameIs.mk, HB2.out, HE.out, rfl⟩⟩
      · rw [show decide (1 ≤ (x.toNat : Int) ∧ (x.toNat : Int) ≤ 5) = false from by simp; omega]
        have HE : Hid (tk (s.data.toList.drop p) = .none) := by
          show _ = _
          rw [← HR.out, HD_x.out, tk, if_pos (by omega)]
        go_wp2_with fail
        go_step3
        exact ⟨by decide, HK.out 2 0 _ _ (by omega) ⟨v, l, p, _, _, _, _, _, _, _, FrameIs.mk, HB1.out, HE.out, rfl⟩⟩
  case p3 =>
    intro n a wr hI K hK
    obtain ⟨v, l, p, R, x6, A, k, c, C, Z, ⟨u10, u11, u12, u13, u14, u15, u16, u17, u18, u19, u20, u21, u22, u23, u24, u25, u26, u27, u28, u29, u30, u31, u32, u33, u34, u35, u36, u37, u38, u39, u40, u41, u42, u43, u44, u45, u46, u47, u48, u49, u50, u51, u52, u53, u54, u55, u56, u57, u58, u59, u60, u61, u62, u63, u64, u65, u66, u67, u68, u69, u70, u71, u72, u73, u74, u75, u76, u77, u78, u79, u80, u81, u82, u83, u84, u85, u86, u87, u88, u89, u90, rfl⟩, hC, hB, ht, hR, hle, hn⟩ := hI
    have HB : Hid (FrB s w w.heap.size wr v l p (.int .i64 A) (.int .i64 k) (.string Z)) := hB
    have HBd : Hid (FrB s w w.heap.size wr.drew v l p (.int .i64 A) (.int .i64 k) (.string Z)) := hB.drew
    have HT : Hid (tk (s.data.toList.drop p) = tkM A k c R.data.toList) := ht
    have HR : Hid (R.data.toList = s.data.toList.drop (p + 3)) := hR
    have HK : Hid (∀ l' n' a' w', n' < 4 * R.size + 2 → FrI s w w.heap.size l' n' a' w' → K l' a' w') := by subst hn; exact hK
    have HC : Hid (C = ((c % 128 : Nat) : Int)) := hC
    have hC0 : 0 ≤ C := by omega
    have hC1 : C < 128 := by omega
    have hps : p + 3 ≤ s.size := hle
    clear hB ht hR hK hn hi hC
    by_cases h0 : R.size = 0
    · have h1 : R.toList.isEmpty = true := by rw [str_empty]; simp [h0]
      have hnil : R.data.toList = [] := List.eq_nil_of_length_eq_zero (by simpa using h0)
      have HE : Hid (tk (s.data.toList.drop p) = .more) := by
        show _ = _
        rw [HT.out, hnil, tkM]
      clear h0 hnil
      go_wp2_with fail
      go_step3
      exact ⟨by decide, HK.out 1 0 _ _ (by omega) ⟨v, l, p, R, _, _, _, _, _, _, FrameIs.mk, HB.out, HE.out, rfl⟩⟩
    · have h1 : R.toList.isEmpty = false := by rw [str_empty]; simp [h0]
      have hR0 : 0 < R.size := by omega
      have HD := dl_cons hR0
      have HN := drop_next HR.out hR0
      obtain ⟨R1, hR1⟩ : ∃ R', R.extract 1 R.size = R' := ⟨_, rfl⟩
      obtain ⟨d, hd⟩ : ∃ d', R[0] = d' := ⟨_, rfl⟩
      have hsz : R1.size + 1 = R.size := by rw [← hR1, ext_size (by omega)]; omega
      rw [hR1, hd] at HD
      rw [hR1] at HN
      have HD_d : Hid (R.data.toList = d :: R1.data.toList) := HD
      have HR1 : Hid (R1.data.toList = s.data.toList.drop (p + 3 + 1)) := HN
      have HS_d : Hid (R1.size + 1 = R.size) := hsz
      have hb_d : d.toNat < 256 := d.toNat_lt
      clear HD HN h0 hsz
      have hps1 : p + 4 ≤ s.size := by have := congrArg List.length HR1.out; have h2 := congrArg List.length HR.out; have h3 := HS_d.out; simp at this h2; omega
      by_cases hlt : d.toNat < 128
      · have hlt' : (d.toNat : Int) < 128 := by omega
        have hmod : (d.toNat : Int) % 128 = d.toNat := by omega
        have HE : Hid (tk (s.data.toList.drop p) = (if 1000 < c % 128 + 128 * d.toNat ∨ (d.toNat = 0 ∧ (128 : Int) < 16384) then .none else tkD A k (c % 128 + 128 * d.toNat) 4 R1.data.toList)) := by
          show _ = _
          rw [HT.out, HD_d.out, tkM]
          by_cases hz : 1000 < c % 128 + 128 * d.toNat ∨ d.toNat = 0
          · rw [if_pos (by omega), if_pos (by omega)]
          · rw [if_neg (by omega), if_neg (by omega)]
        go_wp2_with fail
        go_region
        go_wp2_with fail
        go_step3
        exact ⟨by decide, HK.out 4 (4 * R1.size + 4) _ _ (by have := HS_d.out; omega) ⟨v, l, p, R1, A, k, d.toNat, c % 128 + 128 * d.toNat, 4, _, _, Z, FrameIs.mk, by have := HC.out; omega, HBd.out, HE.out, HR1.out, hps1, hlt, by omega, by omega, rfl⟩⟩
      · have hlt' : ¬ (d.toNat : Int) < 128 := by omega
        obtain ⟨E, hE⟩ : ∃ E : Int, (d.toNat : Int) % 128 = E := ⟨_, rfl⟩
        have hE0 : 0 ≤ E := by omega
        have hE1 : E < 128 := by omega
        have hbig : (1000 : Int) < C + E * 128 + 16384 := by omega
        have HE : Hid (tk (s.data.toList.drop p) = .none) := by
          show _ = _
          rw [HT.out, HD_d.out, tkM, if_pos (by omega)]
        go_wp2_with fail
        go_region
        go_wp2_with fail
        go_step3
        exact ⟨by decide, HK.out 2 0 _ _ (by omega) ⟨v, l, p, R1, _, _, _, _, _, _, FrameIs.mk, HBd.out, HE.out, rfl⟩⟩
  case p4 =>
    intro n a wr hI K hK
    obtain ⟨v, l, p, R, A, k, c, m, h, M, wt, Z, ⟨u10, u11, u12, u13, u14, u15, u16, u17, u18, u19, u20, u21, u22, u23, u24, u25, u26, u27, u28, u29, u30, u31, u32, u33, u34, u35, u36, u37, u38, u39, u40, u41, u42, u43, u44, u45, u46, u47, u48, u49, u50, u51, u52, u53, u54, u55, u56, u57, u58, u59, u60, u61, u62, u63, u64, u65, u66, u67, u68, u69, u70, u71, u72, u73, u74, u75, u76, u77, u78, u79, u80, u81, u82, u83, u84, u85, u86, u87, u88, u89, u90, rfl⟩, hM, hB, ht, hR, hle, hc, hm, hwt, hn⟩ := hI
    have HB : Hid (FrB s w w.heap.size wr v l p (.int .i64 A) (.int .i64 k) (.string Z)) := hB
    have HT : Hid (tk (s.data.toList.drop p) = (if 1000 < m ∨ (c = 0 ∧ 128 < wt) then .none else tkD A k m h R.data.toList)) := ht
    have HR : Hid (R.data.toList = s.data.toList.drop (p + h)) := hR
    have HK : Hid (∀ l' n' a' w', n' < 4 * R.size + 4 → FrI s w w.heap.size l' n' a' w' → K l' a' w') := by subst hn; exact hK
    have HMm : Hid (M = ((m : Nat) : Int)) := hM
    obtain ⟨c0, c1, c2, f0, f1, f2⟩ := tri_cells hB.blk
    clear hB ht hR hK hn hi
    by_cases h1 : 1000 < m
    · have h1' : (1000 : Int) < M := by omega
      have HE : Hid (tk (s.data.toList.drop p) = .none) := by
        show _ = _
        rw [HT.out, if_pos (.inl h1)]
      clear h1 hM hle hc hm hwt
      go_wp2_with fail
      go_step3
      exact ⟨by decide, HK.out 2 0 _ _ (by omega) ⟨v, l, p, R, _, _, _, _, _, _, FrameIs.mk, HB.out, HE.out, rfl⟩⟩
    · have h1' : ¬ (1000 : Int) < M := by omega
      by_cases h2 : c = 0 ∧ 128 < wt
      · obtain ⟨rfl, h2⟩ := h2
        have HE : Hid (tk (s.data.toList.drop p) = .none) := by
          show _ = _
          rw [HT.out, if_pos (.inr ⟨rfl, h2⟩)]
        clear h1 hM hle hc hm hwt
        go_wp2_with fail
        go_step3
        exact ⟨by decide, HK.out 2 0 _ _ (by omega) ⟨v, l, p, R, _, _, _, _, _, _, FrameIs.mk, HB.out, HE.out, rfl⟩⟩
      · have HT2 : Hid (tk (s.data.toList.drop p) = tkD A k m h R.data.toList) := by
          show _ = _
          rw [HT.out, if_neg (by omega)]
        have hRl : R.size ≤ s.size := by have := congrArg List.length HR.out; simp at this; omega
        by_cases h4 : ((c : Nat) : Int) = 0
        · have h4' : ¬ (128 < wt) := by omega
          by_cases h3 : R.size < m
          · have h3' : (R.size : Int) < M := by omega
            have HE : Hid (tk (s.data.toList.drop p) = .more) := by
              show _ = _
              rw [HT2.out, tkD, if_pos (by simpa using h3)]
            clear h1 h3 hM hle hm hwt
            go_wp2_with fail
            go_step3
            exact ⟨by decide, HK.out 1 0 _ _ (by omega) ⟨v, l, p, R, _, _, _, _, _, _, FrameIs.mk, HB.out, HE.out, rfl⟩⟩
          · have h3' : ¬ (R.size : Int) < M := by omega
            have HW : Hid (tk (s.data.toList.drop p) = .whole A k m h) := by
              show _ = _
              rw [HT2.out, tkD, if_neg (by simpa using h3)]
            have hm0 : m ≤ 1000 := by omega
            have hm1 : m ≤ R.size := by omega
            have hRb : R.size ≤ 2097152 := by omega
            clear h1 h3 hle hm hwt hM
            go_wp2_with fail
            have hM := HMm.out
            subst hM
            clear h1' h3'
            obtain ⟨D, hD⟩ : ∃ D, R.extract 0 m = D := ⟨_, rfl⟩
            obtain ⟨R1, hR1⟩ : ∃ R1, R.extract m R.size = R1 := ⟨_, rfl⟩
            have hDs : D.size = m := by rw [← hD]; simp; omega
            have HCl : Hid (∀ w', Below wr.heap.size wr w' → Calls Try.prog 32 #[.string D] w' fun e w'' => e = .returned (.string D) ∧ Below wr.heap.size wr w'' ∧ w''.cell? ⟨w.heap.size, 2, none⟩ = some (.string Z) ∧ w''.frozen? ⟨w.heap.size, 2, none⟩ = false) := (by
              show ∀ w', _
              intro w' hb
              refine (clone_any D w' (by omega)).mono ?_
              rintro e w'' ⟨rfl, hb'⟩
              have hB := (HB.out.below (hb.trans (hb'.mono hb.size)))
              obtain ⟨_, _, d2, _, _, g2⟩ := tri_cells hB.blk
              exact ⟨rfl, hb.trans (hb'.mono hb.size), d2, g2⟩)
            clear c0 c1 c2 f0 f1 f2
            go_region_with (go_at_call 32; refine (HCl.out _ (by repeat (first | exact Below.refl _ _ | (refine Below.drew ?_)))).mono ?_; rintro e w3 ⟨rfl, hb3, c2, f2⟩)
            have HB4 : Hid (FrB s w w.heap.size (w3.setCell ⟨w.heap.size, 2, none⟩ (.string D)) v l p (.int .i64 A) (.int .i64 k) (.string D)) := (HB.out.below hb3).stored 2 _ _ _ _ rfl
            obtain ⟨w4, hw4⟩ : ∃ w4, w3.setCell ⟨w.heap.size, 2, none⟩ (.string D) = w4 := ⟨_, rfl⟩
            rw [hw4] at HB4
            rw [hw4]
            clear hw4 hb3 c2 f2
            obtain ⟨c0, c1, c2, f0, f1, f2⟩ := tri_cells HB4.out.blk
            have hll : l.length * 3 ≤ s.size := HB4.out.len
            have hF : w.heap.size < w4.heap.size := blk_lt HB4.out.blk
            have hfr : frAt (s.data.toList.drop p) A k m h = ⟨A, k, D⟩ := by
              unfold frAt
              congr 1
              rw [List.drop_drop, ← HR.out]
              exact (str_of (by rw [← hD, ext_dl]; simp)).symm
            have HAt : Hid (At s.data.toList (l ++ [⟨A, k, D⟩]) (p + (h + m))) := by
              show At _ _ _
              rw [← hfr]
              exact HB4.out.at_.next HW.out
            have HR1 : Hid (R1.data.toList = s.data.toList.drop (p + (h + m))) := by
              show _ = _
              rw [← hR1, ext_dl, HR.out, List.drop_drop, Nat.add_assoc, List.take_of_length_le]
              have := congrArg List.length HR.out
              simp at this ⊢
              omega
            have hR1s : R1.size ≤ R.size := by rw [← hR1]; simp
            clear hfr hD hR1
            go_wp2_with (at_builtin; refine wpList_append_lies _ rfl _ _ 36 rfl (w.heap.size + 1) 26 i0 (.agg #[.int .i64 0, .int .i64 0, .string ByteArray.empty]) 3 32 Try.underlying36 HII.out hz0 hz1 hz2 rfl (by decide) v l.length (flatF l) rfl (HB4.out.own.alloc _) ⟨w4.heap.size, 0, none⟩ 1 1 (flatF [⟨A, k, D⟩]) rfl rfl ?c1 (flatF_one _) (by omega) ?c3 ?c4 ?c5 (w4.heap.size + 1) (by simp) ?_)
            case c1 => exact World.news_of_block (heap_alloc_new w4 _)
            case c3 => unfold maxLen; omega
            case c4 => omega
            case c5 => simp; omega
            intro g cap w5 hown hgrow hat hlt
            have HB5 : Hid (FrB s w w.heap.size w5 (.slice (some ⟨g, 0, none⟩) (l.length + 1) cap) (l ++ [⟨A, k, D⟩]) (p + (h + m)) (.int .i64 A) (.int .i64 k) (.string D)) := HB4.out.appended HAt.out hown hgrow
            clear hown hgrow hat hlt c0 c1 c2 f0 f1 f2
            go_wp2_with fail
            go_step3
            exact ⟨by decide, HK.out 0 (4 * R1.size + 3) _ _ (by omega) ⟨_, _, _, R1, _, _, _, _, _, _, D, FrameIs.mk, HB5.out, ⟨_, rfl⟩, HR1.out, rfl⟩⟩
        · clear h2
          by_cases h3 : R.size < m
          · have h3' : (R.size : Int) < M := by omega
            have HE : Hid (tk (s.data.toList.drop p) = .more) := by
              show _ = _
              rw [HT2.out, tkD, if_pos (by simpa using h3)]
            clear h1 h3 hM hle hm hwt
            go_wp2_with fail
            go_step3
            exact ⟨by decide, HK.out 1 0 _ _ (by omega) ⟨v, l, p, R, _, _, _, _, _, _, FrameIs.mk, HB.out, HE.out, rfl⟩⟩
          · have h3' : ¬ (R.size : Int) < M := by omega
            have HW : Hid (tk (s.data.toList.drop p) = .whole A k m h) := by
              show _ = _
              rw [HT2.out, tkD, if_neg (by simpa using h3)]
            have hm0 : m ≤ 1000 := by omega
            have hm1 : m ≤ R.size := by omega
            have hRb : R.size ≤ 2097152 := by omega
            clear h1 h3 hle hm hwt hM
            go_wp2_with fail
            have hM := HMm.out
            subst hM
            clear h1' h3'
            obtain ⟨D, hD⟩ : ∃ D, R.extract 0 m = D := ⟨_, rfl⟩
            obtain ⟨R1, hR1⟩ : ∃ R1, R.extract m R.size = R1 := ⟨_, rfl⟩
            have hDs : D.size = m := by rw [← hD]; simp; omega
            have HCl : Hid (∀ w', Below wr.heap.size wr w' → Calls Try.prog 32 #[.string D] w' fun e w'' => e = .returned (.string D) ∧ Below wr.heap.size wr w'' ∧ w''.cell? ⟨w.heap.size, 2, none⟩ = some (.string Z) ∧ w''.frozen? ⟨w.heap.size, 2, none⟩ = false) := (by
              show ∀ w', _
              intro w' hb
              refine (clone_any D w' (by omega)).mono ?_
              rintro e w'' ⟨rfl, hb'⟩
              have hB := (HB.out.below (hb.trans (hb'.mono hb.size)))
              obtain ⟨_, _, d2, _, _, g2⟩ := tri_cells hB.blk
              exact ⟨rfl, hb.trans (hb'.mono hb.size), d2, g2⟩)
            clear c0 c1 c2 f0 f1 f2
            go_region_with (go_at_call 32; refine (HCl.out _ (by repeat (first | exact Below.refl _ _ | (refine Below.drew ?_)))).mono ?_; rintro e w3 ⟨rfl, hb3, c2, f2⟩)
            have HB4 : Hid (FrB s w w.heap.size (w3.setCell ⟨w.heap.size, 2, none⟩ (.string D)) v l p (.int .i64 A) (.int .i64 k) (.string D)) := (HB.out.below hb3).stored 2 _ _ _ _ rfl
            obtain ⟨w4, hw4⟩ : ∃ w4, w3.setCell ⟨w.heap.size, 2, none⟩ (.string D) = w4 := ⟨_, rfl⟩
            rw [hw4] at HB4
            rw [hw4]
            clear hw4 hb3 c2 f2
            obtain ⟨c0, c1, c2, f0, f1, f2⟩ := tri_cells HB4.out.blk
            have hll : l.length * 3 ≤ s.size := HB4.out.len
            have hF : w.heap.size < w4.heap.size := blk_lt HB4.out.blk
            have hfr : frAt (s.data.toList.drop p) A k m h = ⟨A, k, D⟩ := by
              unfold frAt
              congr 1
              rw [List.drop_drop, ← HR.out]
              exact (str_of (by rw [← hD, ext_dl]; simp)).symm
            have HAt : Hid (At s.data.toList (l ++ [⟨A, k, D⟩]) (p + (h + m))) := by
              show At _ _ _
              rw [← hfr]
              exact HB4.out.at_.next HW.out
            have HR1 : Hid (R1.data.toList = s.data.toList.drop (p + (h + m))) := by
              show _ = _
              rw [← hR1, ext_dl, HR.out, List.drop_drop, Nat.add_assoc, List.take_of_length_le]
              have := congrArg List.length HR.out
              simp at this ⊢
              omega
            have hR1s : R1.size ≤ R.size := by rw [← hR1]; simp
            clear hfr hD hR1
            go_wp2_with (at_builtin; refine wpList_append_lies _ rfl _ _ 36 rfl (w.heap.size + 1) 26 i0 (.agg #[.int .i64 0, .int .i64 0, .string ByteArray.empty]) 3 32 Try.underlying36 HII.out hz0 hz1 hz2 rfl (by decide) v l.length (flatF l) rfl (HB4.out.own.alloc _) ⟨w4.heap.size, 0, none⟩ 1 1 (flatF [⟨A, k, D⟩]) rfl rfl ?c1 (flatF_one _) (by omega) ?c3 ?c4 ?c5 (w4.heap.size + 1) (by simp) ?_)
            case c1 => exact World.news_of_block (heap_alloc_new w4 _)
            case c3 => unfold maxLen; omega
            case c4 => omega
            case c5 => simp; omega
            intro g cap w5 hown hgrow hat hlt
            have HB5 : Hid (FrB s w w.heap.size w5 (.slice (some ⟨g, 0, none⟩) (l.length + 1) cap) (l ++ [⟨A, k, D⟩]) (p + (h + m)) (.int .i64 A) (.int .i64 k) (.string D)) := HB4.out.appended HAt.out hown hgrow
            clear hown hgrow hat hlt c0 c1 c2 f0 f1 f2
            go_wp2_with fail
            go_step3
            exact ⟨by decide, HK.out 0 (4 * R1.size + 3) _ _ (by omega) ⟨_, _, _, R1, _, _, _, _, _, _, D, FrameIs.mk, HB5.out, ⟨_, rfl⟩, HR1.out, rfl⟩⟩
end Go.Proofs.Ytbepiebcpcjpcaa
