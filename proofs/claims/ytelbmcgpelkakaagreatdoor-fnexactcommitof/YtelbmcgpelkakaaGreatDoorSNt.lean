/- A proof of items, the specification's: contract. -/
import Derived.Test.YtelbmcgpelkakaaGreatDoorSNs
import Derived.Deep.RegionLaw
namespace Go.Proofs.YtelbmcgpelkakaaGreatDoor
open Go.RowKit Go.Sort
set_option linter.unusedVariables false
set_option maxRecDepth 100000 in
set_option maxHeartbeats 4000000 in
theorem specProofOf_any (vs : List It) (v : Value) (w : World) (hv : IsItems w.heap.size w v vs) : Calls Tryz.prog 24 #[v] w fun e w' => PrE vs w.heap.size w' e ∧ Below w.heap.size w w' := by
  have HV : Hid (IsItems w.heap.size w v vs) := hv
  obtain ⟨b, o, C, hi, ad, rfl, had⟩ := hv
  simp only [Nat.sub_zero] at had HV ⊢
  obtain ⟨Z, hZ⟩ : ∃ Z : Obj, .cells #[.int .u64 0, .int .u64 0, .string ⟨#[]⟩, .slice none 0 0] 51 = Z := ⟨_, rfl⟩
  have HB0 : Hid (Below w.heap.size w (w.alloc Z)) := bel1 _ _
  have HZ : Hid ((w.alloc Z).heap[w.heap.size]? = some Z) := heap_alloc_new w Z
  have hZs : w.heap.size < (w.alloc Z).heap.size := by simp
  subst hZ
  have hroom := hi.room
  have hmost := hi.most
  unfold maxLen at hmost
  have HIA : Hid (ItemsAt w.heap.size w b o C vs) := hi
  have HAD : Hid (vs.length ≤ 0 ∨ ad = some ⟨b, o + 0 * 3, none⟩) := had
  clear hi had
  go_enter Tryz.func24, Tryz.ntmps24
  go_wp2_with fail
  refine (specMsgSchema_any 4 _).mono ?_
  rintro e w2 ⟨⟨v2, rfl, _, hi2⟩, hb2⟩
  have HB2 : Hid (Below w.heap.size w w2) := HB0.out.trans (hb2.mono (by omega))
  have HI2 : Hid (IsTyps w2.heap.size w2 v2 (msgS 4)) := hi2
  have HZ2 : Hid (w2.heap[w.heap.size]? = some (.cells #[.int .u64 0, .int .u64 0, .string ⟨#[]⟩, .slice none 0 0] 51 (0, 0))) := (hb2.block w.heap.size hZs).trans HZ.out
  clear hb2 hi2
  go_wp2_with fail
  refine (specTyped_any (msgS 4) vs v2 _ w2 HI2.out ((HV.out.below HB2.out).upB HB2.out.size)).mono ?_
  rintro e w3 ⟨rfl, hb3⟩
  have HB3 : Hid (Below w.heap.size w w3) := HB2.out.trans (hb3.mono HB2.out.size)
  have HZ3 : Hid (w3.heap[w.heap.size]? = some (.cells #[.int .u64 0, .int .u64 0, .string ⟨#[]⟩, .slice none 0 0] 51 (0, 0))) := (hb3.block w.heap.size (blk_lt HZ2.out)).trans HZ2.out
  have hz3 : w.heap.size < w3.heap.size := blk_lt HZ3.out
  have z0 : w3.cell? ⟨w.heap.size, 0, none⟩ = some (.int .u64 0) := by rw [cell_of_row _ w.heap.size 0 _ _ _ HZ3.out]; rfl
  have y0 : w3.frozen? ⟨w.heap.size, 0, none⟩ = false := by simp only [World.frozen?, HZ3.out]; rfl
  have z1 : w3.cell? ⟨w.heap.size, 1, none⟩ = some (.int .u64 0) := by rw [cell_of_row _ w.heap.size 1 _ _ _ HZ3.out]; rfl
  have y1 : w3.frozen? ⟨w.heap.size, 1, none⟩ = false := by simp only [World.frozen?, HZ3.out]; rfl
  have z2 : w3.cell? ⟨w.heap.size, 2, none⟩ = some (.string ⟨#[]⟩) := by rw [cell_of_row _ w.heap.size 2 _ _ _ HZ3.out]; rfl
  have y2 : w3.frozen? ⟨w.heap.size, 2, none⟩ = false := by simp only [World.frozen?, HZ3.out]; rfl
  have z3 : w3.cell? ⟨w.heap.size, 3, none⟩ = some (.slice none 0 0) := by rw [cell_of_row _ w.heap.size 3 _ _ _ HZ3.out]; rfl
  have y3 : w3.frozen? ⟨w.heap.size, 3, none⟩ = false := by simp only [World.frozen?, HZ3.out]; rfl
  clear hb3
  cases hty : typedB (msgS 4) vs with
  | false =>
    have HRS : Hid (∀ base w', PrE vs base w' (.returned (.tuple #[.agg #[.int .u64 0, .int .u64 0, .string ⟨#[]⟩, .slice none 0 0], .bool false]))) := fun base w' => by unfold PrE; rw [hty]; rfl
    clear hty
    go_wp2_with fail
    exact bodyPost_ret (v := .tuple #[.agg #[.int .u64 0, .int .u64 0, .string ⟨#[]⟩, .slice none 0 0], .bool false]) (results_cell_row2 Tryz.results24 _ _ w.heap.size _ _ _ _ rfl (set4 HZ3.out) Tryz.underlying51 rfl Tryz.szPrf) rfl ⟨HRS.out _ _, (((HB3.out.setCell (p := ⟨w.heap.size, 0, none⟩) (Nat.le_refl _) _).setCell (p := ⟨w.heap.size, 1, none⟩) (Nat.le_refl _) _).setCell (p := ⟨w.heap.size, 2, none⟩) (Nat.le_refl _) _).setCell (p := ⟨w.heap.size, 3, none⟩) (Nat.le_refl _) _⟩
  | true =>
    obtain ⟨h5, hm16, hl⟩ := proof_len hty
    obtain ⟨m, hm⟩ : ∃ m, vs[4].n = m := ⟨_, rfl⟩
    rw [hm] at hm16 hl
    obtain ⟨i0, hi, hz0, hz1, hz2⟩ := info_parts Tryz.infoStrR
    have had := HAD.out.resolve_left (by omega)
    simp only [Nat.zero_mul, Nat.add_zero] at had
    subst had
    have hi3 := HIA.out.below HB3.out
    have hbw0 : b < w.heap.size := hi3.low.resolve_left (by omega)
    have hbw : b < w3.heap.size := by omega
    have p1 := (hi3.cells 1 (by omega)).2.1
    have p2 := (hi3.cells 2 (by omega)).2.1
    have p3 := (hi3.cells 3 (by omega)).2.2
    obtain ⟨x1, h1⟩ : ∃ x, vs[1].n = x := ⟨_, rfl⟩
    obtain ⟨x2, h2⟩ : ∃ x, vs[2].n = x := ⟨_, rfl⟩
    obtain ⟨x3, h3⟩ : ∃ x, vs[3].s = x := ⟨_, rfl⟩
    have HRS : Hid (∀ base w' ad cp, w'.ownsRow base 9 1 (.slice ad m cp) m (strv (txS vs 5 m)) → PrE vs base w' (.returned (.tuple #[.agg #[.int .u64 x1, .int .u64 x2, .string x3, .slice ad m cp], .bool true]))) := fun base w' ad cp ho => by
      unfold PrE
      rw [hty]
      have e4 : itN vs 4 = m := by rw [itN_at h5, hm]
      rw [e4]
      exact ⟨ad, cp, by rw [itN_at (by omega), itN_at (by omega), itS_at (by omega), h1, h2, h3], ho⟩
    rw [h1] at p1
    rw [h2] at p2
    rw [h3] at p3
    have hl6 : 5 ≤ vs.length := by omega
    have HL : Hid (vs.length = 5 + m) := hl
    clear hty h1 h2 h3 hl hi3 hm h5
    go_wp2_with fail
    go_region
    have HPW : Hid (((w3.alloc (.cells #[.int .u64 x1, .int .u64 x2, .string x3, .slice none 0 0] 51)).drew).heap[w3.heap.size]? = some (.cells #[.int .u64 x1, .int .u64 x2, .string x3, .slice none 0 0] 51 (0, 0))) := heap_alloc_new w3 _
    have HZW : Hid (((w3.alloc (.cells #[.int .u64 x1, .int .u64 x2, .string x3, .slice none 0 0] 51)).drew).heap[w.heap.size]? = some (.cells #[.int .u64 0, .int .u64 0, .string ⟨#[]⟩, .slice none 0 0] 51 (0, 0))) := (Below.heap_alloc w3 _ _ hz3).trans HZ3.out
    have HBW : Hid (Below w.heap.size w ((w3.alloc (.cells #[.int .u64 x1, .int .u64 x2, .string x3, .slice none 0 0] 51)).drew)) := (HB3.out.alloc (by omega) _).drew
    obtain ⟨W, hW⟩ : ∃ W, (w3.alloc (.cells #[.int .u64 x1, .int .u64 x2, .string x3, .slice none 0 0] 51)).drew = W := ⟨_, rfl⟩
    rw [hW] at HPW HZW HBW
    rw [hW]
    obtain ⟨P, hP⟩ : ∃ P, w3.heap.size = P := ⟨_, rfl⟩
    rw [hP] at HPW hz3 hbw
    rw [hP]
    clear hW hP p1 p2 p3 z0 z1 z2 z3 y0 y1 y2 y3
    go_wp2_with fail
    go_loopg [5] m (fun gk i wr => ∃ (j : Nat) (v : Value), j + gk = m ∧ i = .int .i64 ((5 + j : Nat) : Int) ∧ wr.heap[P]? = some (.cells #[.int .u64 x1, .int .u64 x2, .string x3, v] 51 (0, 0)) ∧ wr.heap[w.heap.size]? = some (.cells #[.int .u64 0, .int .u64 0, .string ⟨#[]⟩, .slice none 0 0] 51 (0, 0)) ∧ wr.ownsRow (P + 1) 9 1 v j (strv (txS vs 5 j)) ∧ Below w.heap.size w wr)
    case atStart => exact ⟨0, _, by omega, rfl, HPW.out, HZW.out, World.ownsRow_nil _ _ _ _, HBW.out⟩
    case round =>
      obtain ⟨j, v, hj', rfl, hP, hZ, ho, hb⟩ := hrel
      obtain ⟨ad, cp, rfl⟩ : ∃ ad cp, v = .slice ad j cp := by
        rcases ho.2 with ⟨e1, e2⟩ | ⟨g, cap, cu, e1, _⟩
        · exact ⟨none, 0, by rw [e1, e2]⟩
        · exact ⟨_, cap, e1⟩
      have HJ : Hid (j + gk = m) := hj'
      have HP : Hid (wr.heap[P]? = some (.cells #[.int .u64 x1, .int .u64 x2, .string x3, .slice ad j cp] 51 (0, 0))) := hP
      have HZr : Hid (wr.heap[w.heap.size]? = some (.cells #[.int .u64 0, .int .u64 0, .string ⟨#[]⟩, .slice none 0 0] 51 (0, 0))) := hZ
      have HO : Hid (wr.ownsRow (P + 1) 9 1 (.slice ad j cp) j (strv (txS vs 5 j))) := ho
      have HB : Hid (Below w.heap.size w wr) := hb
      have hPr : P < wr.heap.size := blk_lt hP
      have cP : wr.cell? ⟨P, 3, none⟩ = some (.slice ad j cp) := by rw [cell_of_row wr P 3 _ _ _ hP]; rfl
      have hj : j ≤ m := by omega
      have hbr : b < wr.heap.size := by omega
      clear hj' hP hZ ho
      by_cases hlt : j < m
      · have hlen : 5 + j < vs.length := by have := HL.out; omega
        have cx := ((HIA.out.below hb).cells (5 + j) hlen).2.2
        obtain ⟨x, hx⟩ : ∃ x, vs[5 + j].s = x := ⟨_, rfl⟩
        rw [hx] at cx
        obtain ⟨K, hK⟩ : ∃ K : Nat, 5 + j = K := ⟨_, rfl⟩
        have HKE : Hid (5 + j = K) := hK
        have hKl : K < vs.length := by omega
        have HXS : Hid (strv (txS vs 5 (j + 1)) = strv (txS vs 5 j) ++ [.string x]) := by show _ = _; rw [txS_succ hlen, strv_app, hx]
        rw [hK] at cx
        rw [hK]
        clear hx hb hK hlen
        go_wp2_with fail
        go_region_law (refine step_append_lies _ rfl (.tmp 31) (.tmp 37) 49 rfl (P + 1) 9 i0 (.string ByteArray.empty) 1 16 Tryz.underlying49 hi hz0 hz1 hz2 rfl (by decide) (.slice ad j cp) j (strv (txS vs 5 j)) (by simp [Act.eval]) ((show wr.drew.ownsRow (P + 1) 9 1 (.slice ad j cp) j (strv (txS vs 5 j)) from HO.out).alloc _) ⟨wr.heap.size, 0, none⟩ 1 1 [.string x] (by simp [Act.eval]) rfl (fun i u hu => by match i, hu with | 0, hu => (simp at hu; subst hu; simp [Addr.add])) (fun u hu => by simp at hu; subst hu; rfl) (by omega) (by unfold maxLen; omega) (by omega) (by simp; omega) (wr.heap.size + 1) (by simp) ?_; intro g cap2 w4 hown' hgrow hat hlt'; have cP4 : w4.cell? ⟨P, 3, none⟩ = some (.slice ad j cp) := (by rw [World.cell?_of_block (w := wr.alloc (.cells #[.string x] 9)) (a := ⟨P, 3, none⟩) (hgrow.block P (by simp; omega) (fun e => by have := (HO.out.lt P e.symm).1; omega)), (bel1 wr _).cell (p := ⟨P, 3, none⟩) hPr]; exact cP); have fP4 : w4.frozen? ⟨P, 3, none⟩ = false := (by have h0 := (hgrow.block P (by simp; omega) (fun e => by have := (HO.out.lt P e.symm).1; omega)).trans ((Below.heap_alloc wr _ _ hPr).trans HP.out); simp [World.frozen?, h0]))
        all_goals
          have hnP : some P ≠ (Value.slice ad j cp).ownBlock := fun e => by have := (HO.out.lt P e.symm).1; omega
          have hnZ : some w.heap.size ≠ (Value.slice ad j cp).ownBlock := fun e => by have := (HO.out.lt w.heap.size e.symm).1; omega
          have hP4 : w4.heap[P]? = some (.cells #[.int .u64 x1, .int .u64 x2, .string x3, .slice ad j cp] 51 (0, 0)) := (hgrow.block P (by simp; omega) hnP).trans ((Below.heap_alloc wr _ _ hPr).trans HP.out)
          have HP5 : Hid ((w4.setCell ⟨P, 3, none⟩ (.slice (some ⟨g, 0, none⟩) (j + 1) cap2)).heap[P]? = some (.cells #[.int .u64 x1, .int .u64 x2, .string x3, (.slice (some ⟨g, 0, none⟩) (j + 1) cap2)] 51 (0, 0))) := by rw [set_block (i := 3) hP4]; rfl
          have HZ5 : Hid ((w4.setCell ⟨P, 3, none⟩ (.slice (some ⟨g, 0, none⟩) (j + 1) cap2)).heap[w.heap.size]? = some (.cells #[.int .u64 0, .int .u64 0, .string ⟨#[]⟩, .slice none 0 0] 51 (0, 0))) := by rw [Below.heap_setCell _ _ _ _ (by simp; omega)]; exact (hgrow.block w.heap.size (by simp; omega) hnZ).trans ((Below.heap_alloc wr _ _ (by omega)).trans HZr.out)
          have HO5 : Hid ((w4.setCell ⟨P, 3, none⟩ (.slice (some ⟨g, 0, none⟩) (j + 1) cap2)).ownsRow (P + 1) 9 1 (.slice (some ⟨g, 0, none⟩) (j + 1) cap2) (j + 1) (strv (txS vs 5 (j + 1)))) := ownsRow_setCell_below (by rw [HXS.out]; exact hown') (a := ⟨P, 3, none⟩) (by simp) _
          have HB5 : Hid (Below w.heap.size w (w4.setCell ⟨P, 3, none⟩ (.slice (some ⟨g, 0, none⟩) (j + 1) cap2))) := (((HB.out.drew).alloc (by show w.heap.size ≤ wr.heap.size; omega) _).grown hgrow (by simp; omega) (fun q hq => by have := (HO.out.lt q hq).1; omega)).setCell (p := ⟨P, 3, none⟩) (by simp; omega) _
          clear hown' hgrow hat hlt' hnP hnZ hP4 cP4 fP4 cx cP
          go_wp2_with fail
          go_roundg (gk - 1)
          case rel => exact ⟨j + 1, _, by have := HJ.out; omega, by have := HKE.out; first | go_num | (congr 1; omega), HP5.out, HZ5.out, HO5.out, HB5.out⟩
          case measure => have := HJ.out; omega
      · have ej : j = m := by omega
        have hKl : 5 + m = vs.length := by have := HL.out; omega
        have z0 : wr.cell? ⟨w.heap.size, 0, none⟩ = some (.int .u64 0) := by rw [cell_of_row _ w.heap.size 0 _ _ _ HZr.out]; rfl
        have y0 : wr.frozen? ⟨w.heap.size, 0, none⟩ = false := by simp only [World.frozen?, HZr.out]; rfl
        have z1 : wr.cell? ⟨w.heap.size, 1, none⟩ = some (.int .u64 0) := by rw [cell_of_row _ w.heap.size 1 _ _ _ HZr.out]; rfl
        have y1 : wr.frozen? ⟨w.heap.size, 1, none⟩ = false := by simp only [World.frozen?, HZr.out]; rfl
        have z2 : wr.cell? ⟨w.heap.size, 2, none⟩ = some (.string ⟨#[]⟩) := by rw [cell_of_row _ w.heap.size 2 _ _ _ HZr.out]; rfl
        have y2 : wr.frozen? ⟨w.heap.size, 2, none⟩ = false := by simp only [World.frozen?, HZr.out]; rfl
        have z3 : wr.cell? ⟨w.heap.size, 3, none⟩ = some (.slice none 0 0) := by rw [cell_of_row _ w.heap.size 3 _ _ _ HZr.out]; rfl
        have y3 : wr.frozen? ⟨w.heap.size, 3, none⟩ = false := by simp only [World.frozen?, HZr.out]; rfl
        clear hlt cP hb
        subst ej
        rw [hKl]
        clear hKl
        go_wp2_with (refine wpList_load_row rfl 51 _ rfl P rfl _ _ _ _ HP.out Tryz.underlying51 rfl Tryz.szPrf ?_)
        have hzP : w.heap.size < P + 1 := by omega
        exact bodyPost_ret (v := .tuple #[.agg #[.int .u64 x1, .int .u64 x2, .string x3, .slice ad j cp], .bool true]) (results_cell_row2 Tryz.results24 _ _ w.heap.size _ _ _ _ rfl (set4 HZr.out) Tryz.underlying51 rfl Tryz.szPrf) rfl ⟨HRS.out _ _ _ _ (own_down (ownsRow_setCell_below (ownsRow_setCell_below (ownsRow_setCell_below (ownsRow_setCell_below HO.out (a := ⟨w.heap.size, 0, none⟩) hzP _) (a := ⟨w.heap.size, 1, none⟩) hzP _) (a := ⟨w.heap.size, 2, none⟩) hzP _) (a := ⟨w.heap.size, 3, none⟩) hzP _) (by omega)), (((HB.out.setCell (p := ⟨w.heap.size, 0, none⟩) (Nat.le_refl _) _).setCell (p := ⟨w.heap.size, 1, none⟩) (Nat.le_refl _) _).setCell (p := ⟨w.heap.size, 2, none⟩) (Nat.le_refl _) _).setCell (p := ⟨w.heap.size, 3, none⟩) (Nat.le_refl _) _⟩
end Go.Proofs.YtelbmcgpelkakaaGreatDoor
