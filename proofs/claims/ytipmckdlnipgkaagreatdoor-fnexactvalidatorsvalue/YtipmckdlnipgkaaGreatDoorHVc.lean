/- A value of items, by the program: contract. -/
import Derived.Test.YtipmckdlnipgkaaGreatDoorHVb
import Derived.Deep.RegionHeld3
import Derived.Deep.RegionWith
import Derived.Deep.LoopGhost
namespace Go.Proofs.YtipmckdlnipgkaaGreatDoor
open Go.RowKit Go.Sort
set_option linter.unusedVariables false
theorem cloneV_any (s : ByteArray) (w : World) (hs : s.size ≤ 281474976710656) : Calls Tryz.prog 64 #[.string s] w fun e w' => e = .returned (.string s) ∧ Below w.heap.size w w' := by
  have HC : Hid _ := (show Hid _ from Tryz.stringslite_Clone s w hs)
  go_enter Tryz.func64, Tryz.ntmps64
  go_wp2_with fail
  refine Calls.mono HC.out ?_
  rintro e w1 ⟨rfl, hb1⟩
  go_wp2_with fail
  go_ret
  exact ⟨rfl, hb1⟩
/-- A text of an owned row, stored where it stands: nothing changes. -/
theorem own_same {base : Nat} {w : World} {g cap : Nat} {l : List It} (h : OwnIt base w (.slice (some ⟨g, 0, none⟩) l.length cap) l) {j : Nat} (hj : j < l.length) : OwnIt base (w.setCell ⟨g, j * 3 + 2, none⟩ (.string l[j].s)) (.slice (some ⟨g, 0, none⟩) l.length cap) l := by
  refine ⟨h.1, ?_⟩
  rcases h.2 with ⟨hv, _⟩ | ⟨g', cap', cur, hv, hg, hh, a1, a2, a3, a4⟩
  · cases hv
  · cases hv
    have e := set_block (i := j * 3 + 2) hh (.string l[j].s)
    have hc : cur[j * 3 + 2]? = some (.string l[j].s) := by
      have e2 : (cur.toList.take (l.length * 3))[j * 3 + 2]? = cur.toList[j * 3 + 2]? := by rw [List.getElem?_take, if_pos (by omega)]
      rw [a4, (flatI_at hj).2.2] at e2
      simpa using e2.symm
    have hcs : cur.setIfInBounds (j * 3 + 2) (.string l[j].s) = cur := by
      apply Array.ext_getElem?
      intro i
      by_cases hi : i = j * 3 + 2
      · subst hi; rw [Array.getElem?_setIfInBounds_self_of_lt (by omega), hc]
      · rw [Array.getElem?_setIfInBounds_ne (by omega)]
    rw [hcs] at e
    exact .inr ⟨g, cap, cur, rfl, hg, e, a1, a2, a3, a4⟩
set_option maxRecDepth 100000 in
set_option maxHeartbeats 4000000 in
theorem value_any (R base : Nat) (l : List It) (k : Int) (w : World) (h : WrAt R base w l) (hw : EV w) (hl : l.length ≤ 1000) (hwf : ∀ x ∈ l, inI x.k ∧ x.n < 18446744073709551616 ∧ x.s.size ≤ 1048577) : Calls Tryz.prog 40 #[.pointer (some ⟨R, 0, none⟩), .int .i64 k] w fun e w' => (∃ v', e = .returned v' ∧ OwnIt base w' v' (vlR k l)) ∧ Below R w w' := by
  obtain ⟨hR, hb, v, hB, ho⟩ := h
  have HI : Hid (IsItems w.heap.size w v l) := ho.items (by omega) hwf
  have HO : Hid (OwnIt base w v l) := ho
  have HBK : Hid (w.heap[R]? = some (.cells #[v] 74 (0, 0))) := hB
  obtain ⟨ad, cap, rfl, h1, h2, _⟩ := ho.form
  unfold maxLen at h2
  have hRs : R < w.heap.size := blk_lt hB
  have HK : Hid (∀ w3, Below w.heap.size w.drew w3 → w3.cell? ⟨R, 0, none⟩ = some (.slice ad l.length cap)) := fun w3 hb3 => by
    rw [hb3.cell (p := ⟨R, 0, none⟩) hRs]
    show w.cell? _ = _
    rw [cell_of_row w R 0 _ _ _ HBK.out]; rfl
  have HS0 : Hid _ := HK.out w.drew (Below.refl _ _)
  have HG0 : Hid (Below w.heap.size w.drew w.drew) := Below.refl _ _
  have HD : Hid (∀ w3, Below w.heap.size w.drew w3 → Below w.heap.size w w3) := fun w3 h3 => ((Below.refl w.heap.size w).drew).trans h3
  have HM : Hid (∀ w3, Below w.heap.size w.drew w3 → Calls Tryz.prog 63 #[.int .i64 k] w3 fun e w' => ∃ v2, e = .returned v2 ∧ IsTyps w'.heap.size w' v2 (msgS k) ∧ Below w3.heap.size w3 w') := fun w3 h3 => (implMsgSchema_any k w3 (hw.below (HD.out w3 h3))).mono (by
    rintro e w'' ⟨⟨v2, rfl, _, hi⟩, hb'⟩
    exact ⟨v2, rfl, hi, hb'⟩)
  have HT : Hid (∀ (w2 : World) (v2 : Value), Below w.heap.size w.drew w2 → IsTyps w2.heap.size w2 v2 (msgS k) → Calls Tryz.prog 62 #[v2, .slice ad l.length cap] w2 fun e w'' => e = .returned (.bool (typedB (msgS k) l)) ∧ Below w2.heap.size w2 w'') := fun w2 v2 h2 hi => implTyped_any (msgS k) l v2 _ w2 hi ((HI.out.below (HD.out w2 h2)).up (HD.out w2 h2).size) (hw.below (HD.out w2 h2)).kin
  have HWF : Hid (∀ x ∈ l, inI x.k ∧ x.n < 18446744073709551616 ∧ x.s.size ≤ 1048577) := hwf
  clear hB ho hw hwf
  cases hty : typedB (msgS k) l with
  | false =>
    have HR : Hid (vlR k l = []) := by show _ = _; unfold vlR; rw [hty]; rfl
    rw [hty] at HT
    clear hty
    go_enter Tryz.func40, Tryz.ntmps40
    go_wp2_with fail
    go_region_held3 (fun W => W.cell? ⟨R, 0, none⟩ = some (.slice ad l.length cap)) (first | exact HS0.out | exact HS4.out | exact HS3.out) (first
      | (go_at_call 63; refine (HM.out _ HG0.out).mono ?_; rintro e w3 ⟨v2, rfl, hi3, hb3⟩; have HG3 : Hid (Below w.heap.size w.drew w3) := HG0.out.trans (hb3.mono (Nat.le_refl _)); have HI3 : Hid (IsTyps w3.heap.size w3 v2 (msgS k)) := hi3; have HS3 : Hid _ := HK.out w3 HG3.out; clear hb3 hi3)
      | (go_at_call 62; refine (HT.out w3 v2 HG3.out HI3.out).mono ?_; rintro e w4 ⟨rfl, hb4⟩; have HG4 : Hid (Below w.heap.size w.drew w4) := HG3.out.trans (hb4.mono HG3.out.size); have HS4 : Hid _ := HK.out w4 HG4.out; clear hb4))
    all_goals
      have HF : Hid ((∃ v', Ending.returned (.slice none 0 0) = .returned v' ∧ OwnIt base w4 v' (vlR k l)) ∧ Below R w w4) := ⟨⟨_, rfl, by rw [HR.out]; exact OwnIt.nil _ _⟩, (HD.out w4 HG4.out).mono (by omega)⟩
      clear HS0 HG0
      go_wp2_with fail
      go_ret
      exact HF.out
  | true =>
    have HR : Hid (vlR k l = l) := by show _ = _; unfold vlR; rw [hty]; rfl
    rw [hty] at HT
    clear hty
    go_enter Tryz.func40, Tryz.ntmps40
    go_wp2_with fail
    go_region_held3 (fun W => W.cell? ⟨R, 0, none⟩ = some (.slice ad l.length cap)) (first | exact HS0.out | exact HS4.out | exact HS3.out) (first
      | (go_at_call 63; refine (HM.out _ HG0.out).mono ?_; rintro e w3 ⟨v2, rfl, hi3, hb3⟩; have HG3 : Hid (Below w.heap.size w.drew w3) := HG0.out.trans (hb3.mono (Nat.le_refl _)); have HI3 : Hid (IsTyps w3.heap.size w3 v2 (msgS k)) := hi3; have HS3 : Hid _ := HK.out w3 HG3.out; clear hb3 hi3)
      | (go_at_call 62; refine (HT.out w3 v2 HG3.out HI3.out).mono ?_; rintro e w4 ⟨rfl, hb4⟩; have HG4 : Hid (Below w.heap.size w.drew w4) := HG3.out.trans (hb4.mono HG3.out.size); have HS4 : Hid _ := HK.out w4 HG4.out; clear hb4))
    all_goals
      have HB4 : Hid (Below w.heap.size w w4) := HD.out w4 HG4.out
      have c4 := HS4.out
      clear HS0 HG0
      go_wp2_with fail
      go_loopg [20] l.length (fun gk i wr => ∃ j : Nat, j + gk = l.length ∧ i = .int .i64 j ∧ wr.heap[R]? = some (.cells #[.slice ad l.length cap] 74 (0, 0)) ∧ OwnIt base wr (.slice ad l.length cap) l ∧ Below R w wr ∧ base ≤ wr.heap.size)
      case atStart => exact ⟨0, by omega, rfl, (HB4.out.block R hRs).trans HBK.out, HO.out.kept HB4.out, HB4.out.mono (by omega), by have := HB4.out.size; omega⟩
      case round =>
        obtain ⟨j, hj', rfl, hRr, hor, hbr, hbs⟩ := hrel
        have HJ : Hid (j + gk = l.length) := hj'
        have HRr : Hid (wr.heap[R]? = some (.cells #[.slice ad l.length cap] 74 (0, 0))) := hRr
        have HOr : Hid (OwnIt base wr (.slice ad l.length cap) l) := hor
        have HBr : Hid (Below R w wr) := hbr
        have hj : j ≤ l.length := by omega
        have cRr : wr.cell? ⟨R, 0, none⟩ = some (.slice ad l.length cap) := by rw [cell_of_row wr R 0 _ _ _ hRr]; rfl
        clear hj' hbr c4
        by_cases hlt : j < l.length
        · obtain ⟨ad', cap', hv', _, _, h3⟩ := hor.form
          obtain ⟨g, rfl⟩ : ∃ g, ad = some ⟨g, 0, none⟩ := by cases hv'; exact h3.resolve_left (by omega)
          have hgw := (World.ownsRow.lt HOr.out g rfl)
          obtain ⟨e0, e1, e2⟩ := flatI_at hlt
          have c0 : wr.cell? ⟨g, j * 3, none⟩ = some (.int .i64 l[j].k) := by rw [World.ownsRow.cellAt HOr.out (j * 3) (by omega)]; exact e0
          have c1 : wr.cell? ⟨g, j * 3 + 1, none⟩ = some (.int .u64 l[j].n) := by rw [World.ownsRow.cellAt HOr.out (j * 3 + 1) (by omega)]; exact e1
          have c2 : wr.cell? ⟨g, j * 3 + 2, none⟩ = some (.string l[j].s) := by rw [World.ownsRow.cellAt HOr.out (j * 3 + 2) (by omega)]; exact e2
          have fz : wr.frozen? ⟨g, j * 3 + 2, none⟩ = false := by
            rcases HOr.out.2 with ⟨hv, _⟩ | ⟨g2, cap2, cur, hv, _, hh, _⟩
            · cases hv
            · cases hv; simp [World.frozen?, hh]
          have HSM : Hid (∀ w3, OwnIt base w3 (.slice (some ⟨g, 0, none⟩) l.length cap) l → OwnIt base (w3.setCell ⟨g, j * 3 + 2, none⟩ (.string l[j].s)) (.slice (some ⟨g, 0, none⟩) l.length cap) l) := fun w3 h => own_same h hlt
          obtain ⟨ik, hik⟩ : ∃ x, l[j].k = x := ⟨_, rfl⟩
          obtain ⟨im, him⟩ : ∃ x, l[j].n = x := ⟨_, rfl⟩
          obtain ⟨is, his⟩ : ∃ x, l[j].s = x := ⟨_, rfl⟩
          have hszs : is.size ≤ 1048577 := by rw [← his]; exact (HWF.out _ (List.getElem_mem hlt)).2.2
          rw [hik] at c0
          rw [him] at c1
          rw [his] at c2 HSM
          clear hik him his e0 e1 e2 hv' h3 hor hRr
          obtain ⟨W1, hW1⟩ : ∃ W, wr.alloc (.cells #[.int .i64 ik, .int .u64 im, .string is] 69) = W := ⟨_, rfl⟩
          have HB1 : Hid (Below wr.heap.size wr W1) := by show Below _ _ _; rw [← hW1]; exact belA _ _
          have hN1 : W1.heap[wr.heap.size]? = some (.cells #[.int .i64 ik, .int .u64 im, .string is] 69 (0, 0)) := by rw [← hW1]; exact heap_alloc_new wr _
          have hRw : R < wr.heap.size := blk_lt HRr.out
          have t0 : W1.cell? ⟨R, 0, none⟩ = some (.slice (some ⟨g, 0, none⟩) l.length cap) := by rw [HB1.out.cell (p := ⟨R, 0, none⟩) hRw]; exact cRr
          have t1 : W1.cell? ⟨wr.heap.size, 2, none⟩ = some (.string is) := by rw [cell_of_row W1 _ 2 _ _ _ hN1]; rfl
          have t0d : W1.drew.cell? ⟨R, 0, none⟩ = some (.slice (some ⟨g, 0, none⟩) l.length cap) := t0
          have t1d : W1.drew.cell? ⟨wr.heap.size, 2, none⟩ = some (.string is) := t1
          have t2 : W1.heap[g]? = wr.heap[g]? := HB1.out.block g hgw.2
          have hN1s : wr.heap.size < W1.heap.size := blk_lt hN1
          have HCl : Hid (∀ w', Below W1.heap.size W1 w' → Calls Tryz.prog 64 #[.string is] w' fun e w'' => e = .returned (.string is) ∧ Below W1.heap.size W1 w'' ∧ w''.cell? ⟨R, 0, none⟩ = some (.slice (some ⟨g, 0, none⟩) l.length cap) ∧ w''.cell? ⟨g, j * 3 + 2, none⟩ = some (.string is) ∧ w''.frozen? ⟨g, j * 3 + 2, none⟩ = false) := fun w' hb' => by
            refine (cloneV_any is w' (by omega)).mono ?_
            rintro e w'' ⟨rfl, hb''⟩
            have hB' := hb'.trans (hb''.mono hb'.size)
            have hg2 : w''.heap[g]? = wr.heap[g]? := (hB'.block g (by omega)).trans t2
            exact ⟨rfl, hB', by rw [hB'.cell (p := ⟨R, 0, none⟩) (by simp; omega)]; exact t0, (World.cell?_of_block (w := wr) (w' := w'') (a := ⟨g, j * 3 + 2, none⟩) hg2).trans c2, (World.frozen?_of_block (w := wr) (w' := w'') (a := ⟨g, j * 3 + 2, none⟩) hg2).trans fz⟩
          clear hN1 t2 hbs
          go_wp2_with fail
          clear c0 c1 c2 fz cRr
          go_region_with (go_at_call 64; refine (HCl.out _ (by repeat (first | exact Below.refl _ _ | (refine Below.drew ?_)))).mono ?_; rintro e w5 ⟨rfl, hb5, d0, d1, d2⟩)
          all_goals
            have HBB : Hid (Below wr.heap.size wr w5) := HB1.out.trans (hb5.mono HB1.out.size)
            have HX : Hid ((w5.setCell ⟨g, j * 3 + 2, none⟩ (.string is)).heap[R]? = some (.cells #[.slice (some ⟨g, 0, none⟩) l.length cap] 74 (0, 0)) ∧ OwnIt base (w5.setCell ⟨g, j * 3 + 2, none⟩ (.string is)) (.slice (some ⟨g, 0, none⟩) l.length cap) l ∧ Below R w (w5.setCell ⟨g, j * 3 + 2, none⟩ (.string is)) ∧ base ≤ (w5.setCell ⟨g, j * 3 + 2, none⟩ (.string is)).heap.size) := by
              refine ⟨?_, HSM.out _ (HOr.out.kept HBB.out), (HBr.out.trans (HBB.out.mono (by omega))).setCell (p := ⟨g, j * 3 + 2, none⟩) (by simp; omega) _, ?_⟩
              · rw [Below.heap_setCell _ _ _ _ (by simp; omega)]; exact (HBB.out.block R hRw).trans HRr.out
              · have := HBB.out.size; simp [World.setCell]; omega
            clear hb5 d0 d1 d2 t0 t1 t0d t1d
            go_wp2_with fail
            go_roundg (gk - 1)
            case rel => exact ⟨j + 1, by have := HJ.out; omega, by go_num, HX.out.1, HX.out.2.1, HX.out.2.2.1, HX.out.2.2.2⟩
            case measure => have := HJ.out; omega
        · have ej : j = l.length := by omega
          have HF : Hid ((∃ v', Ending.returned (.slice ad l.length cap) = .returned v' ∧ OwnIt base wr v' (vlR k l)) ∧ Below R w wr) := ⟨⟨_, rfl, by rw [HR.out]; exact HOr.out⟩, HBr.out⟩
          clear hlt hor hRr
          subst ej
          go_wp2_with fail
          go_ret
          exact HF.out
end Go.Proofs.YtipmckdlnipgkaaGreatDoor
