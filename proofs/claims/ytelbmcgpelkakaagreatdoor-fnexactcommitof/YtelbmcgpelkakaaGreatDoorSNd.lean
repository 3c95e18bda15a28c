/- A header of items, both sides: contracts. -/
import Derived.Test.YtelbmcgpelkakaaGreatDoorSNc
import Derived.BigRegion
namespace Go.Proofs.YtelbmcgpelkakaaGreatDoor
open Go.RowKit Go.Sort
set_option linter.unusedVariables false
def itN (vs : List It) (i : Nat) : Nat := (vs[i]?.map (·.n)).getD 0
def itS (vs : List It) (i : Nat) : ByteArray := (vs[i]?.map (·.s)).getD ⟨#[]⟩
theorem itN_at {vs : List It} {i : Nat} (h : i < vs.length) : itN vs i = vs[i].n := by simp [itN, List.getElem?_eq_getElem h]
theorem itS_at {vs : List It} {i : Nat} (h : i < vs.length) : itS vs i = vs[i].s := by simp [itS, List.getElem?_eq_getElem h]
def hdR (vs : List It) : Value := if typedB (msgS 1) vs then .tuple #[hdA (itN vs 1) (itN vs 2) (itS vs 3) (itS vs 4) (itS vs 5), .bool true] else .tuple #[hdA 0 0 ⟨#[]⟩ ⟨#[]⟩ ⟨#[]⟩, .bool false]
theorem IsItems.upB {B B' : Nat} {w : World} {v : Value} {vs : List It} (h : IsItems B w v vs) (hB : B ≤ B') : IsItems B' w v vs := by
  obtain ⟨b, o, C, h1, h2⟩ := h
  exact ⟨b, o, C, h1.up hB, h2⟩
set_option maxRecDepth 100000 in
set_option maxHeartbeats 4000000 in
theorem toldHeader_any (R b o C : Nat) (vs : List It) (w : World) (h : RdR R b o C vs 0 w) (hw : EV w) : Calls Tryz.prog 33 #[.pointer (some ⟨R, 0, none⟩), .int .i64 1, .func (.func 34) #[.pointer (some ⟨R, 0, none⟩)] #[]] w fun e w' => e = .returned (hdR vs) ∧ w.grownBy w' (some R) := by
  obtain ⟨v, hv, hf⟩ := h.cell
  have hR : R < w.heap.size := blk_lt hv
  obtain ⟨Z, hZ⟩ : ∃ Z : Obj, .cells #[.int .u64 0, .int .u64 0, .string ⟨#[]⟩, .string ⟨#[]⟩, .string ⟨#[]⟩] 26 = Z := ⟨_, rfl⟩
  have hb0 : Below w.heap.size w (w.alloc Z) := bel1 _ _
  have h0 : RdR R b o C vs 0 (w.alloc Z) := h.grown (gb_bel hb0)
  have HR : Hid (RdR R b o C vs 0 (w.alloc Z)) := h0
  have HG : Hid (w.grownBy (w.alloc Z) (some R)) := gb_any (gb_bel hb0)
  have HZ : Hid ((w.alloc Z).heap[w.heap.size]? = some Z) := heap_alloc_new w Z
  have HE : Hid (EV (w.alloc Z)) := hw.below hb0
  have hZs : w.heap.size < (w.alloc Z).heap.size := by simp
  obtain ⟨ad, hv1, hv2⟩ := hf
  subst hv1
  simp only [Nat.sub_zero] at hv hv2
  have HI : Hid (IsItems (w.alloc Z).heap.size (w.alloc Z) (.slice ad vs.length C) vs) := ⟨b, o, C, h0.its.up (by simp; omega), ad, by simp, by simpa using hv2⟩
  have cR : (w.alloc Z).cell? ⟨R, 0, none⟩ = some (.slice ad vs.length C) := by rw [hb0.cell (p := ⟨R, 0, none⟩) hR, cell_of_row w R 0 _ _ _ hv]; rfl
  subst hZ
  clear h hw hv hv2 hb0 h0
  go_enter Tryz.func33, Tryz.ntmps33
  go_wp2_with fail
  obtain ⟨W, hW⟩ : ∃ W, w.alloc (.cells #[.int .u64 0, .int .u64 0, .string ⟨#[]⟩, .string ⟨#[]⟩, .string ⟨#[]⟩] 26) = W := ⟨_, rfl⟩
  rw [hW] at HR HG HZ HE HI hZs cR
  rw [hW]
  clear hW
  have HM : Hid (∀ w', Below W.heap.size W w' → Calls Tryz.prog 57 #[.int .i64 1] w' fun e w'' => ∃ v2, e = .returned v2 ∧ IsTyps w''.heap.size w'' v2 (msgS 1) ∧ Below W.heap.size W w'' ∧ w''.cell? ⟨R, 0, none⟩ = some (.slice ad vs.length C)) := fun w' hb => (implMsgSchema_any 1 w' (HE.out.below hb)).mono (by
    rintro e w'' ⟨⟨v2, rfl, _, hi⟩, hb'⟩
    have hB : Below W.heap.size W w'' := hb.trans (hb'.mono hb.size)
    exact ⟨v2, rfl, hi, hB, by rw [hB.cell (p := ⟨R, 0, none⟩) (by simp; omega)]; exact cR⟩)
  have HT : Hid (∀ (w2 w' : World) (v2 : Value), Below W.heap.size W w2 → IsTyps w2.heap.size w2 v2 (msgS 1) → Below w2.heap.size w2 w' → Calls Tryz.prog 56 #[v2, .slice ad vs.length C] w' fun e w'' => e = .returned (.bool (typedB (msgS 1) vs)) ∧ Below W.heap.size W w'') := fun w2 w' v2 hb hi hb' => by
    have hB : Below W.heap.size W w' := hb.trans (hb'.mono hb.size)
    refine (implTyped_any (msgS 1) vs v2 _ w' ((hi.below hb').up hb'.size) ((HI.out.below hB).upB hB.size) (HE.out.below hB).kin).mono ?_
    rintro e w'' ⟨rfl, hb2⟩
    exact ⟨rfl, hB.trans (hb2.mono hB.size)⟩
  cases hty : typedB (msgS 1) vs with
  | false =>
    have HRS : Hid (hdR vs = .tuple #[hdA 0 0 ⟨#[]⟩ ⟨#[]⟩ ⟨#[]⟩, .bool false]) := by show _ = _; unfold hdR; rw [hty]; rfl
    rw [hty] at HT
    clear hty
    go_region_with (first | (go_at_call 57; refine (HM.out _ (by repeat (first | exact Below.refl _ _ | (refine Below.drew ?_)))).mono ?_; rintro e w2 ⟨v2, rfl, hi2, hb2, cR2⟩) | (go_at_call 56; refine (HT.out _ _ _ hb2 hi2 (by repeat (first | exact Below.refl _ _ | (refine Below.drew ?_)))).mono ?_; rintro e w3 ⟨rfl, hb3⟩))
    all_goals
      have HZ3 : Hid (w3.heap[w.heap.size]? = some (.cells #[.int .u64 0, .int .u64 0, .string ⟨#[]⟩, .string ⟨#[]⟩, .string ⟨#[]⟩] 26 (0, 0))) := (hb3.block w.heap.size hZs).trans HZ.out
      have HG3 : Hid (w.grownBy w3 (some R)) := gb_trR HG.out (gb_any (gb_bel hb3))
      have hz3 : w.heap.size < w3.heap.size := blk_lt HZ3.out
      have z0 : w3.cell? ⟨w.heap.size, 0, none⟩ = some (.int .u64 0) := by rw [cell_of_row _ w.heap.size 0 _ _ _ HZ3.out]; rfl
      have y0 : w3.frozen? ⟨w.heap.size, 0, none⟩ = false := by simp only [World.frozen?, HZ3.out]; rfl
      have z1 : w3.cell? ⟨w.heap.size, 1, none⟩ = some (.int .u64 0) := by rw [cell_of_row _ w.heap.size 1 _ _ _ HZ3.out]; rfl
      have y1 : w3.frozen? ⟨w.heap.size, 1, none⟩ = false := by simp only [World.frozen?, HZ3.out]; rfl
      have z2 : w3.cell? ⟨w.heap.size, 2, none⟩ = some (.string ⟨#[]⟩) := by rw [cell_of_row _ w.heap.size 2 _ _ _ HZ3.out]; rfl
      have y2 : w3.frozen? ⟨w.heap.size, 2, none⟩ = false := by simp only [World.frozen?, HZ3.out]; rfl
      have z3 : w3.cell? ⟨w.heap.size, 3, none⟩ = some (.string ⟨#[]⟩) := by rw [cell_of_row _ w.heap.size 3 _ _ _ HZ3.out]; rfl
      have y3 : w3.frozen? ⟨w.heap.size, 3, none⟩ = false := by simp only [World.frozen?, HZ3.out]; rfl
      have z4 : w3.cell? ⟨w.heap.size, 4, none⟩ = some (.string ⟨#[]⟩) := by rw [cell_of_row _ w.heap.size 4 _ _ _ HZ3.out]; rfl
      have y4 : w3.frozen? ⟨w.heap.size, 4, none⟩ = false := by simp only [World.frozen?, HZ3.out]; rfl
      clear hb2 hi2 cR2 hb3 cR
      go_wp2_with fail
      exact bodyPost_ret (v := .tuple #[hdA 0 0 ⟨#[]⟩ ⟨#[]⟩ ⟨#[]⟩, .bool false]) (results_cell_row2 Tryz.results33 _ _ w.heap.size _ _ _ _ rfl ((Below.heap_alloc _ _ _ (by simp only [World.setCell]; simp; exact hz3)).trans (set5 HZ3.out)) Tryz.underlying26 rfl Tryz.szHdr) rfl ⟨by rw [HRS.out], gb_trR (gb_new (gb_new (gb_new (gb_new (gb_new HG3.out (Nat.le_refl _) _) (Nat.le_refl _) _) (Nat.le_refl _) _) (Nat.le_refl _) _) (Nat.le_refl _) _) (gb_any (gb_bel (bel1 _ _)))⟩
  | true =>
    have hl := header_len hty
    have HRS : Hid (hdR vs = .tuple #[hdA vs[1].n vs[2].n vs[3].s vs[4].s vs[5].s, .bool true]) := by show _ = _; unfold hdR; rw [hty, itN_at (by omega), itN_at (by omega), itS_at (by omega), itS_at (by omega), itS_at (by omega)]; rfl
    have HHR : Hid (∀ w3, RdR R b o C vs 0 w3 → Calls Tryz.prog 34 #[.pointer (some ⟨R, 0, none⟩)] w3 fun e w' => e = .returned (hdA vs[1].n vs[2].n vs[3].s vs[4].s vs[5].s) ∧ w3.grownBy w' (some R)) := fun w3 h => headerR_any R b o C vs w3 h hl
    obtain ⟨x1, h1⟩ : ∃ x, vs[1].n = x := ⟨_, rfl⟩
    obtain ⟨x2, h2⟩ : ∃ x, vs[2].n = x := ⟨_, rfl⟩
    obtain ⟨x3, h3⟩ : ∃ x, vs[3].s = x := ⟨_, rfl⟩
    obtain ⟨x4, h4⟩ : ∃ x, vs[4].s = x := ⟨_, rfl⟩
    obtain ⟨x5, h5⟩ : ∃ x, vs[5].s = x := ⟨_, rfl⟩
    rw [h1, h2, h3, h4, h5] at HHR HRS
    rw [hty] at HT
    unfold hdA at HHR
    clear hty h1 h2 h3 h4 h5 hl
    go_region_with (first | (go_at_call 57; refine (HM.out _ (by repeat (first | exact Below.refl _ _ | (refine Below.drew ?_)))).mono ?_; rintro e w2 ⟨v2, rfl, hi2, hb2, cR2⟩) | (go_at_call 56; refine (HT.out _ _ _ hb2 hi2 (by repeat (first | exact Below.refl _ _ | (refine Below.drew ?_)))).mono ?_; rintro e w3 ⟨rfl, hb3⟩))
    all_goals
      have HR3 : Hid (RdR R b o C vs 0 w3) := HR.out.grown (gb_bel hb3)
      have HZ3 : Hid (w3.heap[w.heap.size]? = some (.cells #[.int .u64 0, .int .u64 0, .string ⟨#[]⟩, .string ⟨#[]⟩, .string ⟨#[]⟩] 26 (0, 0))) := (hb3.block w.heap.size hZs).trans HZ.out
      have HG3 : Hid (w.grownBy w3 (some R)) := gb_trR HG.out (gb_any (gb_bel hb3))
      have hz3 : w.heap.size < w3.heap.size := blk_lt HZ3.out
      clear hb2 hi2 cR2 hb3 cR
      go_wp2_with fail
      refine (HHR.out _ HR3.out).mono ?_
      rintro e w4 ⟨rfl, hg4⟩
      have HZ4 : Hid (w4.heap[w.heap.size]? = some (.cells #[.int .u64 0, .int .u64 0, .string ⟨#[]⟩, .string ⟨#[]⟩, .string ⟨#[]⟩] 26 (0, 0))) := (hg4.block w.heap.size hz3 (by simp; omega)).trans HZ3.out
      have HG4 : Hid (w.grownBy w4 (some R)) := gb_trR HG3.out hg4
      have z0 : w4.cell? ⟨w.heap.size, 0, none⟩ = some (.int .u64 0) := by rw [cell_of_row _ w.heap.size 0 _ _ _ HZ4.out]; rfl
      have y0 : w4.frozen? ⟨w.heap.size, 0, none⟩ = false := by simp only [World.frozen?, HZ4.out]; rfl
      have z1 : w4.cell? ⟨w.heap.size, 1, none⟩ = some (.int .u64 0) := by rw [cell_of_row _ w.heap.size 1 _ _ _ HZ4.out]; rfl
      have y1 : w4.frozen? ⟨w.heap.size, 1, none⟩ = false := by simp only [World.frozen?, HZ4.out]; rfl
      have z2 : w4.cell? ⟨w.heap.size, 2, none⟩ = some (.string ⟨#[]⟩) := by rw [cell_of_row _ w.heap.size 2 _ _ _ HZ4.out]; rfl
      have y2 : w4.frozen? ⟨w.heap.size, 2, none⟩ = false := by simp only [World.frozen?, HZ4.out]; rfl
      have z3 : w4.cell? ⟨w.heap.size, 3, none⟩ = some (.string ⟨#[]⟩) := by rw [cell_of_row _ w.heap.size 3 _ _ _ HZ4.out]; rfl
      have y3 : w4.frozen? ⟨w.heap.size, 3, none⟩ = false := by simp only [World.frozen?, HZ4.out]; rfl
      have z4 : w4.cell? ⟨w.heap.size, 4, none⟩ = some (.string ⟨#[]⟩) := by rw [cell_of_row _ w.heap.size 4 _ _ _ HZ4.out]; rfl
      have y4 : w4.frozen? ⟨w.heap.size, 4, none⟩ = false := by simp only [World.frozen?, HZ4.out]; rfl
      clear hg4
      go_wp2_with fail
      exact bodyPost_ret (v := .tuple #[hdA x1 x2 x3 x4 x5, .bool true]) (results_cell_row2 Tryz.results33 _ _ w.heap.size _ _ _ _ rfl (set5 HZ4.out) Tryz.underlying26 rfl Tryz.szHdr) rfl ⟨by rw [HRS.out], gb_new (gb_new (gb_new (gb_new (gb_new HG4.out (Nat.le_refl _) _) (Nat.le_refl _) _) (Nat.le_refl _) _) (Nat.le_refl _) _) (Nat.le_refl _) _⟩
end Go.Proofs.YtelbmcgpelkakaaGreatDoor
