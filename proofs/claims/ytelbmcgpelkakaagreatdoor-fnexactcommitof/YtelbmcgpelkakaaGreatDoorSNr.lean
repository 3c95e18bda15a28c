/- A proof of items: contract. -/
import Derived.Test.YtelbmcgpelkakaaGreatDoorSNd
import Derived.Test.YtelbmcgpelkakaaGreatDoorSNq
namespace Go.Proofs.YtelbmcgpelkakaaGreatDoor
open Go.RowKit Go.Sort
set_option linter.unusedVariables false
/-- What a reading of a proof answers. -/
def PrE (vs : List It) (base : Nat) (w' : World) (e : Ending) : Prop := if typedB (msgS 4) vs = true then ∃ ad cp, e = .returned (.tuple #[.agg #[.int .u64 (itN vs 1), .int .u64 (itN vs 2), .string (itS vs 3), .slice ad (itN vs 4) cp], .bool true]) ∧ w'.ownsRow base 9 1 (.slice ad (itN vs 4) cp) (itN vs 4) (strv (txS vs 5 (itN vs 4))) else e = .returned (.tuple #[.agg #[.int .u64 0, .int .u64 0, .string ⟨#[]⟩, .slice none 0 0], .bool false])
set_option maxRecDepth 100000 in
set_option maxHeartbeats 4000000 in
theorem toldProof_any (R b o C : Nat) (vs : List It) (w : World) (h : RdR R b o C vs 0 w) (hw : EV w) : Calls Tryz.prog 47 #[.pointer (some ⟨R, 0, none⟩), .int .i64 4, .func (.func 48) #[.pointer (some ⟨R, 0, none⟩)] #[]] w fun e w' => PrE vs w.heap.size w' e ∧ w.grownBy w' (some R) := by
  obtain ⟨v, hv, hf⟩ := h.cell
  have hR : R < w.heap.size := blk_lt hv
  obtain ⟨Z, hZ⟩ : ∃ Z : Obj, .cells #[.int .u64 0, .int .u64 0, .string ⟨#[]⟩, .slice none 0 0] 51 = Z := ⟨_, rfl⟩
  have hb0 : Below w.heap.size w (w.alloc Z) := bel1 _ _
  have h0 : RdR R b o C vs 0 (w.alloc Z) := h.grown (gb_bel hb0)
  have HR : Hid (RdR R b o C vs 0 (w.alloc Z)) := h0
  have HG : Hid (w.grownBy (w.alloc Z) (some R)) := gb_any (gb_bel hb0)
  have HZ : Hid ((w.alloc Z).heap[w.heap.size]? = some Z) := heap_alloc_new w Z
  have HE : Hid (EV (w.alloc Z)) := hw.below hb0
  have hZs : w.heap.size < (w.alloc Z).heap.size := by simp
  obtain ⟨ad, hv1, hv2⟩ := hf
  subst hv1
  simp only [Nat.sub_zero] at hv hv2
  have HI : Hid (IsItems (w.alloc Z).heap.size (w.alloc Z) (.slice ad vs.length C) vs) := ⟨b, o, C, h0.its.up (by simp; omega), ad, by simp, by simpa using hv2⟩
  have cR : (w.alloc Z).cell? ⟨R, 0, none⟩ = some (.slice ad vs.length C) := by rw [hb0.cell (p := ⟨R, 0, none⟩) hR, cell_of_row w R 0 _ _ _ hv]; rfl
  subst hZ
  clear h hw hv hv2 hb0 h0
  go_enter Tryz.func47, Tryz.ntmps47
  go_wp2_with fail
  obtain ⟨W, hW⟩ : ∃ W, w.alloc (.cells #[.int .u64 0, .int .u64 0, .string ⟨#[]⟩, .slice none 0 0] 51) = W := ⟨_, rfl⟩
  rw [hW] at HR HG HZ HE HI hZs cR
  rw [hW]
  clear hW
  have HM : Hid (∀ w', Below W.heap.size W w' → Calls Tryz.prog 57 #[.int .i64 4] w' fun e w'' => ∃ v2, e = .returned v2 ∧ IsTyps w''.heap.size w'' v2 (msgS 4) ∧ Below W.heap.size W w'' ∧ w''.cell? ⟨R, 0, none⟩ = some (.slice ad vs.length C)) := fun w' hb => (implMsgSchema_any 4 w' (HE.out.below hb)).mono (by
    rintro e w'' ⟨⟨v2, rfl, _, hi⟩, hb'⟩
    have hB : Below W.heap.size W w'' := hb.trans (hb'.mono hb.size)
    exact ⟨v2, rfl, hi, hB, by rw [hB.cell (p := ⟨R, 0, none⟩) (by simp; omega)]; exact cR⟩)
  have HT : Hid (∀ (w2 w' : World) (v2 : Value), Below W.heap.size W w2 → IsTyps w2.heap.size w2 v2 (msgS 4) → Below w2.heap.size w2 w' → Calls Tryz.prog 56 #[v2, .slice ad vs.length C] w' fun e w'' => e = .returned (.bool (typedB (msgS 4) vs)) ∧ Below W.heap.size W w'') := fun w2 w' v2 hb hi hb' => by
    have hB : Below W.heap.size W w' := hb.trans (hb'.mono hb.size)
    refine (implTyped_any (msgS 4) vs v2 _ w' ((hi.below hb').up hb'.size) ((HI.out.below hB).upB hB.size) (HE.out.below hB).kin).mono ?_
    rintro e w'' ⟨rfl, hb2⟩
    exact ⟨rfl, hB.trans (hb2.mono hB.size)⟩
  cases hty : typedB (msgS 4) vs with
  | false =>
    have HRS : Hid (∀ base w', PrE vs base w' (.returned (.tuple #[.agg #[.int .u64 0, .int .u64 0, .string ⟨#[]⟩, .slice none 0 0], .bool false]))) := fun base w' => by unfold PrE; rw [hty]; rfl
    rw [hty] at HT
    clear hty
    go_region_with (first | (go_at_call 57; refine (HM.out _ (by repeat (first | exact Below.refl _ _ | (refine Below.drew ?_)))).mono ?_; rintro e w2 ⟨v2, rfl, hi2, hb2, cR2⟩) | (go_at_call 56; refine (HT.out _ _ _ hb2 hi2 (by repeat (first | exact Below.refl _ _ | (refine Below.drew ?_)))).mono ?_; rintro e w3 ⟨rfl, hb3⟩))
    all_goals
      have HZ3 : Hid (w3.heap[w.heap.size]? = some (.cells #[.int .u64 0, .int .u64 0, .string ⟨#[]⟩, .slice none 0 0] 51 (0, 0))) := (hb3.block w.heap.size hZs).trans HZ.out
      have HG3 : Hid (w.grownBy w3 (some R)) := gb_trR HG.out (gb_any (gb_bel hb3))
      have hz3 : w.heap.size < w3.heap.size := blk_lt HZ3.out
      have z0 : w3.cell? ⟨w.heap.size, 0, none⟩ = some (.int .u64 0) := by rw [cell_of_row _ w.heap.size 0 _ _ _ HZ3.out]; rfl
      have y0 : w3.frozen? ⟨w.heap.size, 0, none⟩ = false := by simp only [World.frozen?, HZ3.out]; rfl
      have z1 : w3.cell? ⟨w.heap.size, 1, none⟩ = some (.int .u64 0) := by rw [cell_of_row _ w.heap.size 1 _ _ _ HZ3.out]; rfl
      have y1 : w3.frozen? ⟨w.heap.size, 1, none⟩ = false := by simp only [World.frozen?, HZ3.out]; rfl
      have z2 : w3.cell? ⟨w.heap.size, 2, none⟩ = some (.string ⟨#[]⟩) := by rw [cell_of_row _ w.heap.size 2 _ _ _ HZ3.out]; rfl
      have y2 : w3.frozen? ⟨w.heap.size, 2, none⟩ = false := by simp only [World.frozen?, HZ3.out]; rfl
      have z3 : w3.cell? ⟨w.heap.size, 3, none⟩ = some (.slice none 0 0) := by rw [cell_of_row _ w.heap.size 3 _ _ _ HZ3.out]; rfl
      have y3 : w3.frozen? ⟨w.heap.size, 3, none⟩ = false := by simp only [World.frozen?, HZ3.out]; rfl
      clear hb2 hi2 cR2 hb3 cR
      go_wp2_with fail
      exact bodyPost_ret (v := .tuple #[.agg #[.int .u64 0, .int .u64 0, .string ⟨#[]⟩, .slice none 0 0], .bool false]) (results_cell_row2 Tryz.results47 _ _ w.heap.size _ _ _ _ rfl ((Below.heap_alloc _ _ _ (by simp only [World.setCell]; simp; exact hz3)).trans (set4 HZ3.out)) Tryz.underlying51 rfl Tryz.szPrf) rfl ⟨HRS.out _ _, gb_trR (gb_new (gb_new (gb_new (gb_new HG3.out (Nat.le_refl _) _) (Nat.le_refl _) _) (Nat.le_refl _) _) (Nat.le_refl _) _) (gb_any (gb_bel (bel1 _ _)))⟩
  | true =>
    obtain ⟨h5, hm16, hl⟩ := proof_len hty
    obtain ⟨m, hm⟩ : ∃ m, vs[4].n = m := ⟨_, rfl⟩
    rw [hm] at hm16 hl
    obtain ⟨x1, h1⟩ : ∃ x, vs[1].n = x := ⟨_, rfl⟩
    obtain ⟨x2, h2⟩ : ∃ x, vs[2].n = x := ⟨_, rfl⟩
    obtain ⟨x3, h3⟩ : ∃ x, vs[3].s = x := ⟨_, rfl⟩
    have HRS : Hid (∀ base w' ad cp, w'.ownsRow base 9 1 (.slice ad m cp) m (strv (txS vs 5 m)) → PrE vs base w' (.returned (.tuple #[.agg #[.int .u64 x1, .int .u64 x2, .string x3, .slice ad m cp], .bool true]))) := fun base w' ad cp ho => by
      unfold PrE
      rw [hty]
      have e4 : itN vs 4 = m := by rw [itN_at h5, hm]
      rw [e4]
      exact ⟨ad, cp, by rw [itN_at (by omega), itN_at (by omega), itS_at (by omega), h1, h2, h3], ho⟩
    have HHR : Hid (∀ w3, RdR R b o C vs 0 w3 → Calls Tryz.prog 48 #[.pointer (some ⟨R, 0, none⟩)] w3 fun e w' => (∃ ad cp, e = .returned (.agg #[.int .u64 x1, .int .u64 x2, .string x3, .slice ad m cp]) ∧ w'.ownsRow w3.heap.size 9 1 (.slice ad m cp) m (strv (txS vs 5 m))) ∧ w3.grownBy w' (some R)) := fun w3 h => by have := proofR_any R b o C m vs w3 h h5 hm hm16 hl; rw [h1, h2, h3] at this; exact this
    rw [hty] at HT
    clear hty h1 h2 h3 hl hm hm16 h5
    go_region_with (first | (go_at_call 57; refine (HM.out _ (by repeat (first | exact Below.refl _ _ | (refine Below.drew ?_)))).mono ?_; rintro e w2 ⟨v2, rfl, hi2, hb2, cR2⟩) | (go_at_call 56; refine (HT.out _ _ _ hb2 hi2 (by repeat (first | exact Below.refl _ _ | (refine Below.drew ?_)))).mono ?_; rintro e w3 ⟨rfl, hb3⟩))
    all_goals
      have HR3 : Hid (RdR R b o C vs 0 w3) := HR.out.grown (gb_bel hb3)
      have HZ3 : Hid (w3.heap[w.heap.size]? = some (.cells #[.int .u64 0, .int .u64 0, .string ⟨#[]⟩, .slice none 0 0] 51 (0, 0))) := (hb3.block w.heap.size hZs).trans HZ.out
      have HG3 : Hid (w.grownBy w3 (some R)) := gb_trR HG.out (gb_any (gb_bel hb3))
      have hz3 : w.heap.size < w3.heap.size := blk_lt HZ3.out
      clear hb2 hi2 cR2 hb3 cR
      go_wp2_with fail
      refine (HHR.out _ HR3.out).mono ?_
      rintro e w4 ⟨⟨ad4, cp4, rfl, ho4⟩, hg4⟩
      have HO4 : Hid (w4.ownsRow w3.heap.size 9 1 (.slice ad4 m cp4) m (strv (txS vs 5 m))) := ho4
      have HZ4 : Hid (w4.heap[w.heap.size]? = some (.cells #[.int .u64 0, .int .u64 0, .string ⟨#[]⟩, .slice none 0 0] 51 (0, 0))) := (hg4.block w.heap.size hz3 (by simp; omega)).trans HZ3.out
      have HG4 : Hid (w.grownBy w4 (some R)) := gb_trR HG3.out hg4
      have z0 : w4.cell? ⟨w.heap.size, 0, none⟩ = some (.int .u64 0) := by rw [cell_of_row _ w.heap.size 0 _ _ _ HZ4.out]; rfl
      have y0 : w4.frozen? ⟨w.heap.size, 0, none⟩ = false := by simp only [World.frozen?, HZ4.out]; rfl
      have z1 : w4.cell? ⟨w.heap.size, 1, none⟩ = some (.int .u64 0) := by rw [cell_of_row _ w.heap.size 1 _ _ _ HZ4.out]; rfl
      have y1 : w4.frozen? ⟨w.heap.size, 1, none⟩ = false := by simp only [World.frozen?, HZ4.out]; rfl
      have z2 : w4.cell? ⟨w.heap.size, 2, none⟩ = some (.string ⟨#[]⟩) := by rw [cell_of_row _ w.heap.size 2 _ _ _ HZ4.out]; rfl
      have y2 : w4.frozen? ⟨w.heap.size, 2, none⟩ = false := by simp only [World.frozen?, HZ4.out]; rfl
      have z3 : w4.cell? ⟨w.heap.size, 3, none⟩ = some (.slice none 0 0) := by rw [cell_of_row _ w.heap.size 3 _ _ _ HZ4.out]; rfl
      have y3 : w4.frozen? ⟨w.heap.size, 3, none⟩ = false := by simp only [World.frozen?, HZ4.out]; rfl
      clear hg4 ho4
      go_wp2_with fail
      exact bodyPost_ret (v := .tuple #[.agg #[.int .u64 x1, .int .u64 x2, .string x3, .slice ad4 m cp4], .bool true]) (results_cell_row2 Tryz.results47 _ _ w.heap.size _ _ _ _ rfl (set4 HZ4.out) Tryz.underlying51 rfl Tryz.szPrf) rfl ⟨HRS.out _ _ _ _ (own_down (ownsRow_setCell_below (ownsRow_setCell_below (ownsRow_setCell_below (ownsRow_setCell_below HO4.out (a := ⟨w.heap.size, 0, none⟩) hz3 _) (a := ⟨w.heap.size, 1, none⟩) hz3 _) (a := ⟨w.heap.size, 2, none⟩) hz3 _) (a := ⟨w.heap.size, 3, none⟩) hz3 _) (Nat.le_of_lt hz3)), gb_new (gb_new (gb_new (gb_new HG4.out (Nat.le_refl _) _) (Nat.le_refl _) _) (Nat.le_refl _) _) (Nat.le_refl _) _⟩
end Go.Proofs.YtelbmcgpelkakaaGreatDoor
