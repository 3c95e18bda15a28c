/- A header of items, both sides: contracts. -/
import Derived.Test.YtelbmcgpelkakaaGreatDoorSNd
namespace Go.Proofs.YtelbmcgpelkakaaGreatDoor
open Go.RowKit Go.Sort
set_option linter.unusedVariables false
theorem bel_gb {w w' : World} {R B : Nat} (h : w.grownBy w' (some R)) (hB : B ≤ R) (hs : B ≤ w.heap.size) : Below B w w' := by
  refine ⟨?_, ?_, ?_, ?_, ?_⟩ <;> first | exact h.os | exact h.tape | exact h.output | exact h.size | skip
  · intro k hk
    exact h.block k (by omega) (by intro e; cases e; omega)
set_option maxRecDepth 100000 in
set_option maxHeartbeats 2000000 in
theorem implHeaderOf_any (vs : List It) (v : Value) (w : World) (hv : IsItems w.heap.size w v vs) (hw : EV w) : Calls Tryz.prog 10 #[v] w fun e w' => e = .returned (hdR vs) ∧ Below w.heap.size w w' := by
  obtain ⟨b, o, C, hi, ad, rfl, had⟩ := hv
  simp only [Nat.sub_zero] at had ⊢
  obtain ⟨Z, hZ⟩ : ∃ Z : Obj, .cells #[.int .u64 0, .int .u64 0, .string ⟨#[]⟩, .string ⟨#[]⟩, .string ⟨#[]⟩] 26 = Z := ⟨_, rfl⟩
  have hb0 : Below w.heap.size w ((w.alloc Z).alloc (.cells #[.slice ad vs.length C] 65)) := ((Below.refl _ _).alloc (Nat.le_refl _) _).alloc (by simp) _
  have HB0 : Hid (Below w.heap.size w ((w.alloc Z).alloc (.cells #[.slice ad vs.length C] 65))) := hb0
  have HZ : Hid (((w.alloc Z).alloc (.cells #[.slice ad vs.length C] 65)).heap[w.heap.size]? = some Z) := by show _ = _; rw [Below.heap_alloc _ _ _ (by simp)]; exact heap_alloc_new w Z
  have HR : Hid (RdR (w.heap.size + 1) b o C vs 0 ((w.alloc Z).alloc (.cells #[.slice ad vs.length C] 65))) := ⟨⟨.slice ad vs.length C, heap_alloc2_new w _ _, ad, by simp, by simpa using had⟩, (hi.below hb0).up (by omega)⟩
  have HE : Hid (EV ((w.alloc Z).alloc (.cells #[.slice ad vs.length C] 65))) := hw.below hb0
  subst hZ
  have hsz : ((w.alloc (.cells #[.int .u64 0, .int .u64 0, .string ⟨#[]⟩, .string ⟨#[]⟩, .string ⟨#[]⟩] 26)).alloc (.cells #[.slice ad vs.length C] 65)).heap.size = w.heap.size + 2 := by simp
  have HSZ : Hid (((w.alloc (.cells #[.int .u64 0, .int .u64 0, .string ⟨#[]⟩, .string ⟨#[]⟩, .string ⟨#[]⟩] 26)).alloc (.cells #[.slice ad vs.length C] 65)).heap.size = w.heap.size + 2) := hsz
  have HTD : Hid (Calls Tryz.prog 33 #[.pointer (some ⟨w.heap.size + 1, 0, none⟩), .int .i64 1, .func (.func 34) #[.pointer (some ⟨w.heap.size + 1, 0, none⟩)] #[]] ((w.alloc (.cells #[.int .u64 0, .int .u64 0, .string ⟨#[]⟩, .string ⟨#[]⟩, .string ⟨#[]⟩] 26)).alloc (.cells #[.slice ad vs.length C] 65)) fun e w' => (∃ (a c : Nat) (d f g : ByteArray) (q : Bool), e = .returned (.tuple #[.agg #[.int .u64 a, .int .u64 c, .string d, .string f, .string g], .bool q]) ∧ hdR vs = .tuple #[hdA a c d f g, .bool q]) ∧ ((w.alloc (.cells #[.int .u64 0, .int .u64 0, .string ⟨#[]⟩, .string ⟨#[]⟩, .string ⟨#[]⟩] 26)).alloc (.cells #[.slice ad vs.length C] 65)).grownBy w' (some (w.heap.size + 1))) := by
    refine (toldHeader_any _ b o C vs _ HR.out HE.out).mono ?_
    rintro e w' ⟨rfl, hg⟩
    refine ⟨?_, hg⟩
    unfold hdR
    split
    · exact ⟨_, _, _, _, _, _, rfl, rfl⟩
    · exact ⟨_, _, _, _, _, _, rfl, rfl⟩
  clear hb0 hw hi had hsz
  go_enter Tryz.func10, Tryz.ntmps10
  go_wp2_with fail
  refine Calls.mono HTD.out ?_
  rintro e w3 ⟨⟨a, c, d, f, g, q, rfl, hq⟩, hg⟩
  have HQ : Hid (hdR vs = .tuple #[hdA a c d f g, .bool q]) := hq
  have HZ3 : Hid (w3.heap[w.heap.size]? = some (.cells #[.int .u64 0, .int .u64 0, .string ⟨#[]⟩, .string ⟨#[]⟩, .string ⟨#[]⟩] 26 (0, 0))) := (hg.block w.heap.size (by rw [HSZ.out]; omega) (by simp)).trans HZ.out
  have HB3 : Hid (Below w.heap.size w w3) := HB0.out.trans (bel_gb hg (by omega) (by rw [HSZ.out]; omega))
  have z0 : w3.cell? ⟨w.heap.size, 0, none⟩ = some (.int .u64 0) := by rw [cell_of_row _ w.heap.size 0 _ _ _ HZ3.out]; rfl
  have y0 : w3.frozen? ⟨w.heap.size, 0, none⟩ = false := by simp only [World.frozen?, HZ3.out]; rfl
  have z1 : w3.cell? ⟨w.heap.size, 1, none⟩ = some (.int .u64 0) := by rw [cell_of_row _ w.heap.size 1 _ _ _ HZ3.out]; rfl
  have y1 : w3.frozen? ⟨w.heap.size, 1, none⟩ = false := by simp only [World.frozen?, HZ3.out]; rfl
  have z2 : w3.cell? ⟨w.heap.size, 2, none⟩ = some (.string ⟨#[]⟩) := by rw [cell_of_row _ w.heap.size 2 _ _ _ HZ3.out]; rfl
  have y2 : w3.frozen? ⟨w.heap.size, 2, none⟩ = false := by simp only [World.frozen?, HZ3.out]; rfl
  have z3 : w3.cell? ⟨w.heap.size, 3, none⟩ = some (.string ⟨#[]⟩) := by rw [cell_of_row _ w.heap.size 3 _ _ _ HZ3.out]; rfl
  have y3 : w3.frozen? ⟨w.heap.size, 3, none⟩ = false := by simp only [World.frozen?, HZ3.out]; rfl
  have z4 : w3.cell? ⟨w.heap.size, 4, none⟩ = some (.string ⟨#[]⟩) := by rw [cell_of_row _ w.heap.size 4 _ _ _ HZ3.out]; rfl
  have y4 : w3.frozen? ⟨w.heap.size, 4, none⟩ = false := by simp only [World.frozen?, HZ3.out]; rfl
  clear hg hq
  go_wp2_with fail
  exact bodyPost_ret (v := .tuple #[hdA a c d f g, .bool q]) (results_cell_row2 Tryz.results10 _ _ w.heap.size _ _ _ _ rfl (set5 HZ3.out) Tryz.underlying26 rfl Tryz.szHdr) rfl ⟨by rw [HQ.out], ((((HB3.out.setCell (p := ⟨w.heap.size, 0, none⟩) (Nat.le_refl _) _).setCell (p := ⟨w.heap.size, 1, none⟩) (Nat.le_refl _) _).setCell (p := ⟨w.heap.size, 2, none⟩) (Nat.le_refl _) _).setCell (p := ⟨w.heap.size, 3, none⟩) (Nat.le_refl _) _).setCell (p := ⟨w.heap.size, 4, none⟩) (Nat.le_refl _) _⟩
set_option maxRecDepth 100000 in
set_option maxHeartbeats 4000000 in
theorem specHeaderOf_any (vs : List It) (v : Value) (w : World) (hv : IsItems w.heap.size w v vs) : Calls Tryz.prog 8 #[v] w fun e w' => e = .returned (hdR vs) ∧ Below w.heap.size w w' := by
  have HV : Hid (IsItems w.heap.size w v vs) := hv
  obtain ⟨b, o, C, hi, ad, rfl, had⟩ := hv
  simp only [Nat.sub_zero] at had HV ⊢
  obtain ⟨Z, hZ⟩ : ∃ Z : Obj, .cells #[.int .u64 0, .int .u64 0, .string ⟨#[]⟩, .string ⟨#[]⟩, .string ⟨#[]⟩] 26 = Z := ⟨_, rfl⟩
  have HB0 : Hid (Below w.heap.size w (w.alloc Z)) := bel1 _ _
  have HZ : Hid ((w.alloc Z).heap[w.heap.size]? = some Z) := heap_alloc_new w Z
  have hZs : w.heap.size < (w.alloc Z).heap.size := by simp
  subst hZ
  have hroom := hi.room
  have hmost := hi.most
  unfold maxLen at hmost
  have HIA : Hid (ItemsAt w.heap.size w b o C vs) := hi
  have HAD : Hid (vs.length ≤ 0 ∨ ad = some ⟨b, o + 0 * 3, none⟩) := had
  clear hi had
  go_enter Tryz.func8, Tryz.ntmps8
  go_wp2_with fail
  refine (specMsgSchema_any 1 _).mono ?_
  rintro e w2 ⟨⟨v2, rfl, _, hi2⟩, hb2⟩
  have HB2 : Hid (Below w.heap.size w w2) := HB0.out.trans (hb2.mono (by omega))
  have HI2 : Hid (IsTyps w2.heap.size w2 v2 (msgS 1)) := hi2
  have HZ2 : Hid (w2.heap[w.heap.size]? = some (.cells #[.int .u64 0, .int .u64 0, .string ⟨#[]⟩, .string ⟨#[]⟩, .string ⟨#[]⟩] 26 (0, 0))) := (hb2.block w.heap.size hZs).trans HZ.out
  clear hb2 hi2
  go_wp2_with fail
  refine (specTyped_any (msgS 1) vs v2 _ w2 HI2.out ((HV.out.below HB2.out).upB HB2.out.size)).mono ?_
  rintro e w3 ⟨rfl, hb3⟩
  have HB3 : Hid (Below w.heap.size w w3) := HB2.out.trans (hb3.mono HB2.out.size)
  have HZ3 : Hid (w3.heap[w.heap.size]? = some (.cells #[.int .u64 0, .int .u64 0, .string ⟨#[]⟩, .string ⟨#[]⟩, .string ⟨#[]⟩] 26 (0, 0))) := (hb3.block w.heap.size (blk_lt HZ2.out)).trans HZ2.out
  have hz3 : w.heap.size < w3.heap.size := blk_lt HZ3.out
  have z0 : w3.cell? ⟨w.heap.size, 0, none⟩ = some (.int .u64 0) := by rw [cell_of_row _ w.heap.size 0 _ _ _ HZ3.out]; rfl
  have y0 : w3.frozen? ⟨w.heap.size, 0, none⟩ = false := by simp only [World.frozen?, HZ3.out]; rfl
  have z1 : w3.cell? ⟨w.heap.size, 1, none⟩ = some (.int .u64 0) := by rw [cell_of_row _ w.heap.size 1 _ _ _ HZ3.out]; rfl
  have y1 : w3.frozen? ⟨w.heap.size, 1, none⟩ = false := by simp only [World.frozen?, HZ3.out]; rfl
  have z2 : w3.cell? ⟨w.heap.size, 2, none⟩ = some (.string ⟨#[]⟩) := by rw [cell_of_row _ w.heap.size 2 _ _ _ HZ3.out]; rfl
  have y2 : w3.frozen? ⟨w.heap.size, 2, none⟩ = false := by simp only [World.frozen?, HZ3.out]; rfl
  have z3 : w3.cell? ⟨w.heap.size, 3, none⟩ = some (.string ⟨#[]⟩) := by rw [cell_of_row _ w.heap.size 3 _ _ _ HZ3.out]; rfl
  have y3 : w3.frozen? ⟨w.heap.size, 3, none⟩ = false := by simp only [World.frozen?, HZ3.out]; rfl
  have z4 : w3.cell? ⟨w.heap.size, 4, none⟩ = some (.string ⟨#[]⟩) := by rw [cell_of_row _ w.heap.size 4 _ _ _ HZ3.out]; rfl
  have y4 : w3.frozen? ⟨w.heap.size, 4, none⟩ = false := by simp only [World.frozen?, HZ3.out]; rfl
  clear hb3
  cases hty : typedB (msgS 1) vs with
  | false =>
    have HRS : Hid (hdR vs = .tuple #[hdA 0 0 ⟨#[]⟩ ⟨#[]⟩ ⟨#[]⟩, .bool false]) := by show _ = _; unfold hdR; rw [hty]; rfl
    clear hty
    go_wp2_with fail
    exact bodyPost_ret (v := .tuple #[hdA 0 0 ⟨#[]⟩ ⟨#[]⟩ ⟨#[]⟩, .bool false]) (results_cell_row2 Tryz.results8 _ _ w.heap.size _ _ _ _ rfl (set5 HZ3.out) Tryz.underlying26 rfl Tryz.szHdr) rfl ⟨by rw [HRS.out], ((((HB3.out.setCell (p := ⟨w.heap.size, 0, none⟩) (Nat.le_refl _) _).setCell (p := ⟨w.heap.size, 1, none⟩) (Nat.le_refl _) _).setCell (p := ⟨w.heap.size, 2, none⟩) (Nat.le_refl _) _).setCell (p := ⟨w.heap.size, 3, none⟩) (Nat.le_refl _) _).setCell (p := ⟨w.heap.size, 4, none⟩) (Nat.le_refl _) _⟩
  | true =>
    have hl := header_len hty
    have HRS : Hid (hdR vs = .tuple #[hdA vs[1].n vs[2].n vs[3].s vs[4].s vs[5].s, .bool true]) := by show _ = _; unfold hdR; rw [hty, itN_at (by omega), itN_at (by omega), itS_at (by omega), itS_at (by omega), itS_at (by omega)]; rfl
    have had := HAD.out.resolve_left (by omega)
    simp only [Nat.zero_mul, Nat.add_zero] at had
    subst had
    have hi3 := HIA.out.below HB3.out
    have hbw : b < w3.heap.size := by have := hi3.low.resolve_left (by omega); omega
    have p1 := (hi3.cells 1 (by omega)).2.1
    have p2 := (hi3.cells 2 (by omega)).2.1
    have p3 := (hi3.cells 3 (by omega)).2.2
    have p4 := (hi3.cells 4 (by omega)).2.2
    have p5 := (hi3.cells 5 (by omega)).2.2
    obtain ⟨x1, h1⟩ : ∃ x, vs[1].n = x := ⟨_, rfl⟩
    obtain ⟨x2, h2⟩ : ∃ x, vs[2].n = x := ⟨_, rfl⟩
    obtain ⟨x3, h3⟩ : ∃ x, vs[3].s = x := ⟨_, rfl⟩
    obtain ⟨x4, h4⟩ : ∃ x, vs[4].s = x := ⟨_, rfl⟩
    obtain ⟨x5, h5⟩ : ∃ x, vs[5].s = x := ⟨_, rfl⟩
    rw [h1, h2, h3, h4, h5] at HRS
    rw [h1] at p1
    rw [h2] at p2
    rw [h3] at p3
    rw [h4] at p4
    rw [h5] at p5
    have hl6 : 6 ≤ vs.length := by omega
    clear hty h1 h2 h3 h4 h5 hl hi3
    go_wp2_with fail
    go_region
    go_wp2_with fail
    exact bodyPost_ret (v := .tuple #[hdA x1 x2 x3 x4 x5, .bool true]) (results_cell_row2 Tryz.results8 _ _ w.heap.size _ _ _ _ rfl (set5 HZ3.out) Tryz.underlying26 rfl Tryz.szHdr) rfl ⟨by rw [HRS.out], Below.drew (((((HB3.out.setCell (p := ⟨w.heap.size, 0, none⟩) (Nat.le_refl _) _).setCell (p := ⟨w.heap.size, 1, none⟩) (Nat.le_refl _) _).setCell (p := ⟨w.heap.size, 2, none⟩) (Nat.le_refl _) _).setCell (p := ⟨w.heap.size, 3, none⟩) (Nat.le_refl _) _).setCell (p := ⟨w.heap.size, 4, none⟩) (Nat.le_refl _) _)⟩
end Go.Proofs.YtelbmcgpelkakaaGreatDoor
