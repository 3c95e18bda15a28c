/- What is fed, both sides: contracts. -/
import Derived.Test.YtbepiebcpcjpcaaFRw
namespace Go.Proofs.Ytbepiebcpcjpcaa
open Go.RowKit Go.Sort
set_option linter.unusedVariables false
def fdO (s : ByteArray) (n : Int) (b : Bool) (c : ByteArray) : Bool := fkB s n b && decide (c.size ≤ 4000) && (b || decide (n + (fs (s ++ c).data.toList).2.1 ≤ 1000000000))
def fdL (s : ByteArray) (n : Int) (b : Bool) (c : ByteArray) : List Fr := if fdO s n b c && !b then (fs (s ++ c).data.toList).1 else []
def fdA (s : ByteArray) (n : Int) (b : Bool) (c : ByteArray) : Value := if fdO s n b c then (if b then .agg #[.string s, .int .i64 n, .bool true] else .agg #[.string (if (fs (s ++ c).data.toList).2.2 then (s ++ c).extract (fs (s ++ c).data.toList).2.1 (s ++ c).size else ⟨#[]⟩), .int .i64 (n + (fs (s ++ c).data.toList).2.1), .bool (!(fs (s ++ c).data.toList).2.2)]) else .agg #[.string ⟨#[]⟩, .int .i64 0, .bool false]
/-- What Feed answers. -/
def FdE (s : ByteArray) (n : Int) (b : Bool) (c : ByteArray) (B : Nat) (w' : World) (e : Ending) : Prop := ∃ v, e = .returned (.tuple #[fdA s n b c, v, .bool (fdO s n b c)]) ∧ OwnF B w' v (fdL s n b c)
theorem FdE.no {s : ByteArray} {n : Int} {b : Bool} {c : ByteArray} {B : Nat} {w' : World} (h : fdO s n b c = false) : FdE s n b c B w' (.returned (.tuple #[.agg #[.string ⟨#[]⟩, .int .i64 0, .bool false], .slice none 0 0, .bool false])) := by
  refine ⟨.slice none 0 0, by unfold fdA; rw [h]; simp, ?_⟩
  rw [show fdL s n b c = [] by unfold fdL; rw [h]; simp]
  exact OwnF.nil _ _
/-- The memory of a call of Feed: the framer, and the one that is told. -/
structure FdW (w : World) (s : ByteArray) (n : Int) (b : Bool) (W : World) : Prop where
  b0 : W.heap[w.heap.size]? = some (.cells #[.string s, .int .i64 n, .bool b] 33 (0, 0))
  b1 : W.heap[w.heap.size + 1]? = some (.cells #[.string ⟨#[]⟩, .int .i64 0, .bool false] 33 (0, 0))
  bel : Below w.heap.size w W
theorem FdW.start (w : World) (s : ByteArray) (n : Int) (b : Bool) : FdW w s n b ((w.alloc (.cells #[.string s, .int .i64 n, .bool b] 33)).alloc (.cells #[.string ⟨#[]⟩, .int .i64 0, .bool false] 33)) := by
  refine ⟨?_, ?_, bel2 _ _ _⟩
  · rw [(bel1 (w.alloc (.cells #[.string s, .int .i64 n, .bool b] 33)) _).block w.heap.size (by simp)]; exact heap_alloc_new w _
  · have := heap_alloc_new (w.alloc (.cells #[.string s, .int .i64 n, .bool b] 33)) (.cells #[.string ⟨#[]⟩, .int .i64 0, .bool false] 33)
    rwa [show (w.alloc (.cells #[.string s, .int .i64 n, .bool b] 33)).heap.size = w.heap.size + 1 by simp] at this
theorem FdW.below {w : World} {s : ByteArray} {n : Int} {b : Bool} {W W' : World} (h : FdW w s n b W) (hb : Below W.heap.size W W') : FdW w s n b W' :=
  ⟨(hb.block _ (blk_lt h.b0)).trans h.b0, (hb.block _ (blk_lt h.b1)).trans h.b1, h.bel.trans (hb.mono h.bel.size)⟩
theorem FdW.cells {w : World} {s : ByteArray} {n : Int} {b : Bool} {W : World} (h : FdW w s n b W) : (W.cell? ⟨w.heap.size, 0, none⟩ = some (.string s) ∧ W.cell? ⟨w.heap.size, 1, none⟩ = some (.int .i64 n) ∧ W.cell? ⟨w.heap.size, 2, none⟩ = some (.bool b)) ∧ (W.cell? ⟨w.heap.size + 1, 0, none⟩ = some (.string ⟨#[]⟩) ∧ W.cell? ⟨w.heap.size + 1, 1, none⟩ = some (.int .i64 0) ∧ W.cell? ⟨w.heap.size + 1, 2, none⟩ = some (.bool false)) ∧ W.frozen? ⟨w.heap.size + 1, 0, none⟩ = false ∧ W.frozen? ⟨w.heap.size + 1, 1, none⟩ = false ∧ W.frozen? ⟨w.heap.size + 1, 2, none⟩ = false := by
  obtain ⟨a0, a1, a2, _, _, _⟩ := tri_cells h.b0
  obtain ⟨d0, d1, d2, f0, f1, f2⟩ := tri_cells h.b1
  exact ⟨⟨a0, a1, a2⟩, ⟨d0, d1, d2⟩, f0, f1, f2⟩
/-- What is told, stored. -/
theorem FdW.stored {w : World} {s : ByteArray} {n : Int} {b : Bool} {W : World} (h : FdW w s n b W) (x y z : Value) : (((W.setCell ⟨w.heap.size + 1, 0, none⟩ x).setCell ⟨w.heap.size + 1, 1, none⟩ y).setCell ⟨w.heap.size + 1, 2, none⟩ z).heap[w.heap.size + 1]? = some (.cells #[x, y, z] 33 (0, 0)) ∧ Below w.heap.size w (((W.setCell ⟨w.heap.size + 1, 0, none⟩ x).setCell ⟨w.heap.size + 1, 1, none⟩ y).setCell ⟨w.heap.size + 1, 2, none⟩ z) :=
  ⟨set3 h.b1, ((h.bel.setCell (p := ⟨w.heap.size + 1, 0, none⟩) (by simp) _).setCell (p := ⟨w.heap.size + 1, 1, none⟩) (by simp) _).setCell (p := ⟨w.heap.size + 1, 2, none⟩) (by simp) _⟩
theorem FdW.set {w : World} {s : ByteArray} {n : Int} {b : Bool} {W : World} (h : FdW w s n b W) {k i : Nat} (hk : w.heap.size + 1 < k) (x : Value) : FdW w s n b (W.setCell ⟨k, i, none⟩ x) := by
  have hb : Below (w.heap.size + 2) W (W.setCell ⟨k, i, none⟩ x) := (Below.refl (w.heap.size + 2) W).setCell (p := ⟨k, i, none⟩) (by simp; omega) _
  exact ⟨(hb.block _ (by omega)).trans h.b0, (hb.block _ (by omega)).trans h.b1, h.bel.setCell (p := ⟨k, i, none⟩) (by simp; omega) _⟩
theorem own_below_k {B k : Nat} {W W' : World} {v : Value} {l : List Fr} (h : OwnF B W v l) (hb : Below k W W') (hk : ∀ g, v.ownBlock = some g → g < k) : OwnF B W' v l := by
  refine ⟨h.1, ?_⟩
  rcases h.2 with h2 | ⟨g, cap, cur, a1, a2, a3, a4⟩
  · exact .inl h2
  · exact .inr ⟨g, cap, cur, a1, a2, by rw [hb.block g (hk g (by rw [a1]; rfl))]; exact a3, a4⟩
theorem FdW.own {w W : World} {B : Nat} {v : Value} {l : List Fr} (h : OwnF B W v l) (hB : w.heap.size + 1 < B) (x y z : Value) : OwnF w.heap.size (((W.setCell ⟨w.heap.size + 1, 0, none⟩ x).setCell ⟨w.heap.size + 1, 1, none⟩ y).setCell ⟨w.heap.size + 1, 2, none⟩ z) v l :=
  own_down (ownsRow_setCell_below (a := ⟨w.heap.size + 1, 2, none⟩) (ownsRow_setCell_below (a := ⟨w.heap.size + 1, 1, none⟩) (ownsRow_setCell_below (a := ⟨w.heap.size + 1, 0, none⟩) h (by simp; omega) x) (by simp; omega) y) (by simp; omega) z) (by omega)
set_option maxRecDepth 100000 in
set_option maxHeartbeats 4000000 in
theorem implFeed_any (s : ByteArray) (n : Int) (b : Bool) (c : ByteArray) (w : World) (hs : s.size ≤ 1048576) (hc : c.size ≤ 1048576) : Calls Try.prog 16 #[.agg #[.string s, .int .i64 n, .bool b], .string c] w fun e w' => FdE s n b c w.heap.size w' e ∧ Below w.heap.size w w' := by
  cases hk : fkB s n b with
  | false =>
    have HO : Hid (∀ w, Calls Try.prog 14 #[.agg #[.string s, .int .i64 n, .bool b]] w fun e w' => e = .returned (.bool false) ∧ Below w.heap.size w w') := fun w => by have := implFramerOk_any s n b w (by omega); rwa [hk] at this
    have HX : Hid (∀ w', FdE s n b c w.heap.size w' (.returned (.tuple #[.agg #[.string ⟨#[]⟩, .int .i64 0, .bool false], .slice none 0 0, .bool false]))) := fun w' => FdE.no (by unfold fdO; rw [hk]; rfl)
    clear hk
    go_enter Try.func16, Try.ntmps16
    go_wp2_with fail
    refine (HO.out _).mono ?_
    rintro e w1 ⟨rfl, hb1⟩
    have HW1 : Hid (FdW w s n b w1) := (FdW.start w s n b).below hb1
    obtain ⟨⟨a0, a1, a2⟩, ⟨d0, d1, d2⟩, f0, f1, f2⟩ := HW1.out.cells
    clear hb1
    go_wp2_with fail
    obtain ⟨hM, hbM⟩ := HW1.out.stored (.string ⟨#[]⟩) (.int .i64 0) (.bool false)
    obtain ⟨W, hW⟩ : ∃ W, ((w1.setCell ⟨w.heap.size + 1, 0, none⟩ (.string ⟨#[]⟩)).setCell ⟨w.heap.size + 1, 1, none⟩ (.int .i64 0)).setCell ⟨w.heap.size + 1, 2, none⟩ (.bool false) = W := ⟨_, rfl⟩
    rw [hW] at hM hbM
    rw [hW]
    obtain ⟨q0, q1, q2, _, _, _⟩ := tri_cells hM
    exact bodyPost_ret (v := .tuple #[.agg #[.string ⟨#[]⟩, .int .i64 0, .bool false], .slice none 0 0, .bool false]) (by simp [results, Try.results16, go_sem, q0, q1, q2]) rfl ⟨HX.out _, hbM⟩
  | true =>
    have HO : Hid (∀ w, Calls Try.prog 14 #[.agg #[.string s, .int .i64 n, .bool b]] w fun e w' => e = .returned (.bool true) ∧ Below w.heap.size w w') := fun w => by have := implFramerOk_any s n b w (by omega); rwa [hk] at this
    by_cases h4 : 4000 < c.size
    · have h4' : (4000 : Int) < (c.size : Int) := by omega
      have HX : Hid (∀ w', FdE s n b c w.heap.size w' (.returned (.tuple #[.agg #[.string ⟨#[]⟩, .int .i64 0, .bool false], .slice none 0 0, .bool false]))) := fun w' => FdE.no (by unfold fdO; rw [show decide (c.size ≤ 4000) = false by simp; omega]; simp)
      clear hk h4
      go_enter Try.func16, Try.ntmps16
      go_wp2_with fail
      refine (HO.out _).mono ?_
      rintro e w1 ⟨rfl, hb1⟩
      have HW1 : Hid (FdW w s n b w1) := (FdW.start w s n b).below hb1
      obtain ⟨⟨a0, a1, a2⟩, ⟨d0, d1, d2⟩, f0, f1, f2⟩ := HW1.out.cells
      clear hb1
      go_wp2_with fail
      obtain ⟨hM, hbM⟩ := HW1.out.stored (.string ⟨#[]⟩) (.int .i64 0) (.bool false)
      obtain ⟨W, hW⟩ : ∃ W, ((w1.setCell ⟨w.heap.size + 1, 0, none⟩ (.string ⟨#[]⟩)).setCell ⟨w.heap.size + 1, 1, none⟩ (.int .i64 0)).setCell ⟨w.heap.size + 1, 2, none⟩ (.bool false) = W := ⟨_, rfl⟩
      rw [hW] at hM hbM
      rw [hW]
      obtain ⟨q0, q1, q2, _, _, _⟩ := tri_cells hM
      exact bodyPost_ret (v := .tuple #[.agg #[.string ⟨#[]⟩, .int .i64 0, .bool false], .slice none 0 0, .bool false]) (by simp [results, Try.results16, go_sem, q0, q1, q2]) rfl ⟨HX.out _, hbM⟩
    · have h4' : ¬ (4000 : Int) < (c.size : Int) := by omega
      cases b with
      | true =>
        have HX : Hid (∀ w', FdE s n true c w.heap.size w' (.returned (.tuple #[.agg #[.string s, .int .i64 n, .bool true], .slice none 0 0, .bool true]))) := fun w' => by
          have ho : fdO s n true c = true := by unfold fdO; rw [hk]; simp; omega
          refine ⟨.slice none 0 0, by unfold fdA; rw [ho]; simp, ?_⟩
          rw [show fdL s n true c = [] by unfold fdL; simp]
          exact OwnF.nil _ _
        clear hk
        go_enter Try.func16, Try.ntmps16
        go_wp2_with fail
        refine (HO.out _).mono ?_
        rintro e w1 ⟨rfl, hb1⟩
        have HW1 : Hid (FdW w s n true w1) := (FdW.start w s n true).below hb1
        obtain ⟨⟨a0, a1, a2⟩, ⟨d0, d1, d2⟩, f0, f1, f2⟩ := HW1.out.cells
        clear hb1
        go_wp2_with fail
        obtain ⟨hM, hbM⟩ := HW1.out.stored (.string s) (.int .i64 n) (.bool true)
        obtain ⟨W, hW⟩ : ∃ W, ((w1.setCell ⟨w.heap.size + 1, 0, none⟩ (.string s)).setCell ⟨w.heap.size + 1, 1, none⟩ (.int .i64 n)).setCell ⟨w.heap.size + 1, 2, none⟩ (.bool true) = W := ⟨_, rfl⟩
        rw [hW] at hM hbM
        rw [hW]
        obtain ⟨q0, q1, q2, _, _, _⟩ := tri_cells hM
        exact bodyPost_ret (v := .tuple #[.agg #[.string s, .int .i64 n, .bool true], .slice none 0 0, .bool true]) (by simp [results, Try.results16, go_sem, q0, q1, q2]) rfl ⟨HX.out _, hbM⟩
      | false =>
        obtain ⟨hs1, hn0, hn1⟩ := fkB_size hk
        obtain ⟨S, hS⟩ : ∃ S, s ++ c = S := ⟨_, rfl⟩
        have hSs : S.size ≤ 5003 := by rw [← hS, ByteArray.size_append]; omega
        have hcat : s.size + c.size ≤ 5003 := by omega
        obtain ⟨l, E, g, hr⟩ : ∃ l E g, fs S.data.toList = (l, E, g) := ⟨_, _, _, rfl⟩
        have hEb := fs_bound _ S.data.toList (Nat.le_refl _)
        rw [hr] at hEb
        simp at hEb
        obtain ⟨hE1, _, hE3⟩ := hEb
        have hE : E ≤ 5003 := by omega
        have HR : Hid (∀ w, Calls Try.prog 31 #[.string S] w fun e w' => (∃ v, e = .returned (.tuple #[v, .int .i64 (E : Nat), .bool g]) ∧ OwnF w.heap.size w' v l) ∧ Below w.heap.size w w') := fun w => by
          refine (runFramer_any S w (by omega)).mono ?_
          rintro e w' ⟨⟨v, rfl, h⟩, hb⟩
          rw [hr] at h ⊢
          exact ⟨⟨v, rfl, h⟩, hb⟩
        obtain ⟨M, hM⟩ : ∃ M : Int, n + (E : Int) = M := ⟨_, rfl⟩
        have hM0 : 0 ≤ M := by omega
        have hM2 : M ≤ 1000005003 := by omega
        obtain ⟨D, hD⟩ : ∃ D, S.extract E S.size = D := ⟨_, rfl⟩
        have hDs : D.size ≤ 5003 := by rw [← hD]; simp; omega
        have hfo : fdO s n false c = decide (M ≤ 1000000000) := by unfold fdO; rw [hk, hS, hr, hM]; simp; omega
        have hfa : M ≤ 1000000000 → ∀ w' v, OwnF w.heap.size w' v l → FdE s n false c w.heap.size w' (.returned (.tuple #[.agg #[.string (if g then D else ⟨#[]⟩), .int .i64 M, .bool (!g)], v, .bool true])) := by
          intro hm w' v h
          have ho : fdO s n false c = true := by rw [hfo]; simpa using hm
          refine ⟨v, ?_, ?_⟩
          · unfold fdA; rw [ho, hS, hr]; simp [hM, hD]
          · unfold fdL; rw [ho, hS, hr]; exact h
        have HFA : Hid (M ≤ 1000000000 → ∀ w' v, OwnF w.heap.size w' v l → FdE s n false c w.heap.size w' (.returned (.tuple #[.agg #[.string (if g then D else ⟨#[]⟩), .int .i64 M, .bool (!g)], v, .bool true]))) := hfa
        have HFN : Hid (1000000000 < M → ∀ w', FdE s n false c w.heap.size w' (.returned (.tuple #[.agg #[.string ⟨#[]⟩, .int .i64 0, .bool false], .slice none 0 0, .bool false]))) := fun hm w' => FdE.no (by rw [hfo]; simp; omega)
        clear hfa hfo hk hr hE3
        cases g with
        | false =>
          by_cases hM1 : 1000000000 < M
          · go_enter Try.func16, Try.ntmps16
            go_wp2_with fail
            refine (HO.out _).mono ?_
            rintro e w1 ⟨rfl, hb1⟩
            have HW1 : Hid (FdW w s n false w1) := (FdW.start w s n false).below hb1
            obtain ⟨⟨a0, a1, a2⟩, ⟨d0, d1, d2⟩, f0, f1, f2⟩ := HW1.out.cells
            clear hb1
            go_wp2_with fail
            have hl1 : w.heap.size + 1 < w1.heap.size := blk_lt HW1.out.b1
            clear a0 a1 a2 d0 d1 d2 f0 f1 f2
            refine (HR.out _).mono ?_
            rintro e w2 ⟨⟨v, rfl, ho2⟩, hb2⟩
            have HW2 : Hid (FdW w s n false w2) := HW1.out.below hb2
            have hl2 : w.heap.size + 1 < w2.heap.size := blk_lt HW2.out.b1
            have HO2 : Hid (OwnF w1.heap.size w2 v l) := ho2
            have HW3 : Hid (FdW w s n false (w2.alloc (.cells #[.string ⟨#[]⟩, .int .i64 M, .bool true] 33))) := HW2.out.below (bel1 _ _)
            obtain ⟨⟨a0, a1, a2⟩, _, _, _, _⟩ := HW2.out.cells
            obtain ⟨_, ⟨d0, d1, d2⟩, f0, f1, f2⟩ := HW3.out.cells
            obtain ⟨k0, k1, k2, j0, j1, j2⟩ := tri_cells (heap_alloc_new w2 (.cells #[.string ⟨#[]⟩, .int .i64 M, .bool true] 33))
            clear hb2 ho2
            go_wp2_with fail
            obtain ⟨hM0', hbM0⟩ := HW2.out.stored (.string ⟨#[]⟩) (.int .i64 0) (.bool false)
            obtain ⟨W0, hW0⟩ : ∃ W, ((w2.setCell ⟨w.heap.size + 1, 0, none⟩ (.string ⟨#[]⟩)).setCell ⟨w.heap.size + 1, 1, none⟩ (.int .i64 0)).setCell ⟨w.heap.size + 1, 2, none⟩ (.bool false) = W := ⟨_, rfl⟩
            rw [hW0] at hM0' hbM0
            rw [hW0]
            have hM := ((bel1 W0 (.cells #[.string ⟨#[]⟩, .int .i64 M, .bool true] 33)).block (w.heap.size + 1) (blk_lt hM0')).trans hM0'
            have hbM := hbM0.trans ((bel1 W0 (.cells #[.string ⟨#[]⟩, .int .i64 M, .bool true] 33)).mono hbM0.size)
            obtain ⟨q0, q1, q2, _, _, _⟩ := tri_cells hM
            exact bodyPost_ret (v := .tuple #[.agg #[.string ⟨#[]⟩, .int .i64 0, .bool false], .slice none 0 0, .bool false]) (by simp [results, Try.results16, go_sem, q0, q1, q2]) rfl ⟨HFN.out hM1 _, hbM⟩
          · go_enter Try.func16, Try.ntmps16
            go_wp2_with fail
            refine (HO.out _).mono ?_
            rintro e w1 ⟨rfl, hb1⟩
            have HW1 : Hid (FdW w s n false w1) := (FdW.start w s n false).below hb1
            obtain ⟨⟨a0, a1, a2⟩, ⟨d0, d1, d2⟩, f0, f1, f2⟩ := HW1.out.cells
            clear hb1
            go_wp2_with fail
            have hl1 : w.heap.size + 1 < w1.heap.size := blk_lt HW1.out.b1
            clear a0 a1 a2 d0 d1 d2 f0 f1 f2
            refine (HR.out _).mono ?_
            rintro e w2 ⟨⟨v, rfl, ho2⟩, hb2⟩
            have HW2 : Hid (FdW w s n false w2) := HW1.out.below hb2
            have hl2 : w.heap.size + 1 < w2.heap.size := blk_lt HW2.out.b1
            have HO2 : Hid (OwnF w1.heap.size w2 v l) := ho2
            have HW3 : Hid (FdW w s n false (w2.alloc (.cells #[.string ⟨#[]⟩, .int .i64 M, .bool true] 33))) := HW2.out.below (bel1 _ _)
            obtain ⟨⟨a0, a1, a2⟩, _, _, _, _⟩ := HW2.out.cells
            obtain ⟨_, ⟨d0, d1, d2⟩, f0, f1, f2⟩ := HW3.out.cells
            obtain ⟨k0, k1, k2, j0, j1, j2⟩ := tri_cells (heap_alloc_new w2 (.cells #[.string ⟨#[]⟩, .int .i64 M, .bool true] 33))
            clear hb2 ho2
            go_wp2_with fail
            obtain ⟨hM0', hbM0⟩ := HW2.out.stored (.string ⟨#[]⟩) (.int .i64 M) (.bool true)
            have hO := FdW.own (w := w) (W := w2) (HO2.out) hl1 (.string ⟨#[]⟩) (.int .i64 M) (.bool true)
            obtain ⟨W0, hW0⟩ : ∃ W, ((w2.setCell ⟨w.heap.size + 1, 0, none⟩ (.string ⟨#[]⟩)).setCell ⟨w.heap.size + 1, 1, none⟩ (.int .i64 M)).setCell ⟨w.heap.size + 1, 2, none⟩ (.bool true) = W := ⟨_, rfl⟩
            rw [hW0] at hM0' hbM0 hO
            rw [hW0]
            have hM := ((bel1 W0 (.cells #[.string ⟨#[]⟩, .int .i64 M, .bool true] 33)).block (w.heap.size + 1) (blk_lt hM0')).trans hM0'
            have hbM := hbM0.trans ((bel1 W0 (.cells #[.string ⟨#[]⟩, .int .i64 M, .bool true] 33)).mono hbM0.size)
            obtain ⟨q0, q1, q2, _, _, _⟩ := tri_cells hM
            exact bodyPost_ret (v := .tuple #[.agg #[.string ⟨#[]⟩, .int .i64 M, .bool true], v, .bool true]) (by simp [results, Try.results16, go_sem, q0, q1, q2]) rfl ⟨HFA.out (by omega) _ _ (OwnF.kept hO (bel1 _ _)), hbM⟩
        | true =>
          by_cases hM1 : 1000000000 < M
          · go_enter Try.func16, Try.ntmps16
            go_wp2_with fail
            refine (HO.out _).mono ?_
            rintro e w1 ⟨rfl, hb1⟩
            have HW1 : Hid (FdW w s n false w1) := (FdW.start w s n false).below hb1
            obtain ⟨⟨a0, a1, a2⟩, ⟨d0, d1, d2⟩, f0, f1, f2⟩ := HW1.out.cells
            clear hb1
            go_wp2_with fail
            have hl1 : w.heap.size + 1 < w1.heap.size := blk_lt HW1.out.b1
            clear a0 a1 a2 d0 d1 d2 f0 f1 f2
            refine (HR.out _).mono ?_
            rintro e w2 ⟨⟨v, rfl, ho2⟩, hb2⟩
            have HW2 : Hid (FdW w s n false w2) := HW1.out.below hb2
            have hl2 : w.heap.size + 1 < w2.heap.size := blk_lt HW2.out.b1
            have HO2 : Hid (OwnF w1.heap.size w2 v l) := ho2
            have HW3 : Hid (FdW w s n false (w2.alloc (.cells #[.string ⟨#[]⟩, .int .i64 M, .bool false] 33))) := HW2.out.below (bel1 _ _)
            obtain ⟨⟨a0, a1, a2⟩, _, _, _, _⟩ := HW2.out.cells
            obtain ⟨_, ⟨d0, d1, d2⟩, f0, f1, f2⟩ := HW3.out.cells
            obtain ⟨k0, k1, k2, j0, j1, j2⟩ := tri_cells (heap_alloc_new w2 (.cells #[.string ⟨#[]⟩, .int .i64 M, .bool false] 33))
            clear hb2 ho2
            go_wp2_with fail
            obtain ⟨hM0', hbM0⟩ := HW2.out.stored (.string ⟨#[]⟩) (.int .i64 0) (.bool false)
            obtain ⟨W0, hW0⟩ : ∃ W, ((w2.setCell ⟨w.heap.size + 1, 0, none⟩ (.string ⟨#[]⟩)).setCell ⟨w.heap.size + 1, 1, none⟩ (.int .i64 0)).setCell ⟨w.heap.size + 1, 2, none⟩ (.bool false) = W := ⟨_, rfl⟩
            rw [hW0] at hM0' hbM0
            rw [hW0]
            have hM := ((bel1 W0 (.cells #[.string ⟨#[]⟩, .int .i64 M, .bool false] 33)).block (w.heap.size + 1) (blk_lt hM0')).trans hM0'
            have hbM := hbM0.trans ((bel1 W0 (.cells #[.string ⟨#[]⟩, .int .i64 M, .bool false] 33)).mono hbM0.size)
            obtain ⟨q0, q1, q2, _, _, _⟩ := tri_cells hM
            exact bodyPost_ret (v := .tuple #[.agg #[.string ⟨#[]⟩, .int .i64 0, .bool false], .slice none 0 0, .bool false]) (by simp [results, Try.results16, go_sem, q0, q1, q2]) rfl ⟨HFN.out hM1 _, hbM⟩
          · go_enter Try.func16, Try.ntmps16
            go_wp2_with fail
            refine (HO.out _).mono ?_
            rintro e w1 ⟨rfl, hb1⟩
            have HW1 : Hid (FdW w s n false w1) := (FdW.start w s n false).below hb1
            obtain ⟨⟨a0, a1, a2⟩, ⟨d0, d1, d2⟩, f0, f1, f2⟩ := HW1.out.cells
            clear hb1
            go_wp2_with fail
            have hl1 : w.heap.size + 1 < w1.heap.size := blk_lt HW1.out.b1
            clear a0 a1 a2 d0 d1 d2 f0 f1 f2
            refine (HR.out _).mono ?_
            rintro e w2 ⟨⟨v, rfl, ho2⟩, hb2⟩
            have HW2 : Hid (FdW w s n false w2) := HW1.out.below hb2
            have hl2 : w.heap.size + 1 < w2.heap.size := blk_lt HW2.out.b1
            have HO2 : Hid (OwnF w1.heap.size w2 v l) := ho2
            have HW3 : Hid (FdW w s n false (w2.alloc (.cells #[.string ⟨#[]⟩, .int .i64 M, .bool false] 33))) := HW2.out.below (bel1 _ _)
            obtain ⟨⟨a0, a1, a2⟩, _, _, _, _⟩ := HW2.out.cells
            obtain ⟨_, ⟨d0, d1, d2⟩, f0, f1, f2⟩ := HW3.out.cells
            obtain ⟨k0, k1, k2, j0, j1, j2⟩ := tri_cells (heap_alloc_new w2 (.cells #[.string ⟨#[]⟩, .int .i64 M, .bool false] 33))
            clear hb2 ho2
            go_wp2_with fail
            refine (clone_any D _ (by omega)).mono ?_
            rintro e w4 ⟨rfl, hb4⟩
            have hK4 : w4.heap[w2.heap.size]? = some (.cells #[.string ⟨#[]⟩, .int .i64 M, .bool false] 33 (0, 0)) := by rw [hb4.block w2.heap.size (by simp)]; exact heap_alloc_new w2 _
            have hK5 := set_block (i := 0) hK4 (.string D)
            have HW5 : Hid (FdW w s n false (w4.setCell ⟨w2.heap.size, 0, none⟩ (.string D))) := (HW3.out.below hb4).set hl2 _
            have HO5 : Hid (OwnF w1.heap.size (w4.setCell ⟨w2.heap.size, 0, none⟩ (.string D)) v l) := own_below_k ((HO2.out.kept (bel1 _ _)).kept hb4) ((Below.refl w2.heap.size w4).setCell (p := ⟨w2.heap.size, 0, none⟩) (Nat.le_refl _) _) (fun g hg => (World.ownsRow.lt HO2.out g hg).2)
            clear a0 a1 a2 d0 d1 d2 f0 f1 f2 k0 k1 k2 j0 j1 j2
            obtain ⟨k0, k1, k2, j0, j1, j2⟩ := tri_cells hK4
            obtain ⟨m0, m1, m2, _, _, _⟩ := tri_cells (show (w4.setCell ⟨w2.heap.size, 0, none⟩ (.string D)).heap[w2.heap.size]? = some (.cells #[.string D, .int .i64 M, .bool false] 33 (0, 0)) from hK5)
            obtain ⟨_, ⟨d0, d1, d2⟩, f0, f1, f2⟩ := HW5.out.cells
            clear hb4 hK4 hK5
            go_wp2_with fail
            obtain ⟨hM, hbM⟩ := HW5.out.stored (.string D) (.int .i64 M) (.bool false)
            have hO := FdW.own (w := w) (W := (w4.setCell ⟨w2.heap.size, 0, none⟩ (.string D))) (HO5.out) hl1 (.string D) (.int .i64 M) (.bool false)
            obtain ⟨W, hW⟩ : ∃ W, (((w4.setCell ⟨w2.heap.size, 0, none⟩ (.string D)).setCell ⟨w.heap.size + 1, 0, none⟩ (.string D)).setCell ⟨w.heap.size + 1, 1, none⟩ (.int .i64 M)).setCell ⟨w.heap.size + 1, 2, none⟩ (.bool false) = W := ⟨_, rfl⟩
            rw [hW] at hM hbM hO
            rw [hW]
            obtain ⟨q0, q1, q2, _, _, _⟩ := tri_cells hM
            exact bodyPost_ret (v := .tuple #[.agg #[.string D, .int .i64 M, .bool false], v, .bool true]) (by simp [results, Try.results16, go_sem, q0, q1, q2]) rfl ⟨HFA.out (by omega) _ _ hO, hbM⟩
set_option maxRecDepth 100000 in
set_option maxHeartbeats 4000000 in
theorem specFeed_any (s : ByteArray) (n : Int) (b : Bool) (c : ByteArray) (w : World) (hs : s.size ≤ 1048576) (hc : c.size ≤ 1048576) : Calls Try.prog 15 #[.agg #[.string s, .int .i64 n, .bool b], .string c] w fun e w' => FdE s n b c w.heap.size w' e ∧ Below w.heap.size w w' := by
  cases hk : fkB s n b with
  | false =>
    have HO : Hid (∀ w, Calls Try.prog 12 #[.agg #[.string s, .int .i64 n, .bool b]] w fun e w' => e = .returned (.bool false) ∧ Below w.heap.size w w') := fun w => by have := specFramerOk_any s n b w (by omega); rwa [hk] at this
    have HX : Hid (∀ w', FdE s n b c w.heap.size w' (.returned (.tuple #[.agg #[.string ⟨#[]⟩, .int .i64 0, .bool false], .slice none 0 0, .bool false]))) := fun w' => FdE.no (by unfold fdO; rw [hk]; rfl)
    clear hk
    go_enter Try.func15, Try.ntmps15
    go_wp2_with fail
    refine (HO.out _).mono ?_
    rintro e w1 ⟨rfl, hb1⟩
    have HW1 : Hid (FdW w s n b w1) := (FdW.start w s n b).below hb1
    obtain ⟨⟨a0, a1, a2⟩, ⟨d0, d1, d2⟩, f0, f1, f2⟩ := HW1.out.cells
    clear hb1
    go_wp2_with fail
    obtain ⟨hM, hbM⟩ := HW1.out.stored (.string ⟨#[]⟩) (.int .i64 0) (.bool false)
    obtain ⟨W, hW⟩ : ∃ W, ((w1.setCell ⟨w.heap.size + 1, 0, none⟩ (.string ⟨#[]⟩)).setCell ⟨w.heap.size + 1, 1, none⟩ (.int .i64 0)).setCell ⟨w.heap.size + 1, 2, none⟩ (.bool false) = W := ⟨_, rfl⟩
    rw [hW] at hM hbM
    rw [hW]
    obtain ⟨q0, q1, q2, _, _, _⟩ := tri_cells hM
    exact bodyPost_ret (v := .tuple #[.agg #[.string ⟨#[]⟩, .int .i64 0, .bool false], .slice none 0 0, .bool false]) (by simp [results, Try.results15, go_sem, q0, q1, q2]) rfl ⟨HX.out _, hbM⟩
  | true =>
    have HO : Hid (∀ w, Calls Try.prog 12 #[.agg #[.string s, .int .i64 n, .bool b]] w fun e w' => e = .returned (.bool true) ∧ Below w.heap.size w w') := fun w => by have := specFramerOk_any s n b w (by omega); rwa [hk] at this
    by_cases h4 : 4000 < c.size
    · have h4' : (4000 : Int) < (c.size : Int) := by omega
      have HX : Hid (∀ w', FdE s n b c w.heap.size w' (.returned (.tuple #[.agg #[.string ⟨#[]⟩, .int .i64 0, .bool false], .slice none 0 0, .bool false]))) := fun w' => FdE.no (by unfold fdO; rw [show decide (c.size ≤ 4000) = false by simp; omega]; simp)
      clear hk h4
      go_enter Try.func15, Try.ntmps15
      go_wp2_with fail
      refine (HO.out _).mono ?_
      rintro e w1 ⟨rfl, hb1⟩
      have HW1 : Hid (FdW w s n b w1) := (FdW.start w s n b).below hb1
      obtain ⟨⟨a0, a1, a2⟩, ⟨d0, d1, d2⟩, f0, f1, f2⟩ := HW1.out.cells
      clear hb1
      go_wp2_with fail
      obtain ⟨hM, hbM⟩ := HW1.out.stored (.string ⟨#[]⟩) (.int .i64 0) (.bool false)
      obtain ⟨W, hW⟩ : ∃ W, ((w1.setCell ⟨w.heap.size + 1, 0, none⟩ (.string ⟨#[]⟩)).setCell ⟨w.heap.size + 1, 1, none⟩ (.int .i64 0)).setCell ⟨w.heap.size + 1, 2, none⟩ (.bool false) = W := ⟨_, rfl⟩
      rw [hW] at hM hbM
      rw [hW]
      obtain ⟨q0, q1, q2, _, _, _⟩ := tri_cells hM
      exact bodyPost_ret (v := .tuple #[.agg #[.string ⟨#[]⟩, .int .i64 0, .bool false], .slice none 0 0, .bool false]) (by simp [results, Try.results15, go_sem, q0, q1, q2]) rfl ⟨HX.out _, hbM⟩
    · have h4' : ¬ (4000 : Int) < (c.size : Int) := by omega
      cases b with
      | true =>
        have HX : Hid (∀ w', FdE s n true c w.heap.size w' (.returned (.tuple #[.agg #[.string s, .int .i64 n, .bool true], .slice none 0 0, .bool true]))) := fun w' => by
          have ho : fdO s n true c = true := by unfold fdO; rw [hk]; simp; omega
          refine ⟨.slice none 0 0, by unfold fdA; rw [ho]; simp, ?_⟩
          rw [show fdL s n true c = [] by unfold fdL; simp]
          exact OwnF.nil _ _
        clear hk
        go_enter Try.func15, Try.ntmps15
        go_wp2_with fail
        refine (HO.out _).mono ?_
        rintro e w1 ⟨rfl, hb1⟩
        have HW1 : Hid (FdW w s n true w1) := (FdW.start w s n true).below hb1
        obtain ⟨⟨a0, a1, a2⟩, ⟨d0, d1, d2⟩, f0, f1, f2⟩ := HW1.out.cells
        clear hb1
        go_wp2_with fail
        obtain ⟨hM, hbM⟩ := HW1.out.stored (.string s) (.int .i64 n) (.bool true)
        obtain ⟨W, hW⟩ : ∃ W, ((w1.setCell ⟨w.heap.size + 1, 0, none⟩ (.string s)).setCell ⟨w.heap.size + 1, 1, none⟩ (.int .i64 n)).setCell ⟨w.heap.size + 1, 2, none⟩ (.bool true) = W := ⟨_, rfl⟩
        rw [hW] at hM hbM
        rw [hW]
        obtain ⟨q0, q1, q2, _, _, _⟩ := tri_cells hM
        exact bodyPost_ret (v := .tuple #[.agg #[.string s, .int .i64 n, .bool true], .slice none 0 0, .bool true]) (by simp [results, Try.results15, go_sem, q0, q1, q2]) rfl ⟨HX.out _, hbM⟩
      | false =>
        obtain ⟨hs1, hn0, hn1⟩ := fkB_size hk
        obtain ⟨S, hS⟩ : ∃ S, s ++ c = S := ⟨_, rfl⟩
        have hSs : S.size ≤ 5003 := by rw [← hS, ByteArray.size_append]; omega
        have hcat : s.size + c.size ≤ 5003 := by omega
        obtain ⟨l, E, g, hr⟩ : ∃ l E g, fs S.data.toList = (l, E, g) := ⟨_, _, _, rfl⟩
        have hEb := fs_bound _ S.data.toList (Nat.le_refl _)
        rw [hr] at hEb
        simp at hEb
        obtain ⟨hE1, _, hE3⟩ := hEb
        have hE : E ≤ 5003 := by omega
        have HR : Hid (∀ w, Calls Try.prog 21 #[.string S] w fun e w' => (∃ v, e = .returned (.tuple #[v, .int .i64 (E : Nat)]) ∧ OwnF w.heap.size w' v l) ∧ Below w.heap.size w w') := fun w => by
          refine (specFramesOf_any S w (by omega)).mono ?_
          rintro e w' ⟨⟨v, rfl, h⟩, hb⟩
          rw [hr] at h ⊢
          exact ⟨⟨v, rfl, h⟩, hb⟩
        have HTk : Hid (∀ w, Calls Try.prog 29 #[.string (S.extract E S.size)] w fun e w' => e = .returned (.tuple #[.agg #[.int .i64 0, .int .i64 0, .string ⟨#[]⟩], .int .i64 0, .int .i64 (if g then 2 else 3)]) ∧ Below w.heap.size w w') := fun w => by
          have := l11Take_any (S.extract E S.size) w (by simp; omega)
          rw [show (S.extract E S.size).data.toList = S.data.toList.drop E by rw [ext_dl, List.take_of_length_le (by simp)], hE3] at this
          cases g <;> exact this
        obtain ⟨M, hM⟩ : ∃ M : Int, n + (E : Int) = M := ⟨_, rfl⟩
        have hM0 : 0 ≤ M := by omega
        have hM2 : M ≤ 1000005003 := by omega
        obtain ⟨D, hD⟩ : ∃ D, S.extract E S.size = D := ⟨_, rfl⟩
        rw [hD] at HTk
        have hDs : D.size ≤ 5003 := by rw [← hD]; simp; omega
        have hfo : fdO s n false c = decide (M ≤ 1000000000) := by unfold fdO; rw [hk, hS, hr, hM]; simp; omega
        have hfa : M ≤ 1000000000 → ∀ w' v, OwnF w.heap.size w' v l → FdE s n false c w.heap.size w' (.returned (.tuple #[.agg #[.string (if g then D else ⟨#[]⟩), .int .i64 M, .bool (!g)], v, .bool true])) := by
          intro hm w' v h
          have ho : fdO s n false c = true := by rw [hfo]; simpa using hm
          refine ⟨v, ?_, ?_⟩
          · unfold fdA; rw [ho, hS, hr]; simp [hM, hD]
          · unfold fdL; rw [ho, hS, hr]; exact h
        have HFA : Hid (M ≤ 1000000000 → ∀ w' v, OwnF w.heap.size w' v l → FdE s n false c w.heap.size w' (.returned (.tuple #[.agg #[.string (if g then D else ⟨#[]⟩), .int .i64 M, .bool (!g)], v, .bool true]))) := hfa
        have HFN : Hid (1000000000 < M → ∀ w', FdE s n false c w.heap.size w' (.returned (.tuple #[.agg #[.string ⟨#[]⟩, .int .i64 0, .bool false], .slice none 0 0, .bool false]))) := fun hm w' => FdE.no (by rw [hfo]; simp; omega)
        clear hfa hfo hk hr hE3
        cases g with
        | false =>
          by_cases hM1 : 1000000000 < M
          · go_enter Try.func15, Try.ntmps15
            go_wp2_with fail
            refine (HO.out _).mono ?_
            rintro e w1 ⟨rfl, hb1⟩
            have HW1 : Hid (FdW w s n false w1) := (FdW.start w s n false).below hb1
            obtain ⟨⟨a0, a1, a2⟩, ⟨d0, d1, d2⟩, f0, f1, f2⟩ := HW1.out.cells
            clear hb1
            go_wp2_with fail
            have hl1 : w.heap.size + 1 < w1.heap.size := blk_lt HW1.out.b1
            clear a0 a1 a2 d0 d1 d2 f0 f1 f2
            refine (HR.out _).mono ?_
            rintro e w2 ⟨⟨v, rfl, ho2⟩, hb2⟩
            have HW2 : Hid (FdW w s n false w2) := HW1.out.below hb2
            have hl2 : w.heap.size + 1 < w2.heap.size := blk_lt HW2.out.b1
            have HO2 : Hid (OwnF w1.heap.size w2 v l) := ho2
            obtain ⟨⟨a0, a1, a2⟩, _, _, _, _⟩ := (HW2.out.below (bel1 w2 (.cells #[.string ⟨#[]⟩, .int .i64 0, .bool false] 33))).cells
            obtain ⟨⟨g0, g1, g2⟩, _, _, _, _⟩ := HW2.out.cells
            obtain ⟨k0, k1, k2, j0, j1, j2⟩ := tri_cells (heap_alloc_new w2 (.cells #[.string ⟨#[]⟩, .int .i64 0, .bool false] 33))
            have a0' : (w2.alloc (.cells #[.string ⟨#[]⟩, .int .i64 0, .bool false] 33)).drew.cell? ⟨w.heap.size, 0, none⟩ = some (.string s) := a0
            have a1' : (w2.alloc (.cells #[.string ⟨#[]⟩, .int .i64 0, .bool false] 33)).drew.cell? ⟨w.heap.size, 1, none⟩ = some (.int .i64 n) := a1
            have hsum : s.size + c.size ≤ 9223372036854775807 := by omega
            clear hb2 ho2
            go_wp2_with fail
            go_region
            go_wp2_with fail
            clear a0 a1 a2 a0' a1' g0 g1 g2 k0 k1 k2 j0 j1 j2
            have hW3 : FdW w s n false (w2.alloc (.cells #[.string D, .int .i64 M, .bool false] 33)).drew := by
              have h := HW2.out.below (bel1 w2 (.cells #[.string D, .int .i64 M, .bool false] 33))
              exact ⟨h.b0, h.b1, h.bel.drew⟩
            have hK3 : (w2.alloc (.cells #[.string D, .int .i64 M, .bool false] 33)).drew.heap[w2.heap.size]? = some (.cells #[.string D, .int .i64 M, .bool false] 33 (0, 0)) := heap_alloc_new w2 _
            have hO3 : OwnF w1.heap.size (w2.alloc (.cells #[.string D, .int .i64 M, .bool false] 33)).drew v l := by
              have h : OwnF w1.heap.size (w2.alloc (.cells #[.string D, .int .i64 M, .bool false] 33)) v l := HO2.out.kept (bel1 w2 _)
              exact h
            obtain ⟨w3, hw3⟩ : ∃ w3, (w2.alloc (.cells #[.string D, .int .i64 M, .bool false] 33)).drew = w3 := ⟨_, rfl⟩
            rw [hw3] at hW3 hK3 hO3
            rw [hw3]
            clear hw3
            have hl3 : w2.heap.size < w3.heap.size := blk_lt hK3
            refine (HTk.out _).mono ?_
            rintro e w4 ⟨rfl, hb4⟩
            have HW4 : Hid (FdW w s n false w4) := hW3.below hb4
            have hK4 : w4.heap[w2.heap.size]? = some (.cells #[.string D, .int .i64 M, .bool false] 33 (0, 0)) := (hb4.block w2.heap.size hl3).trans hK3
            have HO4 : Hid (OwnF w1.heap.size w4 v l) := hO3.kept hb4
            have HV : Hid (∀ q, v.ownBlock = some q → q < w2.heap.size) := fun q hq => (World.ownsRow.lt HO2.out q hq).2
            have HK4 : Hid (w4.heap[w2.heap.size]? = some (.cells #[.string D, .int .i64 M, .bool false] 33 (0, 0))) := hK4
            have hbF := bel1 w4 (.cells #[.int .i64 0, .int .i64 0, .string ⟨#[]⟩] 26)
            obtain ⟨k0, k1, k2, j0, j1, j2⟩ := tri_cells ((hbF.block w2.heap.size (blk_lt hK4)).trans hK4)
            obtain ⟨⟨a0, a1, a2⟩, ⟨d0, d1, d2⟩, f0, f1, f2⟩ := (HW4.out.below hbF).cells
            obtain ⟨l0, l1, l2, _, _, _⟩ := tri_cells hK4
            clear hbF hW3 hK3 hO3 hb4 hK4
            have HW6 : Hid (FdW w s n false (w4.alloc (.cells #[.int .i64 0, .int .i64 0, .string ⟨#[]⟩] 26))) := HW4.out.below (bel1 w4 _)
            have HO6 : Hid (OwnF w1.heap.size (w4.alloc (.cells #[.int .i64 0, .int .i64 0, .string ⟨#[]⟩] 26)) v l) := HO4.out.kept (bel1 w4 _)
            have HW5 : Hid (FdW w s n false (((w4.alloc (.cells #[.int .i64 0, .int .i64 0, .string ⟨#[]⟩] 26)).setCell ⟨w2.heap.size, 0, none⟩ (.string ⟨#[]⟩)).setCell ⟨w2.heap.size, 2, none⟩ (.bool true))) := (HW6.out.set hl2 _).set hl2 _
            have HO5 : Hid (OwnF w1.heap.size (((w4.alloc (.cells #[.int .i64 0, .int .i64 0, .string ⟨#[]⟩] 26)).setCell ⟨w2.heap.size, 0, none⟩ (.string ⟨#[]⟩)).setCell ⟨w2.heap.size, 2, none⟩ (.bool true)) v l) := own_below_k HO6.out (((Below.refl w2.heap.size (w4.alloc (.cells #[.int .i64 0, .int .i64 0, .string ⟨#[]⟩] 26))).setCell (p := ⟨w2.heap.size, 0, none⟩) (Nat.le_refl _) _).setCell (p := ⟨w2.heap.size, 2, none⟩) (Nat.le_refl _) _) HV.out
            go_wp2_with fail
            obtain ⟨hM, hbM⟩ := HW5.out.stored (.string ⟨#[]⟩) (.int .i64 0) (.bool false)
            obtain ⟨W, hW⟩ : ∃ W, (((((w4.alloc (.cells #[.int .i64 0, .int .i64 0, .string ⟨#[]⟩] 26)).setCell ⟨w2.heap.size, 0, none⟩ (.string ⟨#[]⟩)).setCell ⟨w2.heap.size, 2, none⟩ (.bool true)).setCell ⟨w.heap.size + 1, 0, none⟩ (.string ⟨#[]⟩)).setCell ⟨w.heap.size + 1, 1, none⟩ (.int .i64 0)).setCell ⟨w.heap.size + 1, 2, none⟩ (.bool false) = W := ⟨_, rfl⟩
            rw [hW] at hM hbM
            rw [hW]
            obtain ⟨q0, q1, q2, _, _, _⟩ := tri_cells hM
            exact bodyPost_ret (v := .tuple #[.agg #[.string ⟨#[]⟩, .int .i64 0, .bool false], .slice none 0 0, .bool false]) (by simp [results, Try.results15, go_sem, q0, q1, q2]) rfl ⟨HFN.out hM1 _, hbM⟩
          · go_enter Try.func15, Try.ntmps15
            go_wp2_with fail
            refine (HO.out _).mono ?_
            rintro e w1 ⟨rfl, hb1⟩
            have HW1 : Hid (FdW w s n false w1) := (FdW.start w s n false).below hb1
            obtain ⟨⟨a0, a1, a2⟩, ⟨d0, d1, d2⟩, f0, f1, f2⟩ := HW1.out.cells
            clear hb1
            go_wp2_with fail
            have hl1 : w.heap.size + 1 < w1.heap.size := blk_lt HW1.out.b1
            clear a0 a1 a2 d0 d1 d2 f0 f1 f2
            refine (HR.out _).mono ?_
            rintro e w2 ⟨⟨v, rfl, ho2⟩, hb2⟩
            have HW2 : Hid (FdW w s n false w2) := HW1.out.below hb2
            have hl2 : w.heap.size + 1 < w2.heap.size := blk_lt HW2.out.b1
            have HO2 : Hid (OwnF w1.heap.size w2 v l) := ho2
            obtain ⟨⟨a0, a1, a2⟩, _, _, _, _⟩ := (HW2.out.below (bel1 w2 (.cells #[.string ⟨#[]⟩, .int .i64 0, .bool false] 33))).cells
            obtain ⟨⟨g0, g1, g2⟩, _, _, _, _⟩ := HW2.out.cells
            obtain ⟨k0, k1, k2, j0, j1, j2⟩ := tri_cells (heap_alloc_new w2 (.cells #[.string ⟨#[]⟩, .int .i64 0, .bool false] 33))
            have a0' : (w2.alloc (.cells #[.string ⟨#[]⟩, .int .i64 0, .bool false] 33)).drew.cell? ⟨w.heap.size, 0, none⟩ = some (.string s) := a0
            have a1' : (w2.alloc (.cells #[.string ⟨#[]⟩, .int .i64 0, .bool false] 33)).drew.cell? ⟨w.heap.size, 1, none⟩ = some (.int .i64 n) := a1
            have hsum : s.size + c.size ≤ 9223372036854775807 := by omega
            clear hb2 ho2
            go_wp2_with fail
            go_region
            go_wp2_with fail
            clear a0 a1 a2 a0' a1' g0 g1 g2 k0 k1 k2 j0 j1 j2
            have hW3 : FdW w s n false (w2.alloc (.cells #[.string D, .int .i64 M, .bool false] 33)).drew := by
              have h := HW2.out.below (bel1 w2 (.cells #[.string D, .int .i64 M, .bool false] 33))
              exact ⟨h.b0, h.b1, h.bel.drew⟩
            have hK3 : (w2.alloc (.cells #[.string D, .int .i64 M, .bool false] 33)).drew.heap[w2.heap.size]? = some (.cells #[.string D, .int .i64 M, .bool false] 33 (0, 0)) := heap_alloc_new w2 _
            have hO3 : OwnF w1.heap.size (w2.alloc (.cells #[.string D, .int .i64 M, .bool false] 33)).drew v l := by
              have h : OwnF w1.heap.size (w2.alloc (.cells #[.string D, .int .i64 M, .bool false] 33)) v l := HO2.out.kept (bel1 w2 _)
              exact h
            obtain ⟨w3, hw3⟩ : ∃ w3, (w2.alloc (.cells #[.string D, .int .i64 M, .bool false] 33)).drew = w3 := ⟨_, rfl⟩
            rw [hw3] at hW3 hK3 hO3
            rw [hw3]
            clear hw3
            have hl3 : w2.heap.size < w3.heap.size := blk_lt hK3
            refine (HTk.out _).mono ?_
            rintro e w4 ⟨rfl, hb4⟩
            have HW4 : Hid (FdW w s n false w4) := hW3.below hb4
            have hK4 : w4.heap[w2.heap.size]? = some (.cells #[.string D, .int .i64 M, .bool false] 33 (0, 0)) := (hb4.block w2.heap.size hl3).trans hK3
            have HO4 : Hid (OwnF w1.heap.size w4 v l) := hO3.kept hb4
            have HV : Hid (∀ q, v.ownBlock = some q → q < w2.heap.size) := fun q hq => (World.ownsRow.lt HO2.out q hq).2
            have HK4 : Hid (w4.heap[w2.heap.size]? = some (.cells #[.string D, .int .i64 M, .bool false] 33 (0, 0))) := hK4
            have hbF := bel1 w4 (.cells #[.int .i64 0, .int .i64 0, .string ⟨#[]⟩] 26)
            obtain ⟨k0, k1, k2, j0, j1, j2⟩ := tri_cells ((hbF.block w2.heap.size (blk_lt hK4)).trans hK4)
            obtain ⟨⟨a0, a1, a2⟩, ⟨d0, d1, d2⟩, f0, f1, f2⟩ := (HW4.out.below hbF).cells
            obtain ⟨l0, l1, l2, _, _, _⟩ := tri_cells hK4
            clear hbF hW3 hK3 hO3 hb4 hK4
            have HW6 : Hid (FdW w s n false (w4.alloc (.cells #[.int .i64 0, .int .i64 0, .string ⟨#[]⟩] 26))) := HW4.out.below (bel1 w4 _)
            have HO6 : Hid (OwnF w1.heap.size (w4.alloc (.cells #[.int .i64 0, .int .i64 0, .string ⟨#[]⟩] 26)) v l) := HO4.out.kept (bel1 w4 _)
            have HW5 : Hid (FdW w s n false (((w4.alloc (.cells #[.int .i64 0, .int .i64 0, .string ⟨#[]⟩] 26)).setCell ⟨w2.heap.size, 0, none⟩ (.string ⟨#[]⟩)).setCell ⟨w2.heap.size, 2, none⟩ (.bool true))) := (HW6.out.set hl2 _).set hl2 _
            have HO5 : Hid (OwnF w1.heap.size (((w4.alloc (.cells #[.int .i64 0, .int .i64 0, .string ⟨#[]⟩] 26)).setCell ⟨w2.heap.size, 0, none⟩ (.string ⟨#[]⟩)).setCell ⟨w2.heap.size, 2, none⟩ (.bool true)) v l) := own_below_k HO6.out (((Below.refl w2.heap.size (w4.alloc (.cells #[.int .i64 0, .int .i64 0, .string ⟨#[]⟩] 26))).setCell (p := ⟨w2.heap.size, 0, none⟩) (Nat.le_refl _) _).setCell (p := ⟨w2.heap.size, 2, none⟩) (Nat.le_refl _) _) HV.out
            go_wp2_with fail
            obtain ⟨hM, hbM⟩ := HW5.out.stored (.string ⟨#[]⟩) (.int .i64 M) (.bool true)
            have hO := FdW.own (w := w) (W := (((w4.alloc (.cells #[.int .i64 0, .int .i64 0, .string ⟨#[]⟩] 26)).setCell ⟨w2.heap.size, 0, none⟩ (.string ⟨#[]⟩)).setCell ⟨w2.heap.size, 2, none⟩ (.bool true))) (HO5.out) hl1 (.string ⟨#[]⟩) (.int .i64 M) (.bool true)
            obtain ⟨W, hW⟩ : ∃ W, (((((w4.alloc (.cells #[.int .i64 0, .int .i64 0, .string ⟨#[]⟩] 26)).setCell ⟨w2.heap.size, 0, none⟩ (.string ⟨#[]⟩)).setCell ⟨w2.heap.size, 2, none⟩ (.bool true)).setCell ⟨w.heap.size + 1, 0, none⟩ (.string ⟨#[]⟩)).setCell ⟨w.heap.size + 1, 1, none⟩ (.int .i64 M)).setCell ⟨w.heap.size + 1, 2, none⟩ (.bool true) = W := ⟨_, rfl⟩
            rw [hW] at hM hbM hO
            rw [hW]
            obtain ⟨q0, q1, q2, _, _, _⟩ := tri_cells hM
            exact bodyPost_ret (v := .tuple #[.agg #[.string ⟨#[]⟩, .int .i64 M, .bool true], v, .bool true]) (by simp [results, Try.results15, go_sem, q0, q1, q2]) rfl ⟨HFA.out (by omega) _ _ hO, hbM⟩
        | true =>
          by_cases hM1 : 1000000000 < M
          · go_enter Try.func15, Try.ntmps15
            go_wp2_with fail
            refine (HO.out _).mono ?_
            rintro e w1 ⟨rfl, hb1⟩
            have HW1 : Hid (FdW w s n false w1) := (FdW.start w s n false).below hb1
            obtain ⟨⟨a0, a1, a2⟩, ⟨d0, d1, d2⟩, f0, f1, f2⟩ := HW1.out.cells
            clear hb1
            go_wp2_with fail
            have hl1 : w.heap.size + 1 < w1.heap.size := blk_lt HW1.out.b1
            clear a0 a1 a2 d0 d1 d2 f0 f1 f2
            refine (HR.out _).mono ?_
            rintro e w2 ⟨⟨v, rfl, ho2⟩, hb2⟩
            have HW2 : Hid (FdW w s n false w2) := HW1.out.below hb2
            have hl2 : w.heap.size + 1 < w2.heap.size := blk_lt HW2.out.b1
            have HO2 : Hid (OwnF w1.heap.size w2 v l) := ho2
            obtain ⟨⟨a0, a1, a2⟩, _, _, _, _⟩ := (HW2.out.below (bel1 w2 (.cells #[.string ⟨#[]⟩, .int .i64 0, .bool false] 33))).cells
            obtain ⟨⟨g0, g1, g2⟩, _, _, _, _⟩ := HW2.out.cells
            obtain ⟨k0, k1, k2, j0, j1, j2⟩ := tri_cells (heap_alloc_new w2 (.cells #[.string ⟨#[]⟩, .int .i64 0, .bool false] 33))
            have a0' : (w2.alloc (.cells #[.string ⟨#[]⟩, .int .i64 0, .bool false] 33)).drew.cell? ⟨w.heap.size, 0, none⟩ = some (.string s) := a0
            have a1' : (w2.alloc (.cells #[.string ⟨#[]⟩, .int .i64 0, .bool false] 33)).drew.cell? ⟨w.heap.size, 1, none⟩ = some (.int .i64 n) := a1
            have hsum : s.size + c.size ≤ 9223372036854775807 := by omega
            clear hb2 ho2
            go_wp2_with fail
            go_region
            go_wp2_with fail
            clear a0 a1 a2 a0' a1' g0 g1 g2 k0 k1 k2 j0 j1 j2
            have hW3 : FdW w s n false (w2.alloc (.cells #[.string D, .int .i64 M, .bool false] 33)).drew := by
              have h := HW2.out.below (bel1 w2 (.cells #[.string D, .int .i64 M, .bool false] 33))
              exact ⟨h.b0, h.b1, h.bel.drew⟩
            have hK3 : (w2.alloc (.cells #[.string D, .int .i64 M, .bool false] 33)).drew.heap[w2.heap.size]? = some (.cells #[.string D, .int .i64 M, .bool false] 33 (0, 0)) := heap_alloc_new w2 _
            have hO3 : OwnF w1.heap.size (w2.alloc (.cells #[.string D, .int .i64 M, .bool false] 33)).drew v l := by
              have h : OwnF w1.heap.size (w2.alloc (.cells #[.string D, .int .i64 M, .bool false] 33)) v l := HO2.out.kept (bel1 w2 _)
              exact h
            obtain ⟨w3, hw3⟩ : ∃ w3, (w2.alloc (.cells #[.string D, .int .i64 M, .bool false] 33)).drew = w3 := ⟨_, rfl⟩
            rw [hw3] at hW3 hK3 hO3
            rw [hw3]
            clear hw3
            have hl3 : w2.heap.size < w3.heap.size := blk_lt hK3
            refine (HTk.out _).mono ?_
            rintro e w4 ⟨rfl, hb4⟩
            have HW4 : Hid (FdW w s n false w4) := hW3.below hb4
            have hK4 : w4.heap[w2.heap.size]? = some (.cells #[.string D, .int .i64 M, .bool false] 33 (0, 0)) := (hb4.block w2.heap.size hl3).trans hK3
            have HO4 : Hid (OwnF w1.heap.size w4 v l) := hO3.kept hb4
            have HV : Hid (∀ q, v.ownBlock = some q → q < w2.heap.size) := fun q hq => (World.ownsRow.lt HO2.out q hq).2
            have HK4 : Hid (w4.heap[w2.heap.size]? = some (.cells #[.string D, .int .i64 M, .bool false] 33 (0, 0))) := hK4
            have hbF := bel1 w4 (.cells #[.int .i64 0, .int .i64 0, .string ⟨#[]⟩] 26)
            obtain ⟨k0, k1, k2, j0, j1, j2⟩ := tri_cells ((hbF.block w2.heap.size (blk_lt hK4)).trans hK4)
            obtain ⟨⟨a0, a1, a2⟩, ⟨d0, d1, d2⟩, f0, f1, f2⟩ := (HW4.out.below hbF).cells
            obtain ⟨l0, l1, l2, _, _, _⟩ := tri_cells hK4
            clear hbF hW3 hK3 hO3 hb4 hK4
            have HW6 : Hid (FdW w s n false (w4.alloc (.cells #[.int .i64 0, .int .i64 0, .string ⟨#[]⟩] 26))) := HW4.out.below (bel1 w4 _)
            have HO6 : Hid (OwnF w1.heap.size (w4.alloc (.cells #[.int .i64 0, .int .i64 0, .string ⟨#[]⟩] 26)) v l) := HO4.out.kept (bel1 w4 _)
            go_wp2_with fail
            obtain ⟨hM, hbM⟩ := HW6.out.stored (.string ⟨#[]⟩) (.int .i64 0) (.bool false)
            obtain ⟨W, hW⟩ : ∃ W, (((w4.alloc (.cells #[.int .i64 0, .int .i64 0, .string ⟨#[]⟩] 26)).setCell ⟨w.heap.size + 1, 0, none⟩ (.string ⟨#[]⟩)).setCell ⟨w.heap.size + 1, 1, none⟩ (.int .i64 0)).setCell ⟨w.heap.size + 1, 2, none⟩ (.bool false) = W := ⟨_, rfl⟩
            rw [hW] at hM hbM
            rw [hW]
            obtain ⟨q0, q1, q2, _, _, _⟩ := tri_cells hM
            exact bodyPost_ret (v := .tuple #[.agg #[.string ⟨#[]⟩, .int .i64 0, .bool false], .slice none 0 0, .bool false]) (by simp [results, Try.results15, go_sem, q0, q1, q2]) rfl ⟨HFN.out hM1 _, hbM⟩
          · go_enter Try.func15, Try.ntmps15
            go_wp2_with fail
            refine (HO.out _).mono ?_
            rintro e w1 ⟨rfl, hb1⟩
            have HW1 : Hid (FdW w s n false w1) := (FdW.start w s n false).below hb1
            obtain ⟨⟨a0, a1, a2⟩, ⟨d0, d1, d2⟩, f0, f1, f2⟩ := HW1.out.cells
            clear hb1
            go_wp2_with fail
            have hl1 : w.heap.size + 1 < w1.heap.size := blk_lt HW1.out.b1
            clear a0 a1 a2 d0 d1 d2 f0 f1 f2
            refine (HR.out _).mono ?_
            rintro e w2 ⟨⟨v, rfl, ho2⟩, hb2⟩
            have HW2 : Hid (FdW w s n false w2) := HW1.out.below hb2
            have hl2 : w.heap.size + 1 < w2.heap.size := blk_lt HW2.out.b1
            have HO2 : Hid (OwnF w1.heap.size w2 v l) := ho2
            obtain ⟨⟨a0, a1, a2⟩, _, _, _, _⟩ := (HW2.out.below (bel1 w2 (.cells #[.string ⟨#[]⟩, .int .i64 0, .bool false] 33))).cells
            obtain ⟨⟨g0, g1, g2⟩, _, _, _, _⟩ := HW2.out.cells
            obtain ⟨k0, k1, k2, j0, j1, j2⟩ := tri_cells (heap_alloc_new w2 (.cells #[.string ⟨#[]⟩, .int .i64 0, .bool false] 33))
            have a0' : (w2.alloc (.cells #[.string ⟨#[]⟩, .int .i64 0, .bool false] 33)).drew.cell? ⟨w.heap.size, 0, none⟩ = some (.string s) := a0
            have a1' : (w2.alloc (.cells #[.string ⟨#[]⟩, .int .i64 0, .bool false] 33)).drew.cell? ⟨w.heap.size, 1, none⟩ = some (.int .i64 n) := a1
            have hsum : s.size + c.size ≤ 9223372036854775807 := by omega
            clear hb2 ho2
            go_wp2_with fail
            go_region
            go_wp2_with fail
            clear a0 a1 a2 a0' a1' g0 g1 g2 k0 k1 k2 j0 j1 j2
            have hW3 : FdW w s n false (w2.alloc (.cells #[.string D, .int .i64 M, .bool false] 33)).drew := by
              have h := HW2.out.below (bel1 w2 (.cells #[.string D, .int .i64 M, .bool false] 33))
              exact ⟨h.b0, h.b1, h.bel.drew⟩
            have hK3 : (w2.alloc (.cells #[.string D, .int .i64 M, .bool false] 33)).drew.heap[w2.heap.size]? = some (.cells #[.string D, .int .i64 M, .bool false] 33 (0, 0)) := heap_alloc_new w2 _
            have hO3 : OwnF w1.heap.size (w2.alloc (.cells #[.string D, .int .i64 M, .bool false] 33)).drew v l := by
              have h : OwnF w1.heap.size (w2.alloc (.cells #[.string D, .int .i64 M, .bool false] 33)) v l := HO2.out.kept (bel1 w2 _)
              exact h
            obtain ⟨w3, hw3⟩ : ∃ w3, (w2.alloc (.cells #[.string D, .int .i64 M, .bool false] 33)).drew = w3 := ⟨_, rfl⟩
            rw [hw3] at hW3 hK3 hO3
            rw [hw3]
            clear hw3
            have hl3 : w2.heap.size < w3.heap.size := blk_lt hK3
            refine (HTk.out _).mono ?_
            rintro e w4 ⟨rfl, hb4⟩
            have HW4 : Hid (FdW w s n false w4) := hW3.below hb4
            have hK4 : w4.heap[w2.heap.size]? = some (.cells #[.string D, .int .i64 M, .bool false] 33 (0, 0)) := (hb4.block w2.heap.size hl3).trans hK3
            have HO4 : Hid (OwnF w1.heap.size w4 v l) := hO3.kept hb4
            have HV : Hid (∀ q, v.ownBlock = some q → q < w2.heap.size) := fun q hq => (World.ownsRow.lt HO2.out q hq).2
            have HK4 : Hid (w4.heap[w2.heap.size]? = some (.cells #[.string D, .int .i64 M, .bool false] 33 (0, 0))) := hK4
            have hbF := bel1 w4 (.cells #[.int .i64 0, .int .i64 0, .string ⟨#[]⟩] 26)
            obtain ⟨k0, k1, k2, j0, j1, j2⟩ := tri_cells ((hbF.block w2.heap.size (blk_lt hK4)).trans hK4)
            obtain ⟨⟨a0, a1, a2⟩, ⟨d0, d1, d2⟩, f0, f1, f2⟩ := (HW4.out.below hbF).cells
            obtain ⟨l0, l1, l2, _, _, _⟩ := tri_cells hK4
            clear hbF hW3 hK3 hO3 hb4 hK4
            have HW6 : Hid (FdW w s n false (w4.alloc (.cells #[.int .i64 0, .int .i64 0, .string ⟨#[]⟩] 26))) := HW4.out.below (bel1 w4 _)
            have HO6 : Hid (OwnF w1.heap.size (w4.alloc (.cells #[.int .i64 0, .int .i64 0, .string ⟨#[]⟩] 26)) v l) := HO4.out.kept (bel1 w4 _)
            go_wp2_with fail
            obtain ⟨hM, hbM⟩ := HW6.out.stored (.string D) (.int .i64 M) (.bool false)
            have hO := FdW.own (w := w) (W := (w4.alloc (.cells #[.int .i64 0, .int .i64 0, .string ⟨#[]⟩] 26))) (HO6.out) hl1 (.string D) (.int .i64 M) (.bool false)
            obtain ⟨W, hW⟩ : ∃ W, (((w4.alloc (.cells #[.int .i64 0, .int .i64 0, .string ⟨#[]⟩] 26)).setCell ⟨w.heap.size + 1, 0, none⟩ (.string D)).setCell ⟨w.heap.size + 1, 1, none⟩ (.int .i64 M)).setCell ⟨w.heap.size + 1, 2, none⟩ (.bool false) = W := ⟨_, rfl⟩
            rw [hW] at hM hbM hO
            rw [hW]
            obtain ⟨q0, q1, q2, _, _, _⟩ := tri_cells hM
            exact bodyPost_ret (v := .tuple #[.agg #[.string D, .int .i64 M, .bool false], v, .bool true]) (by simp [results, Try.results15, go_sem, q0, q1, q2]) rfl ⟨HFA.out (by omega) _ _ hO, hbM⟩
end Go.Proofs.Ytbepiebcpcjpcaa
