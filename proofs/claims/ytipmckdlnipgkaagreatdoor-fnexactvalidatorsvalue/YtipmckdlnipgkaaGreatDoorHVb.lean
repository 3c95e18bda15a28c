/- Items written one behind the other, by the program: contracts. -/
import Derived.Test.YtipmckdlnipgkaaGreatDoorHVa
import Derived.Deep.AppendLies
namespace Go.Proofs.YtipmckdlnipgkaaGreatDoor
open Go.RowKit Go.Sort
set_option linter.unusedVariables false
theorem Tryz.infoItm : (Tryz.prog.info? 69).map (fun i => (i.zero, i.size, i.bytes)) = some (some (.agg #[.int .i64 0, .int .u64 0, .string ByteArray.empty]), 3, 32) := by kernel_rfl
/-- A writer at block R, that has written l, in memory from base on. -/
def WrAt (R base : Nat) (w : World) (l : List It) : Prop := R < base ∧ base ≤ w.heap.size ∧ ∃ v, w.heap[R]? = some (.cells #[v] 74 (0, 0)) ∧ OwnIt base w v l
/-- The block of a writer's row. -/
def rowB (R : Nat) (w : World) : Option Nat := match w.heap[R]? with
  | some (.cells cs _ _) => (cs[0]?.getD (Value.slice none 0 0)).ownBlock
  | _ => none
theorem rowB_of {R : Nat} {w : World} {v : Value} {t : Nat} (h : w.heap[R]? = some (.cells #[v] t (0, 0))) : rowB R w = v.ownBlock := by
  unfold rowB; rw [h]; rfl
/-- What a writer leaves as it was. -/
def KeepB (R : Nat) (w w' : World) : Prop := ∀ k, k < w.heap.size → k ≠ R → rowB R w ≠ some k → w'.heap[k]? = w.heap[k]? ∧ rowB R w' ≠ some k
set_option maxRecDepth 100000 in
set_option maxHeartbeats 1000000 in
theorem w_number_keep (R base : Nat) (l : List It) (n : Nat) (w : World) (h : WrAt R base w l) (hl : l.length ≤ 1000) : Calls Tryz.prog 37 #[.pointer (some ⟨R, 0, none⟩), .int .u64 n] w fun e w' => e = .returned (.tuple #[]) ∧ (WrAt R base w' (l ++ [⟨1, n, ⟨#[]⟩⟩]) ∧ Below R w w') ∧ KeepB R w w' := by
  obtain ⟨hR, hb, v, hB, ho⟩ := h
  obtain ⟨i0, hi, hz0, hz1, hz2⟩ := info_parts Tryz.infoItm
  have HII : Hid (Tryz.prog.info? 69 = some i0) := hi
  have HO : Hid (OwnIt base w v l) := ho
  have HBK : Hid (w.heap[R]? = some (.cells #[v] 74 (0, 0))) := hB
  have c0 : w.cell? ⟨R, 0, none⟩ = some v := by rw [cell_of_row w R 0 _ _ _ hB]; rfl
  obtain ⟨ad, cap, rfl, h1, h2, _⟩ := ho.form
  unfold maxLen at h2
  have hRs : R < w.heap.size := blk_lt hB
  clear hi ho hB
  go_enter Tryz.func37, Tryz.ntmps37
  go_wp2_with (at_builtin; refine wpList_append_lies _ rfl _ _ 26 rfl base 69 i0 (.agg #[.int .i64 0, .int .u64 0, .string ByteArray.empty]) 3 32 Tryz.underlying26 HII.out hz0 hz1 hz2 rfl (by decide) (.slice ad l.length cap) l.length (flatI l) rfl (HO.out.alloc _) ⟨w.heap.size, 0, none⟩ 1 1 (flatI [⟨1, n, ⟨#[]⟩⟩]) rfl rfl ?c1 (flatI_one _) (by omega) ?c3 ?c4 ?c5 (w.heap.size + 1) (by simp) ?_)
  case c1 => exact World.news_of_block (heap_alloc_new w _)
  case c3 => unfold maxLen; omega
  case c4 => omega
  case c5 => simp; omega
  intro g cap7 w7 hown hgrow hat hlt
  have hne : some R ≠ (Value.slice ad l.length cap).ownBlock := fun e => by have := (World.ownsRow.lt HO.out R e.symm).1; omega
  have hB7 : w7.heap[R]? = some (.cells #[.slice ad l.length cap] 74 (0, 0)) := (hgrow.block R (by simp; omega) hne).trans ((Below.heap_alloc w _ _ hRs).trans HBK.out)
  have d0 : w7.cell? ⟨R, 0, none⟩ = some (.slice ad l.length cap) := by rw [cell_of_row w7 R 0 _ _ _ hB7]; rfl
  have f0 : w7.frozen? ⟨R, 0, none⟩ = false := by simp [World.frozen?, hB7]
  have hbel : Below R w w7 := by
    have b1 : Below R w (w.alloc (.cells #[.int .i64 1, .int .u64 n, .string ⟨#[]⟩] 69)) := (Below.refl _ _).alloc (by omega) _
    exact ⟨hgrow.os.trans b1.os, hgrow.tape.trans b1.tape, hgrow.output.trans b1.output, Nat.le_trans b1.size hgrow.size, fun k hk => (hgrow.block k (by simp; omega) (fun e => by have := (World.ownsRow.lt HO.out k e.symm).1; omega)).trans (b1.block k hk)⟩
  have HX : Hid (WrAt R base (w7.setCell ⟨R, 0, none⟩ (.slice (some ⟨g, 0, none⟩) (l.length + 1) cap7)) (l ++ [⟨1, n, ⟨#[]⟩⟩]) ∧ Below R w (w7.setCell ⟨R, 0, none⟩ (.slice (some ⟨g, 0, none⟩) (l.length + 1) cap7))) := by
    refine ⟨⟨hR, ?_, .slice (some ⟨g, 0, none⟩) (l.length + 1) cap7, ?_, ?_⟩, hbel.setCell (p := ⟨R, 0, none⟩) (Nat.le_refl _) _⟩
    · have := hbel.size; simp [World.setCell]; omega
    · rw [set_block (i := 0) hB7]; rfl
    · refine ownsRow_setCell_below ?_ (a := ⟨R, 0, none⟩) hR _
      rw [flatI_app, List.length_append]
      exact hown
  have HKP : Hid (KeepB R w (w7.setCell ⟨R, 0, none⟩ (.slice (some ⟨g, 0, none⟩) (l.length + 1) cap7))) := by
    intro k hk hkR hkr
    rw [rowB_of HBK.out] at hkr
    refine ⟨?_, ?_⟩
    · rw [Below.heap_setCell _ _ _ _ hkR]
      exact (hgrow.block k (by simp; omega) (fun e => hkr e.symm)).trans (Below.heap_alloc w _ _ hk)
    · rw [rowB_of (v := .slice (some ⟨g, 0, none⟩) (l.length + 1) cap7) (by rw [set_block (i := 0) hB7]; rfl)]
      intro e
      have e2 : g = k := by simpa [Value.ownBlock] using e
      rcases hat with h' | h'
      · exact hkr (by rw [h', e2])
      · omega
  clear hown hgrow hat hlt hne hB7 hbel c0
  go_wp2_with fail
  first | go_end0 | refine bodyPost_ret (results_none rfl _ _ _) rfl ?_
  exact ⟨rfl, HX.out, HKP.out⟩
theorem w_number_any (R base : Nat) (l : List It) (n : Nat) (w : World) (h : WrAt R base w l) (hl : l.length ≤ 1000) : Calls Tryz.prog 37 #[.pointer (some ⟨R, 0, none⟩), .int .u64 n] w fun e w' => e = .returned (.tuple #[]) ∧ WrAt R base w' (l ++ [⟨1, n, ⟨#[]⟩⟩]) ∧ Below R w w' :=
  (w_number_keep R base l n w h hl).mono (by rintro e w' ⟨h1, h2, _⟩; exact ⟨h1, h2⟩)
set_option maxRecDepth 100000 in
set_option maxHeartbeats 1000000 in
theorem w_fields_keep (R base : Nat) (l : List It) (n : Nat) (w : World) (h : WrAt R base w l) (hl : l.length ≤ 1000) : Calls Tryz.prog 36 #[.pointer (some ⟨R, 0, none⟩), .int .u64 n] w fun e w' => e = .returned (.tuple #[]) ∧ (WrAt R base w' (l ++ [⟨7, n, ⟨#[]⟩⟩]) ∧ Below R w w') ∧ KeepB R w w' := by
  obtain ⟨hR, hb, v, hB, ho⟩ := h
  obtain ⟨i0, hi, hz0, hz1, hz2⟩ := info_parts Tryz.infoItm
  have HII : Hid (Tryz.prog.info? 69 = some i0) := hi
  have HO : Hid (OwnIt base w v l) := ho
  have HBK : Hid (w.heap[R]? = some (.cells #[v] 74 (0, 0))) := hB
  have c0 : w.cell? ⟨R, 0, none⟩ = some v := by rw [cell_of_row w R 0 _ _ _ hB]; rfl
  obtain ⟨ad, cap, rfl, h1, h2, _⟩ := ho.form
  unfold maxLen at h2
  have hRs : R < w.heap.size := blk_lt hB
  clear hi ho hB
  go_enter Tryz.func36, Tryz.ntmps36
  go_wp2_with (at_builtin; refine wpList_append_lies _ rfl _ _ 26 rfl base 69 i0 (.agg #[.int .i64 0, .int .u64 0, .string ByteArray.empty]) 3 32 Tryz.underlying26 HII.out hz0 hz1 hz2 rfl (by decide) (.slice ad l.length cap) l.length (flatI l) rfl (HO.out.alloc _) ⟨w.heap.size, 0, none⟩ 1 1 (flatI [⟨7, n, ⟨#[]⟩⟩]) rfl rfl ?c1 (flatI_one _) (by omega) ?c3 ?c4 ?c5 (w.heap.size + 1) (by simp) ?_)
  case c1 => exact World.news_of_block (heap_alloc_new w _)
  case c3 => unfold maxLen; omega
  case c4 => omega
  case c5 => simp; omega
  intro g cap7 w7 hown hgrow hat hlt
  have hne : some R ≠ (Value.slice ad l.length cap).ownBlock := fun e => by have := (World.ownsRow.lt HO.out R e.symm).1; omega
  have hB7 : w7.heap[R]? = some (.cells #[.slice ad l.length cap] 74 (0, 0)) := (hgrow.block R (by simp; omega) hne).trans ((Below.heap_alloc w _ _ hRs).trans HBK.out)
  have d0 : w7.cell? ⟨R, 0, none⟩ = some (.slice ad l.length cap) := by rw [cell_of_row w7 R 0 _ _ _ hB7]; rfl
  have f0 : w7.frozen? ⟨R, 0, none⟩ = false := by simp [World.frozen?, hB7]
  have hbel : Below R w w7 := by
    have b1 : Below R w (w.alloc (.cells #[.int .i64 7, .int .u64 n, .string ⟨#[]⟩] 69)) := (Below.refl _ _).alloc (by omega) _
    exact ⟨hgrow.os.trans b1.os, hgrow.tape.trans b1.tape, hgrow.output.trans b1.output, Nat.le_trans b1.size hgrow.size, fun k hk => (hgrow.block k (by simp; omega) (fun e => by have := (World.ownsRow.lt HO.out k e.symm).1; omega)).trans (b1.block k hk)⟩
  have HX : Hid (WrAt R base (w7.setCell ⟨R, 0, none⟩ (.slice (some ⟨g, 0, none⟩) (l.length + 1) cap7)) (l ++ [⟨7, n, ⟨#[]⟩⟩]) ∧ Below R w (w7.setCell ⟨R, 0, none⟩ (.slice (some ⟨g, 0, none⟩) (l.length + 1) cap7))) := by
    refine ⟨⟨hR, ?_, .slice (some ⟨g, 0, none⟩) (l.length + 1) cap7, ?_, ?_⟩, hbel.setCell (p := ⟨R, 0, none⟩) (Nat.le_refl _) _⟩
    · have := hbel.size; simp [World.setCell]; omega
    · rw [set_block (i := 0) hB7]; rfl
    · refine ownsRow_setCell_below ?_ (a := ⟨R, 0, none⟩) hR _
      rw [flatI_app, List.length_append]
      exact hown
  have HKP : Hid (KeepB R w (w7.setCell ⟨R, 0, none⟩ (.slice (some ⟨g, 0, none⟩) (l.length + 1) cap7))) := by
    intro k hk hkR hkr
    rw [rowB_of HBK.out] at hkr
    refine ⟨?_, ?_⟩
    · rw [Below.heap_setCell _ _ _ _ hkR]
      exact (hgrow.block k (by simp; omega) (fun e => hkr e.symm)).trans (Below.heap_alloc w _ _ hk)
    · rw [rowB_of (v := .slice (some ⟨g, 0, none⟩) (l.length + 1) cap7) (by rw [set_block (i := 0) hB7]; rfl)]
      intro e
      have e2 : g = k := by simpa [Value.ownBlock] using e
      rcases hat with h' | h'
      · exact hkr (by rw [h', e2])
      · omega
  clear hown hgrow hat hlt hne hB7 hbel c0
  go_wp2_with fail
  first | go_end0 | refine bodyPost_ret (results_none rfl _ _ _) rfl ?_
  exact ⟨rfl, HX.out, HKP.out⟩
theorem w_fields_any (R base : Nat) (l : List It) (n : Nat) (w : World) (h : WrAt R base w l) (hl : l.length ≤ 1000) : Calls Tryz.prog 36 #[.pointer (some ⟨R, 0, none⟩), .int .u64 n] w fun e w' => e = .returned (.tuple #[]) ∧ WrAt R base w' (l ++ [⟨7, n, ⟨#[]⟩⟩]) ∧ Below R w w' :=
  (w_fields_keep R base l n w h hl).mono (by rintro e w' ⟨h1, h2, _⟩; exact ⟨h1, h2⟩)
set_option maxRecDepth 100000 in
set_option maxHeartbeats 1000000 in
theorem w_fixed_keep (R base : Nat) (l : List It) (s : ByteArray) (w : World) (h : WrAt R base w l) (hl : l.length ≤ 1000) : Calls Tryz.prog 38 #[.pointer (some ⟨R, 0, none⟩), .string s] w fun e w' => e = .returned (.tuple #[]) ∧ (WrAt R base w' (l ++ [⟨4, 0, s⟩]) ∧ Below R w w') ∧ KeepB R w w' := by
  obtain ⟨hR, hb, v, hB, ho⟩ := h
  obtain ⟨i0, hi, hz0, hz1, hz2⟩ := info_parts Tryz.infoItm
  have HII : Hid (Tryz.prog.info? 69 = some i0) := hi
  have HO : Hid (OwnIt base w v l) := ho
  have HBK : Hid (w.heap[R]? = some (.cells #[v] 74 (0, 0))) := hB
  have c0 : w.cell? ⟨R, 0, none⟩ = some v := by rw [cell_of_row w R 0 _ _ _ hB]; rfl
  obtain ⟨ad, cap, rfl, h1, h2, _⟩ := ho.form
  unfold maxLen at h2
  have hRs : R < w.heap.size := blk_lt hB
  clear hi ho hB
  go_enter Tryz.func38, Tryz.ntmps38
  go_wp2_with (at_builtin; refine wpList_append_lies _ rfl _ _ 26 rfl base 69 i0 (.agg #[.int .i64 0, .int .u64 0, .string ByteArray.empty]) 3 32 Tryz.underlying26 HII.out hz0 hz1 hz2 rfl (by decide) (.slice ad l.length cap) l.length (flatI l) rfl (HO.out.alloc _) ⟨w.heap.size, 0, none⟩ 1 1 (flatI [⟨4, 0, s⟩]) rfl rfl ?c1 (flatI_one _) (by omega) ?c3 ?c4 ?c5 (w.heap.size + 1) (by simp) ?_)
  case c1 => exact World.news_of_block (heap_alloc_new w _)
  case c3 => unfold maxLen; omega
  case c4 => omega
  case c5 => simp; omega
  intro g cap7 w7 hown hgrow hat hlt
  have hne : some R ≠ (Value.slice ad l.length cap).ownBlock := fun e => by have := (World.ownsRow.lt HO.out R e.symm).1; omega
  have hB7 : w7.heap[R]? = some (.cells #[.slice ad l.length cap] 74 (0, 0)) := (hgrow.block R (by simp; omega) hne).trans ((Below.heap_alloc w _ _ hRs).trans HBK.out)
  have d0 : w7.cell? ⟨R, 0, none⟩ = some (.slice ad l.length cap) := by rw [cell_of_row w7 R 0 _ _ _ hB7]; rfl
  have f0 : w7.frozen? ⟨R, 0, none⟩ = false := by simp [World.frozen?, hB7]
  have hbel : Below R w w7 := by
    have b1 : Below R w (w.alloc (.cells #[.int .i64 4, .int .u64 0, .string s] 69)) := (Below.refl _ _).alloc (by omega) _
    exact ⟨hgrow.os.trans b1.os, hgrow.tape.trans b1.tape, hgrow.output.trans b1.output, Nat.le_trans b1.size hgrow.size, fun k hk => (hgrow.block k (by simp; omega) (fun e => by have := (World.ownsRow.lt HO.out k e.symm).1; omega)).trans (b1.block k hk)⟩
  have HX : Hid (WrAt R base (w7.setCell ⟨R, 0, none⟩ (.slice (some ⟨g, 0, none⟩) (l.length + 1) cap7)) (l ++ [⟨4, 0, s⟩]) ∧ Below R w (w7.setCell ⟨R, 0, none⟩ (.slice (some ⟨g, 0, none⟩) (l.length + 1) cap7))) := by
    refine ⟨⟨hR, ?_, .slice (some ⟨g, 0, none⟩) (l.length + 1) cap7, ?_, ?_⟩, hbel.setCell (p := ⟨R, 0, none⟩) (Nat.le_refl _) _⟩
    · have := hbel.size; simp [World.setCell]; omega
    · rw [set_block (i := 0) hB7]; rfl
    · refine ownsRow_setCell_below ?_ (a := ⟨R, 0, none⟩) hR _
      rw [flatI_app, List.length_append]
      exact hown
  have HKP : Hid (KeepB R w (w7.setCell ⟨R, 0, none⟩ (.slice (some ⟨g, 0, none⟩) (l.length + 1) cap7))) := by
    intro k hk hkR hkr
    rw [rowB_of HBK.out] at hkr
    refine ⟨?_, ?_⟩
    · rw [Below.heap_setCell _ _ _ _ hkR]
      exact (hgrow.block k (by simp; omega) (fun e => hkr e.symm)).trans (Below.heap_alloc w _ _ hk)
    · rw [rowB_of (v := .slice (some ⟨g, 0, none⟩) (l.length + 1) cap7) (by rw [set_block (i := 0) hB7]; rfl)]
      intro e
      have e2 : g = k := by simpa [Value.ownBlock] using e
      rcases hat with h' | h'
      · exact hkr (by rw [h', e2])
      · omega
  clear hown hgrow hat hlt hne hB7 hbel c0
  go_wp2_with fail
  first | go_end0 | refine bodyPost_ret (results_none rfl _ _ _) rfl ?_
  exact ⟨rfl, HX.out, HKP.out⟩
theorem w_fixed_any (R base : Nat) (l : List It) (s : ByteArray) (w : World) (h : WrAt R base w l) (hl : l.length ≤ 1000) : Calls Tryz.prog 38 #[.pointer (some ⟨R, 0, none⟩), .string s] w fun e w' => e = .returned (.tuple #[]) ∧ WrAt R base w' (l ++ [⟨4, 0, s⟩]) ∧ Below R w w' :=
  (w_fixed_keep R base l s w h hl).mono (by rintro e w' ⟨h1, h2, _⟩; exact ⟨h1, h2⟩)
set_option maxRecDepth 100000 in
set_option maxHeartbeats 1000000 in
theorem w_text_keep (R base : Nat) (l : List It) (s : ByteArray) (w : World) (h : WrAt R base w l) (hl : l.length ≤ 1000) : Calls Tryz.prog 39 #[.pointer (some ⟨R, 0, none⟩), .string s] w fun e w' => e = .returned (.tuple #[]) ∧ (WrAt R base w' (l ++ [⟨3, 0, s⟩]) ∧ Below R w w') ∧ KeepB R w w' := by
  obtain ⟨hR, hb, v, hB, ho⟩ := h
  obtain ⟨i0, hi, hz0, hz1, hz2⟩ := info_parts Tryz.infoItm
  have HII : Hid (Tryz.prog.info? 69 = some i0) := hi
  have HO : Hid (OwnIt base w v l) := ho
  have HBK : Hid (w.heap[R]? = some (.cells #[v] 74 (0, 0))) := hB
  have c0 : w.cell? ⟨R, 0, none⟩ = some v := by rw [cell_of_row w R 0 _ _ _ hB]; rfl
  obtain ⟨ad, cap, rfl, h1, h2, _⟩ := ho.form
  unfold maxLen at h2
  have hRs : R < w.heap.size := blk_lt hB
  clear hi ho hB
  go_enter Tryz.func39, Tryz.ntmps39
  go_wp2_with (at_builtin; refine wpList_append_lies _ rfl _ _ 26 rfl base 69 i0 (.agg #[.int .i64 0, .int .u64 0, .string ByteArray.empty]) 3 32 Tryz.underlying26 HII.out hz0 hz1 hz2 rfl (by decide) (.slice ad l.length cap) l.length (flatI l) rfl (HO.out.alloc _) ⟨w.heap.size, 0, none⟩ 1 1 (flatI [⟨3, 0, s⟩]) rfl rfl ?c1 (flatI_one _) (by omega) ?c3 ?c4 ?c5 (w.heap.size + 1) (by simp) ?_)
  case c1 => exact World.news_of_block (heap_alloc_new w _)
  case c3 => unfold maxLen; omega
  case c4 => omega
  case c5 => simp; omega
  intro g cap7 w7 hown hgrow hat hlt
  have hne : some R ≠ (Value.slice ad l.length cap).ownBlock := fun e => by have := (World.ownsRow.lt HO.out R e.symm).1; omega
  have hB7 : w7.heap[R]? = some (.cells #[.slice ad l.length cap] 74 (0, 0)) := (hgrow.block R (by simp; omega) hne).trans ((Below.heap_alloc w _ _ hRs).trans HBK.out)
  have d0 : w7.cell? ⟨R, 0, none⟩ = some (.slice ad l.length cap) := by rw [cell_of_row w7 R 0 _ _ _ hB7]; rfl
  have f0 : w7.frozen? ⟨R, 0, none⟩ = false := by simp [World.frozen?, hB7]
  have hbel : Below R w w7 := by
    have b1 : Below R w (w.alloc (.cells #[.int .i64 3, .int .u64 0, .string s] 69)) := (Below.refl _ _).alloc (by omega) _
    exact ⟨hgrow.os.trans b1.os, hgrow.tape.trans b1.tape, hgrow.output.trans b1.output, Nat.le_trans b1.size hgrow.size, fun k hk => (hgrow.block k (by simp; omega) (fun e => by have := (World.ownsRow.lt HO.out k e.symm).1; omega)).trans (b1.block k hk)⟩
  have HX : Hid (WrAt R base (w7.setCell ⟨R, 0, none⟩ (.slice (some ⟨g, 0, none⟩) (l.length + 1) cap7)) (l ++ [⟨3, 0, s⟩]) ∧ Below R w (w7.setCell ⟨R, 0, none⟩ (.slice (some ⟨g, 0, none⟩) (l.length + 1) cap7))) := by
    refine ⟨⟨hR, ?_, .slice (some ⟨g, 0, none⟩) (l.length + 1) cap7, ?_, ?_⟩, hbel.setCell (p := ⟨R, 0, none⟩) (Nat.le_refl _) _⟩
    · have := hbel.size; simp [World.setCell]; omega
    · rw [set_block (i := 0) hB7]; rfl
    · refine ownsRow_setCell_below ?_ (a := ⟨R, 0, none⟩) hR _
      rw [flatI_app, List.length_append]
      exact hown
  have HKP : Hid (KeepB R w (w7.setCell ⟨R, 0, none⟩ (.slice (some ⟨g, 0, none⟩) (l.length + 1) cap7))) := by
    intro k hk hkR hkr
    rw [rowB_of HBK.out] at hkr
    refine ⟨?_, ?_⟩
    · rw [Below.heap_setCell _ _ _ _ hkR]
      exact (hgrow.block k (by simp; omega) (fun e => hkr e.symm)).trans (Below.heap_alloc w _ _ hk)
    · rw [rowB_of (v := .slice (some ⟨g, 0, none⟩) (l.length + 1) cap7) (by rw [set_block (i := 0) hB7]; rfl)]
      intro e
      have e2 : g = k := by simpa [Value.ownBlock] using e
      rcases hat with h' | h'
      · exact hkr (by rw [h', e2])
      · omega
  clear hown hgrow hat hlt hne hB7 hbel c0
  go_wp2_with fail
  first | go_end0 | refine bodyPost_ret (results_none rfl _ _ _) rfl ?_
  exact ⟨rfl, HX.out, HKP.out⟩
theorem w_text_any (R base : Nat) (l : List It) (s : ByteArray) (w : World) (h : WrAt R base w l) (hl : l.length ≤ 1000) : Calls Tryz.prog 39 #[.pointer (some ⟨R, 0, none⟩), .string s] w fun e w' => e = .returned (.tuple #[]) ∧ WrAt R base w' (l ++ [⟨3, 0, s⟩]) ∧ Below R w w' :=
  (w_text_keep R base l s w h hl).mono (by rintro e w' ⟨h1, h2, _⟩; exact ⟨h1, h2⟩)
end Go.Proofs.YtipmckdlnipgkaaGreatDoor
