/- A reader of items: contracts. -/
import Derived.Test.YtelbmcgpelkakaaGreatDoorSNa
import Derived.Test.YtelbmcgpelkakaaGreatDoorS3j
import Derived.Test.YtelbmcgpelkakaaGreatDoorS3l
import Derived.Test.YtelbmcgpelkakaaGreatDoorSh
namespace Go.Proofs.YtelbmcgpelkakaaGreatDoor
open Go.RowKit Go.Sort
set_option linter.unusedVariables false
/-- A reader at block R that stands at place q of items that lie in a block below it. -/
structure RdR (R b o C : Nat) (vs : List It) (q : Nat) (w : World) : Prop where
  cell : ∃ v, w.heap[R]? = some (.cells #[v] 65 (0, 0)) ∧ FromQ b o C vs q v
  its : ItemsAt R w b o C vs
theorem RdR.grown {R b o C q : Nat} {vs : List It} {w w' : World} (h : RdR R b o C vs q w) (hg : w.grownBy w' none) : RdR R b o C vs q w' := by
  obtain ⟨⟨v, hv, hf⟩, hi⟩ := h
  have hR := blk_lt hv
  refine ⟨⟨v, (hg.block R hR (by simp)).trans hv, hf⟩, ?_⟩
  refine ⟨hi.small, hi.room, hi.most, hi.wf, hi.low, fun i hl => ?_⟩
  have hb : b < R := hi.low.resolve_left (by omega)
  have e : ∀ m, w'.cell? ⟨b, m, none⟩ = w.cell? ⟨b, m, none⟩ := fun m => World.cell?_of_block (w := w) (a := ⟨b, m, none⟩) (hg.block b (by omega) (by simp))
  rw [e, e, e]
  exact hi.cells i hl
theorem gb_setR (w : World) (R : Nat) (v : Value) : w.grownBy (w.setCell ⟨R, 0, none⟩ v) (some R) :=
  ⟨rfl, rfl, rfl, by simp [World.setCell], fun k hk hne => Below.heap_setCell _ _ _ _ (fun e => hne (by rw [e]))⟩
theorem gb_trR {w w1 w2 : World} {r : Option Nat} (h1 : w.grownBy w1 r) (h2 : w1.grownBy w2 r) : w.grownBy w2 r :=
  ⟨h2.os.trans h1.os, h2.tape.trans h1.tape, h2.output.trans h1.output, Nat.le_trans h1.size h2.size, fun k hk hne => (h2.block k (Nat.lt_of_lt_of_le hk h1.size) hne).trans (h1.block k hk hne)⟩
theorem gb_any {w w1 : World} {r : Option Nat} (h : w.grownBy w1 none) : w.grownBy w1 r := ⟨h.os, h.tape, h.output, h.size, fun k hk _ => h.block k hk (by simp)⟩
theorem Tryz.szItm : (Tryz.prog.info? 62).map (·.size) = some 3 := by kernel_rfl
theorem RdR.step {R b o C q : Nat} {vs : List It} {w : World} (h : RdR R b o C vs q w) (v : Value) (hf : FromQ b o C vs (q + 1) v) : RdR R b o C vs (q + 1) (w.setCell ⟨R, 0, none⟩ v) := by
  obtain ⟨⟨v0, hv, _⟩, hi⟩ := h
  refine ⟨⟨v, by rw [set_block (i := 0) hv v]; simp, hf⟩, hi.below ?_⟩
  exact (Below.refl _ _).setCell (p := ⟨R, 0, none⟩) (Nat.le_refl _) _
theorem blk2 (w : World) (R : Nat) (v : Value) (X Y : Obj) : (((w.setCell ⟨R, 0, none⟩ v).alloc X).alloc Y).heap[w.heap.size]? = some X := by
  have hs : (w.setCell ⟨R, 0, none⟩ v).heap.size = w.heap.size := by simp [World.setCell]
  rw [Below.heap_alloc _ _ _ (by simp [World.setCell]), ← hs]
  exact heap_alloc_new _ _
set_option maxRecDepth 100000 in
set_option maxHeartbeats 2000000 in
theorem next_any (R b o C q : Nat) (vs : List It) (w : World) (h : RdR R b o C vs q w) (hq : q < vs.length) : Calls Tryz.prog 78 #[.pointer (some ⟨R, 0, none⟩)] w fun e w' => e = .returned (.agg #[.int .i64 vs[q].k, .int .u64 vs[q].n, .string vs[q].s]) ∧ RdR R b o C vs (q + 1) w' ∧ w.grownBy w' (some R) := by
  obtain ⟨v, hv, hf⟩ := h.cell
  have hv' := hf.at hq
  subst hv'
  have hR := blk_lt hv
  have hbR : b < R := h.its.low.resolve_left (by omega)
  have hbw : b < w.heap.size := by omega
  have hroom := h.its.room
  have hmost := h.its.most
  unfold maxLen at hmost
  have cR : w.cell? ⟨R, 0, none⟩ = some (.slice (some ⟨b, o + q * 3, none⟩) (vs.length - q) (C - q)) := by rw [cell_of_row w R 0 _ _ _ hv]; rfl
  have fR : w.frozen? ⟨R, 0, none⟩ = false := by simp [World.frozen?, hv]
  obtain ⟨c0, c1, c2⟩ := h.its.cells q hq
  have HH : Hid (RdR R b o C vs q w) := h
  have hl0 : 0 < vs.length - q := by omega
  have HF : Hid (∀ ad, FromQ b o C vs (q + 1) (.slice ad (vs.length - (q + 1)) (C - (q + 1))) ∨ ad ≠ some ⟨b, o + (q + 1) * 3, none⟩) := fun ad => by
    by_cases e : ad = some ⟨b, o + (q + 1) * 3, none⟩
    · exact .inl ⟨ad, rfl, .inr e⟩
    · exact .inr e
  obtain ⟨k, hk⟩ : ∃ k, vs[q].k = k := ⟨_, rfl⟩
  obtain ⟨n, hn⟩ : ∃ n, vs[q].n = n := ⟨_, rfl⟩
  obtain ⟨s, hs⟩ : ∃ s, vs[q].s = s := ⟨_, rfl⟩
  rw [hk] at c0 ⊢
  rw [hn] at c1 ⊢
  rw [hs] at c2 ⊢
  clear hk hn hs hf hv h
  go_enter Tryz.func78, Tryz.ntmps78
  go_wp2_with fail
  · refine bodyPost_ret (v := .agg #[.int .i64 k, .int .u64 n, .string s]) (results_cell_row Tryz.results78 _ _ w.heap.size _ _ _ _ rfl (blk2 _ _ _ _ _) Tryz.underlying62 rfl Tryz.szItm) rfl ⟨rfl, ?_, ?_⟩
    · exact (HH.out.step _ ⟨_, by congr 1 <;> omega, .inl (by omega)⟩).grown (gb_bel (((Below.refl _ _).alloc (Nat.le_refl _) _).alloc (by simp) _))
    · exact gb_trR (gb_setR _ _ _) (gb_any (gb_bel (((Below.refl _ _).alloc (Nat.le_refl _) _).alloc (by simp) _)))
  · refine bodyPost_ret (v := .agg #[.int .i64 k, .int .u64 n, .string s]) (results_cell_row Tryz.results78 _ _ w.heap.size _ _ _ _ rfl (blk2 _ _ _ _ _) Tryz.underlying62 rfl Tryz.szItm) rfl ⟨rfl, ?_, ?_⟩
    · exact (HH.out.step _ ⟨some ⟨b, o + q * 3 + 3, none⟩, by congr 1 <;> omega, .inr (by congr 2; omega)⟩).grown (gb_bel (((Below.refl _ _).alloc (Nat.le_refl _) _).alloc (by simp) _))
    · exact gb_trR (gb_setR _ _ _) (gb_any (gb_bel (((Below.refl _ _).alloc (Nat.le_refl _) _).alloc (by simp) _)))
set_option maxRecDepth 100000 in
theorem fieldsR_any (R b o C q : Nat) (vs : List It) (w : World) (h : RdR R b o C vs q w) (hq : q < vs.length) : Calls Tryz.prog 58 #[.pointer (some ⟨R, 0, none⟩)] w fun e w' => e = .returned (.tuple #[]) ∧ RdR R b o C vs (q + 1) w' ∧ w.grownBy w' (some R) := by
  have HN : Hid _ := (show Hid _ from next_any R b o C q vs w h hq)
  clear h
  go_enter Tryz.func58, Tryz.ntmps58
  go_wp2_with fail
  refine Calls.mono HN.out ?_
  rintro e w1 ⟨rfl, h1, h2⟩
  have HX := (show Hid _ from And.intro h1 h2)
  clear h1 h2
  go_wp2_with fail
  first | go_end0 | refine bodyPost_ret (results_none rfl _ _ _) rfl ?_
  exact ⟨rfl, HX.out.1, HX.out.2⟩
theorem fldN (k n s : Value) (w : World) : (Instr.field 62 (.agg #[k, n, s]) 1).run Tryz.prog w = .ok n w := by
  simp [Instr.field, go_sem, asAgg, Result.andThen]
theorem fldS (k n s : Value) (w : World) : (Instr.field 62 (.agg #[k, n, s]) 2).run Tryz.prog w = .ok s w := by
  simp [Instr.field, go_sem, asAgg, Result.andThen]
set_option maxRecDepth 100000 in
theorem numberR_any (R b o C q : Nat) (vs : List It) (w : World) (h : RdR R b o C vs q w) (hq : q < vs.length) : Calls Tryz.prog 59 #[.pointer (some ⟨R, 0, none⟩)] w fun e w' => e = .returned (.int .u64 vs[q].n) ∧ RdR R b o C vs (q + 1) w' ∧ w.grownBy w' (some R) := by
  have HN : Hid _ := (show Hid _ from next_any R b o C q vs w h hq)
  clear h
  go_enter Tryz.func59, Tryz.ntmps59
  go_wp2_with fail
  refine Calls.mono HN.out ?_
  rintro e w1 ⟨rfl, h1, h2⟩
  have HX := (show Hid _ from And.intro h1 h2)
  clear h1 h2
  have hfl := fldN (.int .i64 vs[q].k) (.int .u64 vs[q].n) (.string vs[q].s)
  go_wp2_with fail
  go_ret
  exact ⟨rfl, HX.out.1, HX.out.2⟩
theorem clone_any (s : ByteArray) (w : World) (hs : s.size ≤ 281474976710656) : Calls Tryz.prog 79 #[.string s] w fun e w' => e = .returned (.string s) ∧ Below w.heap.size w w' := by
  have HC : Hid _ := (show Hid _ from Tryz.stringslite_Clone s w hs)
  go_enter Tryz.func79, Tryz.ntmps79
  go_wp2_with fail
  refine Calls.mono HC.out ?_
  rintro e w1 ⟨rfl, h1⟩
  have HX : Hid _ := (show Hid _ from h1)
  clear h1
  go_wp2_with fail
  go_ret
  exact ⟨rfl, HX.out⟩
set_option maxRecDepth 100000 in
theorem textR_any (R b o C q : Nat) (vs : List It) (w : World) (h : RdR R b o C vs q w) (hq : q < vs.length) : Calls Tryz.prog 60 #[.pointer (some ⟨R, 0, none⟩)] w fun e w' => e = .returned (.string vs[q].s) ∧ RdR R b o C vs (q + 1) w' ∧ w.grownBy w' (some R) := by
  have HN : Hid _ := (show Hid _ from next_any R b o C q vs w h hq)
  have hz : vs[q].s.size ≤ 1048577 := (h.its.wf _ (List.getElem_mem hq)).2.2
  obtain ⟨s, hs⟩ : ∃ s, vs[q].s = s := ⟨_, rfl⟩
  rw [hs] at hz HN ⊢
  clear h hs
  go_enter Tryz.func60, Tryz.ntmps60
  go_wp2_with fail
  refine Calls.mono HN.out ?_
  rintro e w1 ⟨rfl, h1, h2⟩
  have HX := (show Hid _ from And.intro h1 h2)
  clear h1 h2
  have hfl := fldS (.int .i64 vs[q].k) (.int .u64 vs[q].n) (.string s)
  go_wp2_with fail
  refine (clone_any s w1 (by omega)).mono ?_
  rintro e w2 ⟨rfl, h3⟩
  have HY : Hid _ := (show Hid _ from And.intro (HX.out.1.grown (gb_bel h3)) (gb_trR HX.out.2 (gb_any (gb_bel h3))))
  clear h3
  go_wp2_with fail
  go_ret
  exact ⟨rfl, HY.out.1, HY.out.2⟩
end Go.Proofs.YtelbmcgpelkakaaGreatDoor
