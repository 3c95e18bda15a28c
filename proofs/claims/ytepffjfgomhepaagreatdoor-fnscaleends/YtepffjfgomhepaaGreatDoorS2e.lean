/- The program's trees of types in memory. -/
import Derived.Test.YtepffjfgomhepaaGreatDoorS2d
import Derived.Deep.AppendLies
namespace Go.Proofs.YtepffjfgomhepaaGreatDoor
open Go.RowKit
set_option linter.unusedVariables false
theorem set_block {w : World} {N i : Nat} {cs : Array Value} {t : TypeId} {fr : Nat × Nat} (h : w.heap[N]? = some (.cells cs t fr)) (v : Value) : (w.setCell ⟨N, i, none⟩ v).heap[N]? = some (.cells (cs.setIfInBounds i v) t fr) := by
  have hlt : N < w.heap.size := by
    rcases Nat.lt_or_ge N w.heap.size with h' | h'
    · exact h'
    · simp [Array.getElem?_eq_none h'] at h
  have h' : w.heap[N] = .cells cs t fr := by simpa [Array.getElem?_eq_getElem hlt] using h
  show (w.heap.modify N _)[N]? = _
  rw [Array.getElem?_eq_getElem (by simpa using hlt), Array.getElem_modify_self, h']
  rfl
theorem blk_lt {w : World} {b : Nat} {o : Obj} (h : w.heap[b]? = some o) : b < w.heap.size := by
  rcases Nat.lt_or_ge b w.heap.size with h' | h'
  · exact h'
  · simp [Array.getElem?_eq_none h'] at h
/-- The tree of the type at place a, f levels being left, its first node at block u, all of it in blocks of S. -/
def TreeAt (ts : List (Int × Int)) : Nat → World → (Nat → Prop) → Nat → Nat → Prop
  | 0, _, _, _, _ => False
  | f + 1, w, S, u, a => S u ∧ ∃ (ha : a < ts.length) (e : Nat) (ad : Option Addr) (cap : Nat), tyOk ts[a].1 ts[a].2 = true ∧ en ts (f + 1) a = some e ∧
      w.cell? ⟨u, 0, none⟩ = some (.int .i64 ts[a].1) ∧ w.cell? ⟨u, 1, none⟩ = some (.int .i64 ts[a].2) ∧ w.cell? ⟨u, 2, none⟩ = some (.int .i64 a) ∧ w.cell? ⟨u, 3, none⟩ = some (.int .i64 e) ∧
      w.cell? ⟨u, 4, none⟩ = some (.int .i64 (6 - f : Nat)) ∧ w.cell? ⟨u, 5, none⟩ = some (.slice ad (kids ts[a].1 ts[a].2) cap) ∧ kids ts[a].1 ts[a].2 ≤ cap ∧ cap ≤ maxLen ∧
      (kids ts[a].1 ts[a].2 = 0 ∨ ∃ g, ad = some ⟨g, 0, none⟩ ∧ S g ∧
        ∀ j, j < kids ts[a].1 ts[a].2 → ∃ c p, iter (en ts f) (a + 1) j = some p ∧ w.cell? ⟨g, j, none⟩ = some (.pointer (some ⟨c, 0, none⟩)) ∧ TreeAt ts f w S c p)
theorem TreeAt.keep {ts : List (Int × Int)} {S S' : Nat → Prop} {w w' : World} (hS : ∀ b, S b → S' b) (hw : ∀ b, S b → w'.heap[b]? = w.heap[b]?) : ∀ {f u a : Nat}, TreeAt ts f w S u a → TreeAt ts f w' S' u a := by
  intro f
  induction f with
  | zero => intro u a h; exact h
  | succ f ih =>
    intro u a h
    obtain ⟨hu, ha, e, ad, cap, h1, h2, c0, c1, c2, c3, c4, c5, h3, h4, h5⟩ := h
    have hc : ∀ i, w'.cell? ⟨u, i, none⟩ = w.cell? ⟨u, i, none⟩ := fun i => World.cell?_of_block (w := w) (a := ⟨u, i, none⟩) (hw u hu)
    refine ⟨hS u hu, ha, e, ad, cap, h1, h2, (hc 0).trans c0, (hc 1).trans c1, (hc 2).trans c2, (hc 3).trans c3, (hc 4).trans c4, (hc 5).trans c5, h3, h4, ?_⟩
    rcases h5 with h5 | ⟨g, hg, hgS, hk⟩
    · exact .inl h5
    · refine .inr ⟨g, hg, hS g hgS, fun j hj => ?_⟩
      obtain ⟨c, p, hp, hcell, ht⟩ := hk j hj
      exact ⟨c, p, hp, (World.cell?_of_block (w := w) (a := ⟨g, j, none⟩) (hw g hgS)).trans hcell, ih ht⟩
/-- What a tree says of its first node. -/
theorem TreeAt.end {ts : List (Int × Int)} {f u a : Nat} {w : World} {S : Nat → Prop} (h : TreeAt ts f w S u a) : S u ∧ ∃ e, en ts f a = some e ∧ w.cell? ⟨u, 3, none⟩ = some (.int .i64 e) := by
  cases f with
  | zero => exact h.elim
  | succ f =>
    obtain ⟨hu, ha, e, ad, cap, h1, h2, c0, c1, c2, c3, _⟩ := h
    exact ⟨hu, e, h2, c3⟩
set_option maxHeartbeats 400000 in
theorem partsOf_any (k n : Int) (w : World) (hok : tyOk k n = true) : Calls Tryz.prog 79 #[.agg #[.int .i64 k, .int .i64 n]] w fun e w' => e = .returned (.int .i64 (kids k n)) ∧ Below w.heap.size w w' := by
  simp only [tyOk, decide_eq_true_eq] at hok
  have hk : k = 1 ∨ k = 2 ∨ k = 3 ∨ k = 4 ∨ k = 5 ∨ k = 6 ∨ k = 7 ∨ k = 8 ∨ k = 9 := by omega
  rcases hk with rfl | rfl | rfl | rfl | rfl | rfl | rfl | rfl | rfl
  all_goals
    go_enter Tryz.func79, Tryz.ntmps79
    go_wp2
    go_ret
    exact ⟨by simp [kids] <;> omega, bel1 _ _⟩
/-- Where the parsing of a node stands behind j of its parts: its block N, the parts' slice v, the parts' blocks us. -/
structure PtInv (ts : List (Int × Int)) (f a N : Nat) (k n d : Int) (w wr : World) (j x : Nat) (v : Value) (us : List Nat) : Prop where
  pos : iter (en ts f) (a + 1) j = some x
  bel : Below w.heap.size w wr
  low : w.heap.size ≤ N
  node : wr.heap[N]? = some (.cells #[.int .i64 k, .int .i64 n, .int .i64 a, .int .i64 x, .int .i64 d, v] 108 (0, 0))
  len : us.length = j
  row : wr.ownsRow (N + 1) 67 1 v j (us.map fun u => .pointer (some ⟨u, 0, none⟩))
  kin : ∀ i (h : i < us.length), ∃ p, iter (en ts f) (a + 1) i = some p ∧ TreeAt ts f wr (fun b => N < b ∧ b < wr.heap.size ∧ some b ≠ v.ownBlock) us[i] p
theorem PtInv.start {ts : List (Int × Int)} {f a : Nat} {k n d : Int} {w w1 w2 : World} (hb1 : Below w.heap.size w w1)
    (hb2 : Below (w1.heap.size + 1) (w1.alloc (.cells #[.int .i64 k, .int .i64 n, .int .i64 a, .int .i64 ((a : Int) + 1), .int .i64 d, .slice none 0 0] 108)) w2) : PtInv ts f a w1.heap.size k n d w w2 0 (a + 1) (.slice none 0 0) [] := by
  refine ⟨rfl, ?_, hb1.size, ?_, rfl, World.ownsRow_nil _ _ _ _, fun i h => by simp at h⟩
  · exact (hb1.alloc hb1.size _).trans (hb2.mono (by have := hb1.size; omega))
  · rw [hb2.block w1.heap.size (by omega), heap_alloc_new]
    simp
theorem gb_bel {w w' : World} (h : Below w.heap.size w w') : w.grownBy w' none := ⟨h.os, h.tape, h.output, h.size, fun k hk _ => h.block k hk⟩
/-- One part more: parsed in w1, appended in w2, the node's two cells set. -/
theorem PtInv.next {ts : List (Int × Int)} {f a N : Nat} {k n d : Int} {w wr w1 w2 : World} {j x y u g cap : Nat} {v : Value} {us : List Nat} {o : Obj}
    (h : PtInv ts f a N k n d w wr j x v us) (hb1 : Below wr.heap.size wr w1) (ht : TreeAt ts f w1 (fun b => wr.heap.size ≤ b ∧ b < w1.heap.size) u x) (hy : en ts f x = some y)
    (hg : (w1.alloc o).grownBy w2 v.ownBlock) (hat : v.ownBlock = some g ∨ g = w1.heap.size + 1) (hgl : g < w2.heap.size)
    (hrow : w2.ownsRow (N + 1) 67 1 (.slice (some ⟨g, 0, none⟩) (j + 1) cap) (j + 1) (us.map (fun u => Value.pointer (some ⟨u, 0, none⟩)) ++ [.pointer (some ⟨u, 0, none⟩)])) :
    PtInv ts f a N k n d w ((w2.setCell ⟨N, 5, none⟩ (.slice (some ⟨g, 0, none⟩) (j + 1) cap)).setCell ⟨N, 3, none⟩ (.int .i64 y)) (j + 1) y (.slice (some ⟨g, 0, none⟩) (j + 1) cap) (us ++ [u]) := by
  have hN := blk_lt h.node
  have hNg : N + 1 ≤ g := by
    have := hrow.lt g rfl
    omega
  have hown : ∀ b, v.ownBlock = some b → N + 1 ≤ b ∧ b < wr.heap.size := h.row.lt
  have hs1 := hb1.size
  have hs2 : w1.heap.size + 1 ≤ w2.heap.size := by have := hg.size; simpa using this
  have hsz : ((w2.setCell ⟨N, 5, none⟩ (.slice (some ⟨g, 0, none⟩) (j + 1) cap)).setCell ⟨N, 3, none⟩ (.int .i64 y)).heap.size = w2.heap.size := by simp [World.setCell]
  have hNo : some N ≠ v.ownBlock := fun e => by have := hown N e.symm; omega
  have hN2 : w2.heap[N]? = some (.cells #[.int .i64 k, .int .i64 n, .int .i64 a, .int .i64 x, .int .i64 d, v] 108 (0, 0)) := by
    rw [hg.block N (by simp; omega) hNo, Below.heap_alloc _ _ _ (by omega), hb1.block N hN]; exact h.node
  have far : ∀ b, b ≠ N → ((w2.setCell ⟨N, 5, none⟩ (.slice (some ⟨g, 0, none⟩) (j + 1) cap)).setCell ⟨N, 3, none⟩ (.int .i64 y)).heap[b]? = w2.heap[b]? := fun b hb => by
    rw [Below.heap_setCell _ _ _ _ hb, Below.heap_setCell _ _ _ _ hb]
  have old : ∀ b, b < w1.heap.size → b ≠ N → some b ≠ v.ownBlock → ((w2.setCell ⟨N, 5, none⟩ (.slice (some ⟨g, 0, none⟩) (j + 1) cap)).setCell ⟨N, 3, none⟩ (.int .i64 y)).heap[b]? = w1.heap[b]? := fun b hb hbN hbo => by
    rw [far b hbN, hg.block b (by simp; omega) hbo, Below.heap_alloc _ _ _ hb]
  refine ⟨by rw [iter_succ, h.pos]; exact hy, ?_, h.low, ?_, by simp [h.len], ?_, ?_⟩
  · have b1 : Below w.heap.size w w1 := h.bel.trans (hb1.mono h.bel.size)
    have b2 : Below w.heap.size w (w1.alloc o) := b1.alloc (by have := b1.size; omega) o
    have b3 : Below w.heap.size w w2 := b2.grown hg (by have := b2.size; omega) (fun q hq => by have := hown q hq; have := h.low; omega)
    exact (b3.setCell (p := ⟨N, 5, none⟩) h.low _).setCell (p := ⟨N, 3, none⟩) h.low _
  · have e1 := set_block (i := 5) hN2 (.slice (some ⟨g, 0, none⟩) (j + 1) cap)
    have e2 := set_block (i := 3) e1 (.int .i64 y)
    rw [e2]; simp
  · have r1 := ownsRow_setCell_below hrow (a := ⟨N, 5, none⟩) (by simp) (.slice (some ⟨g, 0, none⟩) (j + 1) cap)
    have r2 := ownsRow_setCell_below r1 (a := ⟨N, 3, none⟩) (by simp) (.int .i64 y)
    simpa using r2
  · intro i hi
    by_cases hij : i < us.length
    · obtain ⟨p, hp, htr⟩ := h.kin i hij
      refine ⟨p, hp, ?_⟩
      rw [List.getElem_append_left hij]
      refine htr.keep (fun b ⟨q1, q2, q3⟩ => ⟨q1, by rw [hsz]; omega, ?_⟩) (fun b ⟨q1, q2, q3⟩ => ?_)
      · intro e
        have e' : b = g := by simpa [Value.ownBlock] using e
        rcases hat with hat | hat
        · exact q3 (by rw [hat, e'])
        · omega
      · rw [old b (by omega) (by omega) q3, hb1.block b q2]
    · have hi' : i = us.length := by simp at hi; omega
      subst hi'
      refine ⟨x, by rw [h.len]; exact h.pos, ?_⟩
      rw [List.getElem_append_right (Nat.le_refl _)]
      simp only [Nat.sub_self, List.getElem_cons_zero]
      refine ht.keep (fun b ⟨q1, q2⟩ => ⟨by omega, by rw [hsz]; omega, ?_⟩) (fun b ⟨q1, q2⟩ => ?_)
      · intro e
        have e' : b = g := by simpa [Value.ownBlock] using e
        rcases hat with hat | hat
        · have := hown g hat; omega
        · omega
      · exact old b q2 (by omega) (fun e => by have := hown b e.symm; omega)
/-- All parts are there: the tree. -/
theorem PtInv.done {ts : List (Int × Int)} {f a N : Nat} {k n d : Int} {w wr : World} {j x : Nat} {v : Value} {us : List Nat} (h : PtInv ts f a N k n d w wr j x v us)
    (ha : a < ts.length) (hk : ts[a].1 = k) (hn : ts[a].2 = n) (ht : tyOk k n = true) (hj : j = kids k n) (hd : d = (6 - f : Nat)) :
    TreeAt ts (f + 1) wr (fun b => w.heap.size ≤ b ∧ b < wr.heap.size) N a := by
  subst hk hn hj hd
  have hN := blk_lt h.node
  have hc : ∀ i, wr.cell? ⟨N, i, none⟩ = _ := fun i => cell_of_row wr N i _ _ _ h.node
  have hform : ∃ ad cap, v = .slice ad (kids ts[a].1 ts[a].2) cap ∧ kids ts[a].1 ts[a].2 ≤ cap ∧ cap ≤ maxLen ∧ (kids ts[a].1 ts[a].2 = 0 ∨ ∃ g, ad = some ⟨g, 0, none⟩) := by
    rcases h.row.2 with ⟨hv, h0⟩ | ⟨g, cap, cur, hv, hg, hh, h1, h2, _⟩
    · exact ⟨none, 0, by rw [hv, h0], by omega, by simp [maxLen], .inl h0⟩
    · exact ⟨_, cap, hv, h1, h2, .inr ⟨g, rfl⟩⟩
  obtain ⟨ad, cap, rfl, h1, h2, h3⟩ := hform
  refine ⟨⟨h.low, hN⟩, ha, x, ad, cap, ht, by rw [en_ok ha ht]; exact h.pos, by rw [hc]; simp, by rw [hc]; simp, by rw [hc]; simp, by rw [hc]; simp, by rw [hc]; simp, by rw [hc]; simp, h1, h2, ?_⟩
  rcases h3 with h3 | ⟨g, rfl⟩
  · exact .inl h3
  · have hgl := h.row.lt g rfl
    refine .inr ⟨g, rfl, ⟨by have := h.low; omega, hgl.2⟩, fun i hi => ?_⟩
    have hi' : i < us.length := by rw [h.len]; exact hi
    obtain ⟨p, hp, htr⟩ := h.kin i hi'
    refine ⟨us[i], p, hp, ?_, htr.keep (fun b ⟨q1, q2, _⟩ => ⟨by have := h.low; omega, q2⟩) (fun _ _ => rfl)⟩
    have := h.row.cellAt i (by simpa using hi)
    rw [this]
    simp [List.getElem?_eq_getElem hi']
end Go.Proofs.YtepffjfgomhepaaGreatDoor
