/- The program's trees of values in memory. -/
import Derived.Test.YtepffjfgomhepaaGreatDoorS3a
namespace Go.Proofs.YtepffjfgomhepaaGreatDoor
open Go.RowKit
set_option linter.unusedVariables false
/-- The tree of the value of the type at place a that begins at place q, f levels being left: x, all of it in blocks of S. -/
def VAt (ts : List (Int × Int)) (vs : List It) : Nat → World → (Nat → Prop) → Value → Nat → Nat → Prop
  | 0, _, _, _, _, _ => False
  | f + 1, w, S, x, a, q => ∃ (u : Nat) (ha : a < ts.length) (hq : q < vs.length), TreeAt ts (f + 1) w S u a ∧ fitsI ts[a].1 ts[a].2 vs[q] = true ∧
      (((ts[a].1 = 1 ∨ ts[a].1 = 2) ∧ x = .iface 137 (.agg #[.pointer (some ⟨u, 0, none⟩), .int .u64 vs[q].n])) ∨
       ((ts[a].1 = 3 ∨ ts[a].1 = 4) ∧ x = .iface 139 (.agg #[.pointer (some ⟨u, 0, none⟩), .string vs[q].s])) ∨
       ((ts[a].1 = 5 ∨ ts[a].1 = 6 ∨ ts[a].1 = 7) ∧ ∃ ad cap, x = .iface 155 (.agg #[.pointer (some ⟨u, 0, none⟩), .slice ad vs[q].n cap]) ∧ vs[q].n ≤ cap ∧ cap ≤ maxLen ∧
          (vs[q].n = 0 ∨ ∃ g, ad = some ⟨g, 0, none⟩ ∧ S g ∧ ∀ j, j < vs[q].n → ∃ y q', vit (ve ts vs f) (pl ts f a ts[a].1 vs[q].n) (q + 1) j = some q' ∧ w.cell? ⟨g, j, none⟩ = some y ∧ VAt ts vs f w S y (pl ts f a ts[a].1 vs[q].n j) q')) ∨
       ((ts[a].1 = 8 ∨ ts[a].1 = 9) ∧ ∃ y, x = .iface 157 (.agg #[.pointer (some ⟨u, 0, none⟩), .int .u64 vs[q].n, y]) ∧
          ((np ts[a].1 vs[q].n = 0 ∧ y = .nilIface) ∨ (0 < np ts[a].1 vs[q].n ∧ VAt ts vs f w S y (pl ts f a ts[a].1 vs[q].n 0) (q + 1)))))
theorem VAt.keep {ts : List (Int × Int)} {vs : List It} {S S' : Nat → Prop} {w w' : World} (hS : ∀ b, S b → S' b) (hw : ∀ b, S b → w'.heap[b]? = w.heap[b]?) : ∀ {f : Nat} {x : Value} {a q : Nat}, VAt ts vs f w S x a q → VAt ts vs f w' S' x a q := by
  intro f
  induction f with
  | zero => intro x a q h; exact h
  | succ f ih =>
    intro x a q h
    obtain ⟨u, ha, hq, ht, hf, h⟩ := h
    refine ⟨u, ha, hq, ht.keep hS hw, hf, ?_⟩
    rcases h with h | h | ⟨hk, ad, cap, hx, h1, h2, h3⟩ | ⟨hk, y, hx, h1⟩
    · exact .inl h
    · exact .inr (.inl h)
    · refine .inr (.inr (.inl ⟨hk, ad, cap, hx, h1, h2, ?_⟩))
      rcases h3 with h3 | ⟨g, hg, hgS, hp⟩
      · exact .inl h3
      · refine .inr ⟨g, hg, hS g hgS, fun j hj => ?_⟩
        obtain ⟨y, q', hq', hc, hv⟩ := hp j hj
        exact ⟨y, q', hq', (World.cell?_of_block (w := w) (a := ⟨g, j, none⟩) (hw g hgS)).trans hc, ih hv⟩
    · refine .inr (.inr (.inr ⟨hk, y, hx, ?_⟩))
      rcases h1 with h1 | ⟨h1, h2⟩
      · exact .inl h1
      · exact .inr ⟨h1, ih h2⟩
/-- What parseValue leaves. -/
def PvPost (ts : List (Int × Int)) (vs : List It) (f a q b o C : Nat) (S0 : Nat → Prop) (w : World) (e : Ending) (w' : World) : Prop :=
  Below w.heap.size w w' ∧
  ((ve ts vs f a q = none ∧ ∃ x, (x = .nilIface ∨ ∃ T z, x = .iface T z) ∧ e = .returned (.tuple #[x, .slice none 0 0, .bool false])) ∨
   (∃ q' T y v, ve ts vs f a q = some q' ∧ FromQ b o C vs q' v ∧ e = .returned (.tuple #[.iface T y, v, .bool true]) ∧ VAt ts vs f w' (fun c => S0 c ∨ (w.heap.size ≤ c ∧ c < w'.heap.size)) (.iface T y) a q))
/-- Where the parsing of a series stands behind j of its parts: its block N, the parts' slice v, the parts ys. -/
structure SeInv (ts : List (Int × Int)) (vs : List It) (f a q u N : Nat) (S0 : Nat → Prop) (ps : Nat → Nat) (w wr : World) (j x : Nat) (v : Value) (ys : List Value) : Prop where
  pos : vit (ve ts vs f) ps (q + 1) j = some x
  bel : Below w.heap.size w wr
  low : w.heap.size ≤ N
  node : wr.heap[N]? = some (.cells #[.pointer (some ⟨u, 0, none⟩), v] 155 (0, 0))
  len : ys.length = j
  one : ∀ y ∈ ys, y.oneCell' = true
  row : wr.ownsRow (N + 1) 70 1 v j ys
  kin : ∀ i (h : i < ys.length), ∃ p, vit (ve ts vs f) ps (q + 1) i = some p ∧ VAt ts vs f wr (fun c => S0 c ∨ (N < c ∧ c < wr.heap.size ∧ some c ≠ v.ownBlock)) ys[i] (ps i) p
theorem SeInv.start {ts : List (Int × Int)} {vs : List It} {f a q u : Nat} {S0 : Nat → Prop} {ps : Nat → Nat} {w : World} : SeInv ts vs f a q u w.heap.size S0 ps w (w.alloc (.cells #[.pointer (some ⟨u, 0, none⟩), .slice none 0 0] 155)) 0 (q + 1) (.slice none 0 0) [] :=
  ⟨rfl, bel1 _ _, Nat.le_refl _, heap_alloc_new w _, rfl, by simp, World.ownsRow_nil _ _ _ _, fun i h => by simp at h⟩
/-- One part more: parsed in w1, appended in w2, the node's cell set. -/
theorem SeInv.next {ts : List (Int × Int)} {vs : List It} {f a q u N : Nat} {S0 : Nat → Prop} {ps : Nat → Nat} {w wr w1 w2 : World} {j x y g cap : Nat} {v z : Value} {ys : List Value} {o : Obj}
    (h : SeInv ts vs f a q u N S0 ps w wr j x v ys) (hS0 : ∀ c, S0 c → c < w.heap.size) (hb1 : Below wr.heap.size wr w1) (hz : z.oneCell' = true) (ht : VAt ts vs f w1 (fun c => S0 c ∨ (wr.heap.size ≤ c ∧ c < w1.heap.size)) z (ps j) x) (hy : ve ts vs f (ps j) x = some y)
    (hg : (w1.alloc o).grownBy w2 v.ownBlock) (hat : v.ownBlock = some g ∨ g = w1.heap.size + 1) (hgl : g < w2.heap.size)
    (hrow : w2.ownsRow (N + 1) 70 1 (.slice (some ⟨g, 0, none⟩) (j + 1) cap) (j + 1) (ys ++ [z])) :
    SeInv ts vs f a q u N S0 ps w (w2.setCell ⟨N, 1, none⟩ (.slice (some ⟨g, 0, none⟩) (j + 1) cap)) (j + 1) y (.slice (some ⟨g, 0, none⟩) (j + 1) cap) (ys ++ [z]) := by
  have hN := blk_lt h.node
  have hNg : N + 1 ≤ g := by
    have := hrow.lt g rfl
    omega
  have hown : ∀ b, v.ownBlock = some b → N + 1 ≤ b ∧ b < wr.heap.size := h.row.lt
  have hs0 := h.bel.size
  have hlow := h.low
  have hs1 := hb1.size
  have hs2 : w1.heap.size + 1 ≤ w2.heap.size := by have := hg.size; simpa using this
  have hsz : (w2.setCell ⟨N, 1, none⟩ (.slice (some ⟨g, 0, none⟩) (j + 1) cap)).heap.size = w2.heap.size := by simp [World.setCell]
  have hNo : some N ≠ v.ownBlock := fun e => by have := hown N e.symm; omega
  have hN2 : w2.heap[N]? = some (.cells #[.pointer (some ⟨u, 0, none⟩), v] 155 (0, 0)) := by
    rw [hg.block N (by simp; omega) hNo, Below.heap_alloc _ _ _ (by omega), hb1.block N hN]; exact h.node
  have old : ∀ b, b < w1.heap.size → b ≠ N → some b ≠ v.ownBlock → (w2.setCell ⟨N, 1, none⟩ (.slice (some ⟨g, 0, none⟩) (j + 1) cap)).heap[b]? = w1.heap[b]? := fun b hb hbN hbo => by
    rw [Below.heap_setCell _ _ _ _ hbN, hg.block b (by simp; omega) hbo, Below.heap_alloc _ _ _ hb]
  have oldS : ∀ c, S0 c → c < w1.heap.size ∧ c ≠ N ∧ some c ≠ v.ownBlock ∧ c < wr.heap.size := fun c hc => by
    have := hS0 c hc
    exact ⟨by omega, by omega, fun e => by have := hown c e.symm; omega, by omega⟩
  refine ⟨by rw [vit_succ, h.pos]; exact hy, ?_, h.low, ?_, by simp [h.len], ?_, ?_, ?_⟩
  · have b1 : Below w.heap.size w w1 := h.bel.trans (hb1.mono h.bel.size)
    have b2 : Below w.heap.size w (w1.alloc o) := b1.alloc (by have := b1.size; omega) o
    have b3 : Below w.heap.size w w2 := b2.grown hg (by have := b2.size; omega) (fun q hq => by have := hown q hq; omega)
    exact b3.setCell (p := ⟨N, 1, none⟩) h.low _
  · have e1 := set_block (i := 1) hN2 (.slice (some ⟨g, 0, none⟩) (j + 1) cap)
    rw [e1]; simp
  · intro y hy
    rcases List.mem_append.1 hy with hy | hy
    · exact h.one y hy
    · simp at hy; subst hy; exact hz
  · exact ownsRow_setCell_below hrow (a := ⟨N, 1, none⟩) (by simp) _
  · intro i hi
    by_cases hij : i < ys.length
    · obtain ⟨p, hp, htr⟩ := h.kin i hij
      refine ⟨p, hp, ?_⟩
      rw [List.getElem_append_left hij]
      refine htr.keep (fun c hc => ?_) (fun c hc => ?_)
      · rcases hc with hc | ⟨q1, q2, q3⟩
        · exact .inl hc
        · refine .inr ⟨q1, by rw [hsz]; omega, fun e => ?_⟩
          have e' : c = g := by simpa [Value.ownBlock] using e
          rcases hat with hat | hat
          · exact q3 (by rw [hat, e'])
          · omega
      · rcases hc with hc | ⟨q1, q2, q3⟩
        · obtain ⟨r1, r2, r3, r4⟩ := oldS c hc
          rw [old c r1 r2 r3, hb1.block c r4]
        · rw [old c (by omega) (by omega) q3, hb1.block c q2]
    · have hi' : i = ys.length := by simp at hi; omega
      subst hi'
      refine ⟨x, by rw [h.len]; exact h.pos, ?_⟩
      rw [List.getElem_append_right (Nat.le_refl _)]
      simp only [Nat.sub_self, List.getElem_cons_zero]
      rw [h.len]
      refine ht.keep (fun c hc => ?_) (fun c hc => ?_)
      · rcases hc with hc | ⟨q1, q2⟩
        · exact .inl hc
        · refine .inr ⟨by omega, by rw [hsz]; omega, fun e => ?_⟩
          have e' : c = g := by simpa [Value.ownBlock] using e
          rcases hat with hat | hat
          · have := hown g hat; omega
          · omega
      · rcases hc with hc | ⟨q1, q2⟩
        · obtain ⟨r1, r2, r3, _⟩ := oldS c hc
          exact old c r1 r2 r3
        · exact old c q2 (by omega) (fun e => by have := hown c e.symm; omega)
end Go.Proofs.YtepffjfgomhepaaGreatDoor
