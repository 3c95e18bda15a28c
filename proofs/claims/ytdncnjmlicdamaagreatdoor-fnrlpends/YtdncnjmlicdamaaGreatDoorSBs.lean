/- The specification's reading of SCALE and Bitcoin's bytes: contract. -/
import Derived.Test.YtdncnjmlicdamaaGreatDoorSBq
import Derived.Test.YtdncnjmlicdamaaGreatDoorS3j
import Derived.Test.YtdncnjmlicdamaaGreatDoorL1i
import Derived.Deep.RegionHeld3
import Derived.Deep.OwnRows
namespace Go.Proofs.YtdncnjmlicdamaaGreatDoor
open Go.RowKit Go.Sort
set_option linter.unusedVariables false
theorem partsD_many {d : Nat → List UInt8 → Option (List It × Nat)} {ps : Nat → Nat} {b : List UInt8} {h0 L n : Nat} (hd : ∀ i c l m, i < n → d (ps i) c = some (l, m) → l.length ≤ L) : ∀ {j m : Nat} {ls : List (List It)}, j ≤ n → partsD d ps b h0 j = some (ls, m) → ls.flatten.length ≤ j * L := by
  intro j
  induction j with
  | zero => intro m ls _ hp; simp only [partsD, Option.some.injEq, Prod.mk.injEq] at hp; rw [← hp.1]; simp
  | succ j ih =>
    intro m ls hj hp
    rw [partsD_succ] at hp
    obtain ⟨⟨ls1, m1⟩, q1, q2⟩ := Option.bind_eq_some_iff.1 hp
    obtain ⟨⟨l2, m2⟩, q3, q4⟩ := Option.map_eq_some_iff.1 q2
    simp only [Prod.mk.injEq] at q4
    obtain ⟨rfl, rfl⟩ := q4
    have b1 := ih (by omega) q1
    have c1 := hd _ _ _ _ (by omega) q3
    rw [List.flatten_append]
    simp only [List.flatten_cons, List.flatten_nil, List.append_nil, List.length_append]
    rw [Nat.succ_mul]
    omega
theorem row_factsD {wz : World} {N : Nat} {cs : Array Value} {T : TypeId} (h : wz.heap[N]? = some (.cells cs T (0, 0))) : (∀ i, wz.cell? ⟨N, i, none⟩ = cs[i]?) ∧ ∀ i, wz.frozen? ⟨N, i, none⟩ = false :=
  ⟨fun i => by rw [cell_of_row wz N i cs _ _ h], fun i => by simp [World.frozen?, h]⟩
theorem cell_alD {W : World} {o : Obj} {p : Addr} {v : Value} (h : W.cell? p = some v) : (W.alloc o).cell? p = some v := by rw [(bel1 W o).cell (block_lt_of_cell h)]; exact h
theorem row_atD {ts : List (Int × Int)} {f a : Nat} {k : Int} {m : Nat} {w : World} {B g cap N : Nat} (h : w.ownsRow B 2 1 (.slice (some ⟨g, 0, none⟩) N cap) (np k m) (plRow ts f a k m)) {i : Nat} (hi : i < np k m) : w.cell? ⟨g, i, none⟩ = some (.int .i64 (pl ts f a k m i : Nat)) := by
  have := h.cells (g := g) rfl i (.int .i64 (pl ts f a k m i : Nat)) (by unfold plRow; simp [hi])
  have hadd : (⟨g, 0, none⟩ : Addr).add i = ⟨g, i, none⟩ := by unfold Addr.add; split <;> simp_all
  rwa [hadd] at this
/-- What l6Dec leaves. -/
def D6Post (get : List UInt8 → Nat × Nat × Bool) (ts : List (Int × Int)) (f a : Nat) (b : ByteArray) (w : World) (e : Ending) (w' : World) : Prop :=
  ((scD get ts f a b.data.toList = none ∧ e = .returned (.tuple #[.slice none 0 0, .int .i64 0, .bool false])) ∨
   ∃ l m v, scD get ts f a b.data.toList = some (l, m) ∧ e = .returned (.tuple #[v, .int .i64 (m : Nat), .bool true]) ∧ OwnIt w.heap.size w' v l) ∧ Below w.heap.size w w'
/-- Behind the switch: the type's box, the item's; what is read of it. -/
def D6At (get : List UInt8 → Nat × Nat × Bool) (k n : Int) (b : List UInt8) (w : World) (nv okv : Value) (wz : World) : Prop :=
  Below w.heap.size w wz ∧ wz.heap[w.heap.size]? = some (.cells #[.int .i64 k, .int .i64 n] 88 (0, 0)) ∧
  ((okv = .bool false ∧ (∃ z, nv = .int .i64 z) ∧ oneD get k n b = none) ∨
   ∃ (x : It) (h : Nat), okv = .bool true ∧ nv = .int .i64 (h : Nat) ∧ oneD get k n b = some (x, h) ∧ wz.heap[w.heap.size + 1]? = some (.cells #[.int .i64 k, .int .u64 x.n, .string x.s] 52 (0, 0)))
theorem D6At.keep {get : List UInt8 → Nat × Nat × Bool} {k n : Int} {b : List UInt8} {w wz : World} (hb : Below w.heap.size w wz) (h0 : wz.heap[w.heap.size]? = some (.cells #[.int .i64 k, .int .i64 n] 88 (0, 0))) {x : It} {h : Nat} (ho : oneD get k n b = some (x, h)) (h1 : wz.heap[w.heap.size + 1]? = some (.cells #[.int .i64 k, .int .u64 x.n, .string x.s] 52 (0, 0))) : D6At get k n b w (.int .i64 (h : Nat)) (.bool true) wz :=
  ⟨hb, h0, .inr ⟨x, h, rfl, rfl, ho, h1⟩⟩
theorem D6At.fresh {get : List UInt8 → Nat × Nat × Bool} {k n : Int} {b : List UInt8} {w : World} {x : It} {h : Nat} (ho : oneD get k n b = some (x, h)) : D6At get k n b w (.int .i64 (h : Nat)) (.bool true) ((w.alloc (.cells #[.int .i64 k, .int .i64 n] 88)).alloc (.cells #[.int .i64 k, .int .u64 x.n, .string x.s] 52)) := by
  refine ⟨bel2 _ _ _, ?_, .inr ⟨x, h, rfl, rfl, ho, ?_⟩⟩
  · rw [Below.heap_alloc _ _ _ (by simp), heap_alloc_new]
  · have := heap_alloc_new (w.alloc (.cells #[.int .i64 k, .int .i64 n] 88)) (.cells #[.int .i64 k, .int .u64 x.n, .string x.s] 52)
    simpa using this
theorem D6At.none {get : List UInt8 → Nat × Nat × Bool} {k n : Int} {b : List UInt8} {w : World} (z : Int) (m : Value) (ho : oneD get k n b = .none) : D6At get k n b w (.int .i64 z) (.bool false) ((w.alloc (.cells #[.int .i64 k, .int .i64 n] 88)).alloc (.cells #[.int .i64 k, m, .string ⟨#[]⟩] 52)) := by
  refine ⟨bel2 _ _ _, ?_, .inl ⟨rfl, ⟨z, rfl⟩, ho⟩⟩
  rw [Below.heap_alloc _ _ _ (by simp), heap_alloc_new]
/-- The two boxes. -/
def d6W (w : World) (k n : Int) : World := (w.alloc (.cells #[.int .i64 k, .int .i64 n] 88)).alloc (.cells #[.int .i64 k, .int .u64 0, .string ⟨#[]⟩] 52)
theorem d6_boxes (w : World) (k n : Int) : (d6W w k n).heap[w.heap.size]? = some (.cells #[.int .i64 k, .int .i64 n] 88 (0, 0)) ∧ (d6W w k n).heap[w.heap.size + 1]? = some (.cells #[.int .i64 k, .int .u64 0, .string ⟨#[]⟩] 52 (0, 0)) ∧ (d6W w k n).heap.size = w.heap.size + 1 + 1 ∧ Below w.heap.size w (d6W w k n) := by
  refine ⟨?_, ?_, by simp [d6W], bel2 _ _ _⟩
  · unfold d6W
    rw [Below.heap_alloc _ _ _ (by simp), heap_alloc_new]
  · have := heap_alloc_new (w.alloc (.cells #[.int .i64 k, .int .i64 n] 88)) (.cells #[.int .i64 k, .int .u64 0, .string ⟨#[]⟩] 52)
    simpa [d6W] using this
theorem d6_set {w wz : World} {k n : Int} {cs : Array Value} (hb : Below (d6W w k n).heap.size (d6W w k n) wz) (i : Nat) (v : Value) : wz.heap[w.heap.size]? = some (.cells #[.int .i64 k, .int .i64 n] 88 (0, 0)) ∧ wz.heap[w.heap.size + 1]? = some (.cells #[.int .i64 k, .int .u64 0, .string ⟨#[]⟩] 52 (0, 0)) ∧ Below w.heap.size w wz ∧
    (wz.setCell ⟨w.heap.size + 1, i, none⟩ v).heap[w.heap.size]? = some (.cells #[.int .i64 k, .int .i64 n] 88 (0, 0)) ∧ (wz.setCell ⟨w.heap.size + 1, i, none⟩ v).heap[w.heap.size + 1]? = some (.cells (#[.int .i64 k, .int .u64 0, .string ⟨#[]⟩].setIfInBounds i v) 52 (0, 0)) ∧ Below w.heap.size w (wz.setCell ⟨w.heap.size + 1, i, none⟩ v) := by
  obtain ⟨b0, b1, b2, b3⟩ := d6_boxes w k n
  have h0 := (hb.block w.heap.size (by omega)).trans b0
  have h1 := (hb.block (w.heap.size + 1) (by omega)).trans b1
  have h2 : Below w.heap.size w wz := b3.trans (hb.mono b3.size)
  exact ⟨h0, h1, h2, by rw [Below.heap_setCell _ _ _ _ (show w.heap.size ≠ w.heap.size + 1 by omega)]; exact h0, set_block (i := i) h1 v, h2.setCell (p := ⟨w.heap.size + 1, i, none⟩) (by simp) _⟩
theorem d6_put {w wz : World} {k n : Int} {x : It} (hb : Below (d6W w k n).heap.size (d6W w k n) wz) : (x.s = ⟨#[]⟩ → (wz.setCell ⟨w.heap.size + 1, 1, none⟩ (.int .u64 x.n)).heap[w.heap.size + 1]? = some (.cells #[.int .i64 k, .int .u64 x.n, .string x.s] 52 (0, 0))) ∧ (x.n = 0 → (wz.setCell ⟨w.heap.size + 1, 2, none⟩ (.string x.s)).heap[w.heap.size + 1]? = some (.cells #[.int .i64 k, .int .u64 x.n, .string x.s] 52 (0, 0))) := by
  constructor
  · intro h
    rw [(d6_set (cs := #[]) hb 1 (.int .u64 x.n)).2.2.2.2.1, h]; rfl
  · intro h
    rw [(d6_set (cs := #[]) hb 2 (.string x.s)).2.2.2.2.1, h]; rfl
end Go.Proofs.YtdncnjmlicdamaaGreatDoor
