/- SBc, SBd, SBe, SBf, SBg, SBh, S7c, SAb, SBi: one text. -/
import Derived.Test.YtdncnjmlicdamaaGreatDoorSBq
import Derived.Test.YtdncnjmlicdamaaGreatDoorL1i
import Derived.Test.YtdncnjmlicdamaaGreatDoorS3f
import Derived.Deep.RegionHeld3
import Derived.Test.YtdncnjmlicdamaaGreatDoorS7b
import Derived.Test.YtdncnjmlicdamaaGreatDoorSBs
namespace Go.Proofs.YtdncnjmlicdamaaGreatDoor
open Go.RowKit Go.Sort
set_option linter.unusedVariables false
end Go.Proofs.YtdncnjmlicdamaaGreatDoor
namespace Go.Proofs.YtdncnjmlicdamaaGreatDoor
open Go.RowKit Go.Sort
set_option linter.unusedVariables false
end Go.Proofs.YtdncnjmlicdamaaGreatDoor
namespace Go.Proofs.YtdncnjmlicdamaaGreatDoor
open Go.RowKit Go.Sort
set_option linter.unusedVariables false
theorem extract_size (R : ByteArray) (m : Nat) (h : m ≤ R.size) : (R.extract 0 m).size = m := by simp; omega
end Go.Proofs.YtdncnjmlicdamaaGreatDoor
namespace Go.Proofs.YtdncnjmlicdamaaGreatDoor
open Go.RowKit Go.Sort
set_option linter.unusedVariables false
/-- What take leaves: an error is that of T and z. -/
def TkPost (get : List UInt8 → Nat × Nat × Bool) (T : TypeId) (z : Value) (ts : List (Int × Int)) (f a : Nat) (S0 : Nat → Prop) (b : ByteArray) (w : World) (e : Ending) (w' : World) : Prop :=
  Below w.heap.size w w' ∧
  ((scD get ts f a b.data.toList = none ∧ ∃ x y, (x = .nilIface ∨ ∃ T z, x = .iface T z) ∧ e = .returned (.tuple #[x, .string y, .iface T z])) ∨
   (∃ l m T' y, scD get ts f a b.data.toList = some (l, m) ∧ m ≤ b.size ∧ e = .returned (.tuple #[.iface T' y, .string (b.extract m b.size), .nilIface]) ∧ DAt ts f w' (fun c => S0 c ∨ (w.heap.size ≤ c ∧ c < w'.heap.size)) (.iface T' y) a l))
end Go.Proofs.YtdncnjmlicdamaaGreatDoor
namespace Go.Proofs.YtdncnjmlicdamaaGreatDoor
open Go.RowKit Go.Sort
set_option linter.unusedVariables false
/-- Where the reading of a series stands behind j of its parts: its block N, the parts' slice v, the parts ys. -/
structure TsInv (get : List UInt8 → Nat × Nat × Bool) (ts : List (Int × Int)) (f : Nat) (B : List UInt8) (h0 u N : Nat) (S0 : Nat → Prop) (ps : Nat → Nat) (w wr : World) (j m : Nat) (v : Value) (ys : List Value) (ls : List (List It)) : Prop where
  pos : partsD (scD get ts f) ps B h0 j = some (ls, m)
  bel : Below w.heap.size w wr
  low : w.heap.size ≤ N
  node : wr.heap[N]? = some (.cells #[.pointer (some ⟨u, 0, none⟩), v] 131 (0, 0))
  len : ys.length = j
  one : ∀ y ∈ ys, y.oneCell' = true
  row : wr.ownsRow (N + 1) 64 1 v j ys
  kin : ∀ i (h : i < ys.length) (h' : i < ls.length), DAt ts f wr (fun c => S0 c ∨ (N < c ∧ c < wr.heap.size ∧ some c ≠ v.ownBlock)) ys[i] (ps i) ls[i]
theorem TsInv.start {get : List UInt8 → Nat × Nat × Bool} {ts : List (Int × Int)} {f : Nat} {B : List UInt8} {h0 u : Nat} {S0 : Nat → Prop} {ps : Nat → Nat} {w w2 : World} (hb : Below w.heap.size w w2) : TsInv get ts f B h0 u w2.heap.size S0 ps w (w2.alloc (.cells #[.pointer (some ⟨u, 0, none⟩), .slice none 0 0] 131)) 0 h0 (.slice none 0 0) [] [] :=
  ⟨rfl, hb.alloc hb.size _, hb.size, heap_alloc_new w2 _, rfl, by simp, World.ownsRow_nil _ _ _ _, fun i h => by simp at h⟩
/-- One part more: read in w1, appended in w2, the node's cell set. -/
theorem TsInv.next {get : List UInt8 → Nat × Nat × Bool} {ts : List (Int × Int)} {f : Nat} {B : List UInt8} {h0 u N : Nat} {S0 : Nat → Prop} {ps : Nat → Nat} {w wr w1 w2 : World} {j m q g cap : Nat} {v z : Value} {ys : List Value} {ls : List (List It)} {l : List It} {o : Obj}
    (h : TsInv get ts f B h0 u N S0 ps w wr j m v ys ls) (hS0 : ∀ c, S0 c → c < w.heap.size) (hb1 : Below wr.heap.size wr w1) (hz : z.oneCell' = true) (ht : DAt ts f w1 (fun c => S0 c ∨ (wr.heap.size ≤ c ∧ c < w1.heap.size)) z (ps j) l) (hy : scD get ts f (ps j) (B.drop m) = some (l, q))
    (hg : (w1.alloc o).grownBy w2 v.ownBlock) (hat : v.ownBlock = some g ∨ g = w1.heap.size + 1) (hgl : g < w2.heap.size)
    (hrow : w2.ownsRow (N + 1) 64 1 (.slice (some ⟨g, 0, none⟩) (j + 1) cap) (j + 1) (ys ++ [z])) :
    TsInv get ts f B h0 u N S0 ps w (w2.setCell ⟨N, 1, none⟩ (.slice (some ⟨g, 0, none⟩) (j + 1) cap)) (j + 1) (m + q) (.slice (some ⟨g, 0, none⟩) (j + 1) cap) (ys ++ [z]) (ls ++ [l]) := by
  have hN := blk_lt h.node
  have hNg : N + 1 ≤ g := by
    have := hrow.lt g rfl
    omega
  have hown : ∀ b, v.ownBlock = some b → N + 1 ≤ b ∧ b < wr.heap.size := h.row.lt
  have hll := partsD_len h.pos
  have hs0 := h.bel.size
  have hlow := h.low
  have hs1 := hb1.size
  have hs2 : w1.heap.size + 1 ≤ w2.heap.size := by have := hg.size; simpa using this
  have hsz : (w2.setCell ⟨N, 1, none⟩ (.slice (some ⟨g, 0, none⟩) (j + 1) cap)).heap.size = w2.heap.size := by simp [World.setCell]
  have hNo : some N ≠ v.ownBlock := fun e => by have := hown N e.symm; omega
  have hN2 : w2.heap[N]? = some (.cells #[.pointer (some ⟨u, 0, none⟩), v] 131 (0, 0)) := by
    rw [hg.block N (by simp; omega) hNo, Below.heap_alloc _ _ _ (by omega), hb1.block N hN]; exact h.node
  have old : ∀ b, b < w1.heap.size → b ≠ N → some b ≠ v.ownBlock → (w2.setCell ⟨N, 1, none⟩ (.slice (some ⟨g, 0, none⟩) (j + 1) cap)).heap[b]? = w1.heap[b]? := fun b hb hbN hbo => by
    rw [Below.heap_setCell _ _ _ _ hbN, hg.block b (by simp; omega) hbo, Below.heap_alloc _ _ _ hb]
  have oldS : ∀ c, S0 c → c < w1.heap.size ∧ c ≠ N ∧ some c ≠ v.ownBlock ∧ c < wr.heap.size := fun c hc => by
    have := hS0 c hc
    exact ⟨by omega, by omega, fun e => by have := hown c e.symm; omega, by omega⟩
  refine ⟨by rw [partsD_succ, h.pos]; simp [hy], ?_, h.low, ?_, by simp [h.len], ?_, ?_, ?_⟩
  · have b1 : Below w.heap.size w w1 := h.bel.trans (hb1.mono h.bel.size)
    have b2 : Below w.heap.size w (w1.alloc o) := b1.alloc (by have := b1.size; omega) o
    have b3 : Below w.heap.size w w2 := b2.grown hg (by have := b2.size; omega) (fun q hq => by have := hown q hq; omega)
    exact b3.setCell (p := ⟨N, 1, none⟩) h.low _
  · have e1 := set_block (i := 1) hN2 (.slice (some ⟨g, 0, none⟩) (j + 1) cap)
    rw [e1]; simp
  · intro y hy
    rcases List.mem_append.1 hy with hy | hy
    · exact h.one y hy
    · simp at hy; subst hy; exact hz
  · exact ownsRow_setCell_below hrow (a := ⟨N, 1, none⟩) (by simp) _
  · intro i hi hi2
    by_cases hij : i < ys.length
    · have hij2 : i < ls.length := by rw [hll, ← h.len]; exact hij
      have htr := h.kin i hij hij2
      rw [List.getElem_append_left hij, List.getElem_append_left hij2]
      refine htr.keep (fun c hc => ?_) (fun c hc => ?_)
      · rcases hc with hc | ⟨q1, q2, q3⟩
        · exact .inl hc
        · refine .inr ⟨q1, by rw [hsz]; omega, fun e => ?_⟩
          have e' : c = g := by simpa [Value.ownBlock] using e
          rcases hat with hat | hat
          · exact q3 (by rw [hat, e'])
          · omega
      · rcases hc with hc | ⟨q1, q2, q3⟩
        · obtain ⟨r1, r2, r3, r4⟩ := oldS c hc
          rw [old c r1 r2 r3, hb1.block c r4]
        · rw [old c (by omega) (by omega) q3, hb1.block c q2]
    · have hi' : i = ys.length := by simp at hi; omega
      have hlen := h.len
      have e1 : (ys ++ [z])[i] = z := by rw [List.getElem_append_right (by omega)]; simp
      have e2 : (ls ++ [l])[i] = l := by rw [List.getElem_append_right (by omega)]; simp
      rw [e1, e2, show i = j by omega]
      refine ht.keep (fun c hc => ?_) (fun c hc => ?_)
      · rcases hc with hc | ⟨q1, q2⟩
        · exact .inl hc
        · refine .inr ⟨by omega, by rw [hsz]; omega, fun e => ?_⟩
          have e' : c = g := by simpa [Value.ownBlock] using e
          rcases hat with hat | hat
          · have := hown g hat; omega
          · omega
      · rcases hc with hc | ⟨q1, q2⟩
        · obtain ⟨r1, r2, r3, _⟩ := oldS c hc
          exact old c r1 r2 r3
        · exact old c q2 (by omega) (fun e => by have := hown c e.symm; omega)
end Go.Proofs.YtdncnjmlicdamaaGreatDoor
namespace Go.Proofs.YtdncnjmlicdamaaGreatDoor
open Go.RowKit Go.Sort
set_option linter.unusedVariables false
theorem TkPost.up {get : List UInt8 → Nat × Nat × Bool} {T : TypeId} {z : Value} {ts : List (Int × Int)} {f a : Nat} {S0 : Nat → Prop} {b : ByteArray} {w w1 : World} {e : Ending} {w' : World} (hb : Below w.heap.size w w1) (h : TkPost get T z ts f a S0 b w1 e w') : TkPost get T z ts f a S0 b w e w' := by
  obtain ⟨h1, h2⟩ := h
  refine ⟨hb.trans (h1.mono hb.size), h2.imp id ?_⟩
  rintro ⟨l, m, T', y, q1, q2, q3, q4⟩
  exact ⟨l, m, T', y, q1, q2, q3, q4.keep (fun c hc => hc.imp id (fun h => ⟨by have := hb.size; omega, h.2⟩)) (fun _ _ => rfl)⟩
theorem TkPost.form {get : List UInt8 → Nat × Nat × Bool} {T : TypeId} {z : Value} {ts : List (Int × Int)} {f a : Nat} {S0 : Nat → Prop} {b : ByteArray} {w : World} {e : Ending} {w' : World} (h : TkPost get T z ts f a S0 b w e w') : ∃ x y er, e = .returned (.tuple #[x, .string y, er]) := by
  obtain ⟨_, ⟨_, x, y, _, h⟩ | ⟨l, m, T', y, _, _, h, _⟩⟩ := h
  · exact ⟨_, _, _, h⟩
  · exact ⟨_, _, _, h⟩
end Go.Proofs.YtdncnjmlicdamaaGreatDoor
namespace Go.Proofs.YtdncnjmlicdamaaGreatDoor
open Go.RowKit Go.Sort
set_option linter.unusedVariables false
theorem cell_2 {w : World} {u i : Nat} {v : Value} (h : w.cell? ⟨u, i, none⟩ = some v) (hu : u < w.heap.size) (o o' : Obj) : ((w.alloc o).alloc o').cell? ⟨u, i, none⟩ = some v := by
  rw [(bel2 w o o').cell (p := ⟨u, i, none⟩) hu]; exact h
theorem heap_2 (w : World) (o o' : Obj) : ((w.alloc o).alloc o').heap[w.heap.size]? = some o := by
  rw [Below.heap_alloc _ _ _ (by simp), heap_alloc_new]
set_option maxHeartbeats 1000000 in
theorem parts_nil (u m : Nat) (w : World) : Calls Tryz.prog 58 #[.iface 133 (.agg #[.pointer (some ⟨u, 0, none⟩), .int .u64 m, .nilIface])] w fun e w' => e = .returned (.slice none 0 0) ∧ Below w.heap.size w w' := by
  have y1 := as_yes_133
  have n1 := as_no_133_131
  go_enter Tryz.func58, Tryz.ntmps58
  go_wp2_with fail
  go_ret
  exact ⟨rfl, bel1 _ _⟩
set_option maxHeartbeats 1000000 in
theorem parts_one (u m : Nat) (T : TypeId) (z : Value) (w : World) : Calls Tryz.prog 58 #[.iface 133 (.agg #[.pointer (some ⟨u, 0, none⟩), .int .u64 m, .iface T z])] w fun e w' => (∃ g, e = .returned (.slice (some ⟨g, 0, none⟩) 1 1) ∧ w.heap.size ≤ g ∧ g < w'.heap.size ∧ w'.cell? ⟨g, 0, none⟩ = some (.iface T z)) ∧ Below w.heap.size w w' := by
  have y1 := as_yes_133
  have n1 := as_no_133_131
  go_enter Tryz.func58, Tryz.ntmps58
  go_wp2_with fail
  go_ret
  exact ⟨⟨w.heap.size + 1, rfl, by omega, by simp, by simp [go_sem]⟩, bel2 _ _ _⟩
set_option maxHeartbeats 1000000 in
theorem parts_ser (u M cap : Nat) (ad : Option Addr) (w : World) : Calls Tryz.prog 58 #[.iface 131 (.agg #[.pointer (some ⟨u, 0, none⟩), .slice ad M cap])] w fun e w' => e = .returned (.slice ad M cap) ∧ Below w.heap.size w w' := by
  have y1 := as_yes_131
  go_enter Tryz.func58, Tryz.ntmps58
  go_wp2_with fail
  go_ret
  exact ⟨rfl, bel1 _ _⟩
set_option maxHeartbeats 1000000 in
theorem parts_num (u : Nat) (m : Nat) (w : World) : Calls Tryz.prog 58 #[.iface 124 (.agg #[.pointer (some ⟨u, 0, none⟩), .int .u64 m])] w fun e w' => e = .returned (.slice none 0 0) ∧ Below w.heap.size w w' := by
  have n1 := as_no_124_131
  have n2 := as_no_124_133
  go_enter Tryz.func58, Tryz.ntmps58
  go_wp2_with fail
  go_ret
  exact ⟨rfl, Below.refl _ _⟩
set_option maxHeartbeats 1000000 in
theorem parts_byt (u : Nat) (m : ByteArray) (w : World) : Calls Tryz.prog 58 #[.iface 126 (.agg #[.pointer (some ⟨u, 0, none⟩), .string m])] w fun e w' => e = .returned (.slice none 0 0) ∧ Below w.heap.size w w' := by
  have n1 := as_no_126_131
  have n2 := as_no_126_133
  go_enter Tryz.func58, Tryz.ntmps58
  go_wp2_with fail
  go_ret
  exact ⟨rfl, Below.refl _ _⟩
end Go.Proofs.YtdncnjmlicdamaaGreatDoor
namespace Go.Proofs.YtdncnjmlicdamaaGreatDoor
open Go.RowKit Go.Sort
set_option linter.unusedVariables false
def IoPost (base : Nat) (w : World) (v : Value) (l : List It) (e : Ending) (w' : World) : Prop := ∃ v', e = .returned v' ∧ OwnIt base w' v' l ∧ Grew w w' v v'
/-- The contract of itemsOf, f levels being left. -/
def IoHyp (ts : List (Int × Int)) (f : Nat) : Prop :=
  ∀ (x : Value) (a : Nat) (l pre : List It) (S : Nat → Prop) (v : Value) (base : Nat) (w : World), DAt ts f w S x a l → (∀ c, S c → c < w.heap.size) → (∀ c, S c → some c ≠ v.ownBlock) → OwnIt base w v pre → base ≤ w.heap.size → pre.length + l.length ≤ 4000000000 →
    Calls Tryz.prog 39 #[x, v] w fun e w' => IoPost base w v (pre ++ l) e w'
theorem flat_cells {w : World} {g : Nat} (it : It) (h0 : w.cell? ⟨g, 0, none⟩ = some (.int .i64 it.k)) (h1 : w.cell? ⟨g, 1, none⟩ = some (.int .u64 it.n)) (h2 : w.cell? ⟨g, 2, none⟩ = some (.string it.s)) : ∀ j u, (flatI [it])[j]? = some u → w.cell? ((⟨g, 0, none⟩ : Addr).add j) = some u := by
  intro j u hu
  have e : flatI [it] = [.int .i64 it.k, .int .u64 it.n, .string it.s] := rfl
  rw [e] at hu
  match j, hu with
  | 0, hu => simp at hu; subst hu; simpa [Addr.add] using h0
  | 1, hu => simp at hu; subst hu; simpa [Addr.add] using h1
  | 2, hu => simp at hu; subst hu; simpa [Addr.add] using h2
theorem own_put {base : Nat} {w : World} {v : Value} {pre : List It} {it : It} (h : w.ownsRow base 52 3 v (pre.length + 1) (flatI pre ++ flatI [it])) : OwnIt base w v (pre ++ [it]) := by
  unfold OwnIt
  rw [flatI_app, List.length_append]
  exact h
theorem grew_put {w w1 w2 : World} {v v1 : Value} {o : Obj} {g n cap : Nat} (hb : Below w.heap.size w w1) (hg : (w1.alloc o).grownBy w2 v.ownBlock) (hat : v.ownBlock = some g ∨ g = w1.heap.size + 1) (hv : v1 = .slice (some ⟨g, 0, none⟩) n cap) : Grew w w2 v v1 := by
  refine (Grew.of_below hb).trans ((Grew.of_below (bel1 w1 o)).trans ⟨hg, fun g' hg' => ?_⟩)
  subst hv
  have e : g = g' := by simpa [Value.ownBlock] using hg'
  subst e
  rcases hat with h | h
  · exact .inl h
  · exact .inr (by simp; omega)
set_option maxRecDepth 100000 in
set_option maxHeartbeats 4000000 in
theorem io_num (u : Nat) (it : It)  (pre : List It) (v : Value) (base : Nat) (w : World) (c0 : w.cell? ⟨u, 0, none⟩ = some (.int .i64 it.k)) (hu : u < w.heap.size) (hv : OwnIt base w v pre) (hB : base ≤ w.heap.size) (hb : pre.length + 1 ≤ 4000000000) (hs : it.s = ⟨#[]⟩) :
    Calls Tryz.prog 39 #[.iface 124 (.agg #[.pointer (some ⟨u, 0, none⟩), .int .u64 it.n]), v] w fun e w' => IoPost base w v (pre ++ [it]) e w' := by
  obtain ⟨i0, hi, hz0, hz1, hz2⟩ := info_parts Tryz.infoItem
  have HC : Hid (Calls Tryz.prog 121 #[.agg #[.pointer (some ⟨u, 0, none⟩), .int .u64 it.n]] w fun e w' => e = .returned (.agg #[.int .i64 it.k, .int .u64 it.n, .string it.s]) ∧ Below w.heap.size w w') := by
    rw [hs]; exact item_num u it.k it.n w c0 hu
  have HV : Hid (OwnIt base w v pre) := hv
  clear hv c0 hs
  go_enter Tryz.func39, Tryz.ntmps39
  go_wp2_with fail
  refine Calls.mono HC.out ?_
  rintro e w1 ⟨rfl, hb1⟩
  have HB1 : Hid (Below w.heap.size w w1) := hb1
  have hs1 := hb1.size
  have HO1 : Hid (OwnIt base w1 v pre) := HV.out.kept hb1
  clear hb1
  go_wp2_with (at_builtin; refine wpList_append_lies _ rfl _ _ 25 rfl base 52 i0 (.agg #[.int .i64 0, .int .u64 0, .string ByteArray.empty]) 3 32 Tryz.underlying25 hi hz0 hz1 hz2 rfl (by decide) v pre.length (flatI pre) rfl (HO1.out.alloc _) ⟨w1.heap.size, 0, none⟩ 1 1 (flatI [it]) rfl rfl ?c1 (flatI_one _) (by omega) ?c3 ?c4 ?c5 (w1.heap.size + 1) (by simp) ?_)
  case c1 => exact flat_cells it (by simp [go_sem]) (by simp [go_sem]) (by simp [go_sem])
  case c3 => unfold maxLen; omega
  case c4 => omega
  case c5 => simp; omega
  intro g cap' w2 hown' hgrow hat hlt'
  have HO2 : Hid (OwnIt base w2 (.slice (some ⟨g, 0, none⟩) (pre.length + 1) cap') (pre ++ [it])) := own_put hown'
  have HG2 : Hid (Grew w w2 v (.slice (some ⟨g, 0, none⟩) (pre.length + 1) cap')) := grew_put HB1.out hgrow hat rfl
  clear hown' hgrow hat hlt'
  go_wp2_with fail
  refine (parts_num u it.n w2).mono ?_
  rintro e w3 ⟨rfl, hb3⟩
  have HO3 : Hid (OwnIt base w3 (.slice (some ⟨g, 0, none⟩) (pre.length + 1) cap') (pre ++ [it])) := HO2.out.kept hb3
  have HG3 : Hid (Grew w w3 v (.slice (some ⟨g, 0, none⟩) (pre.length + 1) cap')) := HG2.out.trans (Grew.of_below hb3)
  have HR3 : Hid (0 = 0 ∨ ∃ g', (none : Option Addr) = some ⟨g', 0, none⟩ ∧ g' < w3.heap.size ∧ some g' ≠ (Value.slice (some ⟨g, 0, none⟩) (pre.length + 1) cap').ownBlock ∧ ∀ j (h : j < ([] : List (List It)).length), ∃ y, w3.cell? ⟨g', j, none⟩ = some y ∧ ∀ (v1 : Value) (w' : World) (q : List It), Grew w3 w' (.slice (some ⟨g, 0, none⟩) (pre.length + 1) cap') v1 → OwnIt base w' v1 q → q.length + (([] : List (List It))[j]).length ≤ 4000000000 → Calls Tryz.prog 39 #[y, v1] w' fun e w'' => IoPost base w' v1 (q ++ ([] : List (List It))[j]) e w'') := by
    exact .inl rfl
  obtain ⟨LS, hLS⟩ : ∃ LS : List (List It), [] = LS := ⟨_, rfl⟩
  have hll3 : LS.length = 0 := by rw [← hLS]; rfl
  have HFL : Hid ([it] = it :: LS.flatten) := by show _ = _; rw [← hLS]; first | done | simp
  have hbl : pre.length + (1 + LS.flatten.length) ≤ 4000000000 := by rw [← hLS]; simpa using hb
  rw [hLS] at HR3
  clear hb3 hLS 
  go_wp2_with fail
  go_loopg [1, 15] 0 (fun gk o i wr => ∃ j : Nat, j + gk = 0 ∧ i = .int .i64 j ∧ OwnIt base wr o (pre ++ it :: (LS.take j).flatten) ∧ Grew w3 wr (.slice (some ⟨g, 0, none⟩) (pre.length + 1) cap') o)
  case atStart => exact ⟨0, by omega, rfl, by simpa using HO3.out, Grew.of_below (Below.refl _ _)⟩
  case round =>
    obtain ⟨j, hj', rfl, ho, hgr⟩ := hrel
    have HJ : Hid (j + gk = 0) := hj'
    have hj : j ≤ 0 := by omega
    have HOj : Hid (OwnIt base wr u1 (pre ++ it :: (LS.take j).flatten)) := ho
    have HGj : Hid (Grew w3 wr (.slice (some ⟨g, 0, none⟩) (pre.length + 1) cap') u1) := hgr
    clear hj' ho
    by_cases hjM : j < 0
    · exact absurd hjM (by omega)
    · have ej : j = 0 := by omega
      have HF : Hid (OwnIt base wr u1 (pre ++ it :: LS.flatten) ∧ Grew w wr v u1) := ⟨by
        have h1 := HOj.out
        rw [List.take_of_length_le (by omega)] at h1
        exact h1, HG3.out.trans HGj.out⟩
      clear hgr
      go_wp2_with fail
      go_ret
      exact ⟨_, rfl, by rw [HFL.out]; exact HF.out.1, HF.out.2⟩
set_option maxRecDepth 100000 in
set_option maxHeartbeats 4000000 in
theorem io_byt (u : Nat) (it : It)  (pre : List It) (v : Value) (base : Nat) (w : World) (c0 : w.cell? ⟨u, 0, none⟩ = some (.int .i64 it.k)) (hu : u < w.heap.size) (hv : OwnIt base w v pre) (hB : base ≤ w.heap.size) (hb : pre.length + 1 ≤ 4000000000) (hn : it.n = 0) :
    Calls Tryz.prog 39 #[.iface 126 (.agg #[.pointer (some ⟨u, 0, none⟩), .string it.s]), v] w fun e w' => IoPost base w v (pre ++ [it]) e w' := by
  obtain ⟨i0, hi, hz0, hz1, hz2⟩ := info_parts Tryz.infoItem
  have HC : Hid (Calls Tryz.prog 122 #[.agg #[.pointer (some ⟨u, 0, none⟩), .string it.s]] w fun e w' => e = .returned (.agg #[.int .i64 it.k, .int .u64 it.n, .string it.s]) ∧ Below w.heap.size w w') := by
    rw [hn]; exact item_byt u it.k it.s w c0 hu
  have HV : Hid (OwnIt base w v pre) := hv
  clear hv c0 hn
  go_enter Tryz.func39, Tryz.ntmps39
  go_wp2_with fail
  refine Calls.mono HC.out ?_
  rintro e w1 ⟨rfl, hb1⟩
  have HB1 : Hid (Below w.heap.size w w1) := hb1
  have hs1 := hb1.size
  have HO1 : Hid (OwnIt base w1 v pre) := HV.out.kept hb1
  clear hb1
  go_wp2_with (at_builtin; refine wpList_append_lies _ rfl _ _ 25 rfl base 52 i0 (.agg #[.int .i64 0, .int .u64 0, .string ByteArray.empty]) 3 32 Tryz.underlying25 hi hz0 hz1 hz2 rfl (by decide) v pre.length (flatI pre) rfl (HO1.out.alloc _) ⟨w1.heap.size, 0, none⟩ 1 1 (flatI [it]) rfl rfl ?c1 (flatI_one _) (by omega) ?c3 ?c4 ?c5 (w1.heap.size + 1) (by simp) ?_)
  case c1 => exact flat_cells it (by simp [go_sem]) (by simp [go_sem]) (by simp [go_sem])
  case c3 => unfold maxLen; omega
  case c4 => omega
  case c5 => simp; omega
  intro g cap' w2 hown' hgrow hat hlt'
  have HO2 : Hid (OwnIt base w2 (.slice (some ⟨g, 0, none⟩) (pre.length + 1) cap') (pre ++ [it])) := own_put hown'
  have HG2 : Hid (Grew w w2 v (.slice (some ⟨g, 0, none⟩) (pre.length + 1) cap')) := grew_put HB1.out hgrow hat rfl
  clear hown' hgrow hat hlt'
  go_wp2_with fail
  refine (parts_byt u it.s w2).mono ?_
  rintro e w3 ⟨rfl, hb3⟩
  have HO3 : Hid (OwnIt base w3 (.slice (some ⟨g, 0, none⟩) (pre.length + 1) cap') (pre ++ [it])) := HO2.out.kept hb3
  have HG3 : Hid (Grew w w3 v (.slice (some ⟨g, 0, none⟩) (pre.length + 1) cap')) := HG2.out.trans (Grew.of_below hb3)
  have HR3 : Hid (0 = 0 ∨ ∃ g', (none : Option Addr) = some ⟨g', 0, none⟩ ∧ g' < w3.heap.size ∧ some g' ≠ (Value.slice (some ⟨g, 0, none⟩) (pre.length + 1) cap').ownBlock ∧ ∀ j (h : j < ([] : List (List It)).length), ∃ y, w3.cell? ⟨g', j, none⟩ = some y ∧ ∀ (v1 : Value) (w' : World) (q : List It), Grew w3 w' (.slice (some ⟨g, 0, none⟩) (pre.length + 1) cap') v1 → OwnIt base w' v1 q → q.length + (([] : List (List It))[j]).length ≤ 4000000000 → Calls Tryz.prog 39 #[y, v1] w' fun e w'' => IoPost base w' v1 (q ++ ([] : List (List It))[j]) e w'') := by
    exact .inl rfl
  obtain ⟨LS, hLS⟩ : ∃ LS : List (List It), [] = LS := ⟨_, rfl⟩
  have hll3 : LS.length = 0 := by rw [← hLS]; rfl
  have HFL : Hid ([it] = it :: LS.flatten) := by show _ = _; rw [← hLS]; first | done | simp
  have hbl : pre.length + (1 + LS.flatten.length) ≤ 4000000000 := by rw [← hLS]; simpa using hb
  rw [hLS] at HR3
  clear hb3 hLS 
  go_wp2_with fail
  go_loopg [1, 15] 0 (fun gk o i wr => ∃ j : Nat, j + gk = 0 ∧ i = .int .i64 j ∧ OwnIt base wr o (pre ++ it :: (LS.take j).flatten) ∧ Grew w3 wr (.slice (some ⟨g, 0, none⟩) (pre.length + 1) cap') o)
  case atStart => exact ⟨0, by omega, rfl, by simpa using HO3.out, Grew.of_below (Below.refl _ _)⟩
  case round =>
    obtain ⟨j, hj', rfl, ho, hgr⟩ := hrel
    have HJ : Hid (j + gk = 0) := hj'
    have hj : j ≤ 0 := by omega
    have HOj : Hid (OwnIt base wr u1 (pre ++ it :: (LS.take j).flatten)) := ho
    have HGj : Hid (Grew w3 wr (.slice (some ⟨g, 0, none⟩) (pre.length + 1) cap') u1) := hgr
    clear hj' ho
    by_cases hjM : j < 0
    · exact absurd hjM (by omega)
    · have ej : j = 0 := by omega
      have HF : Hid (OwnIt base wr u1 (pre ++ it :: LS.flatten) ∧ Grew w wr v u1) := ⟨by
        have h1 := HOj.out
        rw [List.take_of_length_le (by omega)] at h1
        exact h1, HG3.out.trans HGj.out⟩
      clear hgr
      go_wp2_with fail
      go_ret
      exact ⟨_, rfl, by rw [HFL.out]; exact HF.out.1, HF.out.2⟩
set_option maxRecDepth 100000 in
set_option maxHeartbeats 4000000 in
theorem io_nil (u : Nat) (it : It)  (pre : List It) (v : Value) (base : Nat) (w : World) (c0 : w.cell? ⟨u, 0, none⟩ = some (.int .i64 it.k)) (hu : u < w.heap.size) (hv : OwnIt base w v pre) (hB : base ≤ w.heap.size) (hb : pre.length + 1 ≤ 4000000000) (hs : it.s = ⟨#[]⟩) :
    Calls Tryz.prog 39 #[.iface 133 (.agg #[.pointer (some ⟨u, 0, none⟩), .int .u64 it.n, .nilIface]), v] w fun e w' => IoPost base w v (pre ++ [it]) e w' := by
  obtain ⟨i0, hi, hz0, hz1, hz2⟩ := info_parts Tryz.infoItem
  have HC : Hid (Calls Tryz.prog 124 #[.agg #[.pointer (some ⟨u, 0, none⟩), .int .u64 it.n, .nilIface]] w fun e w' => e = .returned (.agg #[.int .i64 it.k, .int .u64 it.n, .string it.s]) ∧ Below w.heap.size w w') := by
    rw [hs]; exact item_cho u it.k it.n w c0 hu
  have HV : Hid (OwnIt base w v pre) := hv
  clear hv c0 hs
  go_enter Tryz.func39, Tryz.ntmps39
  go_wp2_with fail
  refine Calls.mono HC.out ?_
  rintro e w1 ⟨rfl, hb1⟩
  have HB1 : Hid (Below w.heap.size w w1) := hb1
  have hs1 := hb1.size
  have HO1 : Hid (OwnIt base w1 v pre) := HV.out.kept hb1
  clear hb1
  go_wp2_with (at_builtin; refine wpList_append_lies _ rfl _ _ 25 rfl base 52 i0 (.agg #[.int .i64 0, .int .u64 0, .string ByteArray.empty]) 3 32 Tryz.underlying25 hi hz0 hz1 hz2 rfl (by decide) v pre.length (flatI pre) rfl (HO1.out.alloc _) ⟨w1.heap.size, 0, none⟩ 1 1 (flatI [it]) rfl rfl ?c1 (flatI_one _) (by omega) ?c3 ?c4 ?c5 (w1.heap.size + 1) (by simp) ?_)
  case c1 => exact flat_cells it (by simp [go_sem]) (by simp [go_sem]) (by simp [go_sem])
  case c3 => unfold maxLen; omega
  case c4 => omega
  case c5 => simp; omega
  intro g cap' w2 hown' hgrow hat hlt'
  have HO2 : Hid (OwnIt base w2 (.slice (some ⟨g, 0, none⟩) (pre.length + 1) cap') (pre ++ [it])) := own_put hown'
  have HG2 : Hid (Grew w w2 v (.slice (some ⟨g, 0, none⟩) (pre.length + 1) cap')) := grew_put HB1.out hgrow hat rfl
  clear hown' hgrow hat hlt'
  go_wp2_with fail
  refine (parts_nil u it.n w2).mono ?_
  rintro e w3 ⟨rfl, hb3⟩
  have HO3 : Hid (OwnIt base w3 (.slice (some ⟨g, 0, none⟩) (pre.length + 1) cap') (pre ++ [it])) := HO2.out.kept hb3
  have HG3 : Hid (Grew w w3 v (.slice (some ⟨g, 0, none⟩) (pre.length + 1) cap')) := HG2.out.trans (Grew.of_below hb3)
  have HR3 : Hid (0 = 0 ∨ ∃ g', (none : Option Addr) = some ⟨g', 0, none⟩ ∧ g' < w3.heap.size ∧ some g' ≠ (Value.slice (some ⟨g, 0, none⟩) (pre.length + 1) cap').ownBlock ∧ ∀ j (h : j < ([] : List (List It)).length), ∃ y, w3.cell? ⟨g', j, none⟩ = some y ∧ ∀ (v1 : Value) (w' : World) (q : List It), Grew w3 w' (.slice (some ⟨g, 0, none⟩) (pre.length + 1) cap') v1 → OwnIt base w' v1 q → q.length + (([] : List (List It))[j]).length ≤ 4000000000 → Calls Tryz.prog 39 #[y, v1] w' fun e w'' => IoPost base w' v1 (q ++ ([] : List (List It))[j]) e w'') := by
    exact .inl rfl
  obtain ⟨LS, hLS⟩ : ∃ LS : List (List It), [] = LS := ⟨_, rfl⟩
  have hll3 : LS.length = 0 := by rw [← hLS]; rfl
  have HFL : Hid ([it] = it :: LS.flatten) := by show _ = _; rw [← hLS]; first | done | simp
  have hbl : pre.length + (1 + LS.flatten.length) ≤ 4000000000 := by rw [← hLS]; simpa using hb
  rw [hLS] at HR3
  clear hb3 hLS 
  go_wp2_with fail
  go_loopg [1, 15] 0 (fun gk o i wr => ∃ j : Nat, j + gk = 0 ∧ i = .int .i64 j ∧ OwnIt base wr o (pre ++ it :: (LS.take j).flatten) ∧ Grew w3 wr (.slice (some ⟨g, 0, none⟩) (pre.length + 1) cap') o)
  case atStart => exact ⟨0, by omega, rfl, by simpa using HO3.out, Grew.of_below (Below.refl _ _)⟩
  case round =>
    obtain ⟨j, hj', rfl, ho, hgr⟩ := hrel
    have HJ : Hid (j + gk = 0) := hj'
    have hj : j ≤ 0 := by omega
    have HOj : Hid (OwnIt base wr u1 (pre ++ it :: (LS.take j).flatten)) := ho
    have HGj : Hid (Grew w3 wr (.slice (some ⟨g, 0, none⟩) (pre.length + 1) cap') u1) := hgr
    clear hj' ho
    by_cases hjM : j < 0
    · exact absurd hjM (by omega)
    · have ej : j = 0 := by omega
      have HF : Hid (OwnIt base wr u1 (pre ++ it :: LS.flatten) ∧ Grew w wr v u1) := ⟨by
        have h1 := HOj.out
        rw [List.take_of_length_le (by omega)] at h1
        exact h1, HG3.out.trans HGj.out⟩
      clear hgr
      go_wp2_with fail
      go_ret
      exact ⟨_, rfl, by rw [HFL.out]; exact HF.out.1, HF.out.2⟩
set_option maxRecDepth 100000 in
set_option maxHeartbeats 4000000 in
theorem io_cho (u : Nat) (it : It) (T : TypeId) (z : Value) (l' : List It) (pre : List It) (v : Value) (base : Nat) (w : World) (c0 : w.cell? ⟨u, 0, none⟩ = some (.int .i64 it.k)) (hu : u < w.heap.size) (hv : OwnIt base w v pre) (hB : base ≤ w.heap.size) (hb : pre.length + (1 + l'.length) ≤ 4000000000) (hs : it.s = ⟨#[]⟩)
    (hr : ∀ (v1 : Value) (w' : World) (q : List It), Grew w w' v v1 → OwnIt base w' v1 q → q.length + l'.length ≤ 4000000000 → Calls Tryz.prog 39 #[.iface T z, v1] w' fun e w'' => IoPost base w' v1 (q ++ l') e w'') :
    Calls Tryz.prog 39 #[.iface 133 (.agg #[.pointer (some ⟨u, 0, none⟩), .int .u64 it.n, .iface T z]), v] w fun e w' => IoPost base w v (pre ++ (it :: l')) e w' := by
  obtain ⟨i0, hi, hz0, hz1, hz2⟩ := info_parts Tryz.infoItem
  have HC : Hid (Calls Tryz.prog 124 #[.agg #[.pointer (some ⟨u, 0, none⟩), .int .u64 it.n, .iface T z]] w fun e w' => e = .returned (.agg #[.int .i64 it.k, .int .u64 it.n, .string it.s]) ∧ Below w.heap.size w w') := by
    rw [hs]; exact item_chi u it.k it.n T z w c0 hu
  have HV : Hid (OwnIt base w v pre) := hv
  have HR : Hid (∀ (v1 : Value) (w' : World) (q : List It), Grew w w' v v1 → OwnIt base w' v1 q → q.length + l'.length ≤ 4000000000 → Calls Tryz.prog 39 #[.iface T z, v1] w' fun e w'' => IoPost base w' v1 (q ++ l') e w'') := hr
  clear hr
  clear hv c0 hs
  go_enter Tryz.func39, Tryz.ntmps39
  go_wp2_with fail
  refine Calls.mono HC.out ?_
  rintro e w1 ⟨rfl, hb1⟩
  have HB1 : Hid (Below w.heap.size w w1) := hb1
  have hs1 := hb1.size
  have HO1 : Hid (OwnIt base w1 v pre) := HV.out.kept hb1
  clear hb1
  go_wp2_with (at_builtin; refine wpList_append_lies _ rfl _ _ 25 rfl base 52 i0 (.agg #[.int .i64 0, .int .u64 0, .string ByteArray.empty]) 3 32 Tryz.underlying25 hi hz0 hz1 hz2 rfl (by decide) v pre.length (flatI pre) rfl (HO1.out.alloc _) ⟨w1.heap.size, 0, none⟩ 1 1 (flatI [it]) rfl rfl ?c1 (flatI_one _) (by omega) ?c3 ?c4 ?c5 (w1.heap.size + 1) (by simp) ?_)
  case c1 => exact flat_cells it (by simp [go_sem]) (by simp [go_sem]) (by simp [go_sem])
  case c3 => unfold maxLen; omega
  case c4 => omega
  case c5 => simp; omega
  intro g cap' w2 hown' hgrow hat hlt'
  have HO2 : Hid (OwnIt base w2 (.slice (some ⟨g, 0, none⟩) (pre.length + 1) cap') (pre ++ [it])) := own_put hown'
  have HG2 : Hid (Grew w w2 v (.slice (some ⟨g, 0, none⟩) (pre.length + 1) cap')) := grew_put HB1.out hgrow hat rfl
  clear hown' hgrow hat hlt'
  go_wp2_with fail
  refine (parts_one u it.n T z w2).mono ?_
  rintro e w3 ⟨⟨g3, rfl, hg3a, hg3b, hg3c⟩, hb3⟩
  have HO3 : Hid (OwnIt base w3 (.slice (some ⟨g, 0, none⟩) (pre.length + 1) cap') (pre ++ [it])) := HO2.out.kept hb3
  have HG3 : Hid (Grew w w3 v (.slice (some ⟨g, 0, none⟩) (pre.length + 1) cap')) := HG2.out.trans (Grew.of_below hb3)
  have HR3 : Hid (1 = 0 ∨ ∃ g', (some ⟨g3, 0, none⟩ : Option Addr) = some ⟨g', 0, none⟩ ∧ g' < w3.heap.size ∧ some g' ≠ (Value.slice (some ⟨g, 0, none⟩) (pre.length + 1) cap').ownBlock ∧ ∀ j (h : j < ([l'] : List (List It)).length), ∃ y, w3.cell? ⟨g', j, none⟩ = some y ∧ ∀ (v1 : Value) (w' : World) (q : List It), Grew w3 w' (.slice (some ⟨g, 0, none⟩) (pre.length + 1) cap') v1 → OwnIt base w' v1 q → q.length + (([l'] : List (List It))[j]).length ≤ 4000000000 → Calls Tryz.prog 39 #[y, v1] w' fun e w'' => IoPost base w' v1 (q ++ ([l'] : List (List It))[j]) e w'') := by
    refine .inr ⟨g3, rfl, hg3b, fun e => ?_, fun j hj => ?_⟩
    · have h1 := (World.ownsRow.lt HO2.out g rfl).2
      have e' : g3 = g := by simpa [Value.ownBlock] using e
      omega
    · have ej : j = 0 := by simp at hj; omega
      subst ej
      exact ⟨_, hg3c, fun v1 w' q hgr' hq hlq => HR.out v1 w' q (HG3.out.trans hgr') hq hlq⟩
  obtain ⟨LS, hLS⟩ : ∃ LS : List (List It), [l'] = LS := ⟨_, rfl⟩
  have hll3 : LS.length = 1 := by rw [← hLS]; rfl
  have HFL : Hid ((it :: l') = it :: LS.flatten) := by show _ = _; rw [← hLS]; first | done | simp
  have hbl : pre.length + (1 + LS.flatten.length) ≤ 4000000000 := by rw [← hLS]; simpa using hb
  rw [hLS] at HR3
  clear hb3 hLS hg3a hg3b hg3c
  go_wp2_with fail
  go_loopg [1, 15] 1 (fun gk o i wr => ∃ j : Nat, j + gk = 1 ∧ i = .int .i64 j ∧ OwnIt base wr o (pre ++ it :: (LS.take j).flatten) ∧ Grew w3 wr (.slice (some ⟨g, 0, none⟩) (pre.length + 1) cap') o)
  case atStart => exact ⟨0, by omega, rfl, by simpa using HO3.out, Grew.of_below (Below.refl _ _)⟩
  case round =>
    obtain ⟨j, hj', rfl, ho, hgr⟩ := hrel
    have HJ : Hid (j + gk = 1) := hj'
    have hj : j ≤ 1 := by omega
    have HOj : Hid (OwnIt base wr u1 (pre ++ it :: (LS.take j).flatten)) := ho
    have HGj : Hid (Grew w3 wr (.slice (some ⟨g, 0, none⟩) (pre.length + 1) cap') u1) := hgr
    clear hj' ho
    by_cases hjM : j < 1
    · obtain ⟨g', had, hgl, hgo, hk⟩ := HR3.out.resolve_left (by omega)
      obtain ⟨y, hc, hcall⟩ := hk j (by omega)
      cases had
      have cj : wr.cell? ⟨g3, j, none⟩ = some y := (World.cell?_of_block (w := w3) (a := ⟨g3, j, none⟩) (hgr.1.block g3 hgl hgo)).trans hc
      have hfl : ((LS.take j).flatten ++ LS[j]'(by omega)) = (LS.take (j + 1)).flatten := by rw [List.take_succ_eq_append_getElem (by omega), List.flatten_append]; simp only [List.flatten_cons, List.flatten_nil, List.append_nil]
      have hle : (LS.take (j + 1)).flatten.length ≤ LS.flatten.length := by
        have : LS = LS.take (j + 1) ++ LS.drop (j + 1) := (List.take_append_drop _ _).symm
        have h2 := congrArg (fun l => (List.flatten l).length) this
        simp only [List.flatten_append, List.length_append] at h2
        omega
      have HK : Hid (Calls Tryz.prog 39 #[y, u1] wr fun e w'' => IoPost base wr u1 (pre ++ it :: (LS.take (j + 1)).flatten) e w'') := by
        have h1 := hcall u1 wr _ HGj.out HOj.out (by
          rw [← hfl] at hle
          simp only [List.length_append, List.length_cons] at hle ⊢
          omega)
        have e1 : (pre ++ it :: (LS.take j).flatten) ++ LS[j]'(by omega) = pre ++ it :: (LS.take (j + 1)).flatten := by rw [← hfl]; simp
        rw [e1] at h1
        exact h1
      clear hk hc hcall hfl hle hgr
      go_wp2_with fail
      refine Calls.mono HK.out ?_
      rintro e w4 ⟨v4, rfl, ho4, hg4⟩
      have HF : Hid (OwnIt base w4 v4 (pre ++ it :: (LS.take (j + 1)).flatten) ∧ Grew w3 w4 (.slice (some ⟨g, 0, none⟩) (pre.length + 1) cap') v4) := ⟨ho4, HGj.out.trans hg4⟩
      clear ho4 hg4 cj
      go_wp2_with fail
      go_roundg (gk - 1)
      case rel => exact ⟨j + 1, by have := HJ.out; omega, by go_num, HF.out.1, HF.out.2⟩
      case measure => have := HJ.out; omega
    · have ej : j = 1 := by omega
      have HF : Hid (OwnIt base wr u1 (pre ++ it :: LS.flatten) ∧ Grew w wr v u1) := ⟨by
        have h1 := HOj.out
        rw [List.take_of_length_le (by omega)] at h1
        exact h1, HG3.out.trans HGj.out⟩
      clear hgr
      go_wp2_with fail
      go_ret
      exact ⟨_, rfl, by rw [HFL.out]; exact HF.out.1, HF.out.2⟩
set_option maxRecDepth 100000 in
set_option maxHeartbeats 4000000 in
theorem io_ser (u : Nat) (it : It) (ad : Option Addr) (cap : Nat) (ls : List (List It)) (pre : List It) (v : Value) (base : Nat) (w : World) (c0 : w.cell? ⟨u, 0, none⟩ = some (.int .i64 it.k)) (hu : u < w.heap.size) (hv : OwnIt base w v pre) (hB : base ≤ w.heap.size) (hb : pre.length + (1 + ls.flatten.length) ≤ 4000000000) (hs : it.s = ⟨#[]⟩) (hn : it.n ≤ 20) (hcp : it.n ≤ cap) (hcm : cap ≤ maxLen) (hll : ls.length = it.n)
    (hr : it.n = 0 ∨ ∃ g, ad = some ⟨g, 0, none⟩ ∧ g < w.heap.size ∧ some g ≠ v.ownBlock ∧ ∀ j (h : j < ls.length), ∃ y, w.cell? ⟨g, j, none⟩ = some y ∧ ∀ (v1 : Value) (w' : World) (q : List It), Grew w w' v v1 → OwnIt base w' v1 q → q.length + ls[j].length ≤ 4000000000 → Calls Tryz.prog 39 #[y, v1] w' fun e w'' => IoPost base w' v1 (q ++ ls[j]) e w'') :
    Calls Tryz.prog 39 #[.iface 131 (.agg #[.pointer (some ⟨u, 0, none⟩), .slice ad it.n cap]), v] w fun e w' => IoPost base w v (pre ++ (it :: ls.flatten)) e w' := by
  obtain ⟨i0, hi, hz0, hz1, hz2⟩ := info_parts Tryz.infoItem
  have HC : Hid (Calls Tryz.prog 123 #[.agg #[.pointer (some ⟨u, 0, none⟩), .slice ad it.n cap]] w fun e w' => e = .returned (.agg #[.int .i64 it.k, .int .u64 it.n, .string it.s]) ∧ Below w.heap.size w w') := by
    rw [hs]; exact item_ser u it.k it.n cap ad hn w c0 hu
  have HV : Hid (OwnIt base w v pre) := hv
  have HR : Hid (it.n = 0 ∨ ∃ g, ad = some ⟨g, 0, none⟩ ∧ g < w.heap.size ∧ some g ≠ v.ownBlock ∧ ∀ j (h : j < ls.length), ∃ y, w.cell? ⟨g, j, none⟩ = some y ∧ ∀ (v1 : Value) (w' : World) (q : List It), Grew w w' v v1 → OwnIt base w' v1 q → q.length + ls[j].length ≤ 4000000000 → Calls Tryz.prog 39 #[y, v1] w' fun e w'' => IoPost base w' v1 (q ++ ls[j]) e w'') := hr
  obtain ⟨M, hM⟩ : ∃ M, it.n = M := ⟨_, rfl⟩
  have HM : Hid (it.n = M) := hM
  rw [hM] at hn hcp hll HC HR ⊢
  unfold maxLen at hcm
  clear hr
  clear hv c0 hs
  go_enter Tryz.func39, Tryz.ntmps39
  go_wp2_with fail
  refine Calls.mono HC.out ?_
  rintro e w1 ⟨rfl, hb1⟩
  have HB1 : Hid (Below w.heap.size w w1) := hb1
  have hs1 := hb1.size
  have HO1 : Hid (OwnIt base w1 v pre) := HV.out.kept hb1
  clear hb1
  go_wp2_with (at_builtin; refine wpList_append_lies _ rfl _ _ 25 rfl base 52 i0 (.agg #[.int .i64 0, .int .u64 0, .string ByteArray.empty]) 3 32 Tryz.underlying25 hi hz0 hz1 hz2 rfl (by decide) v pre.length (flatI pre) rfl (HO1.out.alloc _) ⟨w1.heap.size, 0, none⟩ 1 1 (flatI [it]) rfl rfl ?c1 (flatI_one _) (by omega) ?c3 ?c4 ?c5 (w1.heap.size + 1) (by simp) ?_)
  case c1 => exact flat_cells it (by simp [go_sem]) (by simp [go_sem]; exact congrArg Int.ofNat HM.out.symm) (by simp [go_sem])
  case c3 => unfold maxLen; omega
  case c4 => omega
  case c5 => simp; omega
  intro g cap' w2 hown' hgrow hat hlt'
  have HO2 : Hid (OwnIt base w2 (.slice (some ⟨g, 0, none⟩) (pre.length + 1) cap') (pre ++ [it])) := own_put hown'
  have HG2 : Hid (Grew w w2 v (.slice (some ⟨g, 0, none⟩) (pre.length + 1) cap')) := grew_put HB1.out hgrow hat rfl
  clear hown' hgrow hat hlt'
  go_wp2_with fail
  refine (parts_ser u M cap ad w2).mono ?_
  rintro e w3 ⟨rfl, hb3⟩
  have HO3 : Hid (OwnIt base w3 (.slice (some ⟨g, 0, none⟩) (pre.length + 1) cap') (pre ++ [it])) := HO2.out.kept hb3
  have HG3 : Hid (Grew w w3 v (.slice (some ⟨g, 0, none⟩) (pre.length + 1) cap')) := HG2.out.trans (Grew.of_below hb3)
  have HR3 : Hid (M = 0 ∨ ∃ g', (ad : Option Addr) = some ⟨g', 0, none⟩ ∧ g' < w3.heap.size ∧ some g' ≠ (Value.slice (some ⟨g, 0, none⟩) (pre.length + 1) cap').ownBlock ∧ ∀ j (h : j < (ls : List (List It)).length), ∃ y, w3.cell? ⟨g', j, none⟩ = some y ∧ ∀ (v1 : Value) (w' : World) (q : List It), Grew w3 w' (.slice (some ⟨g, 0, none⟩) (pre.length + 1) cap') v1 → OwnIt base w' v1 q → q.length + ((ls : List (List It))[j]).length ≤ 4000000000 → Calls Tryz.prog 39 #[y, v1] w' fun e w'' => IoPost base w' v1 (q ++ (ls : List (List It))[j]) e w'') := by
    rcases HR.out with h0 | ⟨g', had, hgl, hgo, hk⟩
    · exact .inl h0
    · refine .inr ⟨g', had, by have := HG2.out.1.size; have := hb3.size; omega, fun e => ?_, fun j hj => ?_⟩
      · rcases HG2.out.2 g' e.symm with h2 | h2
        · exact hgo h2.symm
        · omega
      · obtain ⟨y, hc, hcall⟩ := hk j hj
        refine ⟨y, ?_, fun v1 w' q hgr' hq hlq => hcall v1 w' q (HG3.out.trans hgr') hq hlq⟩
        have e1 : w3.heap[g']? = w.heap[g']? := HG3.out.1.block g' hgl hgo
        exact (World.cell?_of_block (w := w) (a := ⟨g', j, none⟩) e1).trans hc
  obtain ⟨LS, hLS⟩ : ∃ LS : List (List It), ls = LS := ⟨_, rfl⟩
  have hll3 : LS.length = M := by rw [← hLS]; exact hll
  have HFL : Hid ((it :: ls.flatten) = it :: LS.flatten) := by show _ = _; rw [← hLS]; first | done | simp
  have hbl : pre.length + (1 + LS.flatten.length) ≤ 4000000000 := by rw [← hLS]; exact hb
  rw [hLS] at HR3
  clear hb3 hLS 
  go_wp2_with fail
  go_loopg [1, 15] M (fun gk o i wr => ∃ j : Nat, j + gk = M ∧ i = .int .i64 j ∧ OwnIt base wr o (pre ++ it :: (LS.take j).flatten) ∧ Grew w3 wr (.slice (some ⟨g, 0, none⟩) (pre.length + 1) cap') o)
  case atStart => exact ⟨0, by omega, rfl, by simpa using HO3.out, Grew.of_below (Below.refl _ _)⟩
  case round =>
    obtain ⟨j, hj', rfl, ho, hgr⟩ := hrel
    have HJ : Hid (j + gk = M) := hj'
    have hj : j ≤ M := by omega
    have HOj : Hid (OwnIt base wr u1 (pre ++ it :: (LS.take j).flatten)) := ho
    have HGj : Hid (Grew w3 wr (.slice (some ⟨g, 0, none⟩) (pre.length + 1) cap') u1) := hgr
    clear hj' ho
    by_cases hjM : j < M
    · obtain ⟨g', had, hgl, hgo, hk⟩ := HR3.out.resolve_left (by omega)
      obtain ⟨y, hc, hcall⟩ := hk j (by omega)
      subst had
      have cj : wr.cell? ⟨g', j, none⟩ = some y := (World.cell?_of_block (w := w3) (a := ⟨g', j, none⟩) (hgr.1.block g' hgl hgo)).trans hc
      have hfl : ((LS.take j).flatten ++ LS[j]'(by omega)) = (LS.take (j + 1)).flatten := by rw [List.take_succ_eq_append_getElem (by omega), List.flatten_append]; simp only [List.flatten_cons, List.flatten_nil, List.append_nil]
      have hle : (LS.take (j + 1)).flatten.length ≤ LS.flatten.length := by
        have : LS = LS.take (j + 1) ++ LS.drop (j + 1) := (List.take_append_drop _ _).symm
        have h2 := congrArg (fun l => (List.flatten l).length) this
        simp only [List.flatten_append, List.length_append] at h2
        omega
      have HK : Hid (Calls Tryz.prog 39 #[y, u1] wr fun e w'' => IoPost base wr u1 (pre ++ it :: (LS.take (j + 1)).flatten) e w'') := by
        have h1 := hcall u1 wr _ HGj.out HOj.out (by
          rw [← hfl] at hle
          simp only [List.length_append, List.length_cons] at hle ⊢
          omega)
        have e1 : (pre ++ it :: (LS.take j).flatten) ++ LS[j]'(by omega) = pre ++ it :: (LS.take (j + 1)).flatten := by rw [← hfl]; simp
        rw [e1] at h1
        exact h1
      clear hk hc hcall hfl hle hgr
      go_wp2_with fail
      refine Calls.mono HK.out ?_
      rintro e w4 ⟨v4, rfl, ho4, hg4⟩
      have HF : Hid (OwnIt base w4 v4 (pre ++ it :: (LS.take (j + 1)).flatten) ∧ Grew w3 w4 (.slice (some ⟨g, 0, none⟩) (pre.length + 1) cap') v4) := ⟨ho4, HGj.out.trans hg4⟩
      clear ho4 hg4 cj
      go_wp2_with fail
      go_roundg (gk - 1)
      case rel => exact ⟨j + 1, by have := HJ.out; omega, by go_num, HF.out.1, HF.out.2⟩
      case measure => have := HJ.out; omega
    · have ej : j = M := by omega
      have HF : Hid (OwnIt base wr u1 (pre ++ it :: LS.flatten) ∧ Grew w wr v u1) := ⟨by
        have h1 := HOj.out
        rw [List.take_of_length_le (by omega)] at h1
        exact h1, HG3.out.trans HGj.out⟩
      clear hgr
      go_wp2_with fail
      go_ret
      exact ⟨_, rfl, by rw [HFL.out]; exact HF.out.1, HF.out.2⟩
theorem itemsOf_all (ts : List (Int × Int)) : ∀ f, IoHyp ts f := by
  intro f
  induction f with
  | zero => intro x a l pre S v base w h; exact h.elim
  | succ f ih =>
    intro x a l pre S v base w hx hS hSv hv hB hlen
    obtain ⟨u, it, ha, ht, hfit, hn64, hx⟩ := hx
    obtain ⟨_, e0, ad0, cap0, hok, hit, hu, c0, c1, _⟩ := ht.openT
    have hul := hS u hu
    have hfit' : it.k = ts[a].1 ∧ fitsN ts[a].1 ts[a].2 it.n = true := by simp [fitsI] at hfit; exact ⟨hfit.1, hfit.2.1⟩
    rw [← hfit'.1] at c0
    have hkeep : ∀ (w' : World) (v1 : Value), Grew w w' v v1 → (∀ c, S c → w'.heap[c]? = w.heap[c]?) ∧ (∀ c, S c → c < w'.heap.size) ∧ (∀ c, S c → some c ≠ v1.ownBlock) ∧ base ≤ w'.heap.size := fun w' v1 hg => by
      have hsz := hg.1.size
      refine ⟨fun c hc => hg.1.block c (hS c hc) (hSv c hc), fun c hc => by have := hS c hc; omega, fun c hc e => ?_, by omega⟩
      rcases hg.2 c e.symm with h | h
      · exact hSv c hc h.symm
      · have := hS c hc; omega
    rcases hx with ⟨hk, rfl, rfl⟩ | ⟨hk, rfl, rfl⟩ | ⟨hk, ad, cap, ls, rfl, hll, rfl, h1, h2, h3⟩ | ⟨hk, y, l', rfl, rfl, h3⟩
    · exact io_num u it pre v base w c0 hul hv hB (by simpa using hlen) (fit_nos hfit (by omega) (by omega))
    · exact io_byt u it pre v base w c0 hul hv hB (by simpa using hlen) (fit_non hfit hk)
    · have h20 : it.n ≤ 20 := by have := np_le hok hfit'.2; unfold np at this; rw [if_pos (by omega)] at this; exact this
      refine io_ser u it ad cap ls pre v base w c0 hul hv hB (by simp only [List.length_cons] at hlen; omega) (fit_nos hfit (by omega) (by omega)) h20 h1 h2 hll ?_
      rcases h3 with h3 | ⟨g, rfl, hg, hp⟩
      · exact .inl h3
      · refine .inr ⟨g, rfl, hS g hg, hSv g hg, fun j hj => ?_⟩
        obtain ⟨y, hc, hd⟩ := hp j hj
        refine ⟨y, hc, fun v1 w' q hgr hq hlq => ?_⟩
        obtain ⟨k1, k2, k3, k4⟩ := hkeep w' v1 hgr
        exact ih y _ ls[j] q S v1 base w' (hd.keep (fun _ h => h) k1) k2 k3 hq k4 hlq
    · rcases h3 with ⟨h3, rfl, rfl⟩ | ⟨h3, hd⟩
      · exact io_nil u it pre v base w c0 hul hv hB (by simpa using hlen) (fit_nos hfit (by omega) (by omega))
      · obtain ⟨T, z, rfl⟩ := hd.iface
        refine io_cho u it T z l' pre v base w c0 hul hv hB (by simp only [List.length_cons] at hlen; omega) (fit_nos hfit (by omega) (by omega)) (fun v1 w' q hgr hq hlq => ?_)
        obtain ⟨k1, k2, k3, k4⟩ := hkeep w' v1 hgr
        exact ih _ _ l' q S v1 base w' (hd.keep (fun _ h => h) k1) k2 k3 hq k4 hlq
end Go.Proofs.YtdncnjmlicdamaaGreatDoor
namespace Go.Proofs.YtdncnjmlicdamaaGreatDoor
open Go.RowKit Go.Sort
set_option linter.unusedVariables false
/-- What is read of b: the value of the schema, where b is one. -/
def decR (get : List UInt8 → Nat × Nat × Bool) (ok : Bool) (ts : List (Int × Int)) (b : ByteArray) : Option (List It) :=
  if ok = true then (match scD get ts 7 0 b.data.toList with | some (l, m) => if m = b.size ∧ l.length ≤ 200 then some l else none | none => none) else none
theorem decR_no {get : List UInt8 → Nat × Nat × Bool} {ts : List (Int × Int)} {b : ByteArray} : decR get false ts b = none := rfl
theorem decR_none {get : List UInt8 → Nat × Nat × Bool} {ok : Bool} {ts : List (Int × Int)} {b : ByteArray} (h : scD get ts 7 0 b.data.toList = none) : decR get ok ts b = none := by
  unfold decR; rw [h]; simp
theorem decR_bad {get : List UInt8 → Nat × Nat × Bool} {ok : Bool} {ts : List (Int × Int)} {b : ByteArray} {l : List It} {m : Nat} (h : scD get ts 7 0 b.data.toList = some (l, m)) (hn : ¬ (m = b.size ∧ l.length ≤ 200)) : decR get ok ts b = none := by
  unfold decR; rw [h]; simp only [if_neg hn]; simp
theorem decR_yes {get : List UInt8 → Nat × Nat × Bool} {ts : List (Int × Int)} {b : ByteArray} {l : List It} (h : scD get ts 7 0 b.data.toList = some (l, b.size)) (hn : l.length ≤ 200) : decR get true ts b = some l := by
  unfold decR; rw [h]; simp [hn]
theorem decR_inv {get : List UInt8 → Nat × Nat × Bool} {ok : Bool} {ts : List (Int × Int)} {b : ByteArray} {l : List It} (h : decR get ok ts b = some l) : ok = true ∧ scD get ts 7 0 b.data.toList = some (l, b.size) ∧ l.length ≤ 200 := by
  unfold decR at h
  cases ok with
  | false => simp at h
  | true =>
    simp only [if_true] at h
    split at h
    · rename_i l' m hs
      split at h
      · rename_i hc
        simp only [Option.some.injEq] at h
        subst h
        rw [← hc.1]
        exact ⟨rfl, hs, hc.2⟩
      · cases h
    · cases h
theorem decR_wf {cnt : Nat → List UInt8} {get : List UInt8 → Nat × Nat × Bool} (hc : CntGet cnt get) {ok : Bool} {ts : List (Int × Int)} {b : ByteArray} (hs : ok = true → schOk ts = true) : ((decR get ok ts b).getD []).length ≤ 200 ∧ ∀ x ∈ (decR get ok ts b).getD [], inI x.k ∧ x.n < 18446744073709551616 ∧ x.s.size ≤ 1048577 := by
  cases h : decR get ok ts b with
  | none => exact ⟨by simp, by simp⟩
  | some l =>
    obtain ⟨h1, h2, h3⟩ := decR_inv h
    have q := (scD_back hc (schOk_iff.1 (hs h1)).2 h2).2.1
    refine ⟨h3, fun x hx => ?_⟩
    have q2 := q x hx
    exact ⟨⟨by omega, by omega⟩, q2.2.1, by omega⟩
theorem grew_below {w w' : World} {v' : Value} (h : Grew w w' (.slice none 0 0) v') : Below w.heap.size w w' :=
  ⟨h.1.os, h.1.tape, h.1.output, h.1.size, fun k hk => h.1.block k hk (by simp [Value.ownBlock])⟩
/-- What a reading of a format leaves: the value, owned. -/
def DecV (R : Option (List It)) (w : World) (e : Ending) (w' : World) : Prop :=
  (∃ v, e = .returned (.tuple #[v, .bool R.isSome]) ∧ OwnIt w.heap.size w' v (R.getD [])) ∧ Below w.heap.size w w'
/-- The same, with an error in the place of a truth. -/
def DecE (R : Option (List It)) (w : World) (e : Ending) (w' : World) : Prop :=
  ((R = none ∧ ∃ T z, e = .returned (.tuple #[.slice none 0 0, .iface T z])) ∨ ∃ l v, R = some l ∧ e = .returned (.tuple #[v, .nilIface]) ∧ OwnIt w.heap.size w' v l) ∧ Below w.heap.size w w'
/-- What takeWhole leaves. -/
def TwPost (get : List UInt8 → Nat × Nat × Bool) (T : TypeId) (z : Value) (ts : List (Int × Int)) (f a : Nat) (S0 : Nat → Prop) (b : ByteArray) (w : World) (e : Ending) (w' : World) : Prop :=
  Below w.heap.size w w' ∧
  (((∀ l, scD get ts f a b.data.toList ≠ some (l, b.size)) ∧ e = .returned (.tuple #[.nilIface, .iface T z])) ∨
   (∃ l T' y, scD get ts f a b.data.toList = some (l, b.size) ∧ e = .returned (.tuple #[.iface T' y, .nilIface]) ∧ DAt ts f w' (fun c => S0 c ∨ (w.heap.size ≤ c ∧ c < w'.heap.size)) (.iface T' y) a l))
end Go.Proofs.YtdncnjmlicdamaaGreatDoor
