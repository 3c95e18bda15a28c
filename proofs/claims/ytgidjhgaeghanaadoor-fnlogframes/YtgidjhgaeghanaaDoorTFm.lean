/- Marks on rows of strings; rows of strings that are the same: contracts. -/
import Derived.Test.YtgidjhgaeghanaaDoorG7c
import Derived.Lib.QuietBelow
import Derived.BigQuiet
import Derived.Lib.Strings
import Derived.Lib.ItoaNum
import Derived.Deep.LoopGhost
import Derived.Deep.RegionWith
import Derived.Deep.AppendLies
namespace Go.Proofs.YtgidjhgaeghanaaDoor
open Go.RowKit Go.Sort
set_option linter.unusedVariables false
theorem bel1 (w : World) (o : Obj) : Below w.heap.size w (w.alloc o) := (Below.refl _ _).alloc (Nat.le_refl _) _
theorem bel2 (w : World) (o o' : Obj) : Below w.heap.size w ((w.alloc o).alloc o') := ((Below.refl _ _).alloc (Nat.le_refl _) _).alloc (by simp) _
theorem set_block {w : World} {N i : Nat} {cs : Array Value} {t : TypeId} {fr : Nat × Nat} (h : w.heap[N]? = some (.cells cs t fr)) (v : Value) : (w.setCell ⟨N, i, none⟩ v).heap[N]? = some (.cells (cs.setIfInBounds i v) t fr) := by
  have hlt : N < w.heap.size := by
    rcases Nat.lt_or_ge N w.heap.size with h' | h'
    · exact h'
    · simp [Array.getElem?_eq_none h'] at h
  have h' : w.heap[N] = .cells cs t fr := by simpa [Array.getElem?_eq_getElem hlt] using h
  show (w.heap.modify N _)[N]? = _
  rw [Array.getElem?_eq_getElem (by simpa using hlt), Array.getElem_modify_self, h']
  rfl
theorem blk_lt {w : World} {b : Nat} {o : Obj} (h : w.heap[b]? = some o) : b < w.heap.size := by
  rcases Nat.lt_or_ge b w.heap.size with h' | h'
  · exact h'
  · simp [Array.getElem?_eq_none h'] at h
theorem cells_re {w : World} {a : Addr} {v : Value} (h : w.cell? a = some v) : ∀ d os, (grow (redrawn w d) os).cell? a = some v := fun d os => cell_regrown h d os
theorem gb_bel {w w' : World} (h : Below w.heap.size w w') : w.grownBy w' none := ⟨h.os, h.tape, h.output, h.size, fun k hk _ => h.block k hk⟩
theorem own_down {w : World} {base base' e sz n : Nat} {v : Value} {xs : List Value} (h : w.ownsRow base e sz v n xs) (hb : base' ≤ base) : w.ownsRow base' e sz v n xs := by
  refine ⟨h.1, ?_⟩
  rcases h.2 with h | ⟨g, cap, cur, a1, a2, a3⟩
  · exact .inl h
  · exact .inr ⟨g, cap, cur, a1, by omega, a3⟩
theorem str_of {S : ByteArray} {l : List UInt8} (h : S.data.toList = l) : S = ⟨l.toArray⟩ := by
  obtain ⟨⟨x⟩⟩ := S
  simp at h
  subst h
  rfl
theorem cat_dl (a b : ByteArray) : (a ++ b).data.toList = a.data.toList ++ b.data.toList := by simp
theorem heap_alloc_new (w : World) (o : Obj) : (w.alloc o).heap[w.heap.size]? = some o := by show (w.heap.push o)[w.heap.size]? = _; simp
theorem belA (w : World) (o : Obj) : Below w.heap.size w (w.alloc o) := bel1 w o
theorem dec_lt10 {u : Nat} (h : u < 10) : Lib.decDigits u = [UInt8.ofNat (48 + u)] := by rw [Lib.decDigits, dif_pos h]
theorem dec_ge10 {u : Nat} (h : ¬ u < 10) : Lib.decDigits u = Lib.decDigits (u / 10) ++ [UInt8.ofNat (48 + u % 10)] := by rw [Lib.decDigits, dif_neg h]
theorem conv1 (w : World) (x : Nat) (z : Int) (hx : x < 256) (hz : z = (x : Int)) : (convert 22 9 (.slice (some ⟨w.heap.size, 0, none⟩) 1 1)).run Tryd.prog (w.alloc (.cells #[.int .u8 z] 5)) = .ok (.string ⟨#[UInt8.ofNat x]⟩) (w.alloc (.cells #[.int .u8 z] 5)) := by
  subst hz
  have hb : bv (UInt8.ofNat x) = .int .u8 (x : Int) := by simp [bv]; omega
  have ho := World.ownsRow_lit (base := w.heap.size) (e := 5) (size := 1) w #[bv (UInt8.ofNat x)] 1 (Nat.le_refl _) (by decide) rfl
  have hc := conv_own (P := Tryd.prog) 22 9 Tryd.underlying22 Tryd.underlying5 Tryd.underlying9 (l := [UInt8.ofNat x]) (by simpa using ho)
  rw [hb] at hc
  simpa using hc
/-- The text that is a mark. -/
def mkT (k : Nat) : ByteArray := ⟨(109 :: Lib.decDigits k).toArray⟩
def dgp (k : Nat) : List UInt8 := if k = 0 then [] else Lib.decDigits k
theorem dgp_step {k : Nat} (h : 0 < k) : dgp k = dgp (k / 10) ++ [UInt8.ofNat (48 + k % 10)] := by
  unfold dgp
  rw [if_neg (by omega)]
  by_cases h1 : k < 10
  · rw [if_pos (by omega), dec_lt10 h1, show k % 10 = k by omega]; rfl
  · rw [if_neg (by omega), dec_ge10 h1]
theorem dec_lenk : ∀ (j u : Nat), u < 10 ^ (j + 1) → (Lib.decDigits u).length ≤ j + 1
  | 0, u, h => by rw [dec_lt10 (by omega)]; simp
  | j + 1, u, h => by
    by_cases h1 : u < 10
    · rw [dec_lt10 h1]; simp
    · have := dec_lenk j (u / 10) (by rw [Nat.pow_succ] at h; omega)
      rw [dec_ge10 h1, List.length_append]; simp; omega
theorem mk_refl (w : World) (row : Option Nat) : w.grownBy w row := ⟨rfl, rfl, rfl, Nat.le_refl _, fun _ _ _ => rfl⟩
theorem mk_set {w wr : World} {g : Nat} (h : w.grownBy wr (some g)) (i : Nat) (x : Value) : w.grownBy (wr.setCell ⟨g, i, none⟩ x) (some g) :=
  ⟨h.os, h.tape, h.output, by simpa [World.setCell] using h.size, fun k hk hne => (Below.heap_setCell _ _ _ _ (fun e => hne (by rw [e]))).trans (h.block k hk hne)⟩
theorem mk_full {w wr w2 : World} {row : Option Nat} (h : w.grownBy wr row) (hb : Below wr.heap.size wr w2) : w.grownBy w2 row :=
  ⟨hb.os.trans h.os, hb.tape.trans h.tape, hb.output.trans h.output, Nat.le_trans h.size hb.size, fun k hk hne => (hb.block k (Nat.lt_of_lt_of_le hk h.size)).trans (h.block k hk hne)⟩
def strv (X : List ByteArray) : List Value := X.map fun s => .string s
/-- A row of strings of which the first j bear their marks. -/
def MkG (k n : Nat) (w : World) (g j : Nat) : Prop := ∃ cs : Array Value, w.heap[g]? = some (.cells cs 9 (0, 0)) ∧ n ≤ cs.size ∧
  (∀ i, i < j → cs[i]? = some (.string (mkT (k + i)))) ∧ ∀ i, i < n → ∃ z, cs[i]? = some (.string z)
theorem MkG.cell {k n g j : Nat} {w : World} (h : MkG k n w g j) {i : Nat} (hi : i < n) : (∃ z, w.cell? ⟨g, i, none⟩ = some (.string z)) ∧ ∀ m, w.frozen? ⟨g, m, none⟩ = false := by
  obtain ⟨cs, h1, h2, h3, h4⟩ := h
  obtain ⟨z, hz⟩ := h4 i hi
  exact ⟨⟨z, by rw [cell_of_row w g _ cs _ _ h1]; exact hz⟩, fun m => by simp [World.frozen?, h1]⟩
theorem MkG.keep {k n g j : Nat} {w w' : World} (h : MkG k n w g j) (hb : w'.heap[g]? = w.heap[g]?) : MkG k n w' g j := by
  obtain ⟨cs, h1, h2⟩ := h
  exact ⟨cs, hb.trans h1, h2⟩
theorem MkG.next {k n g j : Nat} {w : World} (h : MkG k n w g j) (hj : j < n) : MkG k n (w.setCell ⟨g, j, none⟩ (.string (mkT (k + j)))) g (j + 1) := by
  obtain ⟨cs, h1, h2, h3, h4⟩ := h
  have e1 := set_block (i := j) h1 (.string (mkT (k + j)))
  refine ⟨_, e1, by simpa using h2, fun i hi => ?_, fun i hi => ?_⟩
  · by_cases e : i = j
    · subst e; rw [Array.getElem?_setIfInBounds_self_of_lt (by omega)]
    · rw [Array.getElem?_setIfInBounds_ne (by omega)]; exact h3 i (by omega)
  · by_cases e : i = j
    · subst e; exact ⟨_, Array.getElem?_setIfInBounds_self_of_lt (by omega)⟩
    · rw [Array.getElem?_setIfInBounds_ne (by omega)]; exact h4 i hi
/-- A slice of strings, of which the first j bear their marks, in a block from B on. -/
def MkR (k n j B : Nat) (w : World) (v : Value) : Prop := ∃ (ad : Option Addr) (cap : Nat), v = .slice ad n cap ∧ n ≤ cap ∧ cap ≤ maxLen ∧ (n = 0 ∨ ∃ g, ad = some ⟨g, 0, none⟩ ∧ B ≤ g ∧ g < w.heap.size ∧ MkG k n w g j)
theorem MkR.below {k n j B : Nat} {w w' : World} {v : Value} (h : MkR k n j B w v) (hb : Below w.heap.size w w') : MkR k n j B w' v := by
  obtain ⟨ad, cap, h1, h2, h3, h4⟩ := h
  refine ⟨ad, cap, h1, h2, h3, ?_⟩
  rcases h4 with h4 | ⟨g, a1, a2, a3, a4⟩
  · exact .inl h4
  · exact .inr ⟨g, a1, a2, by have := hb.size; omega, a4.keep (hb.block g a3)⟩
theorem MkR.start {k B : Nat} {w : World} {v : Value} {X : List ByteArray} (h : w.ownsRow B 9 1 v X.length (strv X)) : MkR k X.length 0 B w v := by
  rcases h.2 with ⟨rfl, h0⟩ | ⟨g, cap, cur, rfl, hg, hh, h1, h2, h3, h4⟩
  · exact ⟨none, 0, by rw [h0], by omega, by simp [maxLen], .inl h0⟩
  · refine ⟨_, cap, rfl, h1, h2, .inr ⟨g, rfl, hg, blk_lt hh, cur, hh, by omega, fun i hi => by omega, fun i hi => ?_⟩⟩
    have e : (cur.toList.take (X.length * 1))[i]? = cur.toList[i]? := by rw [List.getElem?_take, if_pos (by omega)]
    rw [h4] at e
    refine ⟨X[i], ?_⟩
    have e2 : (strv X)[i]? = some (.string X[i]) := by unfold strv; rw [List.getElem?_map, List.getElem?_eq_getElem hi]; rfl
    rw [e2] at e
    simpa using e.symm
theorem own_at {B : Nat} {w : World} {ad : Option Addr} {n cap : Nat} {X : List ByteArray} (h : w.ownsRow B 9 1 (.slice ad n cap) X.length (strv X)) {j : Nat} (hj : j < X.length) : ∃ g, ad = some ⟨g, 0, none⟩ ∧ g < w.heap.size ∧ w.cell? ⟨g, j, none⟩ = some (.string X[j]) := by
  rcases h.2 with ⟨_, h0⟩ | ⟨g, cap', cur, hv, hg, hh, _⟩
  · omega
  · cases hv
    refine ⟨g, rfl, blk_lt hh, ?_⟩
    rw [World.ownsRow.cellAt h j (by omega)]
    unfold strv
    rw [List.getElem?_map, List.getElem?_eq_getElem hj]
    rfl
end Go.Proofs.YtgidjhgaeghanaaDoor
