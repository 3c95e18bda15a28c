/- S3a, S3b, S3c, S3d, S3e, S3f: one text. -/
import Derived.Test.YtdncnjmlicdamaaDoorS2h
import Derived.Test.YtdncnjmlicdamaaDoorPv
import Derived.Test.YtdncnjmlicdamaaDoorL1a
import Derived.Lib.QuietBelow
import Derived.BigQuiet
import Derived.Lib.Strings
import Derived.Deep.DeepCutAuto
import Derived.Deep.CutBlock
namespace Go.Proofs.YtdncnjmlicdamaaDoor
open Go.RowKit Go.Sort
set_option linter.unusedVariables false
/-- Items in memory: from block b, offset o on, three cells each; C: how many there is room for. -/
structure ItemsAt (B : Nat) (w : World) (b o C : Nat) (vs : List It) : Prop where
  small : vs.length ≤ 1048577
  room : vs.length ≤ C
  most : C ≤ maxLen
  wf : ∀ x ∈ vs, inI x.k ∧ x.n < 18446744073709551616 ∧ x.s.size ≤ 1048577
  low : vs.length = 0 ∨ b < B
  cells : ∀ i (h : i < vs.length), w.cell? ⟨b, o + i * 3, none⟩ = some (.int .i64 vs[i].k) ∧ w.cell? ⟨b, o + i * 3 + 1, none⟩ = some (.int .u64 vs[i].n) ∧ w.cell? ⟨b, o + i * 3 + 2, none⟩ = some (.string vs[i].s)
theorem ItemsAt.below {B : Nat} {w w' : World} {b o C : Nat} {vs : List It} (h : ItemsAt B w b o C vs) (hb : Below B w w') : ItemsAt B w' b o C vs := by
  refine ⟨h.small, h.room, h.most, h.wf, h.low, fun i hi => ?_⟩
  have hlt : b < B := h.low.resolve_left (by omega)
  rw [hb.cell (p := ⟨b, o + i * 3, none⟩) hlt, hb.cell (p := ⟨b, o + i * 3 + 1, none⟩) hlt, hb.cell (p := ⟨b, o + i * 3 + 2, none⟩) hlt]
  exact h.cells i hi
theorem ItemsAt.up {B B' : Nat} {w : World} {b o C : Nat} {vs : List It} (h : ItemsAt B w b o C vs) (hB : B ≤ B') : ItemsAt B' w b o C vs :=
  ⟨h.small, h.room, h.most, h.wf, h.low.imp id (fun h => by omega), h.cells⟩
/-- The slice of what stands from place q on. -/
def FromQ (b o C : Nat) (vs : List It) (q : Nat) (v : Value) : Prop := ∃ ad, v = .slice ad (vs.length - q) (C - q) ∧ (vs.length ≤ q ∨ ad = some ⟨b, o + q * 3, none⟩)
theorem FromQ.at {b o C : Nat} {vs : List It} {q : Nat} {v : Value} (h : FromQ b o C vs q v) (hq : q < vs.length) : v = .slice (some ⟨b, o + q * 3, none⟩) (vs.length - q) (C - q) := by
  obtain ⟨ad, rfl, h1⟩ := h
  rcases h1 with h1 | rfl
  · omega
  · rfl
theorem fitsN_1 (n : Int) (m : Nat) : fitsN 1 n m = decide (m < 2 ^ n.toNat) := rfl
set_option maxHeartbeats 1000000 in
theorem numberFits_any (k n : Int) (m : Nat) (w : World) (hok : tyOk k n = true) (hm : m < 18446744073709551616) : Calls Tryd.prog 92 #[.agg #[.int .i64 k, .int .i64 n], .int .u64 m] w fun e w' => e = .returned (.bool (fitsN k n m)) ∧ Below w.heap.size w w' := by
  simp only [tyOk, decide_eq_true_eq] at hok
  have hk : k = 1 ∨ k = 2 ∨ k = 3 ∨ k = 4 ∨ k = 5 ∨ k = 6 ∨ k = 7 ∨ k = 8 ∨ k = 9 := by omega
  rcases hk with rfl | hk
  · have hn : 0 ≤ n ∧ n ≤ 64 := by omega
    obtain ⟨N, rfl⟩ := Int.eq_ofNat_of_zero_le hn.1
    have HL : Hid (∀ w, Calls Tryd.prog 96 #[.int .u64 m] w fun e w' => e = .returned (.int .i64 (bl m)) ∧ w' = w) := fun w => Len64_any m w hm
    have HR : Hid (fitsN 1 (N : Int) m = decide (bl m ≤ N)) := by show _ = _; rw [fitsN_1, Int.toNat_natCast, Bool.eq_iff_iff]; simp [bl_le]
    have c1 : ∀ d os, (grow (redrawn (w.alloc (.cells #[.int .i64 1, .int .i64 (N : Int)] 40)) d) os).cell? ⟨w.heap.size, 1, none⟩ = some (.int .i64 (N : Int)) := fun d os => cell_regrown (by simp [go_sem]) d os
    clear hok
    go_enter Tryd.func92, Tryd.ntmps92
    go_wp2_with fail
    refine wp_region_quiet_below (by kernel_rfl) (by kernel_rfl) ?_
    repeat (go_big_quiet_step (exact Calls.regrown_of ((HL.out _).mono fun _ _ h => ⟨h.1, h.2 ▸ Below.refl _ _⟩)))
    refine wpQuiet_nil ?_
    intro w6 hw'
    obtain ⟨⟨dq, osq⟩, hw''⟩ := hw'
    have hb2 : Below w.heap.size w w6 := by rw [hw'']; exact (bel1 _ _).trans ((below_regrown _ dq osq).mono (by simp))
    clear hw'' c1
    go_wp2_with fail
    go_ret
    exact ⟨by rw [HR.out]; exact ret_b (by simp), hb2⟩
  · have hn : 0 ≤ n ∧ n ≤ 200 := by omega
    obtain ⟨N, rfl⟩ := Int.eq_ofNat_of_zero_le hn.1
    rcases hk with rfl | rfl | rfl | rfl | rfl | rfl | rfl | rfl
    all_goals
      go_enter Tryd.func92, Tryd.ntmps92
      go_wp2
      go_ret
      exact ⟨ret_b (by simp [fitsN, beq_dec] <;> omega), bel1 _ _⟩
theorem str_empty (s : ByteArray) : s.toList.isEmpty = decide (s.size = 0) := by
  rw [ByteArray.toList_eq]
  obtain ⟨⟨l⟩⟩ := s
  cases l with
  | nil => rfl
  | cons a l => simp [ByteArray.size]
theorem fitsS_rest {k n : Int} {m : Nat} (h3 : k ≠ 3) (h4 : k ≠ 4) : fitsS k n m = decide (m = 0) := by simp [fitsS, h3, h4]
set_option maxHeartbeats 1000000 in
theorem bytesFit_any (k n : Int) (s : ByteArray) (w : World) (hok : tyOk k n = true) (hs : s.size ≤ 1048577) : Calls Tryd.prog 93 #[.agg #[.int .i64 k, .int .i64 n], .string s] w fun e w' => e = .returned (.bool (fitsS k n s.size)) ∧ Below w.heap.size w w' := by
  simp only [tyOk, decide_eq_true_eq] at hok
  have hk : k = 1 ∨ k = 2 ∨ k = 3 ∨ k = 4 ∨ k = 5 ∨ k = 6 ∨ k = 7 ∨ k = 8 ∨ k = 9 := by omega
  rcases hk with rfl | rfl | rfl | rfl | rfl | rfl | rfl | rfl | rfl
  all_goals
    go_enter Tryd.func93, Tryd.ntmps93
    go_wp2
    go_ret
    exact ⟨ret_b (by first | (rw [fitsS_rest (by decide) (by decide)]; exact str_empty s) | (simp [fitsS, beq_dec])), bel1 _ _⟩
/-- A node's cells and its parts, opened, its type too. -/
theorem TreeAt.openT {ts : List (Int × Int)} {f u a : Nat} {w : World} {S : Nat → Prop} (h : TreeAt ts (f + 1) w S u a) : ∃ (ha : a < ts.length) (e : Nat) (ad : Option Addr) (cap : Nat),
    tyOk ts[a].1 ts[a].2 = true ∧ iter (en ts f) (a + 1) (kids ts[a].1 ts[a].2) = some e ∧ S u ∧ w.cell? ⟨u, 0, none⟩ = some (.int .i64 ts[a].1) ∧ w.cell? ⟨u, 1, none⟩ = some (.int .i64 ts[a].2) ∧
    w.cell? ⟨u, 5, none⟩ = some (.slice ad (kids ts[a].1 ts[a].2) cap) ∧ kids ts[a].1 ts[a].2 ≤ cap ∧ cap ≤ maxLen ∧
      (kids ts[a].1 ts[a].2 = 0 ∨ ∃ g, ad = some ⟨g, 0, none⟩ ∧ ∀ j, j < kids ts[a].1 ts[a].2 → ∃ c p, iter (en ts f) (a + 1) j = some p ∧ w.cell? ⟨g, j, none⟩ = some (.pointer (some ⟨c, 0, none⟩)) ∧ TreeAt ts f w S c p) := by
  obtain ⟨hu, ha, e, ad, cap, h1, h2, c0, c1, c2, c3, c4, c5, h3, h4, h5⟩ := h
  refine ⟨ha, e, ad, cap, h1, by rw [← en_ok ha h1]; exact h2, hu, c0, c1, c5, h3, h4, ?_⟩
  rcases h5 with h5 | ⟨g, hg, _, hk⟩
  · exact .inl h5
  · exact .inr ⟨g, hg, hk⟩
set_option maxHeartbeats 1000000 in
/-- The type of the part that an item with number m asks for: j counts the parts. -/
theorem part_any (ts : List (Int × Int)) (f u a : Nat) (w : World) (S : Nat → Prop) (i m j : Nat) (h : TreeAt ts (f + 1) w S u a) (ha : a < ts.length) (hf : fitsN ts[a].1 ts[a].2 m = true) (hj : j < np ts[a].1 m) (hi : (ts[a].1 = 9 → i = m) ∧ (ts[a].1 = 7 → i = j)) (hi64 : i < 18446744073709551616) :
    Calls Tryd.prog 95 #[.pointer (some ⟨u, 0, none⟩), .int .u64 i] w fun e w' => (∃ c, e = .returned (.pointer (some ⟨c, 0, none⟩)) ∧ TreeAt ts f w S c (pl ts f a ts[a].1 m j)) ∧ w' = w := by
  obtain ⟨_, e, ad, cap, hok, hit, hu, c0, c1, c5, h3, h4, h5⟩ := h.openT
  have hex := pl_ok ha hok hit hf hj
  have hkl := kids_le hok
  have hnl := np_le hok hf
  clear h hit
  generalize ts[a].1 = k at *
  generalize ts[a].2 = n at *
  simp only [tyOk, decide_eq_true_eq] at hok
  unfold fitsN at hf
  have hK : 5 ≤ k := by
    by_cases hk5 : 5 ≤ k
    · exact hk5
    · have hz : np k m = 0 := by unfold np; rw [if_neg (by omega), if_neg (by omega)]
      omega
  by_cases hk79 : k = 7 ∨ k = 9
  · have hik : i < kids k n := by
      rcases hk79 with rfl | rfl
      · simp [np] at hj; simp at hf hi; simp [kids]; omega
      · simp at hf hi; simp [kids]; omega
    have hplc : pl ts f a k m j = (iter (en ts f) (a + 1) i).getD 0 := by
      rcases hk79 with rfl | rfl
      · simp at hi; simp [pl, hi]
      · simp at hi; simp [pl, hi]
    obtain ⟨g, rfl, hk⟩ := h5.resolve_left (by omega)
    obtain ⟨c, p, hp, hcell, htr⟩ := hk i hik
    rw [hp] at hplc
    simp only [Option.getD_some] at hplc
    rw [hplc]
    have HT : Hid (TreeAt ts f w S c p) := htr
    obtain ⟨K, hKk⟩ : ∃ K, kids k n = K := ⟨_, rfl⟩
    rw [hKk] at c5 hik h3 hkl
    clear hk htr hp hex h5 hplc hi hj hf hKk hok
    rcases hk79 with rfl | rfl
    all_goals
      go_enter Tryd.func95, Tryd.ntmps95
      go_wp2_with fail
      go_ret
      exact ⟨⟨c, rfl, HT.out⟩, rfl⟩
  · have h7 : (k == 7) = false := beqF (by omega)
    have h9 : (k == 9) = false := beqF (by omega)
    have hk0 : kids k n = 1 := by unfold kids; rw [if_pos (by omega)]
    have hplc : pl ts f a k m j = a + 1 := by unfold pl; rw [if_neg (by omega), if_neg (by omega)]
    rw [hk0] at c5 h5 h3
    obtain ⟨g, rfl, hk⟩ := h5.resolve_left (by omega)
    obtain ⟨c, p, hp, hcell, htr⟩ := hk 0 (by omega)
    cases hp
    rw [hplc]
    have HT : Hid (TreeAt ts f w S c (a + 1)) := htr
    clear hk htr hex h5 hplc hi hj hf hok hk79 hk0
    go_enter Tryd.func95, Tryd.ntmps95
    go_wp2_with fail
    go_ret
    exact ⟨⟨c, rfl, HT.out⟩, rfl⟩
end Go.Proofs.YtdncnjmlicdamaaDoor
namespace Go.Proofs.YtdncnjmlicdamaaDoor
open Go.RowKit
set_option linter.unusedVariables false
/-- The tree of the value of the type at place a that begins at place q, f levels being left: x, all of it in blocks of S. -/
def VAt (ts : List (Int × Int)) (vs : List It) : Nat → World → (Nat → Prop) → Value → Nat → Nat → Prop
  | 0, _, _, _, _, _ => False
  | f + 1, w, S, x, a, q => ∃ (u : Nat) (ha : a < ts.length) (hq : q < vs.length), TreeAt ts (f + 1) w S u a ∧ fitsI ts[a].1 ts[a].2 vs[q] = true ∧
      (((ts[a].1 = 1 ∨ ts[a].1 = 2) ∧ x = .iface 146 (.agg #[.pointer (some ⟨u, 0, none⟩), .int .u64 vs[q].n])) ∨
       ((ts[a].1 = 3 ∨ ts[a].1 = 4) ∧ x = .iface 155 (.agg #[.pointer (some ⟨u, 0, none⟩), .string vs[q].s])) ∨
       ((ts[a].1 = 5 ∨ ts[a].1 = 6 ∨ ts[a].1 = 7) ∧ ∃ ad cap, x = .iface 105 (.agg #[.pointer (some ⟨u, 0, none⟩), .slice ad vs[q].n cap]) ∧ vs[q].n ≤ cap ∧ cap ≤ maxLen ∧
          (vs[q].n = 0 ∨ ∃ g, ad = some ⟨g, 0, none⟩ ∧ S g ∧ ∀ j, j < vs[q].n → ∃ y q', vit (ve ts vs f) (pl ts f a ts[a].1 vs[q].n) (q + 1) j = some q' ∧ w.cell? ⟨g, j, none⟩ = some y ∧ VAt ts vs f w S y (pl ts f a ts[a].1 vs[q].n j) q')) ∨
       ((ts[a].1 = 8 ∨ ts[a].1 = 9) ∧ ∃ y, x = .iface 107 (.agg #[.pointer (some ⟨u, 0, none⟩), .int .u64 vs[q].n, y]) ∧
          ((np ts[a].1 vs[q].n = 0 ∧ y = .nilIface) ∨ (0 < np ts[a].1 vs[q].n ∧ VAt ts vs f w S y (pl ts f a ts[a].1 vs[q].n 0) (q + 1)))))
theorem VAt.keep {ts : List (Int × Int)} {vs : List It} {S S' : Nat → Prop} {w w' : World} (hS : ∀ b, S b → S' b) (hw : ∀ b, S b → w'.heap[b]? = w.heap[b]?) : ∀ {f : Nat} {x : Value} {a q : Nat}, VAt ts vs f w S x a q → VAt ts vs f w' S' x a q := by
  intro f
  induction f with
  | zero => intro x a q h; exact h
  | succ f ih =>
    intro x a q h
    obtain ⟨u, ha, hq, ht, hf, h⟩ := h
    refine ⟨u, ha, hq, ht.keep hS hw, hf, ?_⟩
    rcases h with h | h | ⟨hk, ad, cap, hx, h1, h2, h3⟩ | ⟨hk, y, hx, h1⟩
    · exact .inl h
    · exact .inr (.inl h)
    · refine .inr (.inr (.inl ⟨hk, ad, cap, hx, h1, h2, ?_⟩))
      rcases h3 with h3 | ⟨g, hg, hgS, hp⟩
      · exact .inl h3
      · refine .inr ⟨g, hg, hS g hgS, fun j hj => ?_⟩
        obtain ⟨y, q', hq', hc, hv⟩ := hp j hj
        exact ⟨y, q', hq', (World.cell?_of_block (w := w) (a := ⟨g, j, none⟩) (hw g hgS)).trans hc, ih hv⟩
    · refine .inr (.inr (.inr ⟨hk, y, hx, ?_⟩))
      rcases h1 with h1 | ⟨h1, h2⟩
      · exact .inl h1
      · exact .inr ⟨h1, ih h2⟩
/-- What parseValue leaves. -/
def PvPost (ts : List (Int × Int)) (vs : List It) (f a q b o C : Nat) (S0 : Nat → Prop) (w : World) (e : Ending) (w' : World) : Prop :=
  Below w.heap.size w w' ∧
  ((ve ts vs f a q = none ∧ ∃ x, (x = .nilIface ∨ ∃ T z, x = .iface T z) ∧ e = .returned (.tuple #[x, .slice none 0 0, .bool false])) ∨
   (∃ q' T y v, ve ts vs f a q = some q' ∧ FromQ b o C vs q' v ∧ e = .returned (.tuple #[.iface T y, v, .bool true]) ∧ VAt ts vs f w' (fun c => S0 c ∨ (w.heap.size ≤ c ∧ c < w'.heap.size)) (.iface T y) a q))
/-- Where the parsing of a series stands behind j of its parts: its block N, the parts' slice v, the parts ys. -/
structure SeInv (ts : List (Int × Int)) (vs : List It) (f a q u N : Nat) (S0 : Nat → Prop) (ps : Nat → Nat) (w wr : World) (j x : Nat) (v : Value) (ys : List Value) : Prop where
  pos : vit (ve ts vs f) ps (q + 1) j = some x
  bel : Below w.heap.size w wr
  low : w.heap.size ≤ N
  node : wr.heap[N]? = some (.cells #[.pointer (some ⟨u, 0, none⟩), v] 105 (0, 0))
  len : ys.length = j
  one : ∀ y ∈ ys, y.oneCell' = true
  row : wr.ownsRow (N + 1) 74 1 v j ys
  kin : ∀ i (h : i < ys.length), ∃ p, vit (ve ts vs f) ps (q + 1) i = some p ∧ VAt ts vs f wr (fun c => S0 c ∨ (N < c ∧ c < wr.heap.size ∧ some c ≠ v.ownBlock)) ys[i] (ps i) p
theorem SeInv.start {ts : List (Int × Int)} {vs : List It} {f a q u : Nat} {S0 : Nat → Prop} {ps : Nat → Nat} {w : World} : SeInv ts vs f a q u w.heap.size S0 ps w (w.alloc (.cells #[.pointer (some ⟨u, 0, none⟩), .slice none 0 0] 105)) 0 (q + 1) (.slice none 0 0) [] :=
  ⟨rfl, bel1 _ _, Nat.le_refl _, heap_alloc_new w _, rfl, by simp, World.ownsRow_nil _ _ _ _, fun i h => by simp at h⟩
/-- One part more: parsed in w1, appended in w2, the node's cell set. -/
theorem SeInv.next {ts : List (Int × Int)} {vs : List It} {f a q u N : Nat} {S0 : Nat → Prop} {ps : Nat → Nat} {w wr w1 w2 : World} {j x y g cap : Nat} {v z : Value} {ys : List Value} {o : Obj}
    (h : SeInv ts vs f a q u N S0 ps w wr j x v ys) (hS0 : ∀ c, S0 c → c < w.heap.size) (hb1 : Below wr.heap.size wr w1) (hz : z.oneCell' = true) (ht : VAt ts vs f w1 (fun c => S0 c ∨ (wr.heap.size ≤ c ∧ c < w1.heap.size)) z (ps j) x) (hy : ve ts vs f (ps j) x = some y)
    (hg : (w1.alloc o).grownBy w2 v.ownBlock) (hat : v.ownBlock = some g ∨ g = w1.heap.size + 1) (hgl : g < w2.heap.size)
    (hrow : w2.ownsRow (N + 1) 74 1 (.slice (some ⟨g, 0, none⟩) (j + 1) cap) (j + 1) (ys ++ [z])) :
    SeInv ts vs f a q u N S0 ps w (w2.setCell ⟨N, 1, none⟩ (.slice (some ⟨g, 0, none⟩) (j + 1) cap)) (j + 1) y (.slice (some ⟨g, 0, none⟩) (j + 1) cap) (ys ++ [z]) := by
  have hN := blk_lt h.node
  have hNg : N + 1 ≤ g := by
    have := hrow.lt g rfl
    omega
  have hown : ∀ b, v.ownBlock = some b → N + 1 ≤ b ∧ b < wr.heap.size := h.row.lt
  have hs0 := h.bel.size
  have hlow := h.low
  have hs1 := hb1.size
  have hs2 : w1.heap.size + 1 ≤ w2.heap.size := by have := hg.size; simpa using this
  have hsz : (w2.setCell ⟨N, 1, none⟩ (.slice (some ⟨g, 0, none⟩) (j + 1) cap)).heap.size = w2.heap.size := by simp [World.setCell]
  have hNo : some N ≠ v.ownBlock := fun e => by have := hown N e.symm; omega
  have hN2 : w2.heap[N]? = some (.cells #[.pointer (some ⟨u, 0, none⟩), v] 105 (0, 0)) := by
    rw [hg.block N (by simp; omega) hNo, Below.heap_alloc _ _ _ (by omega), hb1.block N hN]; exact h.node
  have old : ∀ b, b < w1.heap.size → b ≠ N → some b ≠ v.ownBlock → (w2.setCell ⟨N, 1, none⟩ (.slice (some ⟨g, 0, none⟩) (j + 1) cap)).heap[b]? = w1.heap[b]? := fun b hb hbN hbo => by
    rw [Below.heap_setCell _ _ _ _ hbN, hg.block b (by simp; omega) hbo, Below.heap_alloc _ _ _ hb]
  have oldS : ∀ c, S0 c → c < w1.heap.size ∧ c ≠ N ∧ some c ≠ v.ownBlock ∧ c < wr.heap.size := fun c hc => by
    have := hS0 c hc
    exact ⟨by omega, by omega, fun e => by have := hown c e.symm; omega, by omega⟩
  refine ⟨by rw [vit_succ, h.pos]; exact hy, ?_, h.low, ?_, by simp [h.len], ?_, ?_, ?_⟩
  · have b1 : Below w.heap.size w w1 := h.bel.trans (hb1.mono h.bel.size)
    have b2 : Below w.heap.size w (w1.alloc o) := b1.alloc (by have := b1.size; omega) o
    have b3 : Below w.heap.size w w2 := b2.grown hg (by have := b2.size; omega) (fun q hq => by have := hown q hq; omega)
    exact b3.setCell (p := ⟨N, 1, none⟩) h.low _
  · have e1 := set_block (i := 1) hN2 (.slice (some ⟨g, 0, none⟩) (j + 1) cap)
    rw [e1]; simp
  · intro y hy
    rcases List.mem_append.1 hy with hy | hy
    · exact h.one y hy
    · simp at hy; subst hy; exact hz
  · exact ownsRow_setCell_below hrow (a := ⟨N, 1, none⟩) (by simp) _
  · intro i hi
    by_cases hij : i < ys.length
    · obtain ⟨p, hp, htr⟩ := h.kin i hij
      refine ⟨p, hp, ?_⟩
      rw [List.getElem_append_left hij]
      refine htr.keep (fun c hc => ?_) (fun c hc => ?_)
      · rcases hc with hc | ⟨q1, q2, q3⟩
        · exact .inl hc
        · refine .inr ⟨q1, by rw [hsz]; omega, fun e => ?_⟩
          have e' : c = g := by simpa [Value.ownBlock] using e
          rcases hat with hat | hat
          · exact q3 (by rw [hat, e'])
          · omega
      · rcases hc with hc | ⟨q1, q2, q3⟩
        · obtain ⟨r1, r2, r3, r4⟩ := oldS c hc
          rw [old c r1 r2 r3, hb1.block c r4]
        · rw [old c (by omega) (by omega) q3, hb1.block c q2]
    · have hi' : i = ys.length := by simp at hi; omega
      subst hi'
      refine ⟨x, by rw [h.len]; exact h.pos, ?_⟩
      rw [List.getElem_append_right (Nat.le_refl _)]
      simp only [Nat.sub_self, List.getElem_cons_zero]
      rw [h.len]
      refine ht.keep (fun c hc => ?_) (fun c hc => ?_)
      · rcases hc with hc | ⟨q1, q2⟩
        · exact .inl hc
        · refine .inr ⟨by omega, by rw [hsz]; omega, fun e => ?_⟩
          have e' : c = g := by simpa [Value.ownBlock] using e
          rcases hat with hat | hat
          · have := hown g hat; omega
          · omega
      · rcases hc with hc | ⟨q1, q2⟩
        · obtain ⟨r1, r2, r3, _⟩ := oldS c hc
          exact old c r1 r2 r3
        · exact old c q2 (by omega) (fun e => by have := hown c e.symm; omega)
end Go.Proofs.YtdncnjmlicdamaaDoor
namespace Go.Proofs.YtdncnjmlicdamaaDoor
open Go.RowKit
set_option linter.unusedVariables false
theorem TreeAt.bel {ts : List (Int × Int)} {f u a : Nat} {w w' : World} {S : Nat → Prop} (h : TreeAt ts f w S u a) (hS : ∀ c, S c → c < w.heap.size) (hb : Below w.heap.size w w') : TreeAt ts f w' S u a :=
  h.keep (fun _ h => h) (fun c hc => hb.block c (hS c hc))
theorem fits_n {k n : Int} {x : It} (h : fitsI k n x = true) : fitsN k n x.n = true := by simp [fitsI] at h; exact h.2.1
theorem Tryd.infoVN : (Tryd.prog.info? 74).map (fun i => (i.zero, i.size, i.bytes)) = some (some .nilIface, 1, 16) := by kernel_rfl
end Go.Proofs.YtdncnjmlicdamaaDoor
namespace Go.Proofs.YtdncnjmlicdamaaDoor
open Go.RowKit Go.Sort
set_option linter.unusedVariables false
theorem cells_re3 {w : World} {a : Addr} {v : Value} (h : w.cell? a = some v) : ∀ d os, (grow (redrawn w d) os).cell? a = some v := fun d os => cell_regrown h d os
end Go.Proofs.YtdncnjmlicdamaaDoor
namespace Go.Proofs.YtdncnjmlicdamaaDoor
open Go.RowKit Go.Sort
set_option linter.unusedVariables false
end Go.Proofs.YtdncnjmlicdamaaDoor
namespace Go.Proofs.YtdncnjmlicdamaaDoor
open Go.RowKit Go.Sort
set_option linter.unusedVariables false
/-- A slice of items in memory. -/
def IsItems (B : Nat) (w : World) (v : Value) (vs : List It) : Prop := ∃ b o C, ItemsAt B w b o C vs ∧ FromQ b o C vs 0 v
theorem IsItems.below {B : Nat} {w w' : World} {v : Value} {vs : List It} (h : IsItems B w v vs) (hb : Below B w w') : IsItems B w' v vs := by
  obtain ⟨b, o, C, h1, h2⟩ := h
  exact ⟨b, o, C, h1.below hb, h2⟩
theorem IsItems.up {B B' : Nat} {w : World} {v : Value} {vs : List It} (h : IsItems B w v vs) (hB : B ≤ B') : IsItems B' w v vs := by
  obtain ⟨b, o, C, h1, h2⟩ := h
  exact ⟨b, o, C, h1.up hB, h2⟩
theorem typedB_no {ts : List (Int × Int)} {vs : List It} (h : schOk ts = false) : typedB ts vs = false := by simp [typedB, h]
theorem typedB_big {ts : List (Int × Int)} {vs : List It} (h : 200 < vs.length) : typedB ts vs = false := by
  have : decide (vs.length ≤ 200) = false := by simp; omega
  simp [typedB, this]
theorem typedB_none {ts : List (Int × Int)} {vs : List It} (h : ve ts vs 7 0 0 = none) : typedB ts vs = false := by simp [typedB, h]
theorem typedB_some {ts : List (Int × Int)} {vs : List It} {q : Nat} (hs : schOk ts = true) (hl : vs.length ≤ 200) (h : ve ts vs 7 0 0 = some q) : typedB ts vs = decide (vs.length - q = 0) := by
  have h2 := (ve_lt h).2
  have hl' : decide (vs.length ≤ 200) = true := by simpa using hl
  unfold typedB
  rw [hs, hl', h]
  simp only [Bool.true_and]
  by_cases e : q = vs.length
  · subst e; simp
  · have e1 : (some q == some vs.length) = false := by simp [e]
    rw [e1]
    symm
    simp only [decide_eq_false_iff_not]
    omega
end Go.Proofs.YtdncnjmlicdamaaDoor
