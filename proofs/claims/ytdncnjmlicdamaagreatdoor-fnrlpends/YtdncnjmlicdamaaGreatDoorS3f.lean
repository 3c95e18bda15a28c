/- S3a, S3b, S3c, S3d, S3e, S3f: one text. -/
import Derived.Test.YtdncnjmlicdamaaGreatDoorS2h
import Derived.Test.YtdncnjmlicdamaaGreatDoorPv
import Derived.Test.YtdncnjmlicdamaaGreatDoorL1a
import Derived.Lib.QuietBelow
import Derived.BigQuiet
import Derived.Lib.Strings
import Derived.Deep.DeepCutAuto
import Derived.Deep.CutBlock
namespace Go.Proofs.YtdncnjmlicdamaaGreatDoor
open Go.RowKit Go.Sort
set_option linter.unusedVariables false
/-- Items in memory: from block b, offset o on, three cells each; C: how many there is room for. -/
structure ItemsAt (B : Nat) (w : World) (b o C : Nat) (vs : List It) : Prop where
  small : vs.length ≤ 1048577
  room : vs.length ≤ C
  most : C ≤ maxLen
  wf : ∀ x ∈ vs, inI x.k ∧ x.n < 18446744073709551616 ∧ x.s.size ≤ 1048577
  low : vs.length = 0 ∨ b < B
  cells : ∀ i (h : i < vs.length), w.cell? ⟨b, o + i * 3, none⟩ = some (.int .i64 vs[i].k) ∧ w.cell? ⟨b, o + i * 3 + 1, none⟩ = some (.int .u64 vs[i].n) ∧ w.cell? ⟨b, o + i * 3 + 2, none⟩ = some (.string vs[i].s)
theorem ItemsAt.below {B : Nat} {w w' : World} {b o C : Nat} {vs : List It} (h : ItemsAt B w b o C vs) (hb : Below B w w') : ItemsAt B w' b o C vs := by
  refine ⟨h.small, h.room, h.most, h.wf, h.low, fun i hi => ?_⟩
  have hlt : b < B := h.low.resolve_left (by omega)
  rw [hb.cell (p := ⟨b, o + i * 3, none⟩) hlt, hb.cell (p := ⟨b, o + i * 3 + 1, none⟩) hlt, hb.cell (p := ⟨b, o + i * 3 + 2, none⟩) hlt]
  exact h.cells i hi
theorem ItemsAt.up {B B' : Nat} {w : World} {b o C : Nat} {vs : List It} (h : ItemsAt B w b o C vs) (hB : B ≤ B') : ItemsAt B' w b o C vs :=
  ⟨h.small, h.room, h.most, h.wf, h.low.imp id (fun h => by omega), h.cells⟩
/-- The slice of what stands from place q on. -/
def FromQ (b o C : Nat) (vs : List It) (q : Nat) (v : Value) : Prop := ∃ ad, v = .slice ad (vs.length - q) (C - q) ∧ (vs.length ≤ q ∨ ad = some ⟨b, o + q * 3, none⟩)
theorem FromQ.at {b o C : Nat} {vs : List It} {q : Nat} {v : Value} (h : FromQ b o C vs q v) (hq : q < vs.length) : v = .slice (some ⟨b, o + q * 3, none⟩) (vs.length - q) (C - q) := by
  obtain ⟨ad, rfl, h1⟩ := h
  rcases h1 with h1 | rfl
  · omega
  · rfl
theorem fitsN_1 (n : Int) (m : Nat) : fitsN 1 n m = decide (m < 2 ^ n.toNat) := rfl
set_option maxHeartbeats 1000000 in
theorem numberFits_any (k n : Int) (m : Nat) (w : World) (hok : tyOk k n = true) (hm : m < 18446744073709551616) : Calls Tryz.prog 67 #[.agg #[.int .i64 k, .int .i64 n], .int .u64 m] w fun e w' => e = .returned (.bool (fitsN k n m)) ∧ Below w.heap.size w w' := by
  simp only [tyOk, decide_eq_true_eq] at hok
  have hk : k = 1 ∨ k = 2 ∨ k = 3 ∨ k = 4 ∨ k = 5 ∨ k = 6 ∨ k = 7 ∨ k = 8 ∨ k = 9 := by omega
  rcases hk with rfl | hk
  · have hn : 0 ≤ n ∧ n ≤ 64 := by omega
    obtain ⟨N, rfl⟩ := Int.eq_ofNat_of_zero_le hn.1
    have HL : Hid (∀ w, Calls Tryz.prog 76 #[.int .u64 m] w fun e w' => e = .returned (.int .i64 (bl m)) ∧ w' = w) := fun w => Len64_any m w hm
    have HR : Hid (fitsN 1 (N : Int) m = decide (bl m ≤ N)) := by show _ = _; rw [fitsN_1, Int.toNat_natCast, Bool.eq_iff_iff]; simp [bl_le]
    have c1 : ∀ d os, (grow (redrawn (w.alloc (.cells #[.int .i64 1, .int .i64 (N : Int)] 88)) d) os).cell? ⟨w.heap.size, 1, none⟩ = some (.int .i64 (N : Int)) := fun d os => cell_regrown (by simp [go_sem]) d os
    clear hok
    go_enter Tryz.func67, Tryz.ntmps67
    go_wp2_with fail
    refine wp_region_quiet_below (by kernel_rfl) (by kernel_rfl) ?_
    repeat (go_big_quiet_step (exact Calls.regrown_of ((HL.out _).mono fun _ _ h => ⟨h.1, h.2 ▸ Below.refl _ _⟩)))
    refine wpQuiet_nil ?_
    intro w6 hw'
    obtain ⟨⟨dq, osq⟩, hw''⟩ := hw'
    have hb2 : Below w.heap.size w w6 := by rw [hw'']; exact (bel1 _ _).trans ((below_regrown _ dq osq).mono (by simp))
    clear hw'' c1
    go_wp2_with fail
    go_ret
    exact ⟨by rw [HR.out]; exact ret_b (by simp), hb2⟩
  · have hn : 0 ≤ n ∧ n ≤ 200 := by omega
    obtain ⟨N, rfl⟩ := Int.eq_ofNat_of_zero_le hn.1
    rcases hk with rfl | rfl | rfl | rfl | rfl | rfl | rfl | rfl
    all_goals
      go_enter Tryz.func67, Tryz.ntmps67
      go_wp2
      go_ret
      exact ⟨ret_b (by simp [fitsN, beq_dec] <;> omega), bel1 _ _⟩
theorem str_empty (s : ByteArray) : s.toList.isEmpty = decide (s.size = 0) := by
  rw [ByteArray.toList_eq]
  obtain ⟨⟨l⟩⟩ := s
  cases l with
  | nil => rfl
  | cons a l => simp [ByteArray.size]
theorem fitsS_rest {k n : Int} {m : Nat} (h3 : k ≠ 3) (h4 : k ≠ 4) : fitsS k n m = decide (m = 0) := by simp [fitsS, h3, h4]
set_option maxHeartbeats 1000000 in
theorem bytesFit_any (k n : Int) (s : ByteArray) (w : World) (hok : tyOk k n = true) (hs : s.size ≤ 1048577) : Calls Tryz.prog 68 #[.agg #[.int .i64 k, .int .i64 n], .string s] w fun e w' => e = .returned (.bool (fitsS k n s.size)) ∧ Below w.heap.size w w' := by
  simp only [tyOk, decide_eq_true_eq] at hok
  have hk : k = 1 ∨ k = 2 ∨ k = 3 ∨ k = 4 ∨ k = 5 ∨ k = 6 ∨ k = 7 ∨ k = 8 ∨ k = 9 := by omega
  rcases hk with rfl | rfl | rfl | rfl | rfl | rfl | rfl | rfl | rfl
  all_goals
    go_enter Tryz.func68, Tryz.ntmps68
    go_wp2
    go_ret
    exact ⟨ret_b (by first | (rw [fitsS_rest (by decide) (by decide)]; exact str_empty s) | (simp [fitsS, beq_dec])), bel1 _ _⟩
/-- A node's cells and its parts, opened, its type too. -/
theorem TreeAt.openT {ts : List (Int × Int)} {f u a : Nat} {w : World} {S : Nat → Prop} (h : TreeAt ts (f + 1) w S u a) : ∃ (ha : a < ts.length) (e : Nat) (ad : Option Addr) (cap : Nat),
    tyOk ts[a].1 ts[a].2 = true ∧ iter (en ts f) (a + 1) (kids ts[a].1 ts[a].2) = some e ∧ S u ∧ w.cell? ⟨u, 0, none⟩ = some (.int .i64 ts[a].1) ∧ w.cell? ⟨u, 1, none⟩ = some (.int .i64 ts[a].2) ∧
    w.cell? ⟨u, 5, none⟩ = some (.slice ad (kids ts[a].1 ts[a].2) cap) ∧ kids ts[a].1 ts[a].2 ≤ cap ∧ cap ≤ maxLen ∧
      (kids ts[a].1 ts[a].2 = 0 ∨ ∃ g, ad = some ⟨g, 0, none⟩ ∧ ∀ j, j < kids ts[a].1 ts[a].2 → ∃ c p, iter (en ts f) (a + 1) j = some p ∧ w.cell? ⟨g, j, none⟩ = some (.pointer (some ⟨c, 0, none⟩)) ∧ TreeAt ts f w S c p) := by
  obtain ⟨hu, ha, e, ad, cap, h1, h2, c0, c1, c2, c3, c4, c5, h3, h4, h5⟩ := h
  refine ⟨ha, e, ad, cap, h1, by rw [← en_ok ha h1]; exact h2, hu, c0, c1, c5, h3, h4, ?_⟩
  rcases h5 with h5 | ⟨g, hg, _, hk⟩
  · exact .inl h5
  · exact .inr ⟨g, hg, hk⟩
set_option maxHeartbeats 1000000 in
/-- The type of the part that an item with number m asks for: j counts the parts. -/
theorem part_any (ts : List (Int × Int)) (f u a : Nat) (w : World) (S : Nat → Prop) (i m j : Nat) (h : TreeAt ts (f + 1) w S u a) (ha : a < ts.length) (hf : fitsN ts[a].1 ts[a].2 m = true) (hj : j < np ts[a].1 m) (hi : (ts[a].1 = 9 → i = m) ∧ (ts[a].1 = 7 → i = j)) (hi64 : i < 18446744073709551616) :
    Calls Tryz.prog 77 #[.pointer (some ⟨u, 0, none⟩), .int .u64 i] w fun e w' => (∃ c, e = .returned (.pointer (some ⟨c, 0, none⟩)) ∧ TreeAt ts f w S c (pl ts f a ts[a].1 m j)) ∧ w' = w := by
  obtain ⟨_, e, ad, cap, hok, hit, hu, c0, c1, c5, h3, h4, h5⟩ := h.openT
  have hex := pl_ok ha hok hit hf hj
  have hkl := kids_le hok
  have hnl := np_le hok hf
  clear h hit
  generalize ts[a].1 = k at *
  generalize ts[a].2 = n at *
  simp only [tyOk, decide_eq_true_eq] at hok
  unfold fitsN at hf
  have hK : 5 ≤ k := by
    by_cases hk5 : 5 ≤ k
    · exact hk5
    · have hz : np k m = 0 := by unfold np; rw [if_neg (by omega), if_neg (by omega)]
      omega
  by_cases hk79 : k = 7 ∨ k = 9
  · have hik : i < kids k n := by
      rcases hk79 with rfl | rfl
      · simp [np] at hj; simp at hf hi; simp [kids]; omega
      · simp at hf hi; simp [kids]; omega
    have hplc : pl ts f a k m j = (iter (en ts f) (a + 1) i).getD 0 := by
      rcases hk79 with rfl | rfl
      · simp at hi; simp [pl, hi]
      · simp at hi; simp [pl, hi]
    obtain ⟨g, rfl, hk⟩ := h5.resolve_left (by omega)
    obtain ⟨c, p, hp, hcell, htr⟩ := hk i hik
    rw [hp] at hplc
    simp only [Option.getD_some] at hplc
    rw [hplc]
    have HT : Hid (TreeAt ts f w S c p) := htr
    obtain ⟨K, hKk⟩ : ∃ K, kids k n = K := ⟨_, rfl⟩
    rw [hKk] at c5 hik h3 hkl
    clear hk htr hp hex h5 hplc hi hj hf hKk hok
    rcases hk79 with rfl | rfl
    all_goals
      go_enter Tryz.func77, Tryz.ntmps77
      go_wp2_with fail
      go_ret
      exact ⟨⟨c, rfl, HT.out⟩, rfl⟩
  · have h7 : (k == 7) = false := beqF (by omega)
    have h9 : (k == 9) = false := beqF (by omega)
    have hk0 : kids k n = 1 := by unfold kids; rw [if_pos (by omega)]
    have hplc : pl ts f a k m j = a + 1 := by unfold pl; rw [if_neg (by omega), if_neg (by omega)]
    rw [hk0] at c5 h5 h3
    obtain ⟨g, rfl, hk⟩ := h5.resolve_left (by omega)
    obtain ⟨c, p, hp, hcell, htr⟩ := hk 0 (by omega)
    cases hp
    rw [hplc]
    have HT : Hid (TreeAt ts f w S c (a + 1)) := htr
    clear hk htr hex h5 hplc hi hj hf hok hk79 hk0
    go_enter Tryz.func77, Tryz.ntmps77
    go_wp2_with fail
    go_ret
    exact ⟨⟨c, rfl, HT.out⟩, rfl⟩
end Go.Proofs.YtdncnjmlicdamaaGreatDoor
namespace Go.Proofs.YtdncnjmlicdamaaGreatDoor
open Go.RowKit
set_option linter.unusedVariables false
/-- The tree of the value of the type at place a that begins at place q, f levels being left: x, all of it in blocks of S. -/
def VAt (ts : List (Int × Int)) (vs : List It) : Nat → World → (Nat → Prop) → Value → Nat → Nat → Prop
  | 0, _, _, _, _, _ => False
  | f + 1, w, S, x, a, q => ∃ (u : Nat) (ha : a < ts.length) (hq : q < vs.length), TreeAt ts (f + 1) w S u a ∧ fitsI ts[a].1 ts[a].2 vs[q] = true ∧
      (((ts[a].1 = 1 ∨ ts[a].1 = 2) ∧ x = .iface 124 (.agg #[.pointer (some ⟨u, 0, none⟩), .int .u64 vs[q].n])) ∨
       ((ts[a].1 = 3 ∨ ts[a].1 = 4) ∧ x = .iface 126 (.agg #[.pointer (some ⟨u, 0, none⟩), .string vs[q].s])) ∨
       ((ts[a].1 = 5 ∨ ts[a].1 = 6 ∨ ts[a].1 = 7) ∧ ∃ ad cap, x = .iface 131 (.agg #[.pointer (some ⟨u, 0, none⟩), .slice ad vs[q].n cap]) ∧ vs[q].n ≤ cap ∧ cap ≤ maxLen ∧
          (vs[q].n = 0 ∨ ∃ g, ad = some ⟨g, 0, none⟩ ∧ S g ∧ ∀ j, j < vs[q].n → ∃ y q', vit (ve ts vs f) (pl ts f a ts[a].1 vs[q].n) (q + 1) j = some q' ∧ w.cell? ⟨g, j, none⟩ = some y ∧ VAt ts vs f w S y (pl ts f a ts[a].1 vs[q].n j) q')) ∨
       ((ts[a].1 = 8 ∨ ts[a].1 = 9) ∧ ∃ y, x = .iface 133 (.agg #[.pointer (some ⟨u, 0, none⟩), .int .u64 vs[q].n, y]) ∧
          ((np ts[a].1 vs[q].n = 0 ∧ y = .nilIface) ∨ (0 < np ts[a].1 vs[q].n ∧ VAt ts vs f w S y (pl ts f a ts[a].1 vs[q].n 0) (q + 1)))))
theorem VAt.keep {ts : List (Int × Int)} {vs : List It} {S S' : Nat → Prop} {w w' : World} (hS : ∀ b, S b → S' b) (hw : ∀ b, S b → w'.heap[b]? = w.heap[b]?) : ∀ {f : Nat} {x : Value} {a q : Nat}, VAt ts vs f w S x a q → VAt ts vs f w' S' x a q := by
  intro f
  induction f with
  | zero => intro x a q h; exact h
  | succ f ih =>
    intro x a q h
    obtain ⟨u, ha, hq, ht, hf, h⟩ := h
    refine ⟨u, ha, hq, ht.keep hS hw, hf, ?_⟩
    rcases h with h | h | ⟨hk, ad, cap, hx, h1, h2, h3⟩ | ⟨hk, y, hx, h1⟩
    · exact .inl h
    · exact .inr (.inl h)
    · refine .inr (.inr (.inl ⟨hk, ad, cap, hx, h1, h2, ?_⟩))
      rcases h3 with h3 | ⟨g, hg, hgS, hp⟩
      · exact .inl h3
      · refine .inr ⟨g, hg, hS g hgS, fun j hj => ?_⟩
        obtain ⟨y, q', hq', hc, hv⟩ := hp j hj
        exact ⟨y, q', hq', (World.cell?_of_block (w := w) (a := ⟨g, j, none⟩) (hw g hgS)).trans hc, ih hv⟩
    · refine .inr (.inr (.inr ⟨hk, y, hx, ?_⟩))
      rcases h1 with h1 | ⟨h1, h2⟩
      · exact .inl h1
      · exact .inr ⟨h1, ih h2⟩
/-- What parseValue leaves. -/
def PvPost (ts : List (Int × Int)) (vs : List It) (f a q b o C : Nat) (S0 : Nat → Prop) (w : World) (e : Ending) (w' : World) : Prop :=
  Below w.heap.size w w' ∧
  ((ve ts vs f a q = none ∧ ∃ x, (x = .nilIface ∨ ∃ T z, x = .iface T z) ∧ e = .returned (.tuple #[x, .slice none 0 0, .bool false])) ∨
   (∃ q' T y v, ve ts vs f a q = some q' ∧ FromQ b o C vs q' v ∧ e = .returned (.tuple #[.iface T y, v, .bool true]) ∧ VAt ts vs f w' (fun c => S0 c ∨ (w.heap.size ≤ c ∧ c < w'.heap.size)) (.iface T y) a q))
/-- Where the parsing of a series stands behind j of its parts: its block N, the parts' slice v, the parts ys. -/
structure SeInv (ts : List (Int × Int)) (vs : List It) (f a q u N : Nat) (S0 : Nat → Prop) (ps : Nat → Nat) (w wr : World) (j x : Nat) (v : Value) (ys : List Value) : Prop where
  pos : vit (ve ts vs f) ps (q + 1) j = some x
  bel : Below w.heap.size w wr
  low : w.heap.size ≤ N
  node : wr.heap[N]? = some (.cells #[.pointer (some ⟨u, 0, none⟩), v] 131 (0, 0))
  len : ys.length = j
  one : ∀ y ∈ ys, y.oneCell' = true
  row : wr.ownsRow (N + 1) 64 1 v j ys
  kin : ∀ i (h : i < ys.length), ∃ p, vit (ve ts vs f) ps (q + 1) i = some p ∧ VAt ts vs f wr (fun c => S0 c ∨ (N < c ∧ c < wr.heap.size ∧ some c ≠ v.ownBlock)) ys[i] (ps i) p
theorem SeInv.start {ts : List (Int × Int)} {vs : List It} {f a q u : Nat} {S0 : Nat → Prop} {ps : Nat → Nat} {w : World} : SeInv ts vs f a q u w.heap.size S0 ps w (w.alloc (.cells #[.pointer (some ⟨u, 0, none⟩), .slice none 0 0] 131)) 0 (q + 1) (.slice none 0 0) [] :=
  ⟨rfl, bel1 _ _, Nat.le_refl _, heap_alloc_new w _, rfl, by simp, World.ownsRow_nil _ _ _ _, fun i h => by simp at h⟩
/-- One part more: parsed in w1, appended in w2, the node's cell set. -/
theorem SeInv.next {ts : List (Int × Int)} {vs : List It} {f a q u N : Nat} {S0 : Nat → Prop} {ps : Nat → Nat} {w wr w1 w2 : World} {j x y g cap : Nat} {v z : Value} {ys : List Value} {o : Obj}
    (h : SeInv ts vs f a q u N S0 ps w wr j x v ys) (hS0 : ∀ c, S0 c → c < w.heap.size) (hb1 : Below wr.heap.size wr w1) (hz : z.oneCell' = true) (ht : VAt ts vs f w1 (fun c => S0 c ∨ (wr.heap.size ≤ c ∧ c < w1.heap.size)) z (ps j) x) (hy : ve ts vs f (ps j) x = some y)
    (hg : (w1.alloc o).grownBy w2 v.ownBlock) (hat : v.ownBlock = some g ∨ g = w1.heap.size + 1) (hgl : g < w2.heap.size)
    (hrow : w2.ownsRow (N + 1) 64 1 (.slice (some ⟨g, 0, none⟩) (j + 1) cap) (j + 1) (ys ++ [z])) :
    SeInv ts vs f a q u N S0 ps w (w2.setCell ⟨N, 1, none⟩ (.slice (some ⟨g, 0, none⟩) (j + 1) cap)) (j + 1) y (.slice (some ⟨g, 0, none⟩) (j + 1) cap) (ys ++ [z]) := by
  have hN := blk_lt h.node
  have hNg : N + 1 ≤ g := by
    have := hrow.lt g rfl
    omega
  have hown : ∀ b, v.ownBlock = some b → N + 1 ≤ b ∧ b < wr.heap.size := h.row.lt
  have hs0 := h.bel.size
  have hlow := h.low
  have hs1 := hb1.size
  have hs2 : w1.heap.size + 1 ≤ w2.heap.size := by have := hg.size; simpa using this
  have hsz : (w2.setCell ⟨N, 1, none⟩ (.slice (some ⟨g, 0, none⟩) (j + 1) cap)).heap.size = w2.heap.size := by simp [World.setCell]
  have hNo : some N ≠ v.ownBlock := fun e => by have := hown N e.symm; omega
  have hN2 : w2.heap[N]? = some (.cells #[.pointer (some ⟨u, 0, none⟩), v] 131 (0, 0)) := by
    rw [hg.block N (by simp; omega) hNo, Below.heap_alloc _ _ _ (by omega), hb1.block N hN]; exact h.node
  have old : ∀ b, b < w1.heap.size → b ≠ N → some b ≠ v.ownBlock → (w2.setCell ⟨N, 1, none⟩ (.slice (some ⟨g, 0, none⟩) (j + 1) cap)).heap[b]? = w1.heap[b]? := fun b hb hbN hbo => by
    rw [Below.heap_setCell _ _ _ _ hbN, hg.block b (by simp; omega) hbo, Below.heap_alloc _ _ _ hb]
  have oldS : ∀ c, S0 c → c < w1.heap.size ∧ c ≠ N ∧ some c ≠ v.ownBlock ∧ c < wr.heap.size := fun c hc => by
    have := hS0 c hc
    exact ⟨by omega, by omega, fun e => by have := hown c e.symm; omega, by omega⟩
  refine ⟨by rw [vit_succ, h.pos]; exact hy, ?_, h.low, ?_, by simp [h.len], ?_, ?_, ?_⟩
  · have b1 : Below w.heap.size w w1 := h.bel.trans (hb1.mono h.bel.size)
    have b2 : Below w.heap.size w (w1.alloc o) := b1.alloc (by have := b1.size; omega) o
    have b3 : Below w.heap.size w w2 := b2.grown hg (by have := b2.size; omega) (fun q hq => by have := hown q hq; omega)
    exact b3.setCell (p := ⟨N, 1, none⟩) h.low _
  · have e1 := set_block (i := 1) hN2 (.slice (some ⟨g, 0, none⟩) (j + 1) cap)
    rw [e1]; simp
  · intro y hy
    rcases List.mem_append.1 hy with hy | hy
    · exact h.one y hy
    · simp at hy; subst hy; exact hz
  · exact ownsRow_setCell_below hrow (a := ⟨N, 1, none⟩) (by simp) _
  · intro i hi
    by_cases hij : i < ys.length
    · obtain ⟨p, hp, htr⟩ := h.kin i hij
      refine ⟨p, hp, ?_⟩
      rw [List.getElem_append_left hij]
      refine htr.keep (fun c hc => ?_) (fun c hc => ?_)
      · rcases hc with hc | ⟨q1, q2, q3⟩
        · exact .inl hc
        · refine .inr ⟨q1, by rw [hsz]; omega, fun e => ?_⟩
          have e' : c = g := by simpa [Value.ownBlock] using e
          rcases hat with hat | hat
          · exact q3 (by rw [hat, e'])
          · omega
      · rcases hc with hc | ⟨q1, q2, q3⟩
        · obtain ⟨r1, r2, r3, r4⟩ := oldS c hc
          rw [old c r1 r2 r3, hb1.block c r4]
        · rw [old c (by omega) (by omega) q3, hb1.block c q2]
    · have hi' : i = ys.length := by simp at hi; omega
      subst hi'
      refine ⟨x, by rw [h.len]; exact h.pos, ?_⟩
      rw [List.getElem_append_right (Nat.le_refl _)]
      simp only [Nat.sub_self, List.getElem_cons_zero]
      rw [h.len]
      refine ht.keep (fun c hc => ?_) (fun c hc => ?_)
      · rcases hc with hc | ⟨q1, q2⟩
        · exact .inl hc
        · refine .inr ⟨by omega, by rw [hsz]; omega, fun e => ?_⟩
          have e' : c = g := by simpa [Value.ownBlock] using e
          rcases hat with hat | hat
          · have := hown g hat; omega
          · omega
      · rcases hc with hc | ⟨q1, q2⟩
        · obtain ⟨r1, r2, r3, _⟩ := oldS c hc
          exact old c r1 r2 r3
        · exact old c q2 (by omega) (fun e => by have := hown c e.symm; omega)
end Go.Proofs.YtdncnjmlicdamaaGreatDoor
namespace Go.Proofs.YtdncnjmlicdamaaGreatDoor
open Go.RowKit
set_option linter.unusedVariables false
/-- The contract of parseValue, f levels being left. -/
def PvHyp (ts : List (Int × Int)) (vs : List It) (b o C f : Nat) : Prop :=
  ∀ (a q u : Nat) (S0 : Nat → Prop) (v : Value) (w : World), TreeAt ts f w S0 u a → (∀ c, S0 c → c < w.heap.size) → ItemsAt w.heap.size w b o C vs → q ≤ vs.length → FromQ b o C vs q v →
    Calls Tryz.prog 50 #[.pointer (some ⟨u, 0, none⟩), v] w fun e w' => PvPost ts vs f a q b o C S0 w e w'
theorem TreeAt.bel {ts : List (Int × Int)} {f u a : Nat} {w w' : World} {S : Nat → Prop} (h : TreeAt ts f w S u a) (hS : ∀ c, S c → c < w.heap.size) (hb : Below w.heap.size w w') : TreeAt ts f w' S u a :=
  h.keep (fun _ h => h) (fun c hc => hb.block c (hS c hc))
theorem fits_n {k n : Int} {x : It} (h : fitsI k n x = true) : fitsN k n x.n = true := by simp [fitsI] at h; exact h.2.1
theorem Tryz.infoVN : (Tryz.prog.info? 64).map (fun i => (i.zero, i.size, i.bytes)) = some (some .nilIface, 1, 16) := by kernel_rfl
set_option maxHeartbeats 2000000 in
theorem series_any (ts : List (Int × Int)) (vs : List It) (b o C f : Nat) (hp : PvHyp ts vs b o C f) (a q u : Nat) (S0 : Nat → Prop) (v : Value) (w : World) (ht : TreeAt ts (f + 1) w S0 u a) (hS0 : ∀ c, S0 c → c < w.heap.size) (hI : ItemsAt w.heap.size w b o C vs)
    (ha : a < ts.length) (hq : q < vs.length) (hfit : fitsI ts[a].1 ts[a].2 vs[q] = true) (hk : ts[a].1 = 5 ∨ ts[a].1 = 6 ∨ ts[a].1 = 7) (hv : FromQ b o C vs (q + 1) v) :
    Calls Tryz.prog 69 #[.pointer (some ⟨u, 0, none⟩), .int .u64 vs[q].n, v] w fun e w' => PvPost ts vs (f + 1) a q b o C S0 w e w' := by
  obtain ⟨i0, hi, hz0, hz1, hz2⟩ := info_parts Tryz.infoVN
  have HT : Hid (TreeAt ts (f + 1) w S0 u a) := ht
  have HS : Hid (∀ c, S0 c → c < w.heap.size) := hS0
  have HI : Hid (ItemsAt w.heap.size w b o C vs) := hI
  have HP : Hid (PvHyp ts vs b o C f) := hp
  have HV : Hid (FromQ b o C vs (q + 1) v) := hv
  have hok : tyOk ts[a].1 ts[a].2 = true := by obtain ⟨_, _, _, _, h1, _⟩ := ht.openT; exact h1
  have hM20 : vs[q].n ≤ 20 := by have := np_le hok (fits_n hfit); unfold np at this; rw [if_pos (by omega)] at this; exact this
  have HE : Hid (ve ts vs (f + 1) a q = vit (ve ts vs f) (pl ts f a ts[a].1 vs[q].n) (q + 1) vs[q].n) := by
    show _ = _
    have e : np ts[a].1 vs[q].n = vs[q].n := by unfold np; rw [if_pos (by omega)]
    rw [ve_ok ha hq hfit, e]
  have HFI : Hid (fitsI ts[a].1 ts[a].2 vs[q] = true) := hfit
  have HKK : Hid (ts[a].1 = 5 ∨ ts[a].1 = 6 ∨ ts[a].1 = 7) := hk
  obtain ⟨ps, hps⟩ : ∃ ps, pl ts f a ts[a].1 vs[q].n = ps := ⟨_, rfl⟩
  have HPS : Hid (pl ts f a ts[a].1 vs[q].n = ps) := hps
  rw [hps] at HE
  obtain ⟨M, hM⟩ : ∃ M, vs[q].n = M := ⟨_, rfl⟩
  have HM : Hid (vs[q].n = M) := hM
  rw [hM] at hM20 HE ⊢
  clear ht hS0 hI hp hv hok hfit hk hps hM
  have hst : SeInv ts vs f a q u w.heap.size S0 ps w (w.alloc (.cells #[.pointer (some ⟨u, 0, none⟩), .slice none 0 0] 131)) 0 (q + 1) (.slice none 0 0) [] := SeInv.start
  go_enter Tryz.func69, Tryz.ntmps69
  go_wp2_with fail
  go_loopg [2, 17] M (fun gk v2 i wr => ∃ (j x : Nat) (vv : Value) (ys : List Value), j + gk = M ∧ i = .int .u64 j ∧ FromQ b o C vs x v2 ∧ SeInv ts vs f a q u w.heap.size S0 ps w wr j x vv ys)
  case atStart => exact ⟨0, q + 1, _, _, by omega, rfl, HV.out, hst⟩
  case round =>
    clear hst
    obtain ⟨j, x, vv, ys, hj', rfl, hfq, hse⟩ := hrel
    have HJ : Hid (j + gk = M) := hj'
    have hj : j ≤ M := by omega
    have HFQ : Hid (FromQ b o C vs x u2) := hfq
    have HSE : Hid (SeInv ts vs f a q u w.heap.size S0 ps w wr j x vv ys) := hse
    have hnl : w.heap.size < wr.heap.size := blk_lt hse.node
    clear hj' hfq
    by_cases hjM : j < M
    · clear hse
      go_wp2_with fail
      refine (part_any ts f u a wr S0 j M j (HT.out.bel HS.out HSE.out.bel) ha (by rw [← HM.out]; exact fits_n HFI.out) (by unfold np; rw [if_pos (by have := HKK.out; omega)]; exact hjM) ⟨fun h => by have := HKK.out; omega, fun _ => rfl⟩ (by omega)).mono ?_
      rintro e w1 ⟨⟨c, rfl, htc⟩, rfl⟩
      have hpj : pl ts f a ts[a].1 M j = ps j := by rw [← HPS.out, HM.out]
      rw [hpj] at htc
      have HTC : Hid (TreeAt ts f w1 S0 c (ps j)) := htc
      clear htc hpj
      have hxl : x ≤ vs.length := (vit_lt (by omega) HSE.out.pos).2
      go_wp2_with fail
      refine (HP.out (ps j) x c S0 u2 w1 HTC.out (fun c hc => by have := HS.out c hc; omega) ((HI.out.below HSE.out.bel).up HSE.out.bel.size) hxl HFQ.out).mono ?_
      rintro e w3 ⟨hb3, ⟨he, y, hy1, rfl⟩ | ⟨q', T, yv, v3, he, hfq3, rfl, hva⟩⟩
      · have HR : Hid (ve ts vs (f + 1) a q = none) := by show _ = _; rw [HE.out]; exact vit_none (j := j + 1) (by rw [vit_succ, HSE.out.pos]; exact he) M (by omega)
        have HB : Hid (Below w.heap.size w w3) := HSE.out.bel.trans (hb3.mono HSE.out.bel.size)
        clear he hb3
        go_wp2_with fail
        go_ret3
        exact ⟨HB.out, .inl ⟨HR.out, _, .inl rfl, rfl⟩⟩
      · have HY : Hid (ve ts vs f (ps j) x = some q') := he
        have HF3 : Hid (FromQ b o C vs q' v3) := hfq3
        have HVA : Hid (VAt ts vs f w3 (fun c => S0 c ∨ (w1.heap.size ≤ c ∧ c < w3.heap.size)) (.iface T yv) (ps j) x) := hva
        have HB3 : Hid (Below w1.heap.size w1 w3) := hb3
        have hN3 : w3.heap[w.heap.size]? = some (.cells #[.pointer (some ⟨u, 0, none⟩), vv] 131 (0, 0)) := (hb3.block _ hnl).trans HSE.out.node
        have HN3 : Hid (w3.heap[w.heap.size]? = some (.cells #[.pointer (some ⟨u, 0, none⟩), vv] 131 (0, 0))) := hN3
        have n1 : w3.cell? ⟨w.heap.size, 1, none⟩ = some vv := by rw [cell_of_row w3 _ 1 _ _ _ hN3]; simp
        have HR3 : Hid (w3.ownsRow (w.heap.size + 1) 64 1 vv j ys) := HSE.out.row.kept (gb_bel hb3) (by cases vv.ownBlock <;> simp)
        have hs3 : w.heap.size < w3.heap.size := by have := hb3.size; omega
        clear he hfq3 hva hb3 hN3
        go_wp2_with (at_builtin; refine wpList_append_lies _ rfl _ _ 111 rfl (w.heap.size + 1) 64 i0 .nilIface 1 16 Tryz.underlying111 hi hz0 hz1 hz2 rfl (by decide) vv j _ rfl (HR3.out.alloc _) ⟨w3.heap.size, 0, none⟩ 1 1 [.iface T yv] rfl rfl ?c1 ?c2 (by omega) ?c3 ?c4 ?c5 (w3.heap.size + 1) (by simp) ?_)
        case c1 =>
          intro i u hi
          match i, hi with
          | 0, hi => simp at hi; subst hi; simp [Addr.add]
        case c2 => intro u hu; simp at hu; subst hu; rfl
        case c3 => unfold maxLen; omega
        case c4 => omega
        case c5 => simp; omega
        intro g cap' w4 hown' hgrow hat hlt'
        have hNo : some w.heap.size ≠ vv.ownBlock := fun e => by have := HR3.out.lt _ e.symm; omega
        have hN4 : w4.heap[w.heap.size]? = some (.cells #[.pointer (some ⟨u, 0, none⟩), vv] 131 (0, 0)) := by rw [hgrow.block _ (by simp; omega) hNo, Below.heap_alloc _ _ _ hs3]; exact HN3.out
        have m1 : w4.cell? ⟨w.heap.size, 1, none⟩ = some vv := by rw [cell_of_row w4 _ 1 _ _ _ hN4]; simp
        have f1 : w4.frozen? ⟨w.heap.size, 1, none⟩ = false := by simp [World.frozen?, hN4]
        have HQ : Hid (SeInv ts vs f a q u w.heap.size S0 ps w (w4.setCell ⟨w.heap.size, 1, none⟩ (.slice (some ⟨g, 0, none⟩) (j + 1) cap')) (j + 1) q' (.slice (some ⟨g, 0, none⟩) (j + 1) cap') (ys ++ [.iface T yv])) :=
          HSE.out.next HS.out HB3.out rfl HVA.out HY.out hgrow hat hlt' hown'
        clear hown' hgrow hat hlt' hN4 hNo n1
        go_wp2_with fail
        go_roundg (gk - 1)
        case rel => exact ⟨j + 1, q', _, ys ++ [.iface T yv], by have := HJ.out; omega, by go_num, HF3.out, HQ.out⟩
        case measure => have := HJ.out; omega
    · have e1 : j = M := by omega
      obtain ⟨n0, n1, _, _⟩ := (⟨by rw [cell_of_row wr _ 0 _ _ _ hse.node]; simp, by rw [cell_of_row wr _ 1 _ _ _ hse.node]; simp, trivial, trivial⟩ : wr.cell? ⟨w.heap.size, 0, none⟩ = some (.pointer (some ⟨u, 0, none⟩)) ∧ wr.cell? ⟨w.heap.size, 1, none⟩ = some vv ∧ True ∧ True)
      have hform : ∃ ad cap, vv = .slice ad M cap ∧ M ≤ cap ∧ cap ≤ maxLen ∧ (M = 0 ∨ ∃ g, ad = some ⟨g, 0, none⟩ ∧ w.heap.size < g ∧ g < wr.heap.size ∧ ∀ i (h : i < ys.length), wr.cell? ⟨g, i, none⟩ = some ys[i]) := by
        rcases hse.row.2 with ⟨hv, h0⟩ | ⟨g, cap, cur, hv, hg, hh, h1, h2, h3, h4⟩
        · have e0 : M = 0 := by omega
          exact ⟨none, 0, by rw [hv, e0], by omega, by simp [maxLen], .inl e0⟩
        · refine ⟨_, cap, by rw [hv, e1], by omega, h2, .inr ⟨g, rfl, by omega, blk_lt hh, fun i hi => ?_⟩⟩
          have hl := hse.len
          rw [cell_of_row wr g i cur _ _ hh]
          have : ys[i]? = cur.toList[i]? := by rw [← h4, List.getElem?_take, if_pos (by omega)]
          rw [List.getElem?_eq_getElem hi] at this
          simpa using this.symm
      obtain ⟨ad, cap, rfl, q1, q2, q3⟩ := hform
      have hfin : VAt ts vs (f + 1) wr (fun c => S0 c ∨ (w.heap.size ≤ c ∧ c < wr.heap.size)) (.iface 131 (.agg #[.pointer (some ⟨u, 0, none⟩), .slice ad M cap])) a q := by
        refine ⟨u, ha, hq, (HT.out.bel HS.out hse.bel).keep (fun c hc => .inl hc) (fun _ _ => rfl), HFI.out, .inr (.inr (.inl ⟨HKK.out, ad, cap, by rw [HM.out], by rw [HM.out]; exact q1, q2, ?_⟩))⟩
        rw [HM.out]
        rcases q3 with q3 | ⟨g, hg, g1, g2, g3⟩
        · exact .inl q3
        · refine .inr ⟨g, hg, .inr ⟨by omega, g2⟩, fun i hi => ?_⟩
          have hi' : i < ys.length := by rw [hse.len]; omega
          obtain ⟨p, hp1, hp2⟩ := hse.kin i hi'
          have hps : pl ts f a ts[a].1 M = ps := by rw [← HPS.out, HM.out]
          rw [hps]
          exact ⟨ys[i], p, hp1, g3 i hi', hp2.keep (fun c hc => hc.imp id (fun ⟨r1, r2, _⟩ => ⟨by omega, r2⟩)) (fun _ _ => rfl)⟩
      have HFIN : Hid (VAt ts vs (f + 1) wr (fun c => S0 c ∨ (w.heap.size ≤ c ∧ c < wr.heap.size)) (.iface 131 (.agg #[.pointer (some ⟨u, 0, none⟩), .slice ad M cap])) a q) := hfin
      have HVE : Hid (ve ts vs (f + 1) a q = some x) := by show _ = _; rw [HE.out, ← e1]; exact hse.pos
      clear hfin q3 hse e1
      go_wp2_with fail
      go_ret3
      exact ⟨HSE.out.bel, .inr ⟨x, _, _, _, HVE.out, HFQ.out, rfl, HFIN.out⟩⟩
set_option maxHeartbeats 1000000 in
theorem chosen_no (ts : List (Int × Int)) (f u a : Nat) (w : World) (S : Nat → Prop) (h : TreeAt ts (f + 1) w S u a) (ha : a < ts.length) (hk : ts[a].1 = 8) :
    Calls Tryz.prog 78 #[.pointer (some ⟨u, 0, none⟩), .int .u64 0] w fun e w' => e = .returned (.pointer none) ∧ w' = w := by
  obtain ⟨_, e, ad, cap, hok, hit, hu, c0, c1, c5, h3, h4, h5⟩ := h.openT
  rw [hk] at c0
  clear h hok hit c1 c5 h3 h4 h5 hk hu
  go_enter Tryz.func78, Tryz.ntmps78
  go_wp2_with fail
  go_ret
  exact ⟨rfl, rfl⟩
set_option maxHeartbeats 1000000 in
theorem chosen_any (ts : List (Int × Int)) (f u a : Nat) (w : World) (S : Nat → Prop) (m : Nat) (h : TreeAt ts (f + 1) w S u a) (ha : a < ts.length) (hk : ts[a].1 = 8 ∨ ts[a].1 = 9) (hf : fitsN ts[a].1 ts[a].2 m = true) (hz : ¬ (ts[a].1 = 8 ∧ m = 0)) (hm : m < 18446744073709551616) :
    Calls Tryz.prog 78 #[.pointer (some ⟨u, 0, none⟩), .int .u64 m] w fun e w' => (∃ c, e = .returned (.pointer (some ⟨c, 0, none⟩)) ∧ TreeAt ts f w S c (pl ts f a ts[a].1 m 0)) ∧ w' = w := by
  have hnp : np ts[a].1 m = 1 := by
    unfold np
    unfold fitsN at hf
    rcases hk with h8 | h9
    · rw [if_pos (by omega)]
      rw [if_neg (by omega), if_pos (by omega)] at hf
      have := of_decide_eq_true hf
      have : m ≠ 0 := fun e => hz ⟨h8, e⟩
      omega
    · rw [if_neg (by omega), if_pos h9]
  have HPA : Hid (Calls Tryz.prog 77 #[.pointer (some ⟨u, 0, none⟩), .int .u64 m] w fun e w' => (∃ c, e = .returned (.pointer (some ⟨c, 0, none⟩)) ∧ TreeAt ts f w S c (pl ts f a ts[a].1 m 0)) ∧ w' = w) :=
    part_any ts f u a w S m m 0 h ha hf (by rw [hnp]; omega) ⟨fun _ => rfl, fun h => by omega⟩ hm
  obtain ⟨_, e, ad, cap, hok, hit, hu, c0, c1, c5, h3, h4, h5⟩ := h.openT
  have hkk : (ts[a].1 == 8) = true ∧ ((m : Int) == 0) = false ∨ (ts[a].1 == 8) = false := by
    rcases hk with h8 | h9
    · exact .inl ⟨by simp [h8], by simp; intro e; exact hz ⟨h8, e⟩⟩
    · exact .inr (by simp [h9])
  obtain ⟨k, hkE⟩ : ∃ k, ts[a].1 = k := ⟨_, rfl⟩
  have HKE : Hid (ts[a].1 = k) := hkE
  rw [hkE] at c0 hkk
  clear h hok hit c1 c5 h3 h4 h5 hk hu hz hf hnp hkE
  rcases hkk with ⟨h8, hn0⟩ | h8
  all_goals
    go_enter Tryz.func78, Tryz.ntmps78
    go_wp2_with fail
    refine Calls.mono HPA.out ?_
    rintro e w1 ⟨⟨c, rfl, htc⟩, rfl⟩
    have HTC : Hid (TreeAt ts f w1 S c (pl ts f a ts[a].1 m 0)) := htc
    clear htc
    go_wp2_with fail
    go_ret
    exact ⟨⟨c, rfl, HTC.out⟩, rfl⟩
set_option maxHeartbeats 2000000 in
theorem choice_any (ts : List (Int × Int)) (vs : List It) (b o C f : Nat) (hp : PvHyp ts vs b o C f) (a q u : Nat) (S0 : Nat → Prop) (v : Value) (w : World) (ht : TreeAt ts (f + 1) w S0 u a) (hS0 : ∀ c, S0 c → c < w.heap.size) (hI : ItemsAt w.heap.size w b o C vs)
    (ha : a < ts.length) (hq : q < vs.length) (hfit : fitsI ts[a].1 ts[a].2 vs[q] = true) (hk : ts[a].1 = 8 ∨ ts[a].1 = 9) (hv : FromQ b o C vs (q + 1) v) :
    Calls Tryz.prog 70 #[.pointer (some ⟨u, 0, none⟩), .int .u64 vs[q].n, v] w fun e w' => PvPost ts vs (f + 1) a q b o C S0 w e w' := by
  have HT : Hid (TreeAt ts (f + 1) w S0 u a) := ht
  have HS : Hid (∀ c, S0 c → c < w.heap.size) := hS0
  have HI : Hid (ItemsAt w.heap.size w b o C vs) := hI
  have HP : Hid (PvHyp ts vs b o C f) := hp
  have HV : Hid (FromQ b o C vs (q + 1) v) := hv
  obtain ⟨_, e0, ad0, cap0, hok, _, _, c0, _⟩ := ht.openT
  have hM : vs[q].n < 18446744073709551616 := (hI.wf vs[q] (List.getElem_mem hq)).2.1
  have hfn := fits_n hfit
  have HE : Hid (ve ts vs (f + 1) a q = vit (ve ts vs f) (pl ts f a ts[a].1 vs[q].n) (q + 1) (np ts[a].1 vs[q].n)) := ve_ok ha hq hfit
  have HFI : Hid (fitsI ts[a].1 ts[a].2 vs[q] = true) := hfit
  have HKK : Hid (ts[a].1 = 8 ∨ ts[a].1 = 9) := hk
  have HFN : Hid (fitsN ts[a].1 ts[a].2 vs[q].n = true) := hfn
  by_cases hz : ts[a].1 = 8 ∧ vs[q].n = 0
  · have HFIN : Hid (VAt ts vs (f + 1) w (fun c => S0 c ∨ (w.heap.size ≤ c ∧ c < w.heap.size)) (.iface 133 (.agg #[.pointer (some ⟨u, 0, none⟩), .int .u64 0, .nilIface])) a q) :=
      ⟨u, ha, hq, ht.keep (fun c hc => .inl hc) (fun _ _ => rfl), hfit, .inr (.inr (.inr ⟨hk, .nilIface, by rw [hz.2]; rfl, .inl ⟨by unfold np; rw [if_pos (by omega)]; exact hz.2, rfl⟩⟩))⟩
    have HVE : Hid (ve ts vs (f + 1) a q = some (q + 1)) := by
      show _ = _
      have e : np ts[a].1 vs[q].n = 0 := by unfold np; rw [if_pos (by omega)]; exact hz.2
      rw [HE.out, e]; rfl
    rw [hz.2]
    have HCN : Hid (Calls Tryz.prog 78 #[.pointer (some ⟨u, 0, none⟩), .int .u64 0] w fun e w' => e = .returned (.pointer none) ∧ w' = w) := chosen_no ts f u a w S0 ht ha hz.1
    clear c0
    clear ht hS0 hI hp hv hok hfit hk hfn hz HE HFI HKK hM HFN
    go_enter Tryz.func70, Tryz.ntmps70
    go_wp2_with fail
    refine Calls.mono HCN.out ?_
    rintro e w1 ⟨rfl, rfl⟩
    go_wp2_with fail
    go_ret3
    exact ⟨Below.refl _ _, .inr ⟨q + 1, _, _, _, HVE.out, HV.out, rfl, HFIN.out⟩⟩
  · have hnp : np ts[a].1 vs[q].n = 1 := by
      unfold np
      unfold fitsN at hfn
      rcases hk with h8 | h9
      · rw [if_pos (by omega)]
        rw [if_neg (by omega), if_pos (by omega)] at hfn
        have := of_decide_eq_true hfn
        have : vs[q].n ≠ 0 := fun e => hz ⟨h8, e⟩
        omega
      · rw [if_neg (by omega), if_pos h9]
    have HNP : Hid (np ts[a].1 vs[q].n = 1) := hnp
    have HZ : Hid (¬ (ts[a].1 = 8 ∧ vs[q].n = 0)) := hz
    have HMn : Hid (∀ j, j < np ts[a].1 vs[q].n → j = 0) := fun j hj => by omega
    obtain ⟨k, hkE⟩ : ∃ k, ts[a].1 = k := ⟨_, rfl⟩
    obtain ⟨M, hME⟩ : ∃ M, vs[q].n = M := ⟨_, rfl⟩
    have HKE : Hid (ts[a].1 = k) := hkE
    have HME : Hid (vs[q].n = M) := hME
    rw [hME] at hM ⊢
    clear c0
    clear ht hS0 hI hp hv hok hfit hk hfn hz hnp hkE hME
    have HPA : Hid (Calls Tryz.prog 78 #[.pointer (some ⟨u, 0, none⟩), .int .u64 M] w fun e w' => (∃ c, e = .returned (.pointer (some ⟨c, 0, none⟩)) ∧ TreeAt ts f w S0 c (pl ts f a ts[a].1 vs[q].n 0)) ∧ w' = w) := by
      have := chosen_any ts f u a w S0 vs[q].n HT.out ha HKK.out HFN.out HZ.out (by rw [HME.out]; exact hM)
      rwa [HME.out] at this ⊢
    go_enter Tryz.func70, Tryz.ntmps70
    go_wp2_with fail
    refine Calls.mono HPA.out ?_
    rintro e w1 ⟨⟨c, rfl, htc⟩, rfl⟩
    have HTC : Hid (TreeAt ts f w1 S0 c (pl ts f a ts[a].1 vs[q].n 0)) := htc
    clear htc
    go_wp2_with fail
    refine (HP.out (pl ts f a ts[a].1 vs[q].n 0) (q + 1) c S0 v w1 HTC.out HS.out HI.out (by omega) HV.out).mono ?_
    rintro e w3 ⟨hb3, ⟨he, y, hy1, rfl⟩ | ⟨q', T, yv, v3, he, hfq3, rfl, hva⟩⟩
    · have HR : Hid (ve ts vs (f + 1) a q = none) := by show _ = _; rw [HE.out, HNP.out]; exact he
      clear he
      rcases hy1 with rfl | ⟨T, z, rfl⟩
      · go_wp2_with fail
        go_ret3
        exact ⟨hb3, .inl ⟨HR.out, _, .inr ⟨_, _, rfl⟩, rfl⟩⟩
      · go_wp2_with fail
        go_ret3
        exact ⟨hb3, .inl ⟨HR.out, _, .inr ⟨_, _, rfl⟩, rfl⟩⟩
    · have HVE : Hid (ve ts vs (f + 1) a q = some q') := by show _ = _; rw [HE.out, HNP.out]; exact he
      have HF3 : Hid (FromQ b o C vs q' v3) := hfq3
      have HFIN : Hid (VAt ts vs (f + 1) w3 (fun c => S0 c ∨ (w1.heap.size ≤ c ∧ c < w3.heap.size)) (.iface 133 (.agg #[.pointer (some ⟨u, 0, none⟩), .int .u64 M, .iface T yv])) a q) :=
        ⟨u, ha, hq, (HT.out.bel HS.out hb3).keep (fun c hc => .inl hc) (fun _ _ => rfl), HFI.out, .inr (.inr (.inr ⟨HKK.out, .iface T yv, by rw [HME.out], .inr ⟨by rw [HNP.out]; omega, hva⟩⟩))⟩
      clear he hfq3 hva
      go_wp2_with fail
      go_ret3
      exact ⟨hb3, .inr ⟨q', _, _, _, HVE.out, HF3.out, rfl, HFIN.out⟩⟩
end Go.Proofs.YtdncnjmlicdamaaGreatDoor
namespace Go.Proofs.YtdncnjmlicdamaaGreatDoor
open Go.RowKit Go.Sort
set_option linter.unusedVariables false
theorem parse_zero (ts : List (Int × Int)) (vs : List It) (b o C : Nat) : PvHyp ts vs b o C 0 := fun a q u S0 v w ht => ht.elim
theorem cells_re3 {w : World} {a : Addr} {v : Value} (h : w.cell? a = some v) : ∀ d os, (grow (redrawn w d) os).cell? a = some v := fun d os => cell_regrown h d os
set_option maxRecDepth 100000 in
set_option maxHeartbeats 4000000 in
/-- Where v has no item, or one that does not fit. -/
theorem parse_no (ts : List (Int × Int)) (vs : List It) (b o C f : Nat) (a q u : Nat) (S0 : Nat → Prop) (v : Value) (w : World) (ht : TreeAt ts (f + 1) w S0 u a) (hI : ItemsAt w.heap.size w b o C vs) (hq : q ≤ vs.length) (hv : FromQ b o C vs q v)
    (ha : a < ts.length) (hno : ∀ h : q < vs.length, fitsI ts[a].1 ts[a].2 vs[q] = false) :
    Calls Tryz.prog 50 #[.pointer (some ⟨u, 0, none⟩), v] w fun e w' => PvPost ts vs (f + 1) a q b o C S0 w e w' := by
  obtain ⟨_, e0, ad0, cap0, hok, _, _, c0, c1, _⟩ := ht.openT
  by_cases hqe : q < vs.length
  · have HR : Hid (ve ts vs (f + 1) a q = none) := ve_bad ha hqe (hno hqe)
    have hvv := hv.at hqe
    obtain ⟨i0, i1, i2⟩ := hI.cells q hqe
    obtain ⟨wk, wn, ws⟩ := hI.wf vs[q] (List.getElem_mem hqe)
    have hfi := hno hqe
    have HNF : Hid (∀ w, Calls Tryz.prog 67 #[.agg #[.int .i64 ts[a].1, .int .i64 ts[a].2], .int .u64 vs[q].n] w fun e w' => e = .returned (.bool (fitsN ts[a].1 ts[a].2 vs[q].n)) ∧ Below w.heap.size w w') := fun w => numberFits_any _ _ _ w hok wn
    have HBF : Hid (∀ w, Calls Tryz.prog 68 #[.agg #[.int .i64 ts[a].1, .int .i64 ts[a].2], .string vs[q].s] w fun e w' => e = .returned (.bool (fitsS ts[a].1 ts[a].2 vs[q].s.size)) ∧ Below w.heap.size w w') := fun w => bytesFit_any _ _ _ w hok ws
    have hl1 : 1 ≤ vs.length - q := by omega
    have hl2 : vs.length - q ≤ C - q := by have := hI.room; omega
    have hl3 : C - q ≤ 9223372036854775807 := by have := hI.most; unfold maxLen at this; omega
    unfold fitsI at hfi
    generalize ts[a].1 = k at *
    generalize ts[a].2 = n at *
    generalize vs[q] = it at *
    obtain ⟨ik, im, is⟩ := it
    simp only at i0 i1 i2 hfi HNF HBF wk wn ws
    generalize vs.length - q = l at *
    generalize C - q = cc at *
    subst hvv
    have r0 := cells_re3 c0
    have r1 := cells_re3 c1
    have s0 := cells_re3 i0
    have s1 := cells_re3 i1
    have s2 := cells_re3 i2
    have hl0 : ((l : Int) == 0) = false := beqF (by omega)
    have hli : (0 : Int) < (l : Int) := by omega
    clear c0 c1 i0 i1 i2 ht hI hv hno hok wk wn ws
    by_cases hk : ik = k
    · subst hk
      have hkk : (ik != ik) = false := by simp
      cases hfn : fitsN ik n im with
      | false =>
        rw [hfn] at HNF
        clear hfi hfn
        go_enter Tryz.func50, Tryz.ntmps50
        go_wp2_with fail
        refine wp_region_quiet_below (by kernel_rfl) (by kernel_rfl) ?_
        repeat (go_big_quiet_step (exact Calls.regrown_of (HNF.out _)))
        refine wpQuiet_nil ?_
        intro w6 hw'
        obtain ⟨⟨dq, osq⟩, hw''⟩ := hw'
        have hb2 : Below w.heap.size w w6 := by rw [hw'']; exact below_regrown _ dq osq
        clear hw'' r0 r1 s0 s1 s2
        go_wp2_with fail
        go_ret3
        exact ⟨hb2, .inl ⟨HR.out, _, .inl rfl, rfl⟩⟩
      | true =>
        have hfs : fitsS ik n is.size = false := by simpa [hfn] using hfi
        rw [hfn] at HNF
        rw [hfs] at HBF
        clear hfi hfn hfs
        go_enter Tryz.func50, Tryz.ntmps50
        go_wp2_with fail
        refine wp_region_quiet_below (by kernel_rfl) (by kernel_rfl) ?_
        repeat (go_big_quiet_step (first | (go_at_call 67; exact Calls.regrown_of (HNF.out _)) | (go_at_call 68; exact Calls.regrown_of (HBF.out _))))
        refine wpQuiet_nil ?_
        intro w6 hw'
        obtain ⟨⟨dq, osq⟩, hw''⟩ := hw'
        have hb2 : Below w.heap.size w w6 := by rw [hw'']; exact below_regrown _ dq osq
        clear hw'' r0 r1 s0 s1 s2
        go_wp2_with fail
        go_ret3
        exact ⟨hb2, .inl ⟨HR.out, _, .inl rfl, rfl⟩⟩
    · have hkk : (ik != k) = true := by rw [bne_iff_ne]; exact hk
      clear hfi hk
      go_enter Tryz.func50, Tryz.ntmps50
      go_wp2_with fail
      refine wp_region_quiet_below (by kernel_rfl) (by kernel_rfl) ?_
      repeat (go_big_quiet_step (fail))
      refine wpQuiet_nil ?_
      intro w6 hw'
      obtain ⟨⟨dq, osq⟩, hw''⟩ := hw'
      have hb2 : Below w.heap.size w w6 := by rw [hw'']; exact below_regrown _ dq osq
      clear hw'' r0 r1 s0 s1 s2
      go_wp2_with fail
      go_ret3
      exact ⟨hb2, .inl ⟨HR.out, _, .inl rfl, rfl⟩⟩
  · have HR : Hid (ve ts vs (f + 1) a q = none) := ve_end (by omega)
    obtain ⟨ad, rfl, _⟩ := hv
    have hl : vs.length - q = 0 := by omega
    rw [hl]
    clear c0 c1 ht hI hno hok hl hqe
    go_enter Tryz.func50, Tryz.ntmps50
    go_wp2_with fail
    refine wp_region_quiet_below (by kernel_rfl) (by kernel_rfl) ?_
    repeat (go_big_quiet_step (fail))
    refine wpQuiet_nil ?_
    intro w6 hw'
    obtain ⟨⟨dq, osq⟩, hw''⟩ := hw'
    have hb2 : Below w.heap.size w w6 := by rw [hw'']; exact below_regrown _ dq osq
    clear hw''
    go_wp2_with fail
    go_ret3
    exact ⟨hb2, .inl ⟨HR.out, _, .inl rfl, rfl⟩⟩
end Go.Proofs.YtdncnjmlicdamaaGreatDoor
namespace Go.Proofs.YtdncnjmlicdamaaGreatDoor
open Go.RowKit Go.Sort
set_option linter.unusedVariables false
set_option maxRecDepth 100000 in
set_option maxHeartbeats 4000000 in
theorem parse_yes (ts : List (Int × Int)) (vs : List It) (b o C f : Nat) (hp : PvHyp ts vs b o C f) (a q u : Nat) (S0 : Nat → Prop) (v : Value) (w : World) (ht : TreeAt ts (f + 1) w S0 u a) (hS0 : ∀ c, S0 c → c < w.heap.size) (hI : ItemsAt w.heap.size w b o C vs) (hv : FromQ b o C vs q v)
    (ha : a < ts.length) (hqe : q < vs.length) (hfi : fitsI ts[a].1 ts[a].2 vs[q] = true) :
    Calls Tryz.prog 50 #[.pointer (some ⟨u, 0, none⟩), v] w fun e w' => PvPost ts vs (f + 1) a q b o C S0 w e w' := by
  obtain ⟨_, e0, ad0, cap0, hok, _, _, c0, c1, _⟩ := ht.openT
  have hvv := hv.at hqe
  obtain ⟨i0, i1, i2⟩ := hI.cells q hqe
  obtain ⟨wk, wn, ws⟩ := hI.wf vs[q] (List.getElem_mem hqe)
  have hbB : b < w.heap.size := hI.low.resolve_left (by omega)
  have HNF : Hid (∀ w, Calls Tryz.prog 67 #[.agg #[.int .i64 ts[a].1, .int .i64 ts[a].2], .int .u64 vs[q].n] w fun e w' => e = .returned (.bool (fitsN ts[a].1 ts[a].2 vs[q].n)) ∧ Below w.heap.size w w') := fun w => numberFits_any _ _ _ w hok wn
  have HBF : Hid (∀ w, Calls Tryz.prog 68 #[.agg #[.int .i64 ts[a].1, .int .i64 ts[a].2], .string vs[q].s] w fun e w' => e = .returned (.bool (fitsS ts[a].1 ts[a].2 vs[q].s.size)) ∧ Below w.heap.size w w') := fun w => bytesFit_any _ _ _ w hok ws
  have hfi' : vs[q].k = ts[a].1 ∧ fitsN ts[a].1 ts[a].2 vs[q].n = true ∧ fitsS ts[a].1 ts[a].2 vs[q].s.size = true := by simpa [fitsI] using hfi
  obtain ⟨hk, hfn, hfs⟩ := hfi'
  rw [hfn] at HNF
  rw [hfs] at HBF
  rw [hk] at i0
  have hl1 : 1 ≤ vs.length - q := by omega
  have hl2 : vs.length - q ≤ C - q := by have := hI.room; omega
  have hl3 : C - q ≤ 9223372036854775807 := by have := hI.most; unfold maxLen at this; omega
  have HT : Hid (TreeAt ts (f + 1) w S0 u a) := ht
  have HS : Hid (∀ c, S0 c → c < w.heap.size) := hS0
  have HI : Hid (ItemsAt w.heap.size w b o C vs) := hI
  have HP : Hid (PvHyp ts vs b o C f) := hp
  have HFI : Hid (fitsI ts[a].1 ts[a].2 vs[q] = true) := hfi
  have HF1 : Hid (∀ ad, (vs.length ≤ q + 1 ∨ ad = some ⟨b, o + (q + 1) * 3, none⟩) → FromQ b o C vs (q + 1) (.slice ad (vs.length - q - 1) (C - q - 1))) := fun ad h => ⟨ad, rfl, h⟩
  have HL : Hid (vs.length - q = 1 → vs.length ≤ q + 1) := fun h => by omega
  have hadd : o + q * 3 + 3 = o + (q + 1) * 3 := by omega
  have HA : Hid (o + q * 3 + 3 = o + (q + 1) * 3) := hadd
  obtain ⟨k, hke⟩ : ∃ k, ts[a].1 = k := ⟨_, rfl⟩
  obtain ⟨n, hne⟩ : ∃ n, ts[a].2 = n := ⟨_, rfl⟩
  obtain ⟨m, hme⟩ : ∃ m, vs[q].n = m := ⟨_, rfl⟩
  obtain ⟨s, hse⟩ : ∃ s, vs[q].s = s := ⟨_, rfl⟩
  have HKE : Hid (ts[a].1 = k) := hke
  have HME : Hid (vs[q].n = m) := hme
  have HSE : Hid (vs[q].s = s) := hse
  rw [hke, hne, hme] at HNF
  rw [hke, hne, hse] at HBF
  rw [hke] at i0 c0 hok
  rw [hne] at c1 hok
  rw [hme] at i1 wn
  rw [hse] at i2 ws
  clear hke hne hme hse hadd ht hS0 hI hp hfi hk hfn hfs hv wk
  obtain ⟨l, hle⟩ : ∃ l, vs.length - q = l := ⟨_, rfl⟩
  obtain ⟨cc, hce⟩ : ∃ cc, C - q = cc := ⟨_, rfl⟩
  rw [hle, hce] at hvv HF1
  rw [hle] at hl1 hl2 HL
  rw [hce] at hl2 hl3
  clear hle hce
  generalize hof : o + q * 3 = off at *
  have HOF : Hid (o + q * 3 = off) := hof
  subst hvv
  have r0 := cells_re3 c0
  have r1 := cells_re3 c1
  have s0 := cells_re3 i0
  have s1 := cells_re3 i1
  have s2 := cells_re3 i2
  have hl0 : ((l : Int) == 0) = false := beqF (by omega)
  have hli : (0 : Int) < (l : Int) := by omega
  have hkk : (k != k) = false := by simp
  clear hof
  go_enter Tryz.func50, Tryz.ntmps50
  go_wp2_with fail
  refine wp_region_quiet_below (by kernel_rfl) (by kernel_rfl) ?_
  repeat (go_big_quiet_step (first | (go_at_call 67; exact Calls.regrown_of (HNF.out _)) | (go_at_call 68; exact Calls.regrown_of (HBF.out _))))
  refine wpQuiet_nil ?_
  intro w6 hw'
  obtain ⟨⟨dq, osq⟩, hw''⟩ := hw'
  have hb6 : Below w.heap.size w w6 := by rw [hw'']; exact below_regrown _ dq osq
  have t0 : w6.cell? ⟨b, off, none⟩ = some (.int .i64 k) := by rw [hb6.cell (p := ⟨b, off, none⟩) hbB]; exact i0
  have t1 : w6.cell? ⟨b, off + 1, none⟩ = some (.int .u64 m) := by rw [hb6.cell (p := ⟨b, off + 1, none⟩) hbB]; exact i1
  have t2 : w6.cell? ⟨b, off + 2, none⟩ = some (.string s) := by rw [hb6.cell (p := ⟨b, off + 2, none⟩) hbB]; exact i2
  have hb6s : b < w6.heap.size := by have := hb6.size; omega
  have HB6 : Hid (Below w.heap.size w w6) := hb6
  clear hw'' r0 r1 s0 s1 s2 HNF HBF i0 i1 i2 c0 c1 hb6
  go_wp2_with fail
  go_cut [7, 8] (fun p r wz => p = .pointer (some ⟨w6.heap.size, 0, none⟩) ∧ (∃ ad, r = .slice ad (l - 1) (cc - 1) ∧ (cc = 1 ∨ ad = some ⟨b, off + 3, none⟩)) ∧ wz.cell? ⟨w6.heap.size, 0, none⟩ = some (.int .i64 k) ∧ wz.cell? ⟨w6.heap.size, 1, none⟩ = some (.int .u64 m) ∧ wz.cell? ⟨w6.heap.size, 2, none⟩ = some (.string s) ∧ Below w6.heap.size w6 wz)
  case first =>
    have hl1' : (1 : Int) ≤ (l : Int) := by omega
    have hcc1 : (1 : Int) ≤ (cc : Int) := by omega
    have hlc : (l : Int) ≤ (cc : Int) := by omega
    by_cases hcc : cc = 1
    · subst hcc
      have hl1e : l = 1 := by omega
      subst hl1e
      go_region
      go_wp2_with fail
      go_meet
      case rel => exact ⟨rfl, ⟨_, rfl, by simp⟩, by simp [go_sem], by simp [go_sem], by simp [go_sem], by first | exact bel1 _ _ | exact (bel1 _ _).drew⟩
    · go_region
      go_wp2_with fail
      go_meet
      case rel => exact ⟨rfl, ⟨_, rfl, .inr rfl⟩, by simp [go_sem], by simp [go_sem], by simp [go_sem], by first | exact bel1 _ _ | exact (bel1 _ _).drew⟩
  case rest =>
    obtain ⟨rfl, ⟨ad, rfl, had⟩, d0, d1, d2, hb7⟩ := hcut
    have HFQ : Hid (FromQ b o C vs (q + 1) (.slice ad (l - 1) (cc - 1))) := HF1.out ad (by
      rcases had with h | h
      · exact .inl (HL.out (by omega))
      · refine .inr ?_
        rw [h, HA.out])
    have hBw : Below w.heap.size w wc := HB6.out.trans (hb7.mono HB6.out.size)
    have HBW : Hid (Below w.heap.size w wc) := hBw
    have HTw : Hid (TreeAt ts (f + 1) wc S0 u a) := HT.out.bel HS.out hBw
    have HSw : Hid (∀ c, S0 c → c < wc.heap.size) := fun c hc => by have := HS.out c hc; have := hBw.size; omega
    have HIw : Hid (ItemsAt wc.heap.size wc b o C vs) := (HI.out.below hBw).up hBw.size
    clear had t0 t1 t2 hb7 hBw HF1 HL HA HOF HB6 hl0 hli hkk hb6s
    by_cases hsr : k = 5 ∨ k = 6 ∨ k = 7
    · have HSer : Hid (Calls Tryz.prog 69 #[.pointer (some ⟨u, 0, none⟩), .int .u64 m, .slice ad (l - 1) (cc - 1)] wc fun e w' => PvPost ts vs (f + 1) a q b o C S0 wc e w') := by
        have := series_any ts vs b o C f HP.out a q u S0 _ wc HTw.out HSw.out HIw.out ha hqe HFI.out (by rw [HKE.out]; exact hsr) HFQ.out
        rw [HME.out] at this
        exact this
      clear hok
      rcases hsr with rfl | rfl | rfl
      all_goals
        go_wp2_with fail
        refine Calls.mono HSer.out ?_
        rintro e w8 ⟨hb8, ⟨he, y, hy1, rfl⟩ | ⟨q', T, yv, v3, he, hfq3, rfl, hva⟩⟩
        · go_wp2_with fail
          go_ret3
          exact ⟨HBW.out.trans (hb8.mono HBW.out.size), .inl ⟨he, _, hy1, rfl⟩⟩
        · have HF3 : Hid (FromQ b o C vs q' v3 ∧ ve ts vs (f + 1) a q = some q' ∧ VAt ts vs (f + 1) w8 (fun c => S0 c ∨ (wc.heap.size ≤ c ∧ c < w8.heap.size)) (.iface T yv) a q) := ⟨hfq3, he, hva⟩
          clear hfq3 he hva
          go_wp2_with fail
          go_ret3
          exact ⟨HBW.out.trans (hb8.mono HBW.out.size), .inr ⟨q', _, _, _, HF3.out.2.1, HF3.out.1, rfl, HF3.out.2.2.keep (fun c hc => hc.imp id (fun ⟨r1, r2⟩ => ⟨by have := HBW.out.size; omega, r2⟩)) (fun _ _ => rfl)⟩⟩
    · by_cases hch : k = 8 ∨ k = 9
      · have HSer : Hid (Calls Tryz.prog 70 #[.pointer (some ⟨u, 0, none⟩), .int .u64 m, .slice ad (l - 1) (cc - 1)] wc fun e w' => PvPost ts vs (f + 1) a q b o C S0 wc e w') := by
          have := choice_any ts vs b o C f HP.out a q u S0 _ wc HTw.out HSw.out HIw.out ha hqe HFI.out (by rw [HKE.out]; exact hch) HFQ.out
          rw [HME.out] at this
          exact this
        clear hok hsr
        rcases hch with rfl | rfl
        all_goals
          go_wp2_with fail
          refine Calls.mono HSer.out ?_
          rintro e w8 ⟨hb8, ⟨he, y, hy1, rfl⟩ | ⟨q', T, yv, v3, he, hfq3, rfl, hva⟩⟩
          · go_wp2_with fail
            go_ret3
            exact ⟨HBW.out.trans (hb8.mono HBW.out.size), .inl ⟨he, _, hy1, rfl⟩⟩
          · have HF3 : Hid (FromQ b o C vs q' v3 ∧ ve ts vs (f + 1) a q = some q' ∧ VAt ts vs (f + 1) w8 (fun c => S0 c ∨ (wc.heap.size ≤ c ∧ c < w8.heap.size)) (.iface T yv) a q) := ⟨hfq3, he, hva⟩
            clear hfq3 he hva
            go_wp2_with fail
            go_ret3
            exact ⟨HBW.out.trans (hb8.mono HBW.out.size), .inr ⟨q', _, _, _, HF3.out.2.1, HF3.out.1, rfl, HF3.out.2.2.keep (fun c hc => hc.imp id (fun ⟨r1, r2⟩ => ⟨by have := HBW.out.size; omega, r2⟩)) (fun _ _ => rfl)⟩⟩
      · have HVE : Hid (ve ts vs (f + 1) a q = some (q + 1)) := by
          show _ = _
          have e : np ts[a].1 vs[q].n = 0 := by rw [HKE.out]; unfold np; rw [if_neg (by omega), if_neg (by omega)]
          rw [ve_ok ha hqe HFI.out, e]; rfl
        simp only [tyOk, decide_eq_true_eq] at hok
        have h14 : k = 1 ∨ k = 2 ∨ k = 3 ∨ k = 4 := by omega
        clear hok hsr hch
        rcases h14 with rfl | rfl | rfl | rfl
        · go_wp2_with fail
          go_ret3
          exact ⟨HBW.out, .inr ⟨q + 1, _, _, _, HVE.out, HFQ.out, rfl, ⟨u, ha, hqe, HTw.out.keep (fun c hc => .inl hc) (fun _ _ => rfl), HFI.out, .inl ⟨.inl HKE.out, by rw [HME.out]; try rfl⟩⟩⟩⟩
        · go_wp2_with fail
          go_ret3
          exact ⟨HBW.out, .inr ⟨q + 1, _, _, _, HVE.out, HFQ.out, rfl, ⟨u, ha, hqe, HTw.out.keep (fun c hc => .inl hc) (fun _ _ => rfl), HFI.out, .inl ⟨.inr HKE.out, by rw [HME.out]; try rfl⟩⟩⟩⟩
        · go_wp2_with fail
          go_ret3
          exact ⟨HBW.out, .inr ⟨q + 1, _, _, _, HVE.out, HFQ.out, rfl, ⟨u, ha, hqe, HTw.out.keep (fun c hc => .inl hc) (fun _ _ => rfl), HFI.out, .inr (.inl ⟨.inl HKE.out, by rw [HSE.out]; try rfl⟩)⟩⟩⟩
        · go_wp2_with fail
          go_ret3
          exact ⟨HBW.out, .inr ⟨q + 1, _, _, _, HVE.out, HFQ.out, rfl, ⟨u, ha, hqe, HTw.out.keep (fun c hc => .inl hc) (fun _ _ => rfl), HFI.out, .inr (.inl ⟨.inr HKE.out, by rw [HSE.out]; try rfl⟩)⟩⟩⟩
theorem parse_all (ts : List (Int × Int)) (vs : List It) (b o C : Nat) : ∀ f, PvHyp ts vs b o C f := by
  intro f
  induction f with
  | zero => exact parse_zero ts vs b o C
  | succ f ih =>
    intro a q u S0 v w ht hS0 hI hq hv
    have ha : a < ts.length := by obtain ⟨ha, _⟩ := ht.openT; exact ha
    by_cases hqe : q < vs.length
    · cases hfi : fitsI ts[a].1 ts[a].2 vs[q] with
      | true => exact parse_yes ts vs b o C f ih a q u S0 v w ht hS0 hI hv ha hqe hfi
      | false => exact parse_no ts vs b o C f a q u S0 v w ht hI hq hv ha (fun _ => hfi)
    · exact parse_no ts vs b o C f a q u S0 v w ht hI hq hv ha (fun h => absurd h hqe)
end Go.Proofs.YtdncnjmlicdamaaGreatDoor
namespace Go.Proofs.YtdncnjmlicdamaaGreatDoor
open Go.RowKit Go.Sort
set_option linter.unusedVariables false
/-- A slice of items in memory. -/
def IsItems (B : Nat) (w : World) (v : Value) (vs : List It) : Prop := ∃ b o C, ItemsAt B w b o C vs ∧ FromQ b o C vs 0 v
theorem IsItems.below {B : Nat} {w w' : World} {v : Value} {vs : List It} (h : IsItems B w v vs) (hb : Below B w w') : IsItems B w' v vs := by
  obtain ⟨b, o, C, h1, h2⟩ := h
  exact ⟨b, o, C, h1.below hb, h2⟩
theorem IsItems.up {B B' : Nat} {w : World} {v : Value} {vs : List It} (h : IsItems B w v vs) (hB : B ≤ B') : IsItems B' w v vs := by
  obtain ⟨b, o, C, h1, h2⟩ := h
  exact ⟨b, o, C, h1.up hB, h2⟩
theorem typedB_no {ts : List (Int × Int)} {vs : List It} (h : schOk ts = false) : typedB ts vs = false := by simp [typedB, h]
theorem typedB_big {ts : List (Int × Int)} {vs : List It} (h : 200 < vs.length) : typedB ts vs = false := by
  have : decide (vs.length ≤ 200) = false := by simp; omega
  simp [typedB, this]
theorem typedB_none {ts : List (Int × Int)} {vs : List It} (h : ve ts vs 7 0 0 = none) : typedB ts vs = false := by simp [typedB, h]
theorem typedB_some {ts : List (Int × Int)} {vs : List It} {q : Nat} (hs : schOk ts = true) (hl : vs.length ≤ 200) (h : ve ts vs 7 0 0 = some q) : typedB ts vs = decide (vs.length - q = 0) := by
  have h2 := (ve_lt h).2
  have hl' : decide (vs.length ≤ 200) = true := by simpa using hl
  unfold typedB
  rw [hs, hl', h]
  simp only [Bool.true_and]
  by_cases e : q = vs.length
  · subst e; simp
  · have e1 : (some q == some vs.length) = false := by simp [e]
    rw [e1]
    symm
    simp only [decide_eq_false_iff_not]
    omega
theorem beq_zero (n : Nat) : decide (n = 0) = ((n : Int) == 0) := by rw [beq_dec, Bool.eq_iff_iff]; simp
/-- What valueOf leaves: the tree of the type is in blocks of S0. -/
def VoPost (ts : List (Int × Int)) (vs : List It) (S0 : Nat → Prop) (w : World) (e : Ending) (w' : World) : Prop :=
  Below w.heap.size w w' ∧ ∃ x, e = .returned (.tuple #[x, .bool (typedB ts vs)]) ∧ (typedB ts vs = true → (∃ T y, x = .iface T y) ∧ VAt ts vs 7 w' (fun c => S0 c ∨ (w.heap.size ≤ c ∧ c < w'.heap.size)) x 0 0)
set_option maxHeartbeats 1000000 in
theorem valueOf_any (ts : List (Int × Int)) (vs : List It) (u : Nat) (S0 : Nat → Prop) (v' : Value) (w : World) (hs : schOk ts = true) (htr : TreeAt ts 7 w S0 u 0) (hS0 : ∀ c, S0 c → c < w.heap.size) (hv' : IsItems w.heap.size w v' vs) : Calls Tryz.prog 29 #[.pointer (some ⟨u, 0, none⟩), v'] w fun e w' => VoPost ts vs S0 w e w' := by
  obtain ⟨b, o, C, hI, hF⟩ := hv'
  have HI : Hid (ItemsAt w.heap.size w b o C vs) := hI
  have HF : Hid (FromQ b o C vs 0 v') := hF
  have hsm := hI.small
  obtain ⟨ad, rfl, _⟩ := hF
  simp only [Nat.sub_zero] at HF
  rw [Nat.sub_zero, Nat.sub_zero]
  have HS : Hid (schOk ts = true) := hs
  have HT : Hid (TreeAt ts 7 w S0 u 0) := htr
  have HS0 : Hid (∀ c, S0 c → c < w.heap.size) := hS0
  clear hI hs htr hS0
  by_cases h200 : 200 < vs.length
  · have HR : Hid (typedB ts vs = false) := typedB_big h200
    have hd : decide ((200 : Int) < vs.length) = true := by simp; omega
    go_enter Tryz.func29, Tryz.ntmps29
    go_wp2_with fail
    go_ret2
    exact ⟨Below.refl _ _, _, by rw [HR.out]; try rfl, fun h => by rw [HR.out] at h; cases h⟩
  · have hd : decide ((200 : Int) < vs.length) = false := by simp; omega
    go_enter Tryz.func29, Tryz.ntmps29
    go_wp2_with fail
    refine (parse_all ts vs b o C 7 0 0 u _ _ w HT.out HS0.out HI.out (Nat.zero_le _) (by simpa using HF.out)).mono ?_
    rintro e w2 ⟨hb2, ⟨he, y, hy1, rfl⟩ | ⟨q', T, yv, v3, he, hfq3, rfl, hva⟩⟩
    · have HR : Hid (typedB ts vs = false) := typedB_none he
      clear he
      go_wp2_with fail
      go_ret2
      exact ⟨hb2, _, by rw [HR.out]; try rfl, fun h => by rw [HR.out] at h; cases h⟩
    · have HR : Hid (typedB ts vs = decide (vs.length - q' = 0)) := typedB_some HS.out (by omega) he
      have HVA : Hid (VAt ts vs 7 w2 (fun c => S0 c ∨ (w.heap.size ≤ c ∧ c < w2.heap.size)) (.iface T yv) 0 0) := hva
      obtain ⟨ad3, rfl, _⟩ := hfq3
      clear he hva
      go_wp2_with fail
      go_ret2
      exact ⟨hb2, _, by rw [HR.out, beq_zero]; try rfl, fun _ => ⟨⟨_, _, rfl⟩, HVA.out⟩⟩
end Go.Proofs.YtdncnjmlicdamaaGreatDoor
