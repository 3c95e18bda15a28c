/- Values in memory: items; what fits; a part's type. -/
import Derived.Test.YtepffjfgomhepaaGreatDoorS2h
import Derived.Test.YtepffjfgomhepaaGreatDoorPv
import Derived.Test.YtepffjfgomhepaaGreatDoorL1a
import Derived.Lib.QuietBelow
import Derived.BigQuiet
import Derived.Lib.Strings
namespace Go.Proofs.YtepffjfgomhepaaGreatDoor
open Go.RowKit Go.Sort
set_option linter.unusedVariables false
/-- Items in memory: from block b, offset o on, three cells each; C: how many there is room for. -/
structure ItemsAt (B : Nat) (w : World) (b o C : Nat) (vs : List It) : Prop where
  small : vs.length ≤ 1048577
  room : vs.length ≤ C
  most : C ≤ maxLen
  wf : ∀ x ∈ vs, inI x.k ∧ x.n < 18446744073709551616 ∧ x.s.size ≤ 1048577
  low : vs.length = 0 ∨ b < B
  cells : ∀ i (h : i < vs.length), w.cell? ⟨b, o + i * 3, none⟩ = some (.int .i64 vs[i].k) ∧ w.cell? ⟨b, o + i * 3 + 1, none⟩ = some (.int .u64 vs[i].n) ∧ w.cell? ⟨b, o + i * 3 + 2, none⟩ = some (.string vs[i].s)
theorem ItemsAt.below {B : Nat} {w w' : World} {b o C : Nat} {vs : List It} (h : ItemsAt B w b o C vs) (hb : Below B w w') : ItemsAt B w' b o C vs := by
  refine ⟨h.small, h.room, h.most, h.wf, h.low, fun i hi => ?_⟩
  have hlt : b < B := h.low.resolve_left (by omega)
  rw [hb.cell (p := ⟨b, o + i * 3, none⟩) hlt, hb.cell (p := ⟨b, o + i * 3 + 1, none⟩) hlt, hb.cell (p := ⟨b, o + i * 3 + 2, none⟩) hlt]
  exact h.cells i hi
theorem ItemsAt.up {B B' : Nat} {w : World} {b o C : Nat} {vs : List It} (h : ItemsAt B w b o C vs) (hB : B ≤ B') : ItemsAt B' w b o C vs :=
  ⟨h.small, h.room, h.most, h.wf, h.low.imp id (fun h => by omega), h.cells⟩
/-- The slice of what stands from place q on. -/
def FromQ (b o C : Nat) (vs : List It) (q : Nat) (v : Value) : Prop := ∃ ad, v = .slice ad (vs.length - q) (C - q) ∧ (vs.length ≤ q ∨ ad = some ⟨b, o + q * 3, none⟩)
theorem FromQ.at {b o C : Nat} {vs : List It} {q : Nat} {v : Value} (h : FromQ b o C vs q v) (hq : q < vs.length) : v = .slice (some ⟨b, o + q * 3, none⟩) (vs.length - q) (C - q) := by
  obtain ⟨ad, rfl, h1⟩ := h
  rcases h1 with h1 | rfl
  · omega
  · rfl
theorem fitsN_1 (n : Int) (m : Nat) : fitsN 1 n m = decide (m < 2 ^ n.toNat) := rfl
set_option maxHeartbeats 1000000 in
theorem numberFits_any (k n : Int) (m : Nat) (w : World) (hok : tyOk k n = true) (hm : m < 18446744073709551616) : Calls Tryz.prog 80 #[.agg #[.int .i64 k, .int .i64 n], .int .u64 m] w fun e w' => e = .returned (.bool (fitsN k n m)) ∧ Below w.heap.size w w' := by
  simp only [tyOk, decide_eq_true_eq] at hok
  have hk : k = 1 ∨ k = 2 ∨ k = 3 ∨ k = 4 ∨ k = 5 ∨ k = 6 ∨ k = 7 ∨ k = 8 ∨ k = 9 := by omega
  rcases hk with rfl | hk
  · have hn : 0 ≤ n ∧ n ≤ 64 := by omega
    obtain ⟨N, rfl⟩ := Int.eq_ofNat_of_zero_le hn.1
    have HL : Hid (∀ w, Calls Tryz.prog 91 #[.int .u64 m] w fun e w' => e = .returned (.int .i64 (bl m)) ∧ w' = w) := fun w => Len64_any m w hm
    have HR : Hid (fitsN 1 (N : Int) m = decide (bl m ≤ N)) := by show _ = _; rw [fitsN_1, Int.toNat_natCast, Bool.eq_iff_iff]; simp [bl_le]
    have c1 : ∀ d os, (grow (redrawn (w.alloc (.cells #[.int .i64 1, .int .i64 (N : Int)] 83)) d) os).cell? ⟨w.heap.size, 1, none⟩ = some (.int .i64 (N : Int)) := fun d os => cell_regrown (by simp [go_sem]) d os
    clear hok
    go_enter Tryz.func80, Tryz.ntmps80
    go_wp2_with fail
    refine wp_region_quiet_below (by kernel_rfl) (by kernel_rfl) ?_
    repeat (go_big_quiet_step (exact Calls.regrown_of ((HL.out _).mono fun _ _ h => ⟨h.1, h.2 ▸ Below.refl _ _⟩)))
    refine wpQuiet_nil ?_
    intro w6 hw'
    obtain ⟨⟨dq, osq⟩, hw''⟩ := hw'
    have hb2 : Below w.heap.size w w6 := by rw [hw'']; exact (bel1 _ _).trans ((below_regrown _ dq osq).mono (by simp))
    clear hw'' c1
    go_wp2_with fail
    go_ret
    exact ⟨by rw [HR.out]; exact ret_b (by simp), hb2⟩
  · have hn : 0 ≤ n ∧ n ≤ 200 := by omega
    obtain ⟨N, rfl⟩ := Int.eq_ofNat_of_zero_le hn.1
    rcases hk with rfl | rfl | rfl | rfl | rfl | rfl | rfl | rfl
    all_goals
      go_enter Tryz.func80, Tryz.ntmps80
      go_wp2
      go_ret
      exact ⟨ret_b (by simp [fitsN, beq_dec] <;> omega), bel1 _ _⟩
theorem str_empty (s : ByteArray) : s.toList.isEmpty = decide (s.size = 0) := by
  rw [ByteArray.toList_eq]
  obtain ⟨⟨l⟩⟩ := s
  cases l with
  | nil => rfl
  | cons a l => simp [ByteArray.size]
theorem fitsS_rest {k n : Int} {m : Nat} (h3 : k ≠ 3) (h4 : k ≠ 4) : fitsS k n m = decide (m = 0) := by simp [fitsS, h3, h4]
set_option maxHeartbeats 1000000 in
theorem bytesFit_any (k n : Int) (s : ByteArray) (w : World) (hok : tyOk k n = true) (hs : s.size ≤ 1048577) : Calls Tryz.prog 81 #[.agg #[.int .i64 k, .int .i64 n], .string s] w fun e w' => e = .returned (.bool (fitsS k n s.size)) ∧ Below w.heap.size w w' := by
  simp only [tyOk, decide_eq_true_eq] at hok
  have hk : k = 1 ∨ k = 2 ∨ k = 3 ∨ k = 4 ∨ k = 5 ∨ k = 6 ∨ k = 7 ∨ k = 8 ∨ k = 9 := by omega
  rcases hk with rfl | rfl | rfl | rfl | rfl | rfl | rfl | rfl | rfl
  all_goals
    go_enter Tryz.func81, Tryz.ntmps81
    go_wp2
    go_ret
    exact ⟨ret_b (by first | (rw [fitsS_rest (by decide) (by decide)]; exact str_empty s) | (simp [fitsS, beq_dec])), bel1 _ _⟩
/-- A node's cells and its parts, opened, its type too. -/
theorem TreeAt.openT {ts : List (Int × Int)} {f u a : Nat} {w : World} {S : Nat → Prop} (h : TreeAt ts (f + 1) w S u a) : ∃ (ha : a < ts.length) (e : Nat) (ad : Option Addr) (cap : Nat),
    tyOk ts[a].1 ts[a].2 = true ∧ iter (en ts f) (a + 1) (kids ts[a].1 ts[a].2) = some e ∧ S u ∧ w.cell? ⟨u, 0, none⟩ = some (.int .i64 ts[a].1) ∧ w.cell? ⟨u, 1, none⟩ = some (.int .i64 ts[a].2) ∧
    w.cell? ⟨u, 5, none⟩ = some (.slice ad (kids ts[a].1 ts[a].2) cap) ∧ kids ts[a].1 ts[a].2 ≤ cap ∧ cap ≤ maxLen ∧
      (kids ts[a].1 ts[a].2 = 0 ∨ ∃ g, ad = some ⟨g, 0, none⟩ ∧ ∀ j, j < kids ts[a].1 ts[a].2 → ∃ c p, iter (en ts f) (a + 1) j = some p ∧ w.cell? ⟨g, j, none⟩ = some (.pointer (some ⟨c, 0, none⟩)) ∧ TreeAt ts f w S c p) := by
  obtain ⟨hu, ha, e, ad, cap, h1, h2, c0, c1, c2, c3, c4, c5, h3, h4, h5⟩ := h
  refine ⟨ha, e, ad, cap, h1, by rw [← en_ok ha h1]; exact h2, hu, c0, c1, c5, h3, h4, ?_⟩
  rcases h5 with h5 | ⟨g, hg, _, hk⟩
  · exact .inl h5
  · exact .inr ⟨g, hg, hk⟩
set_option maxHeartbeats 1000000 in
/-- The type of the part that an item with number m asks for: j counts the parts. -/
theorem part_any (ts : List (Int × Int)) (f u a : Nat) (w : World) (S : Nat → Prop) (i m j : Nat) (h : TreeAt ts (f + 1) w S u a) (ha : a < ts.length) (hf : fitsN ts[a].1 ts[a].2 m = true) (hj : j < np ts[a].1 m) (hi : (ts[a].1 = 9 → i = m) ∧ (ts[a].1 = 7 → i = j)) (hi64 : i < 18446744073709551616) :
    Calls Tryz.prog 99 #[.pointer (some ⟨u, 0, none⟩), .int .u64 i] w fun e w' => (∃ c, e = .returned (.pointer (some ⟨c, 0, none⟩)) ∧ TreeAt ts f w S c (pl ts f a ts[a].1 m j)) ∧ w' = w := by
  obtain ⟨_, e, ad, cap, hok, hit, hu, c0, c1, c5, h3, h4, h5⟩ := h.openT
  have hex := pl_ok ha hok hit hf hj
  have hkl := kids_le hok
  have hnl := np_le hok hf
  clear h hit
  generalize ts[a].1 = k at *
  generalize ts[a].2 = n at *
  simp only [tyOk, decide_eq_true_eq] at hok
  unfold fitsN at hf
  have hK : 5 ≤ k := by
    by_cases hk5 : 5 ≤ k
    · exact hk5
    · have hz : np k m = 0 := by unfold np; rw [if_neg (by omega), if_neg (by omega)]
      omega
  by_cases hk79 : k = 7 ∨ k = 9
  · have hik : i < kids k n := by
      rcases hk79 with rfl | rfl
      · simp [np] at hj; simp at hf hi; simp [kids]; omega
      · simp at hf hi; simp [kids]; omega
    have hplc : pl ts f a k m j = (iter (en ts f) (a + 1) i).getD 0 := by
      rcases hk79 with rfl | rfl
      · simp at hi; simp [pl, hi]
      · simp at hi; simp [pl, hi]
    obtain ⟨g, rfl, hk⟩ := h5.resolve_left (by omega)
    obtain ⟨c, p, hp, hcell, htr⟩ := hk i hik
    rw [hp] at hplc
    simp only [Option.getD_some] at hplc
    rw [hplc]
    have HT : Hid (TreeAt ts f w S c p) := htr
    obtain ⟨K, hKk⟩ : ∃ K, kids k n = K := ⟨_, rfl⟩
    rw [hKk] at c5 hik h3 hkl
    clear hk htr hp hex h5 hplc hi hj hf hKk hok
    rcases hk79 with rfl | rfl
    all_goals
      go_enter Tryz.func99, Tryz.ntmps99
      go_wp2_with fail
      go_ret
      exact ⟨⟨c, rfl, HT.out⟩, rfl⟩
  · have h7 : (k == 7) = false := beqF (by omega)
    have h9 : (k == 9) = false := beqF (by omega)
    have hk0 : kids k n = 1 := by unfold kids; rw [if_pos (by omega)]
    have hplc : pl ts f a k m j = a + 1 := by unfold pl; rw [if_neg (by omega), if_neg (by omega)]
    rw [hk0] at c5 h5 h3
    obtain ⟨g, rfl, hk⟩ := h5.resolve_left (by omega)
    obtain ⟨c, p, hp, hcell, htr⟩ := hk 0 (by omega)
    cases hp
    rw [hplc]
    have HT : Hid (TreeAt ts f w S c (a + 1)) := htr
    clear hk htr hex h5 hplc hi hj hf hok hk79 hk0
    go_enter Tryz.func99, Tryz.ntmps99
    go_wp2_with fail
    go_ret
    exact ⟨⟨c, rfl, HT.out⟩, rfl⟩
end Go.Proofs.YtepffjfgomhepaaGreatDoor
