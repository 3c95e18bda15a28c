/- The callees of PutLe, GetLe, PutBe, GetBe: contracts. -/
import Derived.Test.YtdncnjmlicdamaaGreatDoorBase
import Derived.Lib.BitFns
namespace Go.Proofs.YtdncnjmlicdamaaGreatDoor
open Go.RowKit
set_option linter.unusedVariables false
/-- Byte i of a number, the lowest first; k of them. -/
def byt (n : Nat) (i : Nat) : UInt8 := UInt8.ofNat (n / 2 ^ (8 * i))
def leL (n k : Nat) : List UInt8 := (List.range k).map (byt n)
theorem leL_len (n k : Nat) : (leL n k).length = k := by simp [leL]
theorem leL_succ (n k : Nat) : leL n (k+1) = leL n k ++ [byt n k] := by simp [leL, List.range_succ]
theorem bv_byt (n j : Nat) : bv (byt n j) = Value.int IntKind.u8 ((n : Int) / 2 ^ (8 * j) % 256) := by
  simp [bv, byt]
set_option maxHeartbeats 400000 in
theorem l1Le_any (n : Nat) (k : Nat) (w : World) (hn : n < 18446744073709551616) (hk : k ≤ 8) : Calls Tryz.prog 55 #[.int .u64 n, .int .i64 k] w fun e w' => e = .returned (.string ⟨(leL n k).toArray⟩) ∧ Below w.heap.size w w' := by
  obtain ⟨i0, hi, hz0, hz1, hz2⟩ := info_parts Tryz.infoU8
  go_enter Tryz.func55, Tryz.ntmps55
  go_wp2
  go_loopw [5, 6] (fun v i wr => ∃ j : Nat, j ≤ k ∧ i = .int .i64 j ∧ wr.ownsRow w.heap.size 5 1 v j ((leL n j).map bv) ∧ Below w.heap.size w wr) (fun _ i _ => k - (intOf i).toNat)
  case atStart => exact ⟨0, Nat.zero_le _, rfl, World.ownsRow_lit w #[] 0 (Nat.le_refl _) (by decide) rfl, (Below.refl _ _).alloc (Nat.le_refl _) _⟩
  case round =>
    obtain ⟨j, hj, rfl, hown, hb⟩ := hrel
    by_cases hlt : j < k
    · go_wp2_with (at_builtin; refine wpList_append_own _ rfl _ _ 22 rfl w.heap.size 5 i0 (.int .u8 0) 1 1 Tryz.underlying22 hi hz0 hz1 hz2 rfl (by decide) _ _ _ rfl (hown.alloc _) ⟨wr.heap.size, 0, none⟩ 1 1 [bv (byt n j)] rfl rfl ?c1 ?c2 ?c3 ?c4 ?c5 ?_)
      case c1 =>
        intro i u hi
        match i, hi with
        | 0, hi => simp at hi; subst hi; simp [Addr.add, bv_byt]
      case c2 => intro u hu; simp at hu; subst hu; rfl
      case c3 => unfold maxLen; omega
      case c4 => omega
      case c5 => have := hb.size; simp; omega
      intro v' w1 hown' hgrow _
      have R1 := push_below hb hown (Nat.le_refl _) hgrow
      have R2 : w1.ownsRow w.heap.size 5 1 v' (j + 1) ((leL n (j + 1)).map bv) := by rw [leL_succ]; simpa using hown'
      clear hown' hgrow hown
      go_wp2
      go_roundw
      case rel => exact ⟨j + 1, by omega, by go_num, R2, R1⟩
      case measure => simp [intOf]; omega
    · have hc := conv_own (P := Tryz.prog) 22 9 Tryz.underlying22 Tryz.underlying5 Tryz.underlying9 hown
      go_wp2
      go_ret
      have : j = k := by omega
      subst this
      exact ⟨rfl, hb⟩
/-- What lies in the row while it is filled from its low end, from its high end. -/
def lowRow (n k j : Nat) : List Value := (leL n j).map bv ++ List.replicate (k - j) (.int .u8 0)
def highRow (n k j : Nat) : List Value := List.replicate (k - j) (.int .u8 0) ++ (leL n j).reverse.map bv
theorem mod_small (n m : Nat) (h : n < 256) : ((n : Int) / 2 ^ m) % 256 = (n : Int) / 2 ^ m := by
  have e : ((n : Int) / 2 ^ m) = ((n / 2 ^ m : Nat) : Int) := by simp
  have := Nat.div_le_self n (2 ^ m)
  rw [e]
  generalize n / 2 ^ m = q at this ⊢
  omega
theorem lowRow_len (n k j : Nat) (h : j ≤ k) : (lowRow n k j).length = k := by simp [lowRow, leL_len]; omega
theorem lowRow_set (n k j : Nat) (h : j < k) : (lowRow n k j).set j (bv (byt n j)) = lowRow n k (j + 1) := by
  have e : k - j = (k - (j + 1)) + 1 := by omega
  unfold lowRow
  rw [e, List.replicate_succ, List.set_append_right _ _ (by simp [leL_len]), leL_succ]
  simp [leL_len]
theorem lowRow_zero (n k : Nat) : lowRow n k 0 = List.replicate k (.int .u8 0) := by simp [lowRow, leL]
theorem lowRow_all (n k : Nat) : lowRow n k k = (leL n k).map bv := by simp [lowRow]
theorem highRow_len (n k j : Nat) (h : j ≤ k) : (highRow n k j).length = k := by simp [highRow, leL_len]; omega
theorem highRow_set (n k j : Nat) (h : j < k) : (highRow n k j).set (k - 1 - j) (bv (byt n j)) = highRow n k (j + 1) := by
  have e : k - j = (k - (j + 1)) + 1 := by omega
  have e2 : k - 1 - j = k - (j + 1) := by omega
  unfold highRow
  rw [e2, leL_succ, e, List.replicate_succ', List.append_assoc, List.set_append_right _ _ (by simp)]
  simp
theorem highRow_zero (n k : Nat) : highRow n k 0 = List.replicate k (.int .u8 0) := by simp [highRow, leL]
theorem highRow_all (n k : Nat) : highRow n k k = (leL n k).reverse.map bv := by simp [highRow]
set_option maxHeartbeats 400000 in
theorem lowFirst_u8_any (n : Nat) (k : Nat) (w : World) (hn : n < 256) (hk : k ≤ 1) : Calls Tryz.prog 115 #[.int .u8 n, .int .i64 k] w fun e w' => e = .returned (.string ⟨(leL n k).toArray⟩) ∧ Below w.heap.size w w' := by
  obtain ⟨i0, hi, hz0, hz1, hz2⟩ := info_parts Tryz.infoU8
  go_enter Tryz.func115, Tryz.ntmps115
  go_wp2_with (at_make; refine wpList_make_full _ rfl _ _ 22 rfl w.heap.size 5 i0 (.int .u8 0) 1 Tryz.underlying22 hi hz0 hz1 _ _ _ _ k rfl rfl rfl rfl ?b2 ?b3 (Nat.le_refl _) ?_)
  case b2 => rw [hz2]; omega
  case b3 => unfold maxLen; omega
  intro w1 hown0 hgrow
  have hown1 : w1.ownsRow w.heap.size 5 1 (.slice (some ⟨w.heap.size, 0, none⟩) k k) k (lowRow n k 0) := by rw [lowRow_zero]; simpa [toList_madeCells_one, Value.cells] using hown0
  have hb1 : Below w.heap.size w w1 := (Below.refl _ _).grown hgrow (Nat.le_refl _) (by simp)
  clear hown0 hgrow
  go_wp2
  go_loopw [10] (fun i wr => ∃ j : Nat, j ≤ k ∧ i = .int .i64 j ∧ wr.ownsRow w.heap.size 5 1 (.slice (some ⟨w.heap.size, 0, none⟩) k k) k (lowRow n k j) ∧ Below w.heap.size w wr) (fun i _ => k - (intOf i).toNat)
  case atStart => exact ⟨0, Nat.zero_le _, rfl, hown1, hb1⟩
  case round =>
    clear hown1 hb1
    obtain ⟨j, hj, rfl, hown, hb⟩ := hrel
    by_cases hlt : j < k
    · have hcell : ∃ v, wr.cell? ⟨w.heap.size, j, none⟩ = some v := by
        have := hown.cellAt j (by omega)
        rw [this]
        exact ⟨_, List.getElem?_eq_getElem (by rw [lowRow_len _ _ _ hj]; exact hlt)⟩
      obtain ⟨v0, hcell⟩ := hcell
      have hfr := hown.frozenAt j
      have R := hown.stored j (bv (byt n j))
      rw [lowRow_set _ _ _ hlt] at R
      have R2 := hb.setCell (p := ⟨w.heap.size, j, none⟩) (Nat.le_refl _) (bv (byt n j))
      have R1 := R.1
      rw [bv_byt] at R1 R2
      clear R hown
      go_wp2
      go_roundw
      case rel => first | exact ⟨j + 1, by omega, by go_num, R1, R2⟩ | (rw [mod_small n (8 * j) hn] at R1 R2; exact ⟨j + 1, by omega, by go_num, R1, R2⟩)
      case measure => simp [intOf]; omega
    · have ej : j = k := by omega
      subst ej
      rw [lowRow_all] at hown
      have hc := conv_own (P := Tryz.prog) 22 9 Tryz.underlying22 Tryz.underlying5 Tryz.underlying9 hown
      go_wp2
      go_ret
      exact ⟨rfl, hb⟩
set_option maxHeartbeats 400000 in
theorem highFirst_u64_any (n : Nat) (k : Nat) (w : World) (hn : n < 18446744073709551616) (hk : k ≤ 8) : Calls Tryz.prog 104 #[.int .u64 n, .int .i64 k] w fun e w' => e = .returned (.string ⟨(leL n k).reverse.toArray⟩) ∧ Below w.heap.size w w' := by
  obtain ⟨i0, hi, hz0, hz1, hz2⟩ := info_parts Tryz.infoU8
  go_enter Tryz.func104, Tryz.ntmps104
  go_wp2_with (at_make; refine wpList_make_full _ rfl _ _ 22 rfl w.heap.size 5 i0 (.int .u8 0) 1 Tryz.underlying22 hi hz0 hz1 _ _ _ _ k rfl rfl rfl rfl ?b2 ?b3 (Nat.le_refl _) ?_)
  case b2 => rw [hz2]; omega
  case b3 => unfold maxLen; omega
  intro w1 hown0 hgrow
  have hown1 : w1.ownsRow w.heap.size 5 1 (.slice (some ⟨w.heap.size, 0, none⟩) k k) k (highRow n k 0) := by rw [highRow_zero]; simpa [toList_madeCells_one, Value.cells] using hown0
  have hb1 : Below w.heap.size w w1 := (Below.refl _ _).grown hgrow (Nat.le_refl _) (by simp)
  clear hown0 hgrow
  go_wp2
  go_loopw [10] (fun i wr => ∃ j : Nat, j ≤ k ∧ i = .int .i64 j ∧ wr.ownsRow w.heap.size 5 1 (.slice (some ⟨w.heap.size, 0, none⟩) k k) k (highRow n k j) ∧ Below w.heap.size w wr) (fun i _ => k - (intOf i).toNat)
  case atStart => exact ⟨0, Nat.zero_le _, rfl, hown1, hb1⟩
  case round =>
    clear hown1 hb1
    obtain ⟨j, hj, rfl, hown, hb⟩ := hrel
    by_cases hlt : j < k
    · obtain ⟨q, hq⟩ : ∃ q, q = k - 1 - j := ⟨_, rfl⟩
      have hcell : ∃ v, wr.cell? ⟨w.heap.size, q, none⟩ = some v := by
        have := hown.cellAt q (by omega)
        rw [this]
        exact ⟨_, List.getElem?_eq_getElem (by rw [highRow_len _ _ _ hj]; omega)⟩
      obtain ⟨v0, hcell⟩ := hcell
      have hfr := hown.frozenAt q
      have R := hown.stored q (bv (byt n j))
      have hqi : ((k : Int) - 1 - j).toNat = q := by omega
      rw [hq, highRow_set _ _ _ hlt, ← hq] at R
      have R2 := hb.setCell (p := ⟨w.heap.size, q, none⟩) (Nat.le_refl _) (bv (byt n j))
      have R1 := R.1
      rw [bv_byt] at R1 R2
      clear R hown hq
      go_wp2
      go_roundw
      case rel => exact ⟨j + 1, by omega, by go_num, R1, R2⟩
      case measure => simp [intOf]; omega
    · have ej : j = k := by omega
      subst ej
      rw [highRow_all] at hown
      have hc := conv_own (P := Tryz.prog) 22 9 Tryz.underlying22 Tryz.underlying5 Tryz.underlying9 hown
      go_wp2
      go_ret
      exact ⟨rfl, hb⟩
set_option maxHeartbeats 400000 in
theorem highFirst_u16_any (n : Nat) (k : Nat) (w : World) (hn : n < 65536) (hk : k ≤ 2) : Calls Tryz.prog 113 #[.int .u16 n, .int .i64 k] w fun e w' => e = .returned (.string ⟨(leL n k).reverse.toArray⟩) ∧ Below w.heap.size w w' := by
  obtain ⟨i0, hi, hz0, hz1, hz2⟩ := info_parts Tryz.infoU8
  go_enter Tryz.func113, Tryz.ntmps113
  go_wp2_with (at_make; refine wpList_make_full _ rfl _ _ 22 rfl w.heap.size 5 i0 (.int .u8 0) 1 Tryz.underlying22 hi hz0 hz1 _ _ _ _ k rfl rfl rfl rfl ?b2 ?b3 (Nat.le_refl _) ?_)
  case b2 => rw [hz2]; omega
  case b3 => unfold maxLen; omega
  intro w1 hown0 hgrow
  have hown1 : w1.ownsRow w.heap.size 5 1 (.slice (some ⟨w.heap.size, 0, none⟩) k k) k (highRow n k 0) := by rw [highRow_zero]; simpa [toList_madeCells_one, Value.cells] using hown0
  have hb1 : Below w.heap.size w w1 := (Below.refl _ _).grown hgrow (Nat.le_refl _) (by simp)
  clear hown0 hgrow
  go_wp2
  go_loopw [10] (fun i wr => ∃ j : Nat, j ≤ k ∧ i = .int .i64 j ∧ wr.ownsRow w.heap.size 5 1 (.slice (some ⟨w.heap.size, 0, none⟩) k k) k (highRow n k j) ∧ Below w.heap.size w wr) (fun i _ => k - (intOf i).toNat)
  case atStart => exact ⟨0, Nat.zero_le _, rfl, hown1, hb1⟩
  case round =>
    clear hown1 hb1
    obtain ⟨j, hj, rfl, hown, hb⟩ := hrel
    by_cases hlt : j < k
    · obtain ⟨q, hq⟩ : ∃ q, q = k - 1 - j := ⟨_, rfl⟩
      have hcell : ∃ v, wr.cell? ⟨w.heap.size, q, none⟩ = some v := by
        have := hown.cellAt q (by omega)
        rw [this]
        exact ⟨_, List.getElem?_eq_getElem (by rw [highRow_len _ _ _ hj]; omega)⟩
      obtain ⟨v0, hcell⟩ := hcell
      have hfr := hown.frozenAt q
      have R := hown.stored q (bv (byt n j))
      have hqi : ((k : Int) - 1 - j).toNat = q := by omega
      rw [hq, highRow_set _ _ _ hlt, ← hq] at R
      have R2 := hb.setCell (p := ⟨w.heap.size, q, none⟩) (Nat.le_refl _) (bv (byt n j))
      have R1 := R.1
      rw [bv_byt] at R1 R2
      clear R hown hq
      go_wp2
      go_roundw
      case rel => exact ⟨j + 1, by omega, by go_num, R1, R2⟩
      case measure => simp [intOf]; omega
    · have ej : j = k := by omega
      subst ej
      rw [highRow_all] at hown
      have hc := conv_own (P := Tryz.prog) 22 9 Tryz.underlying22 Tryz.underlying5 Tryz.underlying9 hown
      go_wp2
      go_ret
      exact ⟨rfl, hb⟩
theorem drop_rev (s : ByteArray) (p : Nat) (h : p < s.size) : (s.data.toList.drop (p + 1)).reverse ++ [s[p]] = (s.data.toList.drop p).reverse := by
  have h' : p < s.data.toList.length := by simpa using h
  rw [List.drop_eq_getElem_cons h']
  simp
  rfl
set_option maxHeartbeats 400000 in
theorem l1Back_any (s : ByteArray) (w : World) (hs : s.size ≤ 1048576) : Calls Tryz.prog 54 #[.string s] w fun e w' => e = .returned (.string ⟨s.data.toList.reverse.toArray⟩) ∧ Below w.heap.size w w' := by
  obtain ⟨i0, hi, hz0, hz1, hz2⟩ := info_parts Tryz.infoU8
  go_enter Tryz.func54, Tryz.ntmps54
  go_wp2
  go_loopw [3, 4] (fun v i wr => ∃ m : Nat, m ≤ s.size ∧ i = .int .i64 ((m : Int) - 1) ∧ wr.ownsRow w.heap.size 5 1 v (s.size - m) ((s.data.toList.drop m).reverse.map bv) ∧ Below w.heap.size w wr) (fun _ i _ => (intOf i + 1).toNat)
  case atStart => exact ⟨s.size, Nat.le_refl _, rfl, by rw [List.drop_eq_nil_of_le (by rw [Array.length_toList]; exact Nat.le_refl _), Nat.sub_self]; exact World.ownsRow_lit (base := w.heap.size) (e := 5) (size := 1) w #[] 0 (Nat.le_refl _) (by decide) rfl, (Below.refl _ _).alloc (Nat.le_refl _) _⟩
  case round =>
    obtain ⟨m, hm, rfl, hown, hb⟩ := hrel
    match m with
    | 0 =>
      have hc := conv_own (P := Tryz.prog) 22 9 Tryz.underlying22 Tryz.underlying5 Tryz.underlying9 hown
      simp only [List.drop_zero] at hc
      go_wp2
      go_ret
      exact ⟨rfl, hb⟩
    | p + 1 =>
      rw [show (((p + 1 : Nat) : Int) - 1) = (p : Int) from by omega]
      have hp : p < s.size := by omega
      have hle : s.size - (p + 1) + 1 = s.size - p := by omega
      go_wp2_with (at_builtin; refine wpList_append_own _ rfl _ _ 22 rfl w.heap.size 5 i0 (.int .u8 0) 1 1 Tryz.underlying22 hi hz0 hz1 hz2 rfl (by decide) _ _ _ rfl (hown.alloc _) ⟨wr.heap.size, 0, none⟩ 1 1 [bv s[p]] rfl rfl ?c1 ?c2 ?c3 ?c4 ?c5 ?_)
      case c1 =>
        intro i u hi
        match i, hi with
        | 0, hi => simp at hi; subst hi; simp [Addr.add, bv]
      case c2 => intro u hu; simp at hu; subst hu; rfl
      case c3 => unfold maxLen; omega
      case c4 => omega
      case c5 => have := hb.size; simp; omega
      intro v' w1 hown' hgrow _
      have R1 := push_below hb hown (Nat.le_refl _) hgrow
      have R2 : w1.ownsRow w.heap.size 5 1 v' (s.size - p) ((s.data.toList.drop p).reverse.map bv) := by
        rw [← drop_rev s p hp]; first | simpa using hown' | (rw [hle] at hown'; simpa using hown')
      clear hown' hgrow hown
      go_wp2
      go_roundw
      case rel => exact ⟨p, by omega, by go_num, R2, R1⟩
      case measure => simp [intOf] <;> omega
theorem l1In_any (n a b : Int) (w : World) : Calls Tryz.prog 73 #[.int .i64 n, .int .i64 a, .int .i64 b] w fun e w' => e = .returned (.bool (decide (a ≤ n ∧ n ≤ b))) ∧ w' = w := by
  by_cases h1 : a ≤ n <;> by_cases h2 : n ≤ b
  all_goals
    go_enter Tryz.func73, Tryz.ntmps73
    go_wp2
    go_ret
    exact ⟨by simp [h1, h2], rfl⟩
theorem div_beq (n m : Nat) : ((n : Int) / 2 ^ m == 0) = decide (n < 2 ^ m) := by
  have hp : 0 < 2 ^ m := Nat.two_pow_pos m
  have e : ((n : Int) / 2 ^ m) = ((n / 2 ^ m : Nat) : Int) := by simp
  rw [e, Bool.eq_iff_iff]
  simp only [beq_iff_eq, decide_eq_true_eq]
  rw [show (0 : Int) = ((0 : Nat) : Int) from rfl, Int.ofNat_inj, Nat.div_eq_zero_iff]
  omega
theorem l1Fits_any (n k : Nat) (w : World) (hk : k ≤ 8) (hn : n < 18446744073709551616) : Calls Tryz.prog 72 #[.int .u64 n, .int .i64 k] w fun e w' => e = .returned (.bool (decide (n < 2 ^ (8 * k)))) ∧ w' = w := by
  by_cases h1 : (8 : Int) ≤ (k : Int)
  · have e : k = 8 := by omega
    subst e
    go_enter Tryz.func72, Tryz.ntmps72
    go_wp2
    go_ret
    exact ⟨by simp; omega, rfl⟩
  · go_enter Tryz.func72, Tryz.ntmps72
    go_wp2
    go_ret
    refine ⟨?_, rfl⟩
    have hd : ((n : Int) / 2 ^ (8 * k) == 0) = decide (n < 2 ^ (8 * k)) := div_beq n (8 * k)
    simp [hd]
/-- How many bits a number has. -/
def bl (n : Nat) : Nat := if n = 0 then 0 else n.log2 + 1
theorem bl_le (n m : Nat) : bl n ≤ m ↔ n < 2 ^ m := by
  unfold bl
  split
  · subst n; simp [Nat.two_pow_pos]
  · rename_i h
    rw [← Nat.log2_lt h]; omega
theorem bl_div (n c : Nat) (h : 2 ^ c ≤ n) : bl n = bl (n / 2 ^ c) + c := by
  have hp : 0 < 2 ^ c := Nat.two_pow_pos c
  have key : ∀ m, bl n ≤ m ↔ bl (n / 2 ^ c) + c ≤ m := by
    intro m
    rw [bl_le]
    by_cases hm : c ≤ m
    · have : bl (n / 2 ^ c) + c ≤ m ↔ bl (n / 2 ^ c) ≤ m - c := by omega
      rw [this, bl_le, Nat.div_lt_iff_lt_mul hp, ← Nat.pow_add, Nat.sub_add_cancel hm]
    · constructor
      · intro hlt
        have : 2 ^ m ≤ 2 ^ c := Nat.pow_le_pow_right (by decide) (by omega)
        omega
      · intro hh; omega
  have a := (key (bl n)).1 (Nat.le_refl _)
  have b := (key (bl (n / 2 ^ c) + c)).2 (Nat.le_refl _)
  omega
theorem bl_lib (n : Nat) (hn : n < 18446744073709551616) : Lib.bitLen n = bl n := by
  have h : ∀ m, ∀ n, n < 2 ^ m → m ≤ 64 → Lib.bitLen n = bl n := by
    intro m
    induction m with
    | zero => intro n h _; have : n = 0 := by omega
              subst this; decide
    | succ m ih =>
      intro n h hm
      by_cases h0 : n = 0
      · subst h0; decide
      · have h64 : n < 2 ^ 64 := Nat.lt_of_lt_of_le h (Nat.pow_le_pow_right (by decide) hm)
        rw [Lib.bitLen_half n h0 h64]
        by_cases h1 : n = 1
        · subst h1; decide
        · rw [bl_div n 1 (by omega), ih (n / 2) (by rw [Nat.pow_succ] at h; omega) (by omega)]
          simp; omega
  exact h 64 n hn (Nat.le_refl _)
theorem len8_bl (b : Int) (h0 : 0 ≤ b) (h1 : b ≤ 255) : Lib.len8 b = (bl b.toNat : Int) := by
  rw [Lib.len8_of b h0 h1, bl_lib _ (by omega)]
theorem bl_8 (n : Nat) (h : n < 256) : bl n ≤ 8 := (bl_le n 8).2 h
theorem bl_64 (n : Nat) (h : n < 18446744073709551616) : bl n ≤ 64 := (bl_le n 64).2 h
theorem len8_at (b : Int) (h0 : 0 ≤ b) (h1 : b ≤ 255) (h : b.toNat < Lib.len8tab.size) : ((Lib.len8tab[b.toNat]'h).toNat : Int) = (bl b.toNat : Int) := by
  rw [← len8_bl b h0 h1]
  simp only [Lib.len8, ByteArray.getElem?_lt' _ _ h, Option.getD_some]
theorem len_close (x b : Int) (c : Nat) (hx : 0 ≤ x) (hx1 : x ≤ 18446744073709551615) (hc : c ≤ 56) (hb : b = x / 2 ^ c) (hlo : c = 0 ∨ 2 ^ c ≤ x) (h1 : b ≤ 255) (h : b.toNat < Lib.len8tab.size) :
    wrap64 ((c : Int) + wrap64 ((Lib.len8tab[b.toNat]'h).toNat : Int)) = (bl x.toNat : Int) := by
  have hp : (0 : Int) < 2 ^ c := Int.pow_pos (by decide)
  have h0 : 0 ≤ b := by rw [hb]; exact Int.ediv_nonneg hx (Int.le_of_lt hp)
  rw [len8_at b h0 h1 h]
  clear h
  have hb8 := bl_8 b.toNat (by omega)
  have e : bl x.toNat = bl b.toNat + c := by
    obtain ⟨n, rfl⟩ := Int.eq_ofNat_of_zero_le hx
    have eb : b.toNat = n / 2 ^ c := by
      rw [hb]
      have : ((n : Int) / 2 ^ c) = ((n / 2 ^ c : Nat) : Int) := by simp
      rw [this, Int.toNat_natCast]
    rcases hlo with rfl | hlo
    · simp [eb]
    · rw [eb, Int.toNat_natCast]
      refine bl_div n c ?_
      have : ((2 ^ c : Nat) : Int) ≤ (n : Int) := by simpa using hlo
      omega
  rw [e]
  simp only [wrap64]
  omega
set_option maxRecDepth 100000 in
set_option maxHeartbeats 1000000 in
theorem Len64_int (x : Int) (w : World) (h0 : 0 ≤ x) (hx : x ≤ 18446744073709551615) : Calls Tryz.prog 76 #[.int .u64 x] w fun e w' => e = .returned (.int .i64 (bl x.toNat)) ∧ w' = w := by
  have hsz := Lib.len8tab_size
  go_enter Tryz.func76, Tryz.ntmps76
  go_wp2
  all_goals try (exfalso; clear hsz; omega)
  all_goals (go_ret; refine ⟨congrArg Ending.returned (congrArg (Value.int IntKind.i64) ?_), rfl⟩)
  · exact len_close x _ 56 h0 hx (by clear hsz; omega) (by clear hsz; omega) (.inr (by clear hsz; omega)) (by clear hsz; omega) _
  · exact len_close x _ 48 h0 hx (by clear hsz; omega) (by clear hsz; omega) (.inr (by clear hsz; omega)) (by clear hsz; omega) _
  · exact len_close x _ 40 h0 hx (by clear hsz; omega) (by clear hsz; omega) (.inr (by clear hsz; omega)) (by clear hsz; omega) _
  · exact len_close x _ 32 h0 hx (by clear hsz; omega) (by clear hsz; omega) (.inr (by clear hsz; omega)) (by clear hsz; omega) _
  · exact len_close x _ 24 h0 hx (by clear hsz; omega) (by clear hsz; omega) (.inr (by clear hsz; omega)) (by clear hsz; omega) _
  · exact len_close x _ 16 h0 hx (by clear hsz; omega) (by clear hsz; omega) (.inr (by clear hsz; omega)) (by clear hsz; omega) _
  · exact len_close x _ 8 h0 hx (by clear hsz; omega) (by clear hsz; omega) (.inr (by clear hsz; omega)) (by clear hsz; omega) _
  · have := len_close x x 0 h0 hx (by clear hsz; omega) (by clear hsz; omega) (.inl rfl) (by clear hsz; omega) (by rw [Lib.len8tab_size]; clear hsz; omega)
    simpa using this
theorem Len64_any (n : Nat) (w : World) (hn : n < 18446744073709551616) : Calls Tryz.prog 76 #[.int .u64 n] w fun e w' => e = .returned (.int .i64 (bl n)) ∧ w' = w := by
  have := Len64_int n w (by omega) (by omega)
  rwa [Int.toNat_natCast] at this
end Go.Proofs.YtdncnjmlicdamaaGreatDoor
