/- The draws: contracts. -/
import Derived.Test.YtdncnjmlicdamaaGreatDoorBase
import Derived.Lib.BitFns
import Derived.Deep.QuietTactic
import Derived.BigQuiet
import Derived.OpenShut
namespace Go.Proofs.YtdncnjmlicdamaaGreatDoor
open Go.RowKit
set_option linter.unusedVariables false
/-- A slice of integers that came in: nil, or a row of cells. -/
def IsRow (k : IntKind) (w : World) (a : Option Addr) (len cap : Nat) (zs : List Int) : Prop :=
  (a = none ∧ len = 0 ∧ cap = 0 ∧ zs = []) ∨
  ∃ x, a = some x ∧ len ≤ cap ∧ cap ≤ maxLen ∧ zs.length = cap ∧ (∀ i, i < zs.length → w.cell? (x.add i) = some (.int k (zs.getD i 0))) ∧ ∀ n ∈ zs, (Lit.int k n).wf = true
/-- The bytes of a code lie in blocks below B0. -/
def CodeAt (B0 : Nat) (a : Option Addr) (len : Nat) (w : World) : Prop := len = 0 ∨ ∃ bx ox : Nat, a = some ⟨bx, ox, none⟩ ∧ bx < B0 ∧ ∀ j, j < len → ∃ z : Nat, z ≤ 255 ∧ w.cell? ⟨bx, ox + j, none⟩ = some (.int .u8 z)
/-- A reader at block B: its bytes, and how many were read. -/
structure RdAt (B0 B : Nat) (a : Option Addr) (len cap : Nat) (w : World) : Prop where
  lo : B0 ≤ B
  blk : ∃ p : Nat, p ≤ len ∧ w.heap[B]? = some (.cells #[.slice a len cap, .int .i64 p] 83 (0, 0))
  row : CodeAt B0 a len w
  len20 : len ≤ 1048576
theorem IsRow.code {w : World} {a : Option Addr} {len cap : Nat} {zs : List Int} (h : IsRow .u8 w a len cap zs) : CodeAt w.heap.size a len w := by
  rcases h with ⟨_, h0, _, _⟩ | ⟨x, rfl, hl, hm, hz, hcell, hwz⟩
  · exact .inl h0
  · by_cases h0 : len = 0
    · exact .inl h0
    · obtain ⟨b, off, spot⟩ := x
      have hc := hcell 0 (by omega)
      have hspot : spot = none := by simpa [Addr.add] using World.cell?_spot hc
      subst hspot
      refine .inr ⟨b, off, rfl, ?_, fun j hj => ?_⟩
      · rcases Nat.lt_or_ge b w.heap.size with h1 | h1
        · exact h1
        · have hn : w.cell? ⟨b, off, none⟩ = none := by unfold World.cell?; rw [Array.getElem?_eq_none h1]
          have hc' : w.cell? ⟨b, off, none⟩ = some (.int .u8 (zs.getD 0 0)) := by simpa [Addr.add] using hc
          rw [hn] at hc'; cases hc'
      · have hcj := hcell j (by omega)
        have hmem : zs.getD j 0 ∈ zs := by
          rw [List.getD_eq_getElem?_getD, List.getElem?_eq_getElem (by omega)]
          exact List.getElem_mem _
        obtain ⟨b0, b1⟩ := bounds_u8 (hwz _ hmem)
        refine ⟨(zs.getD j 0).toNat, by omega, ?_⟩
        rw [show ((⟨b, off, none⟩ : Addr).add j) = ⟨b, off + j, none⟩ from by unfold Addr.add; split <;> simp_all] at hcj
        rw [hcj, Int.toNat_of_nonneg b0]
theorem CodeAt.below {B0 : Nat} {a : Option Addr} {len : Nat} {w w' : World} (h : CodeAt B0 a len w) (hb : Below B0 w w') : CodeAt B0 a len w' := by
  rcases h with h | ⟨bx, ox, ha, hlt, hc⟩
  · exact .inl h
  · exact .inr ⟨bx, ox, ha, hlt, fun j hj => by obtain ⟨z, hz, h1⟩ := hc j hj; exact ⟨z, hz, by rw [hb.cell (p := ⟨bx, ox + j, none⟩) hlt]; exact h1⟩⟩
theorem below_drewN (B : Nat) (w : World) (n : Nat) : Below B w (w.drewN n) := ⟨rfl, rfl, rfl, Nat.le_refl _, fun _ _ => rfl⟩
theorem RdAt.mk' {B0 B : Nat} {a : Option Addr} {len cap : Nat} {w w' : World} (h : RdAt B0 B a len cap w) (hb : Below B0 w w') (p : Nat) (hp : p ≤ len) (hblk : w'.heap[B]? = some (.cells #[.slice a len cap, .int .i64 p] 83 (0, 0))) : RdAt B0 B a len cap w' :=
  ⟨h.lo, ⟨p, hp, hblk⟩, h.row.below hb, h.len20⟩
/-- Behind whatever leaves the blocks up to B as they are. -/
theorem RdAt.keep {B0 B : Nat} {a : Option Addr} {len cap : Nat} {w w' : World} (h : RdAt B0 B a len cap w) (hb : Below (B + 1) w w') : RdAt B0 B a len cap w' := by
  obtain ⟨p, hp, hblk⟩ := h.blk
  exact h.mk' (hb.mono (by have := h.lo; omega)) p hp (by rw [hb.block B (by omega)]; exact hblk)
theorem RdAt.size {B0 B : Nat} {a : Option Addr} {len cap : Nat} {w : World} (h : RdAt B0 B a len cap w) : B < w.heap.size := by
  obtain ⟨p, hp, hblk⟩ := h.blk
  rcases Nat.lt_or_ge B w.heap.size with h1 | h1
  · exact h1
  · rw [Array.getElem?_eq_none h1] at hblk; cases hblk
/-! What a draw may turn: its reader's block, and new ones. -/
theorem gb_refl (w : World) (B : Option Nat) : w.grownBy w B := ⟨rfl, rfl, rfl, Nat.le_refl _, fun _ _ _ => rfl⟩
theorem gb_trans {a b c : World} {B : Option Nat} (h : a.grownBy b B) (k : b.grownBy c B) : a.grownBy c B :=
  ⟨k.os.trans h.os, k.tape.trans h.tape, k.output.trans h.output, Nat.le_trans h.size k.size, fun i hi hne => (k.block i (Nat.lt_of_lt_of_le hi h.size) hne).trans (h.block i hi hne)⟩
theorem gb_drewN (w : World) (B : Option Nat) (n : Nat) : w.grownBy (w.drewN n) B := ⟨rfl, rfl, rfl, Nat.le_refl _, fun _ _ _ => rfl⟩
theorem gb_drew (w : World) (B : Option Nat) : w.grownBy w.drew B := ⟨rfl, rfl, rfl, Nat.le_refl _, fun _ _ _ => rfl⟩
theorem gb_alloc (w : World) (B : Option Nat) (o : Obj) : w.grownBy (w.alloc o) B := ⟨rfl, rfl, rfl, by simp, fun k hk _ => Below.heap_alloc _ _ _ hk⟩
theorem gb_setCell (w : World) (B o : Nat) (v : Value) : w.grownBy (w.setCell ⟨B, o, none⟩ v) (some B) := ⟨rfl, rfl, rfl, by simp, fun k hk hne => Below.heap_setCell _ _ _ _ (fun e => hne (by rw [e]))⟩
theorem gb_full {w w' : World} (h : Below w.heap.size w w') (B : Option Nat) : w.grownBy w' B := ⟨h.os, h.tape, h.output, h.size, fun k hk _ => h.block k hk⟩
theorem gb_below {w w' : World} {B B0 : Nat} (h : w.grownBy w' (some B)) (h0 : B0 ≤ B) (hB : B < w.heap.size) : Below B0 w w' := ⟨h.os, h.tape, h.output, h.size, fun k hk => h.block k (by omega) (fun e => by cases e; omega)⟩
theorem gb_cell {w w' : World} {B : Nat} (h : w.grownBy w' (some B)) {p : Addr} (hp : p.block < w.heap.size) (hne : p.block ≠ B) : w'.cell? p = w.cell? p := World.cell?_of_block (w := w) (h.block p.block hp (fun e => hne (by cases e; rfl)))
theorem set_other (w : World) (n : Nat) (a b : Addr) (v u : Value) (hab : a ≠ b) (h : w.cell? b = some u) : ((w.drewN n).setCell a v).cell? b = some u := by
  rw [World.cell?_setCell_other (w.drewN n) a b v hab]; exact h
theorem set_same (w : World) (n : Nat) (a : Addr) (v u : Value) (h : w.cell? a = some u) : ((w.drewN n).setCell a v).cell? a = some v :=
  World.cell?_setCell_same (w.drewN n) a v (u := u) h
/-- A reader is kept by what makes new blocks alone. -/
theorem RdAt.full {B0 B : Nat} {a : Option Addr} {len cap : Nat} {w w' : World} (h : RdAt B0 B a len cap w) (hb : Below w.heap.size w w') : RdAt B0 B a len cap w' := h.keep (hb.mono h.size)
set_option maxHeartbeats 400000 in
theorem next_any (B0 B : Nat) (a : Option Addr) (len cap : Nat) (w : World) (h : RdAt B0 B a len cap w) : Calls Tryz.prog 61 #[.pointer (some ⟨B, 0, none⟩)] w fun e w' => (∃ v : Nat, v ≤ 255 ∧ e = .returned (.int .i64 v)) ∧ RdAt B0 B a len cap w' ∧ w.grownBy w' (some B) := by
  obtain ⟨p, hp, hblk⟩ := h.blk
  have h20 := h.len20
  have c0 : w.cell? ⟨B, 0, none⟩ = some (.slice a len cap) := by unfold World.cell?; rw [hblk]; rfl
  have c1 : w.cell? ⟨B, 1, none⟩ = some (.int .i64 p) := by unfold World.cell?; rw [hblk]; rfl
  by_cases hlt : p < len
  · have hf1 : w.frozen? ⟨B, 1, none⟩ = false := by unfold World.frozen?; rw [hblk]; rfl
    rcases h.row with h0 | ⟨bx, ox, hax, hxb, hc⟩
    · omega
    · obtain ⟨z, hz, hcz⟩ := hc p hlt
      subst hax
      have hne : bx ≠ B := by have := h.lo; omega
      have d0 : ∀ nq, ((w.drewN nq).setCell ⟨B, 1, none⟩ (.int .i64 (↑p + 1))).cell? ⟨B, 0, none⟩ = some (.slice (some ⟨bx, ox, none⟩) len cap) := fun nq => set_other w nq _ _ _ _ (by simp) c0
      have d1 : ∀ nq, ((w.drewN nq).setCell ⟨B, 1, none⟩ (.int .i64 (↑p + 1))).cell? ⟨B, 1, none⟩ = some (.int .i64 (↑p + 1)) := fun nq => set_same w nq _ _ _ c1
      have d2 : ∀ nq, ((w.drewN nq).setCell ⟨B, 1, none⟩ (.int .i64 (↑p + 1))).cell? ⟨bx, ox + p, none⟩ = some (.int .u8 z) := fun nq => set_other w nq _ _ _ _ (by intro h; injection h with h1 _ _; omega) hcz
      have hpi : (p : Int) < (len : Int) := by omega
      have H : Hid _ := h
      clear hc h
      go_enter Tryz.func61, Tryz.ntmps61
      go_wp2
      go_quiet (fail)
      go_wp2
      go_quiet (fail)
      go_wp2
      go_ret
      have hB := H.out.lo
      refine ⟨⟨z, hz, rfl⟩, ?_, ?_⟩
      · refine RdAt.keep (RdAt.mk' (w' := (w.drewN _).setCell ⟨B, 1, none⟩ (.int .i64 (↑p + 1))) H.out ((below_drewN _ _ _).setCell (p := ⟨B, 1, none⟩) hB _) (p + 1) (by omega) ?_) (below_drewN _ _ _)
        rw [heap_setCell_same (w.drewN _) B 1 _ _ _ hblk]
        rfl
      · exact gb_trans (gb_trans (gb_drewN w _ _) (gb_setCell _ B 1 _)) (gb_drewN _ _ _)
  · go_enter Tryz.func61, Tryz.ntmps61
    go_wp2
    go_quiet (fail)
    go_wp2
    go_ret
    exact ⟨⟨0, by omega, rfl⟩, h.keep (below_drewN _ _ _), gb_drewN _ _ _⟩
theorem mod_nat (x n : Int) (hn : 0 < n) : ∃ m : Nat, (m : Int) < n ∧ x % n = (m : Int) := by
  have h1 := Int.emod_nonneg x (show n ≠ 0 by omega)
  have h2 := Int.emod_lt_of_pos x hn
  exact ⟨(x % n).toNat, by omega, by omega⟩
theorem or_nat (A b : Nat) (hA : A < 18446744073709551616) (hb : b < 18446744073709551616) : ∃ v : Nat, v < 18446744073709551616 ∧ bits .or .u64 (A : Int) (b : Int) = (v : Int) :=
  ⟨A ||| b, Nat.or_lt_two_pow (n := 64) hA hb, u64_or_nat A b hA hb⟩
theorem or_wrap (A : Int) (b : Nat) (hb : b ≤ 255) : ∃ v : Nat, v < 18446744073709551616 ∧ bits .or .u64 (IntKind.u64.wrap A) (b : Int) = (v : Int) := by
  obtain ⟨m, hm, e⟩ := mod_nat A 18446744073709551616 (by decide)
  rw [IntKind.wrap_u64, e]
  exact or_nat m b (by omega) (by omega)
set_option maxHeartbeats 400000 in
theorem below_any (B0 B : Nat) (a : Option Addr) (len cap : Nat) (n : Int) (w : World) (h : RdAt B0 B a len cap w) (hn : 1 ≤ n) (hn1 : n ≤ 4294967296) : Calls Tryz.prog 41 #[.pointer (some ⟨B, 0, none⟩), .int .i64 n] w fun e w' => (∃ v : Nat, (v : Int) < n ∧ e = .returned (.int .i64 v)) ∧ RdAt B0 B a len cap w' ∧ w.grownBy w' (some B) := by
  by_cases h1 : n ≤ 1
  · go_enter Tryz.func41, Tryz.ntmps41
    go_wp2
    go_ret
    exact ⟨⟨0, by omega, rfl⟩, h, gb_refl _ _⟩
  · by_cases h2 : n ≤ 256
    · go_enter Tryz.func41, Tryz.ntmps41
      go_wp2_with fail
      refine (next_any B0 B a len cap _ h).mono ?_
      rintro e w1 ⟨⟨v, hv, rfl⟩, hr, hb⟩
      have hvi : (v : Int) ≤ 255 := by omega
      go_wp2
      go_ret
      obtain ⟨m, hm, e⟩ := mod_nat v n (by omega)
      exact ⟨⟨m, hm, congrArg Ending.returned (congrArg (Value.int IntKind.i64) e)⟩, hr, hb⟩
    · go_enter Tryz.func41, Tryz.ntmps41
      go_wp2_with fail
      refine (next_any B0 B a len cap _ h).mono ?_
      rintro e w1 ⟨⟨v, hv, rfl⟩, hr, hb⟩
      have hvi : (v : Int) ≤ 255 := by omega
      go_wp2_with fail
      refine (next_any B0 B a len cap _ hr).mono ?_
      rintro e w2 ⟨⟨v2, hv2, rfl⟩, hr2, hb2⟩
      have hvi2 : (v2 : Int) ≤ 255 := by omega
      go_wp2
      go_ret
      obtain ⟨m, hm, e⟩ := mod_nat ((v : Int) * 256 + v2) n (by omega)
      exact ⟨⟨m, hm, congrArg Ending.returned (congrArg (Value.int IntKind.i64) e)⟩, hr2, gb_trans hb hb2⟩
set_option maxHeartbeats 400000 in
theorem once_any (B0 B : Nat) (a : Option Addr) (len cap : Nat) (n : Int) (w : World) (h : RdAt B0 B a len cap w) (hn : 1 ≤ n) (hn1 : n ≤ 4294967296) : Calls Tryz.prog 42 #[.pointer (some ⟨B, 0, none⟩), .int .i64 n] w fun e w' => (∃ b : Bool, e = .returned (.bool b)) ∧ RdAt B0 B a len cap w' ∧ w.grownBy w' (some B) := by
  go_enter Tryz.func42, Tryz.ntmps42
  go_wp2_with fail
  refine (below_any B0 B a len cap n _ h hn hn1).mono ?_
  rintro e w1 ⟨⟨v, hv, rfl⟩, hr, hb⟩
  go_wp2
  go_ret
  exact ⟨⟨_, rfl⟩, hr, hb⟩
set_option maxHeartbeats 400000 in
theorem word_any (B0 B : Nat) (a : Option Addr) (len cap : Nat) (w : World) (h : RdAt B0 B a len cap w) : Calls Tryz.prog 62 #[.pointer (some ⟨B, 0, none⟩)] w fun e w' => (∃ v : Nat, v < 18446744073709551616 ∧ e = .returned (.int .u64 v)) ∧ RdAt B0 B a len cap w' ∧ w.grownBy w' (some B) := by
  go_enter Tryz.func62, Tryz.ntmps62
  go_wp2
  go_loopw [3, 4] (fun x i wr => (∃ j : Nat, j ≤ 8 ∧ i = .int .i64 j) ∧ (∃ v : Nat, v < 18446744073709551616 ∧ x = .int .u64 v) ∧ RdAt B0 B a len cap wr ∧ w.grownBy wr (some B)) (fun _ i _ => 8 - (intOf i).toNat)
  case atStart => exact ⟨⟨0, by omega, rfl⟩, ⟨0, by decide, rfl⟩, h, gb_refl _ _⟩
  case round =>
    obtain ⟨⟨j, hj, rfl⟩, ⟨x, hx, rfl⟩, hr, hb⟩ := hrel
    by_cases hlt : j < 8
    · go_wp2_with fail
      refine (next_any B0 B a len cap _ hr).mono ?_
      rintro e w1 ⟨⟨v, hv, rfl⟩, hr1, hb1⟩
      have hvi : (v : Int) ≤ 255 := by omega
      clear hr
      obtain ⟨y, hy, ey⟩ := or_wrap ((x : Int) * 256) v hv
      have HY : Hid _ := ey
      clear ey
      go_wp2
      go_roundw
      case rel => exact ⟨⟨j + 1, by omega, by go_num⟩, ⟨y, hy, by rw [HY.out]⟩, hr1, gb_trans hb hb1⟩
      case measure => simp [intOf]; omega
    · go_wp2
      go_ret
      exact ⟨⟨x, hx, rfl⟩, hr, hb⟩
theorem tab_num (m : Nat) (h : m < 20) : ∃ v : Nat, v < 18446744073709551616 ∧ (#[Value.int IntKind.u64 0, Value.int IntKind.u64 1, Value.int IntKind.u64 63, Value.int IntKind.u64 64,
          Value.int IntKind.u64 127, Value.int IntKind.u64 128, Value.int IntKind.u64 252, Value.int IntKind.u64 253,
          Value.int IntKind.u64 255, Value.int IntKind.u64 256, Value.int IntKind.u64 16383,
          Value.int IntKind.u64 16384, Value.int IntKind.u64 65535, Value.int IntKind.u64 65536,
          Value.int IntKind.u64 1073741823, Value.int IntKind.u64 1073741824, Value.int IntKind.u64 4294967295,
          Value.int IntKind.u64 4294967296, Value.int IntKind.u64 18446744073709551615,
          Value.int IntKind.u64 9223372036854775808] : Array Value)[m]? = some (.int .u64 v) := by
  match m, h with
  | 0, _ => exact ⟨0, by decide, rfl⟩
  | 1, _ => exact ⟨1, by decide, rfl⟩
  | 2, _ => exact ⟨63, by decide, rfl⟩
  | 3, _ => exact ⟨64, by decide, rfl⟩
  | 4, _ => exact ⟨127, by decide, rfl⟩
  | 5, _ => exact ⟨128, by decide, rfl⟩
  | 6, _ => exact ⟨252, by decide, rfl⟩
  | 7, _ => exact ⟨253, by decide, rfl⟩
  | 8, _ => exact ⟨255, by decide, rfl⟩
  | 9, _ => exact ⟨256, by decide, rfl⟩
  | 10, _ => exact ⟨16383, by decide, rfl⟩
  | 11, _ => exact ⟨16384, by decide, rfl⟩
  | 12, _ => exact ⟨65535, by decide, rfl⟩
  | 13, _ => exact ⟨65536, by decide, rfl⟩
  | 14, _ => exact ⟨1073741823, by decide, rfl⟩
  | 15, _ => exact ⟨1073741824, by decide, rfl⟩
  | 16, _ => exact ⟨4294967295, by decide, rfl⟩
  | 17, _ => exact ⟨4294967296, by decide, rfl⟩
  | 18, _ => exact ⟨18446744073709551615, by decide, rfl⟩
  | 19, _ => exact ⟨9223372036854775808, by decide, rfl⟩
  | m + 20, h => exact absurd h (by omega)
set_option maxRecDepth 100000 in
set_option maxHeartbeats 1000000 in
theorem num_any (B0 B : Nat) (a : Option Addr) (len cap : Nat) (w : World) (h : RdAt B0 B a len cap w) : Calls Tryz.prog 43 #[.pointer (some ⟨B, 0, none⟩)] w fun e w' => (∃ v : Nat, v < 18446744073709551616 ∧ e = .returned (.int .u64 v)) ∧ RdAt B0 B a len cap w' ∧ w.grownBy w' (some B) := by
  go_enter Tryz.func43, Tryz.ntmps43
  go_wp2_with fail
  refine (word_any B0 B a len cap _ h).mono ?_
  rintro e w1 ⟨⟨n, hn, rfl⟩, hr1, hb1⟩
  go_wp2_with fail
  refine (once_any B0 B a len cap 3 _ hr1 (by decide) (by decide)).mono ?_
  rintro e w2 ⟨⟨b, rfl⟩, hr2, hb2⟩
  cases b
  · go_wp2_with fail
    refine (below_any B0 B a len cap 64 _ hr2 (by decide) (by decide)).mono ?_
    rintro e w3 ⟨⟨m, hm, rfl⟩, hr3, hb3⟩
    go_wp2
    go_ret
    exact ⟨⟨n / 2 ^ m, Nat.lt_of_le_of_lt (Nat.div_le_self _ _) hn, by simp⟩, hr3, gb_trans hb1 (gb_trans hb2 hb3)⟩
  · go_wp2_with fail
    have hsz2 := hr2.size
    have hal : Below w2.heap.size w2 (w2.alloc (Obj.cells
        #[Value.int IntKind.u64 0, Value.int IntKind.u64 1, Value.int IntKind.u64 63, Value.int IntKind.u64 64,
          Value.int IntKind.u64 127, Value.int IntKind.u64 128, Value.int IntKind.u64 252, Value.int IntKind.u64 253,
          Value.int IntKind.u64 255, Value.int IntKind.u64 256, Value.int IntKind.u64 16383,
          Value.int IntKind.u64 16384, Value.int IntKind.u64 65535, Value.int IntKind.u64 65536,
          Value.int IntKind.u64 1073741823, Value.int IntKind.u64 1073741824, Value.int IntKind.u64 4294967295,
          Value.int IntKind.u64 4294967296, Value.int IntKind.u64 18446744073709551615,
          Value.int IntKind.u64 9223372036854775808] 50)) := (Below.refl _ _).alloc (Nat.le_refl _) _
    refine (below_any B0 B a len cap 20 _ (hr2.full hal) (by decide) (by decide)).mono ?_
    rintro e w3 ⟨⟨m, hm, rfl⟩, hr3, hb3⟩
    have hcell : ∃ v : Nat, v < 18446744073709551616 ∧ w3.cell? ⟨w2.heap.size, m, none⟩ = some (.int .u64 v) := by
      rw [gb_cell hb3 (p := ⟨w2.heap.size, m, none⟩) (by simp) (by simp; omega), World.cell?_alloc_new]
      exact tab_num m (by omega)
    obtain ⟨v, hv, hcv⟩ := hcell
    have hmi : (m : Int) < 20 := by omega
    go_wp2
    go_ret
    exact ⟨⟨v, hv, rfl⟩, hr3, gb_trans hb1 (gb_trans hb2 (gb_trans (gb_full hal _) hb3))⟩
set_option maxRecDepth 100000 in
set_option maxHeartbeats 1000000 in
theorem near_any (B0 B : Nat) (a : Option Addr) (len cap : Nat) (low high : Int) (w : World) (h : RdAt B0 B a len cap w) (hl : 0 ≤ low) (hlh : low ≤ high) (hh : high ≤ 4294967296) : Calls Tryz.prog 71 #[.pointer (some ⟨B, 0, none⟩), .int .i64 low, .int .i64 high] w fun e w' => (∃ v : Int, low ≤ v ∧ v ≤ high ∧ e = .returned (.int .i64 v)) ∧ RdAt B0 B a len cap w' ∧ w.grownBy w' (some B) := by
  go_enter Tryz.func71, Tryz.ntmps71
  go_wp2_with fail
  refine (below_any B0 B a len cap 8 _ h (by decide) (by decide)).mono ?_
  rintro e w1 ⟨⟨m, hm, rfl⟩, hr1, hb1⟩
  by_cases m0 : m = 0
  · subst m0
    go_wp2
    go_ret
    exact ⟨⟨low, by omega, by omega, rfl⟩, hr1, hb1⟩
  · by_cases m1 : m = 1
    · subst m1
      go_wp2
      go_ret
      exact ⟨⟨high, by omega, by omega, rfl⟩, hr1, hb1⟩
    · have i0 : ((m : Int) == 0) = false := by rw [beq_eq_false_iff_ne]; omega
      have i1 : ((m : Int) == 1) = false := by rw [beq_eq_false_iff_ne]; omega
      go_wp2_with fail
      refine (word_any B0 B a len cap _ hr1).mono ?_
      rintro e w2 ⟨⟨x, hx, rfl⟩, hr2, hb2⟩
      obtain ⟨q, hq, eq⟩ := mod_nat ((x : Int) / 2) (high - low + 1) (by omega)
      have HQ : Hid _ := eq
      clear eq
      go_wp2
      go_ret
      refine ⟨⟨low + q, by omega, by omega, ?_⟩, hr2, gb_trans hb1 hb2⟩
      refine congrArg Ending.returned (congrArg (Value.int IntKind.i64) ?_)
      rw [HQ.out]
      simp only [wrap64]
      omega
set_option maxRecDepth 100000 in
set_option maxHeartbeats 1000000 in
theorem off_any (B0 B : Nat) (a : Option Addr) (len cap : Nat) (low high : Int) (w : World) (h : RdAt B0 B a len cap w) (hl : 0 ≤ low) (hlh : low ≤ high) (hh : high ≤ 4294967295) : Calls Tryz.prog 51 #[.pointer (some ⟨B, 0, none⟩), .int .i64 low, .int .i64 high] w fun e w' => (∃ v : Int, -9223372036854775808 ≤ v ∧ v ≤ 9223372036854775807 ∧ e = .returned (.int .i64 v)) ∧ RdAt B0 B a len cap w' ∧ w.grownBy w' (some B) := by
  go_enter Tryz.func51, Tryz.ntmps51
  go_wp2_with fail
  refine (once_any B0 B a len cap 24 _ h (by decide) (by decide)).mono ?_
  rintro e w1 ⟨⟨b, rfl⟩, hr1, hb1⟩
  cases b
  · go_wp2_with fail
    refine (near_any B0 B a len cap low high _ hr1 hl hlh (by omega)).mono ?_
    rintro e w2 ⟨⟨v, hv1, hv2, rfl⟩, hr2, hb2⟩
    go_wp2
    go_ret
    exact ⟨⟨v, by omega, by omega, rfl⟩, hr2, gb_trans hb1 hb2⟩
  · go_wp2_with fail
    have hsz1 := hr1.size
    have hal : Below w1.heap.size w1 (w1.alloc (Obj.cells #[Value.int IntKind.i64 (low - 1), Value.int IntKind.i64 (high + 1), Value.int IntKind.i64 (-9223372036854775808), Value.int IntKind.i64 9223372036854775807] 2)) := (Below.refl _ _).alloc (Nat.le_refl _) _
    refine (below_any B0 B a len cap 4 _ (hr1.full hal) (by decide) (by decide)).mono ?_
    rintro e w3 ⟨⟨m, hm, rfl⟩, hr3, hb3⟩
    have hcell : ∃ v : Int, -9223372036854775808 ≤ v ∧ v ≤ 9223372036854775807 ∧ w3.cell? ⟨w1.heap.size, m, none⟩ = some (.int .i64 v) := by
      rw [gb_cell hb3 (p := ⟨w1.heap.size, m, none⟩) (by simp) (by simp; omega), World.cell?_alloc_new]
      match m, hm with
      | 0, _ => exact ⟨low - 1, by omega, by omega, rfl⟩
      | 1, _ => exact ⟨high + 1, by omega, by omega, rfl⟩
      | 2, _ => exact ⟨-9223372036854775808, by omega, by omega, rfl⟩
      | 3, _ => exact ⟨9223372036854775807, by omega, by omega, rfl⟩
      | m + 4, h => exact absurd h (by omega)
    obtain ⟨v, hv1, hv2, hcv⟩ := hcell
    have hmi : (m : Int) < 4 := by omega
    go_wp2
    go_ret
    exact ⟨⟨v, hv1, hv2, rfl⟩, hr3, gb_trans hb1 (gb_trans (gb_full hal _) hb3)⟩
theorem gb_app {w wr w1 : World} {B : Nat} {row : Option Nat} (h : w.grownBy wr (some B)) (hg : wr.grownBy w1 row) (hrow : ∀ k, row = some k → w.heap.size ≤ k) : w.grownBy w1 (some B) :=
  ⟨hg.os.trans h.os, hg.tape.trans h.tape, hg.output.trans h.output, Nat.le_trans h.size hg.size, fun k hk hne => (hg.block k (Nat.lt_of_lt_of_le hk h.size) (fun e => by have := hrow k e.symm; omega)).trans (h.block k hk hne)⟩
theorem RdAt.app {B0 B : Nat} {a : Option Addr} {len cap : Nat} {w w' : World} {row : Option Nat} (h : RdAt B0 B a len cap w) (hg : w.grownBy w' row) (hrow : ∀ k, row = some k → B < k) : RdAt B0 B a len cap w' :=
  h.keep ⟨hg.os, hg.tape, hg.output, hg.size, fun k hk => hg.block k (by have := h.size; omega) (fun e => by have := hrow k e.symm; omega)⟩
theorem own_ne {w : World} {base e : Nat} {v : Value} {n : Nat} {xs : List Value} {B : Nat} (h : w.ownsRow base e 1 v n xs) (hB : B < base) : v.ownBlock = none ∨ v.ownBlock ≠ some B := by
  cases hv : v.ownBlock with
  | none => exact .inl rfl
  | some k => exact .inr (fun e => by cases e; have := (h.lt B hv).1; omega)
set_option maxRecDepth 100000 in
set_option maxHeartbeats 1000000 in
theorem bytes_any (B0 B : Nat) (a : Option Addr) (len cap : Nat) (most : Nat) (w : World) (h : RdAt B0 B a len cap w) (hm : most ≤ 1000) : Calls Tryz.prog 44 #[.pointer (some ⟨B, 0, none⟩), .int .i64 most] w fun e w' => (∃ l : List UInt8, l.length ≤ most ∧ e = .returned (.string ⟨l.toArray⟩)) ∧ RdAt B0 B a len cap w' ∧ w.grownBy w' (some B) := by
  obtain ⟨i0, hi, hz0, hz1, hz2⟩ := info_parts Tryz.infoU8
  have hsz := h.size
  go_enter Tryz.func44, Tryz.ntmps44
  go_wp2_with fail
  have hal : Below w.heap.size w (w.alloc (Obj.cells #[] 5)) := (Below.refl _ _).alloc (Nat.le_refl _) _
  have ho0 : (w.alloc (Obj.cells #[] 5)).ownsRow w.heap.size 5 1 (.slice (some ⟨w.heap.size, 0, none⟩) 0 0) 0 [] := World.ownsRow_lit w #[] 0 (Nat.le_refl _) (by decide) rfl
  refine (below_any B0 B a len cap _ _ (h.full hal) (by omega) (by omega)).mono ?_
  rintro e w1 ⟨⟨n, hn, rfl⟩, hr1, hb1⟩
  have ho1 := ho0.kept hb1 (.inr (by simp [Value.ownBlock]; omega))
  have hg1 := gb_trans (gb_full hal (some B)) hb1
  clear ho0 hb1 hal h
  go_wp2
  go_loopw [5, 7] (fun v i wr => ∃ l : List UInt8, l.length ≤ n ∧ i = .int .i64 l.length ∧ wr.ownsRow w.heap.size 5 1 v l.length (l.map bv) ∧ RdAt B0 B a len cap wr ∧ w.grownBy wr (some B)) (fun _ i _ => n - (intOf i).toNat)
  case atStart => exact ⟨[], Nat.zero_le _, rfl, ho1, hr1, hg1⟩
  case round =>
    obtain ⟨l, hl, rfl, hown, hr, hg⟩ := hrel
    clear ho1 hr1 hg1
    by_cases hlt : l.length < n
    · go_wp2_with fail
      refine (below_any B0 B a len cap 256 _ hr (by decide) (by decide)).mono ?_
      rintro e w2 ⟨⟨m, hm, rfl⟩, hr2, hb2⟩
      have hmi : (m : Int) ≤ 255 := by omega
      have hown2 := hown.kept hb2 (own_ne hown hsz)
      have hg2 := gb_trans hg hb2
      have hsz2 := hg2.size
      clear hown hr hb2 hg
      go_wp2_with (at_builtin; refine wpList_append_own _ rfl _ _ 22 rfl w.heap.size 5 i0 (.int .u8 0) 1 1 Tryz.underlying22 hi hz0 hz1 hz2 rfl (by decide) _ _ _ rfl (hown2.alloc _) ⟨w2.heap.size, 0, none⟩ 1 1 [bv (UInt8.ofNat m)] rfl rfl ?c1 ?c2 ?c3 ?c4 ?c5 ?_)
      case c1 =>
        intro i u hi
        match i, hi with
        | 0, hi => simp at hi; subst hi; simp [Addr.add, bv_ofNat]; omega
      case c2 => intro u hu; simp at hu; subst hu; rfl
      case c3 => unfold maxLen; omega
      case c4 => omega
      case c5 => simp; omega
      intro v' w3 hown' hgrow _
      have R0 : w2.grownBy w3 u5.ownBlock := gb_trans (gb_alloc w2 _ _) hgrow
      have R1 := gb_app hg2 R0 (fun k hk => (hown2.lt k hk).1)
      have R3 := hr2.app R0 (fun k hk => by have := (hown2.lt k hk).1; omega)
      have R2 : w3.ownsRow w.heap.size 5 1 v' (l ++ [UInt8.ofNat m]).length ((l ++ [UInt8.ofNat m]).map bv) := by simpa using hown'
      clear hown' hgrow hown2 hr2 hg2 R0
      go_wp2
      go_roundw
      case rel => exact ⟨l ++ [UInt8.ofNat m], by simp; omega, by simp, R2, R3, R1⟩
      case measure => simp [intOf]; omega
    · have hc := conv_own (P := Tryz.prog) 22 9 Tryz.underlying22 Tryz.underlying5 Tryz.underlying9 hown
      go_wp2
      go_ret
      exact ⟨⟨l, by omega, rfl⟩, hr, hg⟩
theorem l1Open_any (B0 : Nat) (a : Option Addr) (len cap : Nat) (w : World) (hB : B0 ≤ w.heap.size) (hc : CodeAt B0 a len w) (hl : len ≤ 1048576) : Calls Tryz.prog 22 #[.slice a len cap] w fun e w' => e = .returned (.pointer (some ⟨w.heap.size, 0, none⟩)) ∧ RdAt B0 w.heap.size a len cap w' ∧ Below w.heap.size w w' := by
  go_enter Tryz.func22, Tryz.ntmps22
  go_wp2
  go_ret
  have hb : Below w.heap.size w (w.alloc (.cells #[.slice a len cap, .int .i64 0] 83)) := (Below.refl _ _).alloc (Nat.le_refl _) _
  refine ⟨rfl, ⟨hB, ⟨0, Nat.zero_le _, ?_⟩, hc.below (hb.mono hB), hl⟩, hb⟩
  show (w.heap.push _)[w.heap.size]? = _
  simp
end Go.Proofs.YtdncnjmlicdamaaGreatDoor
