/- Draws of bytes that are read: contracts. -/
import Derived.Test.YtdncnjmlicdamaaGreatDoorDrawX
import Derived.Deep.RegionWith
namespace Go.Proofs.YtdncnjmlicdamaaGreatDoor
open Go.RowKit
set_option linter.unusedVariables false
theorem tab4 (w : World) (c0 c1 c2 c3 : UInt8) (T : Nat) (m : Nat) (hm : m < 4) : ∃ x : ByteArray, x.size = 1 ∧ (w.alloc (Obj.cells #[Value.string ⟨#[c0]⟩, Value.string ⟨#[c1]⟩, Value.string ⟨#[c2]⟩, Value.string ⟨#[c3]⟩] T)).cell? ⟨w.heap.size, m, none⟩ = some (.string x) := by
  rw [World.cell?_alloc_new]
  match m, hm with
  | 0, _ => exact ⟨⟨#[c0]⟩, rfl, rfl⟩
  | 1, _ => exact ⟨⟨#[c1]⟩, rfl, rfl⟩
  | 2, _ => exact ⟨⟨#[c2]⟩, rfl, rfl⟩
  | 3, _ => exact ⟨⟨#[c3]⟩, rfl, rfl⟩
  | m + 4, h => exact absurd h (by omega)
theorem tab4d {w w3 : World} {B : Nat} (c0 c1 c2 c3 : UInt8) (T : Nat) (m : Nat) (hm : m < 4) (hB : B < w.heap.size) (hb : ((w.alloc (Obj.cells #[Value.string ⟨#[c0]⟩, Value.string ⟨#[c1]⟩, Value.string ⟨#[c2]⟩, Value.string ⟨#[c3]⟩] T)).drew).grownBy w3 (some B)) : ∃ x : ByteArray, x.size = 1 ∧ w3.cell? ⟨w.heap.size, m, none⟩ = some (.string x) := by
  obtain ⟨x, hx, hc⟩ := tab4 w c0 c1 c2 c3 T m hm
  refine ⟨x, hx, ?_⟩
  rw [gb_cell hb (p := ⟨w.heap.size, m, none⟩) (by show w.heap.size < (w.alloc _).heap.size; simp) (by show w.heap.size ≠ B; omega)]
  exact hc
set_option maxRecDepth 100000 in
set_option maxHeartbeats 1000000 in
theorem hurt_any (B0 B : Nat) (a : Option Addr) (len cap : Nat) (s : ByteArray) (w : World) (h : RdAt B0 B a len cap w) (hs : s.size ≤ 1000000) : Calls Tryz.prog 45 #[.pointer (some ⟨B, 0, none⟩), .string s] w fun e w' => (∃ t : ByteArray, t.size ≤ s.size + 1 ∧ e = .returned (.string t)) ∧ RdAt B0 B a len cap w' ∧ w.grownBy w' (some B) := by
  have hsi : (s.size : Int) ≤ 1000000 := by omega
  go_enter Tryz.func45, Tryz.ntmps45
  go_wp2_with fail
  refine (below_any B0 B a len cap 6 _ h (by decide) (by decide)).mono ?_
  rintro e w1 ⟨⟨m, hm, rfl⟩, hr1, hb1⟩
  by_cases m1 : m = 1
  · subst m1
    go_wp2_with fail
    refine (below_any B0 B a len cap _ _ hr1 (by omega) (by omega)).mono ?_
    rintro e w2 ⟨⟨v, hv, rfl⟩, hr2, hb2⟩
    have hvi : (v : Int) ≤ (s.size : Int) := by omega
    go_wp2
    go_ret
    exact ⟨⟨s.extract 0 v, by simp; omega, rfl⟩, hr2, gb_trans hb1 hb2⟩
  · have i1 : ((m : Int) == 1) = false := by rw [beq_eq_false_iff_ne]; omega
    by_cases m2 : m = 2
    · subst m2
      by_cases hz : 0 < s.size
      · have hzi : (0 : Int) < (s.size : Int) := by omega
        go_wp2_with fail
        refine (below_any B0 B a len cap _ _ hr1 (by omega) (by omega)).mono ?_
        rintro e w2 ⟨⟨v, hv, rfl⟩, hr2, hb2⟩
        have hvi : (v : Int) < (s.size : Int) := by omega
        have hvi2 : (v : Int) + 1 ≤ (s.size : Int) := by omega
        go_wp2_with fail
        have hsz2 := hr2.size
        obtain ⟨u, hu, hus, hum, huv⟩ : ∃ u : Nat, (v : Int) + 1 = u ∧ u ≤ s.size ∧ (u : Int) ≤ 1000000 ∧ v < u := ⟨v + 1, by omega, by omega, by omega, by omega⟩
        have hw : IntKind.i64.wrap (u : Int) = (u : Int) := by rw [IntKind.wrap_i64]; omega
        have hszf : ∀ x : ByteArray, x.size = 1 → (s.extract 0 v ++ x ++ s.extract u s.size).size ≤ s.size + 1 := by intro x hx; simp; omega
        clear hvi2
        have hal : Below w2.heap.size w2 (w2.alloc (Obj.cells #[Value.string ⟨#[0]⟩, Value.string ⟨#[55]⟩, Value.string ⟨#[255]⟩, Value.string ⟨#[32]⟩] 9)).drew := ((Below.refl _ _).alloc (Nat.le_refl _) _).drew
        have hd : Below w2.heap.size w2 w2.drew := (Below.refl _ _).drew
        have hrA := hr2.full hal
        have hrD := hr2.full hd
        have hbA := gb_trans hb1 (gb_trans hb2 (gb_full hal B))
        have hbD := gb_trans hb1 (gb_trans hb2 (gb_full hd B))
        go_region_with (go_at_call 41; refine (below_any B0 B a len cap 4 _ (by first | exact hrA | exact hrD) (by decide) (by decide)).mono ?_; rintro e w3 ⟨⟨m, hm, rfl⟩, hr3, hb3⟩; have hmi : (m : Int) < 4 := hm; (first | (refine Exists.elim (tab4d (w := w2) 0 55 255 32 9 m (by omega) (by omega) hb3) ?_; rintro x ⟨hx, hcx⟩; replace hb3 := gb_trans hbA hb3) | (refine Exists.elim (tab4 w3 0 55 255 32 9 m (by omega)) ?_; rintro x ⟨hx, hcx⟩; replace hb3 := gb_trans hbD hb3)))
        all_goals go_wp2
        all_goals go_ret
        all_goals first
          | exact ⟨⟨s.extract 0 v ++ x ++ s.extract u s.size, hszf x hx, rfl⟩, hr3, hb3⟩
          | exact ⟨⟨s.extract 0 v ++ x ++ s.extract u s.size, hszf x hx, rfl⟩, hr3.full ((Below.refl _ _).alloc (Nat.le_refl _) _), gb_trans hb3 (gb_full ((Below.refl _ _).alloc (Nat.le_refl _) _) B)⟩
      · have hzi : decide (0 < s.size) = false := decide_eq_false hz
        go_wp2
        go_ret
        exact ⟨⟨s, by omega, rfl⟩, hr1, hb1⟩
    · have i2 : ((m : Int) == 2) = false := by rw [beq_eq_false_iff_ne]; omega
      by_cases m3 : m = 3
      · subst m3
        go_wp2_with fail
        have hsz1 := hr1.size
        have hal : Below w1.heap.size w1 (w1.alloc (Obj.cells #[Value.string ⟨#[0]⟩, Value.string ⟨#[49]⟩, Value.string ⟨#[10]⟩, Value.string ⟨#[32]⟩] 9)) := (Below.refl _ _).alloc (Nat.le_refl _) _
        refine (below_any B0 B a len cap 4 _ (hr1.full hal) (by decide) (by decide)).mono ?_
        rintro e w3 ⟨⟨m, hm, rfl⟩, hr3, hb3⟩
        obtain ⟨x, hx, hcx⟩ := tab4 w1 0 49 10 32 9 m (by omega)
        rw [← gb_cell hb3 (p := ⟨w1.heap.size, m, none⟩) (by simp) (by simp; omega)] at hcx
        have hmi : (m : Int) < 4 := by omega
        go_wp2
        go_ret
        exact ⟨⟨s ++ x, by simp; omega, rfl⟩, hr3, gb_trans hb1 (gb_trans (gb_full hal _) hb3)⟩
      · have i3 : ((m : Int) == 3) = false := by rw [beq_eq_false_iff_ne]; omega
        go_wp2
        go_ret
        exact ⟨⟨s, by omega, rfl⟩, hr1, hb1⟩
end Go.Proofs.YtdncnjmlicdamaaGreatDoor
