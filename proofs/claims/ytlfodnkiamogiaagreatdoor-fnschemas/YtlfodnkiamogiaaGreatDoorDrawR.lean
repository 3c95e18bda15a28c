/- The draw of a schema's text: contract. -/
import Derived.Test.YtlfodnkiamogiaaGreatDoorDrawV
import Derived.Test.YtlfodnkiamogiaaGreatDoorDrawEx
import Derived.Test.YtlfodnkiamogiaaGreatDoorS4c
import Derived.Test.YtlfodnkiamogiaaGreatDoorSRa
namespace Go.Proofs.YtlfodnkiamogiaaGreatDoor
open Go.RowKit
set_option linter.unusedVariables false
theorem DrawSchemaText_any (B0 : Nat) (a : Option Addr) (len cap : Nat) (w : World) (hB : B0 ≤ w.heap.size) (hc : CodeAt B0 a len w) (hl : len ≤ 1048576) : Calls Tryz.prog 5 #[.slice a len cap] w fun e w' => DrawPost w e w' := by
  have HD : Hid _ := (show Hid _ from DrawSchemaOk_any B0 a len cap w hB hc hl)
  clear hc
  go_enter Tryz.func5, Tryz.ntmps5
  go_wp2_with fail
  refine Calls.mono HD.out ?_
  rintro e w1 ⟨v, ts, rfl, h1, h2, h3, h4⟩
  have HX : Hid (DrawPost w (.returned v) w1) := ⟨v, ts, rfl, h1, h2, h3, h4⟩
  clear h1 h2 h3 h4
  go_wp2_with fail
  go_ret
  exact HX.out
def t13 : Array Value := #[.string ⟨#[]⟩, .string ⟨#[117, 56, 32]⟩, .string ⟨#[117, 55]⟩, .string ⟨#[117, 48, 56]⟩, .string ⟨#[98, 111, 111, 108, 49]⟩, .string ⟨#[108, 105, 115, 116, 48, 32, 98, 111, 111, 108]⟩, .string ⟨#[108, 105, 115, 116, 49]⟩, .string ⟨#[98, 121, 116, 101, 115]⟩, .string ⟨#[98, 121, 116, 101, 115, 50, 48, 49]⟩, .string ⟨#[111, 112, 116, 105, 111, 110, 32, 111, 112, 116, 105, 111, 110, 32, 111, 112, 116, 105, 111, 110, 32, 111, 112, 116, 105, 111, 110, 32, 111, 112, 116, 105, 111, 110, 32, 111, 112, 116, 105, 111, 110, 32, 111, 112, 116, 105, 111, 110, 32, 98, 111, 111, 108]⟩, .string ⟨#[115, 116, 114, 117, 99, 116, 55, 32, 117, 56]⟩, .string ⟨#[117, 110, 105, 111, 110, 49, 32, 117, 56, 32, 117, 56]⟩, .string ⟨#[120, 49]⟩]
theorem t13_at : ∀ m, m < 13 → ∃ x : ByteArray, t13[m]? = some (.string x) ∧ x.size ≤ 100
  | 0, _ => ⟨_, rfl, by decide⟩
  | 1, _ => ⟨_, rfl, by decide⟩
  | 2, _ => ⟨_, rfl, by decide⟩
  | 3, _ => ⟨_, rfl, by decide⟩
  | 4, _ => ⟨_, rfl, by decide⟩
  | 5, _ => ⟨_, rfl, by decide⟩
  | 6, _ => ⟨_, rfl, by decide⟩
  | 7, _ => ⟨_, rfl, by decide⟩
  | 8, _ => ⟨_, rfl, by decide⟩
  | 9, _ => ⟨_, rfl, by decide⟩
  | 10, _ => ⟨_, rfl, by decide⟩
  | 11, _ => ⟨_, rfl, by decide⟩
  | 12, _ => ⟨_, rfl, by decide⟩
  | n + 13, h => by omega
theorem tab13 (w : World) (T m : Nat) (hm : m < 13) : ∃ x : ByteArray, x.size ≤ 100 ∧ (w.alloc (.cells t13 T)).cell? ⟨w.heap.size, m, none⟩ = some (.string x) := by
  obtain ⟨x, h1, h2⟩ := t13_at m hm
  exact ⟨x, h2, by rw [cell_of_row _ w.heap.size m t13 _ _ (heap_alloc_new w _)]; exact h1⟩
set_option maxRecDepth 100000 in
set_option maxHeartbeats 2000000 in
theorem DrawReadSchema_any (B0 : Nat) (a : Option Addr) (len cap : Nat) (w : World) (hB : B0 ≤ w.heap.size) (hc : CodeAt B0 a len w) (hl : len ≤ 1048576) : Calls Tryz.prog 7 #[.slice a len cap] w fun e w' => (∃ t : ByteArray, e = .returned (.string t) ∧ t.size ≤ 1000) ∧ Below w.heap.size w w' := by
  go_enter Tryz.func7, Tryz.ntmps7
  go_wp2_with fail
  refine (l1Open_any B0 a len cap _ hB hc hl).mono ?_
  rintro e w1 ⟨rfl, hr1, hb1⟩
  have hs1 := hr1.size
  go_wp2_with fail
  refine (schema_any B0 _ a len cap _ hr1).mono ?_
  rintro e w2 ⟨⟨v, ts, rfl, hown, h0, h24, hwf, hok⟩, hr2, hg2⟩
  have HB2 : Hid (Below w.heap.size w w2) := hb1.trans (gb_below hg2 (Nat.le_refl _) hs1)
  have HV : Hid (IsTyps w2.heap.size w2 v ts) := own_typs hown (by omega) hwf
  obtain ⟨X, hX⟩ : ∃ X : ByteArray, (⟨(schText ts).toArray⟩ : ByteArray) = X := ⟨_, rfl⟩
  have hXs : X.size ≤ 400 := by
    have h1 := (sch_len hok).1
    rw [← hX]
    simpa [ByteArray.size] using h1
  have HST : Hid (Calls Tryz.prog 10 #[v] w2 fun e w' => e = .returned (.string X) ∧ Below w2.heap.size w2 w') := by rw [← hX]; exact specSchemaText_any ts v w2 HV.out
  have HR2 : Hid (RdAt B0 w.heap.size a len cap w2) := hr2
  have hs2 : w.heap.size < w2.heap.size := hr2.size
  clear hown hwf hok hX hr2 hg2 hb1 hr1
  go_wp2_with fail
  refine Calls.mono HST.out ?_
  rintro e w3 ⟨rfl, hb3⟩
  have HR3 : Hid (RdAt B0 w.heap.size a len cap w3) := HR2.out.full hb3
  have HB3 : Hid (Below w.heap.size w w3) := HB2.out.trans (hb3.mono HB2.out.size)
  clear hb3
  go_wp2_with fail
  refine (below_any B0 w.heap.size a len cap 5 _ HR3.out (by decide) (by decide)).mono ?_
  rintro e w4 ⟨⟨m, hm, rfl⟩, hr4, hg4⟩
  have HR4 : Hid (RdAt B0 w.heap.size a len cap w4) := hr4
  have HB4 : Hid (Below w.heap.size w w4) := HB3.out.trans (gb_below hg4 (Nat.le_refl _) HR3.out.size)
  clear hr4 hg4
  by_cases m0 : m = 0
  · subst m0
    go_wp2_with fail
    refine (hurt_any B0 w.heap.size a len cap X w4 HR4.out (by omega)).mono ?_
    rintro e w5 ⟨⟨t, ht, rfl⟩, hr5, hg5⟩
    have HB5 : Hid (Below w.heap.size w w5) := HB4.out.trans (gb_below hg5 (Nat.le_refl _) HR4.out.size)
    have ht' : t.size ≤ 1000 := by omega
    clear hr5 hg5
    go_wp2_with fail
    go_ret
    exact ⟨⟨t, rfl, ht'⟩, HB5.out⟩
  have q0 := beqN m0
  by_cases m1 : m = 1
  · subst m1
    go_wp2_with fail
    refine (below_any B0 w.heap.size a len cap 13 _ (HR4.out.full (bel1 _ _)) (by decide) (by decide)).mono ?_
    rintro e w5 ⟨⟨i, hi, rfl⟩, hr5, hg5⟩
    have hs4 : w.heap.size < w4.heap.size := HR4.out.size
    obtain ⟨x, hx, hcx⟩ := tab13 w4 9 i (by omega)
    have hc5 : w5.cell? ⟨w4.heap.size, i, none⟩ = some (.string x) := by
      rw [gb_cell hg5 (p := ⟨w4.heap.size, i, none⟩) (by simp) (by show w4.heap.size ≠ w.heap.size; omega)]; exact hcx
    have HB5 : Hid (Below w.heap.size w w5) := (HB4.out.alloc (by omega) (.cells t13 9)).trans (gb_below hg5 (Nat.le_refl _) (by simp; omega))
    have hx' : x.size ≤ 1000 := by omega
    clear hr5 hg5 hcx
    go_wp2_with fail
    go_ret
    exact ⟨⟨x, rfl, hx'⟩, HB5.out⟩
  have q1 := beqN m1
  go_wp2_with fail
  go_ret
  exact ⟨⟨X, rfl, by omega⟩, HB4.out⟩
end Go.Proofs.YtlfodnkiamogiaaGreatDoor
