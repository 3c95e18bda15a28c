/- What is chosen, as the formats with whole numbers write it: contract. -/
import Derived.Test.YtepffjfgomhepaaGreatDoorS7c
import Derived.Deep.RegionHeld3
namespace Go.Proofs.YtepffjfgomhepaaGreatDoor
open Go.RowKit Go.Sort
set_option linter.unusedVariables false
set_option maxRecDepth 100000 in
set_option maxHeartbeats 4000000 in
theorem wrChoice_sc (u m : Nat) (k n : Int) (y : Value) (E : List UInt8) (w : World) (c0 : w.cell? ⟨u, 0, none⟩ = some (.int .i64 k)) (c1 : w.cell? ⟨u, 1, none⟩ = some (.int .i64 n)) (hu : u < w.heap.size) (hok : tyOk k n = true) (hm : m < 18446744073709551616)
    (hE : E.length ≤ 1000000000000) (hy : (y = .nilIface ∧ E = []) ∨ ((∃ T z, y = .iface T z) ∧ ∀ w', Below w.heap.size w w' → Calls Tryz.prog 125 #[.agg #[.func (.func 35) #[] #[], .func (.func 36) #[] #[]], y] w' fun e w'' => e = .returned (.string ⟨E.toArray⟩) ∧ Below w'.heap.size w' w'')) :
    Calls Tryz.prog 130 #[.agg #[], .iface 48 (.agg #[.func (.func 35) #[] #[], .func (.func 36) #[] #[]]), .agg #[.pointer (some ⟨u, 0, none⟩), .int .u64 m, y]] w fun e w' => e = .returned (.string ⟨(leL m (wid k n) ++ E).toArray⟩) ∧ Below w.heap.size w w' := by
  have HC : Hid (∀ w, Calls Tryz.prog 127 #[.agg #[], .agg #[.int .i64 k, .int .i64 n], .int .u64 m] w fun e w' => e = .returned (.string ⟨(leL m (wid k n)).toArray⟩) ∧ Below w.heap.size w w') := fun w => writeNumber_any k n m w hok hm
  have HPB : Hid (∀ w', Below w.heap.size w w' → Calls Tryz.prog 68 #[.iface 157 (.agg #[.pointer (some ⟨u, 0, none⟩), .int .u64 m, y])] w' fun e w'' => (∃ ad n, e = .returned (.slice ad n n) ∧ ∀ w3, Below w''.heap.size w'' w3 → Calls Tryz.prog 129 #[.iface 48 (.agg #[.func (.func 35) #[] #[], .func (.func 36) #[] #[]]), .slice ad n n] w3 fun e w4 => e = .returned (.string ⟨E.toArray⟩) ∧ Below w3.heap.size w3 w4) ∧ Below w'.heap.size w' w'') := chParts_sc u m y E w hE hy
  have hwl := wid_le hok
  have HR : Hid ((⟨(leL m (wid k n)).toArray⟩ : ByteArray) ++ ⟨E.toArray⟩ = ⟨(leL m (wid k n) ++ E).toArray⟩) := cat_list _ _
  have hsz : ByteArray.size ⟨(leL m (wid k n)).toArray⟩ ≤ 8 := by show (leL m (wid k n)).toArray.size ≤ 8; rw [List.size_toArray, leL_len]; exact hwl
  have hsz2 : ByteArray.size ⟨E.toArray⟩ ≤ 1000000000000 := by show E.toArray.size ≤ _; rw [List.size_toArray]; exact hE
  obtain ⟨D, hD⟩ : ∃ D : ByteArray, (⟨(leL m (wid k n)).toArray⟩ : ByteArray) = D := ⟨_, rfl⟩
  obtain ⟨X, hX⟩ : ∃ X : ByteArray, (⟨E.toArray⟩ : ByteArray) = X := ⟨_, rfl⟩
  rw [hD] at hsz HC
  rw [hX] at hsz2 HPB
  rw [hD, hX] at HR
  have hD2 : ¬ (9223372036854775807 < D.size + X.size) := by omega
  have r0 := cell_2 c0 hu (.cells #[] 44) (.cells #[.pointer (some ⟨u, 0, none⟩), .int .u64 (m : Int), y] 157)
  have r1 := cell_2 c1 hu (.cells #[] 44) (.cells #[.pointer (some ⟨u, 0, none⟩), .int .u64 (m : Int), y] 157)
  have HK : Hid (∀ w3, Below ((w.alloc (.cells #[] 44)).alloc (.cells #[.pointer (some ⟨u, 0, none⟩), .int .u64 (m : Int), y] 157)).heap.size ((w.alloc (.cells #[] 44)).alloc (.cells #[.pointer (some ⟨u, 0, none⟩), .int .u64 (m : Int), y] 157)).drew w3 → Below w.heap.size w w3 ∧ (w3.cell? ⟨u, 0, none⟩ = some (.int .i64 k) ∧ w3.cell? ⟨u, 1, none⟩ = some (.int .i64 n) ∧ w3.cell? ⟨w.heap.size + 1, 0, none⟩ = some (.pointer (some ⟨u, 0, none⟩)) ∧ w3.cell? ⟨w.heap.size + 1, 1, none⟩ = some (.int .u64 m) ∧ w3.cell? ⟨w.heap.size + 1, 2, none⟩ = some y)) := fun w3 hb => by
    refine ⟨(bel2 _ _ _).drew.trans (hb.mono (by simp; omega)), ?_, ?_, ?_, ?_, ?_⟩
    · rw [hb.cell (p := ⟨u, 0, none⟩) (by simp; omega)]; exact r0
    · rw [hb.cell (p := ⟨u, 1, none⟩) (by simp; omega)]; exact r1
    · rw [hb.cell (p := ⟨w.heap.size + 1, 0, none⟩) (by simp)]; simp [go_sem]
    · rw [hb.cell (p := ⟨w.heap.size + 1, 1, none⟩) (by simp)]; simp [go_sem]
    · rw [hb.cell (p := ⟨w.heap.size + 1, 2, none⟩) (by simp)]; simp [go_sem]
  have HS0 : Hid (((w.alloc (.cells #[] 44)).alloc (.cells #[.pointer (some ⟨u, 0, none⟩), .int .u64 (m : Int), y] 157)).drew.cell? ⟨u, 0, none⟩ = some (.int .i64 k) ∧ ((w.alloc (.cells #[] 44)).alloc (.cells #[.pointer (some ⟨u, 0, none⟩), .int .u64 (m : Int), y] 157)).drew.cell? ⟨u, 1, none⟩ = some (.int .i64 n) ∧ ((w.alloc (.cells #[] 44)).alloc (.cells #[.pointer (some ⟨u, 0, none⟩), .int .u64 (m : Int), y] 157)).drew.cell? ⟨w.heap.size + 1, 0, none⟩ = some (.pointer (some ⟨u, 0, none⟩)) ∧ ((w.alloc (.cells #[] 44)).alloc (.cells #[.pointer (some ⟨u, 0, none⟩), .int .u64 (m : Int), y] 157)).drew.cell? ⟨w.heap.size + 1, 1, none⟩ = some (.int .u64 m) ∧ ((w.alloc (.cells #[] 44)).alloc (.cells #[.pointer (some ⟨u, 0, none⟩), .int .u64 (m : Int), y] 157)).drew.cell? ⟨w.heap.size + 1, 2, none⟩ = some y) := (HK.out _ (Below.refl _ _)).2
  have hyy : y = .nilIface ∨ ∃ T z, y = .iface T z := hy.imp (·.1) (·.1)
  clear hok hy hE hD hX hsz hsz2 hwl r0 r1 c0 c1
  rcases hyy with rfl | ⟨T, z, rfl⟩
  · go_enter Tryz.func130, Tryz.ntmps130
    go_wp2_with fail
    go_region_held3 (fun W => W.cell? ⟨u, 0, none⟩ = some (.int .i64 k) ∧ W.cell? ⟨u, 1, none⟩ = some (.int .i64 n) ∧ W.cell? ⟨w.heap.size + 1, 0, none⟩ = some (.pointer (some ⟨u, 0, none⟩)) ∧ W.cell? ⟨w.heap.size + 1, 1, none⟩ = some (.int .u64 m) ∧ W.cell? ⟨w.heap.size + 1, 2, none⟩ = some (.nilIface)) (first | exact HS0.out | exact HS5.out | exact HS4.out | exact HS3.out) (first
      | (go_at_call 127; refine (HC.out _).mono ?_; rintro e w3 ⟨rfl, hb3⟩; have HS3 : Hid _ := (HK.out w3 hb3).2; have HB3 : Hid (Below w.heap.size w w3) := (HK.out w3 hb3).1; have HG3 : Hid (Below ((w.alloc (.cells #[] 44)).alloc (.cells #[.pointer (some ⟨u, 0, none⟩), .int .u64 (m : Int), .nilIface] 157)).heap.size ((w.alloc (.cells #[] 44)).alloc (.cells #[.pointer (some ⟨u, 0, none⟩), .int .u64 (m : Int), .nilIface] 157)).drew w3) := hb3; clear hb3)
      | (go_at_call 68; refine (HPB.out _ HB3.out).mono ?_; rintro e w4 ⟨⟨ad, n4, rfl, hwa⟩, hb4⟩; have HWA : Hid (∀ w3, Below w4.heap.size w4 w3 → Calls Tryz.prog 129 #[.iface 48 (.agg #[.func (.func 35) #[] #[], .func (.func 36) #[] #[]]), .slice ad n4 n4] w3 fun e w4 => e = .returned (.string X) ∧ Below w3.heap.size w3 w4) := hwa; have HG4 : Hid (Below ((w.alloc (.cells #[] 44)).alloc (.cells #[.pointer (some ⟨u, 0, none⟩), .int .u64 (m : Int), .nilIface] 157)).heap.size ((w.alloc (.cells #[] 44)).alloc (.cells #[.pointer (some ⟨u, 0, none⟩), .int .u64 (m : Int), .nilIface] 157)).drew w4) := HG3.out.trans (hb4.mono HG3.out.size); have HB4 : Hid (Below w.heap.size w w4) := HB3.out.trans (hb4.mono HB3.out.size); have HS4 : Hid _ := (HK.out w4 HG4.out).2; clear hwa hb4)
      | (go_at_call 129; refine (HWA.out _ (Below.refl _ _)).mono ?_; rintro e w5 ⟨rfl, hb5⟩; have HB5 : Hid (Below w.heap.size w w5) := HB4.out.trans (hb5.mono HB4.out.size); have HS5 : Hid _ := (HK.out w5 (HG4.out.trans (hb5.mono HG4.out.size))).2; clear hb5))
    all_goals
      go_wp2_with fail
      go_ret
      exact ⟨by rw [← HR.out]; rfl, HB5.out⟩
  · go_enter Tryz.func130, Tryz.ntmps130
    go_wp2_with fail
    go_region_held3 (fun W => W.cell? ⟨u, 0, none⟩ = some (.int .i64 k) ∧ W.cell? ⟨u, 1, none⟩ = some (.int .i64 n) ∧ W.cell? ⟨w.heap.size + 1, 0, none⟩ = some (.pointer (some ⟨u, 0, none⟩)) ∧ W.cell? ⟨w.heap.size + 1, 1, none⟩ = some (.int .u64 m) ∧ W.cell? ⟨w.heap.size + 1, 2, none⟩ = some (.iface T z)) (first | exact HS0.out | exact HS5.out | exact HS4.out | exact HS3.out) (first
      | (go_at_call 127; refine (HC.out _).mono ?_; rintro e w3 ⟨rfl, hb3⟩; have HS3 : Hid _ := (HK.out w3 hb3).2; have HB3 : Hid (Below w.heap.size w w3) := (HK.out w3 hb3).1; have HG3 : Hid (Below ((w.alloc (.cells #[] 44)).alloc (.cells #[.pointer (some ⟨u, 0, none⟩), .int .u64 (m : Int), .iface T z] 157)).heap.size ((w.alloc (.cells #[] 44)).alloc (.cells #[.pointer (some ⟨u, 0, none⟩), .int .u64 (m : Int), .iface T z] 157)).drew w3) := hb3; clear hb3)
      | (go_at_call 68; refine (HPB.out _ HB3.out).mono ?_; rintro e w4 ⟨⟨ad, n4, rfl, hwa⟩, hb4⟩; have HWA : Hid (∀ w3, Below w4.heap.size w4 w3 → Calls Tryz.prog 129 #[.iface 48 (.agg #[.func (.func 35) #[] #[], .func (.func 36) #[] #[]]), .slice ad n4 n4] w3 fun e w4 => e = .returned (.string X) ∧ Below w3.heap.size w3 w4) := hwa; have HG4 : Hid (Below ((w.alloc (.cells #[] 44)).alloc (.cells #[.pointer (some ⟨u, 0, none⟩), .int .u64 (m : Int), .iface T z] 157)).heap.size ((w.alloc (.cells #[] 44)).alloc (.cells #[.pointer (some ⟨u, 0, none⟩), .int .u64 (m : Int), .iface T z] 157)).drew w4) := HG3.out.trans (hb4.mono HG3.out.size); have HB4 : Hid (Below w.heap.size w w4) := HB3.out.trans (hb4.mono HB3.out.size); have HS4 : Hid _ := (HK.out w4 HG4.out).2; clear hwa hb4)
      | (go_at_call 129; refine (HWA.out _ (Below.refl _ _)).mono ?_; rintro e w5 ⟨rfl, hb5⟩; have HB5 : Hid (Below w.heap.size w w5) := HB4.out.trans (hb5.mono HB4.out.size); have HS5 : Hid _ := (HK.out w5 (HG4.out.trans (hb5.mono HG4.out.size))).2; clear hb5))
    all_goals
      go_wp2_with fail
      go_ret
      exact ⟨by rw [← HR.out]; rfl, HB5.out⟩
end Go.Proofs.YtepffjfgomhepaaGreatDoor
