/- Draws of frames; texts that are the same: contracts. -/
import Derived.Test.YtgidjhgaeghanaaDoorTFp
import Derived.Test.YtgidjhgaeghanaaDoorTFe
import Derived.Test.YtgidjhgaeghanaaDoorDrawEx
namespace Go.Proofs.YtgidjhgaeghanaaDoor
open Go.RowKit Go.Sort
set_option linter.unusedVariables false
theorem big_any (a : Option Addr) (len cap : Nat) (w : World) (hl : len ≤ maxLen) : Calls Tryd.prog 4 #[.slice a len cap] w fun e w' => e = .returned (.bool (decide (1048576 < len))) ∧ w' = w := by
  unfold maxLen at hl
  by_cases h : 1048576 < len
  · rw [decide_eq_true h]
    go_enter Tryd.func4, Tryd.ntmps4
    go_wp2
    go_ret
    exact ⟨by simp; omega, rfl⟩
  · rw [decide_eq_false h]
    go_enter Tryd.func4, Tryd.ntmps4
    go_wp2
    go_ret
    exact ⟨by simp; omega, rfl⟩
set_option maxRecDepth 100000 in
set_option maxHeartbeats 1000000 in
theorem sameTexts_same (X : List ByteArray) (B B' : Nat) (ad ad' : Option Addr) (cap cap' : Nat) (w : World) (hl : X.length ≤ 200000) (hv : w.ownsRow B 9 1 (.slice ad X.length cap) X.length (strv X)) (hv' : w.ownsRow B' 9 1 (.slice ad' X.length cap') X.length (strv X)) : Calls Tryd.prog 8 #[.slice ad X.length cap, .slice ad' X.length cap'] w fun e w' => e = .returned (.bool true) ∧ Below w.heap.size w w' := by
  have HV : Hid (w.ownsRow B 9 1 (.slice ad X.length cap) X.length (strv X)) := hv
  have HV' : Hid (w.ownsRow B' 9 1 (.slice ad' X.length cap') X.length (strv X)) := hv'
  clear hv hv'
  go_enter Tryd.func8, Tryd.ntmps8
  go_wp2_with fail
  go_loopg [5] X.length (fun gk i wr => ∃ j : Nat, j + gk = X.length ∧ i = .int .i64 j ∧ Below w.heap.size w wr)
  case atStart => exact ⟨0, by omega, rfl, Below.refl _ _⟩
  case round =>
    obtain ⟨j, hj', rfl, hb⟩ := hrel
    have HJ : Hid (j + gk = X.length) := hj'
    have hj : j ≤ X.length := by omega
    clear hj'
    by_cases hlt : j < X.length
    · have HB : Hid (Below w.heap.size w wr) := hb
      obtain ⟨g, rfl, hg, c0⟩ := own_at (World.ownsRow.kept HV.out (gb_bel hb) (by cases (Value.slice ad X.length cap).ownBlock <;> simp)) hlt
      obtain ⟨g', rfl, hg', c0'⟩ := own_at (World.ownsRow.kept HV'.out (gb_bel hb) (by cases (Value.slice ad' X.length cap').ownBlock <;> simp)) hlt
      generalize X[j] = s at c0 c0'
      have hss : (s.toList == s.toList) = true := by simp
      have r0 := cells_re c0
      have r0' := cells_re c0'
      clear c0 c0' hb
      go_wp2_with fail
      refine wp_region_quiet_below (by kernel_rfl) (by kernel_rfl) ?_
      repeat (go_big_quiet_step (fail))
      refine wpQuiet_nil ?_
      intro w6 hw'
      obtain ⟨⟨dq, osq⟩, hw''⟩ := hw'
      have HB2 : Hid (Below w.heap.size w w6) := by show Below _ _ _; rw [hw'']; exact HB.out.trans ((below_regrown _ dq osq).mono HB.out.size)
      clear hw'' r0 r0'
      go_wp2_with fail
      go_roundg (gk - 1)
      case rel => exact ⟨j + 1, by have := HJ.out; omega, by go_num, HB2.out⟩
      case measure => have := HJ.out; omega
    · have e1 : j = X.length := by omega
      subst e1
      go_wp2_with fail
      go_ret
      exact ⟨rfl, hb⟩
def shortStr : Value → Bool
  | .string x => decide (x.size ≤ 10)
  | _ => false
theorem tabS {w w3 : World} {B T : Nat} {vs : Array Value} (hb : (w.alloc (Obj.cells vs T)).grownBy w3 (some B)) (m : Nat) (hm : m < vs.size) (hB : B < w.heap.size) (H : vs.toList.all shortStr = true) : ∃ x : ByteArray, x.size ≤ 10 ∧ w3.cell? ⟨w.heap.size, m, none⟩ = some (.string x) := by
  rw [gb_cell hb (p := ⟨w.heap.size, m, none⟩) (by simp) (by simp; omega), World.cell?_alloc_new]
  have h1 := List.all_eq_true.1 H vs[m] (by simp)
  cases hv : vs[m] with
  | string x =>
    rw [hv] at h1
    refine ⟨x, by simpa [shortStr] using h1, ?_⟩
    rw [← hv]
    simp [hm]
  | _ => rw [hv] at h1; simp [shortStr] at h1
set_option maxRecDepth 100000 in
set_option maxHeartbeats 1000000 in
theorem tiny_any (B0 B : Nat) (a : Option Addr) (len cap : Nat) (w : World) (h : RdAt B0 B a len cap w) : Calls Tryd.prog 14 #[.pointer (some ⟨B, 0, none⟩)] w fun e w' => (∃ t : ByteArray, t.size ≤ 10 ∧ e = .returned (.string t)) ∧ RdAt B0 B a len cap w' ∧ w.grownBy w' (some B) := by
  have hsz := h.size
  go_enter Tryd.func14, Tryd.ntmps14
  go_wp2_with fail
  refine (below_any B0 B a len cap 5 _ (h.full ((Below.refl _ _).alloc (Nat.le_refl _) _)) (by decide) (by decide)).mono ?_
  rintro e w3 ⟨⟨m, hm, rfl⟩, hr3, hb3⟩
  obtain ⟨x, hx, hcx⟩ := tabS hb3 m (by show m < 5; omega) hsz rfl
  have hmi : (m : Int) < 5 := by omega
  replace hb3 := gb_trans (gb_full ((Below.refl _ _).alloc (Nat.le_refl _) _) _) hb3
  go_wp2
  go_ret
  exact ⟨⟨x, hx, rfl⟩, hr3, hb3⟩
theorem frameS_len {t : ByteArray} (h : t.size ≤ 100000) : frameS t = ⟨(frameL t.data.toList).toArray⟩ ∧ (frameS t).size = 8 + t.size := by
  have e : frameS t = ⟨(frameL t.data.toList).toArray⟩ := if_neg (by omega)
  refine ⟨e, ?_⟩
  rw [e]; show (frameL t.data.toList).toArray.size = _
  have : t.data.toList.length = t.size := rfl
  rw [List.size_toArray, frameL_len]; omega
set_option maxRecDepth 100000 in
set_option maxHeartbeats 1000000 in
theorem DrawFrameOf_any (B0 : Nat) (a : Option Addr) (len cap : Nat) (w : World) (hB : B0 ≤ w.heap.size) (hc : CodeAt B0 a len w) (hl : len ≤ 1048576) : Calls Tryd.prog 10 #[.slice a len cap] w fun e w' => (∃ t : ByteArray, t.size ≤ 20 ∧ e = .returned (.string t)) ∧ Below w.heap.size w w' := by
  go_enter Tryd.func10, Tryd.ntmps10
  go_wp2_with fail
  refine (l1Open_any B0 a len cap _ hB hc hl).mono ?_
  rintro e w1 ⟨rfl, hr1, hb1⟩
  go_wp2_with fail
  refine (tiny_any B0 _ a len cap _ hr1).mono ?_
  rintro e w2 ⟨⟨t, ht, rfl⟩, hr2, hb2⟩
  go_wp2_with fail
  refine (bytes_any B0 _ a len cap 5 _ hr2 (by decide)).mono ?_
  rintro e w3 ⟨⟨l, hl5, rfl⟩, hr3, hb3⟩
  have hS : (⟨l.toArray⟩ : ByteArray).size ≤ 5 := by show l.toArray.size ≤ 5; simpa using hl5
  generalize (⟨l.toArray⟩ : ByteArray) = S at *
  have hsum : (t ++ S).size ≤ 20 := by simp; omega
  go_wp2
  go_ret
  exact ⟨⟨t ++ S, hsum, rfl⟩, hb1.trans (gb_below (gb_trans hb2 hb3) (Nat.le_refl _) hr1.size)⟩
set_option maxRecDepth 100000 in
set_option maxHeartbeats 1000000 in
theorem DrawTakeFrames_any (B0 : Nat) (a : Option Addr) (len cap : Nat) (w : World) (hB : B0 ≤ w.heap.size) (hc : CodeAt B0 a len w) (hl : len ≤ 1048576) : Calls Tryd.prog 5 #[.slice a len cap] w fun e w' => (∃ t : ByteArray, t.size ≤ 200 ∧ e = .returned (.string t)) ∧ Below w.heap.size w w' := by
  go_enter Tryd.func5, Tryd.ntmps5
  go_wp2_with fail
  refine (l1Open_any B0 a len cap _ hB hc hl).mono ?_
  rintro e w1 ⟨rfl, hr1, hb1⟩
  go_wp2_with fail
  refine (below_any B0 _ a len cap 4 _ hr1 (by decide) (by decide)).mono ?_
  rintro e w2 ⟨⟨m, hm, rfl⟩, hr2, hb2⟩
  have HB2 : Hid (w1.grownBy w2 (some w.heap.size)) := hb2
  have HR2 : Hid (RdAt B0 w.heap.size a len cap w2) := hr2
  have HB1 : Hid (Below w.heap.size w w1) := hb1
  have HS1 : Hid (w.heap.size < w1.heap.size) := hr1.size
  have hm4 : m ≤ 3 := by omega
  clear hb2 hr2 hb1 hr1 hm
  go_wp2_with fail
  go_loopg [4, 5] m (fun gk s i wr => ∃ (S : ByteArray), s = .string S ∧ i = .int .i64 (gk : Nat) ∧ gk ≤ m ∧ S.size + 20 * gk ≤ 20 * m ∧ RdAt B0 w.heap.size a len cap wr ∧ w1.grownBy wr (some w.heap.size))
  case atStart => exact ⟨⟨#[]⟩, rfl, rfl, Nat.le_refl _, by show 0 + _ ≤ _; omega, HR2.out, HB2.out⟩
  case round =>
    obtain ⟨S, rfl, rfl, hgm, hSs, hr, hb⟩ := hrel
    have HR : Hid (RdAt B0 w.heap.size a len cap wr) := hr
    have HB : Hid (w1.grownBy wr (some w.heap.size)) := hb
    clear hr hb
    by_cases h0 : 0 < gk
    · have h0i : (0 : Int) < (gk : Int) := by omega
      go_wp2_with fail
      refine (tiny_any B0 _ a len cap _ HR.out).mono ?_
      rintro e w3 ⟨⟨t, ht, rfl⟩, hr3, hb3⟩
      have HR3 : Hid (RdAt B0 w.heap.size a len cap w3) := hr3
      have HB3 : Hid (w1.grownBy w3 (some w.heap.size)) := gb_trans HB.out hb3
      clear hr3 hb3
      obtain ⟨F, hF⟩ : ∃ F, frameS t = F := ⟨_, rfl⟩
      have hFs : F.size ≤ 18 := by rw [← hF, (frameS_len (t := t) (by omega)).2]; omega
      have HF : Hid (∀ w, Calls Tryd.prog 13 #[.string t] w fun e w' => e = .returned (.string F) ∧ Below w.heap.size w w') := fun w => by have := specFrameOf_any t w (by omega); rwa [hF] at this
      clear hF
      go_wp2_with fail
      refine (HF.out _).mono ?_
      rintro e w4 ⟨rfl, hb4⟩
      have HR4 : Hid (RdAt B0 w.heap.size a len cap w4) := HR3.out.full hb4
      have HB4 : Hid (w1.grownBy w4 (some w.heap.size)) := gb_trans HB3.out (gb_full hb4 _)
      have hSF : (S ++ F).size = S.size + F.size := by simp
      clear hb4
      go_wp2_with fail
      go_roundg (gk - 1)
      case rel => exact ⟨S ++ F, rfl, by go_num, by omega, by omega, HR4.out, HB4.out⟩
      case measure => omega
    · have h0i : ¬ (0 : Int) < (gk : Int) := by omega
      have hS6 : S.size ≤ 60 := by omega
      go_wp2_with fail
      refine (hurt_any B0 _ a len cap S _ HR.out (by omega)).mono ?_
      rintro e w3 ⟨⟨t, ht, rfl⟩, hr3, hb3⟩
      have HX : Hid (Below w.heap.size w w3) := HB1.out.trans (gb_below (gb_trans HB.out hb3) (Nat.le_refl _) HS1.out)
      have ht2 : t.size ≤ 200 := by omega
      clear hr3 hb3
      go_wp2_with fail
      go_ret
      exact ⟨⟨t, ht2, rfl⟩, HX.out⟩
end Go.Proofs.YtgidjhgaeghanaaDoor
