/- Whatever its arguments, laws.FnExactFeed returns true and leaves them as they were; no condition. -/
import Derived.Test.YtbepiebcpcjpcaaFRx
import Derived.Test.YtbepiebcpcjpcaaFRo
import Derived.ProofKit
import Derived.OpenShut
import Derived.ShutString
import Derived.ChangeOld
import Derived.Lib.SmallJoins
namespace Go.Proofs.Ytbepiebcpcjpcaa.fnExactFeed
open Go.ChangeShapes Go.WideShapes Go.ChangeAt Go.RowKit
open Go.ChangeMaps (open_string shut_string)
open Go.Joins
set_option linter.unusedVariables false
theorem own : ownKnob Try.prog.godebug = none := by kernel_rfl
theorem cells30 : Try.prog.cellsOf 30 = 3 := by kernel_rfl
theorem fdA_form (s : ByteArray) (n : Int) (b : Bool) (c : ByteArray) : ∃ A x y, fdA s n b c = .agg #[.string A, .int .i64 x, .bool y] := by
  unfold fdA
  split
  · split
    · exact ⟨_, _, _, rfl⟩
    · exact ⟨_, _, _, rfl⟩
  · exact ⟨_, _, _, rfl⟩
theorem fdL_len {s : ByteArray} {n : Int} {b : Bool} {c : ByteArray} (hs : s.size ≤ 1048576) : (fdL s n b c).length ≤ 400000 := by
  unfold fdL
  by_cases h : (fdO s n b c && !b) = true
  · rw [if_pos h]
    have h2 : fdO s n b c = true := by simp at h; exact h.1
    unfold fdO at h2
    simp at h2
    have := fs_bound _ (s ++ c).data.toList (Nat.le_refl _)
    have h3 : (s ++ c).data.toList.length = s.size + c.size := by simp
    rw [h3] at this
    have := h2.1.2
    omega
  · rw [if_neg h]; simp

set_option maxRecDepth 100000 in
set_option maxHeartbeats 4000000 in
theorem walk (a0a : ByteArray) (a0b : Int) (a0c : Bool) (a1 : ByteArray) (w : World) (w0a : a0a.size ≤ maxLen) (w0b : (Lit.int .i64 a0b).wf = true) (w1 : a1.size ≤ maxLen) :
    Calls Try.prog 5 #[.agg #[.string a0a, .int .i64 a0b, .bool a0c], .string a1] w fun e w' => e = .returned (.bool true) ∧ Below w.heap.size w w' := by
  by_cases hc : 1048576 < a1.size
  · go_enter Try.func5, Try.ntmps5
    go_wp2_with fail
    go_ret
    exact ⟨rfl, bel1 _ _⟩
  have hX0 : (w.alloc (.cells #[.string a0a, .int .i64 a0b, .bool a0c] 30)).heap[w.heap.size]? = some (.cells #[.string a0a, .int .i64 a0b, .bool a0c] 30 (0, 0)) := heap_alloc_new w _
  have hB0 : Below w.heap.size w (w.alloc (.cells #[.string a0a, .int .i64 a0b, .bool a0c] 30)) := bel1 _ _
  obtain ⟨w0, hW⟩ : ∃ W, w.alloc (.cells #[.string a0a, .int .i64 a0b, .bool a0c] 30) = W := ⟨_, rfl⟩
  rw [hW] at hX0 hB0
  have HWW : Hid (w.alloc (.cells #[.string a0a, .int .i64 a0b, .bool a0c] 30) = w0) := hW
  have HX0 : Hid (w0.heap[w.heap.size]? = some (.cells #[.string a0a, .int .i64 a0b, .bool a0c] 30 (0, 0))) := hX0
  have HB0 : Hid (Below w.heap.size w w0) := hB0
  clear hW hX0 hB0
  have hc1 : a1.size ≤ 1048576 := by omega
  obtain ⟨d0, d1, d2, _, _, _⟩ := tri_cells HX0.out
  by_cases hs : 1048576 < a0a.size
  · have HZ : Hid (∀ w : World, Calls Try.prog 11 #[.agg #[.string a0a, .int .i64 a0b, .bool a0c], .int .i64 1048576] w fun e w' => e = .returned (.int .i64 (-1)) ∧ Below w.heap.size w w') := fun w => by have := szFramer_any a0a a0b a0c 1048576 w (by omega) (by omega) w0a; rwa [if_pos (by omega)] at this
    clear w0a w0b w1 hs hc
    go_enter Try.func5, Try.ntmps5
    go_wp2_with fail
    rw [HWW.out]
    refine (HZ.out _).mono ?_
    rintro e w1 ⟨rfl, hb1⟩
    have HB1 : Hid (Below w.heap.size w w1) := HB0.out.trans (hb1.mono HB0.out.size)
    clear hb1
    go_wp2_with fail
    go_ret
    exact ⟨rfl, HB1.out⟩
  · have hsz : a0a.size ≤ 1048576 := by omega
    obtain ⟨L0, hL⟩ : ∃ L : Int, (1048576 : Int) - a0a.size = L := ⟨_, rfl⟩
    have hL0 : 0 ≤ L0 := by omega
    have hL1 : ¬ L0 < 0 := by omega
    have HZ : Hid (∀ w : World, Calls Try.prog 11 #[.agg #[.string a0a, .int .i64 a0b, .bool a0c], .int .i64 1048576] w fun e w' => e = .returned (.int .i64 L0) ∧ Below w.heap.size w w') := fun w => by have := szFramer_any a0a a0b a0c 1048576 w (by omega) (by omega) w0a; rw [if_neg (by omega), hL] at this; exact this
    have HT : Hid (∀ w : World, Calls Try.prog 13 #[.agg #[.string a0a, .int .i64 a0b, .bool a0c]] w fun e w' => e = .returned (.agg #[.string a0a, .int .i64 a0b, .bool a0c]) ∧ Below w.heap.size w w') := fun w => toFramer_any a0a a0b a0c w
    obtain ⟨A, x, y, hA⟩ := fdA_form a0a a0b a0c a1
    obtain ⟨l, hl⟩ : ∃ l, fdL a0a a0b a0c a1 = l := ⟨_, rfl⟩
    obtain ⟨ok, ho⟩ : ∃ ok, fdO a0a a0b a0c a1 = ok := ⟨_, rfl⟩
    have HL : Hid (l.length ≤ 400000) := by show _ ≤ _; rw [← hl]; exact fdL_len hsz
    have HS : Hid (∀ w : World, Calls Try.prog 15 #[.agg #[.string a0a, .int .i64 a0b, .bool a0c], .string a1] w fun e w' => (∃ v, e = .returned (.tuple #[.agg #[.string A, .int .i64 x, .bool y], v, .bool ok]) ∧ OwnF w.heap.size w' v l) ∧ Below w.heap.size w w') := fun w => by have := specFeed_any a0a a0b a0c a1 w hsz hc1; unfold FdE at this; rw [hA, hl, ho] at this; exact this
    have HI : Hid (∀ w : World, Calls Try.prog 16 #[.agg #[.string a0a, .int .i64 a0b, .bool a0c], .string a1] w fun e w' => (∃ v, e = .returned (.tuple #[.agg #[.string A, .int .i64 x, .bool y], v, .bool ok]) ∧ OwnF w.heap.size w' v l) ∧ Below w.heap.size w w') := fun w => by have := implFeed_any a0a a0b a0c a1 w hsz hc1; unfold FdE at this; rw [hA, hl, ho] at this; exact this
    have hOO : (ok == ok) = true := by simp
    clear w0a w0b w1 hs hL hA hl ho hsz hc
    go_enter Try.func5, Try.ntmps5
    go_wp2_with fail
    rw [HWW.out]
    have HXw0 : Hid (w0.heap[w.heap.size]? = some (.cells #[.string a0a, .int .i64 a0b, .bool a0c] 30 (0, 0))) := HX0.out
    have HBw0 : Hid (Below w.heap.size w w0) := HB0.out
    clear HX0 HB0
    refine (HZ.out _).mono ?_
    rintro e w1 ⟨rfl, hb⟩
    have HBw1 : Hid (Below w.heap.size w w1) := HBw0.out.trans (hb.mono HBw0.out.size)
    have HXw1 : Hid (w1.heap[w.heap.size]? = some (.cells #[.string a0a, .int .i64 a0b, .bool a0c] 30 (0, 0))) := (hb.block w.heap.size (blk_lt HXw0.out)).trans HXw0.out
    clear d0 d1 d2
    obtain ⟨d0, d1, d2, _, _, _⟩ := tri_cells HXw1.out
    clear hb
    go_wp2_with fail
    refine (HT.out _).mono ?_
    rintro e w2 ⟨rfl, hb⟩
    have HBw2 : Hid (Below w.heap.size w w2) := HBw1.out.trans (hb.mono HBw1.out.size)
    have HXw2 : Hid (w2.heap[w.heap.size]? = some (.cells #[.string a0a, .int .i64 a0b, .bool a0c] 30 (0, 0))) := (hb.block w.heap.size (blk_lt HXw1.out)).trans HXw1.out
    clear d0 d1 d2 hb
    go_wp2_with fail
    refine (HS.out _).mono ?_
    rintro e w3 ⟨⟨v1, rfl, hov⟩, hb0⟩
    obtain ⟨u3, hu⟩ : ∃ u, w3.alloc (.cells #[.string A, .int .i64 x, .bool y] 33) = u := ⟨_, rfl⟩
    have hb : Below w2.heap.size w2 u3 := by rw [← hu]; exact hb0.trans ((bel1 w3 _).mono hb0.size)
    have HBu3 : Hid (Below w.heap.size w u3) := HBw2.out.trans (hb.mono HBw2.out.size)
    have HXu3 : Hid (u3.heap[w.heap.size]? = some (.cells #[.string a0a, .int .i64 a0b, .bool a0c] 30 (0, 0))) := (hb.block w.heap.size (blk_lt HXw2.out)).trans HXw2.out
    have HYu3 : Hid (u3.heap[w3.heap.size]? = some (.cells #[.string A, .int .i64 x, .bool y] 33 (0, 0))) := by show _ = _; rw [← hu]; exact heap_alloc_new w3 _
    have HOv1 : Hid (OwnF w2.heap.size u3 v1 l) := by show OwnF _ _ _ _; rw [← hu]; exact OwnF.kept hov (bel1 _ _)
    obtain ⟨d0, d1, d2, _, _, _⟩ := tri_cells HXu3.out
    clear hb hb0 hov
    go_wp2_with fail
    clear hu d0 d1 d2
    refine (HT.out _).mono ?_
    rintro e w4 ⟨rfl, hb⟩
    have HBw4 : Hid (Below w.heap.size w w4) := HBu3.out.trans (hb.mono HBu3.out.size)
    have HXw4 : Hid (w4.heap[w.heap.size]? = some (.cells #[.string a0a, .int .i64 a0b, .bool a0c] 30 (0, 0))) := (hb.block w.heap.size (blk_lt HXu3.out)).trans HXu3.out
    have HYw4 : Hid (w4.heap[w3.heap.size]? = some (.cells #[.string A, .int .i64 x, .bool y] 33 (0, 0))) := (hb.block w3.heap.size (blk_lt HYu3.out)).trans HYu3.out
    have HO4 : Hid (OwnF w2.heap.size w4 v1 l) := HOv1.out.kept hb
    have HCw4 : Hid (Below w4.heap.size w4 w4) := Below.refl _ _
    clear hb
    go_wp2_with fail
    refine (HI.out _).mono ?_
    rintro e w5 ⟨⟨v2, rfl, hov⟩, hb0⟩
    obtain ⟨u5, hu⟩ : ∃ u, w5.alloc (.cells #[.string A, .int .i64 x, .bool y] 33) = u := ⟨_, rfl⟩
    have hb : Below w4.heap.size w4 u5 := by rw [← hu]; exact hb0.trans ((bel1 w5 _).mono hb0.size)
    have HBu5 : Hid (Below w.heap.size w u5) := HBw4.out.trans (hb.mono HBw4.out.size)
    have HXu5 : Hid (u5.heap[w.heap.size]? = some (.cells #[.string a0a, .int .i64 a0b, .bool a0c] 30 (0, 0))) := (hb.block w.heap.size (blk_lt HXw4.out)).trans HXw4.out
    have HYu5 : Hid (u5.heap[w3.heap.size]? = some (.cells #[.string A, .int .i64 x, .bool y] 33 (0, 0))) := (hb.block w3.heap.size (blk_lt HYw4.out)).trans HYw4.out
    have HCu5 : Hid (Below w4.heap.size w4 u5) := HCw4.out.trans (hb.mono HCw4.out.size)
    have HGu5 : Hid (u5.heap[w5.heap.size]? = some (.cells #[.string A, .int .i64 x, .bool y] 33 (0, 0))) := by show _ = _; rw [← hu]; exact heap_alloc_new w5 _
    have HOv2 : Hid (OwnF w4.heap.size u5 v2 l) := by show OwnF _ _ _ _; rw [← hu]; exact OwnF.kept hov (bel1 _ _)
    obtain ⟨g0, g1, g2, _, _, _⟩ := tri_cells HGu5.out
    obtain ⟨y0, y1, y2, _, _, _⟩ := tri_cells HYu5.out
    clear hb hb0 hov
    go_wp2_with fail
    clear hu g0 g1 g2 y0 y1 y2
    refine (eqFramer_same A x y _).mono ?_
    rintro e w6 ⟨rfl, hb⟩
    have HBw6 : Hid (Below w.heap.size w w6) := HBu5.out.trans (hb.mono HBu5.out.size)
    have HXw6 : Hid (w6.heap[w.heap.size]? = some (.cells #[.string a0a, .int .i64 a0b, .bool a0c] 30 (0, 0))) := (hb.block w.heap.size (blk_lt HXu5.out)).trans HXu5.out
    have HYw6 : Hid (w6.heap[w3.heap.size]? = some (.cells #[.string A, .int .i64 x, .bool y] 33 (0, 0))) := (hb.block w3.heap.size (blk_lt HYu5.out)).trans HYu5.out
    have HGw6 : Hid (w6.heap[w5.heap.size]? = some (.cells #[.string A, .int .i64 x, .bool y] 33 (0, 0))) := (hb.block w5.heap.size (blk_lt HGu5.out)).trans HGu5.out
    have HCw6 : Hid (Below w4.heap.size w4 w6) := HCu5.out.trans (hb.mono HCu5.out.size)
    have HO6 : Hid (OwnF w4.heap.size w6 v2 l) := HOv2.out.kept hb
    clear hb
    go_wp2_with fail
    refine (eqFrameS_same l _ _ v2 v1 w6 HO6.out (HO4.out.kept HCw6.out)).mono ?_
    rintro e w7 ⟨rfl, hb⟩
    have HBw7 : Hid (Below w.heap.size w w7) := HBw6.out.trans (hb.mono HBw6.out.size)
    have HXw7 : Hid (w7.heap[w.heap.size]? = some (.cells #[.string a0a, .int .i64 a0b, .bool a0c] 30 (0, 0))) := (hb.block w.heap.size (blk_lt HXw6.out)).trans HXw6.out
    have HYw7 : Hid (w7.heap[w3.heap.size]? = some (.cells #[.string A, .int .i64 x, .bool y] 33 (0, 0))) := (hb.block w3.heap.size (blk_lt HYw6.out)).trans HYw6.out
    have HGw7 : Hid (w7.heap[w5.heap.size]? = some (.cells #[.string A, .int .i64 x, .bool y] 33 (0, 0))) := (hb.block w5.heap.size (blk_lt HGw6.out)).trans HGw6.out
    have HCw7 : Hid (Below w4.heap.size w4 w7) := HCw6.out.trans (hb.mono HCw6.out.size)
    have HO7 : Hid (OwnF w4.heap.size w7 v2 l) := HO6.out.kept hb
    have hltX : w.heap.size < w4.heap.size := blk_lt HXw4.out
    have hltY : w3.heap.size < w4.heap.size := blk_lt HYw4.out
    have hle : w4.heap.size ≤ w7.heap.size := HCw7.out.size
    clear hb
    go_wp2_with fail
    refine (markFrameS_any 1 l.length w4.heap.size v2 w7 (by decide) (by decide) HL.out (MkFs.start HO7.out)).mono ?_
    rintro e w8 ⟨⟨rfl, hmk⟩, hb⟩
    have HBw8 : Hid (Below w.heap.size w w8) := HBw7.out.trans (hb.mono (Nat.le_of_lt hltX))
    have HXw8 : Hid (w8.heap[w.heap.size]? = some (.cells #[.string a0a, .int .i64 a0b, .bool a0c] 30 (0, 0))) := (hb.block w.heap.size hltX).trans HXw7.out
    have HYw8 : Hid (w8.heap[w3.heap.size]? = some (.cells #[.string A, .int .i64 x, .bool y] 33 (0, 0))) := (hb.block w3.heap.size hltY).trans HYw7.out
    have HCw8 : Hid (Below w4.heap.size w4 w8) := HCw7.out.trans hb
    have HM8 : Hid (MkFs 1 l.length l.length w4.heap.size w8 v2) := hmk
    clear hb hmk
    obtain ⟨L, hL⟩ : ∃ L : Nat, 1 + 3 * l.length = L := ⟨_, rfl⟩
    have HLE : Hid (1 + 3 * l.length = L) := hL
    have hL1' : 1 ≤ L := by omega
    have hL2 : L ≤ 1200001 := by have := HL.out; omega
    rw [hL]
    clear hL
    have HH : Hid (∀ w', MkFs 1 l.length l.length w4.heap.size w' v2 → Calls Try.prog 20 #[v2, .int .i64 1] w' fun e w'' => e = .returned (.int .i64 (L : Int)) ∧ Below w'.heap.size w' w'') := fun w' h => by have := heldFrameS_any 1 _ _ v2 w' (by decide) (by decide) HL.out h; rw [HLE.out] at this; exact this
    go_wp2_with fail
    refine (HH.out _ HM8.out).mono ?_
    rintro e w9 ⟨rfl, hb⟩
    have HBw9 : Hid (Below w.heap.size w w9) := HBw8.out.trans (hb.mono HBw8.out.size)
    have HXw9 : Hid (w9.heap[w.heap.size]? = some (.cells #[.string a0a, .int .i64 a0b, .bool a0c] 30 (0, 0))) := (hb.block w.heap.size (blk_lt HXw8.out)).trans HXw8.out
    have HYw9 : Hid (w9.heap[w3.heap.size]? = some (.cells #[.string A, .int .i64 x, .bool y] 33 (0, 0))) := (hb.block w3.heap.size (blk_lt HYw8.out)).trans HYw8.out
    have HCw9 : Hid (Below w4.heap.size w4 w9) := HCw8.out.trans (hb.mono HCw8.out.size)
    have HM9 : Hid (MkFs 1 l.length l.length w4.heap.size w9 v2) := HM8.out.below hb
    obtain ⟨d0, d1, d2, _, _, _⟩ := tri_cells HXw9.out
    clear hb
    go_wp2_with fail
    refine (HT.out _).mono ?_
    rintro e w10 ⟨rfl, hb⟩
    have HBw10 : Hid (Below w.heap.size w w10) := HBw9.out.trans (hb.mono HBw9.out.size)
    have HXw10 : Hid (w10.heap[w.heap.size]? = some (.cells #[.string a0a, .int .i64 a0b, .bool a0c] 30 (0, 0))) := (hb.block w.heap.size (blk_lt HXw9.out)).trans HXw9.out
    have HYw10 : Hid (w10.heap[w3.heap.size]? = some (.cells #[.string A, .int .i64 x, .bool y] 33 (0, 0))) := (hb.block w3.heap.size (blk_lt HYw9.out)).trans HYw9.out
    have HCw10 : Hid (Below w4.heap.size w4 w10) := HCw9.out.trans (hb.mono HCw9.out.size)
    have HM10 : Hid (MkFs 1 l.length l.length w4.heap.size w10 v2) := HM9.out.below hb
    clear hb d0 d1 d2
    go_wp2_with fail
    refine (HI.out _).mono ?_
    rintro e w11 ⟨⟨v6, rfl, hov⟩, hb0⟩
    obtain ⟨u11, hu⟩ : ∃ u, w11.alloc (.cells #[.string A, .int .i64 x, .bool y] 33) = u := ⟨_, rfl⟩
    have hb : Below w10.heap.size w10 u11 := by rw [← hu]; exact hb0.trans ((bel1 w11 _).mono hb0.size)
    have HBu11 : Hid (Below w.heap.size w u11) := HBw10.out.trans (hb.mono HBw10.out.size)
    have HXu11 : Hid (u11.heap[w.heap.size]? = some (.cells #[.string a0a, .int .i64 a0b, .bool a0c] 30 (0, 0))) := (hb.block w.heap.size (blk_lt HXw10.out)).trans HXw10.out
    have HYu11 : Hid (u11.heap[w3.heap.size]? = some (.cells #[.string A, .int .i64 x, .bool y] 33 (0, 0))) := (hb.block w3.heap.size (blk_lt HYw10.out)).trans HYw10.out
    have HCu11 : Hid (Below w4.heap.size w4 u11) := HCw10.out.trans (hb.mono HCw10.out.size)
    have HKu11 : Hid (u11.heap[w11.heap.size]? = some (.cells #[.string A, .int .i64 x, .bool y] 33 (0, 0))) := by show _ = _; rw [← hu]; exact heap_alloc_new w11 _
    have HOv6 : Hid (OwnF w10.heap.size u11 v6 l) := by show OwnF _ _ _ _; rw [← hu]; exact OwnF.kept hov (bel1 _ _)
    have HM11 : Hid (MkFs 1 l.length l.length w4.heap.size u11 v2) := HM10.out.below hb
    obtain ⟨g0, g1, g2, _, _, _⟩ := tri_cells HKu11.out
    obtain ⟨y0, y1, y2, _, _, _⟩ := tri_cells HYu11.out
    clear hb hb0 hov
    go_wp2_with fail
    clear hu g0 g1 g2 y0 y1 y2
    refine (eqFramer_same A x y _).mono ?_
    rintro e w12 ⟨rfl, hb⟩
    have HBw12 : Hid (Below w.heap.size w w12) := HBu11.out.trans (hb.mono HBu11.out.size)
    have HXw12 : Hid (w12.heap[w.heap.size]? = some (.cells #[.string a0a, .int .i64 a0b, .bool a0c] 30 (0, 0))) := (hb.block w.heap.size (blk_lt HXu11.out)).trans HXu11.out
    have HYw12 : Hid (w12.heap[w3.heap.size]? = some (.cells #[.string A, .int .i64 x, .bool y] 33 (0, 0))) := (hb.block w3.heap.size (blk_lt HYu11.out)).trans HYu11.out
    have HKw12 : Hid (w12.heap[w11.heap.size]? = some (.cells #[.string A, .int .i64 x, .bool y] 33 (0, 0))) := (hb.block w11.heap.size (blk_lt HKu11.out)).trans HKu11.out
    have HCw12 : Hid (Below w4.heap.size w4 w12) := HCu11.out.trans (hb.mono HCu11.out.size)
    have HM12 : Hid (MkFs 1 l.length l.length w4.heap.size w12 v2) := HM11.out.below hb
    have HO12 : Hid (OwnF w10.heap.size w12 v6 l) := HOv6.out.kept hb
    clear hb
    go_wp2_with fail
    refine (eqFrameS_same l _ _ v6 v1 w12 HO12.out (HO4.out.kept HCw12.out)).mono ?_
    rintro e w13 ⟨rfl, hb⟩
    have HBw13 : Hid (Below w.heap.size w w13) := HBw12.out.trans (hb.mono HBw12.out.size)
    have HXw13 : Hid (w13.heap[w.heap.size]? = some (.cells #[.string a0a, .int .i64 a0b, .bool a0c] 30 (0, 0))) := (hb.block w.heap.size (blk_lt HXw12.out)).trans HXw12.out
    have HYw13 : Hid (w13.heap[w3.heap.size]? = some (.cells #[.string A, .int .i64 x, .bool y] 33 (0, 0))) := (hb.block w3.heap.size (blk_lt HYw12.out)).trans HYw12.out
    have HKw13 : Hid (w13.heap[w11.heap.size]? = some (.cells #[.string A, .int .i64 x, .bool y] 33 (0, 0))) := (hb.block w11.heap.size (blk_lt HKw12.out)).trans HKw12.out
    have HCw13 : Hid (Below w4.heap.size w4 w13) := HCw12.out.trans (hb.mono HCw12.out.size)
    have HM13 : Hid (MkFs 1 l.length l.length w4.heap.size w13 v2) := HM12.out.below hb
    clear hb
    go_wp2_with fail
    refine (HH.out _ HM13.out).mono ?_
    rintro e w14 ⟨rfl, hb⟩
    have HBw14 : Hid (Below w.heap.size w w14) := HBw13.out.trans (hb.mono HBw13.out.size)
    clear hb
    go_wp2_with fail
    go_ret
    exact ⟨rfl, HBw14.out⟩
set_option maxRecDepth 100000 in
theorem lifted (os : Os) (started : os.Started) (H : Type) (enc : TypeId × Value → H) :
    ReturnsInHanded {} Try.checked os 5 .any (Rows.fnExactFeedSpec.pre6 enc Try.prog Try.f5 Rows.fnExactFeedRow.domain false) (Rows.fnExactFeedSpec.post enc Try.prog Try.f5 false true false false) := by
  refine returnsInHanded_of_change (C := Try.checked) own started (by kernel_rfl) Try.func5
    (ChangeSpec.witness6 (enc := enc) (C := Try.checked) false ⟨#[], #[.agg #[.string ByteArray.empty, .int .i64 0, .bool false], .string ByteArray.empty], []⟩ 8 (by kernel_rfl) (by kernel_rfl) (by kernel_rfl) (by kernel_rfl)) ?_
  intro W base args ds gs before hval0 hW hcnd _
  have hval : ∀ (j : Nat) t v, Try.f5.params[j]? = some t → args[j]? = some v → Value.okWide Try.prog W .any base t v := hval0
  have hW' := hW
  obtain ⟨p, q, hA0, hV, rfl, hfz, hnd⟩ := hW
  have hA : DataW.TrodAll enc Try.prog W 0 (fun _ => true) true Try.f5.params.toList args.toList ds p := hA0
  rw [Try.params5] at hA hval
  obtain ⟨v0, vs0, d0, ds0, p0, q0, hargs, rfl, rfl, h0, r0⟩ := trodAll_cons hA
  obtain ⟨v1, vs1, d1, ds1, p1, q1, rfl, rfl, rfl, h1, r1⟩ := trodAll_cons r0
  obtain ⟨rfl, rfl, rfl⟩ := trodAll_nil r1
  obtain rfl : args = #[v0, v1] := by cases args; simp_all
  obtain ⟨rfl, rfl⟩ := trodVars_none hV
  obtain ⟨c0a, c0b, c0c, y0a, y0b, y0c, m0, rfl, rfl, rfl, hy0a, hy0b, hy0c⟩ := open_agg3 Try.underlying30 (by kernel_rfl) cells30 (hval 0 30 v0 rfl rfl) h0
  obtain ⟨a0a, e0a, rfl, w0a⟩ := DataW.trod_string Try.underlying9 hy0a
  simp at e0a
  subst e0a
  obtain ⟨a0b, e0b, rfl, w0b⟩ := DataW.trod_int Try.underlying2 hy0b
  simp at e0b
  subst e0b
  obtain ⟨a0c, e0c, rfl⟩ := DataW.trod_bool Try.underlying4 hy0c
  simp at e0c
  subst e0c
  obtain ⟨a1, rfl, rfl, rfl, w1⟩ := open_string Try.underlying9 (hval 1 9 v1 rfl rfl) h1
  clear hA0 hval0
  refine (walk a0a a0b a0c a1 W w0a w0b w1).mono fun e W' ⟨he, bel⟩ => ?_
  subst he
  exact ⟨_, rfl, _, _, _, [], _, [], hW', trodAll_mk1 (shut_bool Try.underlying4 _), (trodAll_cons_mk (shut_agg3 (y0 := (.lit (.string a0a.data.toList), [])) (y1 := (.lit (.int .i64 a0b), [])) (y2 := (.lit (.bool a0c), [])) Try.underlying30 (by kernel_rfl) cells30 (field_of_Trod (shut_string Try.underlying9 w0a) rfl) (field_of_Trod (shut_int Try.underlying2 w0b) rfl) (field_of_Trod (shut_bool Try.underlying4 a0c) rfl)) (trodAll_cons_mk (shut_string Try.underlying9 w1) trodAll_mk0)), rfl, bel.frame _, fun h => by cases h⟩
theorem over : Rows.fnExactFeedRow.holds Try.pinned (OpenSpec.ofChange Rows.fnExactFeedSpec) :=
  OpenClaim.holds_of_wide 5 Try.f5 rfl rfl rfl rfl rfl rfl rfl ⟨rfl, rfl, rfl, rfl, rfl⟩ rfl rfl rfl rfl rfl (by kernel_rfl) Try.func5 (by kernel_rfl)
    (of_decide_eq_true (by kernel_rfl)) (by unfold Func.isWrapper; first | (rw [if_pos (by decide +kernel)]; kernel_rfl) | (rw [if_neg (by decide +kernel)]; exact ⟨rfl, rfl⟩))
    (fun os started H enc _ => lifted os started H enc)
theorem proved : Rows.FnExactFeedSaid := over
#print axioms proved
end Go.Proofs.Ytbepiebcpcjpcaa.fnExactFeed
