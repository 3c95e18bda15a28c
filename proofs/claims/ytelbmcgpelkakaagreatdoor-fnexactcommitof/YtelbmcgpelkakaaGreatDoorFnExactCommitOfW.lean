/- Whatever its arguments, laws.FnExactCommitOf returns true and leaves them, and the table that it reads, as they were; the table starts as the program's text lays it. -/
import Derived.Test.YtelbmcgpelkakaaGreatDoorCards
import Derived.Test.YtelbmcgpelkakaaGreatDoorTie
import Derived.Test.YtelbmcgpelkakaaGreatDoorSOu
import Derived.Test.YtelbmcgpelkakaaGreatDoorSRk
import Derived.Test.YtelbmcgpelkakaaGreatDoorS2k
import Derived.SevenTiedAt
import Derived.Lay
namespace Go.Proofs.YtelbmcgpelkakaaGreatDoor.fnExactCommitOf
open Go.ChangeShapes Go.WideShapes Go.ChangeAt Go.RowKit
open Go.ChangeMaps (open_string shut_string)
set_option linter.unusedVariables false
theorem gb_lowR {w1 w2 : World} {B : Nat} {row : Option Nat} (hg : w1.grownBy w2 row) (h : ∀ k, row = some k → B ≤ k) (h2 : B ≤ w1.heap.size) : Below B w1 w2 :=
  ⟨hg.os, hg.tape, hg.output, hg.size, fun k hk => hg.block k (by omega) (fun e => by have := h k e.symm; omega)⟩
theorem own_keep {w1 w2 : World} {B e sz n : Nat} {v : Value} {xs : List Value} {row : Option Nat} (h : w1.ownsRow B e sz v n xs) (hg : w1.grownBy w2 row) (hd : ∀ k, v.ownBlock = some k → row ≠ some k) : w2.ownsRow B e sz v n xs := by
  refine World.ownsRow.kept h hg ?_
  cases hv : v.ownBlock with
  | none => exact .inl rfl
  | some k => exact .inr (fun e => hd k hv e.symm)
theorem own_full {w1 w2 : World} {B e sz n : Nat} {v : Value} {xs : List Value} (h : w1.ownsRow B e sz v n xs) (hb : Below w1.heap.size w1 w2) : w2.ownsRow B e sz v n xs := World.ownsRow.kept h (gb_bel hb) (by cases v.ownBlock <;> simp)

set_option maxRecDepth 100000 in
set_option maxHeartbeats 8000000 in
theorem walk (a0 : Option Addr) (len0 cap0 : Nat) (w : World) (w0 : ArgItems w a0 len0 cap0) (hev : EV w) :
    Calls Tryz.prog 4 #[.slice a0 len0 cap0] w fun e w' => e = .returned (.bool true) ∧ Below w.heap.size w w' := by
  obtain ⟨g1, g2, vs, hvs, hraw⟩ := w0
  have HEV : Hid (EV w) := hev
  by_cases hs1 : 1048576 < len0
  · have HY : Hid (∀ w, Calls Tryz.prog 7 #[.slice a0 len0 cap0, .int .i64 (1048576 : Nat)] w fun e w' => e = .returned (.int .i64 (-1)) ∧ Below w.heap.size w w') := fun w => szItemS_big a0 len0 cap0 1048576 w (Nat.le_refl _) (by omega) hs1
    clear hraw hvs hev
    go_enter Tryz.func4, Tryz.ntmps4
    go_wp2_with fail
    refine (HY.out _).mono ?_
    rintro e w2 ⟨rfl, hb2⟩
    go_wp2_with fail
    go_ret
    exact ⟨rfl, hb2⟩
  · subst hvs
    have HY : Hid (Calls Tryz.prog 7 #[.slice a0 vs.length cap0, .int .i64 (1048576 : Nat)] w fun e w' => (∃ r : Int, e = .returned (.int .i64 r) ∧ (r = -1 ∨ (0 ≤ r ∧ ∀ x ∈ vs, x.s.size ≤ 1048577))) ∧ Below w.heap.size w w') := szItemS_any vs a0 cap0 1048576 w (Nat.le_refl _) g1 g2 (by omega) hraw
    have HRW : Hid (RawItems w a0 vs) := hraw
    have hvl : vs.length ≤ 1048577 := by omega
    clear hraw hev
    go_enter Tryz.func4, Tryz.ntmps4
    go_wp2_with fail
    refine Calls.mono HY.out ?_
    rintro e w2 ⟨⟨r, rfl, hr | ⟨hr, hall⟩⟩, hb2⟩
    · subst hr
      go_wp2_with fail
      go_ret
      exact ⟨rfl, hb2⟩
    · have HI : Hid (IsItems w.heap.size w (.slice a0 vs.length cap0) vs) := HRW.out.items hvl g1 g2 hall
      have HB2 : Hid (Below w.heap.size w w2) := hb2
      have hr' : ¬ r < 0 := by omega
      clear hall hb2 HY HRW
      have HIO : Hid (∀ w', Below w.heap.size w w' → Calls Tryz.prog 9 #[.slice a0 vs.length cap0] w' fun e w'' => ∃ v', e = .returned v' ∧ IsItems w''.heap.size w'' v' vs ∧ (MkS 1 vs.length 0 w'.heap.size w'' v' ∧ v'.ownBlock = some w'.heap.size ∧ w'.heap.size < w''.heap.size) ∧ Below w'.heap.size w' w'') := fun w' hb => toItemS_mk vs _ w' ((HI.out.below hb).up hb.size)
      obtain ⟨pi, pt, plf, nn, ok, hX, hform⟩ := CmE_form vs
      have HX : Hid (nn ≤ 8) := hX
      have hX2 : nn ≤ 1000 := by omega
      have HSP : Hid (∀ w' v', IsItems w'.heap.size w' v' vs → Calls Tryz.prog 13 #[v'] w' fun e w'' => (∃ ad cp, e = .returned (.tuple #[.agg #[.int .u64 pi, .int .u64 pt, .string plf, .slice ad nn cp], .bool ok]) ∧ w''.ownsRow w'.heap.size 71 2 (.slice ad nn cp) nn (paC vs 5 nn)) ∧ Below w'.heap.size w' w'') := fun w' v' h => by
        refine (specCommitOf_any vs v' w' h).mono ?_
        rintro e w'' ⟨he, hb⟩
        exact ⟨hform _ _ _ he, hb⟩
      have HIM : Hid (∀ w' v', IsItems w'.heap.size w' v' vs → EV w' → Calls Tryz.prog 14 #[v'] w' fun e w'' => (∃ ad cp, e = .returned (.tuple #[.agg #[.int .u64 pi, .int .u64 pt, .string plf, .slice ad nn cp], .bool ok]) ∧ w''.ownsRow w'.heap.size 71 2 (.slice ad nn cp) nn (paC vs 5 nn)) ∧ Below w'.heap.size w' w'') := fun w' v' h hv => by
        refine (implCommitOf_any vs v' w' h hv).mono ?_
        rintro e w'' ⟨he, hb⟩
        exact ⟨hform _ _ _ he, hb⟩
      have hOO : (ok == ok) = true := by simp
      have HBw2 : Hid (Below w.heap.size w w2) := HB2.out
      clear hform hX HB2
      go_wp2_with fail
      refine (HIO.out _ HBw2.out).mono ?_
      rintro e w3 ⟨v3, rfl, hv3, _, hb⟩
      have HBw3 : Hid (Below w.heap.size w w3) := HBw2.out.trans (hb.mono HBw2.out.size)
      have HV3 : Hid (IsItems w3.heap.size w3 v3 vs) := hv3
      clear hv3 hb
      go_wp2_with fail
      refine (HSP.out _ _ HV3.out).mono ?_
      rintro e w4 ⟨⟨ad4, cp4, rfl, ho⟩, hb0⟩
      obtain ⟨u4, hu⟩ : ∃ u, w4.alloc (.cells #[.int .u64 pi, .int .u64 pt, .string plf, .slice ad4 nn cp4] 36) = u := ⟨_, rfl⟩
      have hb : Below w3.heap.size w3 u4 := by rw [← hu]; exact hb0.trans ((bel1 w4 _).mono hb0.size)
      have HBu4 : Hid (Below w.heap.size w u4) := HBw3.out.trans (hb.mono HBw3.out.size)
      have HYu4 : Hid (u4.heap[w4.heap.size]? = some (.cells #[.int .u64 pi, .int .u64 pt, .string plf, .slice ad4 nn cp4] 36 (0, 0))) := by show _ = _; rw [← hu]; exact heap_alloc_new w4 _
      have HOu4 : Hid (u4.ownsRow w3.heap.size 71 2 (.slice ad4 nn cp4) nn (paC vs 5 nn)) := by show World.ownsRow _ _ _ _ _ _ _; rw [← hu]; exact own_full ho (bel1 _ _)
      have HL4 : Hid (∀ q, (Value.slice ad4 nn cp4).ownBlock = some q → w3.heap.size ≤ q ∧ q < w4.heap.size) := fun q hq => World.ownsRow.lt ho q hq
      have hq1 : w4.heap.size < u4.heap.size := blk_lt HYu4.out
      have hq3 : w.heap.size ≤ u4.heap.size := HBu4.out.size
      clear hb hb0 ho
      go_wp2_with fail
      clear hu
      refine (HIO.out _ HBu4.out).mono ?_
      rintro e w5 ⟨v5, rfl, hv5, ⟨hm5, hk5, hq2⟩, hb⟩
      have HBw5 : Hid (Below w.heap.size w w5) := HBu4.out.trans (hb.mono HBu4.out.size)
      have HYw5 : Hid (w5.heap[w4.heap.size]? = some (.cells #[.int .u64 pi, .int .u64 pt, .string plf, .slice ad4 nn cp4] 36 (0, 0))) := (hb.block w4.heap.size (blk_lt HYu4.out)).trans HYu4.out
      have HOw5 : Hid (w5.ownsRow w3.heap.size 71 2 (.slice ad4 nn cp4) nn (paC vs 5 nn)) := own_full HOu4.out hb
      have HVw5 : Hid (IsItems w5.heap.size w5 v5 vs) := hv5
      have HMw5 : Hid (MkS 1 vs.length 0 u4.heap.size w5 v5) := hm5
      have HK5 : Hid (v5.ownBlock = some u4.heap.size) := hk5
      clear hv5 hm5 hk5 hb
      go_wp2_with fail
      refine (HIM.out _ _ HVw5.out (HEV.out.below HBw5.out)).mono ?_
      rintro e w6 ⟨⟨ad6, cp6, rfl, ho⟩, hb0⟩
      obtain ⟨u6, hu⟩ : ∃ u, w6.alloc (.cells #[.int .u64 pi, .int .u64 pt, .string plf, .slice ad6 nn cp6] 36) = u := ⟨_, rfl⟩
      have hb : Below w5.heap.size w5 u6 := by rw [← hu]; exact hb0.trans ((bel1 w6 _).mono hb0.size)
      have HBu6 : Hid (Below w.heap.size w u6) := HBw5.out.trans (hb.mono HBw5.out.size)
      have HYu6 : Hid (u6.heap[w4.heap.size]? = some (.cells #[.int .u64 pi, .int .u64 pt, .string plf, .slice ad4 nn cp4] 36 (0, 0))) := (hb.block w4.heap.size (blk_lt HYw5.out)).trans HYw5.out
      have HOu6 : Hid (u6.ownsRow w3.heap.size 71 2 (.slice ad4 nn cp4) nn (paC vs 5 nn)) := own_full HOw5.out hb
      have HVu6 : Hid (IsItems u6.heap.size u6 v5 vs) := (HVw5.out.below hb).up hb.size
      have HMu6 : Hid (MkS 1 vs.length 0 u4.heap.size u6 v5) := HMw5.out.below hb
      have HGu6 : Hid (u6.heap[w6.heap.size]? = some (.cells #[.int .u64 pi, .int .u64 pt, .string plf, .slice ad6 nn cp6] 36 (0, 0))) := by show _ = _; rw [← hu]; exact heap_alloc_new w6 _
      have HPu6 : Hid (u6.ownsRow w5.heap.size 71 2 (.slice ad6 nn cp6) nn (paC vs 5 nn)) := by show World.ownsRow _ _ _ _ _ _ _; rw [← hu]; exact own_full ho (bel1 _ _)
      have HL6 : Hid (∀ q, (Value.slice ad6 nn cp6).ownBlock = some q → w5.heap.size ≤ q ∧ q < w6.heap.size) := fun q hq => World.ownsRow.lt ho q hq
      have hq4 : w5.heap.size ≤ w6.heap.size := hb0.size
      obtain ⟨g0, g1, g2, g3⟩ := quad_cells HGu6.out
      obtain ⟨y0, y1, y2, y3⟩ := quad_cells HYu6.out
      clear hb hb0 ho
      go_wp2_with fail
      clear hu g0 g1 g2 g3 y0 y1 y2 y3
      refine (eqCommit_same pi pt plf nn vs _ _ ad6 ad4 cp6 cp4 u6 hX2 HPu6.out HOu6.out).mono ?_
      rintro e w7 ⟨rfl, hb⟩
      have HBw7 : Hid (Below w.heap.size w w7) := HBu6.out.trans (hb.mono HBu6.out.size)
      have HYw7 : Hid (w7.heap[w4.heap.size]? = some (.cells #[.int .u64 pi, .int .u64 pt, .string plf, .slice ad4 nn cp4] 36 (0, 0))) := (hb.block w4.heap.size (blk_lt HYu6.out)).trans HYu6.out
      have HGw7 : Hid (w7.heap[w6.heap.size]? = some (.cells #[.int .u64 pi, .int .u64 pt, .string plf, .slice ad6 nn cp6] 36 (0, 0))) := (hb.block w6.heap.size (blk_lt HGu6.out)).trans HGu6.out
      have HOw7 : Hid (w7.ownsRow w3.heap.size 71 2 (.slice ad4 nn cp4) nn (paC vs 5 nn)) := own_full HOu6.out hb
      have HPw7 : Hid (w7.ownsRow w5.heap.size 71 2 (.slice ad6 nn cp6) nn (paC vs 5 nn)) := own_full HPu6.out hb
      have HVw7 : Hid (IsItems w7.heap.size w7 v5 vs) := (HVu6.out.below hb).up hb.size
      have HMw7 : Hid (MkS 1 vs.length 0 u4.heap.size w7 v5) := HMu6.out.below hb
      clear hb
      go_wp2_with fail
      refine (HIO.out _ HBw7.out).mono ?_
      rintro e w8 ⟨v8, rfl, hv8, _, hb⟩
      have HBw8 : Hid (Below w.heap.size w w8) := HBw7.out.trans (hb.mono HBw7.out.size)
      have HYw8 : Hid (w8.heap[w4.heap.size]? = some (.cells #[.int .u64 pi, .int .u64 pt, .string plf, .slice ad4 nn cp4] 36 (0, 0))) := (hb.block w4.heap.size (blk_lt HYw7.out)).trans HYw7.out
      have HGw8 : Hid (w8.heap[w6.heap.size]? = some (.cells #[.int .u64 pi, .int .u64 pt, .string plf, .slice ad6 nn cp6] 36 (0, 0))) := (hb.block w6.heap.size (blk_lt HGw7.out)).trans HGw7.out
      have HOw8 : Hid (w8.ownsRow w3.heap.size 71 2 (.slice ad4 nn cp4) nn (paC vs 5 nn)) := own_full HOw7.out hb
      have HPw8 : Hid (w8.ownsRow w5.heap.size 71 2 (.slice ad6 nn cp6) nn (paC vs 5 nn)) := own_full HPw7.out hb
      have HVw8 : Hid (IsItems w8.heap.size w8 v5 vs) := (HVw7.out.below hb).up hb.size
      have HMw8 : Hid (MkS 1 vs.length 0 u4.heap.size w8 v5) := HMw7.out.below hb
      have HV8 : Hid (IsItems w8.heap.size w8 v8 vs) := hv8
      clear hv8 hb
      go_wp2_with fail
      refine (eqItemS_same vs _ _ w8 HVw8.out HV8.out).mono ?_
      rintro e w9 ⟨rfl, hb⟩
      have HBw9 : Hid (Below w.heap.size w w9) := HBw8.out.trans (hb.mono HBw8.out.size)
      have HYw9 : Hid (w9.heap[w4.heap.size]? = some (.cells #[.int .u64 pi, .int .u64 pt, .string plf, .slice ad4 nn cp4] 36 (0, 0))) := (hb.block w4.heap.size (blk_lt HYw8.out)).trans HYw8.out
      have HGw9 : Hid (w9.heap[w6.heap.size]? = some (.cells #[.int .u64 pi, .int .u64 pt, .string plf, .slice ad6 nn cp6] 36 (0, 0))) := (hb.block w6.heap.size (blk_lt HGw8.out)).trans HGw8.out
      have HOw9 : Hid (w9.ownsRow w3.heap.size 71 2 (.slice ad4 nn cp4) nn (paC vs 5 nn)) := own_full HOw8.out hb
      have HPw9 : Hid (w9.ownsRow w5.heap.size 71 2 (.slice ad6 nn cp6) nn (paC vs 5 nn)) := own_full HPw8.out hb
      have HVw9 : Hid (IsItems w9.heap.size w9 v5 vs) := (HVw8.out.below hb).up hb.size
      have HMw9 : Hid (MkS 1 vs.length 0 u4.heap.size w9 v5) := HMw8.out.below hb
      clear hb
      go_wp2_with fail
      refine (markItemS_any 1 vs.length u4.heap.size v5 w9 (by decide) (by decide) (by omega) HMw9.out).mono ?_
      rintro e w10 ⟨⟨rfl, _⟩, hg⟩
      rw [HK5.out] at hg
      have hb : Below w.heap.size w9 w10 := gb_lowR hg (fun k e => by cases e; exact hq3) HBw9.out.size
      have HBw10 : Hid (Below w.heap.size w w10) := HBw9.out.trans hb
      have HYw10 : Hid (w10.heap[w4.heap.size]? = some (.cells #[.int .u64 pi, .int .u64 pt, .string plf, .slice ad4 nn cp4] 36 (0, 0))) := (hg.block w4.heap.size (blk_lt HYw9.out) (fun e => by have := Option.some.inj e; omega)).trans HYw9.out
      have HGw10 : Hid (w10.heap[w6.heap.size]? = some (.cells #[.int .u64 pi, .int .u64 pt, .string plf, .slice ad6 nn cp6] 36 (0, 0))) := (hg.block w6.heap.size (blk_lt HGw9.out) (fun e => by have := Option.some.inj e; omega)).trans HGw9.out
      have HOw10 : Hid (w10.ownsRow w3.heap.size 71 2 (.slice ad4 nn cp4) nn (paC vs 5 nn)) := own_keep HOw9.out hg (fun k e e2 => by have h1 := HL4.out k e; have := Option.some.inj e2; omega)
      have HPw10 : Hid (w10.ownsRow w5.heap.size 71 2 (.slice ad6 nn cp6) nn (paC vs 5 nn)) := own_keep HPw9.out hg (fun k e e2 => by have h1 := HL6.out k e; have := Option.some.inj e2; omega)
      obtain ⟨L1, hL1⟩ : ∃ L : Nat, 1 + 3 * vs.length = L := ⟨_, rfl⟩
      have hL1a : ¬ (L1 : Int) < 0 := by omega
      have hL1b : L1 ≤ 4000000 := by omega
      rw [hL1]
      clear hL1
      obtain ⟨g0, g1, g2, g3⟩ := quad_cells HGw10.out
      obtain ⟨y0, y1, y2, y3⟩ := quad_cells HYw10.out
      clear hb hg
      go_wp2_with fail
      clear g0 g1 g2 g3 y0 y1 y2 y3
      refine (eqCommit_same pi pt plf nn vs _ _ ad6 ad4 cp6 cp4 w10 hX2 HPw10.out HOw10.out).mono ?_
      rintro e w11 ⟨rfl, hb⟩
      have HBw11 : Hid (Below w.heap.size w w11) := HBw10.out.trans (hb.mono HBw10.out.size)
      have HYw11 : Hid (w11.heap[w4.heap.size]? = some (.cells #[.int .u64 pi, .int .u64 pt, .string plf, .slice ad4 nn cp4] 36 (0, 0))) := (hb.block w4.heap.size (blk_lt HYw10.out)).trans HYw10.out
      have HGw11 : Hid (w11.heap[w6.heap.size]? = some (.cells #[.int .u64 pi, .int .u64 pt, .string plf, .slice ad6 nn cp6] 36 (0, 0))) := (hb.block w6.heap.size (blk_lt HGw10.out)).trans HGw10.out
      have HOw11 : Hid (w11.ownsRow w3.heap.size 71 2 (.slice ad4 nn cp4) nn (paC vs 5 nn)) := own_full HOw10.out hb
      have HPw11 : Hid (w11.ownsRow w5.heap.size 71 2 (.slice ad6 nn cp6) nn (paC vs 5 nn)) := own_full HPw10.out hb
      obtain ⟨g0, g1, g2, g3⟩ := quad_cells HGw11.out
      clear hb
      go_wp2_with fail
      clear g0 g1 g2 g3
      refine (markCommit_any pi pt plf nn w5.heap.size ad6 cp6 w11 hX2 (MkQ.start HPw11.out)).mono ?_
      rintro e w12 ⟨⟨rfl, hmk⟩, hg⟩
      have hb : Below w.heap.size w11 w12 := gb_lowR hg (fun k e => by have := HL6.out k e; omega) HBw11.out.size
      have HBw12 : Hid (Below w.heap.size w w12) := HBw11.out.trans hb
      have HYw12 : Hid (w12.heap[w4.heap.size]? = some (.cells #[.int .u64 pi, .int .u64 pt, .string plf, .slice ad4 nn cp4] 36 (0, 0))) := (hg.block w4.heap.size (blk_lt HYw11.out) (fun e => by have := HL6.out _ e.symm; omega)).trans HYw11.out
      have HGw12 : Hid (w12.heap[w6.heap.size]? = some (.cells #[.int .u64 pi, .int .u64 pt, .string plf, .slice ad6 nn cp6] 36 (0, 0))) := (hg.block w6.heap.size (blk_lt HGw11.out) (fun e => by have := HL6.out _ e.symm; omega)).trans HGw11.out
      have HOw12 : Hid (w12.ownsRow w3.heap.size 71 2 (.slice ad4 nn cp4) nn (paC vs 5 nn)) := own_keep HOw11.out hg (fun k e e2 => by have h1 := HL4.out k e; have h2 := HL6.out k e2; omega)
      have HRw12 : Hid (MkQ 1 nn nn w5.heap.size w12 (.slice ad6 nn cp6)) := hmk
      obtain ⟨L, hL⟩ : ∃ L : Nat, 1 + 2 * nn = L := ⟨_, rfl⟩
      have HLE : Hid (1 + 2 * nn = L) := hL
      have hLa : ¬ (L : Int) < 0 := by omega
      have hLb : L ≤ 2001 := by omega
      rw [hL]
      clear hL
      have HH : Hid (∀ w', MkQ 1 nn nn w5.heap.size w' (.slice ad6 nn cp6) → Calls Tryz.prog 18 #[.agg #[.int .u64 pi, .int .u64 pt, .string plf, .slice ad6 nn cp6], .int .i64 1] w' fun e w'' => e = .returned (.int .i64 (L : Int)) ∧ Below w'.heap.size w' w'') := fun w' h => by have := heldCommit_any pi pt plf nn _ ad6 cp6 w' hX2 h; rw [HLE.out] at this; exact this
      obtain ⟨g0, g1, g2, g3⟩ := quad_cells HGw12.out
      clear hb hg hmk
      go_wp2_with fail
      clear g0 g1 g2 g3
      refine (HH.out _ HRw12.out).mono ?_
      rintro e w13 ⟨rfl, hb⟩
      have HBw13 : Hid (Below w.heap.size w w13) := HBw12.out.trans (hb.mono HBw12.out.size)
      have HYw13 : Hid (w13.heap[w4.heap.size]? = some (.cells #[.int .u64 pi, .int .u64 pt, .string plf, .slice ad4 nn cp4] 36 (0, 0))) := (hb.block w4.heap.size (blk_lt HYw12.out)).trans HYw12.out
      have HGw13 : Hid (w13.heap[w6.heap.size]? = some (.cells #[.int .u64 pi, .int .u64 pt, .string plf, .slice ad6 nn cp6] 36 (0, 0))) := (hb.block w6.heap.size (blk_lt HGw12.out)).trans HGw12.out
      have HOw13 : Hid (w13.ownsRow w3.heap.size 71 2 (.slice ad4 nn cp4) nn (paC vs 5 nn)) := own_full HOw12.out hb
      have HRw13 : Hid (MkQ 1 nn nn w5.heap.size w13 (.slice ad6 nn cp6)) := HRw12.out.below hb
      clear hb
      go_wp2_with fail
      refine (HIO.out _ HBw13.out).mono ?_
      rintro e w14 ⟨v14, rfl, hv14, _, hb⟩
      have HBw14 : Hid (Below w.heap.size w w14) := HBw13.out.trans (hb.mono HBw13.out.size)
      have HYw14 : Hid (w14.heap[w4.heap.size]? = some (.cells #[.int .u64 pi, .int .u64 pt, .string plf, .slice ad4 nn cp4] 36 (0, 0))) := (hb.block w4.heap.size (blk_lt HYw13.out)).trans HYw13.out
      have HGw14 : Hid (w14.heap[w6.heap.size]? = some (.cells #[.int .u64 pi, .int .u64 pt, .string plf, .slice ad6 nn cp6] 36 (0, 0))) := (hb.block w6.heap.size (blk_lt HGw13.out)).trans HGw13.out
      have HOw14 : Hid (w14.ownsRow w3.heap.size 71 2 (.slice ad4 nn cp4) nn (paC vs 5 nn)) := own_full HOw13.out hb
      have HRw14 : Hid (MkQ 1 nn nn w5.heap.size w14 (.slice ad6 nn cp6)) := HRw13.out.below hb
      have HV14 : Hid (IsItems w14.heap.size w14 v14 vs) := hv14
      clear hv14 hb
      go_wp2_with fail
      refine (HIM.out _ _ HV14.out (HEV.out.below HBw14.out)).mono ?_
      rintro e w15 ⟨⟨ad15, cp15, rfl, ho⟩, hb0⟩
      obtain ⟨u15, hu⟩ : ∃ u, w15.alloc (.cells #[.int .u64 pi, .int .u64 pt, .string plf, .slice ad15 nn cp15] 36) = u := ⟨_, rfl⟩
      have hb : Below w14.heap.size w14 u15 := by rw [← hu]; exact hb0.trans ((bel1 w15 _).mono hb0.size)
      have HBu15 : Hid (Below w.heap.size w u15) := HBw14.out.trans (hb.mono HBw14.out.size)
      have HYu15 : Hid (u15.heap[w4.heap.size]? = some (.cells #[.int .u64 pi, .int .u64 pt, .string plf, .slice ad4 nn cp4] 36 (0, 0))) := (hb.block w4.heap.size (blk_lt HYw14.out)).trans HYw14.out
      have HGu15 : Hid (u15.heap[w6.heap.size]? = some (.cells #[.int .u64 pi, .int .u64 pt, .string plf, .slice ad6 nn cp6] 36 (0, 0))) := (hb.block w6.heap.size (blk_lt HGw14.out)).trans HGw14.out
      have HOu15 : Hid (u15.ownsRow w3.heap.size 71 2 (.slice ad4 nn cp4) nn (paC vs 5 nn)) := own_full HOw14.out hb
      have HRu15 : Hid (MkQ 1 nn nn w5.heap.size u15 (.slice ad6 nn cp6)) := HRw14.out.below hb
      have HKu15 : Hid (u15.heap[w15.heap.size]? = some (.cells #[.int .u64 pi, .int .u64 pt, .string plf, .slice ad15 nn cp15] 36 (0, 0))) := by show _ = _; rw [← hu]; exact heap_alloc_new w15 _
      have HQu15 : Hid (u15.ownsRow w14.heap.size 71 2 (.slice ad15 nn cp15) nn (paC vs 5 nn)) := by show World.ownsRow _ _ _ _ _ _ _; rw [← hu]; exact own_full ho (bel1 _ _)
      have HL15 : Hid (∀ q, (Value.slice ad15 nn cp15).ownBlock = some q → w14.heap.size ≤ q ∧ q < w15.heap.size) := fun q hq => World.ownsRow.lt ho q hq
      obtain ⟨g0, g1, g2, g3⟩ := quad_cells HKu15.out
      obtain ⟨y0, y1, y2, y3⟩ := quad_cells HYu15.out
      clear hb hb0 ho
      go_wp2_with fail
      clear hu g0 g1 g2 g3 y0 y1 y2 y3
      refine (eqCommit_same pi pt plf nn vs _ _ ad15 ad4 cp15 cp4 u15 hX2 HQu15.out HOu15.out).mono ?_
      rintro e w16 ⟨rfl, hb⟩
      have HBw16 : Hid (Below w.heap.size w w16) := HBu15.out.trans (hb.mono HBu15.out.size)
      have HYw16 : Hid (w16.heap[w4.heap.size]? = some (.cells #[.int .u64 pi, .int .u64 pt, .string plf, .slice ad4 nn cp4] 36 (0, 0))) := (hb.block w4.heap.size (blk_lt HYu15.out)).trans HYu15.out
      have HGw16 : Hid (w16.heap[w6.heap.size]? = some (.cells #[.int .u64 pi, .int .u64 pt, .string plf, .slice ad6 nn cp6] 36 (0, 0))) := (hb.block w6.heap.size (blk_lt HGu15.out)).trans HGu15.out
      have HKw16 : Hid (w16.heap[w15.heap.size]? = some (.cells #[.int .u64 pi, .int .u64 pt, .string plf, .slice ad15 nn cp15] 36 (0, 0))) := (hb.block w15.heap.size (blk_lt HKu15.out)).trans HKu15.out
      have HOw16 : Hid (w16.ownsRow w3.heap.size 71 2 (.slice ad4 nn cp4) nn (paC vs 5 nn)) := own_full HOu15.out hb
      have HQw16 : Hid (w16.ownsRow w14.heap.size 71 2 (.slice ad15 nn cp15) nn (paC vs 5 nn)) := own_full HQu15.out hb
      have HRw16 : Hid (MkQ 1 nn nn w5.heap.size w16 (.slice ad6 nn cp6)) := HRu15.out.below hb
      obtain ⟨g0, g1, g2, g3⟩ := quad_cells HGw16.out
      clear hb
      go_wp2_with fail
      clear g0 g1 g2 g3
      refine (HH.out _ HRw16.out).mono ?_
      rintro e w17 ⟨rfl, hb⟩
      have HBw17 : Hid (Below w.heap.size w w17) := HBw16.out.trans (hb.mono HBw16.out.size)
      clear hb
      go_wp2_with fail
      go_ret
      exact ⟨rfl, HBw17.out⟩
end Go.Proofs.YtelbmcgpelkakaaGreatDoor.fnExactCommitOf
