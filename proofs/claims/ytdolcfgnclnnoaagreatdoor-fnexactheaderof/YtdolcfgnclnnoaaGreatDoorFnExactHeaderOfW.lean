/- Whatever its arguments, laws.FnExactHeaderOf returns true and leaves them, and the table that it reads, as they were; the table starts as the program's text lays it. -/
import Derived.Test.YtdolcfgnclnnoaaGreatDoorCards
import Derived.Test.YtdolcfgnclnnoaaGreatDoorTie
import Derived.Test.YtdolcfgnclnnoaaGreatDoorSNf
import Derived.Test.YtdolcfgnclnnoaaGreatDoorSRk
import Derived.Test.YtdolcfgnclnnoaaGreatDoorS2k
import Derived.SevenTiedAt
import Derived.Lay
namespace Go.Proofs.YtdolcfgnclnnoaaGreatDoor.fnExactHeaderOf
open Go.ChangeShapes Go.WideShapes Go.ChangeAt Go.RowKit
open Go.ChangeMaps (open_string shut_string)
set_option linter.unusedVariables false

set_option maxRecDepth 100000 in
set_option maxHeartbeats 2000000 in
theorem walk (a0 : Option Addr) (len0 cap0 : Nat) (w : World) (w0 : ArgItems w a0 len0 cap0) (hev : EV w) :
    Calls Tryz.prog 4 #[.slice a0 len0 cap0] w fun e w' => e = .returned (.bool true) ∧ Below w.heap.size w w' := by
  obtain ⟨g1, g2, vs, hvs, hraw⟩ := w0
  have HEV : Hid (EV w) := hev
  by_cases hs1 : 1048576 < len0
  · have HY : Hid (∀ w, Calls Tryz.prog 18 #[.slice a0 len0 cap0, .int .i64 (1048576 : Nat)] w fun e w' => e = .returned (.int .i64 (-1)) ∧ Below w.heap.size w w') := fun w => szItemS_big a0 len0 cap0 1048576 w (Nat.le_refl _) (by omega) hs1
    clear hraw hvs hev
    go_enter Tryz.func4, Tryz.ntmps4
    go_wp2_with fail
    refine (HY.out _).mono ?_
    rintro e w2 ⟨rfl, hb2⟩
    go_wp2_with fail
    go_ret
    exact ⟨rfl, hb2⟩
  · subst hvs
    have HY : Hid (Calls Tryz.prog 18 #[.slice a0 vs.length cap0, .int .i64 (1048576 : Nat)] w fun e w' => (∃ r : Int, e = .returned (.int .i64 r) ∧ (r = -1 ∨ (0 ≤ r ∧ ∀ x ∈ vs, x.s.size ≤ 1048577))) ∧ Below w.heap.size w w') := szItemS_any vs a0 cap0 1048576 w (Nat.le_refl _) g1 g2 (by omega) hraw
    have HRW : Hid (RawItems w a0 vs) := hraw
    have hvl : vs.length ≤ 1048577 := by omega
    clear hraw hev
    go_enter Tryz.func4, Tryz.ntmps4
    go_wp2_with fail
    refine Calls.mono HY.out ?_
    rintro e w2 ⟨⟨r, rfl, hr | ⟨hr, hall⟩⟩, hb2⟩
    · subst hr
      go_wp2_with fail
      go_ret
      exact ⟨rfl, hb2⟩
    · have HI : Hid (IsItems w.heap.size w (.slice a0 vs.length cap0) vs) := HRW.out.items hvl g1 g2 hall
      have HB2 : Hid (Below w.heap.size w w2) := hb2
      have hr' : ¬ r < 0 := by omega
      clear hall hb2 HY HRW
      have HIO : Hid (∀ w', Below w.heap.size w w' → Calls Tryz.prog 20 #[.slice a0 vs.length cap0] w' fun e w'' => ∃ v', e = .returned v' ∧ IsItems w''.heap.size w'' v' vs ∧ Below w'.heap.size w' w'') := fun w' hb => toItemS_any vs _ w' ((HI.out.below hb).up hb.size)
      obtain ⟨qa, qc, qd, qf, qg, qq, hq⟩ := hdR_form vs
      have HSP : Hid (∀ w' v', IsItems w'.heap.size w' v' vs → Calls Tryz.prog 19 #[v'] w' fun e w'' => e = .returned (.tuple #[.agg #[.int .u64 qa, .int .u64 qc, .string qd, .string qf, .string qg], .bool qq]) ∧ Below w'.heap.size w' w'') := fun w' v' h => by rw [← hq]; exact specHeaderOf_any vs v' w' h
      have HIM : Hid (∀ w' v', IsItems w'.heap.size w' v' vs → EV w' → Calls Tryz.prog 21 #[v'] w' fun e w'' => e = .returned (.tuple #[.agg #[.int .u64 qa, .int .u64 qc, .string qd, .string qf, .string qg], .bool qq]) ∧ Below w'.heap.size w' w'') := fun w' v' h he => by rw [← hq]; exact implHeaderOf_any vs v' w' h he
      clear hq
      go_wp2_with fail
      refine (HIO.out _ HB2.out).mono ?_
      rintro e w3 ⟨v3, rfl, hv3, hb3⟩
      have HB3 : Hid (Below w.heap.size w w3) := HB2.out.trans (hb3.mono HB2.out.size)
      have HV3 : Hid (IsItems w3.heap.size w3 v3 vs) := hv3
      clear hv3 hb3
      go_wp2_with fail
      refine (HSP.out _ _ HV3.out).mono ?_
      rintro e w4 ⟨rfl, hb4⟩
      have HB4 : Hid (Below w.heap.size w w4) := HB3.out.trans (hb4.mono HB3.out.size)
      clear hb4
      go_wp2_with fail
      have hs4 : w.heap.size ≤ w4.heap.size := HB4.out.size
      refine (HIO.out _ (HB4.out.alloc hs4 _)).mono ?_
      rintro e w5 ⟨v5, rfl, hv5, hb5⟩
      have HB5 : Hid (Below w.heap.size w w5) := (HB4.out.alloc hs4 (.cells #[.int .u64 qa, .int .u64 qc, .string qd, .string qf, .string qg] 28)).trans (hb5.mono (by simp; omega))
      have hK5 : w5.heap[w4.heap.size]? = some (.cells #[.int .u64 qa, .int .u64 qc, .string qd, .string qf, .string qg] 28 (0, 0)) := (hb5.block w4.heap.size (by simp)).trans (heap_alloc_new w4 _)
      have HV5 : Hid (IsItems w5.heap.size w5 v5 vs) := hv5
      clear hv5 hb5
      go_wp2_with fail
      refine (HIM.out _ _ HV5.out (HEV.out.below HB5.out)).mono ?_
      rintro e w6 ⟨rfl, hb6⟩
      have HB6 : Hid (Below w.heap.size w w6) := HB5.out.trans (hb6.mono HB5.out.size)
      have HV6 : Hid (IsItems w6.heap.size w6 v5 vs) := (HV5.out.below hb6).up hb6.size
      have hK6 : w6.heap[w4.heap.size]? = some (.cells #[.int .u64 qa, .int .u64 qc, .string qd, .string qf, .string qg] 28 (0, 0)) := (hb6.block w4.heap.size (blk_lt hK5)).trans hK5
      have hs6 : w4.heap.size < w6.heap.size := blk_lt hK6
      have hK7 : (w6.alloc (.cells #[.int .u64 qa, .int .u64 qc, .string qd, .string qf, .string qg] 28)).heap[w4.heap.size]? = some (.cells #[.int .u64 qa, .int .u64 qc, .string qd, .string qf, .string qg] 28 (0, 0)) := by rw [Below.heap_alloc _ _ _ hs6]; exact hK6
      have hK8 : (w6.alloc (.cells #[.int .u64 qa, .int .u64 qc, .string qd, .string qf, .string qg] 28)).heap[w6.heap.size]? = some (.cells #[.int .u64 qa, .int .u64 qc, .string qd, .string qf, .string qg] 28 (0, 0)) := heap_alloc_new w6 _
      clear hb6 hK5 hK6
      go_wp2_with (first | (refine wpList_load_row rfl 28 _ rfl w4.heap.size rfl _ _ _ _ hK7 Tryz.underlying28 rfl Tryz.szHdr ?_) | (refine wpList_load_row rfl 28 _ rfl w6.heap.size rfl _ _ _ _ hK8 Tryz.underlying28 rfl Tryz.szHdr ?_))
      refine (eqHeader_same qa qc qd qf qg _).mono ?_
      rintro e w7 ⟨rfl, hb7⟩
      have hA6 : Below w6.heap.size w6 w7 := (bel1 w6 _).trans (hb7.mono (by simp))
      have HB7 : Hid (Below w.heap.size w w7) := HB6.out.trans (hA6.mono HB6.out.size)
      have HV7 : Hid (IsItems w7.heap.size w7 v5 vs) := (HV6.out.below hA6).up hA6.size
      clear hb7 hA6 hK7 hK8
      have hqq : (qq == qq) = true := by simp
      go_wp2_with fail
      all_goals
        refine (HIO.out _ HB7.out).mono ?_
        rintro e w8 ⟨v8, rfl, hv8, hb8⟩
        have HB8 : Hid (Below w.heap.size w w8) := HB7.out.trans (hb8.mono HB7.out.size)
        have HV8 : Hid (IsItems w8.heap.size w8 v8 vs) := hv8
        have HV9 : Hid (IsItems w8.heap.size w8 v5 vs) := (HV7.out.below hb8).up hb8.size
        clear hv8 hb8
        go_wp2_with fail
        refine (eqItemS_same vs _ _ w8 HV9.out HV8.out).mono ?_
        rintro e w9 ⟨rfl, hb9⟩
        have HB9 : Hid (Below w.heap.size w w9) := HB8.out.trans (hb9.mono HB8.out.size)
        clear hb9
        go_wp2_with fail
        go_ret
        exact ⟨rfl, HB9.out⟩
end Go.Proofs.YtdolcfgnclnnoaaGreatDoor.fnExactHeaderOf
