/- parseValue: contract. -/
import Derived.Test.YtepffjfgomhepaaGreatDoorS3c
namespace Go.Proofs.YtepffjfgomhepaaGreatDoor
open Go.RowKit Go.Sort
set_option linter.unusedVariables false
theorem parse_zero (ts : List (Int × Int)) (vs : List It) (b o C : Nat) : PvHyp ts vs b o C 0 := fun a q u S0 v w ht => ht.elim
theorem cells_re3 {w : World} {a : Addr} {v : Value} (h : w.cell? a = some v) : ∀ d os, (grow (redrawn w d) os).cell? a = some v := fun d os => cell_regrown h d os
set_option maxRecDepth 100000 in
set_option maxHeartbeats 4000000 in
/-- Where v has no item, or one that does not fit. -/
theorem parse_no (ts : List (Int × Int)) (vs : List It) (b o C f : Nat) (a q u : Nat) (S0 : Nat → Prop) (v : Value) (w : World) (ht : TreeAt ts (f + 1) w S0 u a) (hI : ItemsAt w.heap.size w b o C vs) (hq : q ≤ vs.length) (hv : FromQ b o C vs q v)
    (ha : a < ts.length) (hno : ∀ h : q < vs.length, fitsI ts[a].1 ts[a].2 vs[q] = false) :
    Calls Tryz.prog 53 #[.pointer (some ⟨u, 0, none⟩), v] w fun e w' => PvPost ts vs (f + 1) a q b o C S0 w e w' := by
  obtain ⟨_, e0, ad0, cap0, hok, _, _, c0, c1, _⟩ := ht.openT
  by_cases hqe : q < vs.length
  · have HR : Hid (ve ts vs (f + 1) a q = none) := ve_bad ha hqe (hno hqe)
    have hvv := hv.at hqe
    obtain ⟨i0, i1, i2⟩ := hI.cells q hqe
    obtain ⟨wk, wn, ws⟩ := hI.wf vs[q] (List.getElem_mem hqe)
    have hfi := hno hqe
    have HNF : Hid (∀ w, Calls Tryz.prog 80 #[.agg #[.int .i64 ts[a].1, .int .i64 ts[a].2], .int .u64 vs[q].n] w fun e w' => e = .returned (.bool (fitsN ts[a].1 ts[a].2 vs[q].n)) ∧ Below w.heap.size w w') := fun w => numberFits_any _ _ _ w hok wn
    have HBF : Hid (∀ w, Calls Tryz.prog 81 #[.agg #[.int .i64 ts[a].1, .int .i64 ts[a].2], .string vs[q].s] w fun e w' => e = .returned (.bool (fitsS ts[a].1 ts[a].2 vs[q].s.size)) ∧ Below w.heap.size w w') := fun w => bytesFit_any _ _ _ w hok ws
    have hl1 : 1 ≤ vs.length - q := by omega
    have hl2 : vs.length - q ≤ C - q := by have := hI.room; omega
    have hl3 : C - q ≤ 9223372036854775807 := by have := hI.most; unfold maxLen at this; omega
    unfold fitsI at hfi
    generalize ts[a].1 = k at *
    generalize ts[a].2 = n at *
    generalize vs[q] = it at *
    obtain ⟨ik, im, is⟩ := it
    simp only at i0 i1 i2 hfi HNF HBF wk wn ws
    generalize vs.length - q = l at *
    generalize C - q = cc at *
    subst hvv
    have r0 := cells_re3 c0
    have r1 := cells_re3 c1
    have s0 := cells_re3 i0
    have s1 := cells_re3 i1
    have s2 := cells_re3 i2
    have hl0 : ((l : Int) == 0) = false := beqF (by omega)
    have hli : (0 : Int) < (l : Int) := by omega
    clear c0 c1 i0 i1 i2 ht hI hv hno hok wk wn ws
    by_cases hk : ik = k
    · subst hk
      have hkk : (ik != ik) = false := by simp
      cases hfn : fitsN ik n im with
      | false =>
        rw [hfn] at HNF
        clear hfi hfn
        go_enter Tryz.func53, Tryz.ntmps53
        go_wp2_with fail
        refine wp_region_quiet_below (by kernel_rfl) (by kernel_rfl) ?_
        repeat (go_big_quiet_step (exact Calls.regrown_of (HNF.out _)))
        refine wpQuiet_nil ?_
        intro w6 hw'
        obtain ⟨⟨dq, osq⟩, hw''⟩ := hw'
        have hb2 : Below w.heap.size w w6 := by rw [hw'']; exact below_regrown _ dq osq
        clear hw'' r0 r1 s0 s1 s2
        go_wp2_with fail
        go_ret3
        exact ⟨hb2, .inl ⟨HR.out, _, .inl rfl, rfl⟩⟩
      | true =>
        have hfs : fitsS ik n is.size = false := by simpa [hfn] using hfi
        rw [hfn] at HNF
        rw [hfs] at HBF
        clear hfi hfn hfs
        go_enter Tryz.func53, Tryz.ntmps53
        go_wp2_with fail
        refine wp_region_quiet_below (by kernel_rfl) (by kernel_rfl) ?_
        repeat (go_big_quiet_step (first | (go_at_call 80; exact Calls.regrown_of (HNF.out _)) | (go_at_call 81; exact Calls.regrown_of (HBF.out _))))
        refine wpQuiet_nil ?_
        intro w6 hw'
        obtain ⟨⟨dq, osq⟩, hw''⟩ := hw'
        have hb2 : Below w.heap.size w w6 := by rw [hw'']; exact below_regrown _ dq osq
        clear hw'' r0 r1 s0 s1 s2
        go_wp2_with fail
        go_ret3
        exact ⟨hb2, .inl ⟨HR.out, _, .inl rfl, rfl⟩⟩
    · have hkk : (ik != k) = true := by rw [bne_iff_ne]; exact hk
      clear hfi hk
      go_enter Tryz.func53, Tryz.ntmps53
      go_wp2_with fail
      refine wp_region_quiet_below (by kernel_rfl) (by kernel_rfl) ?_
      repeat (go_big_quiet_step (fail))
      refine wpQuiet_nil ?_
      intro w6 hw'
      obtain ⟨⟨dq, osq⟩, hw''⟩ := hw'
      have hb2 : Below w.heap.size w w6 := by rw [hw'']; exact below_regrown _ dq osq
      clear hw'' r0 r1 s0 s1 s2
      go_wp2_with fail
      go_ret3
      exact ⟨hb2, .inl ⟨HR.out, _, .inl rfl, rfl⟩⟩
  · have HR : Hid (ve ts vs (f + 1) a q = none) := ve_end (by omega)
    obtain ⟨ad, rfl, _⟩ := hv
    have hl : vs.length - q = 0 := by omega
    rw [hl]
    clear c0 c1 ht hI hno hok hl hqe
    go_enter Tryz.func53, Tryz.ntmps53
    go_wp2_with fail
    refine wp_region_quiet_below (by kernel_rfl) (by kernel_rfl) ?_
    repeat (go_big_quiet_step (fail))
    refine wpQuiet_nil ?_
    intro w6 hw'
    obtain ⟨⟨dq, osq⟩, hw''⟩ := hw'
    have hb2 : Below w.heap.size w w6 := by rw [hw'']; exact below_regrown _ dq osq
    clear hw''
    go_wp2_with fail
    go_ret3
    exact ⟨hb2, .inl ⟨HR.out, _, .inl rfl, rfl⟩⟩
end Go.Proofs.YtepffjfgomhepaaGreatDoor
