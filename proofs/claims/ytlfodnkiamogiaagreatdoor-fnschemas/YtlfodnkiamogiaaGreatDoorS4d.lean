/- The program's text of a type: contract. -/
import Derived.Test.YtlfodnkiamogiaaGreatDoorS4a
import Derived.Test.YtlfodnkiamogiaaGreatDoorSh
import Derived.Test.YtlfodnkiamogiaaGreatDoorS2h
import Derived.Lib.QuietBelow
import Derived.BigQuiet
import Derived.Lib.AppendIntMem
namespace Go.Proofs.YtlfodnkiamogiaaGreatDoor
open Go.RowKit Go.Sort
set_option linter.unusedVariables false
/-- The library's table lies in memory as its text lays it. -/
def PW (w : World) : Prop := Lib.TabIs Tryz.prog w "internal/strconv.uint64pow10" .u64 Lib.pow10Tab
theorem Tryz.gPW : Tryz.prog.globalNamed "internal/strconv.uint64pow10" = some 1 := by kernel_rfl
theorem PW.below {w w' : World} (h : PW w) (hb : Below w.heap.size w w') : PW w' := by
  unfold PW Lib.TabIs World.var? at h ⊢
  rw [Tryz.gPW] at h ⊢
  simp only [Option.bind_some] at h ⊢
  have hlt : 1 < w.heap.size := by
    rcases Nat.lt_or_ge 1 w.heap.size with h' | h'
    · exact h'
    · rw [Array.getElem?_eq_none h'] at h; cases h
  rw [hb.block _ hlt]
  exact h
theorem cells_re4 {w : World} {a : Addr} {v : Value} (h : w.cell? a = some v) : ∀ d os, (grow (redrawn w d) os).cell? a = some v := fun d os => cell_regrown h d os
theorem FormatInt_any (N : Nat) (w : World) (hN : N ≤ 200) (hw : PW w) : Calls Tryz.prog 29 #[.int .i64 N, .int .i64 10] w fun e w' => e = .returned (.string ⟨(Lib.decDigits N).toArray⟩) ∧ Below w.heap.size w w' := by
  refine (Tryz.strconv_FormatInt_10 (N : Int) (by omega) (by omega) w hw).mono ?_
  rintro e w' ⟨rfl, k, os, rfl⟩
  refine ⟨?_, Lib.below_grow _ w (Nat.le_refl _) k os⟩
  have : Lib.itoa (N : Int) = Lib.decDigits N := by unfold Lib.itoa; rw [if_neg (by omega)]; rfl
  rw [this]
set_option maxRecDepth 100000 in
set_option maxHeartbeats 2000000 in
theorem typText_any (k n : Int) (w : World) (hok : tyOk k n = true) (hw : KR w) (hp : PW w) : Calls Tryz.prog 15 #[.agg #[.int .i64 k, .int .i64 n]] w fun e w' => e = .returned (.string ⟨(tyText k n).toArray⟩) ∧ Below w.heap.size w w' := by
  obtain ⟨hk1, hk9, hn0, hn200⟩ := tyOk_in hok
  obtain ⟨N, rfl⟩ := Int.eq_ofNat_of_zero_le hn0
  obtain ⟨D, hD⟩ : ∃ D : ByteArray, (⟨(Lib.decDigits N).toArray⟩ : ByteArray) = D := ⟨_, rfl⟩
  have HF : Hid (∀ w', Below w.heap.size w w' → Calls Tryz.prog 29 #[.int .i64 N, .int .i64 10] w' fun e w'' => e = .returned (.string D) ∧ Below w'.heap.size w' w'') := fun w' hb => by rw [← hD]; exact FormatInt_any N w' (by omega) (hp.below hb)
  have HDL : Hid (D.data.toList = Lib.decDigits N) := by show _ = _; rw [← hD]
  have hdl : D.size ≤ 3 := by have h1 := dec_len (u := N) (by omega); rw [← HDL.out] at h1; exact h1
  obtain ⟨h0, t, fr, hg⟩ := hw
  have hg1 : (w.alloc (.cells #[.int .i64 k, .int .i64 N] 34)).heap[0]? = some (.cells kc t fr) := by rw [Below.heap_alloc _ _ _ h0]; exact hg
  have HG : Hid (w.heap[0]? = some (.cells kc t fr)) := hg
  clear hg hok hD hp
  go_enter Tryz.func15, Tryz.ntmps15
  go_wp2_with (refine wpList_load_row rfl 54 _ rfl 0 rfl t kc fr _ hg1 Tryz.underlying54 rfl Tryz.infoKR ?_)
  have hbB : Below w.heap.size w (w.alloc (.cells #[.int .i64 k, .int .i64 N] 34)) := bel1 _ _
  go_loopg [6] 9 (fun gk i wr => ∃ j : Nat, j + gk = 9 ∧ i = .int .i64 j ∧ ¬ (1 ≤ k ∧ k ≤ j) ∧ Below (w.heap.size + 1) (w.alloc (.cells #[.int .i64 k, .int .i64 N] 34)) wr)
  case atStart => exact ⟨0, rfl, rfl, by omega, Below.refl _ _⟩
  case round =>
    obtain ⟨j, hj', rfl, hno, hb⟩ := hrel
    have HJ : Hid (j + gk = 9) := hj'
    have c0 : wr.cell? ⟨w.heap.size, 0, none⟩ = some (.int .i64 k) := by rw [hb.cell (p := ⟨w.heap.size, 0, none⟩) (by simp)]; simp [go_sem]
    have c1 : wr.cell? ⟨w.heap.size, 1, none⟩ = some (.int .i64 N) := by rw [hb.cell (p := ⟨w.heap.size, 1, none⟩) (by simp)]; simp [go_sem]
    have hsz : w.heap.size < wr.heap.size := by have := hb.size; simp at this; omega
    have hbw : Below w.heap.size w wr := hbB.trans (hb.mono (by omega))
    by_cases hlt : j < 9
    · have hix := kr_at j hlt
      by_cases hkj : (j : Int) + 1 = k
      · have HT : Hid (tyText k N = (rs j).data.toList ++ (if rb j then Lib.decDigits N else [])) := by
          show _ = _
          unfold tyText
          have e : k.toNat - 1 = j := by omega
          rw [e]
          rfl
        have hq : ((j : Int) + 1 != k) = false := by simp [hkj]
        have hrl : (rs j).size ≤ 6 := rs_len j
        clear hkj hno hj' hbB hb
        generalize rlo j = lo at *
        generalize rhi j = hi at *
        generalize rs j = ss at *
        generalize rb j = sb at *
        cases sb with
        | true =>
          have HE : Hid (ss ++ D = ⟨(tyText k N).toArray⟩) := by show _ = _; apply str_of; rw [cat_dl, HDL.out, HT.out]; rfl
          go_wp2_with fail
          obtain ⟨W, hW⟩ : ∃ W, wr.alloc (.cells #[.int .i64 ((j : Int) + 1), .string ss, .bool true, .int .i64 lo, .int .i64 hi] 53) = W := ⟨_, rfl⟩
          have hbW : Below w.heap.size w W := by rw [← hW]; exact hbw.alloc (by omega) _
          have r1 : ∀ d os, (grow (redrawn W d) os).cell? ⟨wr.heap.size, 1, none⟩ = some (.string ss) := cells_re4 (by rw [← hW]; simp [go_sem])
          have hbb : Below wr.heap.size wr W := by rw [← hW]; exact bel1 _ _
          have r2 : ∀ d os, (grow (redrawn W d) os).cell? ⟨w.heap.size, 1, none⟩ = some (.int .i64 N) := cells_re4 (by rw [hbb.cell (p := ⟨w.heap.size, 1, none⟩) hsz]; exact c1)
          rw [hW]
          have HBW : Hid (Below w.heap.size w W) := hbW
          clear hW hbb hbW hbw c0 c1
          refine wp_region_quiet_below (by kernel_rfl) (by kernel_rfl) ?_
          repeat (go_big_quiet_step (exact Calls.regrown_of (HF.out _ (HBW.out.trans ((below_regrown W _ _).mono HBW.out.size)))))
          refine wpQuiet_nil ?_
          intro w6 hw'
          obtain ⟨⟨dq, osq⟩, hw''⟩ := hw'
          have hb6 : Below w.heap.size w w6 := by rw [hw'']; exact HBW.out.trans ((below_regrown W dq osq).mono HBW.out.size)
          clear hw'' r1 r2
          go_wp2_with fail
          go_ret
          exact ⟨by rw [← HE.out]; first | rfl | simp, hb6⟩
        | false =>
          have HE : Hid (ss = ⟨(tyText k N).toArray⟩) := by show _ = _; apply str_of; rw [HT.out]; simp
          go_wp2_with fail
          go_ret
          exact ⟨by rw [← HE.out]; try rfl, hbw.alloc (by omega) _⟩
      · have hq : ((j : Int) + 1 != k) = true := by rw [bne_iff_ne]; exact hkj
        have hno' : ¬ (1 ≤ k ∧ k ≤ ((j + 1 : Nat) : Int)) := by omega
        have HN : Hid (¬ (1 ≤ k ∧ k ≤ ((j + 1 : Nat) : Int))) := hno'
        clear hkj hno hj' hbB hno'
        generalize rlo j = lo at *
        generalize rhi j = hi at *
        generalize rs j = ss at *
        generalize rb j = sb at *
        go_wp2_with fail
        go_roundg (gk - 1)
        case rel => exact ⟨j + 1, by have := HJ.out; omega, by go_num, HN.out, hb.alloc (by omega) _⟩
        case measure => have := HJ.out; omega
    · omega
end Go.Proofs.YtlfodnkiamogiaaGreatDoor
