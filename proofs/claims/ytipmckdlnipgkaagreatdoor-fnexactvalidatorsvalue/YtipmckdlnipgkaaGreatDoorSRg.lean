/- The program's reading of a type: contract. -/
import Derived.Test.YtipmckdlnipgkaaGreatDoorSRf
namespace Go.Proofs.YtipmckdlnipgkaaGreatDoor
open Go.RowKit Go.Sort
set_option linter.unusedVariables false
def RtP (s : List UInt8) (k n : Int) (b : Bool) : Prop := inI k ∧ inI n ∧ (b = true → tyOk k n = true → s = tyText k n) ∧ ∀ k' n', tyOk k' n' = true → s = tyText k' n' → b = true ∧ k = k' ∧ n = n'
def RtE (s : List UInt8) (e : Ending) : Prop := ∃ k n b, e = .returned (.tuple #[.agg #[.int .i64 k, .int .i64 n], .bool b]) ∧ RtP s k n b
theorem cut_no {s a t : List UInt8} (h : Lib.hasPrefix s a = false) : s ≠ a ++ t := by
  intro e
  have : a.isPrefixOf s = true := List.isPrefixOf_iff_prefix.2 ⟨t, e.symm⟩
  unfold Lib.hasPrefix at h
  rw [this] at h
  cases h
theorem cut_yes {s a : List UInt8} (h : Lib.hasPrefix s a = true) : s = a ++ Lib.trimPrefix s a := by
  obtain ⟨t, ht⟩ := List.isPrefixOf_iff_prefix.1 h
  unfold Lib.trimPrefix
  rw [if_pos h, ← ht]
  simp
theorem rt_word {s : List UInt8} {j : Nat} (hj : j < 9) (hb : rb j = false) (hs : s = (rs j).data.toList) : RtP s ((j : Int) + 1) 0 true := by
  have e : ((j : Int) + 1).toNat - 1 = j := by omega
  refine ⟨⟨by omega, by omega⟩, ⟨by decide, by decide⟩, fun _ _ => ?_, fun k' n' hk he => ?_⟩
  · rw [tyText_eq, e, hs]; unfold tyDig; rw [e, hb]; simp
  · obtain ⟨e1, e2⟩ := tyText_word (t := []) hk hj (by simp) (by rw [← he, hs]; simp)
    refine ⟨rfl, e1, ?_⟩
    have := rb_no hk (by rw [← e1, e]; exact hb)
    omega
theorem rt_num {s r : List UInt8} {j : Nat} {n : Int} (hj : j < 9) (hb : rb j = true) (hs : s = (rs j).data.toList ++ r) (hd : DecP r n true) : RtP s ((j : Int) + 1) n true := by
  have e : ((j : Int) + 1).toNat - 1 = j := by omega
  have hr := hd.2.1 rfl
  refine ⟨⟨by omega, by omega⟩, hd.1, fun _ hok => ?_, fun k' n' hk he => ?_⟩
  · have hi := tyOk_in hok
    rw [tyText_eq, e, hs, hr]
    unfold tyDig
    rw [e, hb]
    unfold Lib.itoa
    rw [if_neg (by omega)]
    rfl
  · obtain ⟨e1, e2⟩ := tyText_word (t := r) hk hj (by rw [hr]; exact itoa_head n) (he.symm.trans hs)
    have hi := tyOk_in hk
    unfold tyDig at e2
    rw [← e1, e, hb] at e2
    have := (hd.2.2 n'.toNat (by omega) e2).2
    exact ⟨rfl, e1, by omega⟩
theorem rt_bad {s r : List UInt8} {j : Nat} {n n' : Int} (hb : rb j = true) (hs : s = (rs j).data.toList ++ r) (hd : DecP r n false) (hk : tyOk ((j : Int) + 1) n' = true) : s ≠ (rs j).data.toList ++ tyDig ((j : Int) + 1) n' := by
  intro he
  have e : ((j : Int) + 1).toNat - 1 = j := by omega
  have hi := tyOk_in hk
  rw [hs] at he
  have e2 := List.append_cancel_left he
  unfold tyDig at e2
  rw [e, hb] at e2
  have := (hd.2.2 n'.toNat (by omega) e2).1
  cases this
theorem rt_more {s r : List UInt8} {j : Nat} {n' : Int} (hb : rb j = false) (hs : s = (rs j).data.toList ++ r) (hr : r ≠ []) : s ≠ (rs j).data.toList ++ tyDig ((j : Int) + 1) n' := by
  intro he
  have e : ((j : Int) + 1).toNat - 1 = j := by omega
  rw [hs] at he
  have e2 := List.append_cancel_left he
  unfold tyDig at e2
  rw [e, hb] at e2
  exact hr e2
set_option maxRecDepth 100000 in
set_option maxHeartbeats 4000000 in
theorem readTyp_any (s : ByteArray) (w : World) (hs : s.size ≤ 1048576) (hw : EV w) : Calls Tryz.prog 89 #[.string s] w fun e w' => RtE s.data.toList e ∧ Below w.heap.size w w' := by
  have HW : Hid (EV w) := hw
  have HCP : Hid (∀ (p : ByteArray) (w : World), Calls Tryz.prog 107 #[.string s, .string p] w fun e w' => e = .returned (.tuple #[.string ⟨(Lib.trimPrefix s.data.toList p.data.toList).toArray⟩, .bool (Lib.hasPrefix s.data.toList p.data.toList)]) ∧ w' = w) := fun p w => Tryz.strings_CutPrefix s p w
  have HB0 : Hid (Below w.heap.size w (w.alloc (.cells #[.int .i64 0, .int .i64 0] 130))) := bel1 _ _
  have HZ : Hid ((w.alloc (.cells #[.int .i64 0, .int .i64 0] 130)).heap[w.heap.size]? = some (.cells #[.int .i64 0, .int .i64 0] 130 (0, 0))) := heap_alloc_new w _
  obtain ⟨h0, t, fr, hg⟩ := hw.kin
  have hg1 : (w.alloc (.cells #[.int .i64 0, .int .i64 0] 130)).heap[0]? = some (.cells kc t fr) := by rw [Below.heap_alloc _ _ _ h0]; exact hg
  clear hg hw
  go_enter Tryz.func89, Tryz.ntmps89
  go_wp2_with (refine wpList_load_row rfl 167 _ rfl 0 rfl t kc fr _ hg1 Tryz.underlying167 rfl Tryz.infoKR ?_)
  go_loopg [10] 9 (fun gk i wr => ∃ j : Nat, j + gk = 9 ∧ i = .int .i64 j ∧ (∀ k' n', tyOk k' n' = true → s.data.toList = tyText k' n' → (j : Int) < k') ∧ Below (w.heap.size + 1) (w.alloc (.cells #[.int .i64 0, .int .i64 0] 130)) wr)
  case atStart => exact ⟨0, rfl, rfl, fun k' n' hk _ => by have := tyOk_in hk; omega, Below.refl _ _⟩
  case round =>
    obtain ⟨j, hj', rfl, hno, hb⟩ := hrel
    have HJ : Hid (j + gk = 9) := hj'
    have HNO : Hid (∀ k' n', tyOk k' n' = true → s.data.toList = tyText k' n' → (j : Int) < k') := hno
    have HB : Hid (Below (w.heap.size + 1) (w.alloc (.cells #[.int .i64 0, .int .i64 0] 130)) wr) := hb
    have hsz : w.heap.size < wr.heap.size := by have := hb.size; simp at this; omega
    have hR : wr.heap[w.heap.size]? = some (.cells #[.int .i64 0, .int .i64 0] 130 (0, 0)) := by rw [hb.block _ (by omega)]; exact HZ.out
    have HR : Hid (wr.heap[w.heap.size]? = some (.cells #[.int .i64 0, .int .i64 0] 130 (0, 0))) := hR
    have HBW : Hid (Below w.heap.size w wr) := HB0.out.trans (hb.mono (by omega))
    clear hj' hno hb
    by_cases hlt : j < 9
    · have hix := kr_at j hlt
      obtain ⟨nm, hnm⟩ : ∃ nm, rs j = nm := ⟨_, rfl⟩
      obtain ⟨nb, hnb⟩ : ∃ nb, rb j = nb := ⟨_, rfl⟩
      have HNM : Hid (rs j = nm) := hnm
      have HNB : Hid (rb j = nb) := hnb
      rw [hnm, hnb] at hix
      have hrl : nm.size ≤ 6 := by rw [← hnm]; exact rs_len j
      obtain ⟨lo, hlo⟩ : ∃ lo, rlo j = lo := ⟨_, rfl⟩
      obtain ⟨hi, hhi⟩ : ∃ hi, rhi j = hi := ⟨_, rfl⟩
      rw [hlo, hhi] at hix
      clear hnm hnb hlo hhi hR
      go_wp2_with fail
      obtain ⟨W, hW⟩ : ∃ W, wr.alloc (.cells #[.int .i64 ((j : Int) + 1), .string nm, .bool nb, .int .i64 lo, .int .i64 hi] 166) = W := ⟨_, rfl⟩
      have hWs : wr.heap.size < W.heap.size := by rw [← hW]; simp
      have HBr : Hid (Below wr.heap.size wr W) := by rw [← hW]; exact bel1 _ _
      have d0 : W.cell? ⟨wr.heap.size, 0, none⟩ = some (.int .i64 ((j : Int) + 1)) := by rw [← hW]; simp [go_sem]
      have d2 : W.cell? ⟨wr.heap.size, 2, none⟩ = some (.bool nb) := by rw [← hW]; simp [go_sem]
      have HBW2 : Hid (Below w.heap.size w W) := HBW.out.trans (HBr.out.mono (by omega))
      have HB2 : Hid (Below (w.heap.size + 1) (w.alloc (.cells #[.int .i64 0, .int .i64 0] 130)) W) := HB.out.trans (HBr.out.mono (by omega))
      have hR2 : W.heap[w.heap.size]? = some (.cells #[.int .i64 0, .int .i64 0] 130 (0, 0)) := by rw [HBr.out.block _ (by omega)]; exact HR.out
      rw [hW]
      clear hW hix
      refine (HCP.out nm _).mono ?_
      rintro e w3 ⟨rfl, rfl⟩
      obtain ⟨R, hRd⟩ : ∃ R : ByteArray, (⟨(Lib.trimPrefix s.data.toList nm.data.toList).toArray⟩ : ByteArray) = R := ⟨_, rfl⟩
      have HRD : Hid (R.data.toList = Lib.trimPrefix s.data.toList nm.data.toList) := by show _ = _; rw [← hRd]
      have hRs : R.size ≤ 1048576 := by
        have h1 := trim_le s.data.toList nm.data.toList
        have h2 : R.data.toList.length = R.size := Array.length_toList
        have h3 : s.data.toList.length = s.size := Array.length_toList
        rw [HRD.out] at h2
        omega
      rw [hRd]
      clear hRd
      cases ha : Lib.hasPrefix s.data.toList nm.data.toList with
      | false =>
        have HX : Hid (∀ k' n', tyOk k' n' = true → s.data.toList = tyText k' n' → ((j + 1 : Nat) : Int) < k') := typ_not HNO.out (fun n' _ => by rw [HNM.out]; exact cut_no ha)
        clear ha
        go_wp2_with fail
        go_roundg (gk - 1)
        case rel => exact ⟨j + 1, by have := HJ.out; omega, by go_num, HX.out, HB2.out⟩
        case measure => have := HJ.out; omega
      | true =>
        have HS2 : Hid (s.data.toList = (rs j).data.toList ++ R.data.toList) := by show _ = _; rw [HNM.out, HRD.out]; exact cut_yes ha
        clear ha
        have HRET : Hid (∀ (n : Int) (w4 : World), Below w3.heap.size w3 w4 → w4.heap[w.heap.size]? = some (.cells #[.int .i64 0, .int .i64 0] 130 (0, 0)) ∧ Below w.heap.size w ((w4.setCell ⟨w.heap.size, 0, none⟩ (.int .i64 ((j : Int) + 1))).setCell ⟨w.heap.size, 1, none⟩ (.int .i64 n))) := fun n w4 hb4 => by
          refine ⟨by rw [hb4.block _ (by omega)]; exact hR2, ?_⟩
          have b1 : Below w.heap.size w w4 := HBW2.out.trans (hb4.mono (by omega))
          exact (b1.setCell (p := ⟨w.heap.size, 0, none⟩) (Nat.le_refl _) _).setCell (p := ⟨w.heap.size, 1, none⟩) (Nat.le_refl _) _
        cases nb with
        | false =>
          by_cases hre : R.size = 0
          · have hcmp : (R.toList == (⟨#[]⟩ : ByteArray).toList) = true := by
              rw [ByteArray.toList_eq, ByteArray.toList_eq, beq_iff_eq]
              exact List.eq_nil_of_length_eq_zero (by have h2 : R.data.toList.length = R.size := Array.length_toList; omega)
            have HT : Hid (RtP s.data.toList ((j : Int) + 1) 0 true) := rt_word hlt HNB.out (by
              have h2 : R.data.toList.length = R.size := Array.length_toList
              rw [HS2.out, List.eq_nil_of_length_eq_zero (l := R.data.toList) (by omega)]; simp)
            obtain ⟨hN4, hB4⟩ := HRET.out 0 w3 (Below.refl _ _)
            obtain ⟨c0, c1, f0, f1⟩ := pair_cells hN4
            have HN4 : Hid (w3.heap[w.heap.size]? = some (.cells #[.int .i64 0, .int .i64 0] 130 (0, 0))) := hN4
            have HB4 : Hid (Below w.heap.size w ((w3.setCell ⟨w.heap.size, 0, none⟩ (.int .i64 ((j : Int) + 1))).setCell ⟨w.heap.size, 1, none⟩ (.int .i64 0))) := hB4
            have e0 : R = ⟨#[]⟩ := str_of (List.eq_nil_of_length_eq_zero (by have h2 : R.data.toList.length = R.size := Array.length_toList; omega))
            clear hN4 hB4 hre hR2 hcmp
            subst e0
            go_wp2_with fail
            exact bodyPost_ret (v := .tuple #[.agg #[.int .i64 ((j : Int) + 1), .int .i64 0], .bool true]) (results_cell_row2 Tryz.results89 _ _ w.heap.size _ _ _ _ rfl (two_set HN4.out) Tryz.underlying130 rfl Tryz.szTyp) rfl ⟨⟨_, _, _, rfl, HT.out⟩, HB4.out⟩
          · have hne : R.data.toList ≠ [] := by
              intro e
              have h2 : R.data.toList.length = R.size := Array.length_toList
              rw [e] at h2
              exact hre h2.symm
            have hcmp : (R.toList == []) = false := by rw [ByteArray.toList_eq, beq_eq_false_iff_ne]; exact hne
            have HNE : Hid (R.data.toList ≠ []) := hne
            clear hne
            have HX : Hid (∀ k' n', tyOk k' n' = true → s.data.toList = tyText k' n' → ((j + 1 : Nat) : Int) < k') := typ_not HNO.out (fun n' _ => rt_more HNB.out HS2.out HNE.out)
            clear hre
            go_wp2_with fail
            refine (readDecimal_any R w3 hRs (HW.out.below HBW2.out)).mono ?_
            rintro e w4 ⟨⟨n, b, rfl, hd⟩, hb4⟩
            have HB4 : Hid (Below (w.heap.size + 1) (w.alloc (.cells #[.int .i64 0, .int .i64 0] 130)) w4) := HB2.out.trans (hb4.mono (by omega))
            have g2 : w4.cell? ⟨wr.heap.size, 2, none⟩ = some (.bool false) := by rw [hb4.cell (p := ⟨wr.heap.size, 2, none⟩) hWs]; exact d2
            clear hb4 hd d0 d2 hR2
            go_wp2_with fail
            go_roundg (gk - 1)
            case rel => exact ⟨j + 1, by have := HJ.out; omega, by go_num, HX.out, HB4.out⟩
            case measure => have := HJ.out; omega
        | true =>
          go_wp2_with fail
          refine (readDecimal_any R w3 hRs (HW.out.below HBW2.out)).mono ?_
          rintro e w4 ⟨⟨n, b, rfl, hd⟩, hb4⟩
          have g2 : w4.cell? ⟨wr.heap.size, 2, none⟩ = some (.bool true) := by rw [hb4.cell (p := ⟨wr.heap.size, 2, none⟩) hWs]; exact d2
          have g0 : w4.cell? ⟨wr.heap.size, 0, none⟩ = some (.int .i64 ((j : Int) + 1)) := by rw [hb4.cell (p := ⟨wr.heap.size, 0, none⟩) hWs]; exact d0
          cases b with
          | false =>
            have HX : Hid (∀ k' n', tyOk k' n' = true → s.data.toList = tyText k' n' → ((j + 1 : Nat) : Int) < k') := typ_not HNO.out (fun n' hk => rt_bad HNB.out HS2.out hd hk)
            have HB4 : Hid (Below (w.heap.size + 1) (w.alloc (.cells #[.int .i64 0, .int .i64 0] 130)) w4) := HB2.out.trans (hb4.mono (by omega))
            clear hb4 hd d0 d2 hR2
            go_wp2_with fail
            go_roundg (gk - 1)
            case rel => exact ⟨j + 1, by have := HJ.out; omega, by go_num, HX.out, HB4.out⟩
            case measure => have := HJ.out; omega
          | true =>
            have HT : Hid (RtP s.data.toList ((j : Int) + 1) n true) := rt_num hlt HNB.out HS2.out hd
            obtain ⟨hN4, hB4⟩ := HRET.out n w4 hb4
            obtain ⟨c0, c1, f0, f1⟩ := pair_cells hN4
            have HN4 : Hid (w4.heap[w.heap.size]? = some (.cells #[.int .i64 0, .int .i64 0] 130 (0, 0))) := hN4
            have HB4 : Hid (Below w.heap.size w ((w4.setCell ⟨w.heap.size, 0, none⟩ (.int .i64 ((j : Int) + 1))).setCell ⟨w.heap.size, 1, none⟩ (.int .i64 n))) := hB4
            clear hN4 hB4 hR2 hb4 hd d0 d2
            go_wp2_with fail
            exact bodyPost_ret (v := .tuple #[.agg #[.int .i64 ((j : Int) + 1), .int .i64 n], .bool true]) (results_cell_row2 Tryz.results89 _ _ w.heap.size _ _ _ _ rfl (two_set HN4.out) Tryz.underlying130 rfl Tryz.szTyp) rfl ⟨⟨_, _, _, rfl, HT.out⟩, HB4.out⟩
    · have hge : j = 9 := by have := HJ.out; omega
      have HT : Hid (RtP s.data.toList 0 0 false) := ⟨⟨by decide, by decide⟩, ⟨by decide, by decide⟩, (by intro e; cases e), fun k' n' hk he => by have h1 := HNO.out k' n' hk he; have h2 := tyOk_in hk; omega⟩
      have HB4 : Hid (Below w.heap.size w ((wr.setCell ⟨w.heap.size, 0, none⟩ (.int .i64 0)).setCell ⟨w.heap.size, 1, none⟩ (.int .i64 0))) := (HBW.out.setCell (p := ⟨w.heap.size, 0, none⟩) (Nat.le_refl _) _).setCell (p := ⟨w.heap.size, 1, none⟩) (Nat.le_refl _) _
      obtain ⟨c0, c1, f0, f1⟩ := pair_cells hR
      clear hR hlt
      subst hge
      go_wp2_with fail
      exact bodyPost_ret (v := .tuple #[.agg #[.int .i64 0, .int .i64 0], .bool false]) (results_cell_row2 Tryz.results89 _ _ w.heap.size _ _ _ _ rfl (two_set HR.out) Tryz.underlying130 rfl Tryz.szTyp) rfl ⟨⟨_, _, _, rfl, HT.out⟩, HB4.out⟩
end Go.Proofs.YtipmckdlnipgkaaGreatDoor
