/- The specification's reading of a type: contract. -/
import Derived.Test.YtipmckdlnipgkaaGreatDoorSRc
import Derived.Test.YtipmckdlnipgkaaGreatDoorS4b
namespace Go.Proofs.YtipmckdlnipgkaaGreatDoor
open Go.RowKit Go.Sort
set_option linter.unusedVariables false
def TypP (s : List UInt8) (k n : Int) : Prop := inI k ∧ inI n ∧ ∀ k' n', tyOk k' n' = true → s = tyText k' n' → k = k' ∧ n = n'
def TypE (s : List UInt8) (e : Ending) : Prop := ∃ k n, e = .returned (.agg #[.int .i64 k, .int .i64 n]) ∧ TypP s k n
/-- A word, and behind it a number or nothing. -/
theorem typ_at {s t : List UInt8} {j : Nat} {n : Int} (hj : j < 9) (hs : s = (rs j).data.toList ++ t) (ht : ∀ c ∈ t.head?, c.toNat ≤ 57) (hn : NumP t n) : TypP s ((j : Int) + 1) n := by
  refine ⟨⟨by omega, by omega⟩, hn.1, fun k' n' hk he => ?_⟩
  have hi := tyOk_in hk
  obtain ⟨e1, e2⟩ := tyText_word hk hj ht (he.symm.trans hs)
  refine ⟨e1, ?_⟩
  cases hb : rb (k'.toNat - 1) with
  | true =>
    unfold tyDig at e2
    rw [hb] at e2
    have := hn.2.1 n'.toNat (by omega) e2
    omega
  | false =>
    have h0 := rb_no hk hb
    unfold tyDig at e2
    rw [hb] at e2
    rw [hn.2.2 e2, h0]
def aheadR (l t : List UInt8) : Bool := l.take t.length == t
theorem kw_at : ∀ j, j < 9 → kwC[j]? = some (.string (rs j))
  | 0, _ => rfl
  | 1, _ => rfl
  | 2, _ => rfl
  | 3, _ => rfl
  | 4, _ => rfl
  | 5, _ => rfl
  | 6, _ => rfl
  | 7, _ => rfl
  | 8, _ => rfl
  | n + 9, h => by omega
theorem l1AheadR_any (s t : ByteArray) (w : World) (hs : s.size ≤ 1048576) (ht : t.size ≤ 1048576) : Calls Tryz.prog 97 #[.string s, .string t] w fun e w' => e = .returned (.bool (aheadR s.data.toList t.data.toList)) ∧ w' = w := by
  have hl : s.data.toList.length = s.size := Array.length_toList
  have hlt : t.data.toList.length = t.size := Array.length_toList
  by_cases h : t.size ≤ s.size
  · have e : aheadR s.data.toList t.data.toList = ((s.extract 0 t.size).toList == t.toList) := by
      unfold aheadR
      rw [hlt, ByteArray.toList_eq, ByteArray.toList_eq, Lib.extract_data]
      simp
    rw [e]
    clear e hl hlt
    go_enter Tryz.func97, Tryz.ntmps97
    go_wp2
    go_ret
    exact ⟨rfl, rfl⟩
  · have e : aheadR s.data.toList t.data.toList = false := by
      unfold aheadR
      rw [beq_eq_false_iff_ne]
      intro h1
      have := congrArg List.length h1
      rw [List.length_take, hl, hlt] at this
      omega
    rw [e]
    clear e hl hlt
    go_enter Tryz.func97, Tryz.ntmps97
    go_wp2
    go_ret
    exact ⟨rfl, rfl⟩
theorem ahead_app {s : ByteArray} {a : List UInt8} (h : aheadR s.data.toList a = true) : s.data.toList = a ++ (s.extract a.length s.size).data.toList ∧ a.length ≤ s.size := by
  have h1 : s.data.toList.take a.length = a := by simpa [aheadR] using h
  have hl : a.length ≤ s.size := by have := congrArg List.length h1; rw [List.length_take, ba_len] at this; omega
  refine ⟨?_, hl⟩
  rw [Lib.extract_data, List.take_of_length_le (by simp)]
  rw (occs := .pos [1]) [← List.take_append_drop a.length s.data.toList]
  rw [h1]
theorem ahead_no {s a t : List UInt8} (h : aheadR s a = false) : s ≠ a ++ t := by
  intro e
  subst e
  simp [aheadR] at h
theorem head_ext (s : ByteArray) (k : Nat) (h : k < s.size) : (s.extract k s.size).data.toList.head? = some s[k] := by
  rw [Lib.extract_data, List.take_of_length_le (by simp), List.head?_drop, List.getElem?_eq_getElem (by rw [ba_len]; exact h)]
  rfl
theorem head_le {t : List UInt8} {c : UInt8} (h : t.head? = some c) (hc : c.toNat ≤ 57) : ∀ d ∈ t.head?, d.toNat ≤ 57 := by
  intro d hd
  rw [h] at hd
  simp at hd
  rw [← hd]
  exact hc
theorem head_not {s a t : List UInt8} {c : UInt8} {k n : Int} (hs : s = a ++ t) (h : t.head? = some c) (hc : ¬ (48 ≤ c.toNat ∧ c.toNat ≤ 57)) (hk : tyOk k n = true) : s ≠ a ++ tyDig k n := by
  intro e
  rw [hs] at e
  have e' := List.append_cancel_left e
  rw [e'] at h
  exact hc (tyDig_dig hk c (List.mem_of_mem_head? h))
set_option maxRecDepth 100000 in
set_option maxHeartbeats 4000000 in
theorem l2Read_any (s : ByteArray) (w : World) (hs : s.size ≤ 1000) : Calls Tryz.prog 84 #[.string s] w fun e w' => TypE s.data.toList e ∧ Below w.heap.size w w' := by
  have HN : Hid (∀ w, Calls Tryz.prog 96 #[] w fun e w' => e = .returned (.slice (some ⟨w.heap.size, 0, none⟩) 9 9) ∧ w' = w.alloc (.cells kwC 9)) := fun w => l2Names_any w
  have HA : Hid (∀ t : ByteArray, t.size ≤ 6 → ∀ w, Calls Tryz.prog 97 #[.string s, .string t] w fun e w' => e = .returned (.bool (aheadR s.data.toList t.data.toList)) ∧ w' = w) := fun t ht w => l1AheadR_any s t w (by omega) (by omega)
  have hb0 : Below w.heap.size w (w.alloc (.cells #[.int .i64 0, .int .i64 0] 130)) := bel1 _ _
  have HB0 : Hid (Below w.heap.size w (w.alloc (.cells #[.int .i64 0, .int .i64 0] 130))) := hb0
  have HZ : Hid ((w.alloc (.cells #[.int .i64 0, .int .i64 0] 130)).heap[w.heap.size]? = some (.cells #[.int .i64 0, .int .i64 0] 130 (0, 0))) := heap_alloc_new w _
  clear hb0
  go_enter Tryz.func84, Tryz.ntmps84
  go_wp2_with fail
  go_loopg [3] 9 (fun gk i wr => ∃ j : Nat, j + gk = 9 ∧ i = .int .i64 j ∧ (∀ k' n', tyOk k' n' = true → s.data.toList = tyText k' n' → (j : Int) < k') ∧ Below (w.heap.size + 1) (w.alloc (.cells #[.int .i64 0, .int .i64 0] 130)) wr)
  case atStart => exact ⟨0, rfl, rfl, fun k' n' hk _ => by have := tyOk_in hk; omega, Below.refl _ _⟩
  case round =>
    obtain ⟨j, hj', rfl, hno, hb⟩ := hrel
    have HJ : Hid (j + gk = 9) := hj'
    have HNO : Hid (∀ k' n', tyOk k' n' = true → s.data.toList = tyText k' n' → (j : Int) < k') := hno
    have HB : Hid (Below (w.heap.size + 1) (w.alloc (.cells #[.int .i64 0, .int .i64 0] 130)) wr) := hb
    have hsz : w.heap.size < wr.heap.size := by have := hb.size; simp at this; omega
    have hR : wr.heap[w.heap.size]? = some (.cells #[.int .i64 0, .int .i64 0] 130 (0, 0)) := by rw [hb.block _ (by omega)]; exact HZ.out
    clear hj' hno hb
    by_cases hlt : j < 9
    · go_wp2_with fail
      refine (HN.out _).mono ?_
      rintro e w2 ⟨rfl, rfl⟩
      have HB2 : Hid (Below (w.heap.size + 1) (w.alloc (.cells #[.int .i64 0, .int .i64 0] 130)) (wr.alloc (.cells kwC 9))) := HB.out.alloc (by omega) _
      have hR2 : (wr.alloc (.cells kwC 9)).heap[w.heap.size]? = some (.cells #[.int .i64 0, .int .i64 0] 130 (0, 0)) := by rw [Below.heap_alloc _ _ _ hsz]; exact hR
      have hcell : (wr.alloc (.cells kwC 9)).cell? ⟨wr.heap.size, j, none⟩ = some (.string (rs j)) := by
        rw [cell_of_row _ wr.heap.size j kwC _ _ (heap_alloc_new wr _)]; exact kw_at j hlt
      have hrl : (rs j).size ≤ 6 := rs_len j
      obtain ⟨W, hW⟩ : ∃ W, wr.alloc (.cells kwC 9) = W := ⟨_, rfl⟩
      have hWs : w.heap.size < W.heap.size := by rw [← hW]; simp; omega
      rw [hW] at HB2 hR2 hcell
      rw [hW]
      obtain ⟨nm, hnm⟩ : ∃ nm, rs j = nm := ⟨_, rfl⟩
      have HNM : Hid (rs j = nm) := hnm
      rw [hnm] at hcell hrl
      clear hW hR hnm
      go_wp2_with fail
      refine (HA.out nm hrl _).mono ?_
      rintro e w3 ⟨rfl, rfl⟩
      cases ha : aheadR s.data.toList nm.data.toList with
      | false =>
        have HX : Hid (∀ k' n', tyOk k' n' = true → s.data.toList = tyText k' n' → ((j + 1 : Nat) : Int) < k') := typ_not HNO.out (fun n' _ => by rw [HNM.out]; exact ahead_no ha)
        clear ha
        go_wp2_with fail
        go_roundg (gk - 1)
        case rel => exact ⟨j + 1, by have := HJ.out; omega, by go_num, HX.out, HB2.out⟩
        case measure => have := HJ.out; omega
      | true =>
        obtain ⟨hs2, hle⟩ := ahead_app ha
        rw [ba_len] at hs2 hle
        have HS2 : Hid (s.data.toList = nm.data.toList ++ (s.extract nm.size s.size).data.toList) := hs2
        have hts : (s.extract nm.size s.size).size = s.size - nm.size := by simp
        have HFIN : Hid (∀ n : Int, (∀ c ∈ (s.extract nm.size s.size).data.toList.head?, c.toNat ≤ 57) → NumP (s.extract nm.size s.size).data.toList n → TypP s.data.toList ((j : Int) + 1) n) := fun n hh hn => typ_at hlt (by rw [HNM.out]; exact hs2) hh hn
        have HRET : Hid (∀ (n : Int) (w4 : World), Below w3.heap.size w3 w4 → TypP s.data.toList ((j : Int) + 1) n → w4.heap[w.heap.size]? = some (.cells #[.int .i64 0, .int .i64 0] 130 (0, 0)) ∧ Below w.heap.size w ((w4.setCell ⟨w.heap.size, 0, none⟩ (.int .i64 ((j : Int) + 1))).setCell ⟨w.heap.size, 1, none⟩ (.int .i64 n))) := fun n w4 hb4 hp => by
          refine ⟨by rw [hb4.block _ hWs]; exact hR2, ?_⟩
          have b1 : Below w.heap.size w w4 := HB0.out.trans ((HB2.out.mono (by omega)).trans (hb4.mono (by omega)))
          exact (b1.setCell (p := ⟨w.heap.size, 0, none⟩) (Nat.le_refl _) _).setCell (p := ⟨w.heap.size, 1, none⟩) (Nat.le_refl _) _
        by_cases heq : s.size = nm.size
        · have hcmp : (s.toList == nm.toList) = true := by
            rw [ByteArray.toList_eq, ByteArray.toList_eq, beq_iff_eq]
            have : (s.extract nm.size s.size).data.toList = [] := List.eq_nil_of_length_eq_zero (by rw [ba_len, hts]; omega)
            rw [this, List.append_nil] at hs2
            exact hs2
          have hh : ∀ c ∈ (s.extract nm.size s.size).data.toList.head?, c.toNat ≤ 57 := by
            have : (s.extract nm.size s.size).data.toList = [] := List.eq_nil_of_length_eq_zero (by rw [ba_len, hts]; omega)
            rw [this]; simp
          have HH : Hid (∀ c ∈ (s.extract nm.size s.size).data.toList.head?, c.toNat ≤ 57) := hh
          have HL : Hid (∀ w, Calls Tryz.prog 98 #[.string (s.extract nm.size s.size)] w fun e w' => NumE (s.extract nm.size s.size).data.toList e ∧ Below w.heap.size w w') := fun w => l1Num_any _ w (by omega)
          clear ha hs2 hh heq
          go_wp2_with fail
          refine (HL.out _).mono ?_
          rintro e w4 ⟨⟨n, b, rfl, hn⟩, hb4⟩
          have HT : Hid (TypP s.data.toList ((j : Int) + 1) n) := HFIN.out n HH.out hn
          obtain ⟨hN4, hB4⟩ := HRET.out n w4 hb4 HT.out
          obtain ⟨c0, c1, f0, f1⟩ := pair_cells hN4
          have HN4 : Hid (w4.heap[w.heap.size]? = some (.cells #[.int .i64 0, .int .i64 0] 130 (0, 0))) := hN4
          have HB4 : Hid (Below w.heap.size w ((w4.setCell ⟨w.heap.size, 0, none⟩ (.int .i64 ((j : Int) + 1))).setCell ⟨w.heap.size, 1, none⟩ (.int .i64 n))) := hB4
          clear hN4 hB4 hb4 hn hcell hR2
          go_wp2_with fail
          exact bodyPost_ret (v := .agg #[.int .i64 ((j : Int) + 1), .int .i64 n]) (results_cell_row Tryz.results84 _ _ w.heap.size _ _ _ _ rfl (two_set HN4.out) Tryz.underlying130 rfl Tryz.szTyp) rfl ⟨⟨_, _, rfl, HT.out⟩, HB4.out⟩
        · have hlt2 : nm.size < s.size := by omega
          have hcmp : (s.toList == nm.toList) = false := by
            rw [ByteArray.toList_eq, ByteArray.toList_eq, beq_eq_false_iff_ne]
            intro e
            have := congrArg List.length e
            rw [ba_len, ba_len] at this
            omega
          have HHEAD : Hid ((s.extract nm.size s.size).data.toList.head? = some s[nm.size]) := head_ext s nm.size hlt2
          by_cases hc : 48 ≤ s[nm.size].toNat ∧ s[nm.size].toNat ≤ 57
          · have HH : Hid (∀ c ∈ (s.extract nm.size s.size).data.toList.head?, c.toNat ≤ 57) := head_le HHEAD.out hc.2
            have HL : Hid (∀ w, Calls Tryz.prog 98 #[.string (s.extract nm.size s.size)] w fun e w' => NumE (s.extract nm.size s.size).data.toList e ∧ Below w.heap.size w w') := fun w => l1Num_any _ w (by omega)
            have hq1 : decide (48 ≤ (s[nm.size].toNat : Int)) = true := by simp; omega
            have hq2 : decide ((s[nm.size].toNat : Int) ≤ 57) = true := by simp; omega
            clear ha hs2 hc heq
            go_wp2_with fail
            refine (HL.out _).mono ?_
            rintro e w4 ⟨⟨n, b, rfl, hn⟩, hb4⟩
            have HT : Hid (TypP s.data.toList ((j : Int) + 1) n) := HFIN.out n HH.out hn
            obtain ⟨hN4, hB4⟩ := HRET.out n w4 hb4 HT.out
            obtain ⟨c0, c1, f0, f1⟩ := pair_cells hN4
            have HN4 : Hid (w4.heap[w.heap.size]? = some (.cells #[.int .i64 0, .int .i64 0] 130 (0, 0))) := hN4
            have HB4 : Hid (Below w.heap.size w ((w4.setCell ⟨w.heap.size, 0, none⟩ (.int .i64 ((j : Int) + 1))).setCell ⟨w.heap.size, 1, none⟩ (.int .i64 n))) := hB4
            clear hN4 hB4 hb4 hn hcell hR2
            go_wp2_with fail
            exact bodyPost_ret (v := .agg #[.int .i64 ((j : Int) + 1), .int .i64 n]) (results_cell_row Tryz.results84 _ _ w.heap.size _ _ _ _ rfl (two_set HN4.out) Tryz.underlying130 rfl Tryz.szTyp) rfl ⟨⟨_, _, rfl, HT.out⟩, HB4.out⟩
          · have HX : Hid (∀ k' n', tyOk k' n' = true → s.data.toList = tyText k' n' → ((j + 1 : Nat) : Int) < k') := typ_not HNO.out (fun n' hk => by rw [HNM.out]; exact head_not HS2.out HHEAD.out hc hk)
            clear ha hs2 heq
            by_cases hc1 : 48 ≤ s[nm.size].toNat
            · have hq1 : decide (48 ≤ (s[nm.size].toNat : Int)) = true := by simp; omega
              have hq2 : decide ((s[nm.size].toNat : Int) ≤ 57) = false := by simp; omega
              clear hc hc1
              go_wp2_with fail
              go_roundg (gk - 1)
              case rel => exact ⟨j + 1, by have := HJ.out; omega, by go_num, HX.out, HB2.out⟩
              case measure => have := HJ.out; omega
            · have hq1 : decide (48 ≤ (s[nm.size].toNat : Int)) = false := by simp; omega
              clear hc hc1
              go_wp2_with fail
              go_roundg (gk - 1)
              case rel => exact ⟨j + 1, by have := HJ.out; omega, by go_num, HX.out, HB2.out⟩
              case measure => have := HJ.out; omega
    · have hge : j = 9 := by have := HJ.out; omega
      have HT : Hid (TypP s.data.toList 0 0) := ⟨⟨by decide, by decide⟩, ⟨by decide, by decide⟩, fun k' n' hk he => by have h1 := HNO.out k' n' hk he; have h2 := tyOk_in hk; omega⟩
      have HB4 : Hid (Below w.heap.size w ((wr.setCell ⟨w.heap.size, 0, none⟩ (.int .i64 0)).setCell ⟨w.heap.size, 1, none⟩ (.int .i64 0))) := by
        have b1 : Below w.heap.size w wr := HB0.out.trans (HB.out.mono (by omega))
        exact (b1.setCell (p := ⟨w.heap.size, 0, none⟩) (Nat.le_refl _) _).setCell (p := ⟨w.heap.size, 1, none⟩) (Nat.le_refl _) _
      obtain ⟨c0, c1, f0, f1⟩ := pair_cells hR
      have HR : Hid (wr.heap[w.heap.size]? = some (.cells #[.int .i64 0, .int .i64 0] 130 (0, 0))) := hR
      clear hR
      subst hge
      go_wp2_with fail
      exact bodyPost_ret (v := .agg #[.int .i64 0, .int .i64 0]) (results_cell_row Tryz.results84 _ _ w.heap.size _ _ _ _ rfl (two_set HR.out) Tryz.underlying130 rfl Tryz.szTyp) rfl ⟨⟨_, _, rfl, HT.out⟩, HB4.out⟩
end Go.Proofs.YtipmckdlnipgkaaGreatDoor
