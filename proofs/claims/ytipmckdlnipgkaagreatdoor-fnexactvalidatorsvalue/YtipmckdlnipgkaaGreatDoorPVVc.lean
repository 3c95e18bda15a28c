/- The program's value of a message with parts (Validators): contract. -/
import Derived.Test.YtipmckdlnipgkaaGreatDoorPVVb
import Derived.Test.YtipmckdlnipgkaaGreatDoorHVc
import Derived.Laws.EntriesVeiled
import Derived.Test.YtipmckdlnipgkaaGreatDoorPVSc
namespace Go.Proofs.YtipmckdlnipgkaaGreatDoor
open Go.RowKit Go.Sort
set_option linter.unusedVariables false

set_option maxRecDepth 100000 in
set_option maxHeartbeats 1000000 in
theorem w_validator_any (R base : Nat) (l : List It) (n : Nat) (z : ByteArray) (w : World) (h : WrAt R base w l) (hl : l.length ≤ 900) : Calls Tryz.prog 52 #[.pointer (some ⟨R, 0, none⟩), .agg #[.string z, .int .u64 n]] w fun e w' => e = .returned (.tuple #[]) ∧ WrAt R base w' (l ++ [⟨7, 2, ⟨#[]⟩⟩, ⟨4, 0, z⟩, ⟨1, n, ⟨#[]⟩⟩]) ∧ Below R w w' := by
  obtain ⟨W, hW⟩ : ∃ W, w.alloc (.cells #[.string z, .int .u64 n] 91) = W := ⟨_, rfl⟩
  have hb0 : Below w.heap.size w W := by rw [← hW]; exact belA _ _
  have hN : W.heap[w.heap.size]? = some (.cells #[.string z, .int .u64 n] 91 (0, 0)) := by rw [← hW]; exact heap_alloc_new w _
  have hRl := h.lt
  obtain ⟨H, hH⟩ : ∃ H, w.heap.size = H := ⟨_, rfl⟩
  have hRH : H ≠ R := by omega
  have HR0 : Hid (WrAt R base W l) := h.below hb0
  have HB0 : Hid (Below R w W) := hb0.mono (by omega)
  have HN0 : Hid (W.heap[H]? = some (.cells #[.string z, .int .u64 n] 91 (0, 0))) := by show _ = _; rw [← hH]; exact hN
  have HRB0 : Hid (rowB R W ≠ some H) := by
    show _ ≠ _
    rw [rowB_same (hb0.block R hRl)]
    intro e
    have := h.row H e; omega
  have HCF : Hid (∀ w' l, WrAt R base w' l → l.length ≤ 1000 → Calls Tryz.prog 36 #[.pointer (some ⟨R, 0, none⟩), .int .u64 2] w' fun e w'' => e = .returned (.tuple #[]) ∧ (WrAt R base w'' (l ++ [⟨7, 2, ⟨#[]⟩⟩]) ∧ Below R w' w'') ∧ KeepB R w' w'') := fun w' l h hl => w_fields_keep _ _ l 2 w' h hl
  have HCN : Hid (∀ w' l, WrAt R base w' l → l.length ≤ 1000 → Calls Tryz.prog 37 #[.pointer (some ⟨R, 0, none⟩), .int .u64 n] w' fun e w'' => e = .returned (.tuple #[]) ∧ (WrAt R base w'' (l ++ [⟨1, n, ⟨#[]⟩⟩]) ∧ Below R w' w'') ∧ KeepB R w' w'') := fun w' l h hl => w_number_keep _ _ l n w' h hl
  have HCX : Hid (∀ w' l, WrAt R base w' l → l.length ≤ 1000 → Calls Tryz.prog 38 #[.pointer (some ⟨R, 0, none⟩), .string z] w' fun e w'' => e = .returned (.tuple #[]) ∧ (WrAt R base w'' (l ++ [⟨4, 0, z⟩]) ∧ Below R w' w'') ∧ KeepB R w' w'') := fun w' l h hl => w_fixed_keep _ _ l z w' h hl
  have HRH : Hid (H ≠ R) := hRH
  clear hb0 hN h hRl hRH
  go_enter Tryz.func52, Tryz.ntmps52
  go_wp2_with fail
  first | rw [hW] | skip
  first | rw [hH] | skip
  clear hW hH
  refine (HCF.out W _ HR0.out (by first | omega | (simp; omega))).mono ?_
  rintro e w1 ⟨rfl, ⟨hr, hb⟩, hk⟩
  have HR1 : Hid (WrAt R base w1 _) := hr
  have HB1 : Hid (Below R w w1) := HB0.out.trans hb
  have HN1 : Hid (w1.heap[H]? = some (.cells #[.string z, .int .u64 n] 91 (0, 0))) := ((hk H (blk_lt HN0.out) HRH.out HRB0.out).1).trans HN0.out
  have HRB1 : Hid (rowB R w1 ≠ some H) := (hk H (blk_lt HN0.out) HRH.out HRB0.out).2
  clear hb hr hk
  have p1a : w1.cell? ⟨H, 0, none⟩ = some (.string z) := by rw [cell_of_row _ _ _ _ _ _ HN1.out]; rfl
  have p1b : w1.cell? ⟨H, 1, none⟩ = some (.int .u64 n) := by rw [cell_of_row _ _ _ _ _ _ HN1.out]; rfl
  go_wp2_with fail
  refine (HCX.out w1 _ HR1.out (by first | omega | (simp; omega))).mono ?_
  rintro e w2 ⟨rfl, ⟨hr, hb⟩, hk⟩
  have HR2 : Hid (WrAt R base w2 _) := hr
  have HB2 : Hid (Below R w w2) := HB1.out.trans hb
  have HN2 : Hid (w2.heap[H]? = some (.cells #[.string z, .int .u64 n] 91 (0, 0))) := ((hk H (blk_lt HN1.out) HRH.out HRB1.out).1).trans HN1.out
  have HRB2 : Hid (rowB R w2 ≠ some H) := (hk H (blk_lt HN1.out) HRH.out HRB1.out).2
  clear hb hr hk p1a p1b
  have p2a : w2.cell? ⟨H, 0, none⟩ = some (.string z) := by rw [cell_of_row _ _ _ _ _ _ HN2.out]; rfl
  have p2b : w2.cell? ⟨H, 1, none⟩ = some (.int .u64 n) := by rw [cell_of_row _ _ _ _ _ _ HN2.out]; rfl
  go_wp2_with fail
  refine (HCN.out w2 _ HR2.out (by first | omega | (simp; omega))).mono ?_
  rintro e w3 ⟨rfl, ⟨hr, hb⟩, hk⟩
  have HR3 : Hid (WrAt R base w3 _) := hr
  have HB3 : Hid (Below R w w3) := HB2.out.trans hb
  have HN3 : Hid (w3.heap[H]? = some (.cells #[.string z, .int .u64 n] 91 (0, 0))) := ((hk H (blk_lt HN2.out) HRH.out HRB2.out).1).trans HN2.out
  have HRB3 : Hid (rowB R w3 ≠ some H) := (hk H (blk_lt HN2.out) HRH.out HRB2.out).2
  clear hb hr hk p2a p2b
  have HF : Hid (WrAt R base w3 (l ++ [⟨7, 2, ⟨#[]⟩⟩, ⟨4, 0, z⟩, ⟨1, n, ⟨#[]⟩⟩]) ∧ Below R w w3) := ⟨by have h := HR3.out; simpa [List.append_assoc] using h, HB3.out⟩
  go_wp2_with fail
  first | go_end0 | refine bodyPost_ret (results_none rfl _ _ _) rfl ?_
  exact ⟨rfl, HF.out⟩
set_option maxRecDepth 100000 in
set_option maxHeartbeats 4000000 in
theorem wlV_any (R base : Nat) (l0 : List It) (l : List Pa) (v : Value) (w : World) (h : WrAt R base w l0) (hl0 : l0.length ≤ 100) (hv : IsV R w v l) (hll : l.length ≤ 1048576) : Calls Tryz.prog 51 #[.pointer (some ⟨R, 0, none⟩), v, .func (.func 52) #[.pointer (some ⟨R, 0, none⟩)] #[]] w fun e w' => e = .returned (.tuple #[]) ∧ WrAt R base w' (l0 ++ ([⟨5, l.length, ⟨#[]⟩⟩] : List It) ++ itsV (l.take 200)) ∧ Below R w w' := by
  have hw0 := h
  obtain ⟨hR, hb, v0, hB, ho⟩ := h
  have HW0 : Hid (WrAt R base w l0) := hw0
  obtain ⟨i0, hi, hz0, hz1, hz2⟩ := info_parts Tryz.infoItm
  have HII : Hid (Tryz.prog.info? 69 = some i0) := hi
  have HO : Hid (OwnIt base w v0 l0) := ho
  have HBK : Hid (w.heap[R]? = some (.cells #[v0] 74 (0, 0))) := hB
  have HV : Hid (IsV R w v l) := hv
  have c0 : w.cell? ⟨R, 0, none⟩ = some v0 := by rw [cell_of_row w R 0 _ _ _ hB]; rfl
  obtain ⟨ad, cap, rfl, h1, h2, _⟩ := ho.form
  obtain ⟨vad, C, rfl, hvC, hCm, _⟩ := hv
  unfold maxLen at h2 hCm
  have hRs : R < w.heap.size := blk_lt hB
  obtain ⟨n, hn⟩ : ∃ n, l.length = n := ⟨_, rfl⟩
  have HNE : Hid (l.length = n) := hn
  rw [hn] at hll hvC ⊢
  obtain ⟨m, hm⟩ : ∃ m, min n 200 = m := ⟨_, rfl⟩
  have HME : Hid (min n 200 = m) := hm
  have hmn : m ≤ n := by omega
  have hm2 : m ≤ 200 := by omega
  have hmi : min (n : Int) 200 = (m : Int) := by omega
  clear hi ho hB hw0 hm hn
  go_enter Tryz.func51, Tryz.ntmps51
  go_wp2_with (at_builtin; refine wpList_append_lies _ rfl _ _ 26 rfl base 69 i0 (.agg #[.int .i64 0, .int .u64 0, .string ByteArray.empty]) 3 32 Tryz.underlying26 HII.out hz0 hz1 hz2 rfl (by decide) (.slice ad l0.length cap) l0.length (flatI l0) rfl (HO.out.alloc _) ⟨w.heap.size, 0, none⟩ 1 1 (flatI [⟨5, n, ⟨#[]⟩⟩]) rfl rfl ?c1 (flatI_one _) (by omega) ?c3 ?c4 ?c5 (w.heap.size + 1) (by simp) ?_)
  case c1 => exact World.news_of_block (heap_alloc_new w _)
  case c3 => unfold maxLen; omega
  case c4 => omega
  case c5 => simp; omega
  intro g cap7 w7 hown hgrow hat hlt
  have hne : some R ≠ (Value.slice ad l0.length cap).ownBlock := fun e => by have := (World.ownsRow.lt HO.out R e.symm).1; omega
  have hB7 : w7.heap[R]? = some (.cells #[.slice ad l0.length cap] 74 (0, 0)) := (hgrow.block R (by simp; omega) hne).trans ((Below.heap_alloc w _ _ hRs).trans HBK.out)
  have d0 : w7.cell? ⟨R, 0, none⟩ = some (.slice ad l0.length cap) := by rw [cell_of_row w7 R 0 _ _ _ hB7]; rfl
  have f0 : w7.frozen? ⟨R, 0, none⟩ = false := by simp [World.frozen?, hB7]
  have hbel : Below R w w7 := by
    have b1 : Below R w (w.alloc (.cells #[.int .i64 5, .int .u64 n, .string ⟨#[]⟩] 69)) := (Below.refl _ _).alloc (by omega) _
    exact ⟨hgrow.os.trans b1.os, hgrow.tape.trans b1.tape, hgrow.output.trans b1.output, Nat.le_trans b1.size hgrow.size, fun k hk => (hgrow.block k (by simp; omega) (fun e => by have := (World.ownsRow.lt HO.out k e.symm).1; omega)).trans (b1.block k hk)⟩
  have HX : Hid (WrAt R base (w7.setCell ⟨R, 0, none⟩ (.slice (some ⟨g, 0, none⟩) (l0.length + 1) cap7)) (l0 ++ ([⟨5, n, ⟨#[]⟩⟩] : List It) ++ itsV (l.take 0)) ∧ Below R w (w7.setCell ⟨R, 0, none⟩ (.slice (some ⟨g, 0, none⟩) (l0.length + 1) cap7))) := by
    refine ⟨⟨hR, ?_, .slice (some ⟨g, 0, none⟩) (l0.length + 1) cap7, ?_, ?_⟩, hbel.setCell (p := ⟨R, 0, none⟩) (Nat.le_refl _) _⟩
    · have := hbel.size; simp [World.setCell]; omega
    · rw [set_block (i := 0) hB7]; rfl
    · refine ownsRow_setCell_below ?_ (a := ⟨R, 0, none⟩) hR _
      rw [List.take_zero, show itsV [] = [] from rfl, List.append_nil, flatI_app, List.length_append]
      exact hown
  clear hown hgrow hat hlt hne hB7 hbel c0
  go_wp2_with fail
  clear d0 f0
  go_loopg [27] m (fun gk i wr => ∃ j : Nat, j + gk = m ∧ i = .int .i64 j ∧ WrAt R base wr (l0 ++ ([⟨5, n, ⟨#[]⟩⟩] : List It) ++ itsV (l.take j)) ∧ Below R w wr)
  case atStart => exact ⟨0, by omega, rfl, HX.out.1, HX.out.2⟩
  case round =>
    obtain ⟨j, hj', rfl, hr, hbr⟩ := hrel
    have HJ : Hid (j + gk = m) := hj'
    have HR : Hid (WrAt R base wr (l0 ++ ([⟨5, n, ⟨#[]⟩⟩] : List It) ++ itsV (l.take j))) := hr
    have HB : Hid (Below R w wr) := hbr
    have hj : j ≤ m := by omega
    have hrl := hr.lt
    clear hj' hr
    by_cases hlt : j < m
    · have hjl : j < l.length := by have := HNE.out; omega
      have HLE : Hid ((l0 ++ ([⟨5, n, ⟨#[]⟩⟩] : List It) ++ itsV (l.take j)).length ≤ 900) := by show _ ≤ _; rw [List.length_append, List.length_append, itsV_len, List.length_take]; simp; omega
      have HNX : Hid (l0 ++ ([⟨5, n, ⟨#[]⟩⟩] : List It) ++ itsV (l.take (j + 1)) = (l0 ++ ([⟨5, n, ⟨#[]⟩⟩] : List It) ++ itsV (l.take j)) ++ itV l[j]) := by show _ = _; rw [itsV_take hjl, List.append_assoc _ (itsV (l.take j))]
      obtain ⟨ad', C', hv', _, _, h0 | ⟨b, oo, hb0, hbl, hcs⟩⟩ := HV.out.below hbr
      · omega
      cases hv'
      subst hb0
      obtain ⟨c0, c1⟩ := hcs j hjl
      have hbw : b < wr.heap.size := by omega
      generalize l[j] = it at *
      obtain ⟨pn, ps⟩ := it
      simp only at c0 c1 HNX
      obtain ⟨P, hP⟩ : ∃ P, l0 ++ ([⟨5, n, ⟨#[]⟩⟩] : List It) ++ itsV (l.take j) = P := ⟨_, rfl⟩
      obtain ⟨P', hP'⟩ : ∃ P, l0 ++ ([⟨5, n, ⟨#[]⟩⟩] : List It) ++ itsV (l.take (j + 1)) = P := ⟨_, rfl⟩
      rw [hP] at HLE HNX HR
      rw [hP'] at HNX
      have HP' : Hid (l0 ++ ([⟨5, n, ⟨#[]⟩⟩] : List It) ++ itsV (l.take (j + 1)) = P') := hP'
      clear hcs hbr hP hP' hjl
      have HC : Hid (∀ w', WrAt R base w' P → Calls Tryz.prog 52 #[.pointer (some ⟨R, 0, none⟩), .agg #[.string ps, .int .u64 pn]] w' fun e w'' => e = .returned (.tuple #[]) ∧ WrAt R base w'' P' ∧ Below R w' w'') := fun w' h => by have := w_validator_any R base P pn ps w' h HLE.out; rw [HNX.out]; exact this
      have HWN : Hid (∀ w', Below wr.heap.size wr w' → WrAt R base w' P) := fun w' hb => HR.out.below hb
      go_wp2_with fail
      refine (HC.out _ (HWN.out _ (by repeat (first | exact Below.refl _ _ | refine Below.drew ?_ | refine Below.setCell ?_ (by simp <;> omega) _ | refine Below.alloc ?_ (by simp <;> omega) _)))).mono ?_
      rintro e w9 ⟨rfl, hr9, hb9⟩
      have HX9 : Hid (WrAt R base w9 P' ∧ Below R w w9) := ⟨hr9, HB.out.trans (Below.trans (Below.mono (by repeat (first | exact Below.refl _ _ | refine Below.drew ?_ | refine Below.setCell ?_ (by simp <;> omega) _ | refine Below.alloc ?_ (by simp <;> omega) _)) (show R ≤ wr.heap.size by omega)) hb9)⟩
      clear hr9 hb9 c0 c1
      go_wp2_with fail
      go_roundg (gk - 1)
      case rel => exact ⟨j + 1, by have := HJ.out; omega, by go_num, by rw [HP'.out]; exact HX9.out.1, HX9.out.2⟩
      case measure => have := HJ.out; omega
    · have ej : j = m := by omega
      have HT : Hid (l.take m = l.take 200) := by
        show _ = _
        have h1 := HNE.out; have h2 := HME.out
        rcases Nat.le_total n 200 with h3 | h3
        · rw [List.take_of_length_le (by omega), List.take_of_length_le (by omega)]
        · rw [show m = 200 by omega]
      subst ej
      have HF : Hid (WrAt R base wr (l0 ++ ([⟨5, n, ⟨#[]⟩⟩] : List It) ++ itsV (l.take 200)) ∧ Below R w wr) := ⟨by rw [← HT.out]; exact HR.out, HB.out⟩
      clear hlt hbr
      go_wp2_with fail
      first | go_end0 | refine bodyPost_ret (results_none rfl _ _ _) rfl ?_
      exact ⟨rfl, HF.out⟩
theorem msV_cut {u : Nat} (l : List Pa) : vlR 3 (hdV u l.length ++ itsV (l.take 200)) = vlR 3 (msV u l) := by
  rcases Nat.lt_or_ge 200 l.length with h | h
  · rw [vlR_long, vlR_long]
    · unfold msV; rw [List.length_append, itsV_len]; omega
    · rw [List.length_append, itsV_len, List.length_take]
      show 200 < 3 + _
      omega
  · rw [List.take_of_length_le h]; rfl
set_option maxRecDepth 100000 in
set_option maxHeartbeats 4000000 in
theorem implValidatorsValue_any (u : Nat) (l : List Pa) (v : Value) (w : World) (hw : EV w) (hu : u < 18446744073709551616) (hl : l.length ≤ 1048576) (hsm : smP l) (hv : IsV w.heap.size w v l) :
    Calls Tryz.prog 23 #[.agg #[.int .u64 u, v]] w fun e w' => (∃ v', e = .returned v' ∧ OwnIt w.heap.size w' v' (vlR 3 (msV u l))) ∧ Below w.heap.size w w' := by
  have HWF : Hid (∀ x ∈ hdV u l.length ++ itsV (l.take 200), inI x.k ∧ x.n < 18446744073709551616 ∧ x.s.size ≤ 1048577) := fun x hx => by
    refine msV_wf (l := l) hl hsm hu x ?_
    unfold msV
    rcases List.mem_append.1 hx with hx | hx
    · exact List.mem_append_left _ hx
    · obtain ⟨y, hy, hz⟩ := List.mem_flatMap.1 hx
      exact List.mem_append_right _ (List.mem_flatMap.2 ⟨y, List.mem_of_mem_take hy, hz⟩)
  have HLL : Hid ((hdV u l.length ++ itsV (l.take 200)).length ≤ 1000) := by show _ ≤ _; rw [List.length_append, itsV_len, List.length_take]; show 3 + _ ≤ _; omega
  have HCUT : Hid (vlR 3 (hdV u l.length ++ itsV (l.take 200)) = vlR 3 (msV u l)) := msV_cut l
  have HV : Hid (IsV w.heap.size w v l) := hv
  obtain ⟨ad, C, rfl, hC, hCm, _⟩ := hv
  obtain ⟨W, hW⟩ : ∃ W, w.alloc (.cells #[.int .u64 u, .slice ad l.length C] 52) = W := ⟨_, rfl⟩
  obtain ⟨X, hX⟩ : ∃ X, W.alloc (.cells #[.slice none 0 0] 74) = X := ⟨_, rfl⟩
  have hWs : W.heap.size = w.heap.size + 1 := by rw [← hW]; simp
  have hXs : X.heap.size = w.heap.size + 2 := by rw [← hX]; simp [hWs]
  have HBX : Hid (Below w.heap.size w X) := by
    show Below _ _ _
    have h1 : Below w.heap.size w W := by rw [← hW]; exact belA _ _
    have h2 : Below W.heap.size W X := by rw [← hX]; exact belA _ _
    exact h1.trans (h2.mono h1.size)
  have HBXB : Hid (X.heap[w.heap.size]? = some (.cells #[.int .u64 u, .slice ad l.length C] 52 (0, 0))) := by
    show _ = _
    have h2 : Below W.heap.size W X := by rw [← hX]; exact belA _ _
    rw [h2.block w.heap.size (by omega), ← hW]; exact heap_alloc_new w _
  have HWR : Hid (WrAt W.heap.size X.heap.size X []) := ⟨by omega, Nat.le_refl _, .slice none 0 0, by rw [← hX]; exact heap_alloc_new W _, OwnIt.nil _ _⟩
  have HWs : Hid (W.heap.size = w.heap.size + 1) := hWs
  have HXs : Hid (X.heap.size = w.heap.size + 2) := hXs
  have HCF : Hid (∀ w' l, WrAt W.heap.size X.heap.size w' l → l.length ≤ 1000 → Calls Tryz.prog 36 #[.pointer (some ⟨W.heap.size, 0, none⟩), .int .u64 2] w' fun e w'' => e = .returned (.tuple #[]) ∧ WrAt W.heap.size X.heap.size w'' (l ++ [⟨7, 2, ⟨#[]⟩⟩]) ∧ Below W.heap.size w' w'') := fun w' l h hl => w_fields_any _ _ l 2 w' h hl
  have HCN : Hid (∀ w' l (n : Nat), WrAt W.heap.size X.heap.size w' l → l.length ≤ 1000 → Calls Tryz.prog 37 #[.pointer (some ⟨W.heap.size, 0, none⟩), .int .u64 n] w' fun e w'' => e = .returned (.tuple #[]) ∧ WrAt W.heap.size X.heap.size w'' (l ++ [⟨1, n, ⟨#[]⟩⟩]) ∧ Below W.heap.size w' w'') := fun w' l n h hl => w_number_any _ _ l n w' h hl
  have HCW : Hid (∀ w' l0, WrAt W.heap.size X.heap.size w' l0 → l0.length ≤ 100 → IsV W.heap.size w' (.slice ad l.length C) l → Calls Tryz.prog 51 #[.pointer (some ⟨W.heap.size, 0, none⟩), .slice ad l.length C, .func (.func 52) #[.pointer (some ⟨W.heap.size, 0, none⟩)] #[]] w' fun e w'' => e = .returned (.tuple #[]) ∧ WrAt W.heap.size X.heap.size w'' (l0 ++ ([⟨5, l.length, ⟨#[]⟩⟩] : List It) ++ itsV (l.take 200)) ∧ Below W.heap.size w' w'') := fun w' l0 h h0 hv => wlV_any _ _ l0 l _ w' h h0 hv hl
  have HCV : Hid (∀ w', WrAt W.heap.size X.heap.size w' (hdV u l.length ++ itsV (l.take 200)) → EV w' → Calls Tryz.prog 40 #[.pointer (some ⟨W.heap.size, 0, none⟩), .int .i64 3] w' fun e w'' => (∃ v', e = .returned v' ∧ OwnIt X.heap.size w'' v' (vlR 3 (msV u l))) ∧ Below W.heap.size w' w'') := fun w' h hv => by rw [← HCUT.out]; exact value_any _ _ (hdV u l.length ++ itsV (l.take 200)) 3 w' h hv HLL.out HWF.out
  have HEV : Hid (EV w) := hw
  obtain ⟨R, hR⟩ : ∃ R, W.heap.size = R := ⟨_, rfl⟩
  obtain ⟨H, hH⟩ : ∃ H, w.heap.size = H := ⟨_, rfl⟩
  have HHE : Hid (w.heap.size = H) := hH
  rw [hH] at HBXB HBX HWs HXs
  rw [hR] at HWR HWs HCF HCN HCV HCW
  have HRr : Hid (R = H + 1) := HWs.out
  clear hw hWs hXs hu hsm
  go_enter Tryz.func23, Tryz.ntmps23
  go_wp2_with fail
  clear hX hW hR hH
  refine (HCF.out X [] HWR.out (by simp)).mono ?_
  rintro e w1 ⟨rfl, hr, hb⟩
  have HR1 : Hid (WrAt R X.heap.size w1 ([] ++ [⟨7, 2, ⟨#[]⟩⟩])) := hr
  have HB1 : Hid (Below R X w1) := hb
  have HN1 : Hid (w1.heap[H]? = some (.cells #[.int .u64 u, .slice ad l.length C] 52 (0, 0))) := (HB1.out.block H (by have := HRr.out; omega)).trans HBXB.out
  clear hr hb
  have x0 : w1.cell? ⟨H, 0, none⟩ = some (.int .u64 u) := by rw [cell_of_row _ _ _ _ _ _ HN1.out]; rfl
  have x1 : w1.cell? ⟨H, 1, none⟩ = some (.slice ad l.length C) := by rw [cell_of_row _ _ _ _ _ _ HN1.out]; rfl
  go_wp2_with fail
  refine (HCN.out w1 _ u HR1.out (by simp)).mono ?_
  rintro e w2 ⟨rfl, hr, hb⟩
  have HR2 : Hid (WrAt R X.heap.size w2 _) := hr
  have HB2 : Hid (Below R X w2) := HB1.out.trans hb
  have HN2 : Hid (w2.heap[H]? = some (.cells #[.int .u64 u, .slice ad l.length C] 52 (0, 0))) := (HB2.out.block H (by have := HRr.out; omega)).trans HBXB.out
  clear hr hb x0 x1
  have x0 : w2.cell? ⟨H, 0, none⟩ = some (.int .u64 u) := by rw [cell_of_row _ _ _ _ _ _ HN2.out]; rfl
  have x1 : w2.cell? ⟨H, 1, none⟩ = some (.slice ad l.length C) := by rw [cell_of_row _ _ _ _ _ _ HN2.out]; rfl
  have HI : Hid (IsV R w2 (.slice ad l.length C) l) := by
    show IsV _ _ _ _
    have h1 := HV.out.below (by rw [HHE.out]; exact HBX.out.trans (HB2.out.mono (by have := HRr.out; omega)) : Below w.heap.size w w2)
    exact h1.up (by have := HRr.out; have := HHE.out; omega)
  go_wp2_with fail
  refine (HCW.out w2 _ HR2.out (by simp) HI.out).mono ?_
  rintro e w3 ⟨rfl, hr, hb⟩
  have HR3 : Hid (WrAt R X.heap.size w3 (hdV u l.length ++ itsV (l.take 200))) := by show WrAt _ _ _ _; have h := hr; simpa [hdV] using h
  have HB3 : Hid (Below R X w3) := HB2.out.trans hb
  clear hr hb x0 x1
  have HBF : Hid (Below H w w3) := HBX.out.trans (HB3.out.mono (by have := HRr.out; omega))
  have HE6 : Hid (EV w3) := HEV.out.below (by have := HBF.out; rw [← HHE.out] at this; exact this)
  go_wp2_with fail
  refine (HCV.out w3 HR3.out HE6.out).mono ?_
  rintro e w4 ⟨⟨v7, rfl, ho⟩, hb⟩
  have HF : Hid ((∃ v', Ending.returned v7 = .returned v' ∧ OwnIt w.heap.size w4 v' (vlR 3 (msV u l))) ∧ Below w.heap.size w w4) := ⟨⟨v7, rfl, own_downI ho (by have := HXs.out; have := HHE.out; omega)⟩, by rw [HHE.out]; exact HBF.out.trans (hb.mono (by have := HRr.out; omega))⟩
  clear ho hb
  go_wp2_with fail
  go_ret
  exact HF.out
end Go.Proofs.YtipmckdlnipgkaaGreatDoor
