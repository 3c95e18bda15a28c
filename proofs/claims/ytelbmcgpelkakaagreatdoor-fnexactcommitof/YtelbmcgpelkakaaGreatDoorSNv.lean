/- Proofs that are the same, and their marks; items copied: contracts. -/
import Derived.Test.YtelbmcgpelkakaaGreatDoorSNu
import Derived.Test.YtelbmcgpelkakaaGreatDoorSNt
namespace Go.Proofs.YtelbmcgpelkakaaGreatDoor
open Go.RowKit Go.Sort
set_option linter.unusedVariables false
theorem MkS.ofRow {vs : List It} {w : World} {g j : Nat} (h : RowIt vs w g j) (hm : vs.length ≤ maxLen) : MkS 1 vs.length 0 g w (.slice (some ⟨g, 0, none⟩) vs.length vs.length) := by
  obtain ⟨cs, h1, h2, h3, h4⟩ := h
  exact ⟨_, _, rfl, Nat.le_refl _, hm, .inr ⟨g, rfl, Nat.le_refl _, blk_lt h1, cs, h1, by omega, fun i hi => by omega, h4⟩⟩
set_option maxRecDepth 100000 in
set_option maxHeartbeats 1000000 in
theorem toItemS_mk (vs : List It) (v : Value) (w : World) (hv : IsItems w.heap.size w v vs) : Calls Tryz.prog 9 #[v] w fun e w' => ∃ v', e = .returned v' ∧ IsItems w'.heap.size w' v' vs ∧ (MkS 1 vs.length 0 w.heap.size w' v' ∧ v'.ownBlock = some w.heap.size ∧ w.heap.size < w'.heap.size) ∧ Below w.heap.size w w' := by
  obtain ⟨i0, hi, hz0, hz1, hz2⟩ := info_parts Tryz.infoItem
  have HV : Hid (IsItems w.heap.size w v vs) := hv
  obtain ⟨ad, cap, rfl, hsm, h1, h2, h3⟩ := hv.form
  have HW : Hid (∀ x ∈ vs, inI x.k ∧ x.n < 18446744073709551616 ∧ x.s.size ≤ 1048577) := h3
  unfold maxLen at h2
  clear h3 hv
  go_enter Tryz.func9, Tryz.ntmps9
  go_wp2_with (at_make; refine wpList_make_full _ rfl _ _ 29 rfl w.heap.size 62 i0 (.agg #[.int .i64 0, .int .u64 0, .string ByteArray.empty]) 3 Tryz.underlying29 hi hz0 hz1 _ _ _ _ vs.length rfl rfl rfl rfl ?b2 ?b3 (Nat.le_refl _) ?_)
  case b2 => rw [hz2]; omega
  case b3 => unfold maxLen; omega
  intro w1 hown0 hgrow
  have hr0 : RowIt vs w1 w.heap.size 0 := RowIt.made (base := w.heap.size) (by simpa [Value.cells] using hown0)
  have hb1 : Below w.heap.size w w1 := (Below.refl _ _).grown hgrow (Nat.le_refl _) (by simp)
  clear hown0 hgrow
  go_wp2_with fail
  go_loopg [4] vs.length (fun gk i wr => ∃ j : Nat, j + gk = vs.length ∧ i = .int .i64 j ∧ RowIt vs wr w.heap.size j ∧ Below w.heap.size w wr)
  case atStart => exact ⟨0, by omega, rfl, hr0, hb1⟩
  case round =>
    clear hr0 hb1 w1
    obtain ⟨j, hj', rfl, hr, hb⟩ := hrel
    have HJ : Hid (j + gk = vs.length) := hj'
    have hj : j ≤ vs.length := by omega
    clear hj'
    by_cases hlt : j < vs.length
    · obtain ⟨b, o, cap', hv', hbl, _, _, c0, c1, c2⟩ := (HV.out.below hb).at hlt
      cases hv'
      have hsz : w.heap.size < wr.heap.size := by obtain ⟨cs, h, _⟩ := hr; exact blk_lt h
      have HR : Hid (RowIt vs wr w.heap.size j) := hr
      have HB : Hid (Below w.heap.size w wr) := hb
      clear hr hb
      obtain ⟨it, hit⟩ : ∃ it, vs[j] = it := ⟨_, rfl⟩
      have Hit : Hid (vs[j] = it) := hit
      rw [hit] at c0 c1 c2
      clear hit
      obtain ⟨ik, im, is⟩ := it
      simp only at c0 c1 c2
      have HTI : Hid (∀ w, Calls Tryz.prog 32 #[.agg #[.int .i64 ik, .int .u64 im, .string is]] w fun e w' => e = .returned (.agg #[.int .i64 ik, .int .u64 im, .string is]) ∧ Below w.heap.size w w') := fun w => toItem_any ik im is w
      go_wp2_with fail
      refine (HTI.out _).mono ?_
      rintro e w2 ⟨rfl, hb2⟩
      have hr2 : RowIt vs w2 w.heap.size j := HR.out.keep (hb2.block _ hsz)
      obtain ⟨⟨⟨z0, d0⟩, ⟨z1, d1⟩, ⟨z2, d2⟩⟩, hfz⟩ := hr2.cell hlt
      have f0 := hfz (j * 3)
      have f1 := hfz (j * 3 + 1)
      have f2 := hfz (j * 3 + 2)
      have hnx := hr2.next hlt
      rw [Hit.out] at hnx
      have HN : Hid (RowIt vs (((w2.setCell ⟨w.heap.size, j * 3, none⟩ (.int .i64 ik)).setCell ⟨w.heap.size, j * 3 + 1, none⟩ (.int .u64 im)).setCell ⟨w.heap.size, j * 3 + 2, none⟩ (.string is)) w.heap.size (j + 1)) := hnx
      have HB2 : Hid (Below w.heap.size w (((w2.setCell ⟨w.heap.size, j * 3, none⟩ (.int .i64 ik)).setCell ⟨w.heap.size, j * 3 + 1, none⟩ (.int .u64 im)).setCell ⟨w.heap.size, j * 3 + 2, none⟩ (.string is))) := (((HB.out.trans (hb2.mono HB.out.size)).setCell (p := ⟨w.heap.size, j * 3, none⟩) (Nat.le_refl _) _).setCell (p := ⟨w.heap.size, j * 3 + 1, none⟩) (Nat.le_refl _) _).setCell (p := ⟨w.heap.size, j * 3 + 2, none⟩) (Nat.le_refl _) _
      clear hr2 hnx hb2 c0 c1 c2 hfz
      go_wp2_with fail
      go_roundg (gk - 1)
      case rel => exact ⟨j + 1, by have := HJ.out; omega, by go_num, HN.out, HB2.out⟩
      case measure => have := HJ.out; omega
    · have e1 : j = vs.length := by omega
      rw [e1] at hr
      have hfin := hr.done hsm HW.out
      have HF : Hid (IsItems wr.heap.size wr (.slice (some ⟨w.heap.size, 0, none⟩) vs.length vs.length) vs) := hfin
      have HMK : Hid (MkS 1 vs.length 0 w.heap.size wr (.slice (some ⟨w.heap.size, 0, none⟩) vs.length vs.length)) := MkS.ofRow hr (by unfold maxLen; omega)
      have HSZ : Hid (w.heap.size < wr.heap.size) := by obtain ⟨cs, h, _⟩ := hr; exact blk_lt h
      clear hfin hr e1
      go_wp2_with fail
      go_ret
      exact ⟨_, rfl, HF.out, ⟨HMK.out, rfl, HSZ.out⟩, hb⟩
theorem PrE_form (vs : List It) : ∃ (i t : Nat) (lf : ByteArray) (X : List ByteArray) (ok : Bool), X.length ≤ 16 ∧ ∀ base w' e, PrE vs base w' e → ∃ ad cp, e = .returned (.tuple #[.agg #[.int .u64 i, .int .u64 t, .string lf, .slice ad X.length cp], .bool ok]) ∧ w'.ownsRow base 9 1 (.slice ad X.length cp) X.length (strv X) := by
  by_cases h : typedB (msgS 4) vs = true
  · obtain ⟨h5, hm, hl⟩ := proof_len h
    have hn : (txS vs 5 (itN vs 4)).length = itN vs 4 := txS_len (by rw [itN_at h5]; omega)
    refine ⟨itN vs 1, itN vs 2, itS vs 3, txS vs 5 (itN vs 4), true, by rw [hn, itN_at h5]; omega, fun base w' e he => ?_⟩
    unfold PrE at he
    rw [if_pos h] at he
    obtain ⟨ad, cp, h1, h2⟩ := he
    rw [hn]
    exact ⟨ad, cp, h1, h2⟩
  · refine ⟨0, 0, ⟨#[]⟩, [], false, by simp, fun base w' e he => ?_⟩
    unfold PrE at he
    rw [if_neg h] at he
    exact ⟨none, 0, he, World.ownsRow_nil _ _ _ _⟩
theorem mk_trans {w w1 w2 : World} {row : Option Nat} (h : w.grownBy w1 row) (k : w1.grownBy w2 row) : w.grownBy w2 row :=
  ⟨k.os.trans h.os, k.tape.trans h.tape, k.output.trans h.output, Nat.le_trans h.size k.size, fun q hq hne => (k.block q (Nat.lt_of_lt_of_le hq h.size) hne).trans (h.block q hq hne)⟩
theorem mk_alloc (w : World) (o : Obj) (row : Option Nat) : w.grownBy (w.alloc o) row := mk_full (mk_refl w row) (bel1 w o)
theorem quad_cells {w : World} {N : Nat} {u0 u1 u2 u3 : Value} {T : TypeId} (h : w.heap[N]? = some (.cells #[u0, u1, u2, u3] T (0, 0))) : w.cell? ⟨N, 0, none⟩ = some u0 ∧ w.cell? ⟨N, 1, none⟩ = some u1 ∧ w.cell? ⟨N, 2, none⟩ = some u2 ∧ w.cell? ⟨N, 3, none⟩ = some u3 := by
  refine ⟨by rw [cell_of_row w N 0 _ _ _ h]; simp, by rw [cell_of_row w N 1 _ _ _ h]; simp, by rw [cell_of_row w N 2 _ _ _ h]; simp, by rw [cell_of_row w N 3 _ _ _ h]; simp⟩
set_option maxRecDepth 100000 in
set_option maxHeartbeats 1000000 in
theorem eqProof_same (i t : Nat) (lf : ByteArray) (X : List ByteArray) (B B' : Nat) (ad ad' : Option Addr) (cap cap' : Nat) (w : World) (hl : X.length ≤ 1000) (hv : w.ownsRow B 9 1 (.slice ad X.length cap) X.length (strv X)) (hv' : w.ownsRow B' 9 1 (.slice ad' X.length cap') X.length (strv X)) : Calls Tryz.prog 26 #[.agg #[.int .u64 i, .int .u64 t, .string lf, .slice ad X.length cap], .agg #[.int .u64 i, .int .u64 t, .string lf, .slice ad' X.length cap']] w fun e w' => e = .returned (.bool true) ∧ Below w.heap.size w w' := by
  have HB : Hid (Below w.heap.size w ((w.alloc (.cells #[.int .u64 i, .int .u64 t, .string lf, .slice ad X.length cap] 51)).alloc (.cells #[.int .u64 i, .int .u64 t, .string lf, .slice ad' X.length cap'] 51))) := bel2 _ _ _
  have HC : Hid (Calls Tryz.prog 49 #[.slice ad X.length cap, .slice ad' X.length cap'] ((w.alloc (.cells #[.int .u64 i, .int .u64 t, .string lf, .slice ad X.length cap] 51)).alloc (.cells #[.int .u64 i, .int .u64 t, .string lf, .slice ad' X.length cap'] 51)) fun e w' => e = .returned (.bool true) ∧ Below ((w.alloc (.cells #[.int .u64 i, .int .u64 t, .string lf, .slice ad X.length cap] 51)).alloc (.cells #[.int .u64 i, .int .u64 t, .string lf, .slice ad' X.length cap'] 51)).heap.size ((w.alloc (.cells #[.int .u64 i, .int .u64 t, .string lf, .slice ad X.length cap] 51)).alloc (.cells #[.int .u64 i, .int .u64 t, .string lf, .slice ad' X.length cap'] 51)) w') :=
    eqStringS_same X B B' ad ad' cap cap' _ hl (World.ownsRow.kept hv (gb_bel HB.out) (by cases (Value.slice ad X.length cap).ownBlock <;> simp)) (World.ownsRow.kept hv' (gb_bel HB.out) (by cases (Value.slice ad' X.length cap').ownBlock <;> simp))
  have hs : (lf.toList == lf.toList) = true := by simp
  clear hv hv'
  go_enter Tryz.func26, Tryz.ntmps26
  go_wp2_with fail
  refine Calls.mono HC.out ?_
  rintro e w1 ⟨rfl, hb1⟩
  have HB1 : Hid (Below w.heap.size w w1) := HB.out.trans (hb1.mono HB.out.size)
  clear hb1
  go_wp2_with fail
  go_ret
  exact ⟨rfl, HB1.out⟩
set_option maxRecDepth 100000 in
set_option maxHeartbeats 1000000 in
theorem markProof_any (i t : Nat) (lf : ByteArray) (n B : Nat) (ad : Option Addr) (cap : Nat) (w : World) (hl : n ≤ 1000) (hv : MkR 1 n 0 B w (.slice ad n cap)) : Calls Tryz.prog 27 #[.agg #[.int .u64 i, .int .u64 t, .string lf, .slice ad n cap], .int .i64 1] w fun e w' => (e = .returned (.int .i64 ((1 + n : Nat) : Int)) ∧ MkR 1 n n B w' (.slice ad n cap)) ∧ w.grownBy w' (Value.slice ad n cap).ownBlock := by
  obtain ⟨W, hW⟩ : ∃ W, w.alloc (.cells #[.int .u64 i, .int .u64 t, .string lf, .slice ad n cap] 51) = W := ⟨_, rfl⟩
  have HG : Hid (w.grownBy W (Value.slice ad n cap).ownBlock) := by show World.grownBy _ _ _; rw [← hW]; exact mk_alloc _ _ _
  have HC : Hid (Calls Tryz.prog 50 #[.slice ad n cap, .int .i64 1] W fun e w' => (e = .returned (.int .i64 ((1 + n : Nat) : Int)) ∧ MkR 1 n n B w' (.slice ad n cap)) ∧ W.grownBy w' (Value.slice ad n cap).ownBlock) := markStringS_any 1 n B _ W (by decide) (by decide) hl (by rw [← hW]; exact hv.below (bel1 _ _))
  have hK : W.heap[w.heap.size]? = some (.cells #[.int .u64 i, .int .u64 t, .string lf, .slice ad n cap] 51 (0, 0)) := by rw [← hW]; exact heap_alloc_new w _
  obtain ⟨c0, c1, c2, c3⟩ := quad_cells hK
  obtain ⟨L, hL⟩ : ∃ L : Nat, 1 + n = L := ⟨_, rfl⟩
  rw [hL] at HC ⊢
  clear hK hv hL
  go_enter Tryz.func27, Tryz.ntmps27
  go_wp2_with fail
  refine Calls.mono HC.out ?_
  rintro e w1 ⟨⟨rfl, hm⟩, hg⟩
  have HX : Hid (MkR 1 n n B w1 (.slice ad n cap) ∧ w.grownBy w1 (Value.slice ad n cap).ownBlock) := ⟨hm, mk_trans HG.out hg⟩
  clear hm hg
  go_wp2_with fail
  go_ret
  exact ⟨⟨rfl, HX.out.1⟩, HX.out.2⟩
set_option maxRecDepth 100000 in
set_option maxHeartbeats 1000000 in
theorem heldProof_any (i t : Nat) (lf : ByteArray) (n B : Nat) (ad : Option Addr) (cap : Nat) (w : World) (hl : n ≤ 1000) (hv : MkR 1 n n B w (.slice ad n cap)) : Calls Tryz.prog 28 #[.agg #[.int .u64 i, .int .u64 t, .string lf, .slice ad n cap], .int .i64 1] w fun e w' => e = .returned (.int .i64 ((1 + n : Nat) : Int)) ∧ Below w.heap.size w w' := by
  obtain ⟨W, hW⟩ : ∃ W, w.alloc (.cells #[.int .u64 i, .int .u64 t, .string lf, .slice ad n cap] 51) = W := ⟨_, rfl⟩
  have HB : Hid (Below w.heap.size w W) := by show Below _ _ _; rw [← hW]; exact bel1 _ _
  have HC : Hid (Calls Tryz.prog 51 #[.slice ad n cap, .int .i64 1] W fun e w' => e = .returned (.int .i64 ((1 + n : Nat) : Int)) ∧ Below W.heap.size W w') := heldStringS_any 1 n B _ W (by decide) (by decide) hl (by rw [← hW]; exact hv.below (bel1 _ _))
  have hK : W.heap[w.heap.size]? = some (.cells #[.int .u64 i, .int .u64 t, .string lf, .slice ad n cap] 51 (0, 0)) := by rw [← hW]; exact heap_alloc_new w _
  obtain ⟨c0, c1, c2, c3⟩ := quad_cells hK
  obtain ⟨L, hL⟩ : ∃ L : Nat, 1 + n = L := ⟨_, rfl⟩
  have hL0 : ¬ (L : Int) < 0 := by omega
  rw [hL] at HC ⊢
  clear hK hv hL
  go_enter Tryz.func28, Tryz.ntmps28
  go_wp2_with fail
  refine Calls.mono HC.out ?_
  rintro e w1 ⟨rfl, hb1⟩
  have HB1 : Hid (Below w.heap.size w w1) := HB.out.trans (hb1.mono HB.out.size)
  clear hb1
  go_wp2_with fail
  go_ret
  exact ⟨rfl, HB1.out⟩
end Go.Proofs.YtelbmcgpelkakaaGreatDoor
