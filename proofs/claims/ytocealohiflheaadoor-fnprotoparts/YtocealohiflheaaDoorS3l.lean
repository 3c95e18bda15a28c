/- The exact laws' copies of items, and their comparison: contracts. -/
import Derived.Test.YtocealohiflheaaDoorS3k
namespace Go.Proofs.YtocealohiflheaaDoor
open Go.RowKit Go.Sort
set_option linter.unusedVariables false
set_option maxHeartbeats 400000 in
theorem toItem_any (k : Int) (n : Nat) (s : ByteArray) (w : World) : Calls Tryd.prog 28 #[.agg #[.int .i64 k, .int .u64 n, .string s]] w fun e w' => e = .returned (.agg #[.int .i64 k, .int .u64 n, .string s]) ∧ Below w.heap.size w w' := by
  go_enter Tryd.func28, Tryd.ntmps28
  go_wp2
  exact bodyPost_ret (v := .agg #[.int .i64 k, .int .u64 n, .string s]) (by simp [results, Tryd.results28, go_sem]) rfl ⟨rfl, (((Below.refl _ _).alloc (Nat.le_refl _) _).alloc (by simp) _).alloc (by simp; omega) _⟩
theorem Tryd.infoItem : (Tryd.prog.info? 42).map (fun i => (i.zero, i.size, i.bytes)) = some (some (.agg #[.int .i64 0, .int .u64 0, .string ByteArray.empty]), 3, 32) := by kernel_rfl
/-- A row of items that a call has made, its first j elements set. -/
def RowIt (vs : List It) (w : World) (g j : Nat) : Prop := ∃ cs : Array Value, w.heap[g]? = some (.cells cs 42 (0, 0)) ∧ cs.size = vs.length * 3 ∧
  (∀ i (h : i < vs.length), i < j → cs[i * 3]? = some (.int .i64 vs[i].k) ∧ cs[i * 3 + 1]? = some (.int .u64 vs[i].n) ∧ cs[i * 3 + 2]? = some (.string vs[i].s)) ∧
  ∀ i, i < vs.length → (∃ z, cs[i * 3]? = some (.int .i64 z)) ∧ (∃ z, cs[i * 3 + 1]? = some (.int .u64 z)) ∧ ∃ z, cs[i * 3 + 2]? = some (.string z)
theorem RowIt.keep {vs : List It} {w w' : World} {g j : Nat} (h : RowIt vs w g j) (hb : w'.heap[g]? = w.heap[g]?) : RowIt vs w' g j := by
  obtain ⟨cs, h1, h2, h3, h4⟩ := h
  exact ⟨cs, hb.trans h1, h2, h3, h4⟩
theorem RowIt.cell {vs : List It} {w : World} {g j : Nat} (h : RowIt vs w g j) {i : Nat} (hi : i < vs.length) : ((∃ z, w.cell? ⟨g, i * 3, none⟩ = some (.int .i64 z)) ∧ (∃ z, w.cell? ⟨g, i * 3 + 1, none⟩ = some (.int .u64 z)) ∧ ∃ z, w.cell? ⟨g, i * 3 + 2, none⟩ = some (.string z)) ∧ ∀ m, w.frozen? ⟨g, m, none⟩ = false := by
  obtain ⟨cs, h1, h2, h3, h4⟩ := h
  obtain ⟨⟨z0, e0⟩, ⟨z1, e1⟩, ⟨z2, e2⟩⟩ := h4 i hi
  exact ⟨⟨⟨z0, by rw [cell_of_row w g _ cs _ _ h1]; exact e0⟩, ⟨z1, by rw [cell_of_row w g _ cs _ _ h1]; exact e1⟩, ⟨z2, by rw [cell_of_row w g _ cs _ _ h1]; exact e2⟩⟩, fun m => by simp [World.frozen?, h1]⟩
theorem RowIt.next {vs : List It} {w : World} {g j : Nat} (h : RowIt vs w g j) (hj : j < vs.length) : RowIt vs (((w.setCell ⟨g, j * 3, none⟩ (.int .i64 vs[j].k)).setCell ⟨g, j * 3 + 1, none⟩ (.int .u64 vs[j].n)).setCell ⟨g, j * 3 + 2, none⟩ (.string vs[j].s)) g (j + 1) := by
  obtain ⟨cs, h1, h2, h3, h4⟩ := h
  have e1 := set_block (i := j * 3) h1 (.int .i64 vs[j].k)
  have e2 := set_block (i := j * 3 + 1) e1 (.int .u64 vs[j].n)
  have e3 := set_block (i := j * 3 + 2) e2 (.string vs[j].s)
  have hat : ∀ c0 c1 c2 : Value, ((((cs.setIfInBounds (j * 3) c0).setIfInBounds (j * 3 + 1) c1).setIfInBounds (j * 3 + 2) c2)[j * 3]? = some c0) ∧ ((((cs.setIfInBounds (j * 3) c0).setIfInBounds (j * 3 + 1) c1).setIfInBounds (j * 3 + 2) c2)[j * 3 + 1]? = some c1) ∧ ((((cs.setIfInBounds (j * 3) c0).setIfInBounds (j * 3 + 1) c1).setIfInBounds (j * 3 + 2) c2)[j * 3 + 2]? = some c2) := fun c0 c1 c2 => by
    refine ⟨?_, ?_, ?_⟩
    · rw [Array.getElem?_setIfInBounds_ne (by omega), Array.getElem?_setIfInBounds_ne (by omega), Array.getElem?_setIfInBounds_self_of_lt (by omega)]
    · rw [Array.getElem?_setIfInBounds_ne (by omega), Array.getElem?_setIfInBounds_self_of_lt (by simp; omega)]
    · rw [Array.getElem?_setIfInBounds_self_of_lt (by simp; omega)]
  have hoff : ∀ (c0 c1 c2 : Value) i m, i ≠ j → m < 3 → (((cs.setIfInBounds (j * 3) c0).setIfInBounds (j * 3 + 1) c1).setIfInBounds (j * 3 + 2) c2)[i * 3 + m]? = cs[i * 3 + m]? := fun c0 c1 c2 i m hne hm => by
    rw [Array.getElem?_setIfInBounds_ne (by omega), Array.getElem?_setIfInBounds_ne (by omega), Array.getElem?_setIfInBounds_ne (by omega)]
  refine ⟨_, e3, by simp [h2], fun i hi hij => ?_, fun i hi => ?_⟩
  · by_cases e : i = j
    · subst e
      exact hat _ _ _
    · have q0 := hoff (.int .i64 vs[j].k) (.int .u64 vs[j].n) (.string vs[j].s) i 0 e (by omega)
      simp only [Nat.add_zero] at q0
      rw [q0, hoff _ _ _ i 1 e (by omega), hoff _ _ _ i 2 e (by omega)]
      exact h3 i hi (by omega)
  · by_cases e : i = j
    · subst e
      obtain ⟨q0, q1, q2⟩ := hat (.int .i64 vs[i].k) (.int .u64 vs[i].n) (.string vs[i].s)
      exact ⟨⟨_, q0⟩, ⟨_, q1⟩, ⟨_, q2⟩⟩
    · have q0 := hoff (.int .i64 vs[j].k) (.int .u64 vs[j].n) (.string vs[j].s) i 0 e (by omega)
      simp only [Nat.add_zero] at q0
      rw [q0, hoff _ _ _ i 1 e (by omega), hoff _ _ _ i 2 e (by omega)]
      exact h4 i hi
theorem RowIt.done {vs : List It} {w : World} {g : Nat} (h : RowIt vs w g vs.length) (hs : vs.length ≤ 1048577) (hwf : ∀ x ∈ vs, inI x.k ∧ x.n < 18446744073709551616 ∧ x.s.size ≤ 1048577) : IsItems w.heap.size w (.slice (some ⟨g, 0, none⟩) vs.length vs.length) vs := by
  obtain ⟨cs, h1, h2, h3, h4⟩ := h
  refine ⟨g, 0, vs.length, ⟨hs, Nat.le_refl _, by unfold maxLen; omega, hwf, .inr (blk_lt h1), fun i hi => ?_⟩, some ⟨g, 0, none⟩, by simp, .inr (by simp)⟩
  rw [cell_of_row w g _ cs _ _ h1, cell_of_row w g _ cs _ _ h1, cell_of_row w g _ cs _ _ h1]
  simpa using h3 i hi hi
theorem RowIt.made {vs : List It} {w : World} {base g : Nat} (h : w.ownsRow base 42 3 (.slice (some ⟨g, 0, none⟩) vs.length vs.length) vs.length (madeCells #[.int .i64 0, .int .u64 0, .string ByteArray.empty] (vs.length * 3)).toList) : RowIt vs w g 0 := by
  rcases h.2 with ⟨h', _⟩ | ⟨g', cap, cur, h', _, hg, _, _, hsz, htake⟩
  · cases h'
  · simp only [Value.slice.injEq, Option.some.injEq, Addr.mk.injEq, and_true, true_and] at h'
    obtain ⟨rfl, rfl⟩ := h'
    have key : ∀ m, m < vs.length * 3 → cur[m]? = (madeCells #[.int .i64 0, .int .u64 0, .string ByteArray.empty] (vs.length * 3))[m]? := fun m hm => by
      have e : cur.toList[m]? = (madeCells #[.int .i64 0, .int .u64 0, .string ByteArray.empty] (vs.length * 3)).toList[m]? := by rw [← htake, List.getElem?_take, if_pos hm]
      simpa using e
    refine ⟨cur, hg, hsz, fun i _ hi => by omega, fun i hi => ⟨⟨0, ?_⟩, ⟨0, ?_⟩, ⟨ByteArray.empty, ?_⟩⟩⟩
    · rw [key _ (by omega)]
      have h1 : i * 3 < vs.length * 3 := by omega
      have h2 : i * 3 % 3 = 0 := by omega
      simp [madeCells, h1, h2]
    · rw [key _ (by omega)]
      have h1 : i * 3 + 1 < vs.length * 3 := by omega
      have h2 : (i * 3 + 1) % 3 = 1 := by omega
      simp [madeCells, h1, h2]
    · rw [key _ (by omega)]
      have h1 : i * 3 + 2 < vs.length * 3 := by omega
      have h2 : (i * 3 + 2) % 3 = 2 := by omega
      simp [madeCells, h1, h2]
theorem IsItems.form {B : Nat} {w : World} {v : Value} {vs : List It} (h : IsItems B w v vs) : ∃ ad C, v = .slice ad vs.length C ∧ vs.length ≤ 1048577 ∧ vs.length ≤ C ∧ C ≤ maxLen ∧ ∀ x ∈ vs, inI x.k ∧ x.n < 18446744073709551616 ∧ x.s.size ≤ 1048577 := by
  obtain ⟨b, o, C, hI, ad, rfl, _⟩ := h
  exact ⟨ad, C, by simp, hI.small, hI.room, hI.most, hI.wf⟩
theorem IsItems.at {B : Nat} {w : World} {v : Value} {vs : List It} (h : IsItems B w v vs) {i : Nat} (hi : i < vs.length) : ∃ b o C, v = .slice (some ⟨b, o, none⟩) vs.length C ∧ b < B ∧ vs.length ≤ C ∧ C ≤ maxLen ∧ w.cell? ⟨b, o + i * 3, none⟩ = some (.int .i64 vs[i].k) ∧ w.cell? ⟨b, o + i * 3 + 1, none⟩ = some (.int .u64 vs[i].n) ∧ w.cell? ⟨b, o + i * 3 + 2, none⟩ = some (.string vs[i].s) := by
  obtain ⟨b, o, C, hI, hF⟩ := h
  have hv := hF.at (show 0 < vs.length by omega)
  rw [Nat.sub_zero, Nat.sub_zero, Nat.zero_mul, Nat.add_zero] at hv
  exact ⟨b, o, C, hv, hI.low.resolve_left (by omega), hI.room, hI.most, hI.cells i hi⟩
set_option maxRecDepth 100000 in
set_option maxHeartbeats 1000000 in
theorem toItemS_any (vs : List It) (v : Value) (w : World) (hv : IsItems w.heap.size w v vs) : Calls Tryd.prog 11 #[v] w fun e w' => ∃ v', e = .returned v' ∧ IsItems w'.heap.size w' v' vs ∧ Below w.heap.size w w' := by
  obtain ⟨i0, hi, hz0, hz1, hz2⟩ := info_parts Tryd.infoItem
  have HV : Hid (IsItems w.heap.size w v vs) := hv
  obtain ⟨ad, cap, rfl, hsm, h1, h2, h3⟩ := hv.form
  have HW : Hid (∀ x ∈ vs, inI x.k ∧ x.n < 18446744073709551616 ∧ x.s.size ≤ 1048577) := h3
  unfold maxLen at h2
  clear h3 hv
  go_enter Tryd.func11, Tryd.ntmps11
  go_wp2_with (at_make; refine wpList_make_full _ rfl _ _ 30 rfl w.heap.size 42 i0 (.agg #[.int .i64 0, .int .u64 0, .string ByteArray.empty]) 3 Tryd.underlying30 hi hz0 hz1 _ _ _ _ vs.length rfl rfl rfl rfl ?b2 ?b3 (Nat.le_refl _) ?_)
  case b2 => rw [hz2]; omega
  case b3 => unfold maxLen; omega
  intro w1 hown0 hgrow
  have hr0 : RowIt vs w1 w.heap.size 0 := RowIt.made (base := w.heap.size) (by simpa [Value.cells] using hown0)
  have hb1 : Below w.heap.size w w1 := (Below.refl _ _).grown hgrow (Nat.le_refl _) (by simp)
  clear hown0 hgrow
  go_wp2_with fail
  go_loopg [4] vs.length (fun gk i wr => ∃ j : Nat, j + gk = vs.length ∧ i = .int .i64 j ∧ RowIt vs wr w.heap.size j ∧ Below w.heap.size w wr)
  case atStart => exact ⟨0, by omega, rfl, hr0, hb1⟩
  case round =>
    clear hr0 hb1 w1
    obtain ⟨j, hj', rfl, hr, hb⟩ := hrel
    have HJ : Hid (j + gk = vs.length) := hj'
    have hj : j ≤ vs.length := by omega
    clear hj'
    by_cases hlt : j < vs.length
    · obtain ⟨b, o, cap', hv', hbl, _, _, c0, c1, c2⟩ := (HV.out.below hb).at hlt
      cases hv'
      have hsz : w.heap.size < wr.heap.size := by obtain ⟨cs, h, _⟩ := hr; exact blk_lt h
      have HR : Hid (RowIt vs wr w.heap.size j) := hr
      have HB : Hid (Below w.heap.size w wr) := hb
      clear hr hb
      obtain ⟨it, hit⟩ : ∃ it, vs[j] = it := ⟨_, rfl⟩
      have Hit : Hid (vs[j] = it) := hit
      rw [hit] at c0 c1 c2
      clear hit
      obtain ⟨ik, im, is⟩ := it
      simp only at c0 c1 c2
      have HTI : Hid (∀ w, Calls Tryd.prog 28 #[.agg #[.int .i64 ik, .int .u64 im, .string is]] w fun e w' => e = .returned (.agg #[.int .i64 ik, .int .u64 im, .string is]) ∧ Below w.heap.size w w') := fun w => toItem_any ik im is w
      go_wp2_with fail
      refine (HTI.out _).mono ?_
      rintro e w2 ⟨rfl, hb2⟩
      have hr2 : RowIt vs w2 w.heap.size j := HR.out.keep (hb2.block _ hsz)
      obtain ⟨⟨⟨z0, d0⟩, ⟨z1, d1⟩, ⟨z2, d2⟩⟩, hfz⟩ := hr2.cell hlt
      have f0 := hfz (j * 3)
      have f1 := hfz (j * 3 + 1)
      have f2 := hfz (j * 3 + 2)
      have hnx := hr2.next hlt
      rw [Hit.out] at hnx
      have HN : Hid (RowIt vs (((w2.setCell ⟨w.heap.size, j * 3, none⟩ (.int .i64 ik)).setCell ⟨w.heap.size, j * 3 + 1, none⟩ (.int .u64 im)).setCell ⟨w.heap.size, j * 3 + 2, none⟩ (.string is)) w.heap.size (j + 1)) := hnx
      have HB2 : Hid (Below w.heap.size w (((w2.setCell ⟨w.heap.size, j * 3, none⟩ (.int .i64 ik)).setCell ⟨w.heap.size, j * 3 + 1, none⟩ (.int .u64 im)).setCell ⟨w.heap.size, j * 3 + 2, none⟩ (.string is))) := (((HB.out.trans (hb2.mono HB.out.size)).setCell (p := ⟨w.heap.size, j * 3, none⟩) (Nat.le_refl _) _).setCell (p := ⟨w.heap.size, j * 3 + 1, none⟩) (Nat.le_refl _) _).setCell (p := ⟨w.heap.size, j * 3 + 2, none⟩) (Nat.le_refl _) _
      clear hr2 hnx hb2 c0 c1 c2 hfz
      go_wp2_with fail
      go_roundg (gk - 1)
      case rel => exact ⟨j + 1, by have := HJ.out; omega, by go_num, HN.out, HB2.out⟩
      case measure => have := HJ.out; omega
    · have e1 : j = vs.length := by omega
      rw [e1] at hr
      have hfin := hr.done hsm HW.out
      have HF : Hid (IsItems wr.heap.size wr (.slice (some ⟨w.heap.size, 0, none⟩) vs.length vs.length) vs) := hfin
      clear hfin hr e1
      go_wp2_with fail
      go_ret
      exact ⟨_, rfl, HF.out, hb⟩
set_option maxHeartbeats 400000 in
theorem eqItem_same (k : Int) (n : Nat) (s : ByteArray) (w : World) : Calls Tryd.prog 31 #[.agg #[.int .i64 k, .int .u64 n, .string s], .agg #[.int .i64 k, .int .u64 n, .string s]] w fun e w' => e = .returned (.bool true) ∧ Below w.heap.size w w' := by
  go_enter Tryd.func31, Tryd.ntmps31
  go_wp2
  go_ret
  exact ⟨ret_b (by simp), bel2 _ _ _⟩
set_option maxRecDepth 100000 in
set_option maxHeartbeats 1000000 in
theorem eqItemS_same (vs : List It) (v v' : Value) (w : World) (hv : IsItems w.heap.size w v vs) (hv' : IsItems w.heap.size w v' vs) : Calls Tryd.prog 14 #[v, v'] w fun e w' => e = .returned (.bool true) ∧ Below w.heap.size w w' := by
  have HV : Hid (IsItems w.heap.size w v vs) := hv
  have HV' : Hid (IsItems w.heap.size w v' vs) := hv'
  obtain ⟨ad, cap, rfl, hsm, h1, h2, _⟩ := hv.form
  obtain ⟨ad', cap', rfl, _, h1', h2', _⟩ := hv'.form
  unfold maxLen at h2 h2'
  clear hv hv'
  go_enter Tryd.func14, Tryd.ntmps14
  go_wp2_with fail
  go_loopg [5] vs.length (fun gk i wr => ∃ j : Nat, j + gk = vs.length ∧ i = .int .i64 j ∧ Below w.heap.size w wr)
  case atStart => exact ⟨0, by omega, rfl, Below.refl _ _⟩
  case round =>
    obtain ⟨j, hj', rfl, hb⟩ := hrel
    have HJ : Hid (j + gk = vs.length) := hj'
    have hj : j ≤ vs.length := by omega
    clear hj'
    by_cases hlt : j < vs.length
    · have HB : Hid (Below w.heap.size w wr) := hb
      obtain ⟨b, o, cap2, e1, hbl, _, _, c0, c1, c2⟩ := (HV.out.below hb).at hlt
      obtain ⟨b', o', cap2', e1', hbl', _, _, c0', c1', c2'⟩ := (HV'.out.below hb).at hlt
      cases e1
      cases e1'
      generalize vs[j] = it at c0 c1 c2 c0' c1' c2'
      obtain ⟨ik, im, is⟩ := it
      simp only at c0 c1 c2 c0' c1' c2'
      have r0 := cells_re c0
      have r1 := cells_re c1
      have r2 := cells_re c2
      have r0' := cells_re c0'
      have r1' := cells_re c1'
      have r2' := cells_re c2'
      have HC : Hid (∀ w, Calls Tryd.prog 31 #[.agg #[.int .i64 ik, .int .u64 im, .string is], .agg #[.int .i64 ik, .int .u64 im, .string is]] w fun e w' => e = .returned (.bool true) ∧ Below w.heap.size w w') := fun w => eqItem_same ik im is w
      clear c0 c1 c2 c0' c1' c2' hb
      go_wp2_with fail
      refine wp_region_quiet_below (by kernel_rfl) (by kernel_rfl) ?_
      repeat (go_big_quiet_step (exact Calls.regrown_of (HC.out _)))
      refine wpQuiet_nil ?_
      intro w6 hw'
      obtain ⟨⟨dq, osq⟩, hw''⟩ := hw'
      have hb2 : Below w.heap.size w w6 := by rw [hw'']; exact below_step3 HB.out (below_regrown _ dq osq) HB.out.size
      clear hw'' r0 r1 r2 r0' r1' r2'
      go_wp2_with fail
      go_roundg (gk - 1)
      case rel => exact ⟨j + 1, by have := HJ.out; omega, by go_num, hb2⟩
      case measure => have := HJ.out; omega
    · have e1 : j = vs.length := by omega
      subst e1
      go_wp2_with fail
      go_ret
      exact ⟨rfl, hb⟩
end Go.Proofs.YtocealohiflheaaDoor
