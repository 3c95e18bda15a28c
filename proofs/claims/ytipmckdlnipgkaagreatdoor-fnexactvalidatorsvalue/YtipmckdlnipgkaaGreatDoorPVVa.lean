/- Parts of a message (Validators) that came in, their size and their copy. -/
import Derived.Test.YtipmckdlnipgkaaGreatDoorHVe
import Derived.Deep.LoopGhost
import Derived.Test.YtipmckdlnipgkaaGreatDoorPVSc
namespace Go.Proofs.YtipmckdlnipgkaaGreatDoor
open Go.RowKit Go.Sort
set_option linter.unusedVariables false

/-- A slice of parts, in memory below B. -/
def IsV (B : Nat) (w : World) (v : Value) (l : List Pa) : Prop := ∃ ad C, v = .slice ad l.length C ∧ l.length ≤ C ∧ C ≤ maxLen ∧ (l.length = 0 ∨ ∃ b o, ad = some ⟨b, o, none⟩ ∧ b < B ∧ ∀ i (h : i < l.length), w.cell? ⟨b, o + i * 2, none⟩ = some (.string l[i].2) ∧ w.cell? ⟨b, o + i * 2 + 1, none⟩ = some (.int .u64 l[i].1))
theorem IsV.below {B : Nat} {w w' : World} {v : Value} {l : List Pa} (h : IsV B w v l) (hb : Below B w w') : IsV B w' v l := by
  obtain ⟨ad, C, h1, h2, h3, h4⟩ := h
  refine ⟨ad, C, h1, h2, h3, ?_⟩
  rcases h4 with h4 | ⟨b, o, a1, a2, a3⟩
  · exact .inl h4
  · exact .inr ⟨b, o, a1, a2, fun i hi => by
      have := a3 i hi
      rw [hb.cell (p := ⟨b, o + i * 2, none⟩) a2]; rw [hb.cell (p := ⟨b, o + i * 2 + 1, none⟩) a2]
      exact this⟩
theorem IsV.up {B B' : Nat} {w : World} {v : Value} {l : List Pa} (h : IsV B w v l) (hB : B ≤ B') : IsV B' w v l := by
  obtain ⟨ad, C, h1, h2, h3, h4⟩ := h
  refine ⟨ad, C, h1, h2, h3, ?_⟩
  rcases h4 with h4 | ⟨b, o, a1, a2, a3⟩
  · exact .inl h4
  · exact .inr ⟨b, o, a1, by omega, a3⟩
theorem IsV.blk {B g n C : Nat} {w w' : World} {l : List Pa} (h : IsV B w (.slice (some ⟨g, 0, none⟩) n C) l) (hb : w'.heap[g]? = w.heap[g]?) : IsV B w' (.slice (some ⟨g, 0, none⟩) n C) l := by
  obtain ⟨ad, C, h1, h2, h3, h4⟩ := h
  refine ⟨ad, C, h1, h2, h3, ?_⟩
  rcases h4 with h4 | ⟨b, o, a1, a2, a3⟩
  · exact .inl h4
  · subst a1
    cases h1
    exact .inr ⟨g, 0, rfl, a2, fun i hi => by
      have := a3 i hi
      rw [World.cell?_of_block (w := w) (w' := w') (a := ⟨g, 0 + i * 2, none⟩) hb]; rw [World.cell?_of_block (w := w) (w' := w') (a := ⟨g, 0 + i * 2 + 1, none⟩) hb]
      exact this⟩
set_option maxHeartbeats 1000000 in
theorem szV_any (n : Nat) (z : ByteArray) (y : Nat) (w : World) (hy : y ≤ 1048576) (hz : z.size ≤ maxLen) : Calls Tryz.prog 68 #[.agg #[.string z, .int .u64 n], .int .i64 (y : Int)] w fun e w' => e = .returned (.int .i64 (if y < z.size then -1 else (y : Int) - z.size)) ∧ Below w.heap.size w w' := by
  unfold maxLen at hz
  obtain ⟨W, hW⟩ : ∃ W, w.alloc (.cells #[.string z, .int .u64 n] 111) = W := ⟨_, rfl⟩
  have HB : Hid (Below w.heap.size w W) := by show Below _ _ _; rw [← hW]; exact belA _ _
  have hN : W.heap[w.heap.size]? = some (.cells #[.string z, .int .u64 n] 111 (0, 0)) := by rw [← hW]; exact heap_alloc_new w _
  have c0 : W.cell? ⟨w.heap.size, 0, none⟩ = some (.string z) := by rw [cell_of_row _ _ _ _ _ _ hN]; rfl
  have c1 : W.cell? ⟨w.heap.size, 1, none⟩ = some (.int .u64 n) := by rw [cell_of_row _ _ _ _ _ _ hN]; rfl
  clear hN
  by_cases h : y < z.size
  all_goals
    have h' : decide ((y : Int) - z.size < 0) = decide (y < z.size) := by by_cases hh : y < z.size <;> simp [hh] <;> omega
    go_enter Tryz.func68, Tryz.ntmps68
    go_wp2
    go_ret
    first | exact ⟨by simp, HB.out⟩ | exact ⟨by simp [h], HB.out⟩ | exact ⟨by simp [h] <;> omega, HB.out⟩
set_option maxHeartbeats 400000 in
theorem szVs_big (ad : Option Addr) (len cap L : Nat) (w : World) (hL : L ≤ 1048576) (hl : len ≤ maxLen) (h : L < len) : Calls Tryz.prog 49 #[.slice ad len cap, .int .i64 (L : Int)] w fun e w' => e = .returned (.int .i64 (-1)) ∧ Below w.heap.size w w' := by
  unfold maxLen at hl
  have h' : (L : Int) - (len : Int) < 0 := by omega
  go_enter Tryz.func49, Tryz.ntmps49
  go_wp2
  go_ret
  exact ⟨rfl, Below.refl _ _⟩
set_option maxRecDepth 100000 in
set_option maxHeartbeats 1000000 in
theorem szVs_any (l : List Pa) (v : Value) (L : Nat) (w : World) (hL : L ≤ 1048576) (h : l.length ≤ L) (hw : wfP l) (hv : IsV w.heap.size w v l) : Calls Tryz.prog 49 #[v, .int .i64 (L : Int)] w fun e w' => (∃ r : Int, e = .returned (.int .i64 r) ∧ (r = -1 ∨ (0 ≤ r ∧ smP l))) ∧ Below w.heap.size w w' := by
  have HV : Hid (IsV w.heap.size w v l) := hv
  have HW : Hid (wfP l) := hw
  obtain ⟨ad, C, rfl, hC, hm, _⟩ := hv
  unfold maxLen at hm
  obtain ⟨M, hM⟩ : ∃ M : Nat, (L : Int) - (l.length : Int) = (M : Int) := ⟨L - l.length, by omega⟩
  have hMl : M ≤ 1048576 := by omega
  have hMn : ¬ (M : Int) < 0 := by omega
  clear hw
  go_enter Tryz.func49, Tryz.ntmps49
  go_wp2_with fail
  go_loopg [1, 5] l.length (fun gk y i wr => ∃ j z : Nat, j + gk = l.length ∧ i = .int .i64 j ∧ y = .int .i64 z ∧ z ≤ 1048576 ∧ (∀ x ∈ l.take j, x.2.size ≤ 1048576) ∧ Below w.heap.size w wr)
  case atStart => exact ⟨0, M, by omega, rfl, by first | rfl | (rw [← hM]; first | rfl | go_num), hMl, by simp, Below.refl _ _⟩
  case round =>
    clear hM hMl hMn
    obtain ⟨j, z, hj', rfl, rfl, hz, hall, hbel⟩ := hrel
    have HJ : Hid (j + gk = l.length) := hj'
    have HA : Hid (∀ x ∈ l.take j, x.2.size ≤ 1048576) := hall
    have HB : Hid (Below w.heap.size w wr) := hbel
    have hj : j ≤ l.length := by omega
    clear hj' hall
    by_cases hlt : j < l.length
    · obtain ⟨ad', C', hv', _, _, h0 | ⟨b, o, hb0, hb, hcs⟩⟩ := HV.out.below hbel
      · omega
      cases hv'
      subst hb0
      have hsz := (HW.out l[j] (List.getElem_mem hlt)).2
      have hcc := hcs j hlt
      obtain ⟨c0, c1⟩ := hcc
      have HT : Hid (l[j].2.size ≤ z → ∀ x ∈ l.take (j + 1), x.2.size ≤ 1048576) := fun hs => smP_take HW.out hlt HA.out (by omega)
      clear hcs hbel
      generalize l[j] = it at *
      obtain ⟨n, S⟩ := it
      simp only at c0 c1 HT hsz

      have HC : Hid (Calls Tryz.prog 68 #[.agg #[.string S, .int .u64 n], .int .i64 (z : Int)] wr fun e w' => e = .returned (.int .i64 (if z < S.size then -1 else (z : Int) - S.size)) ∧ Below wr.heap.size wr w') := szV_any n S z wr hz hsz
      unfold maxLen at hsz
      by_cases hs : z < S.size
      · rw [if_pos hs] at HC
        clear HT
        go_wp2_with fail
        refine Calls.mono HC.out ?_
        rintro e w2 ⟨rfl, hb2⟩
        have HB2 : Hid (Below w.heap.size w w2) := HB.out.trans (hb2.mono HB.out.size)
        clear hb2 c0 c1
        go_wp2_with fail
        go_ret
        exact ⟨⟨-1, by first | rfl | simp, .inl rfl⟩, HB2.out⟩
      · rw [if_neg hs] at HC
        obtain ⟨y1, hy1⟩ : ∃ y1 : Nat, (z : Int) - (S.size : Int) = (y1 : Int) := ⟨z - S.size, by omega⟩
        have hy1l : y1 ≤ 1048576 := by omega
        have HT2 : Hid (∀ x ∈ l.take (j + 1), x.2.size ≤ 1048576) := HT.out (by omega)
        rw [hy1] at HC
        have hyn : ¬ (y1 : Int) < 0 := by omega
        clear HT hs hy1
        go_wp2_with fail
        refine Calls.mono HC.out ?_
        rintro e w2 ⟨rfl, hb2⟩
        have HB2 : Hid (Below w.heap.size w w2) := HB.out.trans (hb2.mono HB.out.size)
        clear hb2 c0 c1
        go_wp2_with fail
        go_roundg (gk - 1)
        case rel => exact ⟨j + 1, y1, by have := HJ.out; omega, by go_num, rfl, hy1l, HT2.out, HB2.out⟩
        case measure => have := HJ.out; omega
    · have e1 : j = l.length := by omega
      subst e1
      have HT : Hid (smP l) := fun x hx => ⟨(HW.out x hx).1, by have := HA.out; rw [List.take_length] at this; exact this x hx⟩
      clear HA hbel
      go_wp2_with fail
      go_ret
      exact ⟨⟨_, rfl, .inr ⟨by omega, HT.out⟩⟩, HB.out⟩
theorem Tryz.infoV : (Tryz.prog.info? 91).map (fun i => (i.zero, i.size, i.bytes)) = some (some (.agg #[.string ByteArray.empty, .int .u64 0]), 2, 24) := by kernel_rfl
/-- A row of parts that a call has made, its first j set. -/
def RowV (l : List Pa) (w : World) (g j : Nat) : Prop := ∃ cs : Array Value, w.heap[g]? = some (.cells cs 91 (0, 0)) ∧ cs.size = l.length * 2 ∧ (∀ i (h : i < l.length), i < j → cs[i * 2]? = some (.string l[i].2) ∧ cs[i * 2 + 1]? = some (.int .u64 l[i].1)) ∧ ∀ i, i < l.length → (∃ z, cs[i * 2]? = some (.string z)) ∧ (∃ z, cs[i * 2 + 1]? = some (.int .u64 z))
theorem RowV.keep {l : List Pa} {w w' : World} {g j : Nat} (h : RowV l w g j) (hb : w'.heap[g]? = w.heap[g]?) : RowV l w' g j := by
  obtain ⟨cs, h1, h2⟩ := h
  exact ⟨cs, hb.trans h1, h2⟩
theorem RowV.cell {l : List Pa} {w : World} {g j : Nat} (h : RowV l w g j) {i : Nat} (hi : i < l.length) : ((∃ z, w.cell? ⟨g, i * 2, none⟩ = some (.string z)) ∧ (∃ z, w.cell? ⟨g, i * 2 + 1, none⟩ = some (.int .u64 z))) ∧ ∀ m, w.frozen? ⟨g, m, none⟩ = false := by
  obtain ⟨cs, h1, h2, h3, h4⟩ := h
  obtain ⟨⟨z0, e0⟩, ⟨z1, e1⟩⟩ := h4 i hi
  exact ⟨⟨⟨z0, by rw [cell_of_row w g _ cs _ _ h1]; exact e0⟩, ⟨z1, by rw [cell_of_row w g _ cs _ _ h1]; exact e1⟩⟩, fun m => by simp [World.frozen?, h1]⟩
theorem RowV.next {l : List Pa} {w : World} {g j : Nat} (h : RowV l w g j) (hj : j < l.length) : RowV l ((w.setCell ⟨g, j * 2, none⟩ (.string l[j].2)).setCell ⟨g, j * 2 + 1, none⟩ (.int .u64 l[j].1)) g (j + 1) := by
  obtain ⟨cs, h1, h2, h3, h4⟩ := h
  have e0 := set_block (i := j * 2) h1 (.string l[j].2)
  have e1 := set_block (i := j * 2 + 1) e0 (.int .u64 l[j].1)
  have t0 : ((cs.setIfInBounds (j * 2) (.string l[j].2)).setIfInBounds (j * 2 + 1) (.int .u64 l[j].1))[j * 2]? = some (.string l[j].2) := by rw [Array.getElem?_setIfInBounds_ne (by omega)]; exact Array.getElem?_setIfInBounds_self_of_lt (by first | omega | (simp; omega))
  have t1 : ((cs.setIfInBounds (j * 2) (.string l[j].2)).setIfInBounds (j * 2 + 1) (.int .u64 l[j].1))[j * 2 + 1]? = some (.int .u64 l[j].1) := by exact Array.getElem?_setIfInBounds_self_of_lt (by first | omega | (simp; omega))
  have hoff : ∀ i, i ≠ j → ∀ m, m < 2 → ((cs.setIfInBounds (j * 2) (.string l[j].2)).setIfInBounds (j * 2 + 1) (.int .u64 l[j].1))[i * 2 + m]? = cs[i * 2 + m]? := fun i hne m hm => by
    rw [Array.getElem?_setIfInBounds_ne (by omega), Array.getElem?_setIfInBounds_ne (by omega)]
  refine ⟨_, e1, by simp [h2], fun i hi hij => ?_, fun i hi => ?_⟩
  · by_cases e : i = j
    · subst e
      exact ⟨t0, t1⟩
    · have hij2 : i < j := by omega
      have q0 : ((cs.setIfInBounds (j * 2) (.string l[j].2)).setIfInBounds (j * 2 + 1) (.int .u64 l[j].1))[i * 2]? = cs[i * 2]? := by simpa using hoff i e 0 (by omega)
      have q1 : ((cs.setIfInBounds (j * 2) (.string l[j].2)).setIfInBounds (j * 2 + 1) (.int .u64 l[j].1))[i * 2 + 1]? = cs[i * 2 + 1]? := by simpa using hoff i e 1 (by omega)
      rw [q0, q1]
      exact h3 i hi hij2
  · by_cases e : i = j
    · subst e
      exact ⟨⟨_, t0⟩, ⟨_, t1⟩⟩
    · skip
      have q0 : ((cs.setIfInBounds (j * 2) (.string l[j].2)).setIfInBounds (j * 2 + 1) (.int .u64 l[j].1))[i * 2]? = cs[i * 2]? := by simpa using hoff i e 0 (by omega)
      have q1 : ((cs.setIfInBounds (j * 2) (.string l[j].2)).setIfInBounds (j * 2 + 1) (.int .u64 l[j].1))[i * 2 + 1]? = cs[i * 2 + 1]? := by simpa using hoff i e 1 (by omega)
      rw [q0, q1]
      exact h4 i hi
theorem RowV.done {l : List Pa} {w : World} {g : Nat} (h : RowV l w g l.length) (hm : l.length ≤ 1048577) : IsV w.heap.size w (.slice (some ⟨g, 0, none⟩) l.length l.length) l := by
  obtain ⟨cs, h1, h2, h3, h4⟩ := h
  refine ⟨_, _, rfl, Nat.le_refl _, by unfold maxLen; omega, .inr ⟨g, 0, rfl, blk_lt h1, fun i hi => ?_⟩⟩
  rw [cell_of_row w g _ cs _ _ h1, cell_of_row w g _ cs _ _ h1]
  simpa using h3 i hi hi
theorem RowV.made {l : List Pa} {w : World} {base g : Nat} (h : w.ownsRow base 91 2 (.slice (some ⟨g, 0, none⟩) l.length l.length) l.length (madeCells #[.string ByteArray.empty, .int .u64 0] (l.length * 2)).toList) : RowV l w g 0 := by
  rcases h.2 with ⟨h', _⟩ | ⟨g', cap, cur, h', _, hg, _, _, hsz, htake⟩
  · cases h'
  · simp only [Value.slice.injEq, Option.some.injEq, Addr.mk.injEq, and_true, true_and] at h'
    obtain ⟨rfl, rfl⟩ := h'
    have key : ∀ m, m < l.length * 2 → cur[m]? = (madeCells #[.string ByteArray.empty, .int .u64 0] (l.length * 2))[m]? := fun m hm => by
      have e : cur.toList[m]? = (madeCells #[.string ByteArray.empty, .int .u64 0] (l.length * 2)).toList[m]? := by rw [← htake, List.getElem?_take, if_pos hm]
      simpa using e
    refine ⟨cur, hg, hsz, fun i _ hi => by omega, fun i hi => ⟨⟨ByteArray.empty, ?_⟩, ⟨0, ?_⟩⟩⟩
    · rw [key _ (by omega)]
      have h1 : i * 2 < l.length * 2 := by omega
      have h2 : (i * 2) % 2 = 0 := by omega
      simp [madeCells, h1, h2]
    · rw [key _ (by omega)]
      have h1 : i * 2 + 1 < l.length * 2 := by omega
      have h2 : (i * 2 + 1) % 2 = 1 := by omega
      simp [madeCells, h1, h2]
set_option maxHeartbeats 400000 in
theorem toV_any (n : Nat) (z : ByteArray) (w : World) : Calls Tryz.prog 69 #[.agg #[.string z, .int .u64 n]] w fun e w' => e = .returned (.agg #[.string z, .int .u64 n]) ∧ Below w.heap.size w w' := by
  go_enter Tryz.func69, Tryz.ntmps69
  go_wp2
  exact bodyPost_ret (v := .agg #[.string z, .int .u64 n]) (by simp [results, Tryz.results69, go_sem]) rfl ⟨rfl, by repeat (first | exact Below.refl _ _ | refine Below.drew ?_ | refine Below.setCell ?_ (by simp <;> omega) _ | refine Below.alloc ?_ (by simp <;> omega) _)⟩
set_option maxRecDepth 100000 in
set_option maxHeartbeats 2000000 in
theorem toVs_any (l : List Pa) (v : Value) (w : World) (hs : l.length ≤ 1048577) (hv : IsV w.heap.size w v l) : Calls Tryz.prog 50 #[v] w fun e w' => (e = .returned (.slice (some ⟨w.heap.size, 0, none⟩) l.length l.length) ∧ RowV l w' w.heap.size l.length) ∧ Below w.heap.size w w' := by
  obtain ⟨i0, hi, hz0, hz1, hz2⟩ := info_parts Tryz.infoV
  have HV : Hid (IsV w.heap.size w v l) := hv
  obtain ⟨ad, cap, rfl, h1, h2, _⟩ := hv
  unfold maxLen at h2
  go_enter Tryz.func50, Tryz.ntmps50
  go_wp2_with (at_make; refine wpList_make_full _ rfl _ _ 50 rfl w.heap.size 91 i0 (.agg #[.string ByteArray.empty, .int .u64 0]) 2 Tryz.underlying50 hi hz0 hz1 _ _ _ _ l.length rfl rfl rfl rfl ?b2 ?b3 (Nat.le_refl _) ?_)
  case b2 => rw [hz2]; omega
  case b3 => unfold maxLen; omega
  intro w1 hown0 hgrow
  have hr0 : RowV l w1 w.heap.size 0 := RowV.made (base := w.heap.size) (by simpa [Value.cells] using hown0)
  have hb1 : Below w.heap.size w w1 := (Below.refl _ _).grown hgrow (Nat.le_refl _) (by simp)
  clear hown0 hgrow
  go_wp2_with fail
  go_loopg [4] l.length (fun gk i wr => ∃ j : Nat, j + gk = l.length ∧ i = .int .i64 j ∧ RowV l wr w.heap.size j ∧ Below w.heap.size w wr)
  case atStart => exact ⟨0, by omega, rfl, hr0, hb1⟩
  case round =>
    clear hr0 hb1 w1
    obtain ⟨j, hj', rfl, hr, hb⟩ := hrel
    have HJ : Hid (j + gk = l.length) := hj'
    have hj : j ≤ l.length := by omega
    clear hj'
    by_cases hlt : j < l.length
    · obtain ⟨ad', C', hv', _, _, h0 | ⟨b, o, hb0, hbl, hcs⟩⟩ := HV.out.below hb
      · omega
      cases hv'
      subst hb0
      obtain ⟨c0, c1⟩ := hcs j hlt
      have hsz : w.heap.size < wr.heap.size := by obtain ⟨cs, h, _⟩ := hr; exact blk_lt h
      have HR : Hid (RowV l wr w.heap.size j) := hr
      have HB : Hid (Below w.heap.size w wr) := hb
      clear hr hb hcs
      have HNX : Hid (∀ w2, RowV l w2 w.heap.size j → RowV l ((w2.setCell ⟨w.heap.size, j * 2, none⟩ (.string l[j].2)).setCell ⟨w.heap.size, j * 2 + 1, none⟩ (.int .u64 l[j].1)) w.heap.size (j + 1)) := fun w2 h => h.next hlt
      generalize l[j] = it at *
      obtain ⟨n, S⟩ := it
      simp only at c0 c1 HNX
      have HTI : Hid (∀ w, Calls Tryz.prog 69 #[.agg #[.string S, .int .u64 n]] w fun e w' => e = .returned (.agg #[.string S, .int .u64 n]) ∧ Below w.heap.size w w') := fun w => toV_any n S w
      go_wp2_with fail
      refine (HTI.out _).mono ?_
      rintro e w2 ⟨rfl, hb2⟩
      have hr2 : RowV l w2 w.heap.size j := HR.out.keep (hb2.block _ hsz)
      obtain ⟨⟨⟨z0, d0⟩, ⟨z1, d1⟩⟩, hfz⟩ := hr2.cell hlt
      have f0 := hfz (j * 2)
      have f1 := hfz (j * 2 + 1)
      have HB2 : Hid (Below w.heap.size w w2) := HB.out.trans (hb2.mono (by omega))
      have HX : Hid (RowV l ((w2.setCell ⟨w.heap.size, j * 2, none⟩ (.string S)).setCell ⟨w.heap.size, j * 2 + 1, none⟩ (.int .u64 n)) w.heap.size (j + 1) ∧ Below w.heap.size w ((w2.setCell ⟨w.heap.size, j * 2, none⟩ (.string S)).setCell ⟨w.heap.size, j * 2 + 1, none⟩ (.int .u64 n))) := ⟨HNX.out _ hr2, (HB2.out.setCell (p := ⟨w.heap.size, j * 2, none⟩) (by simp) _).setCell (p := ⟨w.heap.size, j * 2 + 1, none⟩) (by simp) _⟩
      clear hb2 hr2 hfz c0 c1
      go_wp2_with fail
      go_roundg (gk - 1)
      case rel => exact ⟨j + 1, by have := HJ.out; omega, by go_num, HX.out.1, HX.out.2⟩
      case measure => have := HJ.out; omega
    · have e1 : j = l.length := by omega
      subst e1
      have HX : Hid (RowV l wr w.heap.size l.length ∧ Below w.heap.size w wr) := ⟨hr, hb⟩
      clear hr hb
      go_wp2_with fail
      go_ret
      exact ⟨⟨rfl, HX.out.1⟩, HX.out.2⟩
end Go.Proofs.YtipmckdlnipgkaaGreatDoor
