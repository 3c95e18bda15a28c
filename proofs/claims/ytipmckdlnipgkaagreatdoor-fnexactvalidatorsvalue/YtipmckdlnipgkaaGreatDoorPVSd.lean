/- Messages with parts (Proof) as arguments: opened, their size, their copy. -/
import Derived.Test.YtipmckdlnipgkaaGreatDoorPVSc
import Derived.Test.YtipmckdlnipgkaaGreatDoorS2k
import Derived.Deep.SlicePairs
import Derived.Deep.Strs
namespace Go.Proofs.YtipmckdlnipgkaaGreatDoor
open Go.ChangeShapes Go.WideShapes Go.ChangeAt Go.RowKit Go.Sort
set_option linter.unusedVariables false
theorem Below.trod_field {H : Type} {enc : TypeId × Value → H} {P : Program} {t : TypeId} (hl : laidOutB P = true) (hr : P.readableRec t = true) (hrow : t < P.types.size) {W W' : World} {v : Value} {y : DataW H × List MemPlace} {n : Nat} (hc : v.cells.toList = [v])
    (h : DataW.trod enc P W 0 (fun _ => true) true n t [v] = some y) (hb : Below W.heap.size W W') (hlt : ∀ x ∈ y.2, x.block < W.heap.size) : ∃ n, DataW.trod enc P W' 0 (fun b => decide (b < W.heap.size)) true n t [v] = some y := by
  have T : DataW.Trod enc P W 0 (fun _ => true) true t v y.1 y.2 := ⟨n, by rw [hc]; exact h⟩
  obtain ⟨m, hm⟩ := Below.trod hl hr hrow T hb hlt
  rw [hc] at hm
  exact ⟨m, hm⟩
theorem cellsN4 {W : World} {b : Nat} {u0 u1 u2 u3 : Value} {t : Nat} (h : W.heap[b]? = some (.cells #[u0, u1, u2, u3] t (0, 0))) : W.cell? ⟨b, 0, none⟩ = some u0 ∧ W.cell? ⟨b, 1, none⟩ = some u1 ∧ W.cell? ⟨b, 2, none⟩ = some u2 ∧ W.cell? ⟨b, 3, none⟩ = some u3 := by
  refine ⟨?_, ?_, ?_, ?_⟩ <;> (rw [cell_of_row _ _ _ _ _ _ h]; rfl)
theorem cellsN2 {W : World} {b : Nat} {u0 u1 : Value} {t : Nat} (h : W.heap[b]? = some (.cells #[u0, u1] t (0, 0))) : W.cell? ⟨b, 0, none⟩ = some u0 ∧ W.cell? ⟨b, 1, none⟩ = some u1 := by
  refine ⟨?_, ?_⟩ <;> (rw [cell_of_row _ _ _ _ _ _ h]; rfl)
theorem setN4 {w : World} {N : Nat} {a b c d u0 u1 u2 u3 : Value} {T : TypeId} (hN : w.heap[N]? = some (.cells #[u0, u1, u2, u3] T (0, 0))) : ((((w.setCell ⟨N, 0, none⟩ a).setCell ⟨N, 1, none⟩ b).setCell ⟨N, 2, none⟩ c).setCell ⟨N, 3, none⟩ d).heap[N]? = some (.cells #[a, b, c, d] T (0, 0)) := by
  have e1 := set_block (i := 0) hN a
  have e2 := set_block (i := 1) e1 b
  have e3 := set_block (i := 2) e2 c
  have e4 := set_block (i := 3) e3 d
  rw [e4]; simp
theorem setN2 {w : World} {N : Nat} {a b u0 u1 : Value} {T : TypeId} (hN : w.heap[N]? = some (.cells #[u0, u1] T (0, 0))) : ((w.setCell ⟨N, 0, none⟩ a).setCell ⟨N, 1, none⟩ b).heap[N]? = some (.cells #[a, b] T (0, 0)) := by
  have e1 := set_block (i := 0) hN a
  have e2 := set_block (i := 1) e1 b
  rw [e2]; simp
theorem u64_natD {n : Int} (h : (Lit.int .u64 n).wf = true) : ∃ m : Nat, n = (m : Int) ∧ m < 18446744073709551616 := by
  have := bounds_u64 h
  exact ⟨n.toNat, by omega, by omega⟩

/-- An argument that is a slice of parts. -/
def ArgStrs (w : World) (ad : Option Addr) (len cap : Nat) : Prop := len ≤ cap ∧ cap ≤ maxLen ∧ (len ≤ 1048577 → ∃ l : List Pa, l.length = len ∧ wfP l ∧ IsS w.heap.size w (.slice ad len cap) l)
theorem open_strs_arg {H : Type} {enc : TypeId × Value → H} {w : World} {sp : Nat → Bool} {held : Bool} {fuel : Nat} {ad : Option Addr} {len cap : Nat} {x : DataW H × List MemPlace} (h : DataW.trod enc Tryz.prog w 0 sp held fuel 57 [.slice ad len cap] = some x) : ArgStrs w ad len cap := by
  have ce : Tryz.prog.cellsOf 9 = 1 := by kernel_rfl
  rcases Deep.open_strs Tryz.underlying57 Tryz.underlying9 ce h with ⟨hcs, _⟩ | ⟨a, len', cap', m, Sx, hcs, _, hl, hm, hmm, _, hi⟩
  · simp at hcs
    obtain ⟨rfl, rfl, rfl⟩ := hcs
    exact ⟨Nat.le_refl _, by simp [maxLen], fun _ => ⟨[], rfl, by intro x hx; simp at hx, none, 0, rfl, Nat.le_refl _, by simp [maxLen], .inl rfl⟩⟩
  · simp at hcs
    obtain ⟨rfl, rfl, rfl⟩ := hcs
    have hlm : len ≤ m := by rw [hmm]; split <;> omega
    refine ⟨hl, hm, fun hs => ?_⟩
    obtain ⟨l, hll, hq⟩ := list_of (α := Pa) (n := len) (Q := fun i p => w.cell? (a.add i) = some (.string p.2) ∧ p.1 < 18446744073709551616 ∧ p.2.size ≤ maxLen) (fun i hi' => by
      obtain ⟨h0, h1⟩ := hi i (by omega)
      exact ⟨(0, Sx i), h0, by simp, h1⟩)
    refine ⟨l, hll, fun x hx => ?_, _, _, by rw [hll], by omega, hm, ?_⟩
    · obtain ⟨i, hi', rfl⟩ := List.getElem_of_mem hx
      exact (hq i hi').2
    · by_cases h0 : l.length = 0
      · exact .inl h0
      · obtain ⟨b, off, spot⟩ := a
        have hc := (hq 0 (by omega)).1
        have hspot : spot = none := by simpa [Addr.add] using World.cell?_spot hc
        subst hspot
        have hadd : ∀ k, (⟨b, off, none⟩ : Addr).add k = ⟨b, off + k, none⟩ := fun k => by unfold Addr.add; split <;> simp_all
        refine .inr ⟨b, off, rfl, ?_, fun i hi' => ?_⟩
        · rw [hadd] at hc; exact World.block_lt_of_cell? w _ hc
        · have := (hq i hi').1
          rw [hadd] at this
          exact this
set_option maxRecDepth 100000 in
set_option maxHeartbeats 1000000 in
theorem szProof_any (u : Nat) (t : Nat) (zz : ByteArray) (ad : Option Addr) (len cap : Nat) (w w' : World) (hw : Below w.heap.size w w') (hz : zz.size ≤ maxLen) (ha : ArgStrs w ad len cap) : Calls Tryz.prog 26 #[.agg #[.int .u64 u, .int .u64 t, .string zz, .slice ad len cap], .int .i64 1048576] w' fun e w'' => (∃ r : Int, e = .returned (.int .i64 r) ∧ (r = -1 ∨ (0 ≤ r ∧ zz.size ≤ 1048576 ∧ ∃ l : List Pa, l.length = len ∧ l.length ≤ 1048576 ∧ smP l ∧ IsS w.heap.size w (.slice ad len cap) l))) ∧ Below w'.heap.size w' w'' := by
  obtain ⟨W, hW⟩ : ∃ W, w'.alloc (.cells #[.int .u64 u, .int .u64 t, .string zz, .slice ad len cap] 59) = W := ⟨_, rfl⟩
  have HB : Hid (Below w'.heap.size w' W) := by show Below _ _ _; rw [← hW]; exact belA _ _
  have HN : Hid (W.heap[w'.heap.size]? = some (.cells #[.int .u64 u, .int .u64 t, .string zz, .slice ad len cap] 59 (0, 0))) := by show _ = _; rw [← hW]; exact heap_alloc_new w' _
  obtain ⟨hlc, hcm, hal⟩ := ha
  have HWW : Hid (Below w.heap.size w W) := hw.trans (HB.out.mono hw.size)
  obtain ⟨c0, c1, c2, c3⟩ := cellsN4 HN.out
  have HBIG : Hid (∀ L : Nat, L ≤ 1048576 → L < len → ∀ W', Calls Tryz.prog 55 #[.slice ad len cap, .int .i64 (L : Int)] W' fun e w'' => e = .returned (.int .i64 (-1)) ∧ Below W'.heap.size W' w'') := fun L h1 h2 W' => szSs_big ad len cap L W' h1 (by omega) h2
  have HSM : Hid (∀ L : Nat, L ≤ 1048576 → len ≤ L → Calls Tryz.prog 55 #[.slice ad len cap, .int .i64 (L : Int)] W fun e w'' => (∃ r : Int, e = .returned (.int .i64 r) ∧ (r = -1 ∨ (0 ≤ r ∧ ∃ l : List Pa, l.length = len ∧ l.length ≤ 1048576 ∧ smP l ∧ IsS w.heap.size w (.slice ad len cap) l))) ∧ Below W.heap.size W w'') := fun L h1 h2 => by
    obtain ⟨l, q1, q2, q3⟩ := hal (by omega)
    have q4 : IsS W.heap.size W (.slice ad len cap) l := (q3.below HWW.out).up HWW.out.size
    refine (szSs_any l _ L W h1 (by omega) q2 q4).mono ?_
    rintro e w'' ⟨⟨r, hr, hg⟩, hb⟩
    exact ⟨⟨r, hr, hg.imp id (fun h => ⟨h.1, l, q1, by omega, h.2, q3⟩)⟩, hb⟩
  unfold maxLen at hz
  by_cases h1 : (1048576 : Int) - zz.size < 0
  · clear hal
    go_enter Tryz.func26, Tryz.ntmps26
    go_wp2_with fail
    go_ret
    exact ⟨⟨_, rfl, .inl rfl⟩, HB.out⟩
  · obtain ⟨L, hL⟩ : ∃ L : Nat, (1048576 : Int) - zz.size = (L : Int) := ⟨1048576 - zz.size, by omega⟩
    have hL1 : L ≤ 1048576 := by omega
    have hL0 : ¬ (L : Int) < 0 := by omega
    have hzz : zz.size ≤ 1048576 := by omega
    have HZZ : Hid (zz.size ≤ 1048576) := hzz
    clear hal h1
    by_cases h2 : L < len
    · have HC : Hid _ := HBIG.out L hL1 h2 W
      clear h2
      go_enter Tryz.func26, Tryz.ntmps26
      go_wp2_with fail
      try rw [hW]
      refine (Calls.mono HC.out ?_)
      rintro e w2 ⟨rfl, hb⟩
      have HB2 : Hid (Below w'.heap.size w' w2) := HB.out.trans (hb.mono HB.out.size)
      clear hb c0 c1 c2 c3
      go_wp2_with fail
      go_ret
      exact ⟨⟨_, rfl, .inl rfl⟩, HB2.out⟩
    · have HC : Hid _ := HSM.out L hL1 (by omega)
      clear h2
      go_enter Tryz.func26, Tryz.ntmps26
      go_wp2_with fail
      try rw [hW]
      refine (Calls.mono HC.out ?_)
      rintro e w2 ⟨⟨r, rfl, hr | ⟨hr, hg⟩⟩, hb⟩
      · subst hr
        have HB2 : Hid (Below w'.heap.size w' w2) := HB.out.trans (hb.mono HB.out.size)
        clear hb c0 c1 c2 c3
        go_wp2_with fail
        go_ret
        exact ⟨⟨_, rfl, .inl rfl⟩, HB2.out⟩
      · have hr0 : ¬ r < 0 := by omega
        have HB2 : Hid (Below w'.heap.size w' w2) := HB.out.trans (hb.mono HB.out.size)
        have HG : Hid _ := hg
        clear hb hg c0 c1 c2 c3
        go_wp2_with fail
        go_ret
        exact ⟨⟨_, rfl, .inr ⟨hr, HZZ.out, HG.out⟩⟩, HB2.out⟩
theorem Tryz.szMsgS : (Tryz.prog.info? 62).map (·.size) = some 4 := by kernel_rfl
set_option maxRecDepth 100000 in
set_option maxHeartbeats 2000000 in
theorem toProof_any (u : Nat) (t : Nat) (zz : ByteArray) (l : List Pa) (v : Value) (w : World) (hs : l.length ≤ 1048577) (hv : IsS w.heap.size w v l) : Calls Tryz.prog 28 #[.agg #[.int .u64 u, .int .u64 t, .string zz, v]] w fun e w' => (∃ g, e = .returned (.agg #[.int .u64 u, .int .u64 t, .string zz, .slice (some ⟨g, 0, none⟩) l.length l.length]) ∧ w.heap.size ≤ g ∧ RowS l w' g l.length) ∧ Below w.heap.size w w' := by
  have HV : Hid (IsS w.heap.size w v l) := hv
  obtain ⟨ad, cap, rfl, _, _, _⟩ := hv
  have HTO : Hid (∀ w', Below w.heap.size w w' → Calls Tryz.prog 56 #[.slice ad l.length cap] w' fun e w'' => (e = .returned (.slice (some ⟨w'.heap.size, 0, none⟩) l.length l.length) ∧ RowS l w'' w'.heap.size l.length) ∧ Below w'.heap.size w' w'') := fun w' hb => toSs_any l _ w' hs ((HV.out.below hb).up hb.size)
  obtain ⟨W3, hW3⟩ : ∃ W3, ((w.alloc (.cells #[.int .u64 u, .int .u64 t, .string zz, .slice ad l.length cap] 59)).alloc (.cells #[.int .u64 0, .int .u64 0, .string ⟨#[]⟩, .slice none 0 0] 62)).alloc (.cells #[.int .u64 u, .int .u64 t, .string zz, .slice none 0 0] 62) = W3 := ⟨_, rfl⟩
  have hs3 : W3.heap.size = w.heap.size + 3 := by rw [← hW3]; simp
  have HB3 : Hid (Below w.heap.size w W3) := by show Below _ _ _; rw [← hW3]; exact ((belA w _).alloc (by simp) _).alloc (by simp; omega) _
  obtain ⟨H1, hH1⟩ : ∃ H1, w.heap.size + 1 = H1 := ⟨_, rfl⟩
  obtain ⟨H2, hH2⟩ : ∃ H2, w.heap.size + 1 + 1 = H2 := ⟨_, rfl⟩
  have HZ3 : Hid (W3.heap[H1]? = some (.cells #[.int .u64 0, .int .u64 0, .string ⟨#[]⟩, .slice none 0 0] 62 (0, 0))) := by
    show _ = _
    rw [← hW3, ← hH1, Below.heap_alloc _ _ _ (by simp)]
    have := heap_alloc_new (w.alloc (.cells #[.int .u64 u, .int .u64 t, .string zz, .slice ad l.length cap] 59)) (.cells #[.int .u64 0, .int .u64 0, .string ⟨#[]⟩, .slice none 0 0] 62)
    simpa using this
  have HO3 : Hid (W3.heap[H2]? = some (.cells #[.int .u64 u, .int .u64 t, .string zz, .slice none 0 0] 62 (0, 0))) := by
    show _ = _
    rw [← hW3, ← hH2]
    have := heap_alloc_new ((w.alloc (.cells #[.int .u64 u, .int .u64 t, .string zz, .slice ad l.length cap] 59)).alloc (.cells #[.int .u64 0, .int .u64 0, .string ⟨#[]⟩, .slice none 0 0] 62)) (.cells #[.int .u64 u, .int .u64 t, .string zz, .slice none 0 0] 62)
    simpa using this
  have HH1 : Hid (w.heap.size + 1 = H1) := hH1
  have HH2 : Hid (w.heap.size + 1 + 1 = H2) := hH2
  have HS3 : Hid (W3.heap.size = w.heap.size + 3) := hs3
  have HW3 : Hid (((w.alloc (.cells #[.int .u64 u, .int .u64 t, .string zz, .slice ad l.length cap] 59)).alloc (.cells #[.int .u64 0, .int .u64 0, .string ⟨#[]⟩, .slice none 0 0] 62)).alloc (.cells #[.int .u64 u, .int .u64 t, .string zz, .slice none 0 0] 62) = W3) := hW3
  clear hs3 hW3 hH1 hH2
  go_enter Tryz.func28, Tryz.ntmps28
  go_wp2_with fail
  rw [HW3.out]
  try rw [HH2.out]
  try rw [HH1.out]
  refine (HTO.out _ HB3.out).mono ?_
  rintro e w5 ⟨⟨rfl, hr⟩, hb⟩
  obtain ⟨g, hg⟩ : ∃ g, W3.heap.size = g := ⟨_, rfl⟩
  have HG : Hid (W3.heap.size = g) := hg
  rw [hg] at hr ⊢
  have HR5 : Hid (RowS l w5 g l.length) := hr
  have HB5 : Hid (Below w.heap.size w w5) := HB3.out.trans (hb.mono HB3.out.size)
  have HZ5 : Hid (w5.heap[H1]? = some (.cells #[.int .u64 0, .int .u64 0, .string ⟨#[]⟩, .slice none 0 0] 62 (0, 0))) := (hb.block H1 (blk_lt HZ3.out)).trans HZ3.out
  have HO5 : Hid (w5.heap[H2]? = some (.cells #[.int .u64 u, .int .u64 t, .string zz, .slice none 0 0] 62 (0, 0))) := (hb.block H2 (blk_lt HO3.out)).trans HO3.out
  have d3 : w5.cell? ⟨H2, 3, none⟩ = some (.slice none 0 0) := by rw [cell_of_row _ _ _ _ _ _ HO5.out]; rfl
  have f3 : w5.frozen? ⟨H2, 3, none⟩ = false := by simp only [World.frozen?, HO5.out]; rfl
  have h12 : H1 ≠ H2 := by have := HH1.out; have := HH2.out; omega
  have HO6 : Hid ((w5.setCell ⟨H2, 3, none⟩ (.slice (some ⟨g, 0, none⟩) l.length l.length)).heap[H2]? = some (.cells #[.int .u64 u, .int .u64 t, .string zz, .slice (some ⟨g, 0, none⟩) l.length l.length] 62 (0, 0))) := by show _ = _; rw [set_block (i := 3) HO5.out]; rfl
  have HZ6 : Hid ((w5.setCell ⟨H2, 3, none⟩ (.slice (some ⟨g, 0, none⟩) l.length l.length)).heap[H1]? = some (.cells #[.int .u64 0, .int .u64 0, .string ⟨#[]⟩, .slice none 0 0] 62 (0, 0))) := by show _ = _; rw [Below.heap_setCell _ _ _ _ h12]; exact HZ5.out
  have z0 : (w5.setCell ⟨H2, 3, none⟩ (.slice (some ⟨g, 0, none⟩) l.length l.length)).cell? ⟨H1, 0, none⟩ = some (.int .u64 0) := by rw [cell_of_row _ H1 0 _ _ _ HZ6.out]; rfl
  have y0 : (w5.setCell ⟨H2, 3, none⟩ (.slice (some ⟨g, 0, none⟩) l.length l.length)).frozen? ⟨H1, 0, none⟩ = false := by simp only [World.frozen?, HZ6.out]; rfl
  have z1 : (w5.setCell ⟨H2, 3, none⟩ (.slice (some ⟨g, 0, none⟩) l.length l.length)).cell? ⟨H1, 1, none⟩ = some (.int .u64 0) := by rw [cell_of_row _ H1 1 _ _ _ HZ6.out]; rfl
  have y1 : (w5.setCell ⟨H2, 3, none⟩ (.slice (some ⟨g, 0, none⟩) l.length l.length)).frozen? ⟨H1, 1, none⟩ = false := by simp only [World.frozen?, HZ6.out]; rfl
  have z2 : (w5.setCell ⟨H2, 3, none⟩ (.slice (some ⟨g, 0, none⟩) l.length l.length)).cell? ⟨H1, 2, none⟩ = some (.string ⟨#[]⟩) := by rw [cell_of_row _ H1 2 _ _ _ HZ6.out]; rfl
  have y2 : (w5.setCell ⟨H2, 3, none⟩ (.slice (some ⟨g, 0, none⟩) l.length l.length)).frozen? ⟨H1, 2, none⟩ = false := by simp only [World.frozen?, HZ6.out]; rfl
  have z3 : (w5.setCell ⟨H2, 3, none⟩ (.slice (some ⟨g, 0, none⟩) l.length l.length)).cell? ⟨H1, 3, none⟩ = some (.slice none 0 0) := by rw [cell_of_row _ H1 3 _ _ _ HZ6.out]; rfl
  have y3 : (w5.setCell ⟨H2, 3, none⟩ (.slice (some ⟨g, 0, none⟩) l.length l.length)).frozen? ⟨H1, 3, none⟩ = false := by simp only [World.frozen?, HZ6.out]; rfl
  have HF : Hid ((w.heap.size ≤ g ∧ RowS l ((((((w5.setCell ⟨H2, 3, none⟩ (.slice (some ⟨g, 0, none⟩) l.length l.length)).setCell ⟨H1, 0, none⟩ (.int .u64 u)).setCell ⟨H1, 1, none⟩ (.int .u64 t)).setCell ⟨H1, 2, none⟩ (.string zz)).setCell ⟨H1, 3, none⟩ (.slice (some ⟨g, 0, none⟩) l.length l.length))) g l.length) ∧ Below w.heap.size w ((((((w5.setCell ⟨H2, 3, none⟩ (.slice (some ⟨g, 0, none⟩) l.length l.length)).setCell ⟨H1, 0, none⟩ (.int .u64 u)).setCell ⟨H1, 1, none⟩ (.int .u64 t)).setCell ⟨H1, 2, none⟩ (.string zz)).setCell ⟨H1, 3, none⟩ (.slice (some ⟨g, 0, none⟩) l.length l.length)))) := by
    refine ⟨⟨by have := HG.out; have := HS3.out; omega, ?_⟩, ?_⟩
    · refine HR5.out.keep ?_
      have g1 : g ≠ H1 := by have := HG.out; have := HS3.out; have := HH1.out; omega
      have g2 : g ≠ H2 := by have := HG.out; have := HS3.out; have := HH2.out; omega
      rw [Below.heap_setCell _ _ _ _ g1, Below.heap_setCell _ _ _ _ g1, Below.heap_setCell _ _ _ _ g1, Below.heap_setCell _ _ _ _ g1, Below.heap_setCell _ _ _ _ g2]
    · exact (((((HB5.out.setCell (p := ⟨H2, 3, none⟩) (by have := HH2.out; simp; omega) _).setCell (p := ⟨H1, 0, none⟩) (by have := HH1.out; simp; omega) _).setCell (p := ⟨H1, 1, none⟩) (by have := HH1.out; simp; omega) _).setCell (p := ⟨H1, 2, none⟩) (by have := HH1.out; simp; omega) _).setCell (p := ⟨H1, 3, none⟩) (by have := HH1.out; simp; omega) _)
  clear hb hr hg
  go_wp2_with (refine wpList_load_row rfl 62 _ rfl H2 rfl _ _ _ _ HO6.out Tryz.underlying62 rfl Tryz.szMsgS ?_)
  exact bodyPost_ret (v := .agg #[.int .u64 u, .int .u64 t, .string zz, .slice (some ⟨g, 0, none⟩) l.length l.length]) (results_cell_row Tryz.results28 _ _ H1 _ _ _ _ rfl (setN4 HZ6.out) Tryz.underlying62 rfl Tryz.szMsgS) rfl ⟨⟨g, rfl, HF.out.1.1, HF.out.1.2⟩, HF.out.2⟩
end Go.Proofs.YtipmckdlnipgkaaGreatDoor
