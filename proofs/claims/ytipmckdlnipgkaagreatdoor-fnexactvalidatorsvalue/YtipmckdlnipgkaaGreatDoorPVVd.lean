/- Messages with parts (Validators) as arguments: opened, their size, their copy. -/
import Derived.Test.YtipmckdlnipgkaaGreatDoorPVVc
import Derived.Test.YtipmckdlnipgkaaGreatDoorS2k
import Derived.Deep.SlicePairs
import Derived.Deep.Strs
import Derived.Test.YtipmckdlnipgkaaGreatDoorPVSd
namespace Go.Proofs.YtipmckdlnipgkaaGreatDoor
open Go.ChangeShapes Go.WideShapes Go.ChangeAt Go.RowKit Go.Sort
set_option linter.unusedVariables false
/-- An argument that is a slice of parts. -/
def ArgValidators (w : World) (ad : Option Addr) (len cap : Nat) : Prop := len ≤ cap ∧ cap ≤ maxLen ∧ (len ≤ 1048577 → ∃ l : List Pa, l.length = len ∧ wfP l ∧ IsV w.heap.size w (.slice ad len cap) l)
theorem open_validators {H : Type} {enc : TypeId × Value → H} {w : World} {sp : Nat → Bool} {held : Bool} {fuel : Nat} {ad : Option Addr} {len cap : Nat} {x : DataW H × List MemPlace} (h : DataW.trod enc Tryz.prog w 0 sp held fuel 45 [.slice ad len cap] = some x) : ArgValidators w ad len cap := by
  have ce : Tryz.prog.cellsOf 111 = 2 := by kernel_rfl
  have c0 : Tryz.prog.cellsOf 9 = 1 := by kernel_rfl
  have c1 : Tryz.prog.cellsOf 22 = 1 := by kernel_rfl
  rcases Deep.open_slice_pairs Tryz.underlying45 Tryz.underlying111 ce rfl rfl c0 c1 h with ⟨hcs, _⟩ | ⟨a, len', cap', m, n, V0, V1, D0, D1, P0, P1, hcs, _, hl, hm, hmm, _, hi⟩
  · simp at hcs
    obtain ⟨rfl, rfl, rfl⟩ := hcs
    exact ⟨Nat.le_refl _, by simp [maxLen], fun _ => ⟨[], rfl, by intro x hx; simp at hx, none, 0, rfl, Nat.le_refl _, by simp [maxLen], .inl rfl⟩⟩
  · simp at hcs
    obtain ⟨rfl, rfl, rfl⟩ := hcs
    have hlm : len ≤ m := by rw [hmm]; split <;> omega
    refine ⟨hl, hm, fun hs => ?_⟩
    obtain ⟨l, hll, hq⟩ := list_of (α := Pa) (n := len) (Q := fun i p => (w.cell? (a.add (i * 2)) = some (.string p.2) ∧ w.cell? (a.add (i * 2 + 1)) = some (.int .u64 p.1)) ∧ p.1 < 18446744073709551616 ∧ p.2.size ≤ maxLen) (fun i hi' => by
      obtain ⟨h0, h1, h2, h3⟩ := hi i (by omega)
      obtain ⟨n0, e0, _, b0⟩ := DataW.trod_string Tryz.underlying9 h2
      obtain ⟨n1, e1, _, v1⟩ := DataW.trod_int Tryz.underlying22 h3
      obtain ⟨m1, rfl, b1⟩ := u64_natD v1
      simp at e0 e1
      exact ⟨(m1, n0), ⟨by rw [h0, e0], by rw [h1, e1]⟩, b1, b0⟩)
    refine ⟨l, hll, fun x hx => ?_, _, _, by rw [hll], by omega, hm, ?_⟩
    · obtain ⟨i, hi', rfl⟩ := List.getElem_of_mem hx
      exact (hq i hi').2
    · by_cases h0 : l.length = 0
      · exact .inl h0
      · obtain ⟨b, off, spot⟩ := a
        have hc := (hq 0 (by omega)).1.1
        have hspot : spot = none := by simpa [Addr.add] using World.cell?_spot hc
        subst hspot
        have hadd : ∀ k, (⟨b, off, none⟩ : Addr).add k = ⟨b, off + k, none⟩ := fun k => by unfold Addr.add; split <;> simp_all
        refine .inr ⟨b, off, rfl, ?_, fun i hi' => ?_⟩
        · rw [hadd] at hc; exact World.block_lt_of_cell? w _ hc
        · have := (hq i hi').1
          rw [hadd, hadd] at this
          exact ⟨this.1, by rw [Nat.add_assoc]; exact this.2⟩
set_option maxRecDepth 100000 in
set_option maxHeartbeats 1000000 in
theorem szValidators_any (u : Nat) (ad : Option Addr) (len cap : Nat) (w w' : World) (hw : Below w.heap.size w w') (ha : ArgValidators w ad len cap) : Calls Tryz.prog 20 #[.agg #[.int .u64 u, .slice ad len cap], .int .i64 1048576] w' fun e w'' => (∃ r : Int, e = .returned (.int .i64 r) ∧ (r = -1 ∨ (0 ≤ r ∧ ∃ l : List Pa, l.length = len ∧ l.length ≤ 1048576 ∧ smP l ∧ IsV w.heap.size w (.slice ad len cap) l))) ∧ Below w'.heap.size w' w'' := by
  obtain ⟨W, hW⟩ : ∃ W, w'.alloc (.cells #[.int .u64 u, .slice ad len cap] 47) = W := ⟨_, rfl⟩
  have HB : Hid (Below w'.heap.size w' W) := by show Below _ _ _; rw [← hW]; exact belA _ _
  have HN : Hid (W.heap[w'.heap.size]? = some (.cells #[.int .u64 u, .slice ad len cap] 47 (0, 0))) := by show _ = _; rw [← hW]; exact heap_alloc_new w' _
  obtain ⟨hlc, hcm, hal⟩ := ha
  have HWW : Hid (Below w.heap.size w W) := hw.trans (HB.out.mono hw.size)
  obtain ⟨c0, c1⟩ := cellsN2 HN.out
  have HBIG : Hid (∀ L : Nat, L ≤ 1048576 → L < len → ∀ W', Calls Tryz.prog 49 #[.slice ad len cap, .int .i64 (L : Int)] W' fun e w'' => e = .returned (.int .i64 (-1)) ∧ Below W'.heap.size W' w'') := fun L h1 h2 W' => szVs_big ad len cap L W' h1 (by omega) h2
  have HSM : Hid (∀ L : Nat, L ≤ 1048576 → len ≤ L → Calls Tryz.prog 49 #[.slice ad len cap, .int .i64 (L : Int)] W fun e w'' => (∃ r : Int, e = .returned (.int .i64 r) ∧ (r = -1 ∨ (0 ≤ r ∧ ∃ l : List Pa, l.length = len ∧ l.length ≤ 1048576 ∧ smP l ∧ IsV w.heap.size w (.slice ad len cap) l))) ∧ Below W.heap.size W w'') := fun L h1 h2 => by
    obtain ⟨l, q1, q2, q3⟩ := hal (by omega)
    have q4 : IsV W.heap.size W (.slice ad len cap) l := (q3.below HWW.out).up HWW.out.size
    refine (szVs_any l _ L W h1 (by omega) q2 q4).mono ?_
    rintro e w'' ⟨⟨r, hr, hg⟩, hb⟩
    exact ⟨⟨r, hr, hg.imp id (fun h => ⟨h.1, l, q1, by omega, h.2, q3⟩)⟩, hb⟩
  obtain ⟨L, hL⟩ : ∃ L : Nat, (1048576 : Int) = (L : Int) := ⟨1048576, rfl⟩
  have hL1 : L ≤ 1048576 := by omega
  have hL0 : ¬ (L : Int) < 0 := by omega
  rw [hL]
  clear hal
  by_cases h2 : L < len
  · have HC : Hid _ := HBIG.out L hL1 h2 W
    clear h2
    go_enter Tryz.func20, Tryz.ntmps20
    go_wp2_with fail
    try rw [hW]
    refine (Calls.mono HC.out ?_)
    rintro e w2 ⟨rfl, hb⟩
    have HB2 : Hid (Below w'.heap.size w' w2) := HB.out.trans (hb.mono HB.out.size)
    clear hb c0 c1
    go_wp2_with fail
    go_ret
    exact ⟨⟨_, rfl, .inl rfl⟩, HB2.out⟩
  · have HC : Hid _ := HSM.out L hL1 (by omega)
    clear h2
    go_enter Tryz.func20, Tryz.ntmps20
    go_wp2_with fail
    try rw [hW]
    refine (Calls.mono HC.out ?_)
    rintro e w2 ⟨⟨r, rfl, hr | ⟨hr, hg⟩⟩, hb⟩
    · subst hr
      have HB2 : Hid (Below w'.heap.size w' w2) := HB.out.trans (hb.mono HB.out.size)
      clear hb c0 c1
      go_wp2_with fail
      go_ret
      exact ⟨⟨_, rfl, .inl rfl⟩, HB2.out⟩
    · have hr0 : ¬ r < 0 := by omega
      have HB2 : Hid (Below w'.heap.size w' w2) := HB.out.trans (hb.mono HB.out.size)
      have HG : Hid _ := hg
      clear hb hg c0 c1
      go_wp2_with fail
      go_ret
      exact ⟨⟨_, rfl, .inr ⟨hr, HG.out⟩⟩, HB2.out⟩
theorem Tryz.szMsgV : (Tryz.prog.info? 52).map (·.size) = some 2 := by kernel_rfl
set_option maxRecDepth 100000 in
set_option maxHeartbeats 2000000 in
theorem toValidators_any (u : Nat) (l : List Pa) (v : Value) (w : World) (hs : l.length ≤ 1048577) (hv : IsV w.heap.size w v l) : Calls Tryz.prog 22 #[.agg #[.int .u64 u, v]] w fun e w' => (∃ g, e = .returned (.agg #[.int .u64 u, .slice (some ⟨g, 0, none⟩) l.length l.length]) ∧ w.heap.size ≤ g ∧ RowV l w' g l.length) ∧ Below w.heap.size w w' := by
  have HV : Hid (IsV w.heap.size w v l) := hv
  obtain ⟨ad, cap, rfl, _, _, _⟩ := hv
  have HTO : Hid (∀ w', Below w.heap.size w w' → Calls Tryz.prog 50 #[.slice ad l.length cap] w' fun e w'' => (e = .returned (.slice (some ⟨w'.heap.size, 0, none⟩) l.length l.length) ∧ RowV l w'' w'.heap.size l.length) ∧ Below w'.heap.size w' w'') := fun w' hb => toVs_any l _ w' hs ((HV.out.below hb).up hb.size)
  obtain ⟨W3, hW3⟩ : ∃ W3, ((w.alloc (.cells #[.int .u64 u, .slice ad l.length cap] 47)).alloc (.cells #[.int .u64 0, .slice none 0 0] 52)).alloc (.cells #[.int .u64 u, .slice none 0 0] 52) = W3 := ⟨_, rfl⟩
  have hs3 : W3.heap.size = w.heap.size + 3 := by rw [← hW3]; simp
  have HB3 : Hid (Below w.heap.size w W3) := by show Below _ _ _; rw [← hW3]; exact ((belA w _).alloc (by simp) _).alloc (by simp; omega) _
  obtain ⟨H1, hH1⟩ : ∃ H1, w.heap.size + 1 = H1 := ⟨_, rfl⟩
  obtain ⟨H2, hH2⟩ : ∃ H2, w.heap.size + 1 + 1 = H2 := ⟨_, rfl⟩
  have HZ3 : Hid (W3.heap[H1]? = some (.cells #[.int .u64 0, .slice none 0 0] 52 (0, 0))) := by
    show _ = _
    rw [← hW3, ← hH1, Below.heap_alloc _ _ _ (by simp)]
    have := heap_alloc_new (w.alloc (.cells #[.int .u64 u, .slice ad l.length cap] 47)) (.cells #[.int .u64 0, .slice none 0 0] 52)
    simpa using this
  have HO3 : Hid (W3.heap[H2]? = some (.cells #[.int .u64 u, .slice none 0 0] 52 (0, 0))) := by
    show _ = _
    rw [← hW3, ← hH2]
    have := heap_alloc_new ((w.alloc (.cells #[.int .u64 u, .slice ad l.length cap] 47)).alloc (.cells #[.int .u64 0, .slice none 0 0] 52)) (.cells #[.int .u64 u, .slice none 0 0] 52)
    simpa using this
  have HH1 : Hid (w.heap.size + 1 = H1) := hH1
  have HH2 : Hid (w.heap.size + 1 + 1 = H2) := hH2
  have HS3 : Hid (W3.heap.size = w.heap.size + 3) := hs3
  have HW3 : Hid (((w.alloc (.cells #[.int .u64 u, .slice ad l.length cap] 47)).alloc (.cells #[.int .u64 0, .slice none 0 0] 52)).alloc (.cells #[.int .u64 u, .slice none 0 0] 52) = W3) := hW3
  clear hs3 hW3 hH1 hH2
  go_enter Tryz.func22, Tryz.ntmps22
  go_wp2_with fail
  rw [HW3.out]
  try rw [HH2.out]
  try rw [HH1.out]
  refine (HTO.out _ HB3.out).mono ?_
  rintro e w5 ⟨⟨rfl, hr⟩, hb⟩
  obtain ⟨g, hg⟩ : ∃ g, W3.heap.size = g := ⟨_, rfl⟩
  have HG : Hid (W3.heap.size = g) := hg
  rw [hg] at hr ⊢
  have HR5 : Hid (RowV l w5 g l.length) := hr
  have HB5 : Hid (Below w.heap.size w w5) := HB3.out.trans (hb.mono HB3.out.size)
  have HZ5 : Hid (w5.heap[H1]? = some (.cells #[.int .u64 0, .slice none 0 0] 52 (0, 0))) := (hb.block H1 (blk_lt HZ3.out)).trans HZ3.out
  have HO5 : Hid (w5.heap[H2]? = some (.cells #[.int .u64 u, .slice none 0 0] 52 (0, 0))) := (hb.block H2 (blk_lt HO3.out)).trans HO3.out
  have d3 : w5.cell? ⟨H2, 1, none⟩ = some (.slice none 0 0) := by rw [cell_of_row _ _ _ _ _ _ HO5.out]; rfl
  have f3 : w5.frozen? ⟨H2, 1, none⟩ = false := by simp only [World.frozen?, HO5.out]; rfl
  have h12 : H1 ≠ H2 := by have := HH1.out; have := HH2.out; omega
  have HO6 : Hid ((w5.setCell ⟨H2, 1, none⟩ (.slice (some ⟨g, 0, none⟩) l.length l.length)).heap[H2]? = some (.cells #[.int .u64 u, .slice (some ⟨g, 0, none⟩) l.length l.length] 52 (0, 0))) := by show _ = _; rw [set_block (i := 1) HO5.out]; rfl
  have HZ6 : Hid ((w5.setCell ⟨H2, 1, none⟩ (.slice (some ⟨g, 0, none⟩) l.length l.length)).heap[H1]? = some (.cells #[.int .u64 0, .slice none 0 0] 52 (0, 0))) := by show _ = _; rw [Below.heap_setCell _ _ _ _ h12]; exact HZ5.out
  have z0 : (w5.setCell ⟨H2, 1, none⟩ (.slice (some ⟨g, 0, none⟩) l.length l.length)).cell? ⟨H1, 0, none⟩ = some (.int .u64 0) := by rw [cell_of_row _ H1 0 _ _ _ HZ6.out]; rfl
  have y0 : (w5.setCell ⟨H2, 1, none⟩ (.slice (some ⟨g, 0, none⟩) l.length l.length)).frozen? ⟨H1, 0, none⟩ = false := by simp only [World.frozen?, HZ6.out]; rfl
  have z1 : (w5.setCell ⟨H2, 1, none⟩ (.slice (some ⟨g, 0, none⟩) l.length l.length)).cell? ⟨H1, 1, none⟩ = some (.slice none 0 0) := by rw [cell_of_row _ H1 1 _ _ _ HZ6.out]; rfl
  have y1 : (w5.setCell ⟨H2, 1, none⟩ (.slice (some ⟨g, 0, none⟩) l.length l.length)).frozen? ⟨H1, 1, none⟩ = false := by simp only [World.frozen?, HZ6.out]; rfl
  have HF : Hid ((w.heap.size ≤ g ∧ RowV l ((((w5.setCell ⟨H2, 1, none⟩ (.slice (some ⟨g, 0, none⟩) l.length l.length)).setCell ⟨H1, 0, none⟩ (.int .u64 u)).setCell ⟨H1, 1, none⟩ (.slice (some ⟨g, 0, none⟩) l.length l.length))) g l.length) ∧ Below w.heap.size w ((((w5.setCell ⟨H2, 1, none⟩ (.slice (some ⟨g, 0, none⟩) l.length l.length)).setCell ⟨H1, 0, none⟩ (.int .u64 u)).setCell ⟨H1, 1, none⟩ (.slice (some ⟨g, 0, none⟩) l.length l.length)))) := by
    refine ⟨⟨by have := HG.out; have := HS3.out; omega, ?_⟩, ?_⟩
    · refine HR5.out.keep ?_
      have g1 : g ≠ H1 := by have := HG.out; have := HS3.out; have := HH1.out; omega
      have g2 : g ≠ H2 := by have := HG.out; have := HS3.out; have := HH2.out; omega
      rw [Below.heap_setCell _ _ _ _ g1, Below.heap_setCell _ _ _ _ g1, Below.heap_setCell _ _ _ _ g2]
    · exact (((HB5.out.setCell (p := ⟨H2, 1, none⟩) (by have := HH2.out; simp; omega) _).setCell (p := ⟨H1, 0, none⟩) (by have := HH1.out; simp; omega) _).setCell (p := ⟨H1, 1, none⟩) (by have := HH1.out; simp; omega) _)
  clear hb hr hg
  go_wp2_with (refine wpList_load_row rfl 52 _ rfl H2 rfl _ _ _ _ HO6.out Tryz.underlying52 rfl Tryz.szMsgV ?_)
  exact bodyPost_ret (v := .agg #[.int .u64 u, .slice (some ⟨g, 0, none⟩) l.length l.length]) (results_cell_row Tryz.results22 _ _ H1 _ _ _ _ rfl (setN2 HZ6.out) Tryz.underlying52 rfl Tryz.szMsgV) rfl ⟨⟨g, rfl, HF.out.1.1, HF.out.1.2⟩, HF.out.2⟩
end Go.Proofs.YtipmckdlnipgkaaGreatDoor
