/- Messages with parts (Validators): the same ones, and their marks: contracts. -/
import Derived.Test.YtipmckdlnipgkaaGreatDoorPVVd
import Derived.Test.YtipmckdlnipgkaaGreatDoorSNn
import Derived.Lib.QuietBelow
import Derived.BigQuiet
import Derived.Test.YtipmckdlnipgkaaGreatDoorPVSe
namespace Go.Proofs.YtipmckdlnipgkaaGreatDoor
open Go.RowKit Go.Sort
set_option linter.unusedVariables false

/-- A row of validators of which the first j bear their marks. -/
def MkPv (k n : Nat) (w : World) (g j : Nat) : Prop := ∃ cs : Array Value, w.heap[g]? = some (.cells cs 91 (0, 0)) ∧ n * 2 ≤ cs.size ∧
  (∀ i, i < j → cs[i * 2]? = some (.string (mkT (k + 2 * i))) ∧ cs[i * 2 + 1]? = some (.int .u64 ((k + 2 * i + 1 : Nat) : Int))) ∧
  ∀ i, i < n → (∃ z, cs[i * 2]? = some (.string z)) ∧ ∃ z, cs[i * 2 + 1]? = some (.int .u64 z)
theorem MkPv.cell {k n g j : Nat} {w : World} (h : MkPv k n w g j) {i : Nat} (hi : i < n) : ((∃ z, w.cell? ⟨g, i * 2, none⟩ = some (.string z)) ∧ ∃ z, w.cell? ⟨g, i * 2 + 1, none⟩ = some (.int .u64 z)) ∧ ∀ m, w.frozen? ⟨g, m, none⟩ = false := by
  obtain ⟨cs, h1, h2, h3, h4⟩ := h
  obtain ⟨a, b⟩ := h4 i hi
  refine ⟨⟨?_, ?_⟩, fun m => by simp [World.frozen?, h1]⟩
  · obtain ⟨z, hz⟩ := a; exact ⟨z, by rw [cell_of_row w g _ cs _ _ h1]; exact hz⟩
  · obtain ⟨z, hz⟩ := b; exact ⟨z, by rw [cell_of_row w g _ cs _ _ h1]; exact hz⟩
theorem MkPv.keep {k n g j : Nat} {w w' : World} (h : MkPv k n w g j) (hb : w'.heap[g]? = w.heap[g]?) : MkPv k n w' g j := by
  obtain ⟨cs, h1, h2⟩ := h
  exact ⟨cs, hb.trans h1, h2⟩
theorem MkPv.set0 {k n g j : Nat} {w : World} (h : MkPv k n w g j) (hj : j < n) (x : Value) (i : Nat) (hi : i = 0 ∧ (∃ z, x = .string z) ∨ i = 1 ∧ (∃ z, x = .int .u64 z)) : MkPv k n (w.setCell ⟨g, j * 2 + i, none⟩ x) g j ∧ (w.setCell ⟨g, j * 2 + i, none⟩ x).cell? ⟨g, j * 2 + i, none⟩ = some x := by
  obtain ⟨cs, h1, h2, h3, h4⟩ := h
  have e1 := set_block (i := j * 2 + i) h1 x
  have hlt : j * 2 + i < cs.size := by omega
  refine ⟨⟨_, e1, by simpa using h2, fun q hq => ?_, fun q hq => ?_⟩, ?_⟩
  · rw [Array.getElem?_setIfInBounds_ne (by omega), Array.getElem?_setIfInBounds_ne (by omega)]
    exact h3 q hq
  · obtain ⟨a, b⟩ := h4 q hq
    by_cases e : q = j
    · subst e
      rcases hi with ⟨rfl, z, rfl⟩ | ⟨rfl, z, rfl⟩
      · exact ⟨⟨z, Array.getElem?_setIfInBounds_self_of_lt (by omega)⟩, by rw [Array.getElem?_setIfInBounds_ne (by omega)]; exact b⟩
      · exact ⟨by rw [Array.getElem?_setIfInBounds_ne (by omega)]; exact a, ⟨z, Array.getElem?_setIfInBounds_self_of_lt (by omega)⟩⟩
    · rw [Array.getElem?_setIfInBounds_ne (by omega), Array.getElem?_setIfInBounds_ne (by omega)]
      exact ⟨a, b⟩
  · rw [cell_of_row _ g _ _ _ _ e1, Array.getElem?_setIfInBounds_self_of_lt (by omega)]
theorem MkPv.more {k n g j : Nat} {w : World} (h : MkPv k n w g j) (c0 : w.cell? ⟨g, j * 2, none⟩ = some (.string (mkT (k + 2 * j)))) (c1 : w.cell? ⟨g, j * 2 + 1, none⟩ = some (.int .u64 ((k + 2 * j + 1 : Nat) : Int))) : MkPv k n w g (j + 1) := by
  obtain ⟨cs, h1, h2, h3, h4⟩ := h
  rw [cell_of_row w g _ cs _ _ h1] at c0 c1
  refine ⟨cs, h1, h2, fun i hi => ?_, h4⟩
  by_cases e : i = j
  · subst e; exact ⟨c0, c1⟩
  · exact h3 i (by omega)
/-- A slice of validators, of which the first j bear their marks, in a block from B on. -/
def MkQv (k n j B : Nat) (w : World) (v : Value) : Prop := ∃ (ad : Option Addr) (cap : Nat), v = .slice ad n cap ∧ n ≤ cap ∧ cap ≤ maxLen ∧ (n = 0 ∨ ∃ g, ad = some ⟨g, 0, none⟩ ∧ B ≤ g ∧ g < w.heap.size ∧ MkPv k n w g j)
theorem MkQv.below {k n j B : Nat} {w w' : World} {v : Value} (h : MkQv k n j B w v) (hb : Below w.heap.size w w') : MkQv k n j B w' v := by
  obtain ⟨ad, cap, h1, h2, h3, h4⟩ := h
  refine ⟨ad, cap, h1, h2, h3, ?_⟩
  rcases h4 with h4 | ⟨g, a1, a2, a3, a4⟩
  · exact .inl h4
  · exact .inr ⟨g, a1, a2, by have := hb.size; omega, a4.keep (hb.block g a3)⟩
set_option maxRecDepth 100000 in
set_option maxHeartbeats 2000000 in
theorem markValidatorS_any (k n B : Nat) (v : Value) (w : World) (hk1 : 1 ≤ k) (hk : k ≤ 10000) (hl : n ≤ 1100000) (hv : MkQv k n 0 B w v) : Calls Tryz.prog 54 #[v, .int .i64 k] w fun e w' => (e = .returned (.int .i64 ((k + 2 * n : Nat) : Int)) ∧ MkQv k n n B w' v) ∧ w.grownBy w' v.ownBlock := by
  obtain ⟨ad, cap, rfl, h1, h2, h4⟩ := hv
  unfold maxLen at h2
  rcases h4 with h0 | ⟨g, rfl, hg, hgw, hm0⟩
  · subst h0
    have HX : Hid (MkQv k 0 0 B w (.slice ad 0 cap)) := ⟨ad, cap, rfl, h1, by unfold maxLen; exact h2, .inl rfl⟩
    go_enter Tryz.func54, Tryz.ntmps54
    go_wp2_with fail
    go_loopg [1, 5] 1 (fun gk kv i wr => kv = .int .i64 k ∧ i = .int .i64 0 ∧ wr = w)
    case atStart => exact ⟨rfl, rfl, rfl⟩
    case round =>
      obtain ⟨rfl, rfl, hw⟩ := hrel
      subst hw
      go_wp2_with fail
      go_ret
      exact ⟨⟨by simp, HX.out⟩, mk_refl _ _⟩
  · go_enter Tryz.func54, Tryz.ntmps54
    go_wp2_with fail
    go_loopg [1, 5] n (fun gk kv i wr => ∃ j : Nat, j + gk = n ∧ i = .int .i64 j ∧ kv = .int .i64 ((k + 2 * j : Nat) : Int) ∧ MkPv k n wr g j ∧ w.grownBy wr (some g) ∧ g < wr.heap.size)
    case atStart => exact ⟨0, by omega, rfl, by simp, hm0, mk_refl _ _, hgw⟩
    case round =>
      obtain ⟨j, hj', rfl, rfl, hm, hb, hgr⟩ := hrel
      have HJ : Hid (j + gk = n) := hj'
      have HM : Hid (MkPv k n wr g j) := hm
      have HB : Hid (w.grownBy wr (some g)) := hb
      have hj : j ≤ n := by omega
      clear hj' hb hm0
      by_cases hlt : j < n
      · obtain ⟨K, hK⟩ : ∃ K : Nat, k + 2 * j = K := ⟨_, rfl⟩
        have hK2 : K ≤ 2400000 := by omega
        have hK1 : 1 ≤ K := by omega
        have HKE : Hid (k + 2 * j = K) := hK
        have HT : Hid (∀ w, Calls Tryz.prog 42 #[.int .i64 (K : Int)] w fun e w' => e = .returned (.string (mkT K)) ∧ Below w.heap.size w w') := fun w => markText_any K w (by omega) (by omega)
        rw [hK]
        clear hm hK
        go_wp2_with fail
        refine (HT.out _).mono ?_
        rintro e w2 ⟨rfl, hb2⟩
        have hM3 := HM.out.keep (hb2.block g hgr)
        have hgs : g < w2.heap.size := by have := hb2.size; omega
        obtain ⟨⟨⟨y1, c1⟩, _⟩, f1⟩ := hM3.cell hlt
        have f1' := f1 (j * 2)
        obtain ⟨m4, d1⟩ := hM3.set0 hlt (.string (mkT K)) 0 (.inl ⟨rfl, _, rfl⟩)
        rw [Nat.add_zero] at m4 d1
        obtain ⟨⟨_, ⟨y2, c2⟩⟩, f2⟩ := m4.cell hlt
        have f2' := f2 (j * 2 + 1)
        obtain ⟨m5, d2⟩ := m4.set0 hlt (.int .u64 ((K : Int) + 1)) 1 (.inr ⟨rfl, _, rfl⟩)
        have hke := HKE.out
        have HM5 : Hid (MkPv k n ((w2.setCell ⟨g, j * 2, none⟩ (.string (mkT K))).setCell ⟨g, j * 2 + 1, none⟩ (.int .u64 ((K : Int) + 1))) g (j + 1)) := m5.more (by rw [World.cell?_setCell_other _ _ _ _ (by simp), hke]; exact d1) (by rw [hke, d2]; simp)
        have HB5 : Hid (w.grownBy ((w2.setCell ⟨g, j * 2, none⟩ (.string (mkT K))).setCell ⟨g, j * 2 + 1, none⟩ (.int .u64 ((K : Int) + 1))) (some g)) := mk_set (mk_set (mk_full HB.out hb2) _ _) _ _
        have HG5 : Hid (g < ((w2.setCell ⟨g, j * 2, none⟩ (.string (mkT K))).setCell ⟨g, j * 2 + 1, none⟩ (.int .u64 ((K : Int) + 1))).heap.size) := by show _ < _; simp [World.setCell]; omega
        clear hb2 hM3 f1 f2 m4 m5 d1 d2 hke
        go_wp2_with fail
        go_roundg (gk - 1)
        case rel => exact ⟨j + 1, by have := HJ.out; omega, by go_num, by have := HKE.out; first | go_num | (congr 1; omega), HM5.out, HB5.out, HG5.out⟩
        case measure => have := HJ.out; omega
      · have ej : j = n := by omega
        have HX : Hid (MkQv k n n B wr (.slice (some ⟨g, 0, none⟩) n cap)) := ⟨_, cap, rfl, h1, by unfold maxLen; exact h2, .inr ⟨g, rfl, hg, hgr, by have := HM.out; rw [ej] at this; exact this⟩⟩
        clear hm hlt
        subst ej
        go_wp2_with fail
        go_ret
        exact ⟨⟨rfl, HX.out⟩, HB.out⟩

theorem MkQv.ofRow {l : List Pa} {w : World} {g : Nat} (h : RowV l w g l.length) (hm : l.length ≤ 1048577) : MkQv 1 l.length 0 g w (.slice (some ⟨g, 0, none⟩) l.length l.length) := by
  obtain ⟨cs, h1, h2, h3, h4⟩ := h
  exact ⟨_, _, rfl, Nat.le_refl _, by unfold maxLen; omega, .inr ⟨g, rfl, Nat.le_refl _, blk_lt h1, cs, h1, by omega, fun i hi => by omega, h4⟩⟩
theorem IsV.at {B : Nat} {w : World} {ad : Option Addr} {n C : Nat} {l : List Pa} (h : IsV B w (.slice ad n C) l) {j : Nat} (hj : j < l.length) : ∃ b o, ad = some ⟨b, o, none⟩ ∧ b < B ∧ w.cell? ⟨b, o + j * 2, none⟩ = some (.string l[j].2) ∧ w.cell? ⟨b, o + j * 2 + 1, none⟩ = some (.int .u64 l[j].1) := by
  obtain ⟨ad', C', h1, _, _, h4 | ⟨b, o, h5, h6, h7⟩⟩ := h
  · omega
  · cases h1
    exact ⟨b, o, h5, h6, h7 j hj⟩
set_option maxHeartbeats 400000 in
theorem eqV_same (k : Nat) (z : ByteArray) (w : World) : Calls Tryz.prog 70 #[.agg #[.string z, .int .u64 k], .agg #[.string z, .int .u64 k]] w fun e w' => e = .returned (.bool true) ∧ Below w.heap.size w w' := by
  have hs : (z.toList == z.toList) = true := by simp
  go_enter Tryz.func70, Tryz.ntmps70
  go_wp2
  go_ret
  exact ⟨rfl, (belA w _).alloc (by simp) _⟩
set_option maxRecDepth 100000 in
set_option maxHeartbeats 1000000 in
theorem eqVs_same (l : List Pa) (ad ad' : Option Addr) (cap cap' : Nat) (w : World) (hl : l.length ≤ 1048577) (hv : IsV w.heap.size w (.slice ad l.length cap) l) (hv' : IsV w.heap.size w (.slice ad' l.length cap') l) : Calls Tryz.prog 53 #[.slice ad l.length cap, .slice ad' l.length cap'] w fun e w' => e = .returned (.bool true) ∧ Below w.heap.size w w' := by
  have HV : Hid (IsV w.heap.size w (.slice ad l.length cap) l) := hv
  have HV' : Hid (IsV w.heap.size w (.slice ad' l.length cap') l) := hv'
  clear hv hv'
  go_enter Tryz.func53, Tryz.ntmps53
  go_wp2_with fail
  go_loopg [5] l.length (fun gk i wr => ∃ j : Nat, j + gk = l.length ∧ i = .int .i64 j ∧ Below w.heap.size w wr)
  case atStart => exact ⟨0, by omega, rfl, Below.refl _ _⟩
  case round =>
    obtain ⟨j, hj', rfl, hb⟩ := hrel
    have HJ : Hid (j + gk = l.length) := hj'
    have hj : j ≤ l.length := by omega
    clear hj'
    by_cases hlt : j < l.length
    · have HB : Hid (Below w.heap.size w wr) := hb
      obtain ⟨b, o, rfl, hg, c0, c1⟩ := (HV.out.below hb).at hlt
      obtain ⟨b', o', rfl, hg', c0', c1'⟩ := (HV'.out.below hb).at hlt
      generalize l[j] = it at *
      obtain ⟨x, y⟩ := it
      simp only at c0 c1 c0' c1'
      have r0 := cells_re c0
      have r0' := cells_re c0'
      have r1 := cells_re c1
      have r1' := cells_re c1'
      have HC : Hid (∀ w, Calls Tryz.prog 70 #[.agg #[.string y, .int .u64 x], .agg #[.string y, .int .u64 x]] w fun e w' => e = .returned (.bool true) ∧ Below w.heap.size w w') := fun w => eqV_same x y w
      clear c0 c1 c0' c1' hb
      go_wp2_with fail
      refine wp_region_quiet_below (by kernel_rfl) (by kernel_rfl) ?_
      repeat (go_big_quiet_step (exact Calls.regrown_of (HC.out _)))
      refine wpQuiet_nil ?_
      intro w6 hw'
      obtain ⟨⟨dq, osq⟩, hw''⟩ := hw'
      have HB2 : Hid (Below w.heap.size w w6) := by show Below _ _ _; rw [hw'']; exact HB.out.trans ((below_regrown _ dq osq).mono HB.out.size)
      clear hw'' r0 r0' r1 r1'
      go_wp2_with fail
      go_roundg (gk - 1)
      case rel => exact ⟨j + 1, by have := HJ.out; omega, by go_num, HB2.out⟩
      case measure => have := HJ.out; omega
    · have e1 : j = l.length := by omega
      subst e1
      go_wp2_with fail
      go_ret
      exact ⟨rfl, hb⟩
set_option maxRecDepth 100000 in
set_option maxHeartbeats 1000000 in
theorem eqValidators_same (u : Nat) (l : List Pa) (ad ad' : Option Addr) (cap cap' : Nat) (w : World) (hl : l.length ≤ 1048577) (hv : IsV w.heap.size w (.slice ad l.length cap) l) (hv' : IsV w.heap.size w (.slice ad' l.length cap') l) : Calls Tryz.prog 24 #[.agg #[.int .u64 u, .slice ad l.length cap], .agg #[.int .u64 u, .slice ad' l.length cap']] w fun e w' => e = .returned (.bool true) ∧ Below w.heap.size w w' := by
  obtain ⟨W, hW⟩ : ∃ W, (w.alloc (.cells #[.int .u64 u, .slice ad l.length cap] 52)).alloc (.cells #[.int .u64 u, .slice ad' l.length cap'] 52) = W := ⟨_, rfl⟩
  have HW : Hid ((w.alloc (.cells #[.int .u64 u, .slice ad l.length cap] 52)).alloc (.cells #[.int .u64 u, .slice ad' l.length cap'] 52) = W) := hW
  have HB : Hid (Below w.heap.size w W) := by show Below _ _ _; rw [← hW]; exact (belA w _).alloc (by simp) _
  obtain ⟨x0, x1⟩ := cellsN2 (W := W) (b := w.heap.size) (by rw [← hW, Below.heap_alloc _ _ _ (by simp)]; exact heap_alloc_new w _)
  obtain ⟨y0, y1⟩ := cellsN2 (W := W) (b := w.heap.size + 1) (by rw [← hW]; have := heap_alloc_new (w.alloc (.cells #[.int .u64 u, .slice ad l.length cap] 52)) (.cells #[.int .u64 u, .slice ad' l.length cap'] 52); simpa using this)
  have HC : Hid (∀ w', Below w.heap.size w w' → Calls Tryz.prog 53 #[.slice ad l.length cap, .slice ad' l.length cap'] w' fun e w'' => e = .returned (.bool true) ∧ Below w'.heap.size w' w'') := fun w' hb => eqVs_same l ad ad' cap cap' w' hl ((hv.below hb).up hb.size) ((hv'.below hb).up hb.size)
  clear hv hv' hW
  go_enter Tryz.func24, Tryz.ntmps24
  go_wp2_with fail
  try rw [HW.out]
  refine (HC.out _ HB.out).mono ?_
  rintro e w1 ⟨rfl, hb1⟩
  have HB1 : Hid (Below w.heap.size w w1) := HB.out.trans (hb1.mono HB.out.size)
  clear hb1
  go_wp2_with fail
  go_ret
  exact ⟨rfl, HB1.out⟩
set_option maxRecDepth 100000 in
set_option maxHeartbeats 1000000 in
theorem markValidators_any (u : Nat) (n B : Nat) (ad : Option Addr) (cap : Nat) (w : World) (hl : n ≤ 1100000) (hv : MkQv 1 n 0 B w (.slice ad n cap)) : Calls Tryz.prog 25 #[.agg #[.int .u64 u, .slice ad n cap], .int .i64 1] w fun e w' => (∃ L : Nat, e = .returned (.int .i64 (L : Int)) ∧ L ≤ 2400000) ∧ w.grownBy w' (Value.slice ad n cap).ownBlock := by
  obtain ⟨W, hW⟩ : ∃ W, w.alloc (.cells #[.int .u64 u, .slice ad n cap] 52) = W := ⟨_, rfl⟩
  have HW : Hid (w.alloc (.cells #[.int .u64 u, .slice ad n cap] 52) = W) := hW
  have HG : Hid (w.grownBy W (Value.slice ad n cap).ownBlock) := by show World.grownBy _ _ _; rw [← hW]; exact mk_alloc _ _ _
  have HC : Hid (Calls Tryz.prog 54 #[.slice ad n cap, .int .i64 1] W fun e w' => (e = .returned (.int .i64 ((1 + 2 * n : Nat) : Int)) ∧ MkQv 1 n n B w' (.slice ad n cap)) ∧ W.grownBy w' (Value.slice ad n cap).ownBlock) := markValidatorS_any 1 n B _ W (by decide) (by decide) hl (by rw [← hW]; exact hv.below (belA _ _))
  obtain ⟨x0, x1⟩ := cellsN2 (W := W) (b := w.heap.size) (by rw [← hW]; exact heap_alloc_new w _)
  obtain ⟨L, hL⟩ : ∃ L : Nat, 1 + 2 * n = L := ⟨_, rfl⟩
  have hLs : L ≤ 2400000 := by omega
  rw [hL] at HC
  clear hv hL hW
  go_enter Tryz.func25, Tryz.ntmps25
  go_wp2_with fail
  try rw [HW.out]
  refine Calls.mono HC.out ?_
  rintro e w1 ⟨⟨rfl, _⟩, hg⟩
  have HX : Hid (w.grownBy w1 (Value.slice ad n cap).ownBlock) := mk_trans HG.out hg
  clear hg
  go_wp2_with fail
  go_ret
  exact ⟨⟨L, rfl, hLs⟩, HX.out⟩
end Go.Proofs.YtipmckdlnipgkaaGreatDoor
