/- Messages with parts (Proof): the same ones, and their marks: contracts. -/
import Derived.Test.YtipmckdlnipgkaaGreatDoorPVSd
import Derived.Test.YtipmckdlnipgkaaGreatDoorSNn
import Derived.Lib.QuietBelow
import Derived.BigQuiet
namespace Go.Proofs.YtipmckdlnipgkaaGreatDoor
open Go.RowKit Go.Sort
set_option linter.unusedVariables false

theorem mk_trans {w w1 w2 : World} {row : Option Nat} (h : w.grownBy w1 row) (k : w1.grownBy w2 row) : w.grownBy w2 row :=
  ⟨k.os.trans h.os, k.tape.trans h.tape, k.output.trans h.output, Nat.le_trans h.size k.size, fun q hq hne => (k.block q (Nat.lt_of_lt_of_le hq h.size) hne).trans (h.block q hq hne)⟩
theorem mk_alloc (w : World) (o : Obj) (row : Option Nat) : w.grownBy (w.alloc o) row := mk_full (mk_refl w row) (belA w o)

/-- A row of strings of which the first j bear their marks. -/
def MkG (k n : Nat) (w : World) (g j : Nat) : Prop := ∃ cs : Array Value, w.heap[g]? = some (.cells cs 9 (0, 0)) ∧ n ≤ cs.size ∧
  (∀ i, i < j → cs[i]? = some (.string (mkT (k + i)))) ∧ ∀ i, i < n → ∃ z, cs[i]? = some (.string z)
theorem MkG.cell {k n g j : Nat} {w : World} (h : MkG k n w g j) {i : Nat} (hi : i < n) : (∃ z, w.cell? ⟨g, i, none⟩ = some (.string z)) ∧ ∀ m, w.frozen? ⟨g, m, none⟩ = false := by
  obtain ⟨cs, h1, h2, h3, h4⟩ := h
  obtain ⟨z, hz⟩ := h4 i hi
  exact ⟨⟨z, by rw [cell_of_row w g _ cs _ _ h1]; exact hz⟩, fun m => by simp [World.frozen?, h1]⟩
theorem MkG.keep {k n g j : Nat} {w w' : World} (h : MkG k n w g j) (hb : w'.heap[g]? = w.heap[g]?) : MkG k n w' g j := by
  obtain ⟨cs, h1, h2⟩ := h
  exact ⟨cs, hb.trans h1, h2⟩
theorem MkG.next {k n g j : Nat} {w : World} (h : MkG k n w g j) (hj : j < n) : MkG k n (w.setCell ⟨g, j, none⟩ (.string (mkT (k + j)))) g (j + 1) := by
  obtain ⟨cs, h1, h2, h3, h4⟩ := h
  have e1 := set_block (i := j) h1 (.string (mkT (k + j)))
  refine ⟨_, e1, by simpa using h2, fun i hi => ?_, fun i hi => ?_⟩
  · by_cases e : i = j
    · subst e; rw [Array.getElem?_setIfInBounds_self_of_lt (by omega)]
    · rw [Array.getElem?_setIfInBounds_ne (by omega)]; exact h3 i (by omega)
  · by_cases e : i = j
    · subst e; exact ⟨_, Array.getElem?_setIfInBounds_self_of_lt (by omega)⟩
    · rw [Array.getElem?_setIfInBounds_ne (by omega)]; exact h4 i hi
/-- A slice of strings, of which the first j bear their marks, in a block from B on. -/
def MkR (k n j B : Nat) (w : World) (v : Value) : Prop := ∃ (ad : Option Addr) (cap : Nat), v = .slice ad n cap ∧ n ≤ cap ∧ cap ≤ maxLen ∧ (n = 0 ∨ ∃ g, ad = some ⟨g, 0, none⟩ ∧ B ≤ g ∧ g < w.heap.size ∧ MkG k n w g j)
theorem MkR.below {k n j B : Nat} {w w' : World} {v : Value} (h : MkR k n j B w v) (hb : Below w.heap.size w w') : MkR k n j B w' v := by
  obtain ⟨ad, cap, h1, h2, h3, h4⟩ := h
  refine ⟨ad, cap, h1, h2, h3, ?_⟩
  rcases h4 with h4 | ⟨g, a1, a2, a3, a4⟩
  · exact .inl h4
  · exact .inr ⟨g, a1, a2, by have := hb.size; omega, a4.keep (hb.block g a3)⟩
set_option maxRecDepth 100000 in
set_option maxHeartbeats 2000000 in
theorem markStringS_any (k n B : Nat) (v : Value) (w : World) (hk1 : 1 ≤ k) (hk : k ≤ 10000) (hl : n ≤ 1100000) (hv : MkR k n 0 B w v) : Calls Tryz.prog 59 #[v, .int .i64 k] w fun e w' => (e = .returned (.int .i64 ((k + n : Nat) : Int)) ∧ MkR k n n B w' v) ∧ w.grownBy w' v.ownBlock := by
  obtain ⟨ad, cap, rfl, h1, h2, h4⟩ := hv
  unfold maxLen at h2
  rcases h4 with h0 | ⟨g, rfl, hg, hgw, hm0⟩
  · subst h0
    have HX : Hid (MkR k 0 0 B w (.slice ad 0 cap)) := ⟨ad, cap, rfl, h1, by unfold maxLen; exact h2, .inl rfl⟩
    go_enter Tryz.func59, Tryz.ntmps59
    go_wp2_with fail
    go_loopg [1, 5] 1 (fun gk kv i wr => kv = .int .i64 k ∧ i = .int .i64 0 ∧ wr = w)
    case atStart => exact ⟨rfl, rfl, rfl⟩
    case round =>
      obtain ⟨rfl, rfl, hw⟩ := hrel
      subst hw
      go_wp2_with fail
      go_ret
      exact ⟨⟨by simp, HX.out⟩, mk_refl _ _⟩
  · go_enter Tryz.func59, Tryz.ntmps59
    go_wp2_with fail
    go_loopg [1, 5] n (fun gk kv i wr => ∃ j : Nat, j + gk = n ∧ i = .int .i64 j ∧ kv = .int .i64 ((k + j : Nat) : Int) ∧ MkG k n wr g j ∧ w.grownBy wr (some g) ∧ g < wr.heap.size)
    case atStart => exact ⟨0, by omega, rfl, by simp, hm0, mk_refl _ _, hgw⟩
    case round =>
      obtain ⟨j, hj', rfl, rfl, hm, hb, hgr⟩ := hrel
      have HJ : Hid (j + gk = n) := hj'
      have HM : Hid (MkG k n wr g j) := hm
      have HB : Hid (w.grownBy wr (some g)) := hb
      have hj : j ≤ n := by omega
      clear hj' hb hm0
      by_cases hlt : j < n
      · obtain ⟨K, hK⟩ : ∃ K : Nat, k + j = K := ⟨_, rfl⟩
        have hK2 : K ≤ 2400000 := by omega
        have hK1 : 1 ≤ K := by omega
        have HKE : Hid (k + j = K) := hK
        have HT : Hid (∀ w, Calls Tryz.prog 42 #[.int .i64 (K : Int)] w fun e w' => e = .returned (.string (mkT K)) ∧ Below w.heap.size w w') := fun w => markText_any K w (by omega) (by omega)
        rw [hK]
        clear hm hK
        go_wp2_with fail
        refine (HT.out _).mono ?_
        rintro e w2 ⟨rfl, hb2⟩
        have hM3 := HM.out.keep (hb2.block g hgr)
        obtain ⟨⟨y2, c2⟩, f2⟩ := hM3.cell hlt
        have f2' := f2 j
        have hn := hM3.next hlt
        rw [HKE.out] at hn
        have HM5 : Hid (MkG k n (w2.setCell ⟨g, j, none⟩ (.string (mkT K))) g (j + 1)) := hn
        have HB5 : Hid (w.grownBy (w2.setCell ⟨g, j, none⟩ (.string (mkT K))) (some g)) := mk_set (mk_full HB.out hb2) _ _
        have HG5 : Hid (g < (w2.setCell ⟨g, j, none⟩ (.string (mkT K))).heap.size) := by have := hb2.size; show _ < _; simp [World.setCell]; omega
        clear hb2 hM3 f2 hn
        go_wp2_with fail
        go_roundg (gk - 1)
        case rel => exact ⟨j + 1, by have := HJ.out; omega, by go_num, by have := HKE.out; first | go_num | (congr 1; omega), HM5.out, HB5.out, HG5.out⟩
        case measure => have := HJ.out; omega
      · have ej : j = n := by omega
        have HX : Hid (MkR k n n B wr (.slice (some ⟨g, 0, none⟩) n cap)) := ⟨_, cap, rfl, h1, by unfold maxLen; exact h2, .inr ⟨g, rfl, hg, hgr, by have := HM.out; rw [ej] at this; exact this⟩⟩
        clear hm hlt
        subst ej
        go_wp2_with fail
        go_ret
        exact ⟨⟨rfl, HX.out⟩, HB.out⟩

theorem MkR.ofRow {l : List Pa} {w : World} {g : Nat} (h : RowS l w g l.length) (hm : l.length ≤ 1048577) : MkR 1 l.length 0 g w (.slice (some ⟨g, 0, none⟩) l.length l.length) := by
  obtain ⟨cs, h1, h2, h3, h4⟩ := h
  exact ⟨_, _, rfl, Nat.le_refl _, by unfold maxLen; omega, .inr ⟨g, rfl, Nat.le_refl _, blk_lt h1, cs, h1, by omega, fun i hi => by omega, h4⟩⟩
theorem IsS.at {B : Nat} {w : World} {ad : Option Addr} {n C : Nat} {l : List Pa} (h : IsS B w (.slice ad n C) l) {j : Nat} (hj : j < l.length) : ∃ b o, ad = some ⟨b, o, none⟩ ∧ b < B ∧ w.cell? ⟨b, o + j, none⟩ = some (.string l[j].2) := by
  obtain ⟨ad', C', h1, _, _, h4 | ⟨b, o, h5, h6, h7⟩⟩ := h
  · omega
  · cases h1
    exact ⟨b, o, h5, h6, h7 j hj⟩
set_option maxRecDepth 100000 in
set_option maxHeartbeats 1000000 in
theorem eqSs_same (l : List Pa) (ad ad' : Option Addr) (cap cap' : Nat) (w : World) (hl : l.length ≤ 1048577) (hv : IsS w.heap.size w (.slice ad l.length cap) l) (hv' : IsS w.heap.size w (.slice ad' l.length cap') l) : Calls Tryz.prog 58 #[.slice ad l.length cap, .slice ad' l.length cap'] w fun e w' => e = .returned (.bool true) ∧ Below w.heap.size w w' := by
  have HV : Hid (IsS w.heap.size w (.slice ad l.length cap) l) := hv
  have HV' : Hid (IsS w.heap.size w (.slice ad' l.length cap') l) := hv'
  clear hv hv'
  go_enter Tryz.func58, Tryz.ntmps58
  go_wp2_with fail
  go_loopg [5] l.length (fun gk i wr => ∃ j : Nat, j + gk = l.length ∧ i = .int .i64 j ∧ Below w.heap.size w wr)
  case atStart => exact ⟨0, by omega, rfl, Below.refl _ _⟩
  case round =>
    obtain ⟨j, hj', rfl, hb⟩ := hrel
    have HJ : Hid (j + gk = l.length) := hj'
    have hj : j ≤ l.length := by omega
    clear hj'
    by_cases hlt : j < l.length
    · have HB : Hid (Below w.heap.size w wr) := hb
      obtain ⟨b, o, rfl, hg, c0⟩ := (HV.out.below hb).at hlt
      obtain ⟨b', o', rfl, hg', c0'⟩ := (HV'.out.below hb).at hlt
      generalize l[j] = it at *
      obtain ⟨x, y⟩ := it
      simp only at c0 c0'
      have r0 := cells_re c0
      have r0' := cells_re c0'
      have hss : (y.toList == y.toList) = true := by simp
      clear c0 c0' hb
      go_wp2_with fail
      refine wp_region_quiet_below (by kernel_rfl) (by kernel_rfl) ?_
      repeat (go_big_quiet_step (fail))
      refine wpQuiet_nil ?_
      intro w6 hw'
      obtain ⟨⟨dq, osq⟩, hw''⟩ := hw'
      have HB2 : Hid (Below w.heap.size w w6) := by show Below _ _ _; rw [hw'']; exact HB.out.trans ((below_regrown _ dq osq).mono HB.out.size)
      clear hw'' r0 r0'
      go_wp2_with fail
      go_roundg (gk - 1)
      case rel => exact ⟨j + 1, by have := HJ.out; omega, by go_num, HB2.out⟩
      case measure => have := HJ.out; omega
    · have e1 : j = l.length := by omega
      subst e1
      go_wp2_with fail
      go_ret
      exact ⟨rfl, hb⟩
set_option maxRecDepth 100000 in
set_option maxHeartbeats 1000000 in
theorem eqProof_same (u : Nat) (t : Nat) (zz : ByteArray) (l : List Pa) (ad ad' : Option Addr) (cap cap' : Nat) (w : World) (hl : l.length ≤ 1048577) (hv : IsS w.heap.size w (.slice ad l.length cap) l) (hv' : IsS w.heap.size w (.slice ad' l.length cap') l) : Calls Tryz.prog 30 #[.agg #[.int .u64 u, .int .u64 t, .string zz, .slice ad l.length cap], .agg #[.int .u64 u, .int .u64 t, .string zz, .slice ad' l.length cap']] w fun e w' => e = .returned (.bool true) ∧ Below w.heap.size w w' := by
  obtain ⟨W, hW⟩ : ∃ W, (w.alloc (.cells #[.int .u64 u, .int .u64 t, .string zz, .slice ad l.length cap] 62)).alloc (.cells #[.int .u64 u, .int .u64 t, .string zz, .slice ad' l.length cap'] 62) = W := ⟨_, rfl⟩
  have HW : Hid ((w.alloc (.cells #[.int .u64 u, .int .u64 t, .string zz, .slice ad l.length cap] 62)).alloc (.cells #[.int .u64 u, .int .u64 t, .string zz, .slice ad' l.length cap'] 62) = W) := hW
  have HB : Hid (Below w.heap.size w W) := by show Below _ _ _; rw [← hW]; exact (belA w _).alloc (by simp) _
  obtain ⟨x0, x1, x2, x3⟩ := cellsN4 (W := W) (b := w.heap.size) (by rw [← hW, Below.heap_alloc _ _ _ (by simp)]; exact heap_alloc_new w _)
  obtain ⟨y0, y1, y2, y3⟩ := cellsN4 (W := W) (b := w.heap.size + 1) (by rw [← hW]; have := heap_alloc_new (w.alloc (.cells #[.int .u64 u, .int .u64 t, .string zz, .slice ad l.length cap] 62)) (.cells #[.int .u64 u, .int .u64 t, .string zz, .slice ad' l.length cap'] 62); simpa using this)
  have HC : Hid (∀ w', Below w.heap.size w w' → Calls Tryz.prog 58 #[.slice ad l.length cap, .slice ad' l.length cap'] w' fun e w'' => e = .returned (.bool true) ∧ Below w'.heap.size w' w'') := fun w' hb => eqSs_same l ad ad' cap cap' w' hl ((hv.below hb).up hb.size) ((hv'.below hb).up hb.size)
  have hs : (zz.toList == zz.toList) = true := by simp
  clear hv hv' hW
  go_enter Tryz.func30, Tryz.ntmps30
  go_wp2_with fail
  try rw [HW.out]
  refine (HC.out _ HB.out).mono ?_
  rintro e w1 ⟨rfl, hb1⟩
  have HB1 : Hid (Below w.heap.size w w1) := HB.out.trans (hb1.mono HB.out.size)
  clear hb1
  go_wp2_with fail
  go_ret
  exact ⟨rfl, HB1.out⟩
set_option maxRecDepth 100000 in
set_option maxHeartbeats 1000000 in
theorem markProof_any (u : Nat) (t : Nat) (zz : ByteArray) (n B : Nat) (ad : Option Addr) (cap : Nat) (w : World) (hl : n ≤ 1100000) (hv : MkR 1 n 0 B w (.slice ad n cap)) : Calls Tryz.prog 31 #[.agg #[.int .u64 u, .int .u64 t, .string zz, .slice ad n cap], .int .i64 1] w fun e w' => (∃ L : Nat, e = .returned (.int .i64 (L : Int)) ∧ L ≤ 2400000) ∧ w.grownBy w' (Value.slice ad n cap).ownBlock := by
  obtain ⟨W, hW⟩ : ∃ W, w.alloc (.cells #[.int .u64 u, .int .u64 t, .string zz, .slice ad n cap] 62) = W := ⟨_, rfl⟩
  have HW : Hid (w.alloc (.cells #[.int .u64 u, .int .u64 t, .string zz, .slice ad n cap] 62) = W) := hW
  have HG : Hid (w.grownBy W (Value.slice ad n cap).ownBlock) := by show World.grownBy _ _ _; rw [← hW]; exact mk_alloc _ _ _
  have HC : Hid (Calls Tryz.prog 59 #[.slice ad n cap, .int .i64 1] W fun e w' => (e = .returned (.int .i64 ((1 + n : Nat) : Int)) ∧ MkR 1 n n B w' (.slice ad n cap)) ∧ W.grownBy w' (Value.slice ad n cap).ownBlock) := markStringS_any 1 n B _ W (by decide) (by decide) hl (by rw [← hW]; exact hv.below (belA _ _))
  obtain ⟨x0, x1, x2, x3⟩ := cellsN4 (W := W) (b := w.heap.size) (by rw [← hW]; exact heap_alloc_new w _)
  obtain ⟨L, hL⟩ : ∃ L : Nat, 1 + n = L := ⟨_, rfl⟩
  have hLs : L ≤ 2400000 := by omega
  rw [hL] at HC
  clear hv hL hW
  go_enter Tryz.func31, Tryz.ntmps31
  go_wp2_with fail
  try rw [HW.out]
  refine Calls.mono HC.out ?_
  rintro e w1 ⟨⟨rfl, _⟩, hg⟩
  have HX : Hid (w.grownBy w1 (Value.slice ad n cap).ownBlock) := mk_trans HG.out hg
  clear hg
  go_wp2_with fail
  go_ret
  exact ⟨⟨L, rfl, hLs⟩, HX.out⟩
end Go.Proofs.YtipmckdlnipgkaaGreatDoor
