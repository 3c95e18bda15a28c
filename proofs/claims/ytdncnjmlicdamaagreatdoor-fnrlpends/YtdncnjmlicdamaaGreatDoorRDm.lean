/- The specification's reading of RLP: contract. -/
import Derived.Test.YtdncnjmlicdamaaGreatDoorRDl
import Derived.Test.YtdncnjmlicdamaaGreatDoorSBs
import Derived.Test.YtdncnjmlicdamaaGreatDoorSBq
import Derived.Test.YtdncnjmlicdamaaGreatDoorS3j
import Derived.Deep.RegionHeld3
import Derived.Deep.OwnRows
namespace Go.Proofs.YtdncnjmlicdamaaGreatDoor
open Go.RowKit Go.Sort
set_option linter.unusedVariables false
/-- What l4Dec leaves. -/
def D4Post (ts : List (Int × Int)) (f a : Nat) (b : ByteArray) (w : World) (e : Ending) (w' : World) : Prop :=
  ((rlD false ts f a b.data.toList = none ∧ ∃ v y, e = .returned (.tuple #[v, .string y, .bool false])) ∨
   ∃ l R v, rlD false ts f a b.data.toList = some (l, R.data.toList) ∧ e = .returned (.tuple #[v, .string R, .bool true]) ∧ OwnIt w.heap.size w' v l) ∧ Below w.heap.size w w'
/-- The contract of l4Dec, f levels being left. -/
def D4Hyp (ts : List (Int × Int)) (f : Nat) : Prop :=
  ∀ (a e0 : Nat) (vt : Value) (b : ByteArray) (w : World), f ≤ 7 → en ts f a = some e0 → IsTyps w.heap.size w vt ts → b.size ≤ 1048576 →
    Calls Tryz.prog 27 #[vt, .int .i64 a, .string b] w fun e w' => D4Post ts f a b w e w'
set_option maxRecDepth 100000 in
set_option maxHeartbeats 4000000 in
theorem l4Dec_tk (ts : List (Int × Int)) (f a : Nat) (vt : Value) (b : ByteArray) (w : World) (hT : IsTyps w.heap.size w vt ts) (hb : b.size ≤ 1048576) (ha : a < ts.length) (h : tk false b.data.toList = none) :
    Calls Tryz.prog 27 #[vt, .int .i64 a, .string b] w fun e w' => D4Post ts (f + 1) a b w e w' := by
  have HN : Hid (rlD false ts (f + 1) a b.data.toList = none) := by show _ = _; rw [rlD_at ha, h]; rfl
  have HTK : Hid (∀ w, Calls Tryz.prog 47 #[.string b] w fun e w' => e = .returned (.tuple #[.bool false, .string ⟨#[]⟩, .string ⟨#[]⟩, .bool false]) ∧ Below w.heap.size w w') := fun w => l4Take_no b w hb h
  obtain ⟨bt', o, capT, hv', hbt, h1, h2, c0, c1⟩ := hT.at ha
  have hst := hT.small
  unfold maxLen at h2
  obtain ⟨k, hk⟩ : ∃ k, ts[a].1 = k := ⟨_, rfl⟩
  obtain ⟨n, hn⟩ : ∃ n, ts[a].2 = n := ⟨_, rfl⟩
  rw [hk] at c0
  rw [hn] at c1
  clear hT hk hn h hb
  subst hv'
  go_enter Tryz.func27, Tryz.ntmps27
  go_wp2_with fail
  refine (HTK.out _).mono ?_
  rintro e w1 ⟨rfl, hb1⟩
  have HB1 : Hid (Below w.heap.size w w1) := (bel1 _ _).trans (hb1.mono (by simp))
  clear hb1
  go_wp2_with fail
  go_ret3
  exact ⟨.inl ⟨HN.out, _, _, rfl⟩, HB1.out⟩
set_option maxRecDepth 100000 in
set_option maxHeartbeats 4000000 in
theorem l4Dec_wrong (ts : List (Int × Int)) (f a : Nat) (vt : Value) (b B R : ByteArray) (list : Bool) (w : World) (hT : IsTyps w.heap.size w vt ts) (hb : b.size ≤ 1048576) (ha : a < ts.length) (h : tk false b.data.toList = some (list, B.data.toList, R.data.toList)) (hl : list ≠ decide (5 ≤ ts[a].1)) :
    Calls Tryz.prog 27 #[vt, .int .i64 a, .string b] w fun e w' => D4Post ts (f + 1) a b w e w' := by
  have HN : Hid (rlD false ts (f + 1) a b.data.toList = none) := by
    show _ = _
    rw [rlD_at ha, h]
    simp only [Option.bind_some]
    unfold rlB
    rw [if_pos hl]; rfl
  have HTK : Hid (∀ w, Calls Tryz.prog 47 #[.string b] w fun e w' => e = .returned (.tuple #[.bool list, .string B, .string R, .bool true]) ∧ Below w.heap.size w w') := fun w => l4Take_yes b B R list w hb h
  obtain ⟨bt', o, capT, hv', hbt, h1, h2, c0, c1⟩ := hT.at ha
  have hst := hT.small
  unfold maxLen at h2
  obtain ⟨n, hn⟩ : ∃ n, ts[a].2 = n := ⟨_, rfl⟩
  obtain ⟨k, hkE⟩ : ∃ k, ts[a].1 = k := ⟨_, rfl⟩
  rw [hkE] at c0 hl
  rw [hn] at c1
  clear hT hkE hn h hb
  subst hv'
  by_cases h5 : 5 ≤ k
  · have hlf : list = false := by
      rw [decide_eq_true h5] at hl
      cases list with
      | false => rfl
      | true => exact absurd rfl hl
    subst hlf
    clear hl
    have hd5 : decide ((5 : Int) ≤ k) = true := decide_eq_true h5
    go_enter Tryz.func27, Tryz.ntmps27
    go_wp2_with fail
    refine (HTK.out _).mono ?_
    rintro e w1 ⟨rfl, hb1⟩
    have HB1 : Hid (Below w.heap.size w w1) := (bel1 _ _).trans (hb1.mono (by simp))
    have hx1 : w.heap.size < w1.heap.size := by have := hb1.size; simp at this; omega
    have x0 : w1.cell? ⟨w.heap.size, 0, none⟩ = some (.int .i64 k) := by rw [hb1.cell (p := ⟨w.heap.size, 0, none⟩) (by simp)]; simp [go_sem]
    have x1 : w1.cell? ⟨w.heap.size, 1, none⟩ = some (.int .i64 n) := by rw [hb1.cell (p := ⟨w.heap.size, 1, none⟩) (by simp)]; simp [go_sem]
    have y0 := cell_alD (o := .cells #[.int .i64 k, .int .u64 0, .string ⟨#[]⟩] 52) x0
    have y1 := cell_alD (o := .cells #[.int .i64 k, .int .u64 0, .string ⟨#[]⟩] 52) x1
    clear hb1
    go_wp2_with fail
    go_ret3
    exact ⟨.inl ⟨HN.out, _, _, rfl⟩, HB1.out⟩
  · have hlf : list = true := by
      rw [decide_eq_false h5] at hl
      cases list with
      | true => rfl
      | false => exact absurd rfl hl
    subst hlf
    clear hl
    have hd5 : decide ((5 : Int) ≤ k) = false := decide_eq_false h5
    clear h5
    go_enter Tryz.func27, Tryz.ntmps27
    go_wp2_with fail
    refine (HTK.out _).mono ?_
    rintro e w1 ⟨rfl, hb1⟩
    have HB1 : Hid (Below w.heap.size w w1) := (bel1 _ _).trans (hb1.mono (by simp))
    have hx1 : w.heap.size < w1.heap.size := by have := hb1.size; simp at this; omega
    have x0 : w1.cell? ⟨w.heap.size, 0, none⟩ = some (.int .i64 k) := by rw [hb1.cell (p := ⟨w.heap.size, 0, none⟩) (by simp)]; simp [go_sem]
    have x1 : w1.cell? ⟨w.heap.size, 1, none⟩ = some (.int .i64 n) := by rw [hb1.cell (p := ⟨w.heap.size, 1, none⟩) (by simp)]; simp [go_sem]
    have y0 := cell_alD (o := .cells #[.int .i64 k, .int .u64 0, .string ⟨#[]⟩] 52) x0
    have y1 := cell_alD (o := .cells #[.int .i64 k, .int .u64 0, .string ⟨#[]⟩] 52) x1
    clear hb1
    go_wp2_with fail
    go_ret3
    exact ⟨.inl ⟨HN.out, _, _, rfl⟩, HB1.out⟩
/-- One item in a literal. -/
theorem lit_own {B0 : Nat} (W : World) (x : It) (h : B0 ≤ W.heap.size) : OwnIt B0 (W.alloc (.cells #[.int .i64 x.k, .int .u64 (x.n : Int), .string x.s] 52)) (.slice (some ⟨W.heap.size, 0, none⟩) 1 1) [x] := by
  have h1 := World.ownsRow_lit (base := W.heap.size) (e := 52) (size := 3) W #[.int .i64 x.k, .int .u64 (x.n : Int), .string x.s] 1 (Nat.le_refl _) (by decide) rfl
  exact own_b h1 h
set_option maxRecDepth 100000 in
set_option maxHeartbeats 4000000 in
theorem l4Dec_str (ts : List (Int × Int)) (f a : Nat) (vt : Value) (b B R : ByteArray) (w : World) (hT : IsTyps w.heap.size w vt ts) (hb : b.size ≤ 1048576) (ha : a < ts.length) (hk : ts[a].1 = 3 ∨ ts[a].1 = 4) (h : tk false b.data.toList = some (false, B.data.toList, R.data.toList)) :
    Calls Tryz.prog 27 #[vt, .int .i64 a, .string b] w fun e w' => D4Post ts (f + 1) a b w e w' := by
  have HN : Hid (rlD false ts (f + 1) a b.data.toList = some ([⟨ts[a].1, 0, B⟩], R.data.toList)) := by
    show _ = _
    rw [rlD_at ha, h]
    simp only [Option.bind_some]
    rw [rlB_str hk, ba_data]; rfl
  have HTK : Hid (∀ w, Calls Tryz.prog 47 #[.string b] w fun e w' => e = .returned (.tuple #[.bool false, .string B, .string R, .bool true]) ∧ Below w.heap.size w w') := fun w => l4Take_yes b B R false w hb h
  obtain ⟨bt', o, capT, hv', hbt, h1, h2, c0, c1⟩ := hT.at ha
  have hst := hT.small
  unfold maxLen at h2
  obtain ⟨n, hn⟩ : ∃ n, ts[a].2 = n := ⟨_, rfl⟩
  obtain ⟨k, hkE⟩ : ∃ k, ts[a].1 = k := ⟨_, rfl⟩
  rw [hkE] at c0 hk HN
  rw [hn] at c1
  clear hT hn h hb hkE
  subst hv'
  rcases hk with rfl | rfl
  · go_enter Tryz.func27, Tryz.ntmps27
    go_wp2_with fail
    refine (HTK.out _).mono ?_
    rintro e w1 ⟨rfl, hb1⟩
    have HB1 : Hid (Below w.heap.size w w1) := (bel1 _ _).trans (hb1.mono (by simp))
    have hx1 : w.heap.size < w1.heap.size := by have := hb1.size; simp at this; omega
    have x0 : w1.cell? ⟨w.heap.size, 0, none⟩ = some (.int .i64 3) := by rw [hb1.cell (p := ⟨w.heap.size, 0, none⟩) (by simp)]; simp [go_sem]
    have x1 : w1.cell? ⟨w.heap.size, 1, none⟩ = some (.int .i64 n) := by rw [hb1.cell (p := ⟨w.heap.size, 1, none⟩) (by simp)]; simp [go_sem]
    have y0 := cell_alD (o := .cells #[.int .i64 3, .int .u64 0, .string ⟨#[]⟩] 52) x0
    have y1 := cell_alD (o := .cells #[.int .i64 3, .int .u64 0, .string ⟨#[]⟩] 52) x1
    clear hb1
    go_wp2_with fail
    have HOW := lit_own (B0 := w.heap.size) (w1.alloc (.cells #[.int .i64 3, .int .u64 0, .string B] 52)) ⟨3, 0, B⟩ (by simp; omega)
    rw [show (w1.alloc (.cells #[.int .i64 3, .int .u64 0, .string B] 52)).heap.size = w1.heap.size + 1 by simp] at HOW
    go_ret3
    exact ⟨.inr ⟨_, _, _, HN.out, rfl, HOW⟩, (HB1.out.alloc HB1.out.size _).alloc (by simp; omega) _⟩
  · go_enter Tryz.func27, Tryz.ntmps27
    go_wp2_with fail
    refine (HTK.out _).mono ?_
    rintro e w1 ⟨rfl, hb1⟩
    have HB1 : Hid (Below w.heap.size w w1) := (bel1 _ _).trans (hb1.mono (by simp))
    have hx1 : w.heap.size < w1.heap.size := by have := hb1.size; simp at this; omega
    have x0 : w1.cell? ⟨w.heap.size, 0, none⟩ = some (.int .i64 4) := by rw [hb1.cell (p := ⟨w.heap.size, 0, none⟩) (by simp)]; simp [go_sem]
    have x1 : w1.cell? ⟨w.heap.size, 1, none⟩ = some (.int .i64 n) := by rw [hb1.cell (p := ⟨w.heap.size, 1, none⟩) (by simp)]; simp [go_sem]
    have y0 := cell_alD (o := .cells #[.int .i64 4, .int .u64 0, .string ⟨#[]⟩] 52) x0
    have y1 := cell_alD (o := .cells #[.int .i64 4, .int .u64 0, .string ⟨#[]⟩] 52) x1
    clear hb1
    go_wp2_with fail
    have HOW := lit_own (B0 := w.heap.size) (w1.alloc (.cells #[.int .i64 4, .int .u64 0, .string B] 52)) ⟨4, 0, B⟩ (by simp; omega)
    rw [show (w1.alloc (.cells #[.int .i64 4, .int .u64 0, .string B] 52)).heap.size = w1.heap.size + 1 by simp] at HOW
    go_ret3
    exact ⟨.inr ⟨_, _, _, HN.out, rfl, HOW⟩, (HB1.out.alloc HB1.out.size _).alloc (by simp; omega) _⟩
set_option maxRecDepth 100000 in
set_option maxHeartbeats 4000000 in
theorem l4Dec_num (ts : List (Int × Int)) (f a m : Nat) (ok : Bool) (vt : Value) (b B R : ByteArray) (w : World) (hT : IsTyps w.heap.size w vt ts) (hb : b.size ≤ 1048576) (ha : a < ts.length) (hk : ts[a].1 = 1 ∨ ts[a].1 = 2) (h : tk false b.data.toList = some (false, B.data.toList, R.data.toList))
    (hn0 : (ok = false ∧ numD ts[a].1 ts[a].2 B.data.toList false = none) ∨ (ok = true ∧ numD ts[a].1 ts[a].2 B.data.toList false = some m)) (hpa : ∀ w, Calls Tryz.prog 48 #[.string B] w fun e w' => e = .returned (.tuple #[.int .u64 m, .bool ok]) ∧ Below w.heap.size w w') :
    Calls Tryz.prog 27 #[vt, .int .i64 a, .string b] w fun e w' => D4Post ts (f + 1) a b w e w' := by
  have HN : Hid ((ok = false ∧ rlD false ts (f + 1) a b.data.toList = none) ∨ (ok = true ∧ rlD false ts (f + 1) a b.data.toList = some ([⟨ts[a].1, m, ⟨#[]⟩⟩], R.data.toList))) := by
    show _ ∨ _
    rw [rlD_at ha, h]
    simp only [Option.bind_some]
    rw [rlB_num hk]
    rcases hn0 with ⟨h1, h2⟩ | ⟨h1, h2⟩
    · exact .inl ⟨h1, by rw [h2]; rfl⟩
    · exact .inr ⟨h1, by rw [h2]; rfl⟩
  have HTK : Hid (∀ w, Calls Tryz.prog 47 #[.string b] w fun e w' => e = .returned (.tuple #[.bool false, .string B, .string R, .bool true]) ∧ Below w.heap.size w w') := fun w => l4Take_yes b B R false w hb h
  have HPA : Hid (∀ w, Calls Tryz.prog 48 #[.string B] w fun e w' => e = .returned (.tuple #[.int .u64 m, .bool ok]) ∧ Below w.heap.size w w') := hpa
  obtain ⟨bt', o, capT, hv', hbt, h1, h2, c0, c1⟩ := hT.at ha
  have hst := hT.small
  unfold maxLen at h2
  obtain ⟨n, hn⟩ : ∃ n, ts[a].2 = n := ⟨_, rfl⟩
  obtain ⟨k, hkE⟩ : ∃ k, ts[a].1 = k := ⟨_, rfl⟩
  rw [hkE] at c0 hk HN
  rw [hn] at c1
  clear hT hn h hb hkE hn0 hpa
  subst hv'
  rcases hk with rfl | rfl
  · go_enter Tryz.func27, Tryz.ntmps27
    go_wp2_with fail
    refine (HTK.out _).mono ?_
    rintro e w1 ⟨rfl, hb1⟩
    have HB1 : Hid (Below w.heap.size w w1) := (bel1 _ _).trans (hb1.mono (by simp))
    have hx1 : w.heap.size < w1.heap.size := by have := hb1.size; simp at this; omega
    have x0 : w1.cell? ⟨w.heap.size, 0, none⟩ = some (.int .i64 1) := by rw [hb1.cell (p := ⟨w.heap.size, 0, none⟩) (by simp)]; simp [go_sem]
    have x1 : w1.cell? ⟨w.heap.size, 1, none⟩ = some (.int .i64 n) := by rw [hb1.cell (p := ⟨w.heap.size, 1, none⟩) (by simp)]; simp [go_sem]
    have y0 := cell_alD (o := .cells #[.int .i64 1, .int .u64 0, .string ⟨#[]⟩] 52) x0
    have y1 := cell_alD (o := .cells #[.int .i64 1, .int .u64 0, .string ⟨#[]⟩] 52) x1
    clear hb1
    go_wp2_with fail
    refine (HPA.out _).mono ?_
    rintro e w3 ⟨rfl, hb3⟩
    have hN0 := heap_alloc_new w1 (.cells #[.int .i64 1, .int .u64 0, .string ⟨#[]⟩] 52)
    have hN3 : w3.heap[w1.heap.size]? = some (.cells #[.int .i64 1, .int .u64 0, .string ⟨#[]⟩] 52 (0, 0)) := (hb3.block _ (by simp)).trans hN0
    have HB3 : Hid (Below w.heap.size w w3) := (HB1.out.alloc HB1.out.size _).trans (hb3.mono (by simp; omega))
    have hs3 : w1.heap.size < w3.heap.size := blk_lt hN3
    have t1 := (row_factsD hN3).1 1
    have z1 := (row_factsD hN3).2 1
    have hS := set_block (i := 1) hN3 (.int .u64 (m : Nat))
    have g0 := (row_factsD hS).1 0
    have g1 := (row_factsD hS).1 1
    have g2 := (row_factsD hS).1 2
    simp only [List.getElem?_toArray, List.getElem?_cons_succ, List.getElem?_cons_zero, List.setIfInBounds_toArray, List.set_cons_succ, List.set_cons_zero] at t1 g0 g1 g2
    have g0' := cell_alD (o := .cells #[.int .i64 1, .int .u64 (m : Int), .string ⟨#[]⟩] 52) g0
    have g1' := cell_alD (o := .cells #[.int .i64 1, .int .u64 (m : Int), .string ⟨#[]⟩] 52) g1
    have g2' := cell_alD (o := .cells #[.int .i64 1, .int .u64 (m : Int), .string ⟨#[]⟩] 52) g2
    clear hb3 hN0 hN3 hS
    go_wp2_with fail
    have HOW := lit_own (B0 := w.heap.size) (w3.setCell ⟨w1.heap.size, 1, none⟩ (.int .u64 (m : Nat))) ⟨1, m, ⟨#[]⟩⟩ (by simp [World.setCell]; omega)
    have hss : (w3.setCell ⟨w1.heap.size, 1, none⟩ (.int .u64 (m : Nat))).heap.size = w3.heap.size := by simp [World.setCell]
    rw [hss] at HOW
    have HBX : Below w.heap.size w ((w3.setCell ⟨w1.heap.size, 1, none⟩ (.int .u64 (m : Nat))).alloc (.cells #[.int .i64 1, .int .u64 (m : Int), .string ⟨#[]⟩] 52)) := (HB3.out.setCell (p := ⟨w1.heap.size, 1, none⟩) (by simp; omega) _).alloc (by rw [hss]; omega) _
    rcases HN.out with ⟨rfl, hno⟩ | ⟨rfl, hyes⟩
    · go_ret3
      exact ⟨.inl ⟨hno, _, _, rfl⟩, HBX⟩
    · go_ret3
      exact ⟨.inr ⟨_, _, _, hyes, rfl, HOW⟩, HBX⟩
  · go_enter Tryz.func27, Tryz.ntmps27
    go_wp2_with fail
    refine (HTK.out _).mono ?_
    rintro e w1 ⟨rfl, hb1⟩
    have HB1 : Hid (Below w.heap.size w w1) := (bel1 _ _).trans (hb1.mono (by simp))
    have hx1 : w.heap.size < w1.heap.size := by have := hb1.size; simp at this; omega
    have x0 : w1.cell? ⟨w.heap.size, 0, none⟩ = some (.int .i64 2) := by rw [hb1.cell (p := ⟨w.heap.size, 0, none⟩) (by simp)]; simp [go_sem]
    have x1 : w1.cell? ⟨w.heap.size, 1, none⟩ = some (.int .i64 n) := by rw [hb1.cell (p := ⟨w.heap.size, 1, none⟩) (by simp)]; simp [go_sem]
    have y0 := cell_alD (o := .cells #[.int .i64 2, .int .u64 0, .string ⟨#[]⟩] 52) x0
    have y1 := cell_alD (o := .cells #[.int .i64 2, .int .u64 0, .string ⟨#[]⟩] 52) x1
    clear hb1
    go_wp2_with fail
    refine (HPA.out _).mono ?_
    rintro e w3 ⟨rfl, hb3⟩
    have hN0 := heap_alloc_new w1 (.cells #[.int .i64 2, .int .u64 0, .string ⟨#[]⟩] 52)
    have hN3 : w3.heap[w1.heap.size]? = some (.cells #[.int .i64 2, .int .u64 0, .string ⟨#[]⟩] 52 (0, 0)) := (hb3.block _ (by simp)).trans hN0
    have HB3 : Hid (Below w.heap.size w w3) := (HB1.out.alloc HB1.out.size _).trans (hb3.mono (by simp; omega))
    have hs3 : w1.heap.size < w3.heap.size := blk_lt hN3
    have t1 := (row_factsD hN3).1 1
    have z1 := (row_factsD hN3).2 1
    have hS := set_block (i := 1) hN3 (.int .u64 (m : Nat))
    have g0 := (row_factsD hS).1 0
    have g1 := (row_factsD hS).1 1
    have g2 := (row_factsD hS).1 2
    simp only [List.getElem?_toArray, List.getElem?_cons_succ, List.getElem?_cons_zero, List.setIfInBounds_toArray, List.set_cons_succ, List.set_cons_zero] at t1 g0 g1 g2
    have g0' := cell_alD (o := .cells #[.int .i64 2, .int .u64 (m : Int), .string ⟨#[]⟩] 52) g0
    have g1' := cell_alD (o := .cells #[.int .i64 2, .int .u64 (m : Int), .string ⟨#[]⟩] 52) g1
    have g2' := cell_alD (o := .cells #[.int .i64 2, .int .u64 (m : Int), .string ⟨#[]⟩] 52) g2
    clear hb3 hN0 hN3 hS
    go_wp2_with fail
    have HOW := lit_own (B0 := w.heap.size) (w3.setCell ⟨w1.heap.size, 1, none⟩ (.int .u64 (m : Nat))) ⟨2, m, ⟨#[]⟩⟩ (by simp [World.setCell]; omega)
    have hss : (w3.setCell ⟨w1.heap.size, 1, none⟩ (.int .u64 (m : Nat))).heap.size = w3.heap.size := by simp [World.setCell]
    rw [hss] at HOW
    have HBX : Below w.heap.size w ((w3.setCell ⟨w1.heap.size, 1, none⟩ (.int .u64 (m : Nat))).alloc (.cells #[.int .i64 2, .int .u64 (m : Int), .string ⟨#[]⟩] 52)) := (HB3.out.setCell (p := ⟨w1.heap.size, 1, none⟩) (by simp; omega) _).alloc (by rw [hss]; omega) _
    rcases HN.out with ⟨rfl, hno⟩ | ⟨rfl, hyes⟩
    · go_ret3
      exact ⟨.inl ⟨hno, _, _, rfl⟩, HBX⟩
    · go_ret3
      exact ⟨.inr ⟨_, _, _, hyes, rfl, HOW⟩, HBX⟩
end Go.Proofs.YtdncnjmlicdamaaGreatDoor
