/- The specification's reading of SCALE and Bitcoin's bytes: contract. -/
import Derived.Test.YtichgnddbnibjaaGreatDoorSBq
import Derived.Test.YtichgnddbnibjaaGreatDoorSAa
import Derived.Test.YtichgnddbnibjaaGreatDoorS3j
import Derived.Test.YtichgnddbnibjaaGreatDoorL1i
import Derived.Deep.RegionHeld3
import Derived.Deep.OwnRows
namespace Go.Proofs.YtichgnddbnibjaaGreatDoor
open Go.RowKit Go.Sort
set_option linter.unusedVariables false
theorem partsD_many {d : Nat → List UInt8 → Option (List It × Nat)} {ps : Nat → Nat} {b : List UInt8} {h0 L n : Nat} (hd : ∀ i c l m, i < n → d (ps i) c = some (l, m) → l.length ≤ L) : ∀ {j m : Nat} {ls : List (List It)}, j ≤ n → partsD d ps b h0 j = some (ls, m) → ls.flatten.length ≤ j * L := by
  intro j
  induction j with
  | zero => intro m ls _ hp; simp only [partsD, Option.some.injEq, Prod.mk.injEq] at hp; rw [← hp.1]; simp
  | succ j ih =>
    intro m ls hj hp
    rw [partsD_succ] at hp
    obtain ⟨⟨ls1, m1⟩, q1, q2⟩ := Option.bind_eq_some_iff.1 hp
    obtain ⟨⟨l2, m2⟩, q3, q4⟩ := Option.map_eq_some_iff.1 q2
    simp only [Prod.mk.injEq] at q4
    obtain ⟨rfl, rfl⟩ := q4
    have b1 := ih (by omega) q1
    have c1 := hd _ _ _ _ (by omega) q3
    rw [List.flatten_append]
    simp only [List.flatten_cons, List.flatten_nil, List.append_nil, List.length_append]
    rw [Nat.succ_mul]
    omega
theorem row_factsD {wz : World} {N : Nat} {cs : Array Value} {T : TypeId} (h : wz.heap[N]? = some (.cells cs T (0, 0))) : (∀ i, wz.cell? ⟨N, i, none⟩ = cs[i]?) ∧ ∀ i, wz.frozen? ⟨N, i, none⟩ = false :=
  ⟨fun i => by rw [cell_of_row wz N i cs _ _ h], fun i => by simp [World.frozen?, h]⟩
theorem cell_alD {W : World} {o : Obj} {p : Addr} {v : Value} (h : W.cell? p = some v) : (W.alloc o).cell? p = some v := by rw [(bel1 W o).cell (block_lt_of_cell h)]; exact h
theorem row_atD {ts : List (Int × Int)} {f a : Nat} {k : Int} {m : Nat} {w : World} {B g cap N : Nat} (h : w.ownsRow B 2 1 (.slice (some ⟨g, 0, none⟩) N cap) (np k m) (plRow ts f a k m)) {i : Nat} (hi : i < np k m) : w.cell? ⟨g, i, none⟩ = some (.int .i64 (pl ts f a k m i : Nat)) := by
  have := h.cells (g := g) rfl i (.int .i64 (pl ts f a k m i : Nat)) (by unfold plRow; simp [hi])
  have hadd : (⟨g, 0, none⟩ : Addr).add i = ⟨g, i, none⟩ := by unfold Addr.add; split <;> simp_all
  rwa [hadd] at this
/-- What l6Dec leaves. -/
def D6Post (get : List UInt8 → Nat × Nat × Bool) (ts : List (Int × Int)) (f a : Nat) (b : ByteArray) (w : World) (e : Ending) (w' : World) : Prop :=
  ((scD get ts f a b.data.toList = none ∧ e = .returned (.tuple #[.slice none 0 0, .int .i64 0, .bool false])) ∨
   ∃ l m v, scD get ts f a b.data.toList = some (l, m) ∧ e = .returned (.tuple #[v, .int .i64 (m : Nat), .bool true]) ∧ OwnIt w.heap.size w' v l) ∧ Below w.heap.size w w'
/-- Behind the switch: the type's box, the item's; what is read of it. -/
def D6At (get : List UInt8 → Nat × Nat × Bool) (k n : Int) (b : List UInt8) (w : World) (nv okv : Value) (wz : World) : Prop :=
  Below w.heap.size w wz ∧ wz.heap[w.heap.size]? = some (.cells #[.int .i64 k, .int .i64 n] 70 (0, 0)) ∧
  ((okv = .bool false ∧ (∃ z, nv = .int .i64 z) ∧ oneD get k n b = none) ∨
   ∃ (x : It) (h : Nat), okv = .bool true ∧ nv = .int .i64 (h : Nat) ∧ oneD get k n b = some (x, h) ∧ wz.heap[w.heap.size + 1]? = some (.cells #[.int .i64 k, .int .u64 x.n, .string x.s] 64 (0, 0)))
theorem D6At.keep {get : List UInt8 → Nat × Nat × Bool} {k n : Int} {b : List UInt8} {w wz : World} (hb : Below w.heap.size w wz) (h0 : wz.heap[w.heap.size]? = some (.cells #[.int .i64 k, .int .i64 n] 70 (0, 0))) {x : It} {h : Nat} (ho : oneD get k n b = some (x, h)) (h1 : wz.heap[w.heap.size + 1]? = some (.cells #[.int .i64 k, .int .u64 x.n, .string x.s] 64 (0, 0))) : D6At get k n b w (.int .i64 (h : Nat)) (.bool true) wz :=
  ⟨hb, h0, .inr ⟨x, h, rfl, rfl, ho, h1⟩⟩
theorem D6At.fresh {get : List UInt8 → Nat × Nat × Bool} {k n : Int} {b : List UInt8} {w : World} {x : It} {h : Nat} (ho : oneD get k n b = some (x, h)) : D6At get k n b w (.int .i64 (h : Nat)) (.bool true) ((w.alloc (.cells #[.int .i64 k, .int .i64 n] 70)).alloc (.cells #[.int .i64 k, .int .u64 x.n, .string x.s] 64)) := by
  refine ⟨bel2 _ _ _, ?_, .inr ⟨x, h, rfl, rfl, ho, ?_⟩⟩
  · rw [Below.heap_alloc _ _ _ (by simp), heap_alloc_new]
  · have := heap_alloc_new (w.alloc (.cells #[.int .i64 k, .int .i64 n] 70)) (.cells #[.int .i64 k, .int .u64 x.n, .string x.s] 64)
    simpa using this
theorem D6At.none {get : List UInt8 → Nat × Nat × Bool} {k n : Int} {b : List UInt8} {w : World} (z : Int) (m : Value) (ho : oneD get k n b = .none) : D6At get k n b w (.int .i64 z) (.bool false) ((w.alloc (.cells #[.int .i64 k, .int .i64 n] 70)).alloc (.cells #[.int .i64 k, m, .string ⟨#[]⟩] 64)) := by
  refine ⟨bel2 _ _ _, ?_, .inl ⟨rfl, ⟨z, rfl⟩, ho⟩⟩
  rw [Below.heap_alloc _ _ _ (by simp), heap_alloc_new]
/-- The two boxes. -/
def d6W (w : World) (k n : Int) : World := (w.alloc (.cells #[.int .i64 k, .int .i64 n] 70)).alloc (.cells #[.int .i64 k, .int .u64 0, .string ⟨#[]⟩] 64)
theorem d6_boxes (w : World) (k n : Int) : (d6W w k n).heap[w.heap.size]? = some (.cells #[.int .i64 k, .int .i64 n] 70 (0, 0)) ∧ (d6W w k n).heap[w.heap.size + 1]? = some (.cells #[.int .i64 k, .int .u64 0, .string ⟨#[]⟩] 64 (0, 0)) ∧ (d6W w k n).heap.size = w.heap.size + 1 + 1 ∧ Below w.heap.size w (d6W w k n) := by
  refine ⟨?_, ?_, by simp [d6W], bel2 _ _ _⟩
  · unfold d6W
    rw [Below.heap_alloc _ _ _ (by simp), heap_alloc_new]
  · have := heap_alloc_new (w.alloc (.cells #[.int .i64 k, .int .i64 n] 70)) (.cells #[.int .i64 k, .int .u64 0, .string ⟨#[]⟩] 64)
    simpa [d6W] using this
theorem d6_set {w wz : World} {k n : Int} {cs : Array Value} (hb : Below (d6W w k n).heap.size (d6W w k n) wz) (i : Nat) (v : Value) : wz.heap[w.heap.size]? = some (.cells #[.int .i64 k, .int .i64 n] 70 (0, 0)) ∧ wz.heap[w.heap.size + 1]? = some (.cells #[.int .i64 k, .int .u64 0, .string ⟨#[]⟩] 64 (0, 0)) ∧ Below w.heap.size w wz ∧
    (wz.setCell ⟨w.heap.size + 1, i, none⟩ v).heap[w.heap.size]? = some (.cells #[.int .i64 k, .int .i64 n] 70 (0, 0)) ∧ (wz.setCell ⟨w.heap.size + 1, i, none⟩ v).heap[w.heap.size + 1]? = some (.cells (#[.int .i64 k, .int .u64 0, .string ⟨#[]⟩].setIfInBounds i v) 64 (0, 0)) ∧ Below w.heap.size w (wz.setCell ⟨w.heap.size + 1, i, none⟩ v) := by
  obtain ⟨b0, b1, b2, b3⟩ := d6_boxes w k n
  have h0 := (hb.block w.heap.size (by omega)).trans b0
  have h1 := (hb.block (w.heap.size + 1) (by omega)).trans b1
  have h2 : Below w.heap.size w wz := b3.trans (hb.mono b3.size)
  exact ⟨h0, h1, h2, by rw [Below.heap_setCell _ _ _ _ (show w.heap.size ≠ w.heap.size + 1 by omega)]; exact h0, set_block (i := i) h1 v, h2.setCell (p := ⟨w.heap.size + 1, i, none⟩) (by simp) _⟩
theorem d6_put {w wz : World} {k n : Int} {x : It} (hb : Below (d6W w k n).heap.size (d6W w k n) wz) : (x.s = ⟨#[]⟩ → (wz.setCell ⟨w.heap.size + 1, 1, none⟩ (.int .u64 x.n)).heap[w.heap.size + 1]? = some (.cells #[.int .i64 k, .int .u64 x.n, .string x.s] 64 (0, 0))) ∧ (x.n = 0 → (wz.setCell ⟨w.heap.size + 1, 2, none⟩ (.string x.s)).heap[w.heap.size + 1]? = some (.cells #[.int .i64 k, .int .u64 x.n, .string x.s] 64 (0, 0))) := by
  constructor
  · intro h
    rw [(d6_set (cs := #[]) hb 1 (.int .u64 x.n)).2.2.2.2.1, h]; rfl
  · intro h
    rw [(d6_set (cs := #[]) hb 2 (.string x.s)).2.2.2.2.1, h]; rfl
theorem l6GetCount_sc (s : ByteArray) (w : World) (hs : s.size ≤ 1048576) : Calls Tryz.prog 53 #[.string s, .bool false] w fun e w' => e = .returned (tripV (getCompact s.data.toList)) ∧ Below w.heap.size w w' := by
  have HC : Hid (∀ w, Calls Tryz.prog 77 #[.string s] w fun e w' => e = .returned (tripV (getCompact s.data.toList)) ∧ Below w.heap.size w w') := fun w => specGetCompact_any s w hs
  obtain ⟨⟨m, h, o⟩, hg⟩ : ∃ g, getCompact s.data.toList = g := ⟨_, rfl⟩
  rw [hg] at HC ⊢
  unfold tripV at HC ⊢
  clear hg
  go_enter Tryz.func53, Tryz.ntmps53
  go_wp2_with fail
  refine (HC.out _).mono ?_
  rintro e w1 ⟨rfl, hb1⟩
  go_wp2_with fail
  go_ret3
  exact ⟨rfl, hb1⟩
/-- The contract of l6Dec, f levels being left. -/
def D6Hyp_sc (ts : List (Int × Int)) (f : Nat) : Prop :=
  ∀ (a e0 : Nat) (vt : Value) (b : ByteArray) (w : World), f ≤ 7 → en ts f a = some e0 → IsTyps w.heap.size w vt ts → b.size ≤ 1048576 →
    Calls Tryz.prog 30 #[vt, .int .i64 a, .string b, .bool false] w fun e w' => D6Post getCompact ts f a b w e w'
set_option maxRecDepth 100000 in
set_option maxHeartbeats 16000000 in
theorem l6Dec_step_sc (ts : List (Int × Int)) (f : Nat) (hp : D6Hyp_sc ts f) (a e0 : Nat) (vt : Value) (b : ByteArray) (w : World) (hf7 : f + 1 ≤ 7) (hT : IsTyps w.heap.size w vt ts) (hb : b.size ≤ 1048576) (ha : a < ts.length) (hok : tyOk ts[a].1 ts[a].2 = true) (hit : iter (en ts f) (a + 1) (kids ts[a].1 ts[a].2) = some e0) :
    Calls Tryz.prog 30 #[vt, .int .i64 a, .string b, .bool false] w fun e w' => D6Post getCompact ts (f + 1) a b w e w' := by
  have HT : Hid (IsTyps w.heap.size w vt ts) := hT
  have HP : Hid (D6Hyp_sc ts f) := hp
  have hll := lst_len b
  have HPN : Hid (∀ (x : It) w', Below w.heap.size w w' → fitsN ts[a].1 ts[a].2 x.n = true → Calls Tryz.prog 42 #[vt, .int .i64 a, .agg #[.int .i64 x.k, .int .u64 x.n, .string x.s]] w' fun e w'' => PlPost ts f a ts[a].1 x.n w' e w'') := fun x w' hbw hfn => l3Plan_any ts f a e0 x vt w' (by omega) ((hT.below hbw).up hbw.size) ha hok hit hfn
  have HPL : Hid (∀ m, fitsN ts[a].1 ts[a].2 m = true → ∀ j, j < np ts[a].1 m → ∃ e', en ts f (pl ts f a ts[a].1 m j) = some e') := fun m hfn j hj => pl_ok ha hok hit hfn hj
  have HNP : Hid (∀ m, fitsN ts[a].1 ts[a].2 m = true → np ts[a].1 m ≤ 20) := fun m hfn => np_le hok hfn
  have HNO : Hid (oneD getCompact ts[a].1 ts[a].2 b.data.toList = none → scD getCompact ts (f + 1) a b.data.toList = none) := fun h => scD_no ha h
  have HBAD : Hid (∀ x h, oneD getCompact ts[a].1 ts[a].2 b.data.toList = some (x, h) → fitsI ts[a].1 ts[a].2 x = false → scD getCompact ts (f + 1) a b.data.toList = none) := fun x h h1 h2 => scD_bad ha h1 h2
  have HONE : Hid (∀ x h, oneD getCompact ts[a].1 ts[a].2 b.data.toList = some (x, h) → fitsI ts[a].1 ts[a].2 x = true → scD getCompact ts (f + 1) a b.data.toList = (partsD (scD getCompact ts f) (pl ts f a ts[a].1 x.n) b.data.toList h (np ts[a].1 x.n)).map fun y => (x :: y.1.flatten, y.2)) := fun x h h1 h2 => scD_one ha h1 h2
  have HBK : Hid (∀ x h, oneD getCompact ts[a].1 ts[a].2 b.data.toList = some (x, h) → h ≤ b.size ∧ x.n < 18446744073709551616 ∧ x.k = ts[a].1 ∧ x.s.size ≤ 200) := fun x h h1 => by
    obtain ⟨_, h2, h3, h4, h5⟩ := oneD_back cntGet_sc hok h1
    exact ⟨by rw [← hll]; exact h2, h3, h4, h5⟩
  obtain ⟨bt', o, capT, hv', hbt, h1, h2, c0, c1⟩ := hT.at ha
  have hst := hT.small
  unfold maxLen at h2
  obtain ⟨k, hk⟩ : ∃ k, ts[a].1 = k := ⟨_, rfl⟩
  obtain ⟨n, hn⟩ : ∃ n, ts[a].2 = n := ⟨_, rfl⟩
  rw [hk] at c0 hok HPN HPL HNP HNO HBAD HONE HBK
  rw [hn] at c1 hok HPN HPL HNP HNO HBAD HONE HBK
  clear hit hT hp hk hn
  subst hv'
  have HW0 := d6_boxes w k n
  go_enter Tryz.func30, Tryz.ntmps30
  go_upto_block 0 with fail
  go_cut [13, 14] (fun nv okv wz => D6At getCompact k n b.data.toList w nv okv wz)
  case first =>
    have HB0 : Hid (Below (d6W w k n).heap.size (d6W w k n) (d6W w k n)) := Below.refl _ _
    clear HPN HPL HNP HONE HBAD HP HT HW0
    have hok' := hok
    simp only [tyOk, decide_eq_true_eq] at hok
    have hkk : k = 1 ∨ k = 2 ∨ k = 3 ∨ k = 4 ∨ k = 5 ∨ k = 6 ∨ k = 7 ∨ k = 8 ∨ k = 9 := by omega
    rcases hkk with rfl | rfl | rfl | rfl | rfl | rfl | rfl | rfl | rfl
    · have hn4 : n = 8 ∨ n = 16 ∨ n = 32 ∨ n = 64 := by omega
      rcases hn4 with rfl | rfl | rfl | rfl
      · skip
        have HG : Hid (∀ w, Calls Tryz.prog 52 #[.string b, .int .i64 1] w fun e w' => e = .returned (.tuple #[.int .u64 (if b.size < 1 then 0 else leV (b.data.toList.take 1) : Nat), .bool (decide (1 ≤ b.size))]) ∧ w' = w) := fun w => specGetLe_any b 1 w (by omega) (by omega) (by unfold maxLen; omega)
        by_cases hsz : 1 ≤ b.size
        · have HO : Hid (oneD getCompact 1 8 b.data.toList = some (⟨1, leV (b.data.toList.take 1), ⟨#[]⟩⟩, 1)) := by
            show _ = _
            rw [oneD_num (by omega), show wd 1 8 = 1 from rfl, if_pos (by omega)]
          have HG2 : Hid (∀ w, Calls Tryz.prog 52 #[.string b, .int .i64 1] w fun e w' => e = .returned (.tuple #[.int .u64 (leV (b.data.toList.take 1) : Nat), .bool true]) ∧ w' = w) := fun w => by
            have h := HG.out w
            rw [if_neg (by omega), decide_eq_true hsz] at h
            exact h
          generalize leV (b.data.toList.take 1) = m at HG2 HO
          have HQ : Hid (D6At getCompact 1 8 b.data.toList w (.int .i64 1) (.bool true) ((w.alloc (.cells #[.int .i64 1, .int .i64 8] 70)).alloc (.cells #[.int .i64 1, .int .u64 (m : Nat), .string ⟨#[]⟩] 64))) := D6At.fresh HO.out
          clear hok hok' HG HO HB0
          go_wp2_with fail
          refine (HG2.out _).mono ?_
          rintro e w4 ⟨rfl, rfl⟩
          go_wp2_with fail
          go_meet
          case rel => exact HQ.out
        · have HO : Hid (oneD getCompact 1 8 b.data.toList = none) := by
            show _ = _
            rw [oneD_num (by omega), show wd 1 8 = 1 from rfl, if_neg (by omega)]
          have HG2 : Hid (∀ w, Calls Tryz.prog 52 #[.string b, .int .i64 1] w fun e w' => e = .returned (.tuple #[.int .u64 0, .bool false]) ∧ w' = w) := fun w => by
            have h := HG.out w
            rw [if_pos (by omega), decide_eq_false hsz] at h
            exact h
          have HQ : Hid (D6At getCompact 1 8 b.data.toList w (.int .i64 1) (.bool false) ((w.alloc (.cells #[.int .i64 1, .int .i64 8] 70)).alloc (.cells #[.int .i64 1, .int .u64 0, .string ⟨#[]⟩] 64))) := D6At.none _ _ HO.out
          clear hok hok' HG HO HB0
          go_wp2_with fail
          refine (HG2.out _).mono ?_
          rintro e w4 ⟨rfl, rfl⟩
          go_wp2_with fail
          go_meet
          case rel => exact HQ.out
      · skip
        have HG : Hid (∀ w, Calls Tryz.prog 52 #[.string b, .int .i64 2] w fun e w' => e = .returned (.tuple #[.int .u64 (if b.size < 2 then 0 else leV (b.data.toList.take 2) : Nat), .bool (decide (2 ≤ b.size))]) ∧ w' = w) := fun w => specGetLe_any b 2 w (by omega) (by omega) (by unfold maxLen; omega)
        by_cases hsz : 2 ≤ b.size
        · have HO : Hid (oneD getCompact 1 16 b.data.toList = some (⟨1, leV (b.data.toList.take 2), ⟨#[]⟩⟩, 2)) := by
            show _ = _
            rw [oneD_num (by omega), show wd 1 16 = 2 from rfl, if_pos (by omega)]
          have HG2 : Hid (∀ w, Calls Tryz.prog 52 #[.string b, .int .i64 2] w fun e w' => e = .returned (.tuple #[.int .u64 (leV (b.data.toList.take 2) : Nat), .bool true]) ∧ w' = w) := fun w => by
            have h := HG.out w
            rw [if_neg (by omega), decide_eq_true hsz] at h
            exact h
          generalize leV (b.data.toList.take 2) = m at HG2 HO
          have HQ : Hid (D6At getCompact 1 16 b.data.toList w (.int .i64 2) (.bool true) ((w.alloc (.cells #[.int .i64 1, .int .i64 16] 70)).alloc (.cells #[.int .i64 1, .int .u64 (m : Nat), .string ⟨#[]⟩] 64))) := D6At.fresh HO.out
          clear hok hok' HG HO HB0
          go_wp2_with fail
          refine (HG2.out _).mono ?_
          rintro e w4 ⟨rfl, rfl⟩
          go_wp2_with fail
          go_meet
          case rel => exact HQ.out
        · have HO : Hid (oneD getCompact 1 16 b.data.toList = none) := by
            show _ = _
            rw [oneD_num (by omega), show wd 1 16 = 2 from rfl, if_neg (by omega)]
          have HG2 : Hid (∀ w, Calls Tryz.prog 52 #[.string b, .int .i64 2] w fun e w' => e = .returned (.tuple #[.int .u64 0, .bool false]) ∧ w' = w) := fun w => by
            have h := HG.out w
            rw [if_pos (by omega), decide_eq_false hsz] at h
            exact h
          have HQ : Hid (D6At getCompact 1 16 b.data.toList w (.int .i64 2) (.bool false) ((w.alloc (.cells #[.int .i64 1, .int .i64 16] 70)).alloc (.cells #[.int .i64 1, .int .u64 0, .string ⟨#[]⟩] 64))) := D6At.none _ _ HO.out
          clear hok hok' HG HO HB0
          go_wp2_with fail
          refine (HG2.out _).mono ?_
          rintro e w4 ⟨rfl, rfl⟩
          go_wp2_with fail
          go_meet
          case rel => exact HQ.out
      · skip
        have HG : Hid (∀ w, Calls Tryz.prog 52 #[.string b, .int .i64 4] w fun e w' => e = .returned (.tuple #[.int .u64 (if b.size < 4 then 0 else leV (b.data.toList.take 4) : Nat), .bool (decide (4 ≤ b.size))]) ∧ w' = w) := fun w => specGetLe_any b 4 w (by omega) (by omega) (by unfold maxLen; omega)
        by_cases hsz : 4 ≤ b.size
        · have HO : Hid (oneD getCompact 1 32 b.data.toList = some (⟨1, leV (b.data.toList.take 4), ⟨#[]⟩⟩, 4)) := by
            show _ = _
            rw [oneD_num (by omega), show wd 1 32 = 4 from rfl, if_pos (by omega)]
          have HG2 : Hid (∀ w, Calls Tryz.prog 52 #[.string b, .int .i64 4] w fun e w' => e = .returned (.tuple #[.int .u64 (leV (b.data.toList.take 4) : Nat), .bool true]) ∧ w' = w) := fun w => by
            have h := HG.out w
            rw [if_neg (by omega), decide_eq_true hsz] at h
            exact h
          generalize leV (b.data.toList.take 4) = m at HG2 HO
          have HQ : Hid (D6At getCompact 1 32 b.data.toList w (.int .i64 4) (.bool true) ((w.alloc (.cells #[.int .i64 1, .int .i64 32] 70)).alloc (.cells #[.int .i64 1, .int .u64 (m : Nat), .string ⟨#[]⟩] 64))) := D6At.fresh HO.out
          clear hok hok' HG HO HB0
          go_wp2_with fail
          refine (HG2.out _).mono ?_
          rintro e w4 ⟨rfl, rfl⟩
          go_wp2_with fail
          go_meet
          case rel => exact HQ.out
        · have HO : Hid (oneD getCompact 1 32 b.data.toList = none) := by
            show _ = _
            rw [oneD_num (by omega), show wd 1 32 = 4 from rfl, if_neg (by omega)]
          have HG2 : Hid (∀ w, Calls Tryz.prog 52 #[.string b, .int .i64 4] w fun e w' => e = .returned (.tuple #[.int .u64 0, .bool false]) ∧ w' = w) := fun w => by
            have h := HG.out w
            rw [if_pos (by omega), decide_eq_false hsz] at h
            exact h
          have HQ : Hid (D6At getCompact 1 32 b.data.toList w (.int .i64 4) (.bool false) ((w.alloc (.cells #[.int .i64 1, .int .i64 32] 70)).alloc (.cells #[.int .i64 1, .int .u64 0, .string ⟨#[]⟩] 64))) := D6At.none _ _ HO.out
          clear hok hok' HG HO HB0
          go_wp2_with fail
          refine (HG2.out _).mono ?_
          rintro e w4 ⟨rfl, rfl⟩
          go_wp2_with fail
          go_meet
          case rel => exact HQ.out
      · skip
        have HG : Hid (∀ w, Calls Tryz.prog 52 #[.string b, .int .i64 8] w fun e w' => e = .returned (.tuple #[.int .u64 (if b.size < 8 then 0 else leV (b.data.toList.take 8) : Nat), .bool (decide (8 ≤ b.size))]) ∧ w' = w) := fun w => specGetLe_any b 8 w (by omega) (by omega) (by unfold maxLen; omega)
        by_cases hsz : 8 ≤ b.size
        · have HO : Hid (oneD getCompact 1 64 b.data.toList = some (⟨1, leV (b.data.toList.take 8), ⟨#[]⟩⟩, 8)) := by
            show _ = _
            rw [oneD_num (by omega), show wd 1 64 = 8 from rfl, if_pos (by omega)]
          have HG2 : Hid (∀ w, Calls Tryz.prog 52 #[.string b, .int .i64 8] w fun e w' => e = .returned (.tuple #[.int .u64 (leV (b.data.toList.take 8) : Nat), .bool true]) ∧ w' = w) := fun w => by
            have h := HG.out w
            rw [if_neg (by omega), decide_eq_true hsz] at h
            exact h
          generalize leV (b.data.toList.take 8) = m at HG2 HO
          have HQ : Hid (D6At getCompact 1 64 b.data.toList w (.int .i64 8) (.bool true) ((w.alloc (.cells #[.int .i64 1, .int .i64 64] 70)).alloc (.cells #[.int .i64 1, .int .u64 (m : Nat), .string ⟨#[]⟩] 64))) := D6At.fresh HO.out
          clear hok hok' HG HO HB0
          go_wp2_with fail
          refine (HG2.out _).mono ?_
          rintro e w4 ⟨rfl, rfl⟩
          go_wp2_with fail
          go_meet
          case rel => exact HQ.out
        · have HO : Hid (oneD getCompact 1 64 b.data.toList = none) := by
            show _ = _
            rw [oneD_num (by omega), show wd 1 64 = 8 from rfl, if_neg (by omega)]
          have HG2 : Hid (∀ w, Calls Tryz.prog 52 #[.string b, .int .i64 8] w fun e w' => e = .returned (.tuple #[.int .u64 0, .bool false]) ∧ w' = w) := fun w => by
            have h := HG.out w
            rw [if_pos (by omega), decide_eq_false hsz] at h
            exact h
          have HQ : Hid (D6At getCompact 1 64 b.data.toList w (.int .i64 8) (.bool false) ((w.alloc (.cells #[.int .i64 1, .int .i64 64] 70)).alloc (.cells #[.int .i64 1, .int .u64 0, .string ⟨#[]⟩] 64))) := D6At.none _ _ HO.out
          clear hok hok' HG HO HB0
          go_wp2_with fail
          refine (HG2.out _).mono ?_
          rintro e w4 ⟨rfl, rfl⟩
          go_wp2_with fail
          go_meet
          case rel => exact HQ.out
    · obtain rfl : n = 0 := by omega
      have HG : Hid (∀ w, Calls Tryz.prog 52 #[.string b, .int .i64 1] w fun e w' => e = .returned (.tuple #[.int .u64 (if b.size < 1 then 0 else leV (b.data.toList.take 1) : Nat), .bool (decide (1 ≤ b.size))]) ∧ w' = w) := fun w => specGetLe_any b 1 w (by omega) (by omega) (by unfold maxLen; omega)
      by_cases hsz : 1 ≤ b.size
      · have HO : Hid (oneD getCompact 2 0 b.data.toList = some (⟨2, leV (b.data.toList.take 1), ⟨#[]⟩⟩, 1)) := by
          show _ = _
          rw [oneD_num (by omega), show wd 2 0 = 1 from rfl, if_pos (by omega)]
        have HG2 : Hid (∀ w, Calls Tryz.prog 52 #[.string b, .int .i64 1] w fun e w' => e = .returned (.tuple #[.int .u64 (leV (b.data.toList.take 1) : Nat), .bool true]) ∧ w' = w) := fun w => by
          have h := HG.out w
          rw [if_neg (by omega), decide_eq_true hsz] at h
          exact h
        generalize leV (b.data.toList.take 1) = m at HG2 HO
        have HQ : Hid (D6At getCompact 2 0 b.data.toList w (.int .i64 1) (.bool true) ((w.alloc (.cells #[.int .i64 2, .int .i64 0] 70)).alloc (.cells #[.int .i64 2, .int .u64 (m : Nat), .string ⟨#[]⟩] 64))) := D6At.fresh HO.out
        clear hok hok' HG HO HB0
        go_wp2_with fail
        refine (HG2.out _).mono ?_
        rintro e w4 ⟨rfl, rfl⟩
        go_wp2_with fail
        go_meet
        case rel => exact HQ.out
      · have HO : Hid (oneD getCompact 2 0 b.data.toList = none) := by
          show _ = _
          rw [oneD_num (by omega), show wd 2 0 = 1 from rfl, if_neg (by omega)]
        have HG2 : Hid (∀ w, Calls Tryz.prog 52 #[.string b, .int .i64 1] w fun e w' => e = .returned (.tuple #[.int .u64 0, .bool false]) ∧ w' = w) := fun w => by
          have h := HG.out w
          rw [if_pos (by omega), decide_eq_false hsz] at h
          exact h
        have HQ : Hid (D6At getCompact 2 0 b.data.toList w (.int .i64 1) (.bool false) ((w.alloc (.cells #[.int .i64 2, .int .i64 0] 70)).alloc (.cells #[.int .i64 2, .int .u64 0, .string ⟨#[]⟩] 64))) := D6At.none _ _ HO.out
        clear hok hok' HG HO HB0
        go_wp2_with fail
        refine (HG2.out _).mono ?_
        rintro e w4 ⟨rfl, rfl⟩
        go_wp2_with fail
        go_meet
        case rel => exact HQ.out
    · obtain ⟨N, rfl⟩ := Int.eq_ofNat_of_zero_le (show 0 ≤ n by omega)
      have hN : N ≤ 200 := by omega
      have HG : Hid (∀ w, Calls Tryz.prog 53 #[.string b, .bool false] w fun e w' => e = .returned (tripV (getCompact b.data.toList)) ∧ Below w.heap.size w w') := fun w => l6GetCount_sc b w hb
      have HO3 : Hid (oneD getCompact 3 (N : Int) b.data.toList = if (getCompact b.data.toList).2.2 = true ∧ (getCompact b.data.toList).1 ≤ N ∧ (getCompact b.data.toList).2.1 + (getCompact b.data.toList).1 ≤ b.size then some (⟨3, 0, ⟨((b.data.toList.drop (getCompact b.data.toList).2.1).take (getCompact b.data.toList).1).toArray⟩⟩, (getCompact b.data.toList).2.1 + (getCompact b.data.toList).1) else none) := by
        show _ = _
        unfold oneD
        rw [if_neg (by omega), if_pos rfl, hll]; rfl
      have HBC : Hid (∀ x h, getCompact b.data.toList = (x, h, true) → h ≤ b.size ∧ x < 18446744073709551616) := fun x h hg => by
        have := cntGet_sc.back _ _ _ hg
        exact ⟨by rw [← hll]; exact this.2.1, this.2.2⟩
      obtain ⟨⟨m, h, o⟩, hg⟩ : ∃ g, getCompact b.data.toList = g := ⟨_, rfl⟩
      rw [hg] at HG HO3 HBC
      unfold tripV at HG
      simp only at HG HO3
      clear hok hok' hg
      cases o with
      | false =>
        have HNN : Hid (scD getCompact ts (f + 1) a b.data.toList = none) := HNO.out (by rw [HO3.out, if_neg (by simp)])
        go_wp2_with fail
        refine (HG.out _).mono ?_
        rintro e w4 ⟨rfl, hb4⟩
        have HB4 := d6_set (cs := #[]) (n := (N : Int)) hb4 1 (.int .u64 0)
        have t1 := (row_factsD HB4.1).1 1
        simp only [List.getElem?_toArray, List.getElem?_cons_succ, List.getElem?_cons_zero] at t1
        have HBW : Hid (Below w.heap.size w w4) := HB4.2.2.1
        clear hb4 HB4
        go_wp2_with fail
        go_ret3
        exact ⟨.inl ⟨HNN.out, rfl⟩, HBW.out⟩
      | true =>
        obtain ⟨hh, hm64⟩ := HBC.out m h rfl
        by_cases hmN : m ≤ N
        · by_cases hhm : h + m ≤ b.size
          · have HO : Hid (oneD getCompact 3 (N : Int) b.data.toList = some (⟨3, 0, b.extract h (h + m)⟩, h + m)) := by
              show _ = _
              have e : (⟨((b.data.toList.drop h).take m).toArray⟩ : ByteArray) = b.extract h (h + m) := by
                apply ba_ext
                rw [Lib.extract_data, show h + m - h = m by omega]
              rw [HO3.out, if_pos ⟨rfl, hmN, hhm⟩, e]
            have i1 : decide ((N : Int) < (m : Int)) = false := by simp; omega
            have i2 : decide ((b.size : Int) < (h : Int) + (m : Int)) = false := by simp; omega
            have HHM : Hid (((h + m : Nat) : Int) = (h : Int) + (m : Int)) := by show _ = _; omega
            go_wp2_with fail
            refine (HG.out _).mono ?_
            rintro e w4 ⟨rfl, hb4⟩
            have HB4 := d6_set (cs := #[]) (n := (N : Int)) hb4 2 (.string (b.extract h (h + m)))
            have HPT : Hid ((w4.setCell ⟨w.heap.size + 1, 2, none⟩ (.string (b.extract h (h + m)))).heap[w.heap.size + 1]? = some (.cells #[.int .i64 3, .int .u64 0, .string (b.extract h (h + m))] 64 (0, 0))) := (d6_put (x := ⟨3, 0, b.extract h (h + m)⟩) hb4).2 rfl
            have t1 := (row_factsD HB4.1).1 1
            have t2 := (row_factsD HB4.2.1).1 2
            have z2 := (row_factsD HB4.2.1).2 2
            simp only [List.getElem?_toArray, List.getElem?_cons_succ, List.getElem?_cons_zero] at t1 t2
            have HQ : Hid (D6At getCompact 3 (N : Int) b.data.toList w (.int .i64 ((h : Int) + (m : Int))) (.bool true) (w4.setCell ⟨w.heap.size + 1, 2, none⟩ (.string (b.extract h (h + m))))) := by
              have q := D6At.keep HB4.2.2.2.2.2 HB4.2.2.2.1 HO.out HPT.out
              rw [HHM.out] at q
              exact q
            clear hb4 HB4
            go_wp2_with fail
            go_meet
            case rel => exact HQ.out
          · have HNN : Hid (scD getCompact ts (f + 1) a b.data.toList = none) := HNO.out (by rw [HO3.out, if_neg (by intro hc; omega)])
            have i1 : decide ((N : Int) < (m : Int)) = false := by simp; omega
            have i2 : decide ((b.size : Int) < (h : Int) + (m : Int)) = true := by simp; omega
            go_wp2_with fail
            refine (HG.out _).mono ?_
            rintro e w4 ⟨rfl, hb4⟩
            have HB4 := d6_set (cs := #[]) (n := (N : Int)) hb4 1 (.int .u64 0)
            have t1 := (row_factsD HB4.1).1 1
            simp only [List.getElem?_toArray, List.getElem?_cons_succ, List.getElem?_cons_zero] at t1
            have HBW : Hid (Below w.heap.size w w4) := HB4.2.2.1
            clear hb4 HB4
            go_wp2_with fail
            go_ret3
            exact ⟨.inl ⟨HNN.out, rfl⟩, HBW.out⟩
        · have HNN : Hid (scD getCompact ts (f + 1) a b.data.toList = none) := HNO.out (by rw [HO3.out, if_neg (by intro hc; omega)])
          have i1 : decide ((N : Int) < (m : Int)) = true := by simp; omega
          go_wp2_with fail
          refine (HG.out _).mono ?_
          rintro e w4 ⟨rfl, hb4⟩
          have HB4 := d6_set (cs := #[]) (n := (N : Int)) hb4 1 (.int .u64 0)
          have t1 := (row_factsD HB4.1).1 1
          simp only [List.getElem?_toArray, List.getElem?_cons_succ, List.getElem?_cons_zero] at t1
          have HBW : Hid (Below w.heap.size w w4) := HB4.2.2.1
          clear hb4 HB4
          go_wp2_with fail
          go_ret3
          exact ⟨.inl ⟨HNN.out, rfl⟩, HBW.out⟩
    · obtain ⟨N, rfl⟩ := Int.eq_ofNat_of_zero_le (show 0 ≤ n by omega)
      have hN : N ≤ 200 := by omega
      by_cases hsz : N ≤ b.size
      · have HO : Hid (oneD getCompact 4 (N : Int) b.data.toList = some (⟨4, 0, b.extract 0 N⟩, N)) := by
          show _ = _
          unfold oneD
          rw [if_neg (by omega), if_neg (by omega), if_pos rfl, hll, if_pos (by simpa using hsz)]
          simp only [Int.toNat_natCast, ex_head]
        have i1 : decide ((b.size : Int) < (N : Int)) = false := by simp; omega
        have HQ : Hid (D6At getCompact 4 (N : Int) b.data.toList w (.int .i64 (N : Nat)) (.bool true) ((w.alloc (.cells #[.int .i64 4, .int .i64 (N : Int)] 70)).alloc (.cells #[.int .i64 4, .int .u64 0, .string (b.extract 0 N)] 64))) := D6At.fresh HO.out
        clear hok hok' HB0
        go_wp2_with fail
        go_meet
        case rel => exact HQ.out
      · have HNN : Hid (scD getCompact ts (f + 1) a b.data.toList = none) := HNO.out (by
          unfold oneD
          rw [if_neg (by omega), if_neg (by omega), if_pos rfl, hll, if_neg (by simpa using hsz)])
        have i1 : decide ((b.size : Int) < (N : Int)) = true := by simp; omega
        have HBW : Hid (Below w.heap.size w (d6W w 4 (N : Int))) := (d6_boxes w 4 (N : Int)).2.2.2
        clear hok hok' HB0
        go_wp2_with fail
        go_ret3
        exact ⟨.inl ⟨HNN.out, rfl⟩, HBW.out⟩
    · obtain ⟨N, rfl⟩ := Int.eq_ofNat_of_zero_le (show 0 ≤ n by omega)
      have HG : Hid (∀ w, Calls Tryz.prog 53 #[.string b, .bool false] w fun e w' => e = .returned (tripV (getCompact b.data.toList)) ∧ Below w.heap.size w w') := fun w => l6GetCount_sc b w hb
      have HO5 : Hid (oneD getCompact 5 (N : Int) b.data.toList = if (getCompact b.data.toList).2.2 = true then some (⟨5, (getCompact b.data.toList).1, ⟨#[]⟩⟩, (getCompact b.data.toList).2.1) else none) := by
        show _ = _
        unfold oneD
        rw [if_neg (by omega), if_neg (by omega), if_neg (by omega), if_pos rfl]
      obtain ⟨⟨m, h, o⟩, hg⟩ : ∃ g, getCompact b.data.toList = g := ⟨_, rfl⟩
      rw [hg] at HG HO5
      unfold tripV at HG
      simp only at HG HO5
      clear hok hok' hg
      go_wp2_with fail
      refine (HG.out _).mono ?_
      rintro e w4 ⟨rfl, hb4⟩
      have HB4 := d6_set (cs := #[]) (n := (N : Int)) hb4 1 (.int .u64 (m : Nat))
      have HPT : Hid ((w4.setCell ⟨w.heap.size + 1, 1, none⟩ (.int .u64 (m : Nat))).heap[w.heap.size + 1]? = some (.cells #[.int .i64 5, .int .u64 (m : Nat), .string ⟨#[]⟩] 64 (0, 0))) := (d6_put (x := ⟨5, m, ⟨#[]⟩⟩) hb4).1 rfl
      have t1 := (row_factsD HB4.2.1).1 1
      have z1 := (row_factsD HB4.2.1).2 1
      simp only [List.getElem?_toArray, List.getElem?_cons_succ, List.getElem?_cons_zero] at t1
      have HQ : Hid (D6At getCompact 5 (N : Int) b.data.toList w (.int .i64 (h : Nat)) (.bool o) (w4.setCell ⟨w.heap.size + 1, 1, none⟩ (.int .u64 (m : Nat)))) := by
        cases o with
        | false => exact ⟨HB4.2.2.2.2.2, HB4.2.2.2.1, .inl ⟨rfl, ⟨_, rfl⟩, by rw [HO5.out, if_neg (by simp)]⟩⟩
        | true => exact D6At.keep (x := ⟨5, m, ⟨#[]⟩⟩) HB4.2.2.2.2.2 HB4.2.2.2.1 (by rw [HO5.out, if_pos rfl]) HPT.out
      clear hb4 HB4
      go_wp2_with fail
      go_meet
      case rel => exact HQ.out
    · obtain ⟨N, rfl⟩ := Int.eq_ofNat_of_zero_le (show 0 ≤ n by omega)
      have hN : N ≤ 200 := by omega
      have HO : Hid (oneD getCompact 6 (N : Int) b.data.toList = some (⟨6, N, ⟨#[]⟩⟩, 0)) := by
        show _ = _
        unfold oneD
        rw [if_neg (by omega), if_neg (by omega), if_neg (by omega), if_neg (by omega)]
        simp
      have HQ : Hid (D6At getCompact 6 (N : Int) b.data.toList w (.int .i64 0) (.bool true) ((w.alloc (.cells #[.int .i64 6, .int .i64 (N : Int)] 70)).alloc (.cells #[.int .i64 6, .int .u64 (N : Nat), .string ⟨#[]⟩] 64))) := D6At.fresh HO.out
      clear hok hok' HB0
      go_wp2_with fail
      go_meet
      case rel => exact HQ.out
    · obtain ⟨N, rfl⟩ := Int.eq_ofNat_of_zero_le (show 0 ≤ n by omega)
      have hN : N ≤ 200 := by omega
      have HO : Hid (oneD getCompact 7 (N : Int) b.data.toList = some (⟨7, N, ⟨#[]⟩⟩, 0)) := by
        show _ = _
        unfold oneD
        rw [if_neg (by omega), if_neg (by omega), if_neg (by omega), if_neg (by omega)]
        simp
      have HQ : Hid (D6At getCompact 7 (N : Int) b.data.toList w (.int .i64 0) (.bool true) ((w.alloc (.cells #[.int .i64 7, .int .i64 (N : Int)] 70)).alloc (.cells #[.int .i64 7, .int .u64 (N : Nat), .string ⟨#[]⟩] 64))) := D6At.fresh HO.out
      clear hok hok' HB0
      go_wp2_with fail
      go_meet
      case rel => exact HQ.out
    · obtain rfl : n = 0 := by omega
      have HG : Hid (∀ w, Calls Tryz.prog 52 #[.string b, .int .i64 1] w fun e w' => e = .returned (.tuple #[.int .u64 (if b.size < 1 then 0 else leV (b.data.toList.take 1) : Nat), .bool (decide (1 ≤ b.size))]) ∧ w' = w) := fun w => specGetLe_any b 1 w (by omega) (by omega) (by unfold maxLen; omega)
      by_cases hsz : 1 ≤ b.size
      · have HO : Hid (oneD getCompact 8 0 b.data.toList = some (⟨8, leV (b.data.toList.take 1), ⟨#[]⟩⟩, 1)) := by
          show _ = _
          rw [oneD_num (by omega), show wd 8 0 = 1 from rfl, if_pos (by omega)]
        have HG2 : Hid (∀ w, Calls Tryz.prog 52 #[.string b, .int .i64 1] w fun e w' => e = .returned (.tuple #[.int .u64 (leV (b.data.toList.take 1) : Nat), .bool true]) ∧ w' = w) := fun w => by
          have h := HG.out w
          rw [if_neg (by omega), decide_eq_true hsz] at h
          exact h
        generalize leV (b.data.toList.take 1) = m at HG2 HO
        have HQ : Hid (D6At getCompact 8 0 b.data.toList w (.int .i64 1) (.bool true) ((w.alloc (.cells #[.int .i64 8, .int .i64 0] 70)).alloc (.cells #[.int .i64 8, .int .u64 (m : Nat), .string ⟨#[]⟩] 64))) := D6At.fresh HO.out
        clear hok hok' HG HO HB0
        go_wp2_with fail
        refine (HG2.out _).mono ?_
        rintro e w4 ⟨rfl, rfl⟩
        go_wp2_with fail
        go_meet
        case rel => exact HQ.out
      · have HO : Hid (oneD getCompact 8 0 b.data.toList = none) := by
          show _ = _
          rw [oneD_num (by omega), show wd 8 0 = 1 from rfl, if_neg (by omega)]
        have HG2 : Hid (∀ w, Calls Tryz.prog 52 #[.string b, .int .i64 1] w fun e w' => e = .returned (.tuple #[.int .u64 0, .bool false]) ∧ w' = w) := fun w => by
          have h := HG.out w
          rw [if_pos (by omega), decide_eq_false hsz] at h
          exact h
        have HQ : Hid (D6At getCompact 8 0 b.data.toList w (.int .i64 1) (.bool false) ((w.alloc (.cells #[.int .i64 8, .int .i64 0] 70)).alloc (.cells #[.int .i64 8, .int .u64 0, .string ⟨#[]⟩] 64))) := D6At.none _ _ HO.out
        clear hok hok' HG HO HB0
        go_wp2_with fail
        refine (HG2.out _).mono ?_
        rintro e w4 ⟨rfl, rfl⟩
        go_wp2_with fail
        go_meet
        case rel => exact HQ.out
    · obtain ⟨N, rfl⟩ := Int.eq_ofNat_of_zero_le (show 0 ≤ n by omega)
      have HG : Hid (∀ w, Calls Tryz.prog 52 #[.string b, .int .i64 1] w fun e w' => e = .returned (.tuple #[.int .u64 (if b.size < 1 then 0 else leV (b.data.toList.take 1) : Nat), .bool (decide (1 ≤ b.size))]) ∧ w' = w) := fun w => specGetLe_any b 1 w (by omega) (by omega) (by unfold maxLen; omega)
      by_cases hsz : 1 ≤ b.size
      · have HO : Hid (oneD getCompact 9 (N : Int) b.data.toList = some (⟨9, leV (b.data.toList.take 1), ⟨#[]⟩⟩, 1)) := by
          show _ = _
          rw [oneD_num (by omega), show wd 9 (N : Int) = 1 from rfl, if_pos (by omega)]
        have HG2 : Hid (∀ w, Calls Tryz.prog 52 #[.string b, .int .i64 1] w fun e w' => e = .returned (.tuple #[.int .u64 (leV (b.data.toList.take 1) : Nat), .bool true]) ∧ w' = w) := fun w => by
          have h := HG.out w
          rw [if_neg (by omega), decide_eq_true hsz] at h
          exact h
        generalize leV (b.data.toList.take 1) = m at HG2 HO
        have HQ : Hid (D6At getCompact 9 (N : Int) b.data.toList w (.int .i64 1) (.bool true) ((w.alloc (.cells #[.int .i64 9, .int .i64 (N : Int)] 70)).alloc (.cells #[.int .i64 9, .int .u64 (m : Nat), .string ⟨#[]⟩] 64))) := D6At.fresh HO.out
        clear hok hok' HG HO HB0
        go_wp2_with fail
        refine (HG2.out _).mono ?_
        rintro e w4 ⟨rfl, rfl⟩
        go_wp2_with fail
        go_meet
        case rel => exact HQ.out
      · have HO : Hid (oneD getCompact 9 (N : Int) b.data.toList = none) := by
          show _ = _
          rw [oneD_num (by omega), show wd 9 (N : Int) = 1 from rfl, if_neg (by omega)]
        have HG2 : Hid (∀ w, Calls Tryz.prog 52 #[.string b, .int .i64 1] w fun e w' => e = .returned (.tuple #[.int .u64 0, .bool false]) ∧ w' = w) := fun w => by
          have h := HG.out w
          rw [if_pos (by omega), decide_eq_false hsz] at h
          exact h
        have HQ : Hid (D6At getCompact 9 (N : Int) b.data.toList w (.int .i64 1) (.bool false) ((w.alloc (.cells #[.int .i64 9, .int .i64 (N : Int)] 70)).alloc (.cells #[.int .i64 9, .int .u64 0, .string ⟨#[]⟩] 64))) := D6At.none _ _ HO.out
        clear hok hok' HG HO HB0
        go_wp2_with fail
        refine (HG2.out _).mono ?_
        rintro e w4 ⟨rfl, rfl⟩
        go_wp2_with fail
        go_meet
        case rel => exact HQ.out
  case rest =>
    obtain ⟨hbc, hN1, ⟨rfl, ⟨zn, rfl⟩, hno⟩ | ⟨x, h, rfl, rfl, hone, hN2⟩⟩ := hcut
    · have HNN : Hid (scD getCompact ts (f + 1) a b.data.toList = none) := HNO.out hno
      have HBW : Hid (Below w.heap.size w wc) := hbc
      clear hbc hN1 hno c0 c1 hok
      go_wp2_with fail
      go_ret3
      exact ⟨.inl ⟨HNN.out, rfl⟩, HBW.out⟩
    · obtain ⟨hhb, hxn, hxk, hxs⟩ := HBK.out x h hone
      have HF : Hid (∀ w, Calls Tryz.prog 54 #[.agg #[.int .i64 k, .int .i64 n], .agg #[.int .i64 k, .int .u64 x.n, .string x.s]] w fun e w' => e = .returned (.bool (fitsI k n x)) ∧ Below w.heap.size w w') := fun w => by
        have := l3Fits_any k n x w hok hxn (by omega)
        rwa [hxk] at this
      have t0 := (row_factsD hN1).1 0
      have t1 := (row_factsD hN1).1 1
      have g0 := (row_factsD hN2).1 0
      have g1 := (row_factsD hN2).1 1
      have g2 := (row_factsD hN2).1 2
      simp only [List.getElem?_toArray, List.getElem?_cons_succ, List.getElem?_cons_zero] at t0 t1 g0 g1 g2
      have HBW : Hid (Below w.heap.size w wc) := hbc
      have HN2 : Hid (wc.heap[w.heap.size + 1]? = some (.cells #[.int .i64 k, .int .u64 x.n, .string x.s] 64 (0, 0))) := hN2
      have hk9 : 1 ≤ k ∧ k ≤ 9 := by simp only [tyOk, decide_eq_true_eq] at hok; omega
      have HN2L : Hid (w.heap.size + 1 < wc.heap.size) := blk_lt hN2
      cases hfi : fitsI k n x with
      | false =>
        rw [hfi] at HF
        have HNN : Hid (scD getCompact ts (f + 1) a b.data.toList = none) := HBAD.out x h hone hfi
        clear hbc hN1 hN2 hone c0 c1 hok hfi
        go_wp2_with fail
        refine (HF.out _).mono ?_
        rintro e w5 ⟨rfl, hb5⟩
        have HB5 : Hid (Below w.heap.size w w5) := HBW.out.trans (hb5.mono HBW.out.size)
        clear hb5 t0 t1 g0 g1 g2
        go_wp2_with fail
        go_ret3
        exact ⟨.inl ⟨HNN.out, rfl⟩, HB5.out⟩
      | true =>
        rw [hfi] at HF
        have hfn : fitsN k n x.n = true := by simp [fitsI] at hfi; exact hfi.2.1
        have HSD : Hid (scD getCompact ts (f + 1) a b.data.toList = (partsD (scD getCompact ts f) (pl ts f a k x.n) b.data.toList h (np k x.n)).map fun y => (x :: y.1.flatten, y.2)) := HONE.out x h hone hfi
        have HPL2 : Hid (∀ j, j < np k x.n → ∃ e', en ts f (pl ts f a k x.n j) = some e') := HPL.out x.n hfn
        have hnp : np k x.n ≤ 20 := HNP.out x.n hfn
        have HFN : Hid (fitsN k n x.n = true) := hfn
        have HMANY : Hid (∀ j m ls, j ≤ np k x.n → partsD (scD getCompact ts f) (pl ts f a k x.n) b.data.toList h j = some (ls, m) → ls.flatten.length ≤ j * 21 ^ f) := fun j m ls hj hpd => partsD_many (n := np k x.n) (fun i c l m hi hd => by
          obtain ⟨e', he'⟩ := HPL2.out i hi
          exact (scD_many he' hd).2) hj hpd
        have HLE : Hid (∀ j m ls, j ≤ np k x.n → partsD (scD getCompact ts f) (pl ts f a k x.n) b.data.toList h j = some (ls, m) → m ≤ b.size) := fun j m ls hj hpd => by
          have key : ∀ j m ls, j ≤ np k x.n → partsD (scD getCompact ts f) (pl ts f a k x.n) b.data.toList h j = some (ls, m) → m ≤ b.data.toList.length := by
            intro j
            induction j with
            | zero => intro m ls _ hpd; simp only [partsD, Option.some.injEq, Prod.mk.injEq] at hpd; rw [hll]; omega
            | succ j ih =>
              intro m ls hj hpd
              rw [partsD_succ] at hpd
              obtain ⟨⟨ls1, m1⟩, q1, q2⟩ := Option.bind_eq_some_iff.1 hpd
              obtain ⟨⟨l2, m2⟩, q3, q4⟩ := Option.map_eq_some_iff.1 q2
              simp only [Prod.mk.injEq] at q4
              have h1 := ih m1 ls1 (by omega) q1
              obtain ⟨e', he'⟩ := HPL2.out j (by omega)
              have h2 := (scD_back cntGet_sc he' q3).1
              rw [List.length_drop] at h2
              omega
          have := key j m ls hj hpd
          rwa [hll] at this
        have hp21 : 20 * 21 ^ f ≤ 1801088540 := by
          have : 21 ^ f ≤ 21 ^ 6 := Nat.pow_le_pow_right (by decide) (by omega)
          omega
        obtain ⟨L21, hL21⟩ : ∃ L, 21 ^ f = L := ⟨_, rfl⟩
        have HM1 : Hid (∀ pj c l m e', en ts f pj = some e' → scD getCompact ts f pj c = some (l, m) → 0 < l.length ∧ l.length ≤ L21) := fun pj c l m e' he' hd => by have := scD_many he' hd; rw [hL21] at this; exact ⟨by omega, this.2⟩
        rw [hL21] at HMANY hp21
        have HWX : Hid (inI x.k ∧ x.n < 18446744073709551616) := ⟨⟨by rw [hxk]; omega, by rw [hxk]; omega⟩, hxn⟩
        obtain ⟨i0, hi, hz0, hz1, hz2⟩ := info_parts Tryz.infoItem
        clear hbc hN1 hN2 hone c0 c1 hok hfi hfn HPL HNP HONE HBAD HNO HBK hL21
        go_wp2_with fail
        refine (HF.out _).mono ?_
        rintro e w5 ⟨rfl, hb5⟩
        have HB5 : Hid (Below w.heap.size w w5) := HBW.out.trans (hb5.mono HBW.out.size)
        have HN5 : Hid (w5.heap[w.heap.size + 1]? = some (.cells #[.int .i64 k, .int .u64 x.n, .string x.s] 64 (0, 0))) := (hb5.block _ HN2L.out).trans HN2.out
        have hlt5 : w.heap.size + 1 < w5.heap.size := by have := hb5.size; have := HN2L.out; omega
        clear hb5 t0 t1 g0 g1 g2
        have g0 := (row_factsD HN5.out).1 0
        have g1 := (row_factsD HN5.out).1 1
        have g2 := (row_factsD HN5.out).1 2
        simp only [List.getElem?_toArray, List.getElem?_cons_succ, List.getElem?_cons_zero] at g0 g1 g2
        have g0' := cell_alD (o := .cells #[.int .i64 k, .int .u64 (x.n : Int), .string x.s] 64) g0
        have g1' := cell_alD (o := .cells #[.int .i64 k, .int .u64 (x.n : Int), .string x.s] 64) g1
        have g2' := cell_alD (o := .cells #[.int .i64 k, .int .u64 (x.n : Int), .string x.s] 64) g2
        have HB6 : Hid (Below w.heap.size w (w5.alloc (.cells #[.int .i64 k, .int .u64 (x.n : Int), .string x.s] 64))) := HB5.out.alloc HB5.out.size _
        have HO1 : Hid (OwnIt w.heap.size (w5.alloc (.cells #[.int .i64 k, .int .u64 (x.n : Int), .string x.s] 64)) (.slice (some ⟨w5.heap.size, 0, none⟩) 1 1) [x]) := by
          have h1 := World.ownsRow_lit (base := w5.heap.size) (e := 64) (size := 3) w5 #[.int .i64 k, .int .u64 (x.n : Int), .string x.s] 1 (Nat.le_refl _) (by decide) rfl
          have h2 := own_b h1 HB5.out.size
          rw [← hxk] at h2 ⊢
          exact h2
        have HPC : Hid (Calls Tryz.prog 42 #[.slice (some ⟨bt', o, none⟩) ts.length capT, .int .i64 a, .agg #[.int .i64 k, .int .u64 (x.n : Int), .string x.s]] (w5.alloc (.cells #[.int .i64 k, .int .u64 (x.n : Int), .string x.s] 64)) fun e w'' => PlPost ts f a k x.n (w5.alloc (.cells #[.int .i64 k, .int .u64 (x.n : Int), .string x.s] 64)) e w'') := by
          have h1 := HPN.out x _ HB6.out HFN.out
          rw [hxk] at h1
          exact h1
        obtain ⟨N, hN⟩ : ∃ N, np k x.n = N := ⟨_, rfl⟩
        have HNE : Hid (np k x.n = N) := hN
        rw [hN] at hnp
        clear hN HPN
        go_wp2_with fail
        refine Calls.mono HPC.out ?_
        rintro e w7 ⟨vp, rfl, hown, hb7⟩
        have HB7 : Hid (Below w.heap.size w w7) := HB6.out.trans (hb7.mono HB6.out.size)
        have HO7 : Hid (OwnIt w.heap.size w7 (.slice (some ⟨w5.heap.size, 0, none⟩) 1 1) [x]) := HO1.out.kept hb7
        have HPR : Hid (∃ ad cp, vp = .slice ad N cp ∧ N ≤ cp ∧ cp ≤ maxLen ∧ (N = 0 ∨ ∃ g, ad = some ⟨g, 0, none⟩ ∧ w5.heap.size < g ∧ g < w7.heap.size ∧ ∀ i, i < N → w7.cell? ⟨g, i, none⟩ = some (.int .i64 (pl ts f a k x.n i : Nat)))) := by
          have hlt := hown.lt
          have h2 := hown.2
          rw [HNE.out] at h2
          rcases h2 with ⟨hv, h0⟩ | ⟨g, cp, cur, hv, hg, _, h1, h2, _, _⟩
          · exact ⟨none, 0, by rw [hv, h0], by omega, by simp [maxLen], .inl h0⟩
          · refine ⟨_, cp, hv, h1, h2, .inr ⟨g, rfl, by simp at hg; omega, ?_, fun i hi => ?_⟩⟩
            · exact (hlt g (by rw [hv]; rfl)).2
            · rw [hv] at hown
              rw [← HNE.out] at hown hi
              exact row_atD hown hi
        have hs7 : w5.heap.size < w7.heap.size := by have := hb7.size; simp at this; omega
        obtain ⟨ad, cp, rfl, hcp1, hcp2, hcells⟩ := HPR.out
        have HCL : Hid (N = 0 ∨ ∃ g, ad = some ⟨g, 0, none⟩ ∧ w5.heap.size < g ∧ g < w7.heap.size ∧ ∀ i, i < N → w7.cell? ⟨g, i, none⟩ = some (.int .i64 (pl ts f a k x.n i : Nat))) := hcells
        unfold maxLen at hcp2
        clear hown hb7 HPR hcells HPC g0 g1 g2 g0' g1' g2' hxs
        rw [HNE.out] at HMANY HLE HPL2 HSD
        obtain ⟨ps, hps⟩ : ∃ ps, pl ts f a k x.n = ps := ⟨_, rfl⟩
        rw [hps] at HMANY HLE HPL2 HSD HCL
        clear hps HNE
        go_wp2_with fail
        go_loopg [13, 18, 20] N (fun gk nv u i wr => ∃ (j m : Nat) (ls : List (List It)), j + gk = N ∧ i = .int .i64 j ∧ nv = .int .i64 (m : Nat) ∧ partsD (scD getCompact ts f) ps b.data.toList h j = some (ls, m) ∧ OwnIt w.heap.size wr u (x :: ls.flatten) ∧ Below w.heap.size w wr ∧ w7.heap.size ≤ wr.heap.size ∧ (∀ q, w5.heap.size < q → q < w7.heap.size → wr.heap[q]? = w7.heap[q]? ∧ some q ≠ u.ownBlock))
        case atStart => exact ⟨0, h, [], by omega, rfl, rfl, rfl, HO7.out, HB7.out, Nat.le_refl _, fun q h1 h2 => ⟨rfl, fun e => absurd (show q = w5.heap.size by simpa [Value.ownBlock] using e) (by omega)⟩⟩
        case round =>
          obtain ⟨j, m, ls, hj', rfl, rfl, hpd, hown, hbw, hg7, hkeep⟩ := hrel
          have HJ : Hid (j + gk = N) := hj'
          have hj : j ≤ N := by omega
          have hmb : m ≤ b.size := HLE.out j m ls hj hpd
          have hlen0 := HMANY.out j m ls hj hpd
          have hjL : j * L21 ≤ 20 * L21 := Nat.mul_le_mul_right _ (by omega)
          obtain ⟨vs, hvs⟩ : ∃ vs, x :: ls.flatten = vs := ⟨_, rfl⟩
          have HVS : Hid (x :: ls.flatten = vs) := hvs
          have hvl : vs.length ≤ 1801088541 := by rw [← hvs, List.length_cons]; omega
          have hv0 : 0 < vs.length := by rw [← hvs, List.length_cons]; omega
          rw [hvs] at hown
          have HOv : Hid (OwnIt w.heap.size wr u18 vs) := hown
          have HPD : Hid (partsD (scD getCompact ts f) ps b.data.toList h j = some (ls, m)) := hpd
          have HBr : Hid (Below w.heap.size w wr) := hbw
          have HKP : Hid (∀ q, w5.heap.size < q → q < w7.heap.size → wr.heap[q]? = w7.heap[q]? ∧ some q ≠ u18.ownBlock) := hkeep
          have hsr : w.heap.size ≤ wr.heap.size := hbw.size
          obtain ⟨adu, capu, rfl, hu1, hu2, hu3⟩ := hown.form
          unfold maxLen at hu2
          clear hj' hown hbw hkeep hu3 hpd hlen0 hjL hvs
          by_cases hjN : j < N
          · obtain ⟨g, rfl, hgw, hgl, hc⟩ := HCL.out.resolve_left (by omega)
            have cj : wr.cell? ⟨g, j, none⟩ = some (.int .i64 (ps j : Nat)) := (World.cell?_of_block (w := w7) (a := ⟨g, j, none⟩) (HKP.out g hgw hgl).1).trans (hc j hjN)
            have hgr : g < wr.heap.size := by omega
            obtain ⟨e', he'⟩ := HPL2.out j hjN
            have hpj : ps j ≤ 1048577 := by have := en_lt he'; omega
            have hRs : (b.extract m b.size).size ≤ 1048576 := by rw [ex_sz]; omega
            have HEXL : Hid ((b.extract m b.size).data.toList = b.data.toList.drop m) := ex_list b m
            have HC0 : Hid (∀ w', Below wr.heap.size wr w' → Calls Tryz.prog 30 #[.slice (some ⟨bt', o, none⟩) ts.length capT, .int .i64 (ps j : Nat), .string (b.extract m b.size), .bool false] w' fun e w'' => D6Post getCompact ts f (ps j) (b.extract m b.size) w' e w'') := fun w' hb' => HP.out _ e' _ _ w' (by omega) he' ((HT.out.below (HBr.out.trans (hb'.mono hsr))).up (by have := hb'.size; omega)) hRs
            have HM2 : Hid (∀ l q, scD getCompact ts f (ps j) (b.data.toList.drop m) = some (l, q) → 0 < l.length ∧ l.length ≤ L21) := fun l q hd => HM1.out _ _ l q e' he' hd
            have HPSJ : Hid (∀ (r : Option (List It × Nat)), scD getCompact ts f (ps j) (b.data.toList.drop m) = r → partsD (scD getCompact ts f) ps b.data.toList h (j + 1) = (r.map fun y => (ls ++ [y.1], m + y.2))) := fun r hr => by rw [partsD_succ, HPD.out]; simp [hr]
            have HS0 : Hid (wr.cell? ⟨g, j, none⟩ = some (.int .i64 (ps j : Nat))) := cj
            cases hsc : scD getCompact ts f (ps j) (b.data.toList.drop m) with
            | none =>
              have HC : Hid (∀ w', Below wr.heap.size wr w' → Calls Tryz.prog 30 #[.slice (some ⟨bt', o, none⟩) ts.length capT, .int .i64 (ps j : Nat), .string (b.extract m b.size), .bool false] w' fun e w'' => e = .returned (.tuple #[.slice none 0 0, .int .i64 0, .bool false]) ∧ Below w'.heap.size w' w'') := fun w' hb' => (HC0.out w' hb').mono (by
                rintro e w'' ⟨⟨_, rfl⟩ | ⟨l, q, v, hd, _⟩, hb2⟩
                · exact ⟨rfl, hb2⟩
                · rw [HEXL.out, hsc] at hd; cases hd)
              have HNN : Hid (scD getCompact ts (f + 1) a b.data.toList = none) := by
                show _ = _
                rw [HSD.out, partsD_none (j := j + 1) (HPSJ.out none hsc) N (by omega)]; rfl
              clear hc he' hsc HC0 HM2
              generalize ps j = pj at cj HC hpj HS0
              go_wp2_with fail
              go_region_held3 (fun W => W.cell? ⟨g, j, none⟩ = some (.int .i64 (pj : Nat))) (first | exact HS0.out | exact HS3.out) (first
                | (go_at_call 30; refine (HC.out _ (Below.drew (Below.refl _ _))).mono ?_; rintro e w3 ⟨rfl, hb3⟩; have HB3 : Hid (Below wr.heap.size wr w3) := (Below.drew (Below.refl _ _)).trans hb3; have HS3 : Hid _ := (HB3.out.cell (p := ⟨g, j, none⟩) hgr).trans HS0.out; clear hb3))
              all_goals
                go_wp2_with fail
                go_ret3
                exact ⟨.inl ⟨HNN.out, rfl⟩, HBr.out.trans (HB3.out.mono hsr)⟩
            | some lq =>
              obtain ⟨l, q⟩ := lq
              have HC : Hid (∀ w', Below wr.heap.size wr w' → Calls Tryz.prog 30 #[.slice (some ⟨bt', o, none⟩) ts.length capT, .int .i64 (ps j : Nat), .string (b.extract m b.size), .bool false] w' fun e w'' => (∃ v, e = .returned (.tuple #[v, .int .i64 (q : Nat), .bool true]) ∧ OwnIt w'.heap.size w'' v l) ∧ Below w'.heap.size w' w'') := fun w' hb' => (HC0.out w' hb').mono (by
                rintro e w'' ⟨⟨hd, _⟩ | ⟨l1, q1, v, hd, rfl, ho⟩, hb2⟩
                · rw [HEXL.out, hsc] at hd; cases hd
                · rw [HEXL.out, hsc] at hd
                  simp only [Option.some.injEq, Prod.mk.injEq] at hd
                  obtain ⟨rfl, rfl⟩ := hd
                  exact ⟨⟨v, rfl, ho⟩, hb2⟩)
              obtain ⟨hl8, hl21⟩ := HM2.out l q hsc
              have HPX : Hid (partsD (scD getCompact ts f) ps b.data.toList h (j + 1) = some (ls ++ [l], m + q)) := HPSJ.out _ hsc
              have hmq : m + q ≤ b.size := HLE.out (j + 1) (m + q) (ls ++ [l]) (by omega) HPX.out
              clear hc he' hsc HC0 HM2
              generalize ps j = pj at cj HC hpj HS0
              go_wp2_with fail
              go_region_held3 (fun W => W.cell? ⟨g, j, none⟩ = some (.int .i64 (pj : Nat))) (first | exact HS0.out | exact HS3.out) (first
                | (go_at_call 30; refine (HC.out _ (Below.drew (Below.refl _ _))).mono ?_; rintro e w3 ⟨⟨v8, rfl, ho3⟩, hb3⟩; have HB3 : Hid (Below wr.heap.size wr w3) := (Below.drew (Below.refl _ _)).trans hb3; have HO3 : Hid (OwnIt wr.heap.size w3 v8 l) := own_b ho3 (by first | exact Nat.le_refl _ | simp); have HS3 : Hid _ := (HB3.out.cell (p := ⟨g, j, none⟩) hgr).trans HS0.out; clear hb3 ho3))
              all_goals
                obtain ⟨g8, cap8, rfl, hg8b, hg8l⟩ := World.ownsRow.form HO3.out hl8
                have HO8 : Hid (OwnIt w.heap.size w3 (.slice adu vs.length capu) vs) := HOv.out.kept HB3.out
                have HC8 : Hid (w3.ownsRow wr.heap.size 64 3 (.slice (some ⟨g8, 0, none⟩) l.length cap8) l.length (flatI l)) := HO3.out
                have HB8 : Hid (Below w.heap.size w w3) := HBr.out.trans (HB3.out.mono hsr)
                have HK8 : Hid (∀ q, w5.heap.size < q → q < w7.heap.size → w3.heap[q]? = w7.heap[q]? ∧ some q ≠ (Value.slice adu vs.length capu).ownBlock) := fun q h1 h2 => ⟨by rw [HB3.out.block q (by omega)]; exact (HKP.out q h1 h2).1, (HKP.out q h1 h2).2⟩
                have hs8 : wr.heap.size ≤ w3.heap.size := HB3.out.size
                have hsum : vs.length + l.length ≤ 3700000000 := by omega
                clear cj
                go_wp2_with (at_builtin; refine wpList_append_lies _ rfl _ _ 25 rfl w.heap.size 64 i0 (.agg #[.int .i64 0, .int .u64 0, .string ByteArray.empty]) 3 32 Tryz.underlying25 hi hz0 hz1 hz2 rfl (by decide) (.slice adu vs.length capu) vs.length (flatI vs) rfl HO8.out ⟨g8, 0, none⟩ l.length cap8 (flatI l) rfl (flatI_len l) (fun j u hu => HC8.out.cells (g := g8) rfl j u hu) (flatI_one _) hl8 (by unfold maxLen; omega) (by omega) (by omega) _ rfl ?_)
                intro g9 cap9 w9 hown9 hgrow hat hlt9
                have hou : ∀ q, (Value.slice adu vs.length capu).ownBlock = some q → w.heap.size ≤ q := fun q hq => (World.ownsRow.lt HO8.out q hq).1
                have R1 : Below w.heap.size w w9 := HB8.out.grown hgrow HB8.out.size hou
                have R3 : OwnIt w.heap.size w9 (.slice (some ⟨g9, 0, none⟩) (vs.length + l.length) cap9) (x :: (ls ++ [l]).flatten) := by
                  have e1 : x :: (ls ++ [l]).flatten = vs ++ l := by rw [← HVS.out]; simp
                  rw [e1]
                  unfold OwnIt; rw [flatI_app, List.length_append]; exact hown9
                have R4 : ∀ q, w5.heap.size < q → q < w7.heap.size → w9.heap[q]? = w7.heap[q]? ∧ some q ≠ (Value.slice (some ⟨g9, 0, none⟩) (vs.length + l.length) cap9).ownBlock := fun q h1 h2 => by
                  have h3 := HK8.out q h1 h2
                  refine ⟨by rw [hgrow.block q (by omega) h3.2]; exact h3.1, fun e => ?_⟩
                  have e' : q = g9 := by simpa [Value.ownBlock] using e
                  rcases hat with h | h
                  · exact h3.2 (by rw [e', h])
                  · omega
                have R5 : w7.heap.size ≤ w9.heap.size := by have := hgrow.size; omega
                have HX : Hid (OwnIt w.heap.size w9 (.slice (some ⟨g9, 0, none⟩) (vs.length + l.length) cap9) (x :: (ls ++ [l]).flatten) ∧ Below w.heap.size w w9 ∧ w7.heap.size ≤ w9.heap.size ∧ ∀ q, w5.heap.size < q → q < w7.heap.size → w9.heap[q]? = w7.heap[q]? ∧ some q ≠ (Value.slice (some ⟨g9, 0, none⟩) (vs.length + l.length) cap9).ownBlock) := ⟨R3, R1, R5, R4⟩
                clear R1 R3 R4 R5 hown9 hgrow hat hlt9
                go_wp2_with fail
                go_roundg (gk - 1)
                case rel => exact ⟨j + 1, m + q, ls ++ [l], by have := HJ.out; omega, by go_num, by go_num, HPX.out, HX.out⟩
                case measure => have := HJ.out; omega
          · have e1 : j = N := by omega
            have HFIN : Hid (scD getCompact ts (f + 1) a b.data.toList = some (vs, m)) := by
              show _ = _
              rw [HSD.out, ← e1, HPD.out, ← HVS.out]; rfl
            go_wp2_with fail
            go_ret3
            exact ⟨.inr ⟨vs, m, _, HFIN.out, rfl, HOv.out⟩, HBr.out⟩
theorem l6Dec_sc (ts : List (Int × Int)) : ∀ f, D6Hyp_sc ts f := by
  intro f
  induction f with
  | zero => intro a e0 vt b w _ h; cases h
  | succ f ih =>
    intro a e0 vt b w hf7 he hT hb
    obtain ⟨ha, hok, hit⟩ := en_inv he
    exact l6Dec_step_sc ts f ih a e0 vt b w hf7 hT hb ha hok hit
theorem l6GetCount_bc (s : ByteArray) (w : World) (hs : s.size ≤ 1048576) : Calls Tryz.prog 53 #[.string s, .bool true] w fun e w' => e = .returned (tripV (getSize s.data.toList)) ∧ Below w.heap.size w w' := by
  have HC : Hid (∀ w, Calls Tryz.prog 76 #[.string s] w fun e w' => e = .returned (tripV (getSize s.data.toList)) ∧ Below w.heap.size w w') := fun w => specGetSize_any s w hs
  obtain ⟨⟨m, h, o⟩, hg⟩ : ∃ g, getSize s.data.toList = g := ⟨_, rfl⟩
  rw [hg] at HC ⊢
  unfold tripV at HC ⊢
  clear hg
  go_enter Tryz.func53, Tryz.ntmps53
  go_wp2_with fail
  refine (HC.out _).mono ?_
  rintro e w1 ⟨rfl, hb1⟩
  go_wp2_with fail
  go_ret3
  exact ⟨rfl, hb1⟩
/-- The contract of l6Dec, f levels being left. -/
def D6Hyp_bc (ts : List (Int × Int)) (f : Nat) : Prop :=
  ∀ (a e0 : Nat) (vt : Value) (b : ByteArray) (w : World), f ≤ 7 → en ts f a = some e0 → IsTyps w.heap.size w vt ts → b.size ≤ 1048576 →
    Calls Tryz.prog 30 #[vt, .int .i64 a, .string b, .bool true] w fun e w' => D6Post getSize ts f a b w e w'
set_option maxRecDepth 100000 in
set_option maxHeartbeats 16000000 in
theorem l6Dec_step_bc (ts : List (Int × Int)) (f : Nat) (hp : D6Hyp_bc ts f) (a e0 : Nat) (vt : Value) (b : ByteArray) (w : World) (hf7 : f + 1 ≤ 7) (hT : IsTyps w.heap.size w vt ts) (hb : b.size ≤ 1048576) (ha : a < ts.length) (hok : tyOk ts[a].1 ts[a].2 = true) (hit : iter (en ts f) (a + 1) (kids ts[a].1 ts[a].2) = some e0) :
    Calls Tryz.prog 30 #[vt, .int .i64 a, .string b, .bool true] w fun e w' => D6Post getSize ts (f + 1) a b w e w' := by
  have HT : Hid (IsTyps w.heap.size w vt ts) := hT
  have HP : Hid (D6Hyp_bc ts f) := hp
  have hll := lst_len b
  have HPN : Hid (∀ (x : It) w', Below w.heap.size w w' → fitsN ts[a].1 ts[a].2 x.n = true → Calls Tryz.prog 42 #[vt, .int .i64 a, .agg #[.int .i64 x.k, .int .u64 x.n, .string x.s]] w' fun e w'' => PlPost ts f a ts[a].1 x.n w' e w'') := fun x w' hbw hfn => l3Plan_any ts f a e0 x vt w' (by omega) ((hT.below hbw).up hbw.size) ha hok hit hfn
  have HPL : Hid (∀ m, fitsN ts[a].1 ts[a].2 m = true → ∀ j, j < np ts[a].1 m → ∃ e', en ts f (pl ts f a ts[a].1 m j) = some e') := fun m hfn j hj => pl_ok ha hok hit hfn hj
  have HNP : Hid (∀ m, fitsN ts[a].1 ts[a].2 m = true → np ts[a].1 m ≤ 20) := fun m hfn => np_le hok hfn
  have HNO : Hid (oneD getSize ts[a].1 ts[a].2 b.data.toList = none → scD getSize ts (f + 1) a b.data.toList = none) := fun h => scD_no ha h
  have HBAD : Hid (∀ x h, oneD getSize ts[a].1 ts[a].2 b.data.toList = some (x, h) → fitsI ts[a].1 ts[a].2 x = false → scD getSize ts (f + 1) a b.data.toList = none) := fun x h h1 h2 => scD_bad ha h1 h2
  have HONE : Hid (∀ x h, oneD getSize ts[a].1 ts[a].2 b.data.toList = some (x, h) → fitsI ts[a].1 ts[a].2 x = true → scD getSize ts (f + 1) a b.data.toList = (partsD (scD getSize ts f) (pl ts f a ts[a].1 x.n) b.data.toList h (np ts[a].1 x.n)).map fun y => (x :: y.1.flatten, y.2)) := fun x h h1 h2 => scD_one ha h1 h2
  have HBK : Hid (∀ x h, oneD getSize ts[a].1 ts[a].2 b.data.toList = some (x, h) → h ≤ b.size ∧ x.n < 18446744073709551616 ∧ x.k = ts[a].1 ∧ x.s.size ≤ 200) := fun x h h1 => by
    obtain ⟨_, h2, h3, h4, h5⟩ := oneD_back cntGet_bc hok h1
    exact ⟨by rw [← hll]; exact h2, h3, h4, h5⟩
  obtain ⟨bt', o, capT, hv', hbt, h1, h2, c0, c1⟩ := hT.at ha
  have hst := hT.small
  unfold maxLen at h2
  obtain ⟨k, hk⟩ : ∃ k, ts[a].1 = k := ⟨_, rfl⟩
  obtain ⟨n, hn⟩ : ∃ n, ts[a].2 = n := ⟨_, rfl⟩
  rw [hk] at c0 hok HPN HPL HNP HNO HBAD HONE HBK
  rw [hn] at c1 hok HPN HPL HNP HNO HBAD HONE HBK
  clear hit hT hp hk hn
  subst hv'
  have HW0 := d6_boxes w k n
  go_enter Tryz.func30, Tryz.ntmps30
  go_upto_block 0 with fail
  go_cut [13, 14] (fun nv okv wz => D6At getSize k n b.data.toList w nv okv wz)
  case first =>
    have HB0 : Hid (Below (d6W w k n).heap.size (d6W w k n) (d6W w k n)) := Below.refl _ _
    clear HPN HPL HNP HONE HBAD HP HT HW0
    have hok' := hok
    simp only [tyOk, decide_eq_true_eq] at hok
    have hkk : k = 1 ∨ k = 2 ∨ k = 3 ∨ k = 4 ∨ k = 5 ∨ k = 6 ∨ k = 7 ∨ k = 8 ∨ k = 9 := by omega
    rcases hkk with rfl | rfl | rfl | rfl | rfl | rfl | rfl | rfl | rfl
    · have hn4 : n = 8 ∨ n = 16 ∨ n = 32 ∨ n = 64 := by omega
      rcases hn4 with rfl | rfl | rfl | rfl
      · skip
        have HG : Hid (∀ w, Calls Tryz.prog 52 #[.string b, .int .i64 1] w fun e w' => e = .returned (.tuple #[.int .u64 (if b.size < 1 then 0 else leV (b.data.toList.take 1) : Nat), .bool (decide (1 ≤ b.size))]) ∧ w' = w) := fun w => specGetLe_any b 1 w (by omega) (by omega) (by unfold maxLen; omega)
        by_cases hsz : 1 ≤ b.size
        · have HO : Hid (oneD getSize 1 8 b.data.toList = some (⟨1, leV (b.data.toList.take 1), ⟨#[]⟩⟩, 1)) := by
            show _ = _
            rw [oneD_num (by omega), show wd 1 8 = 1 from rfl, if_pos (by omega)]
          have HG2 : Hid (∀ w, Calls Tryz.prog 52 #[.string b, .int .i64 1] w fun e w' => e = .returned (.tuple #[.int .u64 (leV (b.data.toList.take 1) : Nat), .bool true]) ∧ w' = w) := fun w => by
            have h := HG.out w
            rw [if_neg (by omega), decide_eq_true hsz] at h
            exact h
          generalize leV (b.data.toList.take 1) = m at HG2 HO
          have HQ : Hid (D6At getSize 1 8 b.data.toList w (.int .i64 1) (.bool true) ((w.alloc (.cells #[.int .i64 1, .int .i64 8] 70)).alloc (.cells #[.int .i64 1, .int .u64 (m : Nat), .string ⟨#[]⟩] 64))) := D6At.fresh HO.out
          clear hok hok' HG HO HB0
          go_wp2_with fail
          refine (HG2.out _).mono ?_
          rintro e w4 ⟨rfl, rfl⟩
          go_wp2_with fail
          go_meet
          case rel => exact HQ.out
        · have HO : Hid (oneD getSize 1 8 b.data.toList = none) := by
            show _ = _
            rw [oneD_num (by omega), show wd 1 8 = 1 from rfl, if_neg (by omega)]
          have HG2 : Hid (∀ w, Calls Tryz.prog 52 #[.string b, .int .i64 1] w fun e w' => e = .returned (.tuple #[.int .u64 0, .bool false]) ∧ w' = w) := fun w => by
            have h := HG.out w
            rw [if_pos (by omega), decide_eq_false hsz] at h
            exact h
          have HQ : Hid (D6At getSize 1 8 b.data.toList w (.int .i64 1) (.bool false) ((w.alloc (.cells #[.int .i64 1, .int .i64 8] 70)).alloc (.cells #[.int .i64 1, .int .u64 0, .string ⟨#[]⟩] 64))) := D6At.none _ _ HO.out
          clear hok hok' HG HO HB0
          go_wp2_with fail
          refine (HG2.out _).mono ?_
          rintro e w4 ⟨rfl, rfl⟩
          go_wp2_with fail
          go_meet
          case rel => exact HQ.out
      · skip
        have HG : Hid (∀ w, Calls Tryz.prog 52 #[.string b, .int .i64 2] w fun e w' => e = .returned (.tuple #[.int .u64 (if b.size < 2 then 0 else leV (b.data.toList.take 2) : Nat), .bool (decide (2 ≤ b.size))]) ∧ w' = w) := fun w => specGetLe_any b 2 w (by omega) (by omega) (by unfold maxLen; omega)
        by_cases hsz : 2 ≤ b.size
        · have HO : Hid (oneD getSize 1 16 b.data.toList = some (⟨1, leV (b.data.toList.take 2), ⟨#[]⟩⟩, 2)) := by
            show _ = _
            rw [oneD_num (by omega), show wd 1 16 = 2 from rfl, if_pos (by omega)]
          have HG2 : Hid (∀ w, Calls Tryz.prog 52 #[.string b, .int .i64 2] w fun e w' => e = .returned (.tuple #[.int .u64 (leV (b.data.toList.take 2) : Nat), .bool true]) ∧ w' = w) := fun w => by
            have h := HG.out w
            rw [if_neg (by omega), decide_eq_true hsz] at h
            exact h
          generalize leV (b.data.toList.take 2) = m at HG2 HO
          have HQ : Hid (D6At getSize 1 16 b.data.toList w (.int .i64 2) (.bool true) ((w.alloc (.cells #[.int .i64 1, .int .i64 16] 70)).alloc (.cells #[.int .i64 1, .int .u64 (m : Nat), .string ⟨#[]⟩] 64))) := D6At.fresh HO.out
          clear hok hok' HG HO HB0
          go_wp2_with fail
          refine (HG2.out _).mono ?_
          rintro e w4 ⟨rfl, rfl⟩
          go_wp2_with fail
          go_meet
          case rel => exact HQ.out
        · have HO : Hid (oneD getSize 1 16 b.data.toList = none) := by
            show _ = _
            rw [oneD_num (by omega), show wd 1 16 = 2 from rfl, if_neg (by omega)]
          have HG2 : Hid (∀ w, Calls Tryz.prog 52 #[.string b, .int .i64 2] w fun e w' => e = .returned (.tuple #[.int .u64 0, .bool false]) ∧ w' = w) := fun w => by
            have h := HG.out w
            rw [if_pos (by omega), decide_eq_false hsz] at h
            exact h
          have HQ : Hid (D6At getSize 1 16 b.data.toList w (.int .i64 2) (.bool false) ((w.alloc (.cells #[.int .i64 1, .int .i64 16] 70)).alloc (.cells #[.int .i64 1, .int .u64 0, .string ⟨#[]⟩] 64))) := D6At.none _ _ HO.out
          clear hok hok' HG HO HB0
          go_wp2_with fail
          refine (HG2.out _).mono ?_
          rintro e w4 ⟨rfl, rfl⟩
          go_wp2_with fail
          go_meet
          case rel => exact HQ.out
      · skip
        have HG : Hid (∀ w, Calls Tryz.prog 52 #[.string b, .int .i64 4] w fun e w' => e = .returned (.tuple #[.int .u64 (if b.size < 4 then 0 else leV (b.data.toList.take 4) : Nat), .bool (decide (4 ≤ b.size))]) ∧ w' = w) := fun w => specGetLe_any b 4 w (by omega) (by omega) (by unfold maxLen; omega)
        by_cases hsz : 4 ≤ b.size
        · have HO : Hid (oneD getSize 1 32 b.data.toList = some (⟨1, leV (b.data.toList.take 4), ⟨#[]⟩⟩, 4)) := by
            show _ = _
            rw [oneD_num (by omega), show wd 1 32 = 4 from rfl, if_pos (by omega)]
          have HG2 : Hid (∀ w, Calls Tryz.prog 52 #[.string b, .int .i64 4] w fun e w' => e = .returned (.tuple #[.int .u64 (leV (b.data.toList.take 4) : Nat), .bool true]) ∧ w' = w) := fun w => by
            have h := HG.out w
            rw [if_neg (by omega), decide_eq_true hsz] at h
            exact h
          generalize leV (b.data.toList.take 4) = m at HG2 HO
          have HQ : Hid (D6At getSize 1 32 b.data.toList w (.int .i64 4) (.bool true) ((w.alloc (.cells #[.int .i64 1, .int .i64 32] 70)).alloc (.cells #[.int .i64 1, .int .u64 (m : Nat), .string ⟨#[]⟩] 64))) := D6At.fresh HO.out
          clear hok hok' HG HO HB0
          go_wp2_with fail
          refine (HG2.out _).mono ?_
          rintro e w4 ⟨rfl, rfl⟩
          go_wp2_with fail
          go_meet
          case rel => exact HQ.out
        · have HO : Hid (oneD getSize 1 32 b.data.toList = none) := by
            show _ = _
            rw [oneD_num (by omega), show wd 1 32 = 4 from rfl, if_neg (by omega)]
          have HG2 : Hid (∀ w, Calls Tryz.prog 52 #[.string b, .int .i64 4] w fun e w' => e = .returned (.tuple #[.int .u64 0, .bool false]) ∧ w' = w) := fun w => by
            have h := HG.out w
            rw [if_pos (by omega), decide_eq_false hsz] at h
            exact h
          have HQ : Hid (D6At getSize 1 32 b.data.toList w (.int .i64 4) (.bool false) ((w.alloc (.cells #[.int .i64 1, .int .i64 32] 70)).alloc (.cells #[.int .i64 1, .int .u64 0, .string ⟨#[]⟩] 64))) := D6At.none _ _ HO.out
          clear hok hok' HG HO HB0
          go_wp2_with fail
          refine (HG2.out _).mono ?_
          rintro e w4 ⟨rfl, rfl⟩
          go_wp2_with fail
          go_meet
          case rel => exact HQ.out
      · skip
        have HG : Hid (∀ w, Calls Tryz.prog 52 #[.string b, .int .i64 8] w fun e w' => e = .returned (.tuple #[.int .u64 (if b.size < 8 then 0 else leV (b.data.toList.take 8) : Nat), .bool (decide (8 ≤ b.size))]) ∧ w' = w) := fun w => specGetLe_any b 8 w (by omega) (by omega) (by unfold maxLen; omega)
        by_cases hsz : 8 ≤ b.size
        · have HO : Hid (oneD getSize 1 64 b.data.toList = some (⟨1, leV (b.data.toList.take 8), ⟨#[]⟩⟩, 8)) := by
            show _ = _
            rw [oneD_num (by omega), show wd 1 64 = 8 from rfl, if_pos (by omega)]
          have HG2 : Hid (∀ w, Calls Tryz.prog 52 #[.string b, .int .i64 8] w fun e w' => e = .returned (.tuple #[.int .u64 (leV (b.data.toList.take 8) : Nat), .bool true]) ∧ w' = w) := fun w => by
            have h := HG.out w
            rw [if_neg (by omega), decide_eq_true hsz] at h
            exact h
          generalize leV (b.data.toList.take 8) = m at HG2 HO
          have HQ : Hid (D6At getSize 1 64 b.data.toList w (.int .i64 8) (.bool true) ((w.alloc (.cells #[.int .i64 1, .int .i64 64] 70)).alloc (.cells #[.int .i64 1, .int .u64 (m : Nat), .string ⟨#[]⟩] 64))) := D6At.fresh HO.out
          clear hok hok' HG HO HB0
          go_wp2_with fail
          refine (HG2.out _).mono ?_
          rintro e w4 ⟨rfl, rfl⟩
          go_wp2_with fail
          go_meet
          case rel => exact HQ.out
        · have HO : Hid (oneD getSize 1 64 b.data.toList = none) := by
            show _ = _
            rw [oneD_num (by omega), show wd 1 64 = 8 from rfl, if_neg (by omega)]
          have HG2 : Hid (∀ w, Calls Tryz.prog 52 #[.string b, .int .i64 8] w fun e w' => e = .returned (.tuple #[.int .u64 0, .bool false]) ∧ w' = w) := fun w => by
            have h := HG.out w
            rw [if_pos (by omega), decide_eq_false hsz] at h
            exact h
          have HQ : Hid (D6At getSize 1 64 b.data.toList w (.int .i64 8) (.bool false) ((w.alloc (.cells #[.int .i64 1, .int .i64 64] 70)).alloc (.cells #[.int .i64 1, .int .u64 0, .string ⟨#[]⟩] 64))) := D6At.none _ _ HO.out
          clear hok hok' HG HO HB0
          go_wp2_with fail
          refine (HG2.out _).mono ?_
          rintro e w4 ⟨rfl, rfl⟩
          go_wp2_with fail
          go_meet
          case rel => exact HQ.out
    · obtain rfl : n = 0 := by omega
      have HG : Hid (∀ w, Calls Tryz.prog 52 #[.string b, .int .i64 1] w fun e w' => e = .returned (.tuple #[.int .u64 (if b.size < 1 then 0 else leV (b.data.toList.take 1) : Nat), .bool (decide (1 ≤ b.size))]) ∧ w' = w) := fun w => specGetLe_any b 1 w (by omega) (by omega) (by unfold maxLen; omega)
      by_cases hsz : 1 ≤ b.size
      · have HO : Hid (oneD getSize 2 0 b.data.toList = some (⟨2, leV (b.data.toList.take 1), ⟨#[]⟩⟩, 1)) := by
          show _ = _
          rw [oneD_num (by omega), show wd 2 0 = 1 from rfl, if_pos (by omega)]
        have HG2 : Hid (∀ w, Calls Tryz.prog 52 #[.string b, .int .i64 1] w fun e w' => e = .returned (.tuple #[.int .u64 (leV (b.data.toList.take 1) : Nat), .bool true]) ∧ w' = w) := fun w => by
          have h := HG.out w
          rw [if_neg (by omega), decide_eq_true hsz] at h
          exact h
        generalize leV (b.data.toList.take 1) = m at HG2 HO
        have HQ : Hid (D6At getSize 2 0 b.data.toList w (.int .i64 1) (.bool true) ((w.alloc (.cells #[.int .i64 2, .int .i64 0] 70)).alloc (.cells #[.int .i64 2, .int .u64 (m : Nat), .string ⟨#[]⟩] 64))) := D6At.fresh HO.out
        clear hok hok' HG HO HB0
        go_wp2_with fail
        refine (HG2.out _).mono ?_
        rintro e w4 ⟨rfl, rfl⟩
        go_wp2_with fail
        go_meet
        case rel => exact HQ.out
      · have HO : Hid (oneD getSize 2 0 b.data.toList = none) := by
          show _ = _
          rw [oneD_num (by omega), show wd 2 0 = 1 from rfl, if_neg (by omega)]
        have HG2 : Hid (∀ w, Calls Tryz.prog 52 #[.string b, .int .i64 1] w fun e w' => e = .returned (.tuple #[.int .u64 0, .bool false]) ∧ w' = w) := fun w => by
          have h := HG.out w
          rw [if_pos (by omega), decide_eq_false hsz] at h
          exact h
        have HQ : Hid (D6At getSize 2 0 b.data.toList w (.int .i64 1) (.bool false) ((w.alloc (.cells #[.int .i64 2, .int .i64 0] 70)).alloc (.cells #[.int .i64 2, .int .u64 0, .string ⟨#[]⟩] 64))) := D6At.none _ _ HO.out
        clear hok hok' HG HO HB0
        go_wp2_with fail
        refine (HG2.out _).mono ?_
        rintro e w4 ⟨rfl, rfl⟩
        go_wp2_with fail
        go_meet
        case rel => exact HQ.out
    · obtain ⟨N, rfl⟩ := Int.eq_ofNat_of_zero_le (show 0 ≤ n by omega)
      have hN : N ≤ 200 := by omega
      have HG : Hid (∀ w, Calls Tryz.prog 53 #[.string b, .bool true] w fun e w' => e = .returned (tripV (getSize b.data.toList)) ∧ Below w.heap.size w w') := fun w => l6GetCount_bc b w hb
      have HO3 : Hid (oneD getSize 3 (N : Int) b.data.toList = if (getSize b.data.toList).2.2 = true ∧ (getSize b.data.toList).1 ≤ N ∧ (getSize b.data.toList).2.1 + (getSize b.data.toList).1 ≤ b.size then some (⟨3, 0, ⟨((b.data.toList.drop (getSize b.data.toList).2.1).take (getSize b.data.toList).1).toArray⟩⟩, (getSize b.data.toList).2.1 + (getSize b.data.toList).1) else none) := by
        show _ = _
        unfold oneD
        rw [if_neg (by omega), if_pos rfl, hll]; rfl
      have HBC : Hid (∀ x h, getSize b.data.toList = (x, h, true) → h ≤ b.size ∧ x < 18446744073709551616) := fun x h hg => by
        have := cntGet_bc.back _ _ _ hg
        exact ⟨by rw [← hll]; exact this.2.1, this.2.2⟩
      obtain ⟨⟨m, h, o⟩, hg⟩ : ∃ g, getSize b.data.toList = g := ⟨_, rfl⟩
      rw [hg] at HG HO3 HBC
      unfold tripV at HG
      simp only at HG HO3
      clear hok hok' hg
      cases o with
      | false =>
        have HNN : Hid (scD getSize ts (f + 1) a b.data.toList = none) := HNO.out (by rw [HO3.out, if_neg (by simp)])
        go_wp2_with fail
        refine (HG.out _).mono ?_
        rintro e w4 ⟨rfl, hb4⟩
        have HB4 := d6_set (cs := #[]) (n := (N : Int)) hb4 1 (.int .u64 0)
        have t1 := (row_factsD HB4.1).1 1
        simp only [List.getElem?_toArray, List.getElem?_cons_succ, List.getElem?_cons_zero] at t1
        have HBW : Hid (Below w.heap.size w w4) := HB4.2.2.1
        clear hb4 HB4
        go_wp2_with fail
        go_ret3
        exact ⟨.inl ⟨HNN.out, rfl⟩, HBW.out⟩
      | true =>
        obtain ⟨hh, hm64⟩ := HBC.out m h rfl
        by_cases hmN : m ≤ N
        · by_cases hhm : h + m ≤ b.size
          · have HO : Hid (oneD getSize 3 (N : Int) b.data.toList = some (⟨3, 0, b.extract h (h + m)⟩, h + m)) := by
              show _ = _
              have e : (⟨((b.data.toList.drop h).take m).toArray⟩ : ByteArray) = b.extract h (h + m) := by
                apply ba_ext
                rw [Lib.extract_data, show h + m - h = m by omega]
              rw [HO3.out, if_pos ⟨rfl, hmN, hhm⟩, e]
            have i1 : decide ((N : Int) < (m : Int)) = false := by simp; omega
            have i2 : decide ((b.size : Int) < (h : Int) + (m : Int)) = false := by simp; omega
            have HHM : Hid (((h + m : Nat) : Int) = (h : Int) + (m : Int)) := by show _ = _; omega
            go_wp2_with fail
            refine (HG.out _).mono ?_
            rintro e w4 ⟨rfl, hb4⟩
            have HB4 := d6_set (cs := #[]) (n := (N : Int)) hb4 2 (.string (b.extract h (h + m)))
            have HPT : Hid ((w4.setCell ⟨w.heap.size + 1, 2, none⟩ (.string (b.extract h (h + m)))).heap[w.heap.size + 1]? = some (.cells #[.int .i64 3, .int .u64 0, .string (b.extract h (h + m))] 64 (0, 0))) := (d6_put (x := ⟨3, 0, b.extract h (h + m)⟩) hb4).2 rfl
            have t1 := (row_factsD HB4.1).1 1
            have t2 := (row_factsD HB4.2.1).1 2
            have z2 := (row_factsD HB4.2.1).2 2
            simp only [List.getElem?_toArray, List.getElem?_cons_succ, List.getElem?_cons_zero] at t1 t2
            have HQ : Hid (D6At getSize 3 (N : Int) b.data.toList w (.int .i64 ((h : Int) + (m : Int))) (.bool true) (w4.setCell ⟨w.heap.size + 1, 2, none⟩ (.string (b.extract h (h + m))))) := by
              have q := D6At.keep HB4.2.2.2.2.2 HB4.2.2.2.1 HO.out HPT.out
              rw [HHM.out] at q
              exact q
            clear hb4 HB4
            go_wp2_with fail
            go_meet
            case rel => exact HQ.out
          · have HNN : Hid (scD getSize ts (f + 1) a b.data.toList = none) := HNO.out (by rw [HO3.out, if_neg (by intro hc; omega)])
            have i1 : decide ((N : Int) < (m : Int)) = false := by simp; omega
            have i2 : decide ((b.size : Int) < (h : Int) + (m : Int)) = true := by simp; omega
            go_wp2_with fail
            refine (HG.out _).mono ?_
            rintro e w4 ⟨rfl, hb4⟩
            have HB4 := d6_set (cs := #[]) (n := (N : Int)) hb4 1 (.int .u64 0)
            have t1 := (row_factsD HB4.1).1 1
            simp only [List.getElem?_toArray, List.getElem?_cons_succ, List.getElem?_cons_zero] at t1
            have HBW : Hid (Below w.heap.size w w4) := HB4.2.2.1
            clear hb4 HB4
            go_wp2_with fail
            go_ret3
            exact ⟨.inl ⟨HNN.out, rfl⟩, HBW.out⟩
        · have HNN : Hid (scD getSize ts (f + 1) a b.data.toList = none) := HNO.out (by rw [HO3.out, if_neg (by intro hc; omega)])
          have i1 : decide ((N : Int) < (m : Int)) = true := by simp; omega
          go_wp2_with fail
          refine (HG.out _).mono ?_
          rintro e w4 ⟨rfl, hb4⟩
          have HB4 := d6_set (cs := #[]) (n := (N : Int)) hb4 1 (.int .u64 0)
          have t1 := (row_factsD HB4.1).1 1
          simp only [List.getElem?_toArray, List.getElem?_cons_succ, List.getElem?_cons_zero] at t1
          have HBW : Hid (Below w.heap.size w w4) := HB4.2.2.1
          clear hb4 HB4
          go_wp2_with fail
          go_ret3
          exact ⟨.inl ⟨HNN.out, rfl⟩, HBW.out⟩
    · obtain ⟨N, rfl⟩ := Int.eq_ofNat_of_zero_le (show 0 ≤ n by omega)
      have hN : N ≤ 200 := by omega
      by_cases hsz : N ≤ b.size
      · have HO : Hid (oneD getSize 4 (N : Int) b.data.toList = some (⟨4, 0, b.extract 0 N⟩, N)) := by
          show _ = _
          unfold oneD
          rw [if_neg (by omega), if_neg (by omega), if_pos rfl, hll, if_pos (by simpa using hsz)]
          simp only [Int.toNat_natCast, ex_head]
        have i1 : decide ((b.size : Int) < (N : Int)) = false := by simp; omega
        have HQ : Hid (D6At getSize 4 (N : Int) b.data.toList w (.int .i64 (N : Nat)) (.bool true) ((w.alloc (.cells #[.int .i64 4, .int .i64 (N : Int)] 70)).alloc (.cells #[.int .i64 4, .int .u64 0, .string (b.extract 0 N)] 64))) := D6At.fresh HO.out
        clear hok hok' HB0
        go_wp2_with fail
        go_meet
        case rel => exact HQ.out
      · have HNN : Hid (scD getSize ts (f + 1) a b.data.toList = none) := HNO.out (by
          unfold oneD
          rw [if_neg (by omega), if_neg (by omega), if_pos rfl, hll, if_neg (by simpa using hsz)])
        have i1 : decide ((b.size : Int) < (N : Int)) = true := by simp; omega
        have HBW : Hid (Below w.heap.size w (d6W w 4 (N : Int))) := (d6_boxes w 4 (N : Int)).2.2.2
        clear hok hok' HB0
        go_wp2_with fail
        go_ret3
        exact ⟨.inl ⟨HNN.out, rfl⟩, HBW.out⟩
    · obtain ⟨N, rfl⟩ := Int.eq_ofNat_of_zero_le (show 0 ≤ n by omega)
      have HG : Hid (∀ w, Calls Tryz.prog 53 #[.string b, .bool true] w fun e w' => e = .returned (tripV (getSize b.data.toList)) ∧ Below w.heap.size w w') := fun w => l6GetCount_bc b w hb
      have HO5 : Hid (oneD getSize 5 (N : Int) b.data.toList = if (getSize b.data.toList).2.2 = true then some (⟨5, (getSize b.data.toList).1, ⟨#[]⟩⟩, (getSize b.data.toList).2.1) else none) := by
        show _ = _
        unfold oneD
        rw [if_neg (by omega), if_neg (by omega), if_neg (by omega), if_pos rfl]
      obtain ⟨⟨m, h, o⟩, hg⟩ : ∃ g, getSize b.data.toList = g := ⟨_, rfl⟩
      rw [hg] at HG HO5
      unfold tripV at HG
      simp only at HG HO5
      clear hok hok' hg
      go_wp2_with fail
      refine (HG.out _).mono ?_
      rintro e w4 ⟨rfl, hb4⟩
      have HB4 := d6_set (cs := #[]) (n := (N : Int)) hb4 1 (.int .u64 (m : Nat))
      have HPT : Hid ((w4.setCell ⟨w.heap.size + 1, 1, none⟩ (.int .u64 (m : Nat))).heap[w.heap.size + 1]? = some (.cells #[.int .i64 5, .int .u64 (m : Nat), .string ⟨#[]⟩] 64 (0, 0))) := (d6_put (x := ⟨5, m, ⟨#[]⟩⟩) hb4).1 rfl
      have t1 := (row_factsD HB4.2.1).1 1
      have z1 := (row_factsD HB4.2.1).2 1
      simp only [List.getElem?_toArray, List.getElem?_cons_succ, List.getElem?_cons_zero] at t1
      have HQ : Hid (D6At getSize 5 (N : Int) b.data.toList w (.int .i64 (h : Nat)) (.bool o) (w4.setCell ⟨w.heap.size + 1, 1, none⟩ (.int .u64 (m : Nat)))) := by
        cases o with
        | false => exact ⟨HB4.2.2.2.2.2, HB4.2.2.2.1, .inl ⟨rfl, ⟨_, rfl⟩, by rw [HO5.out, if_neg (by simp)]⟩⟩
        | true => exact D6At.keep (x := ⟨5, m, ⟨#[]⟩⟩) HB4.2.2.2.2.2 HB4.2.2.2.1 (by rw [HO5.out, if_pos rfl]) HPT.out
      clear hb4 HB4
      go_wp2_with fail
      go_meet
      case rel => exact HQ.out
    · obtain ⟨N, rfl⟩ := Int.eq_ofNat_of_zero_le (show 0 ≤ n by omega)
      have hN : N ≤ 200 := by omega
      have HO : Hid (oneD getSize 6 (N : Int) b.data.toList = some (⟨6, N, ⟨#[]⟩⟩, 0)) := by
        show _ = _
        unfold oneD
        rw [if_neg (by omega), if_neg (by omega), if_neg (by omega), if_neg (by omega)]
        simp
      have HQ : Hid (D6At getSize 6 (N : Int) b.data.toList w (.int .i64 0) (.bool true) ((w.alloc (.cells #[.int .i64 6, .int .i64 (N : Int)] 70)).alloc (.cells #[.int .i64 6, .int .u64 (N : Nat), .string ⟨#[]⟩] 64))) := D6At.fresh HO.out
      clear hok hok' HB0
      go_wp2_with fail
      go_meet
      case rel => exact HQ.out
    · obtain ⟨N, rfl⟩ := Int.eq_ofNat_of_zero_le (show 0 ≤ n by omega)
      have hN : N ≤ 200 := by omega
      have HO : Hid (oneD getSize 7 (N : Int) b.data.toList = some (⟨7, N, ⟨#[]⟩⟩, 0)) := by
        show _ = _
        unfold oneD
        rw [if_neg (by omega), if_neg (by omega), if_neg (by omega), if_neg (by omega)]
        simp
      have HQ : Hid (D6At getSize 7 (N : Int) b.data.toList w (.int .i64 0) (.bool true) ((w.alloc (.cells #[.int .i64 7, .int .i64 (N : Int)] 70)).alloc (.cells #[.int .i64 7, .int .u64 (N : Nat), .string ⟨#[]⟩] 64))) := D6At.fresh HO.out
      clear hok hok' HB0
      go_wp2_with fail
      go_meet
      case rel => exact HQ.out
    · obtain rfl : n = 0 := by omega
      have HG : Hid (∀ w, Calls Tryz.prog 52 #[.string b, .int .i64 1] w fun e w' => e = .returned (.tuple #[.int .u64 (if b.size < 1 then 0 else leV (b.data.toList.take 1) : Nat), .bool (decide (1 ≤ b.size))]) ∧ w' = w) := fun w => specGetLe_any b 1 w (by omega) (by omega) (by unfold maxLen; omega)
      by_cases hsz : 1 ≤ b.size
      · have HO : Hid (oneD getSize 8 0 b.data.toList = some (⟨8, leV (b.data.toList.take 1), ⟨#[]⟩⟩, 1)) := by
          show _ = _
          rw [oneD_num (by omega), show wd 8 0 = 1 from rfl, if_pos (by omega)]
        have HG2 : Hid (∀ w, Calls Tryz.prog 52 #[.string b, .int .i64 1] w fun e w' => e = .returned (.tuple #[.int .u64 (leV (b.data.toList.take 1) : Nat), .bool true]) ∧ w' = w) := fun w => by
          have h := HG.out w
          rw [if_neg (by omega), decide_eq_true hsz] at h
          exact h
        generalize leV (b.data.toList.take 1) = m at HG2 HO
        have HQ : Hid (D6At getSize 8 0 b.data.toList w (.int .i64 1) (.bool true) ((w.alloc (.cells #[.int .i64 8, .int .i64 0] 70)).alloc (.cells #[.int .i64 8, .int .u64 (m : Nat), .string ⟨#[]⟩] 64))) := D6At.fresh HO.out
        clear hok hok' HG HO HB0
        go_wp2_with fail
        refine (HG2.out _).mono ?_
        rintro e w4 ⟨rfl, rfl⟩
        go_wp2_with fail
        go_meet
        case rel => exact HQ.out
      · have HO : Hid (oneD getSize 8 0 b.data.toList = none) := by
          show _ = _
          rw [oneD_num (by omega), show wd 8 0 = 1 from rfl, if_neg (by omega)]
        have HG2 : Hid (∀ w, Calls Tryz.prog 52 #[.string b, .int .i64 1] w fun e w' => e = .returned (.tuple #[.int .u64 0, .bool false]) ∧ w' = w) := fun w => by
          have h := HG.out w
          rw [if_pos (by omega), decide_eq_false hsz] at h
          exact h
        have HQ : Hid (D6At getSize 8 0 b.data.toList w (.int .i64 1) (.bool false) ((w.alloc (.cells #[.int .i64 8, .int .i64 0] 70)).alloc (.cells #[.int .i64 8, .int .u64 0, .string ⟨#[]⟩] 64))) := D6At.none _ _ HO.out
        clear hok hok' HG HO HB0
        go_wp2_with fail
        refine (HG2.out _).mono ?_
        rintro e w4 ⟨rfl, rfl⟩
        go_wp2_with fail
        go_meet
        case rel => exact HQ.out
    · obtain ⟨N, rfl⟩ := Int.eq_ofNat_of_zero_le (show 0 ≤ n by omega)
      have HG : Hid (∀ w, Calls Tryz.prog 52 #[.string b, .int .i64 1] w fun e w' => e = .returned (.tuple #[.int .u64 (if b.size < 1 then 0 else leV (b.data.toList.take 1) : Nat), .bool (decide (1 ≤ b.size))]) ∧ w' = w) := fun w => specGetLe_any b 1 w (by omega) (by omega) (by unfold maxLen; omega)
      by_cases hsz : 1 ≤ b.size
      · have HO : Hid (oneD getSize 9 (N : Int) b.data.toList = some (⟨9, leV (b.data.toList.take 1), ⟨#[]⟩⟩, 1)) := by
          show _ = _
          rw [oneD_num (by omega), show wd 9 (N : Int) = 1 from rfl, if_pos (by omega)]
        have HG2 : Hid (∀ w, Calls Tryz.prog 52 #[.string b, .int .i64 1] w fun e w' => e = .returned (.tuple #[.int .u64 (leV (b.data.toList.take 1) : Nat), .bool true]) ∧ w' = w) := fun w => by
          have h := HG.out w
          rw [if_neg (by omega), decide_eq_true hsz] at h
          exact h
        generalize leV (b.data.toList.take 1) = m at HG2 HO
        have HQ : Hid (D6At getSize 9 (N : Int) b.data.toList w (.int .i64 1) (.bool true) ((w.alloc (.cells #[.int .i64 9, .int .i64 (N : Int)] 70)).alloc (.cells #[.int .i64 9, .int .u64 (m : Nat), .string ⟨#[]⟩] 64))) := D6At.fresh HO.out
        clear hok hok' HG HO HB0
        go_wp2_with fail
        refine (HG2.out _).mono ?_
        rintro e w4 ⟨rfl, rfl⟩
        go_wp2_with fail
        go_meet
        case rel => exact HQ.out
      · have HO : Hid (oneD getSize 9 (N : Int) b.data.toList = none) := by
          show _ = _
          rw [oneD_num (by omega), show wd 9 (N : Int) = 1 from rfl, if_neg (by omega)]
        have HG2 : Hid (∀ w, Calls Tryz.prog 52 #[.string b, .int .i64 1] w fun e w' => e = .returned (.tuple #[.int .u64 0, .bool false]) ∧ w' = w) := fun w => by
          have h := HG.out w
          rw [if_pos (by omega), decide_eq_false hsz] at h
          exact h
        have HQ : Hid (D6At getSize 9 (N : Int) b.data.toList w (.int .i64 1) (.bool false) ((w.alloc (.cells #[.int .i64 9, .int .i64 (N : Int)] 70)).alloc (.cells #[.int .i64 9, .int .u64 0, .string ⟨#[]⟩] 64))) := D6At.none _ _ HO.out
        clear hok hok' HG HO HB0
        go_wp2_with fail
        refine (HG2.out _).mono ?_
        rintro e w4 ⟨rfl, rfl⟩
        go_wp2_with fail
        go_meet
        case rel => exact HQ.out
  case rest =>
    obtain ⟨hbc, hN1, ⟨rfl, ⟨zn, rfl⟩, hno⟩ | ⟨x, h, rfl, rfl, hone, hN2⟩⟩ := hcut
    · have HNN : Hid (scD getSize ts (f + 1) a b.data.toList = none) := HNO.out hno
      have HBW : Hid (Below w.heap.size w wc) := hbc
      clear hbc hN1 hno c0 c1 hok
      go_wp2_with fail
      go_ret3
      exact ⟨.inl ⟨HNN.out, rfl⟩, HBW.out⟩
    · obtain ⟨hhb, hxn, hxk, hxs⟩ := HBK.out x h hone
      have HF : Hid (∀ w, Calls Tryz.prog 54 #[.agg #[.int .i64 k, .int .i64 n], .agg #[.int .i64 k, .int .u64 x.n, .string x.s]] w fun e w' => e = .returned (.bool (fitsI k n x)) ∧ Below w.heap.size w w') := fun w => by
        have := l3Fits_any k n x w hok hxn (by omega)
        rwa [hxk] at this
      have t0 := (row_factsD hN1).1 0
      have t1 := (row_factsD hN1).1 1
      have g0 := (row_factsD hN2).1 0
      have g1 := (row_factsD hN2).1 1
      have g2 := (row_factsD hN2).1 2
      simp only [List.getElem?_toArray, List.getElem?_cons_succ, List.getElem?_cons_zero] at t0 t1 g0 g1 g2
      have HBW : Hid (Below w.heap.size w wc) := hbc
      have HN2 : Hid (wc.heap[w.heap.size + 1]? = some (.cells #[.int .i64 k, .int .u64 x.n, .string x.s] 64 (0, 0))) := hN2
      have hk9 : 1 ≤ k ∧ k ≤ 9 := by simp only [tyOk, decide_eq_true_eq] at hok; omega
      have HN2L : Hid (w.heap.size + 1 < wc.heap.size) := blk_lt hN2
      cases hfi : fitsI k n x with
      | false =>
        rw [hfi] at HF
        have HNN : Hid (scD getSize ts (f + 1) a b.data.toList = none) := HBAD.out x h hone hfi
        clear hbc hN1 hN2 hone c0 c1 hok hfi
        go_wp2_with fail
        refine (HF.out _).mono ?_
        rintro e w5 ⟨rfl, hb5⟩
        have HB5 : Hid (Below w.heap.size w w5) := HBW.out.trans (hb5.mono HBW.out.size)
        clear hb5 t0 t1 g0 g1 g2
        go_wp2_with fail
        go_ret3
        exact ⟨.inl ⟨HNN.out, rfl⟩, HB5.out⟩
      | true =>
        rw [hfi] at HF
        have hfn : fitsN k n x.n = true := by simp [fitsI] at hfi; exact hfi.2.1
        have HSD : Hid (scD getSize ts (f + 1) a b.data.toList = (partsD (scD getSize ts f) (pl ts f a k x.n) b.data.toList h (np k x.n)).map fun y => (x :: y.1.flatten, y.2)) := HONE.out x h hone hfi
        have HPL2 : Hid (∀ j, j < np k x.n → ∃ e', en ts f (pl ts f a k x.n j) = some e') := HPL.out x.n hfn
        have hnp : np k x.n ≤ 20 := HNP.out x.n hfn
        have HFN : Hid (fitsN k n x.n = true) := hfn
        have HMANY : Hid (∀ j m ls, j ≤ np k x.n → partsD (scD getSize ts f) (pl ts f a k x.n) b.data.toList h j = some (ls, m) → ls.flatten.length ≤ j * 21 ^ f) := fun j m ls hj hpd => partsD_many (n := np k x.n) (fun i c l m hi hd => by
          obtain ⟨e', he'⟩ := HPL2.out i hi
          exact (scD_many he' hd).2) hj hpd
        have HLE : Hid (∀ j m ls, j ≤ np k x.n → partsD (scD getSize ts f) (pl ts f a k x.n) b.data.toList h j = some (ls, m) → m ≤ b.size) := fun j m ls hj hpd => by
          have key : ∀ j m ls, j ≤ np k x.n → partsD (scD getSize ts f) (pl ts f a k x.n) b.data.toList h j = some (ls, m) → m ≤ b.data.toList.length := by
            intro j
            induction j with
            | zero => intro m ls _ hpd; simp only [partsD, Option.some.injEq, Prod.mk.injEq] at hpd; rw [hll]; omega
            | succ j ih =>
              intro m ls hj hpd
              rw [partsD_succ] at hpd
              obtain ⟨⟨ls1, m1⟩, q1, q2⟩ := Option.bind_eq_some_iff.1 hpd
              obtain ⟨⟨l2, m2⟩, q3, q4⟩ := Option.map_eq_some_iff.1 q2
              simp only [Prod.mk.injEq] at q4
              have h1 := ih m1 ls1 (by omega) q1
              obtain ⟨e', he'⟩ := HPL2.out j (by omega)
              have h2 := (scD_back cntGet_bc he' q3).1
              rw [List.length_drop] at h2
              omega
          have := key j m ls hj hpd
          rwa [hll] at this
        have hp21 : 20 * 21 ^ f ≤ 1801088540 := by
          have : 21 ^ f ≤ 21 ^ 6 := Nat.pow_le_pow_right (by decide) (by omega)
          omega
        obtain ⟨L21, hL21⟩ : ∃ L, 21 ^ f = L := ⟨_, rfl⟩
        have HM1 : Hid (∀ pj c l m e', en ts f pj = some e' → scD getSize ts f pj c = some (l, m) → 0 < l.length ∧ l.length ≤ L21) := fun pj c l m e' he' hd => by have := scD_many he' hd; rw [hL21] at this; exact ⟨by omega, this.2⟩
        rw [hL21] at HMANY hp21
        have HWX : Hid (inI x.k ∧ x.n < 18446744073709551616) := ⟨⟨by rw [hxk]; omega, by rw [hxk]; omega⟩, hxn⟩
        obtain ⟨i0, hi, hz0, hz1, hz2⟩ := info_parts Tryz.infoItem
        clear hbc hN1 hN2 hone c0 c1 hok hfi hfn HPL HNP HONE HBAD HNO HBK hL21
        go_wp2_with fail
        refine (HF.out _).mono ?_
        rintro e w5 ⟨rfl, hb5⟩
        have HB5 : Hid (Below w.heap.size w w5) := HBW.out.trans (hb5.mono HBW.out.size)
        have HN5 : Hid (w5.heap[w.heap.size + 1]? = some (.cells #[.int .i64 k, .int .u64 x.n, .string x.s] 64 (0, 0))) := (hb5.block _ HN2L.out).trans HN2.out
        have hlt5 : w.heap.size + 1 < w5.heap.size := by have := hb5.size; have := HN2L.out; omega
        clear hb5 t0 t1 g0 g1 g2
        have g0 := (row_factsD HN5.out).1 0
        have g1 := (row_factsD HN5.out).1 1
        have g2 := (row_factsD HN5.out).1 2
        simp only [List.getElem?_toArray, List.getElem?_cons_succ, List.getElem?_cons_zero] at g0 g1 g2
        have g0' := cell_alD (o := .cells #[.int .i64 k, .int .u64 (x.n : Int), .string x.s] 64) g0
        have g1' := cell_alD (o := .cells #[.int .i64 k, .int .u64 (x.n : Int), .string x.s] 64) g1
        have g2' := cell_alD (o := .cells #[.int .i64 k, .int .u64 (x.n : Int), .string x.s] 64) g2
        have HB6 : Hid (Below w.heap.size w (w5.alloc (.cells #[.int .i64 k, .int .u64 (x.n : Int), .string x.s] 64))) := HB5.out.alloc HB5.out.size _
        have HO1 : Hid (OwnIt w.heap.size (w5.alloc (.cells #[.int .i64 k, .int .u64 (x.n : Int), .string x.s] 64)) (.slice (some ⟨w5.heap.size, 0, none⟩) 1 1) [x]) := by
          have h1 := World.ownsRow_lit (base := w5.heap.size) (e := 64) (size := 3) w5 #[.int .i64 k, .int .u64 (x.n : Int), .string x.s] 1 (Nat.le_refl _) (by decide) rfl
          have h2 := own_b h1 HB5.out.size
          rw [← hxk] at h2 ⊢
          exact h2
        have HPC : Hid (Calls Tryz.prog 42 #[.slice (some ⟨bt', o, none⟩) ts.length capT, .int .i64 a, .agg #[.int .i64 k, .int .u64 (x.n : Int), .string x.s]] (w5.alloc (.cells #[.int .i64 k, .int .u64 (x.n : Int), .string x.s] 64)) fun e w'' => PlPost ts f a k x.n (w5.alloc (.cells #[.int .i64 k, .int .u64 (x.n : Int), .string x.s] 64)) e w'') := by
          have h1 := HPN.out x _ HB6.out HFN.out
          rw [hxk] at h1
          exact h1
        obtain ⟨N, hN⟩ : ∃ N, np k x.n = N := ⟨_, rfl⟩
        have HNE : Hid (np k x.n = N) := hN
        rw [hN] at hnp
        clear hN HPN
        go_wp2_with fail
        refine Calls.mono HPC.out ?_
        rintro e w7 ⟨vp, rfl, hown, hb7⟩
        have HB7 : Hid (Below w.heap.size w w7) := HB6.out.trans (hb7.mono HB6.out.size)
        have HO7 : Hid (OwnIt w.heap.size w7 (.slice (some ⟨w5.heap.size, 0, none⟩) 1 1) [x]) := HO1.out.kept hb7
        have HPR : Hid (∃ ad cp, vp = .slice ad N cp ∧ N ≤ cp ∧ cp ≤ maxLen ∧ (N = 0 ∨ ∃ g, ad = some ⟨g, 0, none⟩ ∧ w5.heap.size < g ∧ g < w7.heap.size ∧ ∀ i, i < N → w7.cell? ⟨g, i, none⟩ = some (.int .i64 (pl ts f a k x.n i : Nat)))) := by
          have hlt := hown.lt
          have h2 := hown.2
          rw [HNE.out] at h2
          rcases h2 with ⟨hv, h0⟩ | ⟨g, cp, cur, hv, hg, _, h1, h2, _, _⟩
          · exact ⟨none, 0, by rw [hv, h0], by omega, by simp [maxLen], .inl h0⟩
          · refine ⟨_, cp, hv, h1, h2, .inr ⟨g, rfl, by simp at hg; omega, ?_, fun i hi => ?_⟩⟩
            · exact (hlt g (by rw [hv]; rfl)).2
            · rw [hv] at hown
              rw [← HNE.out] at hown hi
              exact row_atD hown hi
        have hs7 : w5.heap.size < w7.heap.size := by have := hb7.size; simp at this; omega
        obtain ⟨ad, cp, rfl, hcp1, hcp2, hcells⟩ := HPR.out
        have HCL : Hid (N = 0 ∨ ∃ g, ad = some ⟨g, 0, none⟩ ∧ w5.heap.size < g ∧ g < w7.heap.size ∧ ∀ i, i < N → w7.cell? ⟨g, i, none⟩ = some (.int .i64 (pl ts f a k x.n i : Nat))) := hcells
        unfold maxLen at hcp2
        clear hown hb7 HPR hcells HPC g0 g1 g2 g0' g1' g2' hxs
        rw [HNE.out] at HMANY HLE HPL2 HSD
        obtain ⟨ps, hps⟩ : ∃ ps, pl ts f a k x.n = ps := ⟨_, rfl⟩
        rw [hps] at HMANY HLE HPL2 HSD HCL
        clear hps HNE
        go_wp2_with fail
        go_loopg [13, 18, 20] N (fun gk nv u i wr => ∃ (j m : Nat) (ls : List (List It)), j + gk = N ∧ i = .int .i64 j ∧ nv = .int .i64 (m : Nat) ∧ partsD (scD getSize ts f) ps b.data.toList h j = some (ls, m) ∧ OwnIt w.heap.size wr u (x :: ls.flatten) ∧ Below w.heap.size w wr ∧ w7.heap.size ≤ wr.heap.size ∧ (∀ q, w5.heap.size < q → q < w7.heap.size → wr.heap[q]? = w7.heap[q]? ∧ some q ≠ u.ownBlock))
        case atStart => exact ⟨0, h, [], by omega, rfl, rfl, rfl, HO7.out, HB7.out, Nat.le_refl _, fun q h1 h2 => ⟨rfl, fun e => absurd (show q = w5.heap.size by simpa [Value.ownBlock] using e) (by omega)⟩⟩
        case round =>
          obtain ⟨j, m, ls, hj', rfl, rfl, hpd, hown, hbw, hg7, hkeep⟩ := hrel
          have HJ : Hid (j + gk = N) := hj'
          have hj : j ≤ N := by omega
          have hmb : m ≤ b.size := HLE.out j m ls hj hpd
          have hlen0 := HMANY.out j m ls hj hpd
          have hjL : j * L21 ≤ 20 * L21 := Nat.mul_le_mul_right _ (by omega)
          obtain ⟨vs, hvs⟩ : ∃ vs, x :: ls.flatten = vs := ⟨_, rfl⟩
          have HVS : Hid (x :: ls.flatten = vs) := hvs
          have hvl : vs.length ≤ 1801088541 := by rw [← hvs, List.length_cons]; omega
          have hv0 : 0 < vs.length := by rw [← hvs, List.length_cons]; omega
          rw [hvs] at hown
          have HOv : Hid (OwnIt w.heap.size wr u18 vs) := hown
          have HPD : Hid (partsD (scD getSize ts f) ps b.data.toList h j = some (ls, m)) := hpd
          have HBr : Hid (Below w.heap.size w wr) := hbw
          have HKP : Hid (∀ q, w5.heap.size < q → q < w7.heap.size → wr.heap[q]? = w7.heap[q]? ∧ some q ≠ u18.ownBlock) := hkeep
          have hsr : w.heap.size ≤ wr.heap.size := hbw.size
          obtain ⟨adu, capu, rfl, hu1, hu2, hu3⟩ := hown.form
          unfold maxLen at hu2
          clear hj' hown hbw hkeep hu3 hpd hlen0 hjL hvs
          by_cases hjN : j < N
          · obtain ⟨g, rfl, hgw, hgl, hc⟩ := HCL.out.resolve_left (by omega)
            have cj : wr.cell? ⟨g, j, none⟩ = some (.int .i64 (ps j : Nat)) := (World.cell?_of_block (w := w7) (a := ⟨g, j, none⟩) (HKP.out g hgw hgl).1).trans (hc j hjN)
            have hgr : g < wr.heap.size := by omega
            obtain ⟨e', he'⟩ := HPL2.out j hjN
            have hpj : ps j ≤ 1048577 := by have := en_lt he'; omega
            have hRs : (b.extract m b.size).size ≤ 1048576 := by rw [ex_sz]; omega
            have HEXL : Hid ((b.extract m b.size).data.toList = b.data.toList.drop m) := ex_list b m
            have HC0 : Hid (∀ w', Below wr.heap.size wr w' → Calls Tryz.prog 30 #[.slice (some ⟨bt', o, none⟩) ts.length capT, .int .i64 (ps j : Nat), .string (b.extract m b.size), .bool true] w' fun e w'' => D6Post getSize ts f (ps j) (b.extract m b.size) w' e w'') := fun w' hb' => HP.out _ e' _ _ w' (by omega) he' ((HT.out.below (HBr.out.trans (hb'.mono hsr))).up (by have := hb'.size; omega)) hRs
            have HM2 : Hid (∀ l q, scD getSize ts f (ps j) (b.data.toList.drop m) = some (l, q) → 0 < l.length ∧ l.length ≤ L21) := fun l q hd => HM1.out _ _ l q e' he' hd
            have HPSJ : Hid (∀ (r : Option (List It × Nat)), scD getSize ts f (ps j) (b.data.toList.drop m) = r → partsD (scD getSize ts f) ps b.data.toList h (j + 1) = (r.map fun y => (ls ++ [y.1], m + y.2))) := fun r hr => by rw [partsD_succ, HPD.out]; simp [hr]
            have HS0 : Hid (wr.cell? ⟨g, j, none⟩ = some (.int .i64 (ps j : Nat))) := cj
            cases hsc : scD getSize ts f (ps j) (b.data.toList.drop m) with
            | none =>
              have HC : Hid (∀ w', Below wr.heap.size wr w' → Calls Tryz.prog 30 #[.slice (some ⟨bt', o, none⟩) ts.length capT, .int .i64 (ps j : Nat), .string (b.extract m b.size), .bool true] w' fun e w'' => e = .returned (.tuple #[.slice none 0 0, .int .i64 0, .bool false]) ∧ Below w'.heap.size w' w'') := fun w' hb' => (HC0.out w' hb').mono (by
                rintro e w'' ⟨⟨_, rfl⟩ | ⟨l, q, v, hd, _⟩, hb2⟩
                · exact ⟨rfl, hb2⟩
                · rw [HEXL.out, hsc] at hd; cases hd)
              have HNN : Hid (scD getSize ts (f + 1) a b.data.toList = none) := by
                show _ = _
                rw [HSD.out, partsD_none (j := j + 1) (HPSJ.out none hsc) N (by omega)]; rfl
              clear hc he' hsc HC0 HM2
              generalize ps j = pj at cj HC hpj HS0
              go_wp2_with fail
              go_region_held3 (fun W => W.cell? ⟨g, j, none⟩ = some (.int .i64 (pj : Nat))) (first | exact HS0.out | exact HS3.out) (first
                | (go_at_call 30; refine (HC.out _ (Below.drew (Below.refl _ _))).mono ?_; rintro e w3 ⟨rfl, hb3⟩; have HB3 : Hid (Below wr.heap.size wr w3) := (Below.drew (Below.refl _ _)).trans hb3; have HS3 : Hid _ := (HB3.out.cell (p := ⟨g, j, none⟩) hgr).trans HS0.out; clear hb3))
              all_goals
                go_wp2_with fail
                go_ret3
                exact ⟨.inl ⟨HNN.out, rfl⟩, HBr.out.trans (HB3.out.mono hsr)⟩
            | some lq =>
              obtain ⟨l, q⟩ := lq
              have HC : Hid (∀ w', Below wr.heap.size wr w' → Calls Tryz.prog 30 #[.slice (some ⟨bt', o, none⟩) ts.length capT, .int .i64 (ps j : Nat), .string (b.extract m b.size), .bool true] w' fun e w'' => (∃ v, e = .returned (.tuple #[v, .int .i64 (q : Nat), .bool true]) ∧ OwnIt w'.heap.size w'' v l) ∧ Below w'.heap.size w' w'') := fun w' hb' => (HC0.out w' hb').mono (by
                rintro e w'' ⟨⟨hd, _⟩ | ⟨l1, q1, v, hd, rfl, ho⟩, hb2⟩
                · rw [HEXL.out, hsc] at hd; cases hd
                · rw [HEXL.out, hsc] at hd
                  simp only [Option.some.injEq, Prod.mk.injEq] at hd
                  obtain ⟨rfl, rfl⟩ := hd
                  exact ⟨⟨v, rfl, ho⟩, hb2⟩)
              obtain ⟨hl8, hl21⟩ := HM2.out l q hsc
              have HPX : Hid (partsD (scD getSize ts f) ps b.data.toList h (j + 1) = some (ls ++ [l], m + q)) := HPSJ.out _ hsc
              have hmq : m + q ≤ b.size := HLE.out (j + 1) (m + q) (ls ++ [l]) (by omega) HPX.out
              clear hc he' hsc HC0 HM2
              generalize ps j = pj at cj HC hpj HS0
              go_wp2_with fail
              go_region_held3 (fun W => W.cell? ⟨g, j, none⟩ = some (.int .i64 (pj : Nat))) (first | exact HS0.out | exact HS3.out) (first
                | (go_at_call 30; refine (HC.out _ (Below.drew (Below.refl _ _))).mono ?_; rintro e w3 ⟨⟨v8, rfl, ho3⟩, hb3⟩; have HB3 : Hid (Below wr.heap.size wr w3) := (Below.drew (Below.refl _ _)).trans hb3; have HO3 : Hid (OwnIt wr.heap.size w3 v8 l) := own_b ho3 (by first | exact Nat.le_refl _ | simp); have HS3 : Hid _ := (HB3.out.cell (p := ⟨g, j, none⟩) hgr).trans HS0.out; clear hb3 ho3))
              all_goals
                obtain ⟨g8, cap8, rfl, hg8b, hg8l⟩ := World.ownsRow.form HO3.out hl8
                have HO8 : Hid (OwnIt w.heap.size w3 (.slice adu vs.length capu) vs) := HOv.out.kept HB3.out
                have HC8 : Hid (w3.ownsRow wr.heap.size 64 3 (.slice (some ⟨g8, 0, none⟩) l.length cap8) l.length (flatI l)) := HO3.out
                have HB8 : Hid (Below w.heap.size w w3) := HBr.out.trans (HB3.out.mono hsr)
                have HK8 : Hid (∀ q, w5.heap.size < q → q < w7.heap.size → w3.heap[q]? = w7.heap[q]? ∧ some q ≠ (Value.slice adu vs.length capu).ownBlock) := fun q h1 h2 => ⟨by rw [HB3.out.block q (by omega)]; exact (HKP.out q h1 h2).1, (HKP.out q h1 h2).2⟩
                have hs8 : wr.heap.size ≤ w3.heap.size := HB3.out.size
                have hsum : vs.length + l.length ≤ 3700000000 := by omega
                clear cj
                go_wp2_with (at_builtin; refine wpList_append_lies _ rfl _ _ 25 rfl w.heap.size 64 i0 (.agg #[.int .i64 0, .int .u64 0, .string ByteArray.empty]) 3 32 Tryz.underlying25 hi hz0 hz1 hz2 rfl (by decide) (.slice adu vs.length capu) vs.length (flatI vs) rfl HO8.out ⟨g8, 0, none⟩ l.length cap8 (flatI l) rfl (flatI_len l) (fun j u hu => HC8.out.cells (g := g8) rfl j u hu) (flatI_one _) hl8 (by unfold maxLen; omega) (by omega) (by omega) _ rfl ?_)
                intro g9 cap9 w9 hown9 hgrow hat hlt9
                have hou : ∀ q, (Value.slice adu vs.length capu).ownBlock = some q → w.heap.size ≤ q := fun q hq => (World.ownsRow.lt HO8.out q hq).1
                have R1 : Below w.heap.size w w9 := HB8.out.grown hgrow HB8.out.size hou
                have R3 : OwnIt w.heap.size w9 (.slice (some ⟨g9, 0, none⟩) (vs.length + l.length) cap9) (x :: (ls ++ [l]).flatten) := by
                  have e1 : x :: (ls ++ [l]).flatten = vs ++ l := by rw [← HVS.out]; simp
                  rw [e1]
                  unfold OwnIt; rw [flatI_app, List.length_append]; exact hown9
                have R4 : ∀ q, w5.heap.size < q → q < w7.heap.size → w9.heap[q]? = w7.heap[q]? ∧ some q ≠ (Value.slice (some ⟨g9, 0, none⟩) (vs.length + l.length) cap9).ownBlock := fun q h1 h2 => by
                  have h3 := HK8.out q h1 h2
                  refine ⟨by rw [hgrow.block q (by omega) h3.2]; exact h3.1, fun e => ?_⟩
                  have e' : q = g9 := by simpa [Value.ownBlock] using e
                  rcases hat with h | h
                  · exact h3.2 (by rw [e', h])
                  · omega
                have R5 : w7.heap.size ≤ w9.heap.size := by have := hgrow.size; omega
                have HX : Hid (OwnIt w.heap.size w9 (.slice (some ⟨g9, 0, none⟩) (vs.length + l.length) cap9) (x :: (ls ++ [l]).flatten) ∧ Below w.heap.size w w9 ∧ w7.heap.size ≤ w9.heap.size ∧ ∀ q, w5.heap.size < q → q < w7.heap.size → w9.heap[q]? = w7.heap[q]? ∧ some q ≠ (Value.slice (some ⟨g9, 0, none⟩) (vs.length + l.length) cap9).ownBlock) := ⟨R3, R1, R5, R4⟩
                clear R1 R3 R4 R5 hown9 hgrow hat hlt9
                go_wp2_with fail
                go_roundg (gk - 1)
                case rel => exact ⟨j + 1, m + q, ls ++ [l], by have := HJ.out; omega, by go_num, by go_num, HPX.out, HX.out⟩
                case measure => have := HJ.out; omega
          · have e1 : j = N := by omega
            have HFIN : Hid (scD getSize ts (f + 1) a b.data.toList = some (vs, m)) := by
              show _ = _
              rw [HSD.out, ← e1, HPD.out, ← HVS.out]; rfl
            go_wp2_with fail
            go_ret3
            exact ⟨.inr ⟨vs, m, _, HFIN.out, rfl, HOv.out⟩, HBr.out⟩
theorem l6Dec_bc (ts : List (Int × Int)) : ∀ f, D6Hyp_bc ts f := by
  intro f
  induction f with
  | zero => intro a e0 vt b w _ h; cases h
  | succ f ih =>
    intro a e0 vt b w hf7 he hT hb
    obtain ⟨ha, hok, hit⟩ := en_inv he
    exact l6Dec_step_bc ts f ih a e0 vt b w hf7 hT hb ha hok hit
end Go.Proofs.YtichgnddbnibjaaGreatDoor
