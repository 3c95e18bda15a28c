/- The specification's reading of RLP: parts that the type tells. -/
import Derived.Test.YtdncnjmlicdamaaGreatDoorRDm
namespace Go.Proofs.YtdncnjmlicdamaaGreatDoor
open Go.RowKit Go.Sort
set_option linter.unusedVariables false
/-- Behind the switch: the type's box, the item's, what is left to read. -/
def D4At (ts : List (Int × Int)) (f a : Nat) (k n : Int) (B : ByteArray) (w : World) (X : Nat) (inv : Value) (wz : World) : Prop :=
  ∃ (m : Nat) (I : ByteArray), inv = .string I ∧ fitsN k n m = true ∧ I.size ≤ 1048576 ∧ rlB false k n (rlD false ts f) (pl ts f a k) true B.data.toList = (partsP (rlD false ts f) (pl ts f a k m) (np k m) 0 I.data.toList).map (fun ls => ⟨k, m, ⟨#[]⟩⟩ :: ls.flatten) ∧
    Below w.heap.size w wz ∧ wz.heap[w.heap.size]? = some (.cells #[.int .i64 k, .int .i64 n] 88 (0, 0)) ∧ wz.heap[X]? = some (.cells #[.int .i64 k, .int .u64 m, .string ⟨#[]⟩] 52 (0, 0))
theorem D4At.fresh {ts : List (Int × Int)} {f a : Nat} {k n : Int} {B I : ByteArray} {w w1 : World} {m : Nat} (hf : fitsN k n m = true) (hI : I.size ≤ 1048576) (hr : rlB false k n (rlD false ts f) (pl ts f a k) true B.data.toList = (partsP (rlD false ts f) (pl ts f a k m) (np k m) 0 I.data.toList).map (fun ls => ⟨k, m, ⟨#[]⟩⟩ :: ls.flatten))
    (hb : Below w.heap.size w w1) (hT : w1.heap[w.heap.size]? = some (.cells #[.int .i64 k, .int .i64 n] 88 (0, 0))) : D4At ts f a k n B w w1.heap.size (.string I) (w1.alloc (.cells #[.int .i64 k, .int .u64 m, .string ⟨#[]⟩] 52)) :=
  ⟨m, I, rfl, hf, hI, hr, hb.alloc hb.size _, by rw [Below.heap_alloc _ _ _ (blk_lt hT)]; exact hT, heap_alloc_new w1 _⟩
set_option maxRecDepth 100000 in
set_option maxHeartbeats 16000000 in
theorem l4Dec_plan (ts : List (Int × Int)) (f : Nat) (hp : D4Hyp ts f) (a e0 : Nat) (vt : Value) (b B R : ByteArray) (w : World) (hf7 : f + 1 ≤ 7) (hT : IsTyps w.heap.size w vt ts) (hb : b.size ≤ 1048576) (ha : a < ts.length) (hok : tyOk ts[a].1 ts[a].2 = true) (hit : iter (en ts f) (a + 1) (kids ts[a].1 ts[a].2) = some e0)
    (hk : ts[a].1 = 6 ∨ ts[a].1 = 7 ∨ ts[a].1 = 8 ∨ ts[a].1 = 9) (h : tk false b.data.toList = some (true, B.data.toList, R.data.toList)) :
    Calls Tryz.prog 27 #[vt, .int .i64 a, .string b] w fun e w' => D4Post ts (f + 1) a b w e w' := by
  have hBs : B.size ≤ 1048576 := by
    have := (tk_len h).1
    rw [lst_len, lst_len, lst_len] at this
    omega
  have HRD : Hid (rlD false ts (f + 1) a b.data.toList = (rlB false ts[a].1 ts[a].2 (rlD false ts f) (pl ts f a ts[a].1) true B.data.toList).map fun l => (l, R.data.toList)) := by
    show _ = _
    rw [rlD_at ha, h]; rfl
  have HTK : Hid (∀ w, Calls Tryz.prog 47 #[.string b] w fun e w' => e = .returned (.tuple #[.bool true, .string B, .string R, .bool true]) ∧ Below w.heap.size w w') := fun w => l4Take_yes b B R true w hb h
  have HT : Hid (IsTyps w.heap.size w vt ts) := hT
  have HP : Hid (D4Hyp ts f) := hp
  have HPN : Hid (∀ (x : It) w', Below w.heap.size w w' → fitsN ts[a].1 ts[a].2 x.n = true → Calls Tryz.prog 37 #[vt, .int .i64 a, .agg #[.int .i64 x.k, .int .u64 x.n, .string x.s]] w' fun e w'' => PlPost ts f a ts[a].1 x.n w' e w'') := fun x w' hbw hfn => l3Plan_any ts f a e0 x vt w' (by omega) ((hT.below hbw).up hbw.size) ha hok hit hfn
  have HPL : Hid (∀ m, fitsN ts[a].1 ts[a].2 m = true → ∀ j, j < np ts[a].1 m → ∃ e', en ts f (pl ts f a ts[a].1 m j) = some e') := fun m hfn j hj => pl_ok ha hok hit hfn hj
  have HNP : Hid (∀ m, fitsN ts[a].1 ts[a].2 m = true → np ts[a].1 m ≤ 20) := fun m hfn => np_le hok hfn
  have hDN : ∀ p, rlD false ts f p [] = none := rlD_nil false ts f
  obtain ⟨bt', o, capT, hv', hbt, h1, h2, c0, c1⟩ := hT.at ha
  have hst := hT.small
  unfold maxLen at h2
  obtain ⟨n, hn⟩ : ∃ n, ts[a].2 = n := ⟨_, rfl⟩
  obtain ⟨k, hkE⟩ : ∃ k, ts[a].1 = k := ⟨_, rfl⟩
  rw [hkE] at c0 hok HPN HPL HNP HRD hk
  rw [hn] at c1 hok HPN HPL HNP HRD
  clear hit hT hp hkE hn h hb
  subst hv'
  have hd5 : decide ((5 : Int) ≤ k) = true := decide_eq_true (by omega)
  go_enter Tryz.func27, Tryz.ntmps27
  go_upto_block 0 with (go_at_call 47; refine (HTK.out _).mono ?_; rintro e w1 ⟨rfl, hb1⟩; have HB1 : Hid (Below w.heap.size w w1) := (bel1 _ _).trans (hb1.mono (by simp)); have HT1 : Hid (w1.heap[w.heap.size]? = some (.cells #[.int .i64 k, .int .i64 n] 88 (0, 0))) := (hb1.block _ (by simp)).trans (heap_alloc_new w _); have hx1 : w.heap.size < w1.heap.size := blk_lt HT1.out; have x0 : w1.cell? ⟨w.heap.size, 0, none⟩ = some (.int .i64 k) := by { rw [hb1.cell (p := ⟨w.heap.size, 0, none⟩) (by simp)]; simp [go_sem] }; have x1 : w1.cell? ⟨w.heap.size, 1, none⟩ = some (.int .i64 n) := by { rw [hb1.cell (p := ⟨w.heap.size, 1, none⟩) (by simp)]; simp [go_sem] }; have y0 := cell_alD (o := .cells #[.int .i64 k, .int .u64 0, .string ⟨#[]⟩] 52) x0; have y1 := cell_alD (o := .cells #[.int .i64 k, .int .u64 0, .string ⟨#[]⟩] 52) x1; clear hb1)
  go_cut [11] (fun inv wz => D4At ts f a k n B w w1.heap.size inv wz)
  case first =>
    clear HPN HPL HNP HP HT
    have hok' := hok
    simp only [tyOk, decide_eq_true_eq] at hok
    rcases hk with rfl | rfl | rfl | rfl
    · obtain ⟨N, rfl⟩ := Int.eq_ofNat_of_zero_le (show 0 ≤ n by omega)
      have hN : N ≤ 200 := by omega
      have hfn : fitsN 6 (N : Int) N = true := by unfold fitsN; rw [if_neg (by omega), if_neg (by omega), if_neg (by omega), if_pos (by omega)]; simp
      have HQ : Hid (D4At ts f a 6 (N : Int) B w w1.heap.size (.string B) (w1.alloc (.cells #[.int .i64 6, .int .u64 (N : Nat), .string ⟨#[]⟩] 52))) := D4At.fresh hfn hBs (by
        have h := rlB_flat (st := false) (k := 6) (n := (N : Int)) (by omega) hDN (pl ts f a 6) B.data.toList (by omega)
        rw [h, Int.toNat_natCast, show np 6 N = N from if_pos (by omega)]
        have e1 : pl ts f a 6 0 = pl ts f a 6 N := funext fun j => pl_any (by omega) 0 N j
        rw [e1]) HB1.out HT1.out
      clear hok hok' hDN hfn
      go_wp2_with fail
      go_meet
      case rel => exact HQ.out
    · obtain ⟨N, rfl⟩ := Int.eq_ofNat_of_zero_le (show 0 ≤ n by omega)
      have hN : N ≤ 200 := by omega
      have hfn : fitsN 7 (N : Int) N = true := by unfold fitsN; rw [if_neg (by omega), if_neg (by omega), if_neg (by omega), if_pos (by omega)]; simp
      have HQ : Hid (D4At ts f a 7 (N : Int) B w w1.heap.size (.string B) (w1.alloc (.cells #[.int .i64 7, .int .u64 (N : Nat), .string ⟨#[]⟩] 52))) := D4At.fresh hfn hBs (by
        have h := rlB_flat (st := false) (k := 7) (n := (N : Int)) (by omega) hDN (pl ts f a 7) B.data.toList (by omega)
        rw [h, Int.toNat_natCast, show np 7 N = N from if_pos (by omega)]
        have e1 : pl ts f a 7 0 = pl ts f a 7 N := funext fun j => pl_any (by omega) 0 N j
        rw [e1]) HB1.out HT1.out
      clear hok hok' hDN hfn
      go_wp2_with fail
      go_meet
      case rel => exact HQ.out
    · obtain rfl : n = 0 := by omega
      by_cases hB0 : B.size = 0
      · have hemp : B.toList.isEmpty = true := by rw [str_empty]; exact decide_eq_true hB0
        have hnil : B.data.toList = [] := List.eq_nil_of_length_eq_zero (by rw [lst_len]; exact hB0)
        have HQ : Hid (D4At ts f a 8 0 B w w1.heap.size (.string B) (w1.alloc (.cells #[.int .i64 8, .int .u64 (0 : Nat), .string ⟨#[]⟩] 52))) := D4At.fresh (by unfold fitsN; rw [if_neg (by omega), if_pos (by omega)]; rfl) hBs (by
          rw [rlB_opt _ _ _ 0 (by rw [if_pos hnil]), show np 8 0 = 0 from if_pos (by omega)]) HB1.out HT1.out
        clear hok hok' hDN hnil hB0
        go_wp2_with fail
        go_meet
        case rel => exact HQ.out
      · have hemp : B.toList.isEmpty = false := by rw [str_empty]; exact decide_eq_false hB0
        have hne : B.data.toList ≠ [] := fun e => hB0 (by rw [← lst_len, e]; rfl)
        have HQ : Hid (D4At ts f a 8 0 B w w1.heap.size (.string B) (w1.alloc (.cells #[.int .i64 8, .int .u64 (1 : Nat), .string ⟨#[]⟩] 52))) := D4At.fresh (by unfold fitsN; rw [if_neg (by omega), if_pos (by omega)]; rfl) hBs (by
          rw [rlB_opt _ _ _ 1 (by rw [if_neg hne]), show np 8 1 = 1 from if_pos (by omega)]) HB1.out HT1.out
        clear hok hok' hDN hne hB0
        go_wp2_with fail
        go_meet
        case rel => exact HQ.out
    · obtain ⟨N, rfl⟩ := Int.eq_ofNat_of_zero_le (show 0 ≤ n by omega)
      have hN : N ≤ 200 := by omega
      clear hok hok'
      have HNO : Hid ((∀ C D m, tk false B.data.toList = some (false, C, D) → numD 9 (N : Int) C true ≠ some m) → rlD false ts (f + 1) a b.data.toList = none) := fun h => by rw [HRD.out, rlB_uni_no _ _ _ h]; rfl
      have hsx : (w1.alloc (.cells #[.int .i64 9, .int .u64 0, .string ⟨#[]⟩] 52)).heap.size = w1.heap.size + 1 := by simp
      have HBX : Hid (Below w.heap.size w (w1.alloc (.cells #[.int .i64 9, .int .u64 0, .string ⟨#[]⟩] 52))) := HB1.out.alloc HB1.out.size _
      have HTX : Hid ((w1.alloc (.cells #[.int .i64 9, .int .u64 0, .string ⟨#[]⟩] 52)).heap[w.heap.size]? = some (.cells #[.int .i64 9, .int .i64 (N : Int)] 88 (0, 0))) := by show _ = _; rw [Below.heap_alloc _ _ _ hx1]; exact HT1.out
      have HXX : Hid ((w1.alloc (.cells #[.int .i64 9, .int .u64 0, .string ⟨#[]⟩] 52)).heap[w1.heap.size]? = some (.cells #[.int .i64 9, .int .u64 0, .string ⟨#[]⟩] 52 (0, 0))) := heap_alloc_new w1 _
      cases ht : tk false B.data.toList with
      | none =>
        have HN0 : Hid (rlD false ts (f + 1) a b.data.toList = none) := HNO.out (fun C D m h => by rw [ht] at h; cases h)
        have HTK2 : Hid (∀ w, Calls Tryz.prog 47 #[.string B] w fun e w' => e = .returned (.tuple #[.bool false, .string ⟨#[]⟩, .string ⟨#[]⟩, .bool false]) ∧ Below w.heap.size w w') := fun w => l4Take_no B w hBs ht
        have HPA : Hid (∀ w, Calls Tryz.prog 48 #[.string ⟨#[]⟩] w fun e w' => e = .returned (.tuple #[.int .u64 (0 : Nat), .bool true]) ∧ Below w.heap.size w w') := fun w => l4Parse_some (k := 9) (n := 0) ⟨#[]⟩ 0 w rfl
        clear ht HNO hDN
        go_wp2_with fail
        refine (HTK2.out _).mono ?_
        rintro e w3 ⟨rfl, hb3⟩
        go_wp2_with fail
        refine (HPA.out _).mono ?_
        rintro e w4 ⟨rfl, hb4⟩
        have HB34 : Hid (Below (w1.heap.size + 1) (w1.alloc (.cells #[.int .i64 9, .int .u64 0, .string ⟨#[]⟩] 52)) w4) := by
          have h1 := hb3.trans (hb4.mono hb3.size)
          rwa [hsx] at h1
        have HB4 : Hid (Below w.heap.size w w4) := HBX.out.trans (HB34.out.mono (by have := HBX.out.size; omega))
        have hT4 := (HB34.out.block w.heap.size (by omega)).trans HTX.out
        have hN4 := (HB34.out.block w1.heap.size (by omega)).trans HXX.out
        have t0 := (row_factsD hT4).1 0
        have t1 := (row_factsD hT4).1 1
        have g1 := (row_factsD hN4).1 1
        have z1 := (row_factsD hN4).2 1
        simp only [List.getElem?_toArray, List.getElem?_cons_succ, List.getElem?_cons_zero] at t0 t1 g1
        clear hb3 hb4 hT4 hN4
        go_wp2_with fail
        go_ret3
        exact ⟨.inl ⟨HN0.out, _, _, rfl⟩, HB4.out⟩
      | some y =>
        obtain ⟨l2, cl, dl⟩ := y
        obtain ⟨C, hC⟩ : ∃ C : ByteArray, C.data.toList = cl := ⟨⟨cl.toArray⟩, rfl⟩
        obtain ⟨D, hD⟩ : ∃ D : ByteArray, D.data.toList = dl := ⟨⟨dl.toArray⟩, rfl⟩
        subst hC hD
        have hlen := (tk_len ht).1
        rw [lst_len, lst_len, lst_len] at hlen
        have hDs : D.size ≤ 1048576 := by omega
        have HTK2 : Hid (∀ w, Calls Tryz.prog 47 #[.string B] w fun e w' => e = .returned (.tuple #[.bool l2, .string C, .string D, .bool true]) ∧ Below w.heap.size w w') := fun w => l4Take_yes B C D l2 w hBs ht
        cases l2 with
        | true =>
          have HN0 : Hid (rlD false ts (f + 1) a b.data.toList = none) := HNO.out (fun C' D' m h => by rw [ht] at h; cases h)
          clear ht HNO hDN hlen
          cases hnd : numD 9 (N : Int) C.data.toList false with
          | none =>
            have HPA : Hid (∀ w, Calls Tryz.prog 48 #[.string C] w fun e w' => e = .returned (.tuple #[.int .u64 0, .bool false]) ∧ Below w.heap.size w w') := fun w => l4Parse_no C w hnd
            clear hnd
            go_wp2_with fail
            refine (HTK2.out _).mono ?_
            rintro e w3 ⟨rfl, hb3⟩
            go_wp2_with fail
            refine (HPA.out _).mono ?_
            rintro e w4 ⟨rfl, hb4⟩
            have HB34 : Hid (Below (w1.heap.size + 1) (w1.alloc (.cells #[.int .i64 9, .int .u64 0, .string ⟨#[]⟩] 52)) w4) := by
              have h1 := hb3.trans (hb4.mono hb3.size)
              rwa [hsx] at h1
            have HB4 : Hid (Below w.heap.size w w4) := HBX.out.trans (HB34.out.mono (by have := HBX.out.size; omega))
            have hT4 := (HB34.out.block w.heap.size (by omega)).trans HTX.out
            have hN4 := (HB34.out.block w1.heap.size (by omega)).trans HXX.out
            have t0 := (row_factsD hT4).1 0
            have t1 := (row_factsD hT4).1 1
            have g1 := (row_factsD hN4).1 1
            have z1 := (row_factsD hN4).2 1
            simp only [List.getElem?_toArray, List.getElem?_cons_succ, List.getElem?_cons_zero] at t0 t1 g1
            clear hb3 hb4 hT4 hN4
            go_wp2_with fail
            go_ret3
            exact ⟨.inl ⟨HN0.out, _, _, rfl⟩, HB4.out⟩
          | some q =>
            have HPA : Hid (∀ w, Calls Tryz.prog 48 #[.string C] w fun e w' => e = .returned (.tuple #[.int .u64 q, .bool true]) ∧ Below w.heap.size w w') := fun w => l4Parse_some C q w hnd
            clear hnd
            go_wp2_with fail
            refine (HTK2.out _).mono ?_
            rintro e w3 ⟨rfl, hb3⟩
            go_wp2_with fail
            refine (HPA.out _).mono ?_
            rintro e w4 ⟨rfl, hb4⟩
            have HB34 : Hid (Below (w1.heap.size + 1) (w1.alloc (.cells #[.int .i64 9, .int .u64 0, .string ⟨#[]⟩] 52)) w4) := by
              have h1 := hb3.trans (hb4.mono hb3.size)
              rwa [hsx] at h1
            have HB4 : Hid (Below w.heap.size w w4) := HBX.out.trans (HB34.out.mono (by have := HBX.out.size; omega))
            have hT4 := (HB34.out.block w.heap.size (by omega)).trans HTX.out
            have hN4 := (HB34.out.block w1.heap.size (by omega)).trans HXX.out
            have t0 := (row_factsD hT4).1 0
            have t1 := (row_factsD hT4).1 1
            have g1 := (row_factsD hN4).1 1
            have z1 := (row_factsD hN4).2 1
            simp only [List.getElem?_toArray, List.getElem?_cons_succ, List.getElem?_cons_zero] at t0 t1 g1
            clear hb3 hb4 hT4 hN4
            go_wp2_with fail
            go_ret3
            exact ⟨.inl ⟨HN0.out, _, _, rfl⟩, HB4.out⟩
        | false =>
          cases hnd : numD 9 (N : Int) C.data.toList false with
          | none =>
            have HN0 : Hid (rlD false ts (f + 1) a b.data.toList = none) := HNO.out (fun C' D' m h hm => by
              rw [ht] at h
              simp only [Option.some.injEq, Prod.mk.injEq, true_and] at h
              obtain ⟨rfl, rfl⟩ := h
              rw [numD_two, hnd] at hm; cases hm)
            have HPA : Hid (∀ w, Calls Tryz.prog 48 #[.string C] w fun e w' => e = .returned (.tuple #[.int .u64 0, .bool false]) ∧ Below w.heap.size w w') := fun w => l4Parse_no C w hnd
            clear ht HNO hDN hlen hnd
            go_wp2_with fail
            refine (HTK2.out _).mono ?_
            rintro e w3 ⟨rfl, hb3⟩
            go_wp2_with fail
            refine (HPA.out _).mono ?_
            rintro e w4 ⟨rfl, hb4⟩
            have HB34 : Hid (Below (w1.heap.size + 1) (w1.alloc (.cells #[.int .i64 9, .int .u64 0, .string ⟨#[]⟩] 52)) w4) := by
              have h1 := hb3.trans (hb4.mono hb3.size)
              rwa [hsx] at h1
            have HB4 : Hid (Below w.heap.size w w4) := HBX.out.trans (HB34.out.mono (by have := HBX.out.size; omega))
            have hT4 := (HB34.out.block w.heap.size (by omega)).trans HTX.out
            have hN4 := (HB34.out.block w1.heap.size (by omega)).trans HXX.out
            have t0 := (row_factsD hT4).1 0
            have t1 := (row_factsD hT4).1 1
            have g1 := (row_factsD hN4).1 1
            have z1 := (row_factsD hN4).2 1
            simp only [List.getElem?_toArray, List.getElem?_cons_succ, List.getElem?_cons_zero] at t0 t1 g1
            clear hb3 hb4 hT4 hN4
            go_wp2_with fail
            go_ret3
            exact ⟨.inl ⟨HN0.out, _, _, rfl⟩, HB4.out⟩
          | some q =>
            have HPA : Hid (∀ w, Calls Tryz.prog 48 #[.string C] w fun e w' => e = .returned (.tuple #[.int .u64 q, .bool true]) ∧ Below w.heap.size w w') := fun w => l4Parse_some C q w hnd
            by_cases hqN : (q : Int) < (N : Int)
            · have hd2 : numD 9 (N : Int) C.data.toList true = some q := by rw [numD_two, hnd]; simp only [Option.bind_some]; rw [if_pos hqN]
              have HFN : Hid (fitsN 9 (N : Int) q = true) := (numD_back hd2).2.2 rfl
              have HRU : Hid (rlB false 9 (N : Int) (rlD false ts f) (pl ts f a 9) true B.data.toList = (partsP (rlD false ts f) (pl ts f a 9 q) (np 9 q) 0 D.data.toList).map (fun ls => ⟨9, q, ⟨#[]⟩⟩ :: ls.flatten)) := by
                show _ = _
                rw [show np 9 q = 1 from rfl]
                exact rlB_uni _ _ _ _ _ q ht hd2
              have i1 : decide ((N : Int) ≤ (q : Int)) = false := decide_eq_false (by omega)
              clear ht HNO hDN hlen hnd hd2
              go_wp2_with fail
              refine (HTK2.out _).mono ?_
              rintro e w3 ⟨rfl, hb3⟩
              go_wp2_with fail
              refine (HPA.out _).mono ?_
              rintro e w4 ⟨rfl, hb4⟩
              have HB34 : Hid (Below (w1.heap.size + 1) (w1.alloc (.cells #[.int .i64 9, .int .u64 0, .string ⟨#[]⟩] 52)) w4) := by
                have h1 := hb3.trans (hb4.mono hb3.size)
                rwa [hsx] at h1
              have HB4 : Hid (Below w.heap.size w w4) := HBX.out.trans (HB34.out.mono (by have := HBX.out.size; omega))
              have hT4 := (HB34.out.block w.heap.size (by omega)).trans HTX.out
              have hN4 := (HB34.out.block w1.heap.size (by omega)).trans HXX.out
              have t0 := (row_factsD hT4).1 0
              have t1 := (row_factsD hT4).1 1
              have g1 := (row_factsD hN4).1 1
              have z1 := (row_factsD hN4).2 1
              simp only [List.getElem?_toArray, List.getElem?_cons_succ, List.getElem?_cons_zero] at t0 t1 g1
              have HS4 := set_block (i := 1) hN4 (.int .u64 (q : Nat))
              have HQ : Hid (D4At ts f a 9 (N : Int) B w w1.heap.size (.string D) (w4.setCell ⟨w1.heap.size, 1, none⟩ (.int .u64 (q : Nat)))) :=
                ⟨q, D, rfl, HFN.out, hDs, HRU.out, HB4.out.setCell (p := ⟨w1.heap.size, 1, none⟩) (by simp; omega) _, by rw [Below.heap_setCell _ _ _ _ (show w.heap.size ≠ w1.heap.size by omega)]; exact hT4, HS4⟩
              clear hb3 hb4 hT4 hN4 HS4
              go_wp2_with fail
              go_meet
              case rel => exact HQ.out
            · have HN0 : Hid (rlD false ts (f + 1) a b.data.toList = none) := HNO.out (fun C' D' m h hm => by
                rw [ht] at h
                simp only [Option.some.injEq, Prod.mk.injEq, true_and] at h
                obtain ⟨rfl, rfl⟩ := h
                rw [numD_two, hnd] at hm
                simp only [Option.bind_some] at hm
                rw [if_neg hqN] at hm; cases hm)
              have i1 : decide ((N : Int) ≤ (q : Int)) = true := decide_eq_true (by omega)
              clear ht HNO hDN hlen hnd
              go_wp2_with fail
              refine (HTK2.out _).mono ?_
              rintro e w3 ⟨rfl, hb3⟩
              go_wp2_with fail
              refine (HPA.out _).mono ?_
              rintro e w4 ⟨rfl, hb4⟩
              have HB34 : Hid (Below (w1.heap.size + 1) (w1.alloc (.cells #[.int .i64 9, .int .u64 0, .string ⟨#[]⟩] 52)) w4) := by
                have h1 := hb3.trans (hb4.mono hb3.size)
                rwa [hsx] at h1
              have HB4 : Hid (Below w.heap.size w w4) := HBX.out.trans (HB34.out.mono (by have := HBX.out.size; omega))
              have hT4 := (HB34.out.block w.heap.size (by omega)).trans HTX.out
              have hN4 := (HB34.out.block w1.heap.size (by omega)).trans HXX.out
              have t0 := (row_factsD hT4).1 0
              have t1 := (row_factsD hT4).1 1
              have g1 := (row_factsD hN4).1 1
              have z1 := (row_factsD hN4).2 1
              simp only [List.getElem?_toArray, List.getElem?_cons_succ, List.getElem?_cons_zero] at t0 t1 g1
              clear hb3 hb4 hT4 hN4
              go_wp2_with fail
              go_ret3
              exact ⟨.inl ⟨HN0.out, _, _, rfl⟩, HB4.out⟩
  case rest =>
    obtain ⟨m, I, rfl, hfn, hIs, hrl, hbc, hN1, hN2⟩ := hcut
    clear x0 x1 y0 y1 c0 c1
    have hXc : w1.heap.size < wc.heap.size := blk_lt hN2
    have t0 := (row_factsD hN1).1 0
    have t1 := (row_factsD hN1).1 1
    have g0 := (row_factsD hN2).1 0
    have g1 := (row_factsD hN2).1 1
    have g2 := (row_factsD hN2).1 2
    simp only [List.getElem?_toArray, List.getElem?_cons_succ, List.getElem?_cons_zero] at t0 t1 g0 g1 g2
    have t0' := cell_alD (o := .cells #[] 52) t0
    have g0' := cell_alD (o := .cells #[] 52) g0
    have g1' := cell_alD (o := .cells #[] 52) g1
    have g2' := cell_alD (o := .cells #[] 52) g2
    have HBC : Hid (Below w.heap.size w wc) := hbc
    have HN2 : Hid (wc.heap[w1.heap.size]? = some (.cells #[.int .i64 k, .int .u64 m, .string ⟨#[]⟩] 52 (0, 0))) := hN2
    have hk5 : (k == 5) = false := by rw [beq_eq_false_iff_ne]; omega
    have hm64 : m < 18446744073709551616 := by
      have hk9 := hk
      simp only [tyOk, decide_eq_true_eq] at hok
      unfold fitsN at hfn
      rcases hk with rfl | rfl | rfl | rfl
      · rw [if_neg (by omega), if_neg (by omega), if_neg (by omega), if_pos (by omega)] at hfn; have := of_decide_eq_true hfn; omega
      · rw [if_neg (by omega), if_neg (by omega), if_neg (by omega), if_pos (by omega)] at hfn; have := of_decide_eq_true hfn; omega
      · rw [if_neg (by omega), if_pos (by omega)] at hfn; have := of_decide_eq_true hfn; omega
      · rw [if_neg (by omega), if_neg (by omega), if_neg (by omega), if_neg (by omega), if_pos (by omega)] at hfn; have := of_decide_eq_true hfn; omega
    have HPL2 : Hid (∀ j, j < np k m → ∃ e', en ts f (pl ts f a k m j) = some e') := HPL.out m hfn
    have hnp : np k m ≤ 20 := HNP.out m hfn
    have HRL : Hid (rlB false k n (rlD false ts f) (pl ts f a k) true B.data.toList = (partsP (rlD false ts f) (pl ts f a k m) (np k m) 0 I.data.toList).map (fun ls => ⟨k, m, ⟨#[]⟩⟩ :: ls.flatten)) := hrl
    have hp21 : 20 * 21 ^ f ≤ 1801088540 := by
      have : 21 ^ f ≤ 21 ^ 6 := Nat.pow_le_pow_right (by decide) (by omega)
      omega
    obtain ⟨L21, hL21⟩ : ∃ L, 21 ^ f = L := ⟨_, rfl⟩
    have HM1 : Hid (∀ pj c l r e', en ts f pj = some e' → rlD false ts f pj c = some (l, r) → 0 < l.length ∧ l.length ≤ L21) := fun pj c l r e' he' hd => by have := rlD_many he' hd; rw [hL21] at this; exact ⟨by omega, this.2.1⟩
    rw [hL21] at hp21
    obtain ⟨i0, hi, hz0, hz1, hz2⟩ := info_parts Tryz.infoItem
    have HPC : Hid (Calls Tryz.prog 37 #[.slice (some ⟨bt', o, none⟩) ts.length capT, .int .i64 a, .agg #[.int .i64 k, .int .u64 (m : Int), .string ⟨#[]⟩]] (wc.alloc (.cells #[] 52)) fun e w'' => PlPost ts f a k m (wc.alloc (.cells #[] 52)) e w'') := HPN.out ⟨k, m, ⟨#[]⟩⟩ _ (HBC.out.alloc HBC.out.size _) hfn
    have HO0 : Hid (OwnIt wc.heap.size (wc.alloc (.cells #[] 52)) (.slice (some ⟨wc.heap.size, 0, none⟩) 0 0) []) := World.ownsRow_lit (base := wc.heap.size) (e := 52) (size := 3) wc #[] 0 (Nat.le_refl _) (by decide) rfl
    obtain ⟨N, hN⟩ : ∃ N, np k m = N := ⟨_, rfl⟩
    have HNE : Hid (np k m = N) := hN
    rw [hN] at hnp
    clear hbc hN1 hN2 hrl hfn HPL HNP HPN hL21 hN hok hk
    go_wp2_with fail
    refine Calls.mono HPC.out ?_
    rintro e w7 ⟨vp, rfl, hown, hb7⟩
    have HB7 : Hid (Below wc.heap.size wc w7) := (bel1 _ _).trans (hb7.mono (by simp))
    have HO7 : Hid (OwnIt wc.heap.size w7 (.slice (some ⟨wc.heap.size, 0, none⟩) 0 0) []) := HO0.out.kept hb7
    have HPR : Hid (∃ ad cp, vp = .slice ad N cp ∧ N ≤ cp ∧ cp ≤ maxLen ∧ (N = 0 ∨ ∃ g, ad = some ⟨g, 0, none⟩ ∧ wc.heap.size < g ∧ g < w7.heap.size ∧ ∀ i, i < N → w7.cell? ⟨g, i, none⟩ = some (.int .i64 (pl ts f a k m i : Nat)))) := by
      have hlt := hown.lt
      have h2 := hown.2
      rw [HNE.out] at h2
      rcases h2 with ⟨hv, h0⟩ | ⟨g, cp, cur, hv, hg, _, h1, h2, _, _⟩
      · exact ⟨none, 0, by rw [hv, h0], by omega, by simp [maxLen], .inl h0⟩
      · refine ⟨_, cp, hv, h1, h2, .inr ⟨g, rfl, by simp at hg; omega, ?_, fun i hi => ?_⟩⟩
        · exact (hlt g (by rw [hv]; rfl)).2
        · rw [hv] at hown
          rw [← HNE.out] at hown hi
          exact row_atD hown hi
    have hs7 : wc.heap.size < w7.heap.size := by have := hb7.size; simp at this; omega
    obtain ⟨ad, cp, rfl, hcp1, hcp2, hcells⟩ := HPR.out
    have HCL : Hid (N = 0 ∨ ∃ g, ad = some ⟨g, 0, none⟩ ∧ wc.heap.size < g ∧ g < w7.heap.size ∧ ∀ i, i < N → w7.cell? ⟨g, i, none⟩ = some (.int .i64 (pl ts f a k m i : Nat))) := hcells
    unfold maxLen at hcp2
    clear hown hb7 HPR hcells HPC g0 g1 g2 g0' g1' g2' t0 t1 t0'
    rw [HNE.out] at HRL HPL2
    obtain ⟨ps, hps⟩ : ∃ ps, pl ts f a k m = ps := ⟨_, rfl⟩
    rw [hps] at HRL HPL2 HCL
    clear hps HNE
    go_wp2_with fail
    go_loopg [11, 23, 28] N (fun gk inv u i wr => ∃ (j : Nat) (J : ByteArray) (ls : List (List It)), j + gk = N ∧ i = .int .i64 j ∧ inv = .string J ∧ J.size ≤ 1048576 ∧ partsP (rlD false ts f) ps N 0 I.data.toList = (partsP (rlD false ts f) ps gk j J.data.toList).map (ls ++ ·) ∧ ls.flatten.length ≤ j * L21 ∧ j ≤ ls.flatten.length ∧ OwnIt wc.heap.size wr u ls.flatten ∧ Below wc.heap.size wc wr ∧ w7.heap.size ≤ wr.heap.size ∧ (∀ q, wc.heap.size < q → q < w7.heap.size → wr.heap[q]? = w7.heap[q]? ∧ some q ≠ u.ownBlock) ∧ (j = 0 → u = .slice (some ⟨wc.heap.size, 0, none⟩) 0 0))
    case atStart => exact ⟨0, I, [], by omega, rfl, rfl, hIs, by simp, by simp, by simp, HO7.out, HB7.out, Nat.le_refl _, fun q h1 h2 => ⟨rfl, fun e => absurd (show q = wc.heap.size by simpa [Value.ownBlock] using e) (by omega)⟩, fun _ => rfl⟩
    case round =>
      obtain ⟨j, J, ls, hj', rfl, rfl, hJs, hpd, hlen0, hlen1, hown, hbw, hg7, hkeep, hu0⟩ := hrel
      have HJ : Hid (j + gk = N) := hj'
      have hj : j ≤ N := by omega
      have hjL : j * L21 ≤ 20 * L21 := Nat.mul_le_mul_right _ (by omega)
      obtain ⟨vs, hvs⟩ : ∃ vs, ls.flatten = vs := ⟨_, rfl⟩
      have HVS : Hid (ls.flatten = vs) := hvs
      rw [hvs] at hown hlen0 hlen1
      have hvl : vs.length ≤ 1801088540 := by omega
      have HL0 : Hid (vs.length ≤ j * L21) := hlen0
      have HL1 : Hid (j ≤ vs.length) := hlen1
      have HOv : Hid (OwnIt wc.heap.size wr u23 vs) := hown
      have HPD : Hid (partsP (rlD false ts f) ps N 0 I.data.toList = (partsP (rlD false ts f) ps gk j J.data.toList).map (ls ++ ·)) := hpd
      have HBw : Hid (Below wc.heap.size wc wr) := hbw
      have HBr : Hid (Below w.heap.size w wr) := HBC.out.trans (hbw.mono HBC.out.size)
      have HKP : Hid (∀ q, wc.heap.size < q → q < w7.heap.size → wr.heap[q]? = w7.heap[q]? ∧ some q ≠ u23.ownBlock) := hkeep
      have HU0 : Hid (j = 0 → u23 = .slice (some ⟨wc.heap.size, 0, none⟩) 0 0) := hu0
      have hsr : w.heap.size ≤ wr.heap.size := HBr.out.size
      have hsw : wc.heap.size ≤ wr.heap.size := hbw.size
      obtain ⟨adu, capu, rfl, hu1, hu2, hu3⟩ := hown.form
      unfold maxLen at hu2
      clear hj' hown hbw hkeep hu3 hpd hlen0 hlen1 hjL hvs hu0
      by_cases hjN : j < N
      · obtain ⟨gk1, hgk⟩ : ∃ g, gk = g + 1 := ⟨gk - 1, by have := HJ.out; omega⟩
        have hunf : partsP (rlD false ts f) ps gk j J.data.toList = (rlD false ts f (ps j) J.data.toList).bind fun x => (partsP (rlD false ts f) ps gk1 (j + 1) x.2).map fun y => x.1 :: y := by rw [hgk]; rfl
        obtain ⟨g, rfl, hgw, hgl, hc⟩ := HCL.out.resolve_left (by omega)
        have cj : wr.cell? ⟨g, j, none⟩ = some (.int .i64 (ps j : Nat)) := (World.cell?_of_block (w := w7) (a := ⟨g, j, none⟩) (HKP.out g hgw hgl).1).trans (hc j hjN)
        have hgr : g < wr.heap.size := by omega
        obtain ⟨e', he'⟩ := HPL2.out j hjN
        have hpj : ps j ≤ 1048577 := by have := en_lt he'; omega
        have HC0 : Hid (∀ w', Below wr.heap.size wr w' → Calls Tryz.prog 27 #[.slice (some ⟨bt', o, none⟩) ts.length capT, .int .i64 (ps j : Nat), .string J] w' fun e w'' => D4Post ts f (ps j) J w' e w'') := fun w' hb' => HP.out _ e' _ _ w' (by omega) he' ((HT.out.below (HBr.out.trans (hb'.mono hsr))).up (by have := hb'.size; omega)) hJs
        have HM2 : Hid (∀ l r, rlD false ts f (ps j) J.data.toList = some (l, r) → 0 < l.length ∧ l.length ≤ L21) := fun l r hd => HM1.out _ _ l r e' he' hd
        have HS0 : Hid (wr.cell? ⟨g, j, none⟩ = some (.int .i64 (ps j : Nat))) := cj
        cases hsc : rlD false ts f (ps j) J.data.toList with
        | none =>
          have HC : Hid (∀ w', Below wr.heap.size wr w' → Calls Tryz.prog 27 #[.slice (some ⟨bt', o, none⟩) ts.length capT, .int .i64 (ps j : Nat), .string J] w' fun e w'' => (∃ v y, e = .returned (.tuple #[v, .string y, .bool false])) ∧ Below w'.heap.size w' w'') := fun w' hb' => (HC0.out w' hb').mono (by
            rintro e w'' ⟨⟨_, v, y, rfl⟩ | ⟨l, q, v, hd, _⟩, hb2⟩
            · exact ⟨⟨v, y, rfl⟩, hb2⟩
            · rw [hsc] at hd; cases hd)
          have HNN : Hid (rlD false ts (f + 1) a b.data.toList = none) := by
            show _ = _
            rw [HRD.out, HRL.out, HPD.out, hunf, hsc]; rfl
          clear hc he' hsc HC0 HM2 hunf
          generalize ps j = pj at cj HC hpj HS0
          go_wp2_with fail
          refine (HC.out _ (Below.refl _ _)).mono ?_
          rintro e w3 ⟨⟨v3, y3, rfl⟩, hb3⟩
          have HB3 : Hid (Below wr.heap.size wr w3) := hb3
          clear hb3 cj
          go_wp2_with fail
          go_ret3
          exact ⟨.inl ⟨HNN.out, _, _, rfl⟩, HBr.out.trans (HB3.out.mono hsr)⟩
        | some lq =>
          obtain ⟨l, RL⟩ := lq
          obtain ⟨J2, hJ2⟩ : ∃ J2 : ByteArray, J2.data.toList = RL := ⟨⟨RL.toArray⟩, rfl⟩
          have hJ2s : J2.size ≤ 1048576 := by
            have h1 := rlD_rest hsc
            rw [← hJ2, lst_len, lst_len] at h1
            omega
          have HPOS : Hid (partsP (rlD false ts f) ps N 0 I.data.toList = (partsP (rlD false ts f) ps gk1 (j + 1) J2.data.toList).map ((ls ++ [l]) ++ ·)) := by
            show _ = _
            rw [HPD.out, hunf, hsc, hJ2]
            simp only [Option.bind_some, Option.map_map]
            congr 1
            funext y
            simp
          have HC : Hid (∀ w', Below wr.heap.size wr w' → Calls Tryz.prog 27 #[.slice (some ⟨bt', o, none⟩) ts.length capT, .int .i64 (ps j : Nat), .string J] w' fun e w'' => (∃ v, e = .returned (.tuple #[v, .string J2, .bool true]) ∧ OwnIt w'.heap.size w'' v l) ∧ Below w'.heap.size w' w'') := fun w' hb' => (HC0.out w' hb').mono (by
            rintro e w'' ⟨⟨hd, _⟩ | ⟨l1, q1, v, hd, rfl, ho⟩, hb2⟩
            · rw [hsc] at hd; cases hd
            · rw [hsc] at hd
              simp only [Option.some.injEq, Prod.mk.injEq] at hd
              obtain ⟨rfl, hq⟩ := hd
              have e1 : q1 = J2 := ba_ext (by rw [hJ2, hq])
              exact ⟨⟨v, by rw [e1], ho⟩, hb2⟩)
          obtain ⟨hl8, hl21⟩ := HM2.out l RL hsc
          clear hc he' hsc HC0 HM2 hunf hJ2
          generalize ps j = pj at cj HC hpj HS0
          go_wp2_with fail
          refine (HC.out _ (Below.refl _ _)).mono ?_
          rintro e w3 ⟨⟨v8, rfl, ho3⟩, hb3⟩
          have HB3 : Hid (Below wr.heap.size wr w3) := hb3
          have HO3 : Hid (OwnIt wr.heap.size w3 v8 l) := ho3
          clear hb3 ho3
          obtain ⟨g8, cap8, rfl, hg8b, hg8l⟩ := World.ownsRow.form HO3.out hl8
          have HO8 : Hid (OwnIt wc.heap.size w3 (.slice adu vs.length capu) vs) := HOv.out.kept HB3.out
          have HC8 : Hid (w3.ownsRow wr.heap.size 52 3 (.slice (some ⟨g8, 0, none⟩) l.length cap8) l.length (flatI l)) := HO3.out
          have HB8 : Hid (Below wc.heap.size wc w3) := HBw.out.trans (HB3.out.mono hsw)
          have HK8 : Hid (∀ q, wc.heap.size < q → q < w7.heap.size → w3.heap[q]? = w7.heap[q]? ∧ some q ≠ (Value.slice adu vs.length capu).ownBlock) := fun q h1 h2 => ⟨by rw [HB3.out.block q (by omega)]; exact (HKP.out q h1 h2).1, (HKP.out q h1 h2).2⟩
          have hs8 : wr.heap.size ≤ w3.heap.size := HB3.out.size
          have hsum : vs.length + l.length ≤ 3700000000 := by omega
          clear cj
          go_wp2_with (at_builtin; refine wpList_append_lies _ rfl _ _ 25 rfl wc.heap.size 52 i0 (.agg #[.int .i64 0, .int .u64 0, .string ByteArray.empty]) 3 32 Tryz.underlying25 hi hz0 hz1 hz2 rfl (by decide) (.slice adu vs.length capu) vs.length (flatI vs) rfl HO8.out ⟨g8, 0, none⟩ l.length cap8 (flatI l) rfl (flatI_len l) (fun j u hu => HC8.out.cells (g := g8) rfl j u hu) (flatI_one _) hl8 (by unfold maxLen; omega) (by omega) (by omega) _ rfl ?_)
          intro g9 cap9 w9 hown9 hgrow hat hlt9
          have hou : ∀ q, (Value.slice adu vs.length capu).ownBlock = some q → wc.heap.size ≤ q := fun q hq => (World.ownsRow.lt HO8.out q hq).1
          have R1 : Below wc.heap.size wc w9 := HB8.out.grown hgrow HB8.out.size hou
          have R3 : OwnIt wc.heap.size w9 (.slice (some ⟨g9, 0, none⟩) (vs.length + l.length) cap9) (ls ++ [l]).flatten := by
            have e1 : (ls ++ [l]).flatten = vs ++ l := by rw [← HVS.out]; simp
            rw [e1]
            unfold OwnIt; rw [flatI_app, List.length_append]; exact hown9
          have R4 : ∀ q, wc.heap.size < q → q < w7.heap.size → w9.heap[q]? = w7.heap[q]? ∧ some q ≠ (Value.slice (some ⟨g9, 0, none⟩) (vs.length + l.length) cap9).ownBlock := fun q h1 h2 => by
            have h3 := HK8.out q h1 h2
            refine ⟨by rw [hgrow.block q (by omega) h3.2]; exact h3.1, fun e => ?_⟩
            have e' : q = g9 := by simpa [Value.ownBlock] using e
            rcases hat with h | h
            · exact h3.2 (by rw [e', h])
            · omega
          have R5 : w7.heap.size ≤ w9.heap.size := by have := hgrow.size; omega
          have R6 : (ls ++ [l]).flatten.length ≤ (j + 1) * L21 ∧ j + 1 ≤ (ls ++ [l]).flatten.length := by
            have e1 : (ls ++ [l]).flatten = vs ++ l := by rw [← HVS.out]; simp
            rw [e1, List.length_append, Nat.succ_mul]
            have := HL0.out
            have := HL1.out
            omega
          have HX : Hid ((ls ++ [l]).flatten.length ≤ (j + 1) * L21 ∧ j + 1 ≤ (ls ++ [l]).flatten.length ∧ OwnIt wc.heap.size w9 (.slice (some ⟨g9, 0, none⟩) (vs.length + l.length) cap9) (ls ++ [l]).flatten ∧ Below wc.heap.size wc w9 ∧ w7.heap.size ≤ w9.heap.size ∧ (∀ q, wc.heap.size < q → q < w7.heap.size → w9.heap[q]? = w7.heap[q]? ∧ some q ≠ (Value.slice (some ⟨g9, 0, none⟩) (vs.length + l.length) cap9).ownBlock) ∧ (j + 1 = 0 → (Value.slice (some ⟨g9, 0, none⟩) (vs.length + l.length) cap9) = .slice (some ⟨wc.heap.size, 0, none⟩) 0 0)) := ⟨R6.1, R6.2, R3, R1, R5, R4, fun h => by omega⟩
          clear R1 R3 R4 R5 R6 hown9 hgrow hat hlt9
          go_wp2_with fail
          go_roundg gk1
          case rel => exact ⟨j + 1, J2, ls ++ [l], by have := HJ.out; omega, by go_num, rfl, hJ2s, HPOS.out, HX.out⟩
          case measure => omega
      · have e1 : j = N := by omega
        have hgk0 : gk = 0 := by have := HJ.out; omega
        have hgx := (HBw.out.block _ hXc).trans HN2.out
        have g0 := (row_factsD hgx).1 0
        have g1 := (row_factsD hgx).1 1
        have g2 := (row_factsD hgx).1 2
        simp only [List.getElem?_toArray, List.getElem?_cons_succ, List.getElem?_cons_zero] at g0 g1 g2
        have g0' := cell_alD (o := .cells #[.int .i64 k, .int .u64 (m : Int), .string ⟨#[]⟩] 52) g0
        have g1' := cell_alD (o := .cells #[.int .i64 k, .int .u64 (m : Int), .string ⟨#[]⟩] 52) g1
        have g2' := cell_alD (o := .cells #[.int .i64 k, .int .u64 (m : Int), .string ⟨#[]⟩] 52) g2
        clear hgx
        have HFX : Hid (rlD false ts (f + 1) a b.data.toList = (if J.data.toList = [] then some [] else none : Option (List (List It))).map (fun y => (⟨k, m, ⟨#[]⟩⟩ :: (ls ++ y).flatten, R.data.toList))) := by
          show _ = _
          rw [HRD.out, HRL.out, HPD.out, hgk0]
          simp only [partsP]
          split <;> rfl
        have hsa : (wr.alloc (.cells #[.int .i64 k, .int .u64 (m : Int), .string ⟨#[]⟩] 52)).heap.size = wr.heap.size + 1 := by simp
        have HLI : Hid (OwnIt w.heap.size (wr.alloc (.cells #[.int .i64 k, .int .u64 (m : Int), .string ⟨#[]⟩] 52)) (.slice (some ⟨wr.heap.size, 0, none⟩) 1 1) [⟨k, m, ⟨#[]⟩⟩]) := lit_own wr ⟨k, m, ⟨#[]⟩⟩ hsr
        have HBL : Hid (Below w.heap.size w (wr.alloc (.cells #[.int .i64 k, .int .u64 (m : Int), .string ⟨#[]⟩] 52))) := HBr.out.alloc hsr _
        by_cases hv0 : vs.length = 0
        · have hj0 : j = 0 := by have := HL1.out; omega
          have hvn : vs = [] := List.eq_nil_of_length_eq_zero hv0
          have hue := HU0.out hj0
          rw [hv0] at hue
          simp only [Value.slice.injEq] at hue
          obtain ⟨rfl, _, rfl⟩ := hue
          subst hvn
          by_cases hJ0 : J.size = 0
          · have hemp : J.toList.isEmpty = true := by rw [str_empty]; exact decide_eq_true hJ0
            have HFIN : Hid (rlD false ts (f + 1) a b.data.toList = some ([⟨k, m, ⟨#[]⟩⟩], R.data.toList)) := by
              show _ = _
              rw [HFX.out, if_pos (List.eq_nil_of_length_eq_zero (by rw [lst_len]; exact hJ0))]
              simp only [Option.map_some, List.append_nil]
              rw [HVS.out]
            clear hv0 hJ0
            go_wp2_with fail
            go_ret3
            exact ⟨.inr ⟨_, _, _, HFIN.out, rfl, HLI.out⟩, HBL.out⟩
          · have hemp : J.toList.isEmpty = false := by rw [str_empty]; exact decide_eq_false hJ0
            have HFIN : Hid (rlD false ts (f + 1) a b.data.toList = none) := by
              show _ = _
              rw [HFX.out, if_neg (fun e => hJ0 (by rw [← lst_len, e]; rfl))]; rfl
            clear hv0 hJ0
            go_wp2_with fail
            go_ret3
            exact ⟨.inl ⟨HFIN.out, _, _, rfl⟩, HBL.out⟩
        · obtain ⟨g8, cap8, hsl, hg8b, hg8l⟩ := World.ownsRow.form HOv.out (by omega)
          simp only [Value.slice.injEq] at hsl
          obtain ⟨rfl, _, rfl⟩ := hsl
          have HC8 : Hid ((wr.alloc (.cells #[.int .i64 k, .int .u64 (m : Int), .string ⟨#[]⟩] 52)).ownsRow wc.heap.size 52 3 (.slice (some ⟨g8, 0, none⟩) vs.length capu) vs.length (flatI vs)) := HOv.out.alloc _
          have fin : ∀ g9 cap9 (w9 : World), w9.ownsRow w.heap.size 52 3 (.slice (some ⟨g9, 0, none⟩) (1 + vs.length) cap9) (1 + vs.length) (flatI [⟨k, m, ⟨#[]⟩⟩] ++ flatI vs) → (wr.alloc (.cells #[.int .i64 k, .int .u64 (m : Int), .string ⟨#[]⟩] 52)).grownBy w9 (Value.slice (some ⟨wr.heap.size, 0, none⟩) 1 1).ownBlock → OwnIt w.heap.size w9 (.slice (some ⟨g9, 0, none⟩) (1 + vs.length) cap9) (⟨k, m, ⟨#[]⟩⟩ :: vs) ∧ Below w.heap.size w w9 := fun g9 cap9 w9 hown9 hgrow => by
            refine ⟨?_, HBL.out.grown hgrow HBL.out.size (fun q hq => (World.ownsRow.lt HLI.out q hq).1)⟩
            unfold OwnIt
            rw [show (⟨k, m, ⟨#[]⟩⟩ :: vs : List It) = [⟨k, m, ⟨#[]⟩⟩] ++ vs from rfl, flatI_app, List.length_append]
            exact hown9
          have HF : Hid _ := fin
          clear fin
          by_cases hJ0 : J.size = 0
          · have hemp : J.toList.isEmpty = true := by rw [str_empty]; exact decide_eq_true hJ0
            have HFIN : Hid (rlD false ts (f + 1) a b.data.toList = some (⟨k, m, ⟨#[]⟩⟩ :: vs, R.data.toList)) := by
              show _ = _
              rw [HFX.out, if_pos (List.eq_nil_of_length_eq_zero (by rw [lst_len]; exact hJ0))]
              simp only [Option.map_some, List.append_nil]
              rw [HVS.out]
            clear hJ0
            go_wp2_with (at_builtin; refine wpList_append_lies _ rfl _ _ 25 rfl w.heap.size 52 i0 (.agg #[.int .i64 0, .int .u64 0, .string ByteArray.empty]) 3 32 Tryz.underlying25 hi hz0 hz1 hz2 rfl (by decide) (.slice (some ⟨wr.heap.size, 0, none⟩) 1 1) 1 (flatI [⟨k, m, ⟨#[]⟩⟩]) rfl HLI.out ⟨g8, 0, none⟩ vs.length capu (flatI vs) rfl (flatI_len vs) (fun j u hu => HC8.out.cells (g := g8) rfl j u hu) (flatI_one _) (by omega) (by unfold maxLen; omega) (by omega) (by simp; omega) _ rfl ?_)
            intro g9 cap9 w9 hown9 hgrow hat hlt9
            have HX : Hid _ := HF.out g9 cap9 w9 hown9 hgrow
            clear hown9 hgrow hat hlt9
            go_wp2_with fail
            go_ret3
            exact ⟨.inr ⟨_, _, _, HFIN.out, rfl, HX.out.1⟩, HX.out.2⟩
          · have hemp : J.toList.isEmpty = false := by rw [str_empty]; exact decide_eq_false hJ0
            have HFIN : Hid (rlD false ts (f + 1) a b.data.toList = none) := by
              show _ = _
              rw [HFX.out, if_neg (fun e => hJ0 (by rw [← lst_len, e]; rfl))]; rfl
            clear hJ0
            go_wp2_with (at_builtin; refine wpList_append_lies _ rfl _ _ 25 rfl w.heap.size 52 i0 (.agg #[.int .i64 0, .int .u64 0, .string ByteArray.empty]) 3 32 Tryz.underlying25 hi hz0 hz1 hz2 rfl (by decide) (.slice (some ⟨wr.heap.size, 0, none⟩) 1 1) 1 (flatI [⟨k, m, ⟨#[]⟩⟩]) rfl HLI.out ⟨g8, 0, none⟩ vs.length capu (flatI vs) rfl (flatI_len vs) (fun j u hu => HC8.out.cells (g := g8) rfl j u hu) (flatI_one _) (by omega) (by unfold maxLen; omega) (by omega) (by simp; omega) _ rfl ?_)
            intro g9 cap9 w9 hown9 hgrow hat hlt9
            have HX : Hid _ := HF.out g9 cap9 w9 hown9 hgrow
            clear hown9 hgrow hat hlt9
            go_wp2_with fail
            go_ret3
            exact ⟨.inl ⟨HFIN.out, _, _, rfl⟩, HX.out.2⟩
end Go.Proofs.YtdncnjmlicdamaaGreatDoor
