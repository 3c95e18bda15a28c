/- S3g, S3h, S3i, S3j: one text. -/
import Derived.Test.YtdncnjmlicdamaaGreatDoorS3f
namespace Go.Proofs.YtdncnjmlicdamaaGreatDoor
open Go.RowKit Go.Sort
set_option linter.unusedVariables false
theorem bel2 (w : World) (o o' : Obj) : Below w.heap.size w ((w.alloc o).alloc o') := ((Below.refl _ _).alloc (Nat.le_refl _) _).alloc (by simp) _
theorem fitsI_mk {k n : Int} {x : It} (h : x.k = k) : fitsI k n x = (fitsN k n x.n && fitsS k n x.s.size) := by simp [fitsI, h]
theorem fitsI_no {k n : Int} {x : It} (h : x.k ≠ k) : fitsI k n x = false := by simp [fitsI, h]
set_option maxRecDepth 100000 in
set_option maxHeartbeats 2000000 in
theorem l3Fits_any (k n : Int) (x : It) (w : World) (hok : tyOk k n = true) (hm : x.n < 18446744073709551616) (hs : x.s.size ≤ 1048577) : Calls Tryz.prog 53 #[.agg #[.int .i64 k, .int .i64 n], .agg #[.int .i64 x.k, .int .u64 x.n, .string x.s]] w fun e w' => e = .returned (.bool (fitsI k n x)) ∧ Below w.heap.size w w' := by
  by_cases hx : x.k = k
  · rw [fitsI_mk hx, hx]
    obtain ⟨xk, m, s⟩ := x
    simp only at hx hm hs ⊢
    subst hx
    simp only [tyOk, decide_eq_true_eq] at hok
    have hk : xk = 1 ∨ xk = 2 ∨ xk = 3 ∨ xk = 4 ∨ xk = 5 ∨ xk = 6 ∨ xk = 7 ∨ xk = 8 ∨ xk = 9 := by omega
    have hse := str_empty s
    rcases hk with rfl | hk
    · have hn : n = 8 ∨ n = 16 ∨ n = 32 ∨ n = 64 := by omega
      have hnn : ∃ q : Nat, q ≤ 8 ∧ n = 8 * (q : Int) := by
        rcases hn with rfl | rfl | rfl | rfl
        · exact ⟨1, by omega, by omega⟩
        · exact ⟨2, by omega, by omega⟩
        · exact ⟨4, by omega, by omega⟩
        · exact ⟨8, by omega, by omega⟩
      have HF : Hid (∀ w, ∀ q : Nat, q ≤ 8 → n = 8 * (q : Int) → Calls Tryz.prog 72 #[.int .u64 m, .int .i64 q] w fun e w' => e = .returned (.bool (fitsN 1 n m)) ∧ w' = w) := fun w q hq hnq => by
        have := l1Fits_any m q w hq hm
        have e : fitsN 1 n m = decide (m < 2 ^ (8 * q)) := by rw [fitsN_1, show n.toNat = 8 * q by omega]
        rwa [← e] at this
      have hfs : fitsS 1 n s.size = s.toList.isEmpty := by rw [fitsS_rest (by decide) (by decide), hse]
      have HFS : Hid (fitsS 1 n s.size = s.toList.isEmpty) := hfs
      obtain ⟨fn, hfn⟩ : ∃ fn, fitsN 1 n m = fn := ⟨_, rfl⟩
      rw [hfn] at HF ⊢
      rw [hfs]
      clear hok hse hfs hfn hnn
      cases hE : s.toList.isEmpty with
      | false =>
        clear hn
        go_enter Tryz.func53, Tryz.ntmps53
        go_wp2_with fail
        go_ret
        exact ⟨ret_b (by simp), bel2 _ _ _⟩
      | true =>
        rcases hn with rfl | rfl | rfl | rfl
        · have HG : Hid (∀ w, Calls Tryz.prog 72 #[.int .u64 m, .int .i64 1] w fun e w' => e = .returned (.bool fn) ∧ w' = w) := fun w => HF.out w 1 (by omega) (by omega)
          clear HF
          go_enter Tryz.func53, Tryz.ntmps53
          go_wp2_with fail
          refine (HG.out _).mono ?_
          rintro e w2 ⟨rfl, rfl⟩
          go_wp2_with fail
          go_ret
          exact ⟨ret_b (by simp), bel2 _ _ _⟩
        · have HG : Hid (∀ w, Calls Tryz.prog 72 #[.int .u64 m, .int .i64 2] w fun e w' => e = .returned (.bool fn) ∧ w' = w) := fun w => HF.out w 2 (by omega) (by omega)
          clear HF
          go_enter Tryz.func53, Tryz.ntmps53
          go_wp2_with fail
          refine (HG.out _).mono ?_
          rintro e w2 ⟨rfl, rfl⟩
          go_wp2_with fail
          go_ret
          exact ⟨ret_b (by simp), bel2 _ _ _⟩
        · have HG : Hid (∀ w, Calls Tryz.prog 72 #[.int .u64 m, .int .i64 4] w fun e w' => e = .returned (.bool fn) ∧ w' = w) := fun w => HF.out w 4 (by omega) (by omega)
          clear HF
          go_enter Tryz.func53, Tryz.ntmps53
          go_wp2_with fail
          refine (HG.out _).mono ?_
          rintro e w2 ⟨rfl, rfl⟩
          go_wp2_with fail
          go_ret
          exact ⟨ret_b (by simp), bel2 _ _ _⟩
        · have HG : Hid (∀ w, Calls Tryz.prog 72 #[.int .u64 m, .int .i64 8] w fun e w' => e = .returned (.bool fn) ∧ w' = w) := fun w => HF.out w 8 (by omega) (by omega)
          clear HF
          go_enter Tryz.func53, Tryz.ntmps53
          go_wp2_with fail
          refine (HG.out _).mono ?_
          rintro e w2 ⟨rfl, rfl⟩
          go_wp2_with fail
          go_ret
          exact ⟨ret_b (by simp), bel2 _ _ _⟩
    · have hn : 0 ≤ n ∧ n ≤ 200 := by omega
      obtain ⟨N, rfl⟩ := Int.eq_ofNat_of_zero_le hn.1
      clear hok
      rcases hk with rfl | rfl | rfl | rfl | rfl | rfl | rfl | rfl
      all_goals
        have HSE : Hid (s.toList.isEmpty = decide (s.size = 0)) := hse
        clear hse
        obtain ⟨b, hE⟩ : ∃ b, s.toList.isEmpty = b := ⟨_, rfl⟩
        have HZ : Hid (decide (s.size = 0) = b) := by show _ = _; rw [← HSE.out]; exact hE
        clear HSE
        cases b
        all_goals
          by_cases hm0 : m = 0
          · subst hm0
            go_enter Tryz.func53, Tryz.ntmps53
            go_wp2_with fail
            go_ret
            exact ⟨ret_b (by have hz := HZ.out; clear HZ hE; simp at hz; simp [fitsN, fitsS, beq_dec, hz] <;> first | done | omega), bel2 _ _ _⟩
          · have hm1 : ((m : Int) == 0) = false := beqF (by omega)
            go_enter Tryz.func53, Tryz.ntmps53
            go_wp2_with fail
            go_ret
            exact ⟨ret_b (by have hz := HZ.out; clear HZ hE; simp at hz; simp [fitsN, fitsS, beq_dec, hz, hm0] <;> first | done | omega), bel2 _ _ _⟩
  · rw [fitsI_no hx]
    have hq : (x.k != k) = true := by rw [bne_iff_ne]; exact hx
    clear hok
    go_enter Tryz.func53, Tryz.ntmps53
    go_wp2_with fail
    go_ret
    exact ⟨rfl, bel2 _ _ _⟩
end Go.Proofs.YtdncnjmlicdamaaGreatDoor
namespace Go.Proofs.YtdncnjmlicdamaaGreatDoor
open Go.RowKit Go.Sort
set_option linter.unusedVariables false
theorem Tryz.infoI64 : (Tryz.prog.info? 2).map (fun i => (i.zero, i.size, i.bytes)) = some (some (.int .i64 0), 1, 8) := by kernel_rfl
def plRow (ts : List (Int × Int)) (f a : Nat) (k : Int) (m : Nat) : List Value := (List.range (np k m)).map fun j => .int .i64 (pl ts f a k m j : Nat)
/-- What l3Plan leaves. -/
def PlPost (ts : List (Int × Int)) (f a : Nat) (k : Int) (m : Nat) (w : World) (e : Ending) (w' : World) : Prop :=
  ∃ vp, e = .returned vp ∧ w'.ownsRow w.heap.size 2 1 vp (np k m) (plRow ts f a k m) ∧ Below w.heap.size w w'
theorem own_b {w : World} {b b' e size : Nat} {v : Value} {n : Nat} {xs : List Value} (h : w.ownsRow b e size v n xs) (hb : b' ≤ b) : w.ownsRow b' e size v n xs := by
  refine ⟨h.1, ?_⟩
  rcases h.2 with h2 | ⟨g, cap, cur, hv, hg, r⟩
  · exact .inl h2
  · exact .inr ⟨g, cap, cur, hv, by omega, r⟩
theorem own_nil (w : World) (xs : Array Value) (ty : TypeId) : ((w.alloc (.cells xs ty)).alloc (.cells #[] 2)).ownsRow (w.heap.size + 1) 2 1 (.slice (some ⟨w.heap.size + 1, 0, none⟩) 0 0) 0 [] := by
  have ho := World.ownsRow_lit (base := w.heap.size + 1) (e := 2) (size := 1) (w.alloc (.cells xs ty)) #[] 0 (by simp) (by decide) rfl
  simpa using ho
/-- The places of the parts of a struct, the first j of them; of a union, as far as j. -/
def rowS (g : Nat → Option Nat) (a m j : Nat) : List Value := (List.range j).map fun i => .int .i64 (((iter g (a + 1) i).getD 0 : Nat) : Int)
def rowU (g : Nat → Option Nat) (a m j : Nat) : List Value := if m < j then [.int .i64 (((iter g (a + 1) m).getD 0 : Nat) : Int)] else []
theorem rowS_len (g : Nat → Option Nat) (a m j : Nat) : (rowS g a m j).length ≤ j := by simp [rowS]
theorem rowU_len (g : Nat → Option Nat) (a m j : Nat) : (rowU g a m j).length ≤ j := by unfold rowU; split <;> simp; omega
theorem rowS_take {g : Nat → Option Nat} {a m j y : Nat} (h : iter g (a + 1) j = some y) : rowS g a m (j + 1) = rowS g a m j ++ [.int .i64 (y : Int)] := by simp [rowS, List.range_succ, h]
theorem rowU_take {g : Nat → Option Nat} {a m j y : Nat} (h : iter g (a + 1) j = some y) (hj : j = m) : rowU g a m (j + 1) = rowU g a m j ++ [.int .i64 (y : Int)] := by subst hj; simp [rowU, h]
theorem rowU_skip {g : Nat → Option Nat} {a m j : Nat} (hj : ¬ j = m) : rowU g a m (j + 1) = rowU g a m j := by
  unfold rowU
  by_cases h : m < j
  · rw [if_pos h, if_pos (by omega)]
  · rw [if_neg h, if_neg (by omega)]
set_option maxRecDepth 100000 in
set_option maxHeartbeats 2000000 in
theorem plan_rep (ts : List (Int × Int)) (f a : Nat) (x : It) (v : Value) (w : World) (hv : IsTyps w.heap.size w v ts) (ha : a < ts.length) (hok : tyOk ts[a].1 ts[a].2 = true) (hfn : fitsN ts[a].1 ts[a].2 x.n = true) (hk : ts[a].1 = 5 ∨ ts[a].1 = 6 ∨ ts[a].1 = 8) :
    Calls Tryz.prog 37 #[v, .int .i64 a, .agg #[.int .i64 x.k, .int .u64 x.n, .string x.s]] w fun e w' => PlPost ts f a ts[a].1 x.n w e w' := by
  obtain ⟨i0, hi, hz0, hz1, hz2⟩ := info_parts Tryz.infoI64
  have hm20 : x.n ≤ 20 := by have := np_le hok hfn; unfold np at this; rw [if_pos (by omega)] at this; exact this
  have hnp : np ts[a].1 x.n = x.n := by unfold np; rw [if_pos (by omega)]
  have HNP : Hid (np ts[a].1 x.n = x.n) := hnp
  have HRW : Hid (plRow ts f a ts[a].1 x.n = (List.range x.n).map fun _ => .int .i64 ((a + 1 : Nat) : Int)) := by
    show _ = _
    unfold plRow
    rw [hnp]
    apply List.map_congr_left
    intro j _
    have : pl ts f a ts[a].1 x.n j = a + 1 := by unfold pl; rw [if_neg (by omega), if_neg (by omega)]
    rw [this]
  have hsm := hv.small
  obtain ⟨b, o, cap, hv', hb, h1, h2, c0, c1⟩ := hv.at ha
  unfold PlPost
  generalize ts[a].1 = k at *
  subst hv'
  obtain ⟨xk, m, s⟩ := x
  simp only at hm20 HNP HRW ⊢
  unfold maxLen at h2
  clear hv hok hfn hnp c1
  have hbs : b < (w.alloc (.cells #[.int .i64 xk, .int .u64 m, .string s] 52)).heap.size := by simp; omega
  rcases hk with rfl | rfl | rfl
  all_goals
    go_enter Tryz.func37, Tryz.ntmps37
    go_wp2_with fail
    go_loopg [7, 8] m (fun gk vp i wr => ∃ j : Nat, j + gk = m ∧ i = .int .u64 j ∧ wr.ownsRow (w.heap.size + 1) 2 1 vp j ((List.range j).map fun _ => .int .i64 ((a + 1 : Nat) : Int)) ∧ Below (w.heap.size + 1) (w.alloc (.cells #[.int .i64 xk, .int .u64 m, .string s] 52)) wr)
    case atStart => exact ⟨0, by omega, rfl, (by simpa using own_nil w #[.int .i64 xk, .int .u64 m, .string s] 52), (Below.refl _ _).alloc (by simp) _⟩
    case round =>
      obtain ⟨j, hj', rfl, hown, hbel⟩ := hrel
      have HJ : Hid (j + gk = m) := hj'
      have hj : j ≤ m := by omega
      have HO : Hid (wr.ownsRow (w.heap.size + 1) 2 1 u7 j ((List.range j).map fun _ => .int .i64 ((a + 1 : Nat) : Int))) := hown
      have HB : Hid (Below (w.heap.size + 1) (w.alloc (.cells #[.int .i64 xk, .int .u64 m, .string s] 52)) wr) := hbel
      have d1 : wr.cell? ⟨w.heap.size, 1, none⟩ = some (.int .u64 m) := by rw [hbel.cell (p := ⟨w.heap.size, 1, none⟩) (by simp)]; simp [go_sem]
      have hsr : w.heap.size < wr.heap.size := by have := hbel.size; simp at this; omega
      clear hj' hown hbel
      by_cases hjm : j < m
      · go_wp2_with (at_builtin; refine wpList_append_lies _ rfl _ _ 76 rfl (w.heap.size + 1) 2 i0 (.int .i64 0) 1 8 Tryz.underlying76 hi hz0 hz1 hz2 rfl (by decide) u7 j _ rfl (HO.out.alloc _) ⟨wr.heap.size, 0, none⟩ 1 1 [.int .i64 ((a + 1 : Nat) : Int)] rfl rfl ?c1 ?c2 (by omega) ?c3 ?c4 ?c5 (wr.heap.size + 1) (by simp) ?_)
        case c1 =>
          intro i u hi
          match i, hi with
          | 0, hi => simp at hi; subst hi; simp [Addr.add]
        case c2 => intro u hu; simp at hu; subst hu; rfl
        case c3 => unfold maxLen; omega
        case c4 => omega
        case c5 => simp; omega
        intro g cap' w4 hown' hgrow hat hlt'
        have HX : Hid (w4.ownsRow (w.heap.size + 1) 2 1 (.slice (some ⟨g, 0, none⟩) (j + 1) cap') (j + 1) ((List.range (j + 1)).map fun _ => .int .i64 ((a + 1 : Nat) : Int)) ∧ Below (w.heap.size + 1) (w.alloc (.cells #[.int .i64 xk, .int .u64 m, .string s] 52)) w4) := by
          refine ⟨by rw [List.range_succ, List.map_append]; exact hown', (HB.out.alloc (by omega) _).grown hgrow (by simp; omega) (fun q hq => (HO.out.lt q hq).1)⟩
        clear hown' hgrow hat hlt' d1
        go_wp2_with fail
        go_roundg (gk - 1)
        case rel => exact ⟨j + 1, by have := HJ.out; omega, by go_num, HX.out.1, HX.out.2⟩
        case measure => have := HJ.out; omega
      · have e1 : j = m := by omega
        subst e1
        have HX : Hid (wr.ownsRow w.heap.size 2 1 u7 j ((List.range j).map fun _ => .int .i64 ((a + 1 : Nat) : Int)) ∧ Below w.heap.size w wr) := ⟨own_b HO.out (by omega), (bel1 _ _).trans (HB.out.mono (by omega))⟩
        go_wp2_with fail
        go_ret
        exact ⟨_, rfl, by rw [HNP.out, HRW.out]; exact HX.out.1, HX.out.2⟩
set_option maxRecDepth 100000 in
set_option maxHeartbeats 2000000 in
theorem plan_flat (ts : List (Int × Int)) (f a : Nat) (x : It) (v : Value) (w : World) (hv : IsTyps w.heap.size w v ts) (ha : a < ts.length) (hk : ts[a].1 = 1 ∨ ts[a].1 = 2 ∨ ts[a].1 = 3 ∨ ts[a].1 = 4) :
    Calls Tryz.prog 37 #[v, .int .i64 a, .agg #[.int .i64 x.k, .int .u64 x.n, .string x.s]] w fun e w' => PlPost ts f a ts[a].1 x.n w e w' := by
  have hnp : np ts[a].1 x.n = 0 := by unfold np; rw [if_neg (by omega), if_neg (by omega)]
  have HNP : Hid (np ts[a].1 x.n = 0) := hnp
  have HRW : Hid (plRow ts f a ts[a].1 x.n = []) := by show _ = _; unfold plRow; rw [hnp]; rfl
  have hsm := hv.small
  obtain ⟨b, o, cap, hv', hb, h1, h2, c0, c1⟩ := hv.at ha
  unfold PlPost
  generalize ts[a].1 = k at *
  subst hv'
  obtain ⟨xk, m, s⟩ := x
  simp only at HNP HRW ⊢
  unfold maxLen at h2
  clear hv hnp c1
  have ho := World.ownsRow_lit (base := w.heap.size) (e := 2) (size := 1) (w.alloc (.cells #[.int .i64 xk, .int .u64 m, .string s] 52)) #[] 0 (by simp) (by decide) rfl
  have HO : Hid (((w.alloc (.cells #[.int .i64 xk, .int .u64 m, .string s] 52)).alloc (.cells #[] 2)).ownsRow w.heap.size 2 1 (.slice (some ⟨(w.alloc (.cells #[.int .i64 xk, .int .u64 m, .string s] 52)).heap.size, 0, none⟩) 0 0) 0 []) := ho
  clear ho
  rcases hk with rfl | rfl | rfl | rfl
  all_goals
    go_enter Tryz.func37, Tryz.ntmps37
    go_wp2_with fail
    go_ret
    exact ⟨_, rfl, by rw [HNP.out, HRW.out]; simpa using HO.out, bel2 _ _ _⟩
set_option maxRecDepth 100000 in
set_option maxHeartbeats 4000000 in
theorem plan_struct (ts : List (Int × Int)) (f a e0 : Nat) (x : It) (v : Value) (w : World) (hf7 : f ≤ 7) (hv : IsTyps w.heap.size w v ts) (ha : a < ts.length) (hok : tyOk ts[a].1 ts[a].2 = true) (hit : iter (en ts f) (a + 1) (kids ts[a].1 ts[a].2) = some e0) (hfn : fitsN ts[a].1 ts[a].2 x.n = true) (hk : ts[a].1 = 7) :
    Calls Tryz.prog 37 #[v, .int .i64 a, .agg #[.int .i64 x.k, .int .u64 x.n, .string x.s]] w fun e w' => PlPost ts f a ts[a].1 x.n w e w' := by
  obtain ⟨i0, hi, hz0, hz1, hz2⟩ := info_parts Tryz.infoI64
  have hN0 : 0 ≤ ts[a].2 ∧ ts[a].2 ≤ 6 := by simp only [tyOk, decide_eq_true_eq] at hok; omega
  obtain ⟨N, hN⟩ := Int.eq_ofNat_of_zero_le hN0.1
  have hN6 : N ≤ 6 := by omega
  have hkids : kids ts[a].1 ts[a].2 = N := by unfold kids; rw [if_neg (by omega), if_pos (by omega), hN]; rfl
  rw [hkids] at hit
  skip
  have HST : Hid (∀ i, i < N → ∃ y y', iter (en ts f) (a + 1) i = some y ∧ iter (en ts f) (a + 1) (i + 1) = some y' ∧ en ts 7 y = some y' ∧ y ≤ ts.length) := fun i hi => by
    obtain ⟨y, hy⟩ := iter_part hit (show i ≤ N by omega)
    obtain ⟨y', hy'⟩ := iter_part hit (show i + 1 ≤ N by omega)
    have h1 := hy'
    rw [iter_succ, hy] at h1
    have h2 : en ts f y = some y' := h1
    exact ⟨y, y', hy, hy', en_mono hf7 h2, by have := en_lt h2; omega⟩
  have HNP : Hid (np ts[a].1 x.n = N) := by show _ = _; unfold np; rw [if_pos (by omega)]; have := hfn; unfold fitsN at this; rw [if_neg (by omega), if_neg (by omega), if_neg (by omega), if_pos (by omega)] at this; have := of_decide_eq_true this; omega
  have HRW : Hid (plRow ts f a ts[a].1 x.n = rowS (en ts f) a x.n N) := by
    show _ = _
    unfold plRow
    rw [HNP.out]
    unfold rowS
    apply List.map_congr_left
    intro j hj
    have : pl ts f a ts[a].1 x.n j = (iter (en ts f) (a + 1) j).getD 0 := by unfold pl; rw [if_pos (by omega)]
    rw [this]
  have hsm := hv.small
  have HV : Hid (IsTyps w.heap.size w v ts) := hv
  obtain ⟨b, o, cap, hv', hb, h1, h2, c0, c1⟩ := hv.at ha
  unfold PlPost
  rw [hk] at HNP HRW c0 ⊢
  rw [hN] at c1
  subst hv'
  obtain ⟨xk, m, s⟩ := x
  simp only at HNP HRW ⊢ 
  unfold maxLen at h2
  clear hv hok hfn hit hkids hN0 hN hk
  go_enter Tryz.func37, Tryz.ntmps37
  go_wp2_with fail
  go_loopg [7, 9, 10] N (fun gk vp p i wr => ∃ j y : Nat, j + gk = N ∧ i = .int .u64 j ∧ p = .int .i64 y ∧ iter (en ts f) (a + 1) j = some y ∧ wr.ownsRow (w.heap.size + 1) 2 1 vp (rowS (en ts f) a m j).length (rowS (en ts f) a m j) ∧ Below (w.heap.size + 1) (w.alloc (.cells #[.int .i64 xk, .int .u64 m, .string s] 52)) wr)
  case atStart => exact ⟨0, a + 1, by omega, rfl, by go_num, rfl, (by simpa [rowS] using own_nil w #[.int .i64 xk, .int .u64 m, .string s] 52), (Below.refl _ _).alloc (by simp) _⟩
  case round =>
    obtain ⟨j, y, hj', rfl, rfl, hy, hown, hbel⟩ := hrel
    have HJ : Hid (j + gk = N) := hj'
    have hj : j ≤ N := by omega
    have HY : Hid (iter (en ts f) (a + 1) j = some y) := hy
    have HO : Hid (wr.ownsRow (w.heap.size + 1) 2 1 u7 (rowS (en ts f) a m j).length (rowS (en ts f) a m j)) := hown
    have HB : Hid (Below (w.heap.size + 1) (w.alloc (.cells #[.int .i64 xk, .int .u64 m, .string s] 52)) wr) := hbel
    have hBw : Below w.heap.size w wr := (bel1 _ _).trans (hbel.mono (by omega))
    have HBW : Hid (Below w.heap.size w wr) := hBw
    have d1 : wr.cell? ⟨w.heap.size, 1, none⟩ = some (.int .u64 m) := by rw [hbel.cell (p := ⟨w.heap.size, 1, none⟩) (by simp)]; simp [go_sem]
    have e0' : wr.cell? ⟨b, o + a * 2, none⟩ = some (.int .i64 7) := by rw [hBw.cell (p := ⟨b, o + a * 2, none⟩) ‹_›]; exact c0
    have e1' : wr.cell? ⟨b, o + a * 2 + 1, none⟩ = some (.int .i64 (N : Int)) := by rw [hBw.cell (p := ⟨b, o + a * 2 + 1, none⟩) ‹_›]; exact c1
    have hsr : w.heap.size < wr.heap.size := by have := hbel.size; simp at this; omega
    have hrl : (rowS (en ts f) a m j).length ≤ 6 := Nat.le_trans (rowS_len _ _ _ _) (by omega)
    clear hj' hown hbel hy hBw
    by_cases hjm : j < N
    · obtain ⟨y0, y1, q1, q2, q3, q4⟩ := HST.out j hjm
      have ey : y0 = y := by rw [HY.out] at q1; injection q1 with q1; exact q1.symm
      subst ey
      have HQ2 : Hid (iter (en ts f) (a + 1) (j + 1) = some y1) := q2
      have HSK : Hid (∀ w', Below w.heap.size w w' → Calls Tryz.prog 57 #[.slice (some ⟨b, o, none⟩) ts.length cap, .int .i64 y0] w' fun e w'' => e = .returned (.int .i64 y1) ∧ Below w'.heap.size w' w'') := fun w' hb' => by
        have := l2Skip_any ts y0 (.slice (some ⟨b, o, none⟩) ts.length cap) w' (by omega) ((HV.out.below hb').up hb'.size)
        rw [q3] at this
        exact this
      clear q1 q2 q3
      go_wp2_with (at_builtin; refine wpList_append_lies _ rfl _ _ 76 rfl (w.heap.size + 1) 2 i0 (.int .i64 0) 1 8 Tryz.underlying76 hi hz0 hz1 hz2 rfl (by decide) u7 (rowS (en ts f) a m j).length _ rfl (HO.out.alloc _) ⟨wr.heap.size, 0, none⟩ 1 1 [.int .i64 (y0 : Int)] rfl rfl ?c1 ?c2 (by omega) ?c3 ?c4 ?c5 (wr.heap.size + 1) (by simp) ?_)
      case c1 =>
        intro i u hi
        match i, hi with
        | 0, hi => simp at hi; subst hi; simp [Addr.add]
      case c2 => intro u hu; simp at hu; subst hu; rfl
      case c3 => unfold maxLen; omega
      case c4 => omega
      case c5 => simp; omega
      intro g cap' w4 hown' hgrow hat hlt'
      have B4 : Below (w.heap.size + 1) (w.alloc (.cells #[.int .i64 xk, .int .u64 m, .string s] 52)) w4 := (HB.out.alloc (by omega) _).grown hgrow (by simp; omega) (fun q hq => (HO.out.lt q hq).1)
      have HR : Hid (rowS (en ts f) a m (j + 1) = rowS (en ts f) a m j ++ [.int .i64 (y0 : Int)]) := rowS_take HY.out 
      have HX : Hid (w4.ownsRow (w.heap.size + 1) 2 1 (.slice (some ⟨g, 0, none⟩) ((rowS (en ts f) a m j).length + 1) cap') (rowS (en ts f) a m (j + 1)).length (rowS (en ts f) a m (j + 1)) ∧ Below (w.heap.size + 1) (w.alloc (.cells #[.int .i64 xk, .int .u64 m, .string s] 52)) w4) := by
        refine ⟨?_, B4⟩
        rw [HR.out, List.length_append]
        exact hown'
      have HB4 : Hid (Below w.heap.size w w4) := (bel1 _ _).trans (B4.mono (by omega))
      clear hown' hgrow hat hlt' d1 e0' e1' B4
      go_wp2_with fail
      refine (HSK.out w4 HB4.out).mono ?_
      rintro e w5 ⟨rfl, hb5⟩
      have HZ : Hid (w5.ownsRow (w.heap.size + 1) 2 1 (.slice (some ⟨g, 0, none⟩) ((rowS (en ts f) a m j).length + 1) cap') (rowS (en ts f) a m (j + 1)).length (rowS (en ts f) a m (j + 1)) ∧ Below (w.heap.size + 1) (w.alloc (.cells #[.int .i64 xk, .int .u64 m, .string s] 52)) w5) :=
        ⟨HX.out.1.kept (gb_bel hb5) (by simp [Value.ownBlock]), HX.out.2.trans (hb5.mono (by have := HX.out.2.size; simp at this; omega))⟩
      clear hb5
      go_wp2_with fail
      go_roundg (gk - 1)
      case rel => exact ⟨j + 1, y1, by have := HJ.out; omega, by go_num, rfl, HQ2.out, HZ.out.1, HZ.out.2⟩
      case measure => have := HJ.out; omega
    · have ej : j = N := by omega
      subst ej
      have HLN : (rowS (en ts f) a m j).length = j := by simp [rowS]
      have HX : Hid (wr.ownsRow w.heap.size 2 1 u7 j (rowS (en ts f) a m j) ∧ Below w.heap.size w wr) := ⟨by have := own_b HO.out (show w.heap.size ≤ w.heap.size + 1 by omega); rwa [HLN] at this, HBW.out⟩
      clear HLN
      go_wp2_with fail
      go_ret
      exact ⟨_, rfl, by rw [HNP.out, HRW.out]; exact HX.out.1, HX.out.2⟩
set_option maxRecDepth 100000 in
set_option maxHeartbeats 4000000 in
theorem plan_union (ts : List (Int × Int)) (f a e0 : Nat) (x : It) (v : Value) (w : World) (hf7 : f ≤ 7) (hv : IsTyps w.heap.size w v ts) (ha : a < ts.length) (hok : tyOk ts[a].1 ts[a].2 = true) (hit : iter (en ts f) (a + 1) (kids ts[a].1 ts[a].2) = some e0) (hfn : fitsN ts[a].1 ts[a].2 x.n = true) (hk : ts[a].1 = 9) :
    Calls Tryz.prog 37 #[v, .int .i64 a, .agg #[.int .i64 x.k, .int .u64 x.n, .string x.s]] w fun e w' => PlPost ts f a ts[a].1 x.n w e w' := by
  obtain ⟨i0, hi, hz0, hz1, hz2⟩ := info_parts Tryz.infoI64
  have hN0 : 0 ≤ ts[a].2 ∧ ts[a].2 ≤ 6 := by simp only [tyOk, decide_eq_true_eq] at hok; omega
  obtain ⟨N, hN⟩ := Int.eq_ofNat_of_zero_le hN0.1
  have hN6 : N ≤ 6 := by omega
  have hkids : kids ts[a].1 ts[a].2 = N := by unfold kids; rw [if_neg (by omega), if_pos (by omega), hN]; rfl
  rw [hkids] at hit
  have hmN : x.n < N := by have := hfn; unfold fitsN at this; rw [if_neg (by omega), if_neg (by omega), if_neg (by omega), if_neg (by omega), if_pos (by omega)] at this; have := of_decide_eq_true this; omega
  have HST : Hid (∀ i, i < N → ∃ y y', iter (en ts f) (a + 1) i = some y ∧ iter (en ts f) (a + 1) (i + 1) = some y' ∧ en ts 7 y = some y' ∧ y ≤ ts.length) := fun i hi => by
    obtain ⟨y, hy⟩ := iter_part hit (show i ≤ N by omega)
    obtain ⟨y', hy'⟩ := iter_part hit (show i + 1 ≤ N by omega)
    have h1 := hy'
    rw [iter_succ, hy] at h1
    have h2 : en ts f y = some y' := h1
    exact ⟨y, y', hy, hy', en_mono hf7 h2, by have := en_lt h2; omega⟩
  have HNP : Hid (np ts[a].1 x.n = 1) := by show _ = _; unfold np; rw [if_neg (by omega), if_pos (by omega)]
  have HRW : Hid (plRow ts f a ts[a].1 x.n = rowU (en ts f) a x.n N) := by
    show _ = _
    unfold plRow
    rw [HNP.out]
    unfold rowU
    rw [if_pos hmN]
    have : pl ts f a ts[a].1 x.n 0 = (iter (en ts f) (a + 1) x.n).getD 0 := by unfold pl; rw [if_neg (by omega), if_pos (by omega)]
    simp [List.range_succ, this]
  have hsm := hv.small
  have HV : Hid (IsTyps w.heap.size w v ts) := hv
  obtain ⟨b, o, cap, hv', hb, h1, h2, c0, c1⟩ := hv.at ha
  unfold PlPost
  rw [hk] at HNP HRW c0 ⊢
  rw [hN] at c1
  subst hv'
  obtain ⟨xk, m, s⟩ := x
  simp only at HNP HRW ⊢ hmN
  unfold maxLen at h2
  clear hv hok hfn hit hkids hN0 hN hk
  go_enter Tryz.func37, Tryz.ntmps37
  go_wp2_with fail
  go_loopg [7, 9, 10] N (fun gk vp p i wr => ∃ j y : Nat, j + gk = N ∧ i = .int .u64 j ∧ p = .int .i64 y ∧ iter (en ts f) (a + 1) j = some y ∧ wr.ownsRow (w.heap.size + 1) 2 1 vp (rowU (en ts f) a m j).length (rowU (en ts f) a m j) ∧ Below (w.heap.size + 1) (w.alloc (.cells #[.int .i64 xk, .int .u64 m, .string s] 52)) wr)
  case atStart => exact ⟨0, a + 1, by omega, rfl, by go_num, rfl, (by simpa [rowU] using own_nil w #[.int .i64 xk, .int .u64 m, .string s] 52), (Below.refl _ _).alloc (by simp) _⟩
  case round =>
    obtain ⟨j, y, hj', rfl, rfl, hy, hown, hbel⟩ := hrel
    have HJ : Hid (j + gk = N) := hj'
    have hj : j ≤ N := by omega
    have HY : Hid (iter (en ts f) (a + 1) j = some y) := hy
    have HO : Hid (wr.ownsRow (w.heap.size + 1) 2 1 u7 (rowU (en ts f) a m j).length (rowU (en ts f) a m j)) := hown
    have HB : Hid (Below (w.heap.size + 1) (w.alloc (.cells #[.int .i64 xk, .int .u64 m, .string s] 52)) wr) := hbel
    have hBw : Below w.heap.size w wr := (bel1 _ _).trans (hbel.mono (by omega))
    have HBW : Hid (Below w.heap.size w wr) := hBw
    have d1 : wr.cell? ⟨w.heap.size, 1, none⟩ = some (.int .u64 m) := by rw [hbel.cell (p := ⟨w.heap.size, 1, none⟩) (by simp)]; simp [go_sem]
    have e0' : wr.cell? ⟨b, o + a * 2, none⟩ = some (.int .i64 9) := by rw [hBw.cell (p := ⟨b, o + a * 2, none⟩) ‹_›]; exact c0
    have e1' : wr.cell? ⟨b, o + a * 2 + 1, none⟩ = some (.int .i64 (N : Int)) := by rw [hBw.cell (p := ⟨b, o + a * 2 + 1, none⟩) ‹_›]; exact c1
    have hsr : w.heap.size < wr.heap.size := by have := hbel.size; simp at this; omega
    have hrl : (rowU (en ts f) a m j).length ≤ 6 := Nat.le_trans (rowU_len _ _ _ _) (by omega)
    clear hj' hown hbel hy hBw
    by_cases hjm : j < N
    · obtain ⟨y0, y1, q1, q2, q3, q4⟩ := HST.out j hjm
      have ey : y0 = y := by rw [HY.out] at q1; injection q1 with q1; exact q1.symm
      subst ey
      have HQ2 : Hid (iter (en ts f) (a + 1) (j + 1) = some y1) := q2
      have HSK : Hid (∀ w', Below w.heap.size w w' → Calls Tryz.prog 57 #[.slice (some ⟨b, o, none⟩) ts.length cap, .int .i64 y0] w' fun e w'' => e = .returned (.int .i64 y1) ∧ Below w'.heap.size w' w'') := fun w' hb' => by
        have := l2Skip_any ts y0 (.slice (some ⟨b, o, none⟩) ts.length cap) w' (by omega) ((HV.out.below hb').up hb'.size)
        rw [q3] at this
        exact this
      clear q1 q2 q3
      by_cases hjx : j = m
      · subst hjx
        go_wp2_with (at_builtin; refine wpList_append_lies _ rfl _ _ 76 rfl (w.heap.size + 1) 2 i0 (.int .i64 0) 1 8 Tryz.underlying76 hi hz0 hz1 hz2 rfl (by decide) u7 (rowU (en ts f) a j j).length _ rfl (HO.out.alloc _) ⟨wr.heap.size, 0, none⟩ 1 1 [.int .i64 (y0 : Int)] rfl rfl ?c1 ?c2 (by omega) ?c3 ?c4 ?c5 (wr.heap.size + 1) (by simp) ?_)
        case c1 =>
          intro i u hi
          match i, hi with
          | 0, hi => simp at hi; subst hi; simp [Addr.add]
        case c2 => intro u hu; simp at hu; subst hu; rfl
        case c3 => unfold maxLen; omega
        case c4 => omega
        case c5 => simp; omega
        intro g cap' w4 hown' hgrow hat hlt'
        have B4 : Below (w.heap.size + 1) (w.alloc (.cells #[.int .i64 xk, .int .u64 j, .string s] 52)) w4 := (HB.out.alloc (by omega) _).grown hgrow (by simp; omega) (fun q hq => (HO.out.lt q hq).1)
        have HR : Hid (rowU (en ts f) a j (j + 1) = rowU (en ts f) a j j ++ [.int .i64 (y0 : Int)]) := rowU_take HY.out rfl
        have HX : Hid (w4.ownsRow (w.heap.size + 1) 2 1 (.slice (some ⟨g, 0, none⟩) ((rowU (en ts f) a j j).length + 1) cap') (rowU (en ts f) a j (j + 1)).length (rowU (en ts f) a j (j + 1)) ∧ Below (w.heap.size + 1) (w.alloc (.cells #[.int .i64 xk, .int .u64 j, .string s] 52)) w4) := by
          refine ⟨?_, B4⟩
          rw [HR.out, List.length_append]
          exact hown'
        have HB4 : Hid (Below w.heap.size w w4) := (bel1 _ _).trans (B4.mono (by omega))
        clear hown' hgrow hat hlt' d1 e0' e1' B4
        go_wp2_with fail
        refine (HSK.out w4 HB4.out).mono ?_
        rintro e w5 ⟨rfl, hb5⟩
        have HZ : Hid (w5.ownsRow (w.heap.size + 1) 2 1 (.slice (some ⟨g, 0, none⟩) ((rowU (en ts f) a j j).length + 1) cap') (rowU (en ts f) a j (j + 1)).length (rowU (en ts f) a j (j + 1)) ∧ Below (w.heap.size + 1) (w.alloc (.cells #[.int .i64 xk, .int .u64 j, .string s] 52)) w5) :=
          ⟨HX.out.1.kept (gb_bel hb5) (by simp [Value.ownBlock]), HX.out.2.trans (hb5.mono (by have := HX.out.2.size; simp at this; omega))⟩
        clear hb5
        go_wp2_with fail
        go_roundg (gk - 1)
        case rel => exact ⟨j + 1, y1, by have := HJ.out; omega, by go_num, rfl, HQ2.out, HZ.out.1, HZ.out.2⟩
        case measure => have := HJ.out; omega
      · have hjq : ((j : Int) == (m : Int)) = false := beqF (by omega)
        have HR : Hid (rowU (en ts f) a m (j + 1) = rowU (en ts f) a m j) := rowU_skip hjx
        go_wp2_with fail
        refine (HSK.out wr HBW.out).mono ?_
        rintro e w5 ⟨rfl, hb5⟩
        have HZ : Hid (w5.ownsRow (w.heap.size + 1) 2 1 u7 (rowU (en ts f) a m (j + 1)).length (rowU (en ts f) a m (j + 1)) ∧ Below (w.heap.size + 1) (w.alloc (.cells #[.int .i64 xk, .int .u64 m, .string s] 52)) w5) := by
          rw [HR.out]
          exact ⟨HO.out.kept (gb_bel hb5) (by cases u7.ownBlock <;> simp), HB.out.trans (hb5.mono (by omega))⟩
        clear hb5
        go_wp2_with fail
        go_roundg (gk - 1)
        case rel => exact ⟨j + 1, y1, by have := HJ.out; omega, by go_num, rfl, HQ2.out, HZ.out.1, HZ.out.2⟩
        case measure => have := HJ.out; omega
    · have ej : j = N := by omega
      subst ej
      have HLN : (rowU (en ts f) a m j).length = 1 := by unfold rowU; rw [if_pos hmN]; rfl
      have HX : Hid (wr.ownsRow w.heap.size 2 1 u7 1 (rowU (en ts f) a m j) ∧ Below w.heap.size w wr) := ⟨by have := own_b HO.out (show w.heap.size ≤ w.heap.size + 1 by omega); rwa [HLN] at this, HBW.out⟩
      clear HLN
      go_wp2_with fail
      go_ret
      exact ⟨_, rfl, by rw [HNP.out, HRW.out]; exact HX.out.1, HX.out.2⟩
theorem l3Plan_any (ts : List (Int × Int)) (f a e0 : Nat) (x : It) (v : Value) (w : World) (hf7 : f ≤ 7) (hv : IsTyps w.heap.size w v ts) (ha : a < ts.length) (hok : tyOk ts[a].1 ts[a].2 = true) (hit : iter (en ts f) (a + 1) (kids ts[a].1 ts[a].2) = some e0) (hfn : fitsN ts[a].1 ts[a].2 x.n = true) :
    Calls Tryz.prog 37 #[v, .int .i64 a, .agg #[.int .i64 x.k, .int .u64 x.n, .string x.s]] w fun e w' => PlPost ts f a ts[a].1 x.n w e w' := by
  have h9 : 1 ≤ ts[a].1 ∧ ts[a].1 ≤ 9 := by simp only [tyOk, decide_eq_true_eq] at hok; omega
  by_cases h1 : ts[a].1 ≤ 4
  · exact plan_flat ts f a x v w hv ha (by omega)
  · by_cases h2 : ts[a].1 = 7
    · exact plan_struct ts f a e0 x v w hf7 hv ha hok hit hfn h2
    · by_cases h3 : ts[a].1 = 9
      · exact plan_union ts f a e0 x v w hf7 hv ha hok hit hfn h3
      · exact plan_rep ts f a x v w hv ha hok hfn (by omega)
end Go.Proofs.YtdncnjmlicdamaaGreatDoor
namespace Go.Proofs.YtdncnjmlicdamaaGreatDoor
open Go.RowKit Go.Sort
set_option linter.unusedVariables false
def vei (o : Option Nat) : Int := (o.map Int.ofNat).getD (-1)
def EnPost (ts : List (Int × Int)) (vs : List It) (f a q : Nat) (w : World) (e : Ending) (w' : World) : Prop := e = .returned (.int .i64 (vei (ve ts vs f a q))) ∧ Below w.heap.size w w'
def EnHyp (ts : List (Int × Int)) (vs : List It) (f : Nat) : Prop :=
  ∀ (a q e0 : Nat) (vt vv : Value) (w : World), f ≤ 7 → en ts f a = some e0 → IsTyps w.heap.size w vt ts → IsItems w.heap.size w vv vs → q ≤ vs.length →
    Calls Tryz.prog 34 #[vt, .int .i64 a, vv, .int .i64 q] w fun e w' => EnPost ts vs f a q w e w'
set_option maxRecDepth 100000 in
set_option maxHeartbeats 2000000 in
theorem end_short (ts : List (Int × Int)) (vs : List It) (f a : Nat) (vt vv : Value) (w : World) (hI : IsItems w.heap.size w vv vs) :
    Calls Tryz.prog 34 #[vt, .int .i64 a, vv, .int .i64 vs.length] w fun e w' => EnPost ts vs f a vs.length w e w' := by
  have HR : Hid (vei (ve ts vs f a vs.length) = -1) := by show _ = _; rw [ve_end (Nat.le_refl _)]; rfl
  obtain ⟨b, o, C, hI, ad, rfl, _⟩ := hI
  rw [Nat.sub_zero, Nat.sub_zero]
  have hsm := hI.small
  clear hI
  unfold EnPost
  go_enter Tryz.func34, Tryz.ntmps34
  go_wp2_with fail
  refine wp_region_quiet_below (by kernel_rfl) (by kernel_rfl) ?_
  repeat (go_big_quiet_step (fail))
  refine wpQuiet_nil ?_
  intro w6 hw'
  obtain ⟨⟨dq, osq⟩, hw''⟩ := hw'
  have hb2 : Below w.heap.size w w6 := by rw [hw'']; exact below_regrown _ dq osq
  clear hw''
  go_wp2_with fail
  go_ret
  exact ⟨by rw [HR.out]; try rfl, hb2⟩
set_option maxRecDepth 100000 in
set_option maxHeartbeats 2000000 in
theorem end_bad (ts : List (Int × Int)) (vs : List It) (f a q : Nat) (vt vv : Value) (w : World) (hT : IsTyps w.heap.size w vt ts) (hI : IsItems w.heap.size w vv vs) (ha : a < ts.length) (hq : q < vs.length) (hok : tyOk ts[a].1 ts[a].2 = true) (hfi : fitsI ts[a].1 ts[a].2 vs[q] = false) :
    Calls Tryz.prog 34 #[vt, .int .i64 a, vv, .int .i64 q] w fun e w' => EnPost ts vs (f + 1) a q w e w' := by
  have HR : Hid (vei (ve ts vs (f + 1) a q) = -1) := by show _ = _; rw [ve_bad ha hq hfi]; rfl
  obtain ⟨b, o, C, hI, hF⟩ := hI
  have hvv := hF.at (by omega)
  rw [Nat.sub_zero, Nat.sub_zero, Nat.zero_mul, Nat.add_zero] at hvv
  have hsm := hI.small
  have hst := hT.small
  obtain ⟨i0, i1, i2⟩ := hI.cells q hq
  obtain ⟨wk, wn, ws⟩ := hI.wf vs[q] (List.getElem_mem hq)
  have HF : Hid (∀ w, Calls Tryz.prog 53 #[.agg #[.int .i64 ts[a].1, .int .i64 ts[a].2], .agg #[.int .i64 vs[q].k, .int .u64 vs[q].n, .string vs[q].s]] w fun e w' => e = .returned (.bool false) ∧ Below w.heap.size w w') := fun w => by rw [← hfi]; exact l3Fits_any _ _ _ w hok wn ws
  obtain ⟨b', o', cap', hv', hb', h1, h2, c0, c1⟩ := hT.at ha
  unfold EnPost
  generalize ts[a].1 = k at *
  generalize ts[a].2 = n at *
  generalize vs[q] = it at *
  obtain ⟨ik, im, is⟩ := it
  simp only at i0 i1 i2 HF
  have r0 := cells_re3 c0
  have r1 := cells_re3 c1
  have s0 := cells_re3 i0
  have s1 := cells_re3 i1
  have s2 := cells_re3 i2
  have hr := hI.room
  have hm := hI.most
  unfold maxLen at h2 hm
  subst hvv hv'
  have hd : decide (vs.length ≤ q) = false := by simp; omega
  clear hI hF hT hfi hok wk wn ws c0 c1 i0 i1 i2
  go_enter Tryz.func34, Tryz.ntmps34
  go_wp2_with fail
  refine wp_region_quiet_below (by kernel_rfl) (by kernel_rfl) ?_
  repeat (go_big_quiet_step (exact Calls.regrown_of (HF.out _)))
  refine wpQuiet_nil ?_
  intro w6 hw'
  obtain ⟨⟨dq, osq⟩, hw''⟩ := hw'
  have hb2 : Below w.heap.size w w6 := by rw [hw'']; exact below_regrown _ dq osq
  clear hw'' r0 r1 s0 s1 s2
  go_wp2_with fail
  go_ret
  exact ⟨by rw [HR.out]; try rfl, hb2⟩
theorem row_at {ts : List (Int × Int)} {f a : Nat} {k : Int} {m : Nat} {w : World} {B g cap : Nat} (h : w.ownsRow B 2 1 (.slice (some ⟨g, 0, none⟩) (np k m) cap) (np k m) (plRow ts f a k m)) {i : Nat} (hi : i < np k m) : w.cell? ⟨g, i, none⟩ = some (.int .i64 (pl ts f a k m i : Nat)) := by
  have := h.cells (g := g) rfl i (.int .i64 (pl ts f a k m i : Nat)) (by unfold plRow; simp [hi])
  have hadd : (⟨g, 0, none⟩ : Addr).add i = ⟨g, i, none⟩ := by unfold Addr.add; split <;> simp_all
  rwa [hadd] at this
set_option maxRecDepth 100000 in
set_option maxHeartbeats 4000000 in
theorem end_yes (ts : List (Int × Int)) (vs : List It) (f : Nat) (hp : EnHyp ts vs f) (a q e0 : Nat) (vt vv : Value) (w : World) (hf7 : f ≤ 7) (hT : IsTyps w.heap.size w vt ts) (hI : IsItems w.heap.size w vv vs) (ha : a < ts.length) (hq : q < vs.length) (hok : tyOk ts[a].1 ts[a].2 = true) (hit : iter (en ts f) (a + 1) (kids ts[a].1 ts[a].2) = some e0) (hfi : fitsI ts[a].1 ts[a].2 vs[q] = true) :
    Calls Tryz.prog 34 #[vt, .int .i64 a, vv, .int .i64 q] w fun e w' => EnPost ts vs (f + 1) a q w e w' := by
  have hfn : fitsN ts[a].1 ts[a].2 vs[q].n = true := by
    have : vs[q].k = ts[a].1 ∧ fitsN ts[a].1 ts[a].2 vs[q].n = true ∧ fitsS ts[a].1 ts[a].2 vs[q].s.size = true := by simpa [fitsI] using hfi
    exact this.2.1
  have HVE : Hid (ve ts vs (f + 1) a q = vit (ve ts vs f) (pl ts f a ts[a].1 vs[q].n) (q + 1) (np ts[a].1 vs[q].n)) := ve_ok ha hq hfi
  have hnp : np ts[a].1 vs[q].n ≤ 20 := np_le hok hfn
  have HPL : Hid (∀ j, j < np ts[a].1 vs[q].n → ∃ e', en ts f (pl ts f a ts[a].1 vs[q].n j) = some e') := fun j hj => pl_ok ha hok hit hfn hj
  have HT : Hid (IsTyps w.heap.size w vt ts) := hT
  have HI : Hid (IsItems w.heap.size w vv vs) := hI
  have HPN : Hid (∀ w', Below w.heap.size w w' → Calls Tryz.prog 37 #[vt, .int .i64 a, .agg #[.int .i64 vs[q].k, .int .u64 vs[q].n, .string vs[q].s]] w' fun e w'' => PlPost ts f a ts[a].1 vs[q].n w' e w'') := fun w' hb => l3Plan_any ts f a e0 vs[q] vt w' hf7 ((hT.below hb).up hb.size) ha hok hit hfn
  have HP : Hid (∀ a q e0 w', en ts f a = some e0 → q ≤ vs.length → Below w.heap.size w w' → Calls Tryz.prog 34 #[vt, .int .i64 a, vv, .int .i64 q] w' fun e w'' => EnPost ts vs f a q w' e w'') := fun a q e0 w' he hq hb => hp a q e0 vt vv w' hf7 he ((hT.below hb).up hb.size) ((hI.below hb).up hb.size) hq
  obtain ⟨b, o, C, hI, hF⟩ := hI
  have hvv := hF.at (by omega)
  rw [Nat.sub_zero, Nat.sub_zero, Nat.zero_mul, Nat.add_zero] at hvv
  have hsm := hI.small
  have hst := hT.small
  have hbB : b < w.heap.size := hI.low.resolve_left (by omega)
  obtain ⟨i0, i1, i2⟩ := hI.cells q hq
  obtain ⟨wk, wn, ws⟩ := hI.wf vs[q] (List.getElem_mem hq)
  have HF : Hid (∀ w, Calls Tryz.prog 53 #[.agg #[.int .i64 ts[a].1, .int .i64 ts[a].2], .agg #[.int .i64 vs[q].k, .int .u64 vs[q].n, .string vs[q].s]] w fun e w' => e = .returned (.bool true) ∧ Below w.heap.size w w') := fun w => by rw [← hfi]; exact l3Fits_any _ _ _ w hok wn ws
  have HLT : Hid (∀ j x, vit (ve ts vs f) (pl ts f a ts[a].1 vs[q].n) (q + 1) j = some x → x ≤ vs.length) := fun j x h => (vit_lt (by omega) h).2
  obtain ⟨b', o', cap', hv', hb', h1, h2, c0, c1⟩ := hT.at ha
  unfold EnPost
  generalize ts[a].1 = k at *
  generalize ts[a].2 = n at *
  generalize vs[q] = it at *
  obtain ⟨ik, im, is⟩ := it
  simp only at i0 i1 i2 HF HVE hnp HPL HPN HLT
  have r0 := cells_re3 c0
  have r1 := cells_re3 c1
  have s0 := cells_re3 i0
  have s1 := cells_re3 i1
  have s2 := cells_re3 i2
  have hr := hI.room
  have hm := hI.most
  unfold maxLen at h2 hm
  subst hvv hv'
  have hd : decide (vs.length ≤ q) = false := by simp; omega
  clear hI hF hT hfi hok wk wn ws c0 c1 hp hit hfn
  go_enter Tryz.func34, Tryz.ntmps34
  go_wp2_with fail
  refine wp_region_quiet_below (by kernel_rfl) (by kernel_rfl) ?_
  repeat (go_big_quiet_step (exact Calls.regrown_of (HF.out _)))
  refine wpQuiet_nil ?_
  intro w6 hw'
  obtain ⟨⟨dq, osq⟩, hw''⟩ := hw'
  have hb6 : Below w.heap.size w w6 := by rw [hw'']; exact below_regrown _ dq osq
  have t0 : w6.cell? ⟨b, o + q * 3, none⟩ = some (.int .i64 ik) := by rw [hb6.cell (p := ⟨b, o + q * 3, none⟩) hbB]; exact i0
  have t1 : w6.cell? ⟨b, o + q * 3 + 1, none⟩ = some (.int .u64 im) := by rw [hb6.cell (p := ⟨b, o + q * 3 + 1, none⟩) hbB]; exact i1
  have t2 : w6.cell? ⟨b, o + q * 3 + 2, none⟩ = some (.string is) := by rw [hb6.cell (p := ⟨b, o + q * 3 + 2, none⟩) hbB]; exact i2
  have HB6 : Hid (Below w.heap.size w w6) := hb6
  clear hw'' r0 r1 s0 s1 s2 i0 i1 i2 hb6 HF
  go_wp2_with fail
  refine (HPN.out w6 HB6.out).mono ?_
  rintro e w7 ⟨vp, rfl, hown, hb7⟩
  have HO : Hid (w7.ownsRow w6.heap.size 2 1 vp (np k im) (plRow ts f a k im)) := hown
  have HB7 : Hid (Below w.heap.size w w7) := HB6.out.trans (hb7.mono (HB6.out.size))
  obtain ⟨N, hN⟩ : ∃ N, np k im = N := ⟨_, rfl⟩
  have HNE : Hid (np k im = N) := hN
  have h2' := hown.2
  rw [hN] at h2' hnp
  have hgl := hown.lt
  clear hown hN t0 t1 t2 hb7
  rcases h2' with ⟨rfl, hn0⟩ | ⟨g, cp, cur, rfl, hg, _, hcp, hcm, _, _⟩
  · have HE : Hid (vei (ve ts vs (f + 1) a q) = ((q + 1 : Nat) : Int)) := by show _ = _; rw [HVE.out, HNE.out, hn0]; rfl
    clear hgl
    go_wp2_with fail
    go_loopg [3, 10] 0 (fun gk x i wr => x = .int .i64 ((q + 1 : Nat) : Int) ∧ i = .int .i64 0 ∧ wr = w7)
    case atStart => exact ⟨by go_num, rfl, rfl⟩
    case round =>
      obtain ⟨rfl, rfl, rfl⟩ := hrel
      go_wp2_with fail
      go_ret
      exact ⟨by rw [HE.out]; simp, HB7.out⟩
  · have hgw : g < w7.heap.size := (hgl g rfl).2
    have HC : Hid (∀ i, i < N → w7.cell? ⟨g, i, none⟩ = some (.int .i64 (pl ts f a k im i : Nat))) := fun i hi => by
      have ho := HO.out
      rw [← HNE.out] at ho hi
      exact row_at ho hi
    clear hgl
    unfold maxLen at hcm
    go_wp2_with fail
    go_loopg [3, 10] N (fun gk x i wr => ∃ j y : Nat, j + gk = N ∧ i = .int .i64 j ∧ x = .int .i64 y ∧ vit (ve ts vs f) (pl ts f a k im) (q + 1) j = some y ∧ Below w7.heap.size w7 wr)
    case atStart => exact ⟨0, q + 1, by omega, rfl, by go_num, rfl, Below.refl _ _⟩
    case round =>
      obtain ⟨j, y, hj', rfl, rfl, hy, hbel⟩ := hrel
      have HJ : Hid (j + gk = N) := hj'
      have HY : Hid (vit (ve ts vs f) (pl ts f a k im) (q + 1) j = some y) := hy
      have hyl : y ≤ vs.length := HLT.out j y hy
      have hj : j ≤ N := by omega
      have HBW : Hid (Below w.heap.size w wr) := HB7.out.trans (hbel.mono HB7.out.size)
      have HBE : Hid (Below w7.heap.size w7 wr) := hbel
      clear hj' hy
      by_cases hjm : j < N
      · obtain ⟨e1, he1⟩ := HPL.out j (by rw [HNE.out]; exact hjm)
        have hpl : pl ts f a k im j ≤ 1048577 := by have := en_lt he1; omega
        have cj : wr.cell? ⟨g, j, none⟩ = some (.int .i64 (pl ts f a k im j : Nat)) := by rw [hbel.cell (p := ⟨g, j, none⟩) hgw]; exact HC.out j hjm
        have HCL := HP.out (pl ts f a k im j) y e1 wr he1 hyl HBW.out
        have HNX : Hid (vit (ve ts vs f) (pl ts f a k im) (q + 1) (j + 1) = ve ts vs f (pl ts f a k im j) y) := by show _ = _; rw [vit_succ, HY.out]; rfl
        clear hbel
        generalize pl ts f a k im j = p at cj hpl HCL HNX
        cases hve : ve ts vs f p y with
        | none =>
          unfold EnPost at HCL
          rw [hve] at HCL HNX
          have HK : Hid (Calls Tryz.prog 34 #[.slice (some ⟨b', o', none⟩) ts.length cap', .int .i64 p, .slice (some ⟨b, o, none⟩) vs.length C, .int .i64 y] wr fun e w' => e = .returned (.int .i64 (-1)) ∧ Below wr.heap.size wr w') := HCL
          have HE : Hid (vei (ve ts vs (f + 1) a q) = -1) := by show _ = _; rw [HVE.out, HNE.out, vit_none HNX.out N (by omega)]; rfl
          clear HCL hve he1
          go_wp2_with fail
          refine Calls.mono HK.out ?_
          rintro e w8 ⟨rfl, hb8⟩
          have HB8 : Hid (Below w.heap.size w w8) := HBW.out.trans (hb8.mono HBW.out.size)
          clear hb8 cj
          go_wp2_with fail
          go_ret
          exact ⟨by rw [HE.out]; first | rfl | simp, HB8.out⟩
        | some y1 =>
          unfold EnPost at HCL
          rw [hve] at HCL HNX
          have HK : Hid (Calls Tryz.prog 34 #[.slice (some ⟨b', o', none⟩) ts.length cap', .int .i64 p, .slice (some ⟨b, o, none⟩) vs.length C, .int .i64 y] wr fun e w' => e = .returned (.int .i64 (y1 : Int)) ∧ Below wr.heap.size wr w') := HCL
          have hy1 : y1 ≤ vs.length := (ve_lt hve).2
          clear HCL hve he1
          go_wp2_with fail
          refine Calls.mono HK.out ?_
          rintro e w8 ⟨rfl, hb8⟩
          have HB8 : Hid (Below w7.heap.size w7 w8) := HBE.out.trans (hb8.mono HBE.out.size)
          clear hb8 cj
          go_wp2_with fail
          go_roundg (gk - 1)
          case rel => exact ⟨j + 1, y1, by have := HJ.out; omega, by go_num, rfl, HNX.out, HB8.out⟩
          case measure => have := HJ.out; omega
      · have ej : j = N := by omega
        subst ej
        have HE : Hid (vei (ve ts vs (f + 1) a q) = (y : Int)) := by show _ = _; rw [HVE.out, HNE.out, HY.out]; rfl
        clear hbel
        go_wp2_with fail
        go_ret
        exact ⟨by rw [HE.out]; first | rfl | simp, HBW.out⟩
theorem l3End_all (ts : List (Int × Int)) (vs : List It) : ∀ f, EnHyp ts vs f := by
  intro f
  induction f with
  | zero => intro a q e0 vt vv w _ h; cases h
  | succ f ih =>
    intro a q e0 vt vv w hf7 he hT hI hq
    obtain ⟨ha, hok, hit⟩ := en_inv he
    by_cases hqe : q < vs.length
    · cases hfi : fitsI ts[a].1 ts[a].2 vs[q] with
      | true => exact end_yes ts vs f ih a q e0 vt vv w (by omega) hT hI ha hqe hok hit hfi
      | false => exact end_bad ts vs f a q vt vv w hT hI ha hqe hok hfi
    · have : q = vs.length := by omega
      subst this
      exact end_short ts vs (f + 1) a vt vv w hI
end Go.Proofs.YtdncnjmlicdamaaGreatDoor
namespace Go.Proofs.YtdncnjmlicdamaaGreatDoor
open Go.RowKit Go.Sort
set_option linter.unusedVariables false
theorem vei_eq {ts : List (Int × Int)} {vs : List It} (hs : schOk ts = true) (hl : vs.length ≤ 200) : (vei (ve ts vs 7 0 0) == (vs.length : Int)) = typedB ts vs := by
  have hl' : decide (vs.length ≤ 200) = true := by simpa using hl
  unfold typedB
  rw [hs, hl']
  simp only [Bool.true_and]
  cases ve ts vs 7 0 0 with
  | none =>
    have e1 : (vei none == (vs.length : Int)) = false := beqF (by unfold vei; simp)
    rw [e1]; rfl
  | some q =>
    rw [Bool.eq_iff_iff]
    simp [vei]
    omega
set_option maxRecDepth 100000 in
set_option maxHeartbeats 2000000 in
theorem specTyped_any (ts : List (Int × Int)) (vs : List It) (v v' : Value) (w : World) (hv : IsTyps w.heap.size w v ts) (hv' : IsItems w.heap.size w v' vs) : Calls Tryz.prog 19 #[v, v'] w fun e w' => e = .returned (.bool (typedB ts vs)) ∧ Below w.heap.size w w' := by
  have HC : Hid (Calls Tryz.prog 26 #[v] w fun e w' => e = .returned (.bool (schOk ts)) ∧ Below w.heap.size w w') := specSchemaOk_any ts v w hv
  have HV : Hid (IsTyps w.heap.size w v ts) := hv
  have HI : Hid (IsItems w.heap.size w v' vs) := hv'
  have HE : Hid (schOk ts = true → ∀ w', Below w.heap.size w w' → Calls Tryz.prog 34 #[v, .int .i64 0, v', .int .i64 0] w' fun e w'' => e = .returned (.int .i64 (vei (ve ts vs 7 0 0))) ∧ Below w'.heap.size w' w'') := fun hs w' hb => by
    have h7 := (schOk_iff.1 hs).2
    exact l3End_all ts vs 7 0 0 ts.length v v' w' (Nat.le_refl _) h7 ((HV.out.below hb).up hb.size) ((HI.out.below hb).up hb.size) (Nat.zero_le _)
  obtain ⟨b, o, C, hI, ad, rfl, _⟩ := hv'
  rw [Nat.sub_zero, Nat.sub_zero] at HE HI ⊢
  have hsm := hI.small
  clear hI hv
  cases hs : schOk ts with
  | false =>
    have HR : Hid (typedB ts vs = false) := typedB_no hs
    rw [hs] at HC
    clear HE hs
    go_enter Tryz.func19, Tryz.ntmps19
    go_wp2_with fail
    refine Calls.mono HC.out ?_
    rintro e w1 ⟨rfl, hb1⟩
    go_wp2_with fail
    go_ret
    exact ⟨by rw [HR.out]; first | rfl | simp, hb1⟩
  | true =>
    by_cases h200 : vs.length ≤ 200
    · have HR : Hid ((vei (ve ts vs 7 0 0) == (vs.length : Int)) = typedB ts vs) := vei_eq hs h200
      have HE' := HE.out hs
      rw [hs] at HC
      have HE2 : Hid (∀ w', Below w.heap.size w w' → Calls Tryz.prog 34 #[v, .int .i64 0, .slice ad vs.length C, .int .i64 0] w' fun e w'' => e = .returned (.int .i64 (vei (ve ts vs 7 0 0))) ∧ Below w'.heap.size w' w'') := HE'
      clear HE HE' hs
      have hd : decide (vs.length ≤ 200) = true := by simpa using h200
      go_enter Tryz.func19, Tryz.ntmps19
      go_wp2_with fail
      refine Calls.mono HC.out ?_
      rintro e w1 ⟨rfl, hb1⟩
      have HB1 : Hid (Below w.heap.size w w1) := hb1
      clear hb1
      go_wp2_with fail
      refine (HE2.out w1 HB1.out).mono ?_
      rintro e w2 ⟨rfl, hb2⟩
      have HB2 : Hid (Below w.heap.size w w2) := HB1.out.trans (hb2.mono HB1.out.size)
      generalize vei (ve ts vs 7 0 0) = z at HR ⊢
      clear hb2
      go_wp2_with fail
      go_ret
      exact ⟨by rw [← HR.out]; first | rfl | simp, HB2.out⟩
    · have HR : Hid (typedB ts vs = false) := typedB_big (by omega)
      rw [hs] at HC
      clear HE hs
      have hd : decide (vs.length ≤ 200) = false := by simpa using h200
      go_enter Tryz.func19, Tryz.ntmps19
      go_wp2_with fail
      refine Calls.mono HC.out ?_
      rintro e w1 ⟨rfl, hb1⟩
      go_wp2_with fail
      go_ret
      exact ⟨by rw [HR.out]; first | rfl | simp, hb1⟩
set_option maxHeartbeats 1000000 in
theorem implTyped_any (ts : List (Int × Int)) (vs : List It) (v v' : Value) (w : World) (hv : IsTyps w.heap.size w v ts) (hv' : IsItems w.heap.size w v' vs) (hw : KR w) : Calls Tryz.prog 14 #[v, v'] w fun e w' => e = .returned (.bool (typedB ts vs)) ∧ Below w.heap.size w w' := by
  have HC : Hid (Calls Tryz.prog 28 #[v] w fun e w' => PsPost ts w e w') := parseSchema_any ts v w hv hw
  have HI : Hid (IsItems w.heap.size w v' vs) := hv'
  clear hv hv' hw
  go_enter Tryz.func14, Tryz.ntmps14
  go_wp2_with fail
  refine Calls.mono HC.out ?_
  rintro e w1 ⟨hb1, ⟨hs, rfl⟩ | ⟨hs, u, rfl, htr⟩⟩
  · have HR : Hid (typedB ts vs = false) := typedB_no hs
    clear hs
    go_wp2_with fail
    go_ret
    exact ⟨by rw [HR.out]; first | rfl | simp, hb1⟩
  · have HV : Hid (Calls Tryz.prog 29 #[.pointer (some ⟨u, 0, none⟩), v'] w1 fun e w' => VoPost ts vs (fun b => w.heap.size ≤ b ∧ b < w1.heap.size) w1 e w') := valueOf_any ts vs u _ v' w1 hs htr (fun c hc => hc.2) ((HI.out.below hb1).up hb1.size)
    have HB1 : Hid (Below w.heap.size w w1) := hb1
    clear hs htr hb1
    go_wp2_with fail
    refine Calls.mono HV.out ?_
    rintro e w2 ⟨hb2, x, rfl, _⟩
    have HB2 : Hid (Below w.heap.size w w2) := HB1.out.trans (hb2.mono HB1.out.size)
    clear hb2
    go_wp2_with fail
    go_ret
    exact ⟨by first | rfl | simp, HB2.out⟩
end Go.Proofs.YtdncnjmlicdamaaGreatDoor
