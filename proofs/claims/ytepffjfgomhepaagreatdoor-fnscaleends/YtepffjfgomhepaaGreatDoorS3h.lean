/- The specification's plan of a value's parts: contract. -/
import Derived.Test.YtepffjfgomhepaaGreatDoorS3g
namespace Go.Proofs.YtepffjfgomhepaaGreatDoor
open Go.RowKit Go.Sort
set_option linter.unusedVariables false
theorem Tryz.infoI64 : (Tryz.prog.info? 2).map (fun i => (i.zero, i.size, i.bytes)) = some (some (.int .i64 0), 1, 8) := by kernel_rfl
def plRow (ts : List (Int × Int)) (f a : Nat) (k : Int) (m : Nat) : List Value := (List.range (np k m)).map fun j => .int .i64 (pl ts f a k m j : Nat)
/-- What l3Plan leaves. -/
def PlPost (ts : List (Int × Int)) (f a : Nat) (k : Int) (m : Nat) (w : World) (e : Ending) (w' : World) : Prop :=
  ∃ vp, e = .returned vp ∧ w'.ownsRow w.heap.size 2 1 vp (np k m) (plRow ts f a k m) ∧ Below w.heap.size w w'
theorem own_b {w : World} {b b' e size : Nat} {v : Value} {n : Nat} {xs : List Value} (h : w.ownsRow b e size v n xs) (hb : b' ≤ b) : w.ownsRow b' e size v n xs := by
  refine ⟨h.1, ?_⟩
  rcases h.2 with h2 | ⟨g, cap, cur, hv, hg, r⟩
  · exact .inl h2
  · exact .inr ⟨g, cap, cur, hv, by omega, r⟩
theorem own_nil (w : World) (xs : Array Value) (ty : TypeId) : ((w.alloc (.cells xs ty)).alloc (.cells #[] 2)).ownsRow (w.heap.size + 1) 2 1 (.slice (some ⟨w.heap.size + 1, 0, none⟩) 0 0) 0 [] := by
  have ho := World.ownsRow_lit (base := w.heap.size + 1) (e := 2) (size := 1) (w.alloc (.cells xs ty)) #[] 0 (by simp) (by decide) rfl
  simpa using ho
/-- The places of the parts of a struct, the first j of them; of a union, as far as j. -/
def rowS (g : Nat → Option Nat) (a m j : Nat) : List Value := (List.range j).map fun i => .int .i64 (((iter g (a + 1) i).getD 0 : Nat) : Int)
def rowU (g : Nat → Option Nat) (a m j : Nat) : List Value := if m < j then [.int .i64 (((iter g (a + 1) m).getD 0 : Nat) : Int)] else []
theorem rowS_len (g : Nat → Option Nat) (a m j : Nat) : (rowS g a m j).length ≤ j := by simp [rowS]
theorem rowU_len (g : Nat → Option Nat) (a m j : Nat) : (rowU g a m j).length ≤ j := by unfold rowU; split <;> simp; omega
theorem rowS_take {g : Nat → Option Nat} {a m j y : Nat} (h : iter g (a + 1) j = some y) : rowS g a m (j + 1) = rowS g a m j ++ [.int .i64 (y : Int)] := by simp [rowS, List.range_succ, h]
theorem rowU_take {g : Nat → Option Nat} {a m j y : Nat} (h : iter g (a + 1) j = some y) (hj : j = m) : rowU g a m (j + 1) = rowU g a m j ++ [.int .i64 (y : Int)] := by subst hj; simp [rowU, h]
theorem rowU_skip {g : Nat → Option Nat} {a m j : Nat} (hj : ¬ j = m) : rowU g a m (j + 1) = rowU g a m j := by
  unfold rowU
  by_cases h : m < j
  · rw [if_pos h, if_pos (by omega)]
  · rw [if_neg h, if_neg (by omega)]
set_option maxRecDepth 100000 in
set_option maxHeartbeats 2000000 in
theorem plan_rep (ts : List (Int × Int)) (f a : Nat) (x : It) (v : Value) (w : World) (hv : IsTyps w.heap.size w v ts) (ha : a < ts.length) (hok : tyOk ts[a].1 ts[a].2 = true) (hfn : fitsN ts[a].1 ts[a].2 x.n = true) (hk : ts[a].1 = 5 ∨ ts[a].1 = 6 ∨ ts[a].1 = 8) :
    Calls Tryz.prog 40 #[v, .int .i64 a, .agg #[.int .i64 x.k, .int .u64 x.n, .string x.s]] w fun e w' => PlPost ts f a ts[a].1 x.n w e w' := by
  obtain ⟨i0, hi, hz0, hz1, hz2⟩ := info_parts Tryz.infoI64
  have hm20 : x.n ≤ 20 := by have := np_le hok hfn; unfold np at this; rw [if_pos (by omega)] at this; exact this
  have hnp : np ts[a].1 x.n = x.n := by unfold np; rw [if_pos (by omega)]
  have HNP : Hid (np ts[a].1 x.n = x.n) := hnp
  have HRW : Hid (plRow ts f a ts[a].1 x.n = (List.range x.n).map fun _ => .int .i64 ((a + 1 : Nat) : Int)) := by
    show _ = _
    unfold plRow
    rw [hnp]
    apply List.map_congr_left
    intro j _
    have : pl ts f a ts[a].1 x.n j = a + 1 := by unfold pl; rw [if_neg (by omega), if_neg (by omega)]
    rw [this]
  have hsm := hv.small
  obtain ⟨b, o, cap, hv', hb, h1, h2, c0, c1⟩ := hv.at ha
  unfold PlPost
  generalize ts[a].1 = k at *
  subst hv'
  obtain ⟨xk, m, s⟩ := x
  simp only at hm20 HNP HRW ⊢
  unfold maxLen at h2
  clear hv hok hfn hnp c1
  have hbs : b < (w.alloc (.cells #[.int .i64 xk, .int .u64 m, .string s] 58)).heap.size := by simp; omega
  rcases hk with rfl | rfl | rfl
  all_goals
    go_enter Tryz.func40, Tryz.ntmps40
    go_wp2_with fail
    go_loopg [7, 8] m (fun gk vp i wr => ∃ j : Nat, j + gk = m ∧ i = .int .u64 j ∧ wr.ownsRow (w.heap.size + 1) 2 1 vp j ((List.range j).map fun _ => .int .i64 ((a + 1 : Nat) : Int)) ∧ Below (w.heap.size + 1) (w.alloc (.cells #[.int .i64 xk, .int .u64 m, .string s] 58)) wr)
    case atStart => exact ⟨0, by omega, rfl, (by simpa using own_nil w #[.int .i64 xk, .int .u64 m, .string s] 58), (Below.refl _ _).alloc (by simp) _⟩
    case round =>
      obtain ⟨j, hj', rfl, hown, hbel⟩ := hrel
      have HJ : Hid (j + gk = m) := hj'
      have hj : j ≤ m := by omega
      have HO : Hid (wr.ownsRow (w.heap.size + 1) 2 1 u7 j ((List.range j).map fun _ => .int .i64 ((a + 1 : Nat) : Int))) := hown
      have HB : Hid (Below (w.heap.size + 1) (w.alloc (.cells #[.int .i64 xk, .int .u64 m, .string s] 58)) wr) := hbel
      have d1 : wr.cell? ⟨w.heap.size, 1, none⟩ = some (.int .u64 m) := by rw [hbel.cell (p := ⟨w.heap.size, 1, none⟩) (by simp)]; simp [go_sem]
      have hsr : w.heap.size < wr.heap.size := by have := hbel.size; simp at this; omega
      clear hj' hown hbel
      by_cases hjm : j < m
      · go_wp2_with (at_builtin; refine wpList_append_lies _ rfl _ _ 85 rfl (w.heap.size + 1) 2 i0 (.int .i64 0) 1 8 Tryz.underlying85 hi hz0 hz1 hz2 rfl (by decide) u7 j _ rfl (HO.out.alloc _) ⟨wr.heap.size, 0, none⟩ 1 1 [.int .i64 ((a + 1 : Nat) : Int)] rfl rfl ?c1 ?c2 (by omega) ?c3 ?c4 ?c5 (wr.heap.size + 1) (by simp) ?_)
        case c1 =>
          intro i u hi
          match i, hi with
          | 0, hi => simp at hi; subst hi; simp [Addr.add]
        case c2 => intro u hu; simp at hu; subst hu; rfl
        case c3 => unfold maxLen; omega
        case c4 => omega
        case c5 => simp; omega
        intro g cap' w4 hown' hgrow hat hlt'
        have HX : Hid (w4.ownsRow (w.heap.size + 1) 2 1 (.slice (some ⟨g, 0, none⟩) (j + 1) cap') (j + 1) ((List.range (j + 1)).map fun _ => .int .i64 ((a + 1 : Nat) : Int)) ∧ Below (w.heap.size + 1) (w.alloc (.cells #[.int .i64 xk, .int .u64 m, .string s] 58)) w4) := by
          refine ⟨by rw [List.range_succ, List.map_append]; exact hown', (HB.out.alloc (by omega) _).grown hgrow (by simp; omega) (fun q hq => (HO.out.lt q hq).1)⟩
        clear hown' hgrow hat hlt' d1
        go_wp2_with fail
        go_roundg (gk - 1)
        case rel => exact ⟨j + 1, by have := HJ.out; omega, by go_num, HX.out.1, HX.out.2⟩
        case measure => have := HJ.out; omega
      · have e1 : j = m := by omega
        subst e1
        have HX : Hid (wr.ownsRow w.heap.size 2 1 u7 j ((List.range j).map fun _ => .int .i64 ((a + 1 : Nat) : Int)) ∧ Below w.heap.size w wr) := ⟨own_b HO.out (by omega), (bel1 _ _).trans (HB.out.mono (by omega))⟩
        go_wp2_with fail
        go_ret
        exact ⟨_, rfl, by rw [HNP.out, HRW.out]; exact HX.out.1, HX.out.2⟩
set_option maxRecDepth 100000 in
set_option maxHeartbeats 2000000 in
theorem plan_flat (ts : List (Int × Int)) (f a : Nat) (x : It) (v : Value) (w : World) (hv : IsTyps w.heap.size w v ts) (ha : a < ts.length) (hk : ts[a].1 = 1 ∨ ts[a].1 = 2 ∨ ts[a].1 = 3 ∨ ts[a].1 = 4) :
    Calls Tryz.prog 40 #[v, .int .i64 a, .agg #[.int .i64 x.k, .int .u64 x.n, .string x.s]] w fun e w' => PlPost ts f a ts[a].1 x.n w e w' := by
  have hnp : np ts[a].1 x.n = 0 := by unfold np; rw [if_neg (by omega), if_neg (by omega)]
  have HNP : Hid (np ts[a].1 x.n = 0) := hnp
  have HRW : Hid (plRow ts f a ts[a].1 x.n = []) := by show _ = _; unfold plRow; rw [hnp]; rfl
  have hsm := hv.small
  obtain ⟨b, o, cap, hv', hb, h1, h2, c0, c1⟩ := hv.at ha
  unfold PlPost
  generalize ts[a].1 = k at *
  subst hv'
  obtain ⟨xk, m, s⟩ := x
  simp only at HNP HRW ⊢
  unfold maxLen at h2
  clear hv hnp c1
  have ho := World.ownsRow_lit (base := w.heap.size) (e := 2) (size := 1) (w.alloc (.cells #[.int .i64 xk, .int .u64 m, .string s] 58)) #[] 0 (by simp) (by decide) rfl
  have HO : Hid (((w.alloc (.cells #[.int .i64 xk, .int .u64 m, .string s] 58)).alloc (.cells #[] 2)).ownsRow w.heap.size 2 1 (.slice (some ⟨(w.alloc (.cells #[.int .i64 xk, .int .u64 m, .string s] 58)).heap.size, 0, none⟩) 0 0) 0 []) := ho
  clear ho
  rcases hk with rfl | rfl | rfl | rfl
  all_goals
    go_enter Tryz.func40, Tryz.ntmps40
    go_wp2_with fail
    go_ret
    exact ⟨_, rfl, by rw [HNP.out, HRW.out]; simpa using HO.out, bel2 _ _ _⟩
set_option maxRecDepth 100000 in
set_option maxHeartbeats 4000000 in
theorem plan_struct (ts : List (Int × Int)) (f a e0 : Nat) (x : It) (v : Value) (w : World) (hf7 : f ≤ 7) (hv : IsTyps w.heap.size w v ts) (ha : a < ts.length) (hok : tyOk ts[a].1 ts[a].2 = true) (hit : iter (en ts f) (a + 1) (kids ts[a].1 ts[a].2) = some e0) (hfn : fitsN ts[a].1 ts[a].2 x.n = true) (hk : ts[a].1 = 7) :
    Calls Tryz.prog 40 #[v, .int .i64 a, .agg #[.int .i64 x.k, .int .u64 x.n, .string x.s]] w fun e w' => PlPost ts f a ts[a].1 x.n w e w' := by
  obtain ⟨i0, hi, hz0, hz1, hz2⟩ := info_parts Tryz.infoI64
  have hN0 : 0 ≤ ts[a].2 ∧ ts[a].2 ≤ 6 := by simp only [tyOk, decide_eq_true_eq] at hok; omega
  obtain ⟨N, hN⟩ := Int.eq_ofNat_of_zero_le hN0.1
  have hN6 : N ≤ 6 := by omega
  have hkids : kids ts[a].1 ts[a].2 = N := by unfold kids; rw [if_neg (by omega), if_pos (by omega), hN]; rfl
  rw [hkids] at hit
  skip
  have HST : Hid (∀ i, i < N → ∃ y y', iter (en ts f) (a + 1) i = some y ∧ iter (en ts f) (a + 1) (i + 1) = some y' ∧ en ts 7 y = some y' ∧ y ≤ ts.length) := fun i hi => by
    obtain ⟨y, hy⟩ := iter_part hit (show i ≤ N by omega)
    obtain ⟨y', hy'⟩ := iter_part hit (show i + 1 ≤ N by omega)
    have h1 := hy'
    rw [iter_succ, hy] at h1
    have h2 : en ts f y = some y' := h1
    exact ⟨y, y', hy, hy', en_mono hf7 h2, by have := en_lt h2; omega⟩
  have HNP : Hid (np ts[a].1 x.n = N) := by show _ = _; unfold np; rw [if_pos (by omega)]; have := hfn; unfold fitsN at this; rw [if_neg (by omega), if_neg (by omega), if_neg (by omega), if_pos (by omega)] at this; have := of_decide_eq_true this; omega
  have HRW : Hid (plRow ts f a ts[a].1 x.n = rowS (en ts f) a x.n N) := by
    show _ = _
    unfold plRow
    rw [HNP.out]
    unfold rowS
    apply List.map_congr_left
    intro j hj
    have : pl ts f a ts[a].1 x.n j = (iter (en ts f) (a + 1) j).getD 0 := by unfold pl; rw [if_pos (by omega)]
    rw [this]
  have hsm := hv.small
  have HV : Hid (IsTyps w.heap.size w v ts) := hv
  obtain ⟨b, o, cap, hv', hb, h1, h2, c0, c1⟩ := hv.at ha
  unfold PlPost
  rw [hk] at HNP HRW c0 ⊢
  rw [hN] at c1
  subst hv'
  obtain ⟨xk, m, s⟩ := x
  simp only at HNP HRW ⊢ 
  unfold maxLen at h2
  clear hv hok hfn hit hkids hN0 hN hk
  go_enter Tryz.func40, Tryz.ntmps40
  go_wp2_with fail
  go_loopg [7, 9, 10] N (fun gk vp p i wr => ∃ j y : Nat, j + gk = N ∧ i = .int .u64 j ∧ p = .int .i64 y ∧ iter (en ts f) (a + 1) j = some y ∧ wr.ownsRow (w.heap.size + 1) 2 1 vp (rowS (en ts f) a m j).length (rowS (en ts f) a m j) ∧ Below (w.heap.size + 1) (w.alloc (.cells #[.int .i64 xk, .int .u64 m, .string s] 58)) wr)
  case atStart => exact ⟨0, a + 1, by omega, rfl, by go_num, rfl, (by simpa [rowS] using own_nil w #[.int .i64 xk, .int .u64 m, .string s] 58), (Below.refl _ _).alloc (by simp) _⟩
  case round =>
    obtain ⟨j, y, hj', rfl, rfl, hy, hown, hbel⟩ := hrel
    have HJ : Hid (j + gk = N) := hj'
    have hj : j ≤ N := by omega
    have HY : Hid (iter (en ts f) (a + 1) j = some y) := hy
    have HO : Hid (wr.ownsRow (w.heap.size + 1) 2 1 u7 (rowS (en ts f) a m j).length (rowS (en ts f) a m j)) := hown
    have HB : Hid (Below (w.heap.size + 1) (w.alloc (.cells #[.int .i64 xk, .int .u64 m, .string s] 58)) wr) := hbel
    have hBw : Below w.heap.size w wr := (bel1 _ _).trans (hbel.mono (by omega))
    have HBW : Hid (Below w.heap.size w wr) := hBw
    have d1 : wr.cell? ⟨w.heap.size, 1, none⟩ = some (.int .u64 m) := by rw [hbel.cell (p := ⟨w.heap.size, 1, none⟩) (by simp)]; simp [go_sem]
    have e0' : wr.cell? ⟨b, o + a * 2, none⟩ = some (.int .i64 7) := by rw [hBw.cell (p := ⟨b, o + a * 2, none⟩) ‹_›]; exact c0
    have e1' : wr.cell? ⟨b, o + a * 2 + 1, none⟩ = some (.int .i64 (N : Int)) := by rw [hBw.cell (p := ⟨b, o + a * 2 + 1, none⟩) ‹_›]; exact c1
    have hsr : w.heap.size < wr.heap.size := by have := hbel.size; simp at this; omega
    have hrl : (rowS (en ts f) a m j).length ≤ 6 := Nat.le_trans (rowS_len _ _ _ _) (by omega)
    clear hj' hown hbel hy hBw
    by_cases hjm : j < N
    · obtain ⟨y0, y1, q1, q2, q3, q4⟩ := HST.out j hjm
      have ey : y0 = y := by rw [HY.out] at q1; injection q1 with q1; exact q1.symm
      subst ey
      have HQ2 : Hid (iter (en ts f) (a + 1) (j + 1) = some y1) := q2
      have HSK : Hid (∀ w', Below w.heap.size w w' → Calls Tryz.prog 67 #[.slice (some ⟨b, o, none⟩) ts.length cap, .int .i64 y0] w' fun e w'' => e = .returned (.int .i64 y1) ∧ Below w'.heap.size w' w'') := fun w' hb' => by
        have := l2Skip_any ts y0 (.slice (some ⟨b, o, none⟩) ts.length cap) w' (by omega) ((HV.out.below hb').up hb'.size)
        rw [q3] at this
        exact this
      clear q1 q2 q3
      go_wp2_with (at_builtin; refine wpList_append_lies _ rfl _ _ 85 rfl (w.heap.size + 1) 2 i0 (.int .i64 0) 1 8 Tryz.underlying85 hi hz0 hz1 hz2 rfl (by decide) u7 (rowS (en ts f) a m j).length _ rfl (HO.out.alloc _) ⟨wr.heap.size, 0, none⟩ 1 1 [.int .i64 (y0 : Int)] rfl rfl ?c1 ?c2 (by omega) ?c3 ?c4 ?c5 (wr.heap.size + 1) (by simp) ?_)
      case c1 =>
        intro i u hi
        match i, hi with
        | 0, hi => simp at hi; subst hi; simp [Addr.add]
      case c2 => intro u hu; simp at hu; subst hu; rfl
      case c3 => unfold maxLen; omega
      case c4 => omega
      case c5 => simp; omega
      intro g cap' w4 hown' hgrow hat hlt'
      have B4 : Below (w.heap.size + 1) (w.alloc (.cells #[.int .i64 xk, .int .u64 m, .string s] 58)) w4 := (HB.out.alloc (by omega) _).grown hgrow (by simp; omega) (fun q hq => (HO.out.lt q hq).1)
      have HR : Hid (rowS (en ts f) a m (j + 1) = rowS (en ts f) a m j ++ [.int .i64 (y0 : Int)]) := rowS_take HY.out 
      have HX : Hid (w4.ownsRow (w.heap.size + 1) 2 1 (.slice (some ⟨g, 0, none⟩) ((rowS (en ts f) a m j).length + 1) cap') (rowS (en ts f) a m (j + 1)).length (rowS (en ts f) a m (j + 1)) ∧ Below (w.heap.size + 1) (w.alloc (.cells #[.int .i64 xk, .int .u64 m, .string s] 58)) w4) := by
        refine ⟨?_, B4⟩
        rw [HR.out, List.length_append]
        exact hown'
      have HB4 : Hid (Below w.heap.size w w4) := (bel1 _ _).trans (B4.mono (by omega))
      clear hown' hgrow hat hlt' d1 e0' e1' B4
      go_wp2_with fail
      refine (HSK.out w4 HB4.out).mono ?_
      rintro e w5 ⟨rfl, hb5⟩
      have HZ : Hid (w5.ownsRow (w.heap.size + 1) 2 1 (.slice (some ⟨g, 0, none⟩) ((rowS (en ts f) a m j).length + 1) cap') (rowS (en ts f) a m (j + 1)).length (rowS (en ts f) a m (j + 1)) ∧ Below (w.heap.size + 1) (w.alloc (.cells #[.int .i64 xk, .int .u64 m, .string s] 58)) w5) :=
        ⟨HX.out.1.kept (gb_bel hb5) (by simp [Value.ownBlock]), HX.out.2.trans (hb5.mono (by have := HX.out.2.size; simp at this; omega))⟩
      clear hb5
      go_wp2_with fail
      go_roundg (gk - 1)
      case rel => exact ⟨j + 1, y1, by have := HJ.out; omega, by go_num, rfl, HQ2.out, HZ.out.1, HZ.out.2⟩
      case measure => have := HJ.out; omega
    · have ej : j = N := by omega
      subst ej
      have HLN : (rowS (en ts f) a m j).length = j := by simp [rowS]
      have HX : Hid (wr.ownsRow w.heap.size 2 1 u7 j (rowS (en ts f) a m j) ∧ Below w.heap.size w wr) := ⟨by have := own_b HO.out (show w.heap.size ≤ w.heap.size + 1 by omega); rwa [HLN] at this, HBW.out⟩
      clear HLN
      go_wp2_with fail
      go_ret
      exact ⟨_, rfl, by rw [HNP.out, HRW.out]; exact HX.out.1, HX.out.2⟩
set_option maxRecDepth 100000 in
set_option maxHeartbeats 4000000 in
theorem plan_union (ts : List (Int × Int)) (f a e0 : Nat) (x : It) (v : Value) (w : World) (hf7 : f ≤ 7) (hv : IsTyps w.heap.size w v ts) (ha : a < ts.length) (hok : tyOk ts[a].1 ts[a].2 = true) (hit : iter (en ts f) (a + 1) (kids ts[a].1 ts[a].2) = some e0) (hfn : fitsN ts[a].1 ts[a].2 x.n = true) (hk : ts[a].1 = 9) :
    Calls Tryz.prog 40 #[v, .int .i64 a, .agg #[.int .i64 x.k, .int .u64 x.n, .string x.s]] w fun e w' => PlPost ts f a ts[a].1 x.n w e w' := by
  obtain ⟨i0, hi, hz0, hz1, hz2⟩ := info_parts Tryz.infoI64
  have hN0 : 0 ≤ ts[a].2 ∧ ts[a].2 ≤ 6 := by simp only [tyOk, decide_eq_true_eq] at hok; omega
  obtain ⟨N, hN⟩ := Int.eq_ofNat_of_zero_le hN0.1
  have hN6 : N ≤ 6 := by omega
  have hkids : kids ts[a].1 ts[a].2 = N := by unfold kids; rw [if_neg (by omega), if_pos (by omega), hN]; rfl
  rw [hkids] at hit
  have hmN : x.n < N := by have := hfn; unfold fitsN at this; rw [if_neg (by omega), if_neg (by omega), if_neg (by omega), if_neg (by omega), if_pos (by omega)] at this; have := of_decide_eq_true this; omega
  have HST : Hid (∀ i, i < N → ∃ y y', iter (en ts f) (a + 1) i = some y ∧ iter (en ts f) (a + 1) (i + 1) = some y' ∧ en ts 7 y = some y' ∧ y ≤ ts.length) := fun i hi => by
    obtain ⟨y, hy⟩ := iter_part hit (show i ≤ N by omega)
    obtain ⟨y', hy'⟩ := iter_part hit (show i + 1 ≤ N by omega)
    have h1 := hy'
    rw [iter_succ, hy] at h1
    have h2 : en ts f y = some y' := h1
    exact ⟨y, y', hy, hy', en_mono hf7 h2, by have := en_lt h2; omega⟩
  have HNP : Hid (np ts[a].1 x.n = 1) := by show _ = _; unfold np; rw [if_neg (by omega), if_pos (by omega)]
  have HRW : Hid (plRow ts f a ts[a].1 x.n = rowU (en ts f) a x.n N) := by
    show _ = _
    unfold plRow
    rw [HNP.out]
    unfold rowU
    rw [if_pos hmN]
    have : pl ts f a ts[a].1 x.n 0 = (iter (en ts f) (a + 1) x.n).getD 0 := by unfold pl; rw [if_neg (by omega), if_pos (by omega)]
    simp [List.range_succ, this]
  have hsm := hv.small
  have HV : Hid (IsTyps w.heap.size w v ts) := hv
  obtain ⟨b, o, cap, hv', hb, h1, h2, c0, c1⟩ := hv.at ha
  unfold PlPost
  rw [hk] at HNP HRW c0 ⊢
  rw [hN] at c1
  subst hv'
  obtain ⟨xk, m, s⟩ := x
  simp only at HNP HRW ⊢ hmN
  unfold maxLen at h2
  clear hv hok hfn hit hkids hN0 hN hk
  go_enter Tryz.func40, Tryz.ntmps40
  go_wp2_with fail
  go_loopg [7, 9, 10] N (fun gk vp p i wr => ∃ j y : Nat, j + gk = N ∧ i = .int .u64 j ∧ p = .int .i64 y ∧ iter (en ts f) (a + 1) j = some y ∧ wr.ownsRow (w.heap.size + 1) 2 1 vp (rowU (en ts f) a m j).length (rowU (en ts f) a m j) ∧ Below (w.heap.size + 1) (w.alloc (.cells #[.int .i64 xk, .int .u64 m, .string s] 58)) wr)
  case atStart => exact ⟨0, a + 1, by omega, rfl, by go_num, rfl, (by simpa [rowU] using own_nil w #[.int .i64 xk, .int .u64 m, .string s] 58), (Below.refl _ _).alloc (by simp) _⟩
  case round =>
    obtain ⟨j, y, hj', rfl, rfl, hy, hown, hbel⟩ := hrel
    have HJ : Hid (j + gk = N) := hj'
    have hj : j ≤ N := by omega
    have HY : Hid (iter (en ts f) (a + 1) j = some y) := hy
    have HO : Hid (wr.ownsRow (w.heap.size + 1) 2 1 u7 (rowU (en ts f) a m j).length (rowU (en ts f) a m j)) := hown
    have HB : Hid (Below (w.heap.size + 1) (w.alloc (.cells #[.int .i64 xk, .int .u64 m, .string s] 58)) wr) := hbel
    have hBw : Below w.heap.size w wr := (bel1 _ _).trans (hbel.mono (by omega))
    have HBW : Hid (Below w.heap.size w wr) := hBw
    have d1 : wr.cell? ⟨w.heap.size, 1, none⟩ = some (.int .u64 m) := by rw [hbel.cell (p := ⟨w.heap.size, 1, none⟩) (by simp)]; simp [go_sem]
    have e0' : wr.cell? ⟨b, o + a * 2, none⟩ = some (.int .i64 9) := by rw [hBw.cell (p := ⟨b, o + a * 2, none⟩) ‹_›]; exact c0
    have e1' : wr.cell? ⟨b, o + a * 2 + 1, none⟩ = some (.int .i64 (N : Int)) := by rw [hBw.cell (p := ⟨b, o + a * 2 + 1, none⟩) ‹_›]; exact c1
    have hsr : w.heap.size < wr.heap.size := by have := hbel.size; simp at this; omega
    have hrl : (rowU (en ts f) a m j).length ≤ 6 := Nat.le_trans (rowU_len _ _ _ _) (by omega)
    clear hj' hown hbel hy hBw
    by_cases hjm : j < N
    · obtain ⟨y0, y1, q1, q2, q3, q4⟩ := HST.out j hjm
      have ey : y0 = y := by rw [HY.out] at q1; injection q1 with q1; exact q1.symm
      subst ey
      have HQ2 : Hid (iter (en ts f) (a + 1) (j + 1) = some y1) := q2
      have HSK : Hid (∀ w', Below w.heap.size w w' → Calls Tryz.prog 67 #[.slice (some ⟨b, o, none⟩) ts.length cap, .int .i64 y0] w' fun e w'' => e = .returned (.int .i64 y1) ∧ Below w'.heap.size w' w'') := fun w' hb' => by
        have := l2Skip_any ts y0 (.slice (some ⟨b, o, none⟩) ts.length cap) w' (by omega) ((HV.out.below hb').up hb'.size)
        rw [q3] at this
        exact this
      clear q1 q2 q3
      by_cases hjx : j = m
      · subst hjx
        go_wp2_with (at_builtin; refine wpList_append_lies _ rfl _ _ 85 rfl (w.heap.size + 1) 2 i0 (.int .i64 0) 1 8 Tryz.underlying85 hi hz0 hz1 hz2 rfl (by decide) u7 (rowU (en ts f) a j j).length _ rfl (HO.out.alloc _) ⟨wr.heap.size, 0, none⟩ 1 1 [.int .i64 (y0 : Int)] rfl rfl ?c1 ?c2 (by omega) ?c3 ?c4 ?c5 (wr.heap.size + 1) (by simp) ?_)
        case c1 =>
          intro i u hi
          match i, hi with
          | 0, hi => simp at hi; subst hi; simp [Addr.add]
        case c2 => intro u hu; simp at hu; subst hu; rfl
        case c3 => unfold maxLen; omega
        case c4 => omega
        case c5 => simp; omega
        intro g cap' w4 hown' hgrow hat hlt'
        have B4 : Below (w.heap.size + 1) (w.alloc (.cells #[.int .i64 xk, .int .u64 j, .string s] 58)) w4 := (HB.out.alloc (by omega) _).grown hgrow (by simp; omega) (fun q hq => (HO.out.lt q hq).1)
        have HR : Hid (rowU (en ts f) a j (j + 1) = rowU (en ts f) a j j ++ [.int .i64 (y0 : Int)]) := rowU_take HY.out rfl
        have HX : Hid (w4.ownsRow (w.heap.size + 1) 2 1 (.slice (some ⟨g, 0, none⟩) ((rowU (en ts f) a j j).length + 1) cap') (rowU (en ts f) a j (j + 1)).length (rowU (en ts f) a j (j + 1)) ∧ Below (w.heap.size + 1) (w.alloc (.cells #[.int .i64 xk, .int .u64 j, .string s] 58)) w4) := by
          refine ⟨?_, B4⟩
          rw [HR.out, List.length_append]
          exact hown'
        have HB4 : Hid (Below w.heap.size w w4) := (bel1 _ _).trans (B4.mono (by omega))
        clear hown' hgrow hat hlt' d1 e0' e1' B4
        go_wp2_with fail
        refine (HSK.out w4 HB4.out).mono ?_
        rintro e w5 ⟨rfl, hb5⟩
        have HZ : Hid (w5.ownsRow (w.heap.size + 1) 2 1 (.slice (some ⟨g, 0, none⟩) ((rowU (en ts f) a j j).length + 1) cap') (rowU (en ts f) a j (j + 1)).length (rowU (en ts f) a j (j + 1)) ∧ Below (w.heap.size + 1) (w.alloc (.cells #[.int .i64 xk, .int .u64 j, .string s] 58)) w5) :=
          ⟨HX.out.1.kept (gb_bel hb5) (by simp [Value.ownBlock]), HX.out.2.trans (hb5.mono (by have := HX.out.2.size; simp at this; omega))⟩
        clear hb5
        go_wp2_with fail
        go_roundg (gk - 1)
        case rel => exact ⟨j + 1, y1, by have := HJ.out; omega, by go_num, rfl, HQ2.out, HZ.out.1, HZ.out.2⟩
        case measure => have := HJ.out; omega
      · have hjq : ((j : Int) == (m : Int)) = false := beqF (by omega)
        have HR : Hid (rowU (en ts f) a m (j + 1) = rowU (en ts f) a m j) := rowU_skip hjx
        go_wp2_with fail
        refine (HSK.out wr HBW.out).mono ?_
        rintro e w5 ⟨rfl, hb5⟩
        have HZ : Hid (w5.ownsRow (w.heap.size + 1) 2 1 u7 (rowU (en ts f) a m (j + 1)).length (rowU (en ts f) a m (j + 1)) ∧ Below (w.heap.size + 1) (w.alloc (.cells #[.int .i64 xk, .int .u64 m, .string s] 58)) w5) := by
          rw [HR.out]
          exact ⟨HO.out.kept (gb_bel hb5) (by cases u7.ownBlock <;> simp), HB.out.trans (hb5.mono (by omega))⟩
        clear hb5
        go_wp2_with fail
        go_roundg (gk - 1)
        case rel => exact ⟨j + 1, y1, by have := HJ.out; omega, by go_num, rfl, HQ2.out, HZ.out.1, HZ.out.2⟩
        case measure => have := HJ.out; omega
    · have ej : j = N := by omega
      subst ej
      have HLN : (rowU (en ts f) a m j).length = 1 := by unfold rowU; rw [if_pos hmN]; rfl
      have HX : Hid (wr.ownsRow w.heap.size 2 1 u7 1 (rowU (en ts f) a m j) ∧ Below w.heap.size w wr) := ⟨by have := own_b HO.out (show w.heap.size ≤ w.heap.size + 1 by omega); rwa [HLN] at this, HBW.out⟩
      clear HLN
      go_wp2_with fail
      go_ret
      exact ⟨_, rfl, by rw [HNP.out, HRW.out]; exact HX.out.1, HX.out.2⟩
theorem l3Plan_any (ts : List (Int × Int)) (f a e0 : Nat) (x : It) (v : Value) (w : World) (hf7 : f ≤ 7) (hv : IsTyps w.heap.size w v ts) (ha : a < ts.length) (hok : tyOk ts[a].1 ts[a].2 = true) (hit : iter (en ts f) (a + 1) (kids ts[a].1 ts[a].2) = some e0) (hfn : fitsN ts[a].1 ts[a].2 x.n = true) :
    Calls Tryz.prog 40 #[v, .int .i64 a, .agg #[.int .i64 x.k, .int .u64 x.n, .string x.s]] w fun e w' => PlPost ts f a ts[a].1 x.n w e w' := by
  have h9 : 1 ≤ ts[a].1 ∧ ts[a].1 ≤ 9 := by simp only [tyOk, decide_eq_true_eq] at hok; omega
  by_cases h1 : ts[a].1 ≤ 4
  · exact plan_flat ts f a x v w hv ha (by omega)
  · by_cases h2 : ts[a].1 = 7
    · exact plan_struct ts f a e0 x v w hf7 hv ha hok hit hfn h2
    · by_cases h3 : ts[a].1 = 9
      · exact plan_union ts f a e0 x v w hf7 hv ha hok hit hfn h3
      · exact plan_rep ts f a x v w hv ha hok hfn (by omega)
end Go.Proofs.YtepffjfgomhepaaGreatDoor
