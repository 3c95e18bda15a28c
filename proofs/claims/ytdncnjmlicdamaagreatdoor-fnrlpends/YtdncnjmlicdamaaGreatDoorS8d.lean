/- S7w, S7d, S8c, S8d: one text. -/
import Derived.Test.YtdncnjmlicdamaaGreatDoorSBi
import Derived.Deep.RegionHeld3
import Derived.Test.YtdncnjmlicdamaaGreatDoorRDl
import Derived.Test.YtdncnjmlicdamaaGreatDoorS3j
namespace Go.Proofs.YtdncnjmlicdamaaGreatDoor
open Go.RowKit Go.Sort
set_option linter.unusedVariables false
end Go.Proofs.YtdncnjmlicdamaaGreatDoor
namespace Go.Proofs.YtdncnjmlicdamaaGreatDoor
open Go.RowKit Go.Sort
set_option linter.unusedVariables false
theorem VAt.iface {ts : List (Int × Int)} {vs : List It} {f : Nat} {w : World} {S : Nat → Prop} {x : Value} {a q : Nat} (h : VAt ts vs f w S x a q) : ∃ T z, x = .iface T z := by
  cases f with
  | zero => exact h.elim
  | succ f =>
    obtain ⟨u, ha, hq, ht, hf, h⟩ := h
    rcases h with ⟨_, h⟩ | ⟨_, h⟩ | ⟨_, ad, cap, h, _⟩ | ⟨_, y, h, _⟩
    all_goals exact ⟨_, _, h⟩
theorem VAt.bel {ts : List (Int × Int)} {vs : List It} {f : Nat} {w w' : World} {S : Nat → Prop} {x : Value} {a q : Nat} (h : VAt ts vs f w S x a q) (hS : ∀ c, S c → c < w.heap.size) (hb : Below w.heap.size w w') : VAt ts vs f w' S x a q :=
  h.keep (fun _ h => h) (fun c hc => hb.block c (hS c hc))
theorem own_num {cnt : Nat → List UInt8} {k n : Int} {x : It} (hk : x.k = k) (h : k = 1 ∨ k = 2 ∨ k = 8 ∨ k = 9) : own cnt n x = leL x.n (wid k n) := by
  subst hk
  unfold own wid
  rcases h with h | h | h | h <;> simp [h]
theorem own_bytes {cnt : Nat → List UInt8} {k n : Int} {x : It} (hk : x.k = k) (h : k = 3 ∨ k = 4) : own cnt n x = (if k = 3 ∨ k = 5 then cnt x.s.size else []) ++ x.s.data.toList := by
  subst hk
  unfold own
  rcases h with h | h <;> simp [h]
theorem own_series {cnt : Nat → List UInt8} {k n : Int} {x : It} (hk : x.k = k) (h : k = 5 ∨ k = 6 ∨ k = 7) : own cnt n x = if k = 3 ∨ k = 5 then cnt x.n else [] := by
  subst hk
  unfold own
  rcases h with h | h | h <;> simp [h]
theorem scE_le {cnt : Nat → List UInt8} {ts : List (Int × Int)} {vs : List It} (hc : ∀ m, (cnt m).length ≤ 9) (hs : ∀ x ∈ vs, x.s.size ≤ 1048577) (hl : vs.length ≤ 200) {f a e q q' : Nat} (he : en ts f a = some e) (hv : ve ts vs f a q = some q') : (scE cnt ts vs f a q).length ≤ 1000000000 := by
  have h1 := scE_len hc hs he hv
  have h2 := (ve_lt hv).2
  have h3 : q' * 1048590 ≤ 200 * 1048590 := Nat.mul_le_mul_right _ (by omega)
  omega
end Go.Proofs.YtdncnjmlicdamaaGreatDoor
namespace Go.Proofs.YtdncnjmlicdamaaGreatDoor
open Go.RowKit Go.Sort
set_option linter.unusedVariables false
set_option maxRecDepth 100000 in
set_option maxHeartbeats 2000000 in
theorem rwNum (u m : Nat) (w : World) (hm : m < 18446744073709551616) :
    Calls Tryz.prog 97 #[.agg #[], .iface 124 (.agg #[.pointer (some ⟨u, 0, none⟩), .int .u64 m])] w fun e w' => e = .returned (.string ⟨(rlNum m).toArray⟩) ∧ Below w.heap.size w w' := by
  have HC : Hid (∀ w, Calls Tryz.prog 99 #[.int .u64 m] w fun e w' => e = .returned (.string ⟨(rlNum m).toArray⟩) ∧ Below w.heap.size w w') := fun w => rlNumber_impl m w hm
  have y1 := as_yes_124
  go_enter Tryz.func97, Tryz.ntmps97
  go_wp2_with fail
  refine (HC.out _).mono ?_
  rintro e w1 ⟨rfl, hb1⟩
  have HB : Hid (Below w.heap.size w w1) := (bel2 _ _ _).trans (hb1.mono (by simp; omega))
  clear hb1
  go_wp2_with fail
  go_ret
  exact ⟨rfl, HB.out⟩
set_option maxRecDepth 100000 in
set_option maxHeartbeats 2000000 in
theorem rwBytes (u : Nat) (s : ByteArray) (w : World) (hs : s.size ≤ 60000) :
    Calls Tryz.prog 97 #[.agg #[], .iface 126 (.agg #[.pointer (some ⟨u, 0, none⟩), .string s])] w fun e w' => e = .returned (.string ⟨(rlS s.data.toList).toArray⟩) ∧ Below w.heap.size w w' := by
  have HC : Hid (∀ w, Calls Tryz.prog 100 #[.string s] w fun e w' => e = .returned (.string ⟨(rlS s.data.toList).toArray⟩) ∧ Below w.heap.size w w') := fun w => by
    have := rlString_impl s.data.toList w (by have : s.data.toList.length = s.size := Array.length_toList; omega)
    simpa using this
  have y1 := as_yes_126
  have n1 := as_no_126_124
  clear hs
  go_enter Tryz.func97, Tryz.ntmps97
  go_wp2_with fail
  refine (HC.out _).mono ?_
  rintro e w1 ⟨rfl, hb1⟩
  have HB : Hid (Below w.heap.size w w1) := (bel2 _ _ _).trans (hb1.mono (by simp; omega))
  clear hb1
  go_wp2_with fail
  go_ret
  exact ⟨rfl, HB.out⟩
set_option maxRecDepth 100000 in
set_option maxHeartbeats 2000000 in
theorem rwSeries (u M cap : Nat) (ad : Option Addr) (ys : Nat → Value) (E : Nat → List UInt8) (w : World) (hM : M ≤ 20) (h1 : M ≤ cap) (h2 : cap ≤ maxLen)
    (hcell : M = 0 ∨ ∃ g, ad = some ⟨g, 0, none⟩ ∧ g < w.heap.size ∧ ∀ j, j < M → w.cell? ⟨g, j, none⟩ = some (ys j)) (hE : ∀ j, j < M → (E j).length ≤ 1000000000000) (hw : WrHyp_rlp ys E M w) (hl : (catE E M).length ≤ 65535) :
    Calls Tryz.prog 97 #[.agg #[], .iface 131 (.agg #[.pointer (some ⟨u, 0, none⟩), .slice ad M cap])] w fun e w' => e = .returned (.string ⟨(rlL (catE E M)).toArray⟩) ∧ Below w.heap.size w w' := by
  have HA : Hid (∀ w', Below w.heap.size w w' → Calls Tryz.prog 102 #[.iface 45 (.agg #[]), .slice ad M cap] w' fun e w'' => e = .returned (.string ⟨(catE E M).toArray⟩) ∧ Below w'.heap.size w' w'') := fun w' hb => by
    refine writeAll_rlp M cap ad ys E w' hM h1 h2 ?_ hE (fun j hj w'' hb' => hw j hj w'' (hb.trans (hb'.mono hb.size)))
    rcases hcell with h | ⟨g, hg, hgl, hc⟩
    · exact .inl h
    · exact .inr ⟨g, hg, by have := hb.size; omega, fun j hj => by rw [hb.cell (p := ⟨g, j, none⟩) hgl]; exact hc j hj⟩
  have HC : Hid (∀ w, Calls Tryz.prog 101 #[.string ⟨(catE E M).toArray⟩] w fun e w' => e = .returned (.string ⟨(rlL (catE E M)).toArray⟩) ∧ Below w.heap.size w w') := fun w => rlList_impl _ w hl
  generalize (⟨(catE E M).toArray⟩ : ByteArray) = S at HA HC
  have y1 := as_yes_131
  have n1 := as_no_131_124
  have n2 := as_no_131_126
  clear hw hcell hE hl
  go_enter Tryz.func97, Tryz.ntmps97
  go_wp2_with fail
  refine (HA.out _ (bel2 _ _ _)).mono ?_
  rintro e w1 ⟨rfl, hb1⟩
  have HB : Hid (Below w.heap.size w w1) := (bel2 _ _ _).trans (hb1.mono (by simp; omega))
  clear hb1
  go_wp2_with fail
  refine (HC.out _).mono ?_
  rintro e w2 ⟨rfl, hb2⟩
  have HB2 : Hid (Below w.heap.size w w2) := HB.out.trans (hb2.mono HB.out.size)
  clear hb2
  go_wp2_with fail
  go_ret
  exact ⟨rfl, HB2.out⟩
/-- What stands in the list of an option or a union. -/
def chB (k : Int) (m : Nat) (y : Value) (E : List UInt8) : List UInt8 := (if k = 9 then rlNum m else []) ++ E
set_option maxRecDepth 100000 in
set_option maxHeartbeats 2000000 in
theorem rlCh_nil (u m : Nat) (w : World) :
    Calls Tryz.prog 103 #[.agg #[], .agg #[.pointer (some ⟨u, 0, none⟩), .int .u64 m, .nilIface]] w fun e w' => e = .returned (.string ⟨#[]⟩) ∧ Below w.heap.size w w' := by
  go_enter Tryz.func103, Tryz.ntmps103
  go_wp2_with fail
  go_ret
  exact ⟨rfl, bel2 _ _ _⟩
set_option maxRecDepth 100000 in
set_option maxHeartbeats 2000000 in
theorem rlCh_opt (u m : Nat) (T : TypeId) (z : Value) (E : List UInt8) (w : World) (c0 : w.cell? ⟨u, 0, none⟩ = some (.int .i64 8)) (hu : u < w.heap.size)
    (hy : ∀ w', Below w.heap.size w w' → Calls Tryz.prog 97 #[.agg #[], .iface T z] w' fun e w'' => e = .returned (.string ⟨E.toArray⟩) ∧ Below w'.heap.size w' w'') :
    Calls Tryz.prog 103 #[.agg #[], .agg #[.pointer (some ⟨u, 0, none⟩), .int .u64 m, .iface T z]] w fun e w' => e = .returned (.string ⟨E.toArray⟩) ∧ Below w.heap.size w w' := by
  have HY : Hid (∀ w', Below w.heap.size w w' → Calls Tryz.prog 97 #[.agg #[], .iface T z] w' fun e w'' => e = .returned (.string ⟨E.toArray⟩) ∧ Below w'.heap.size w' w'') := hy
  have r0 := cell_2 c0 hu (.cells #[] 45) (.cells #[.pointer (some ⟨u, 0, none⟩), .int .u64 (m : Int), .iface T z] 133)
  clear hy
  go_enter Tryz.func103, Tryz.ntmps103
  go_wp2_with fail
  refine (HY.out _ (bel2 _ _ _)).mono ?_
  rintro e w1 ⟨rfl, hb1⟩
  have HB : Hid (Below w.heap.size w w1) := (bel2 _ _ _).trans (hb1.mono (by simp; omega))
  clear hb1 r0
  go_wp2_with fail
  go_ret
  exact ⟨rfl, HB.out⟩
set_option maxRecDepth 100000 in
set_option maxHeartbeats 2000000 in
theorem rlCh_uni (u m : Nat) (T : TypeId) (z : Value) (E : List UInt8) (w : World) (c0 : w.cell? ⟨u, 0, none⟩ = some (.int .i64 9)) (hu : u < w.heap.size) (hm : m < 18446744073709551616) (hE : E.length ≤ 65535)
    (hy : ∀ w', Below w.heap.size w w' → Calls Tryz.prog 97 #[.agg #[], .iface T z] w' fun e w'' => e = .returned (.string ⟨E.toArray⟩) ∧ Below w'.heap.size w' w'') :
    Calls Tryz.prog 103 #[.agg #[], .agg #[.pointer (some ⟨u, 0, none⟩), .int .u64 m, .iface T z]] w fun e w' => e = .returned (.string ⟨(rlNum m ++ E).toArray⟩) ∧ Below w.heap.size w w' := by
  have HC : Hid (∀ w, Calls Tryz.prog 99 #[.int .u64 m] w fun e w' => e = .returned (.string ⟨(rlNum m).toArray⟩) ∧ Below w.heap.size w w') := fun w => rlNumber_impl m w hm
  have HY : Hid (∀ w', Below w.heap.size w w' → Calls Tryz.prog 97 #[.agg #[], .iface T z] w' fun e w'' => e = .returned (.string ⟨E.toArray⟩) ∧ Below w'.heap.size w' w'') := hy
  have HR : Hid ((⟨(rlNum m).toArray⟩ : ByteArray) ++ ⟨E.toArray⟩ = ⟨(rlNum m ++ E).toArray⟩) := cat_list _ _
  have hsz : ByteArray.size ⟨(rlNum m).toArray⟩ ≤ 10 := by rw [ba_sz]; exact rlNum_len hm
  have hsz2 : ByteArray.size ⟨E.toArray⟩ ≤ 65535 := by rw [ba_sz]; exact hE
  obtain ⟨D, hD⟩ : ∃ D : ByteArray, (⟨(rlNum m).toArray⟩ : ByteArray) = D := ⟨_, rfl⟩
  obtain ⟨X, hX⟩ : ∃ X : ByteArray, (⟨E.toArray⟩ : ByteArray) = X := ⟨_, rfl⟩
  rw [hD] at hsz HC
  rw [hX] at hsz2 HY
  rw [hD, hX] at HR
  have hD2 : ¬ (9223372036854775807 < D.size + X.size) := by omega
  have r0 := cell_2 c0 hu (.cells #[] 45) (.cells #[.pointer (some ⟨u, 0, none⟩), .int .u64 (m : Int), .iface T z] 133)
  have s1 := cells_re3 (w := ((w.alloc (.cells #[] 45)).alloc (.cells #[.pointer (some ⟨u, 0, none⟩), .int .u64 (m : Int), .iface T z] 133))) (a := ⟨w.heap.size + 1, 1, none⟩) (v := .int .u64 (m : Int)) (by simp [go_sem])
  have s2 := cells_re3 (w := ((w.alloc (.cells #[] 45)).alloc (.cells #[.pointer (some ⟨u, 0, none⟩), .int .u64 (m : Int), .iface T z] 133))) (a := ⟨w.heap.size + 1, 2, none⟩) (v := .iface T z) (by simp [go_sem])
  have HBR : Hid (∀ d os, Below w.heap.size w (grow (redrawn ((w.alloc (.cells #[] 45)).alloc (.cells #[.pointer (some ⟨u, 0, none⟩), .int .u64 (m : Int), .iface T z] 133)) d) os)) := fun d os => (bel2 _ _ _).trans ((below_regrown _ d os).mono (by simp; omega))
  clear hD hX hy hE hsz hsz2
  go_enter Tryz.func103, Tryz.ntmps103
  go_wp2_with fail
  refine wp_region_quiet_below (by kernel_rfl) (by kernel_rfl) ?_
  repeat (go_big_quiet_step (first | (go_at_call 99; exact Calls.regrown_of (HC.out _)) | (go_at_call 97; exact Calls.regrown_of (HY.out _ (HBR.out _ _)))))
  refine wpQuiet_nil ?_
  intro w6 hw'
  obtain ⟨⟨dq, osq⟩, hw''⟩ := hw'
  have hb2 : Below w.heap.size w w6 := by rw [hw'']; exact HBR.out _ _
  clear hw'' s1 s2 r0
  go_wp2_with fail
  go_ret
  exact ⟨by rw [← HR.out]; rfl, hb2⟩
set_option maxRecDepth 100000 in
set_option maxHeartbeats 2000000 in
theorem rwChoice (u m : Nat) (y : Value) (B : List UInt8) (w : World) (hy1 : y = .nilIface ∨ ∃ T z, y = .iface T z) (hB : B.length ≤ 65535)
    (hy : ∀ w', Below w.heap.size w w' → Calls Tryz.prog 103 #[.agg #[], .agg #[.pointer (some ⟨u, 0, none⟩), .int .u64 m, y]] w' fun e w'' => e = .returned (.string ⟨B.toArray⟩) ∧ Below w'.heap.size w' w'') :
    Calls Tryz.prog 97 #[.agg #[], .iface 133 (.agg #[.pointer (some ⟨u, 0, none⟩), .int .u64 m, y])] w fun e w' => e = .returned (.string ⟨(rlL B).toArray⟩) ∧ Below w.heap.size w w' := by
  have HY : Hid (∀ w', Below w.heap.size w w' → Calls Tryz.prog 103 #[.agg #[], .agg #[.pointer (some ⟨u, 0, none⟩), .int .u64 m, y]] w' fun e w'' => e = .returned (.string ⟨B.toArray⟩) ∧ Below w'.heap.size w' w'') := hy
  have HC : Hid (∀ w, Calls Tryz.prog 101 #[.string ⟨B.toArray⟩] w fun e w' => e = .returned (.string ⟨(rlL B).toArray⟩) ∧ Below w.heap.size w w') := fun w => rlList_impl _ w hB
  have y1 := as_yes_133
  have n1 := as_no_133_124
  have n2 := as_no_133_126
  have n3 := as_no_133_131
  generalize (⟨B.toArray⟩ : ByteArray) = S at HY HC
  clear hy hB
  rcases hy1 with rfl | ⟨T, z, rfl⟩
  all_goals
    go_enter Tryz.func97, Tryz.ntmps97
    go_wp2_with fail
    refine (HY.out _ (bel2 _ _ _)).mono ?_
    rintro e w1 ⟨rfl, hb1⟩
    have HB : Hid (Below w.heap.size w w1) := (bel2 _ _ _).trans (hb1.mono (by simp; omega))
    clear hb1
    go_wp2_with fail
    refine (HC.out _).mono ?_
    rintro e w2 ⟨rfl, hb2⟩
    have HB2 : Hid (Below w.heap.size w w2) := HB.out.trans (hb2.mono HB.out.size)
    clear hb2
    go_wp2_with fail
    go_ret
    exact ⟨rfl, HB2.out⟩
theorem write_rlp (ts : List (Int × Int)) (vs : List It) (hvs : ∀ x ∈ vs, x.n < 18446744073709551616 ∧ x.s.size ≤ 1048577) (hl : vs.length ≤ 200) : ∀ (f a q q' : Nat) (S : Nat → Prop) (x : Value) (w : World), ve ts vs f a q = some q' → VAt ts vs f w S x a q → (∀ c, S c → c < w.heap.size) →
    Calls Tryz.prog 97 #[.agg #[], x] w fun e w' => e = .returned (.string ⟨(rlE ts vs f a q).toArray⟩) ∧ Below w.heap.size w w' := by
  intro f
  induction f with
  | zero => intro a q q' S x w h; cases h
  | succ f ih =>
    intro a q q' S x w hv hx hS
    obtain ⟨u, ha, hq, ht, hfit, hx⟩ := hx
    obtain ⟨_, e0, ad0, cap0, hok, hit, hu, c0, c1, _⟩ := ht.openT
    have hul := hS u hu
    have hfit' : vs[q].k = ts[a].1 ∧ fitsN ts[a].1 ts[a].2 vs[q].n = true := by simp [fitsI] at hfit; exact ⟨hfit.1, hfit.2.1⟩
    obtain ⟨hxn, hxs⟩ := hvs vs[q] (List.getElem_mem hq)
    have hns : ∀ x ∈ vs, x.n < 18446744073709551616 := fun x h => (hvs x h).1
    have hs200 := fit_size hok hfit
    rw [ve_ok ha hq hfit] at hv
    rw [rlE_ok ha hq]
    have hpart : ∀ j, j < np ts[a].1 vs[q].n → ∃ y y', vit (ve ts vs f) (pl ts f a ts[a].1 vs[q].n) (q + 1) j = some y ∧ ve ts vs f (pl ts f a ts[a].1 vs[q].n j) y = some y' ∧ (rlE ts vs f (pl ts f a ts[a].1 vs[q].n j) y).length ≤ 40600 := fun j hj => by
      obtain ⟨y, hy⟩ := vit_part hv (show j ≤ np ts[a].1 vs[q].n by omega)
      obtain ⟨y', hy'⟩ := vit_part hv (show j + 1 ≤ np ts[a].1 vs[q].n by omega)
      rw [vit_succ, hy] at hy'
      obtain ⟨e', he'⟩ := pl_ok ha hok hit hfit'.2 hj
      exact ⟨y, y', hy, hy', rlE_le hns hl he' hy'⟩
    rcases hx with ⟨hk, rfl⟩ | ⟨hk, rfl⟩ | ⟨hk, ad, cap, rfl, h1, h2, h3⟩ | ⟨hk, y, rfl, h3⟩
    · rw [if_pos (by omega)]
      have e1 : rlOwn vs[q] = rlNum vs[q].n := by unfold rlOwn; rw [if_pos (by omega)]
      rw [e1]
      exact rwNum u vs[q].n w hxn
    · rw [if_pos (by omega)]
      have e1 : rlOwn vs[q] = rlS vs[q].s.data.toList := by unfold rlOwn; rw [if_neg (by omega), if_pos (by omega)]
      rw [e1]
      exact rwBytes u vs[q].s w (by omega)
    · rw [if_neg (by omega)]
      have e0 : np ts[a].1 vs[q].n = vs[q].n := by unfold np; rw [if_pos (by omega)]
      have e1 : rlOwn vs[q] = [] := by unfold rlOwn; rw [if_neg (by omega), if_neg (by omega)]
      have hbl := body_le (q' := q') hns hl ha hq hok hit hfit (by omega) (Nat.le_refl _) hv
      have h20 := np_le hok hfit'.2
      rw [e0] at h20 hpart hbl
      rw [e1, List.nil_append, cat_catE] at hbl
      rw [e0, e1, List.nil_append, cat_catE]
      obtain ⟨ys, hys⟩ : ∃ ys : Nat → Value, ys = fun j => (w.cell? ⟨(ad.map (·.block)).getD 0, j, none⟩).getD .nilIface := ⟨_, rfl⟩
      refine rwSeries u vs[q].n cap ad ys _ w h20 h1 h2 ?_ ?_ ?_ (by omega)
      · rcases h3 with h3 | ⟨g, rfl, hg, hp⟩
        · exact .inl h3
        · refine .inr ⟨g, rfl, hS g hg, fun j hj => ?_⟩
          obtain ⟨y, q1, _, hc, _⟩ := hp j hj
          rw [hys, hc]; simp [hc]
      · intro j hj
        obtain ⟨y, y', hy, _, hlen⟩ := hpart j hj
        rw [hy]
        simp only [Option.getD_some]
        omega
      · intro j hj w' hb
        obtain ⟨g, rfl, hg, hp⟩ := h3.resolve_left (by omega)
        obtain ⟨y, q1, hq1, hc, hva⟩ := hp j hj
        obtain ⟨z, z', hz, hz', _⟩ := hpart j hj
        have ez : z = q1 := by rw [hq1] at hz; injection hz with hz; exact hz.symm
        subst ez
        have ey : ys j = y := by rw [hys]; simp [hc]
        rw [ey]
        dsimp only
        rw [hz]
        exact ih _ _ _ S y w' hz' (hva.bel hS hb) (fun c hc => by have := hS c hc; have := hb.size; omega)
    · rw [if_neg (by omega)]
      have hbl := body_le (q' := q') hns hl ha hq hok hit hfit (by omega) (Nat.le_refl _) hv
      rcases h3 with ⟨h3, rfl⟩ | ⟨h3, hva⟩
      · have h8 : ts[a].1 = 8 := by
          rcases hk with hk | hk
          · exact hk
          · unfold np at h3; rw [if_neg (by omega), if_pos hk] at h3; cases h3
        have e1 : rlOwn vs[q] = [] := by unfold rlOwn; rw [if_neg (by omega), if_neg (by omega)]
        rw [h3, e1]
        exact rwChoice u vs[q].n .nilIface [] w (.inl rfl) (by simp) (fun w' _ => rlCh_nil u _ w')
      · have e0 : np ts[a].1 vs[q].n = 1 := by
          have h8 := hfit'.2
          unfold fitsN at h8
          unfold np at h3 ⊢
          rcases hk with hk | hk
          · rw [if_pos (by omega)] at h3 ⊢
            rw [if_neg (by omega), if_pos (by omega)] at h8
            have := of_decide_eq_true h8
            omega
          · rw [if_neg (by omega), if_pos hk]
        obtain ⟨z, z', hz, hz', hlen⟩ := hpart 0 (by omega)
        cases hz
        rw [e0] at hbl
        rw [e0]
        simp only [cat, vit_zero, Option.getD_some, List.nil_append] at hbl ⊢
        obtain ⟨T, zz, rfl⟩ := hva.iface
        have hrec : ∀ w', Below w.heap.size w w' → Calls Tryz.prog 97 #[.agg #[], .iface T zz] w' fun e w'' => e = .returned (.string ⟨(rlE ts vs f (pl ts f a ts[a].1 vs[q].n 0) (q + 1)).toArray⟩) ∧ Below w'.heap.size w' w'' := fun w' hb => ih _ _ _ S _ w' hz' (hva.bel hS hb) (fun c hc => by have := hS c hc; have := hb.size; omega)
        refine rwChoice u vs[q].n _ _ w (.inr ⟨T, zz, rfl⟩) (by omega) (fun w' hb => ?_)
        have c0' : w'.cell? ⟨u, 0, none⟩ = some (.int .i64 ts[a].1) := by rw [hb.cell (p := ⟨u, 0, none⟩) hul]; exact c0
        have hul' : u < w'.heap.size := by have := hb.size; omega
        rcases hk with hk | hk
        · have e1 : rlOwn vs[q] = [] := by unfold rlOwn; rw [if_neg (by omega), if_neg (by omega)]
          rw [e1, List.nil_append]
          exact rlCh_opt u _ T zz _ w' (by rw [c0', hk]) hul' (fun w'' hb' => hrec w'' (hb.trans (hb'.mono hb.size)))
        · have e1 : rlOwn vs[q] = rlNum vs[q].n := by unfold rlOwn; rw [if_pos (by omega)]
          rw [e1]
          exact rlCh_uni u _ T zz _ w' (by rw [c0', hk]) hul' hxn (by omega) (fun w'' hb' => hrec w'' (hb.trans (hb'.mono hb.size)))
end Go.Proofs.YtdncnjmlicdamaaGreatDoor
namespace Go.Proofs.YtdncnjmlicdamaaGreatDoor
open Go.RowKit Go.Sort
set_option linter.unusedVariables false
theorem cell_1r {w : World} {u i : Nat} {v : Value} (h : w.cell? ⟨u, i, none⟩ = some v) (hu : u < w.heap.size) (o : Obj) : (w.alloc o).cell? ⟨u, i, none⟩ = some v := by
  rw [(bel1 w o).cell (p := ⟨u, i, none⟩) hu]; exact h
/-- The contract of l4Enc, f levels being left. -/
def E4Hyp (ts : List (Int × Int)) (vs : List It) (f : Nat) : Prop :=
  ∀ (a q q' e0 : Nat) (vt vv : Value) (w : World), f ≤ 7 → en ts f a = some e0 → ve ts vs f a q = some q' → IsTyps w.heap.size w vt ts → IsItems w.heap.size w vv vs →
    Calls Tryz.prog 20 #[vt, .int .i64 a, vv, .int .i64 q] w fun e w' => e = .returned (.tuple #[.string ⟨(rlE ts vs f a q).toArray⟩, .int .i64 q']) ∧ Below w.heap.size w w'
set_option maxRecDepth 100000 in
set_option maxHeartbeats 4000000 in
theorem e4_1 (ts : List (Int × Int)) (vs : List It) (a q : Nat) (vt vv : Value) (w : World) (hT : IsTyps w.heap.size w vt ts) (hI : IsItems w.heap.size w vv vs) (ha : a < ts.length) (hq : q < vs.length) (hl : vs.length ≤ 200) (hs : vs[q].s.size ≤ 60000) (hk : vs[q].k = 1) :
    Calls Tryz.prog 20 #[vt, .int .i64 a, vv, .int .i64 q] w fun e w' => e = .returned (.tuple #[.string ⟨(rlOwn vs[q]).toArray⟩, .int .i64 ((q + 1 : Nat) : Int)]) ∧ Below w.heap.size w w' := by
  obtain ⟨b, o, C, hI, hF⟩ := hI
  have hvv := hF.at (by omega)
  rw [Nat.sub_zero, Nat.sub_zero, Nat.zero_mul, Nat.add_zero] at hvv
  have hsm := hI.small
  have hbB : b < w.heap.size := hI.low.resolve_left (by omega)
  obtain ⟨i0, i1, i2⟩ := hI.cells q hq
  obtain ⟨wk, wn, ws⟩ := hI.wf vs[q] (List.getElem_mem hq)
  have HL : Hid (∀ w, Calls Tryz.prog 35 #[.int .u64 vs[q].n] w fun e w' => e = .returned (.string ⟨(rlOwn vs[q]).toArray⟩) ∧ Below w.heap.size w w') := fun w => by
    have e1 : rlOwn vs[q] = rlNum vs[q].n := by unfold rlOwn; rw [if_pos (by omega)]
    rw [e1]
    exact rlNumber_spec _ w wn
  have hr := hI.room
  have hm := hI.most
  unfold maxLen at hm
  rw [hk] at i0
  obtain ⟨OW, hOW⟩ : ∃ OW : ByteArray, (⟨(rlOwn vs[q]).toArray⟩ : ByteArray) = OW := ⟨_, rfl⟩
  rw [hOW] at HL ⊢
  generalize vs[q] = it at *
  obtain ⟨ik, im, is⟩ := it
  simp only at i0 i1 i2 HL
  subst hvv
  clear hI hF hT wk hk hOW
  go_enter Tryz.func20, Tryz.ntmps20
  go_wp2_with fail
  refine (HL.out _).mono ?_
  rintro e w2 ⟨rfl, hb2⟩
  have HB2 : Hid (Below w.heap.size w w2) := (bel1 _ _).trans (hb2.mono (by simp))
  clear hb2
  go_wp2_with fail
  go_ret2
  exact ⟨by first | rfl | simp, HB2.out⟩
set_option maxRecDepth 100000 in
set_option maxHeartbeats 4000000 in
theorem e4_2 (ts : List (Int × Int)) (vs : List It) (a q : Nat) (vt vv : Value) (w : World) (hT : IsTyps w.heap.size w vt ts) (hI : IsItems w.heap.size w vv vs) (ha : a < ts.length) (hq : q < vs.length) (hl : vs.length ≤ 200) (hs : vs[q].s.size ≤ 60000) (hk : vs[q].k = 2) :
    Calls Tryz.prog 20 #[vt, .int .i64 a, vv, .int .i64 q] w fun e w' => e = .returned (.tuple #[.string ⟨(rlOwn vs[q]).toArray⟩, .int .i64 ((q + 1 : Nat) : Int)]) ∧ Below w.heap.size w w' := by
  obtain ⟨b, o, C, hI, hF⟩ := hI
  have hvv := hF.at (by omega)
  rw [Nat.sub_zero, Nat.sub_zero, Nat.zero_mul, Nat.add_zero] at hvv
  have hsm := hI.small
  have hbB : b < w.heap.size := hI.low.resolve_left (by omega)
  obtain ⟨i0, i1, i2⟩ := hI.cells q hq
  obtain ⟨wk, wn, ws⟩ := hI.wf vs[q] (List.getElem_mem hq)
  have HL : Hid (∀ w, Calls Tryz.prog 35 #[.int .u64 vs[q].n] w fun e w' => e = .returned (.string ⟨(rlOwn vs[q]).toArray⟩) ∧ Below w.heap.size w w') := fun w => by
    have e1 : rlOwn vs[q] = rlNum vs[q].n := by unfold rlOwn; rw [if_pos (by omega)]
    rw [e1]
    exact rlNumber_spec _ w wn
  have hr := hI.room
  have hm := hI.most
  unfold maxLen at hm
  rw [hk] at i0
  obtain ⟨OW, hOW⟩ : ∃ OW : ByteArray, (⟨(rlOwn vs[q]).toArray⟩ : ByteArray) = OW := ⟨_, rfl⟩
  rw [hOW] at HL ⊢
  generalize vs[q] = it at *
  obtain ⟨ik, im, is⟩ := it
  simp only at i0 i1 i2 HL
  subst hvv
  clear hI hF hT wk hk hOW
  go_enter Tryz.func20, Tryz.ntmps20
  go_wp2_with fail
  refine (HL.out _).mono ?_
  rintro e w2 ⟨rfl, hb2⟩
  have HB2 : Hid (Below w.heap.size w w2) := (bel1 _ _).trans (hb2.mono (by simp))
  clear hb2
  go_wp2_with fail
  go_ret2
  exact ⟨by first | rfl | simp, HB2.out⟩
set_option maxRecDepth 100000 in
set_option maxHeartbeats 4000000 in
theorem e4_3 (ts : List (Int × Int)) (vs : List It) (a q : Nat) (vt vv : Value) (w : World) (hT : IsTyps w.heap.size w vt ts) (hI : IsItems w.heap.size w vv vs) (ha : a < ts.length) (hq : q < vs.length) (hl : vs.length ≤ 200) (hs : vs[q].s.size ≤ 60000) (hk : vs[q].k = 3) :
    Calls Tryz.prog 20 #[vt, .int .i64 a, vv, .int .i64 q] w fun e w' => e = .returned (.tuple #[.string ⟨(rlOwn vs[q]).toArray⟩, .int .i64 ((q + 1 : Nat) : Int)]) ∧ Below w.heap.size w w' := by
  obtain ⟨b, o, C, hI, hF⟩ := hI
  have hvv := hF.at (by omega)
  rw [Nat.sub_zero, Nat.sub_zero, Nat.zero_mul, Nat.add_zero] at hvv
  have hsm := hI.small
  have hbB : b < w.heap.size := hI.low.resolve_left (by omega)
  obtain ⟨i0, i1, i2⟩ := hI.cells q hq
  obtain ⟨wk, wn, ws⟩ := hI.wf vs[q] (List.getElem_mem hq)
  have HL : Hid (∀ w, Calls Tryz.prog 36 #[.string vs[q].s] w fun e w' => e = .returned (.string ⟨(rlOwn vs[q]).toArray⟩) ∧ Below w.heap.size w w') := fun w => by
    have e1 : rlOwn vs[q] = rlS vs[q].s.data.toList := by unfold rlOwn; rw [if_neg (by omega), if_pos (by omega)]
    rw [e1]
    have := rlString_spec vs[q].s.data.toList w (by have : vs[q].s.data.toList.length = vs[q].s.size := Array.length_toList; omega)
    simpa using this
  have hr := hI.room
  have hm := hI.most
  unfold maxLen at hm
  rw [hk] at i0
  obtain ⟨OW, hOW⟩ : ∃ OW : ByteArray, (⟨(rlOwn vs[q]).toArray⟩ : ByteArray) = OW := ⟨_, rfl⟩
  rw [hOW] at HL ⊢
  generalize vs[q] = it at *
  obtain ⟨ik, im, is⟩ := it
  simp only at i0 i1 i2 HL
  subst hvv
  clear hI hF hT wk hk hOW
  go_enter Tryz.func20, Tryz.ntmps20
  go_wp2_with fail
  refine (HL.out _).mono ?_
  rintro e w2 ⟨rfl, hb2⟩
  have HB2 : Hid (Below w.heap.size w w2) := (bel1 _ _).trans (hb2.mono (by simp))
  clear hb2
  go_wp2_with fail
  go_ret2
  exact ⟨by first | rfl | simp, HB2.out⟩
set_option maxRecDepth 100000 in
set_option maxHeartbeats 4000000 in
theorem e4_4 (ts : List (Int × Int)) (vs : List It) (a q : Nat) (vt vv : Value) (w : World) (hT : IsTyps w.heap.size w vt ts) (hI : IsItems w.heap.size w vv vs) (ha : a < ts.length) (hq : q < vs.length) (hl : vs.length ≤ 200) (hs : vs[q].s.size ≤ 60000) (hk : vs[q].k = 4) :
    Calls Tryz.prog 20 #[vt, .int .i64 a, vv, .int .i64 q] w fun e w' => e = .returned (.tuple #[.string ⟨(rlOwn vs[q]).toArray⟩, .int .i64 ((q + 1 : Nat) : Int)]) ∧ Below w.heap.size w w' := by
  obtain ⟨b, o, C, hI, hF⟩ := hI
  have hvv := hF.at (by omega)
  rw [Nat.sub_zero, Nat.sub_zero, Nat.zero_mul, Nat.add_zero] at hvv
  have hsm := hI.small
  have hbB : b < w.heap.size := hI.low.resolve_left (by omega)
  obtain ⟨i0, i1, i2⟩ := hI.cells q hq
  obtain ⟨wk, wn, ws⟩ := hI.wf vs[q] (List.getElem_mem hq)
  have HL : Hid (∀ w, Calls Tryz.prog 36 #[.string vs[q].s] w fun e w' => e = .returned (.string ⟨(rlOwn vs[q]).toArray⟩) ∧ Below w.heap.size w w') := fun w => by
    have e1 : rlOwn vs[q] = rlS vs[q].s.data.toList := by unfold rlOwn; rw [if_neg (by omega), if_pos (by omega)]
    rw [e1]
    have := rlString_spec vs[q].s.data.toList w (by have : vs[q].s.data.toList.length = vs[q].s.size := Array.length_toList; omega)
    simpa using this
  have hr := hI.room
  have hm := hI.most
  unfold maxLen at hm
  rw [hk] at i0
  obtain ⟨OW, hOW⟩ : ∃ OW : ByteArray, (⟨(rlOwn vs[q]).toArray⟩ : ByteArray) = OW := ⟨_, rfl⟩
  rw [hOW] at HL ⊢
  generalize vs[q] = it at *
  obtain ⟨ik, im, is⟩ := it
  simp only at i0 i1 i2 HL
  subst hvv
  clear hI hF hT wk hk hOW
  go_enter Tryz.func20, Tryz.ntmps20
  go_wp2_with fail
  refine (HL.out _).mono ?_
  rintro e w2 ⟨rfl, hb2⟩
  have HB2 : Hid (Below w.heap.size w w2) := (bel1 _ _).trans (hb2.mono (by simp))
  clear hb2
  go_wp2_with fail
  go_ret2
  exact ⟨by first | rfl | simp, HB2.out⟩
set_option maxRecDepth 100000 in
set_option maxHeartbeats 8000000 in
theorem e4_5 (ts : List (Int × Int)) (vs : List It) (hl : vs.length ≤ 200) (f : Nat) (hp : E4Hyp ts vs f) (a q q' e0 : Nat) (vt vv : Value) (w : World) (hf7 : f ≤ 7) (hT : IsTyps w.heap.size w vt ts) (hI : IsItems w.heap.size w vv vs) (ha : a < ts.length) (hq : q < vs.length) (hok : tyOk ts[a].1 ts[a].2 = true) (hit : iter (en ts f) (a + 1) (kids ts[a].1 ts[a].2) = some e0) (hfi : fitsI ts[a].1 ts[a].2 vs[q] = true)
    (hv : vit (ve ts vs f) (pl ts f a ts[a].1 vs[q].n) (q + 1) (np ts[a].1 vs[q].n) = some q') (hk : ts[a].1 = 5) :
    Calls Tryz.prog 20 #[vt, .int .i64 a, vv, .int .i64 q] w fun e w' => e = .returned (.tuple #[.string ⟨(rlL (rlOwn vs[q] ++ cat (rlE ts vs f) (ve ts vs f) (pl ts f a ts[a].1 vs[q].n) (q + 1) (np ts[a].1 vs[q].n))).toArray⟩, .int .i64 q']) ∧ Below w.heap.size w w' := by
  have hfi' : vs[q].k = ts[a].1 ∧ fitsN ts[a].1 ts[a].2 vs[q].n = true ∧ fitsS ts[a].1 ts[a].2 vs[q].s.size = true := by simpa [fitsI] using hfi
  have hfn := hfi'.2.1
  have hvk := hfi'.1
  have hnp : np ts[a].1 vs[q].n ≤ 20 := np_le hok hfn
  have HPL : Hid (∀ j, j < np ts[a].1 vs[q].n → ∃ e', en ts f (pl ts f a ts[a].1 vs[q].n j) = some e') := fun j hj => pl_ok ha hok hit hfn hj
  have HPV : Hid (∀ j, j < np ts[a].1 vs[q].n → ∃ y y', vit (ve ts vs f) (pl ts f a ts[a].1 vs[q].n) (q + 1) j = some y ∧ ve ts vs f (pl ts f a ts[a].1 vs[q].n j) y = some y') := fun j hj => by
    obtain ⟨y, hy⟩ := vit_part hv (show j ≤ np ts[a].1 vs[q].n by omega)
    obtain ⟨y', hy'⟩ := vit_part hv (show j + 1 ≤ np ts[a].1 vs[q].n by omega)
    rw [vit_succ, hy] at hy'
    exact ⟨y, y', hy, hy'⟩
  have HV : Hid (vit (ve ts vs f) (pl ts f a ts[a].1 vs[q].n) (q + 1) (np ts[a].1 vs[q].n) = some q') := hv
  have HPN : Hid (∀ w', Below w.heap.size w w' → Calls Tryz.prog 37 #[vt, .int .i64 a, .agg #[.int .i64 vs[q].k, .int .u64 vs[q].n, .string vs[q].s]] w' fun e w'' => PlPost ts f a ts[a].1 vs[q].n w' e w'') := fun w' hb => l3Plan_any ts f a e0 vs[q] vt w' hf7 ((hT.below hb).up hb.size) ha hok hit hfn
  have HP : Hid (∀ a q q' e0 w', en ts f a = some e0 → ve ts vs f a q = some q' → Below w.heap.size w w' → Calls Tryz.prog 20 #[vt, .int .i64 a, vv, .int .i64 q] w' fun e w'' => e = .returned (.tuple #[.string ⟨(rlE ts vs f a q).toArray⟩, .int .i64 q']) ∧ Below w'.heap.size w' w'') := fun a q q' e0 w' he hve hb => hp a q q' e0 vt vv w' hf7 he hve ((hT.below hb).up hb.size) ((hI.below hb).up hb.size)
  obtain ⟨b, o, C, hI, hF⟩ := hI
  have hvv := hF.at (by omega)
  rw [Nat.sub_zero, Nat.sub_zero, Nat.zero_mul, Nat.add_zero] at hvv
  have hsm := hI.small
  have hst := hT.small
  have hbB : b < w.heap.size := hI.low.resolve_left (by omega)
  obtain ⟨i0, i1, i2⟩ := hI.cells q hq
  obtain ⟨wk, wn, ws⟩ := hI.wf vs[q] (List.getElem_mem hq)
  have HLT : Hid (∀ j x, vit (ve ts vs f) (pl ts f a ts[a].1 vs[q].n) (q + 1) j = some x → x ≤ vs.length) := fun j x h => (vit_lt (by omega) h).2
  have hns : ∀ x ∈ vs, x.n < 18446744073709551616 := fun x h => (hI.wf x h).2.1
  have HSL : Hid (∀ a q e0 q', en ts f a = some e0 → ve ts vs f a q = some q' → (rlE ts vs f a q).length ≤ 40600) := fun a q e0 q' he hv => rlE_le hns hl he hv
  have HCL : Hid (∀ j x, j ≤ np ts[a].1 vs[q].n → vit (ve ts vs f) (pl ts f a ts[a].1 vs[q].n) (q + 1) j = some x → (rlOwn vs[q] ++ cat (rlE ts vs f) (ve ts vs f) (pl ts f a ts[a].1 vs[q].n) (q + 1) j).length ≤ 40610) := fun j x hj hx => body_le (q' := q') hns hl ha hq hok hit hfi (by omega) hj hx
  obtain ⟨b', o', cap', hv', hb', h1, h2, c0, c1⟩ := hT.at ha
  obtain ⟨cc, hcc⟩ : ∃ cc, cat (rlE ts vs f) (ve ts vs f) (pl ts f a ts[a].1 vs[q].n) (q + 1) = cc := ⟨_, rfl⟩
  have HCS : Hid (∀ j x, vit (ve ts vs f) (pl ts f a ts[a].1 vs[q].n) (q + 1) j = some x → cc (j + 1) = cc j ++ rlE ts vs f (pl ts f a ts[a].1 vs[q].n j) x) := fun j x h => by rw [← hcc]; exact cat_succ h
  have HC0 : Hid (cc 0 = []) := by show _ = _; rw [← hcc]; rfl
  rw [hcc] at HCL ⊢
  obtain ⟨OW, hOW⟩ : ∃ OW, rlOwn vs[q] = OW := ⟨_, rfl⟩
  have HOE : Hid (OW = []) := by show _ = _; rw [← hOW]; unfold rlOwn; rw [if_neg (by omega), if_neg (by omega)]
  rw [hOW] at HCL ⊢
  generalize ts[a].1 = k at *
  generalize ts[a].2 = n at *
  generalize vs[q] = it at *
  obtain ⟨ik, im, is⟩ := it
  simp only at i0 i1 i2 hnp HPL HPN HLT HPV HV HCL HCS hvk hk HOE wn ws
  subst hvk
  have hr := hI.room
  have hm := hI.most
  unfold maxLen at h2 hm
  subst hvv hv'
  have hql : q ≤ 200 := by omega
  clear hI hF hT hfi hfi' wk hp hit hfn hv hns hcc hOW
  subst hk
  have HB2 : Hid (Below w.heap.size w (w.alloc (.cells #[.int .i64 5, .int .u64 (im : Int), .string is] 52))) := bel1 _ _
  have HD : Hid ((⟨#[]⟩ : ByteArray) = ⟨(OW).toArray⟩) := by show _ = _; rw [HOE.out]
  go_enter Tryz.func20, Tryz.ntmps20
  go_wp2_with fail
  clear HOE
  go_wp2_with fail
  refine (HPN.out _ HB2.out).mono ?_
  rintro e w7 ⟨vp, rfl, hown, hb7⟩
  have HO : Hid (w7.ownsRow _ 2 1 vp (np 5 im) (plRow ts f a 5 im)) := hown
  have HB7 : Hid (Below w.heap.size w w7) := HB2.out.trans (hb7.mono (HB2.out.size))
  obtain ⟨N, hN⟩ : ∃ N, np 5 im = N := ⟨_, rfl⟩
  have HNE : Hid (np 5 im = N) := hN
  have h2' := hown.2
  rw [hN] at h2' hnp HV HCL
  have hgl := hown.lt
  clear hown hN hb7
  rcases h2' with ⟨rfl, hn0⟩ | ⟨g, cp, cur, rfl, hg, _, hcp, hcm, _, _⟩
  · have HE : Hid ((⟨#[]⟩ : ByteArray) = ⟨(OW ++ cc N).toArray⟩ ∧ q' = q + 1) := by
      have hv0 := HV.out
      rw [hn0] at hv0
      cases hv0
      exact ⟨by rw [HD.out, hn0, HC0.out, List.append_nil], rfl⟩
    have hDs : (⟨#[]⟩ : ByteArray).size ≤ 40610 := by
      rw [HE.out.1, ba_sz, ← HNE.out]
      have := HCL.out N q' (by omega) (by have := HV.out; exact this)
      rw [HNE.out]; exact this
    have HLE : Hid (∀ w, Calls Tryz.prog 38 #[.bool true, .int .i64 (⟨#[]⟩ : ByteArray).size] w fun e w' => e = .returned (.string ⟨(headL true (⟨#[]⟩ : ByteArray).size).toArray⟩) ∧ Below w.heap.size w w') := fun w => head_spec true (⟨#[]⟩ : ByteArray).size w (by omega)
    have HLR : Hid ((⟨(headL true (⟨#[]⟩ : ByteArray).size).toArray⟩ : ByteArray) ++ (⟨#[]⟩ : ByteArray) = ⟨(rlL (OW ++ cc (np 5 im))).toArray⟩) := by
      show _ = _
      rw [HNE.out, HE.out.1, cat_list, ba_sz]
      rfl
    have hhs : ByteArray.size ⟨(headL true (⟨#[]⟩ : ByteArray).size).toArray⟩ ≤ 3 := by rw [ba_sz]; exact headL_len3 true (by omega)
    obtain ⟨Z, hZ⟩ : ∃ Z : ByteArray, (⟨(headL true (⟨#[]⟩ : ByteArray).size).toArray⟩ : ByteArray) = Z := ⟨_, rfl⟩
    rw [hZ] at HLE HLR hhs
    have hZ2 : ¬ (9223372036854775807 < Z.size + (⟨#[]⟩ : ByteArray).size) := by omega
    clear hZ
    clear hgl
    go_wp2_with fail
    go_loopg [3, 11, 13] 0 (fun gk x o i wr => x = .int .i64 ((q + 1 : Nat) : Int) ∧ o = .string (⟨#[]⟩ : ByteArray) ∧ i = .int .i64 0 ∧ wr = w7)
    case atStart => exact ⟨by go_num, rfl, rfl, rfl⟩
    case round =>
      obtain ⟨rfl, rfl, rfl, rfl⟩ := hrel
      go_wp2_with fail
      refine (HLE.out _).mono ?_
      rintro e w9 ⟨rfl, hb9⟩
      have HB9 : Hid (Below w.heap.size w w9) := HB7.out.trans (hb9.mono HB7.out.size)
      clear hb9
      go_wp2_with fail
      go_ret2
      exact ⟨by rw [HE.out.2, ← HLR.out]; try rfl, HB9.out⟩
  · have hgw : g < w7.heap.size := (hgl g rfl).2
    have HC : Hid (∀ i, i < N → w7.cell? ⟨g, i, none⟩ = some (.int .i64 (pl ts f a 5 im i : Nat))) := fun i hi => by
      have ho := HO.out
      rw [← HNE.out] at ho hi
      exact row_at ho hi
    clear hgl
    unfold maxLen at hcm
    go_wp2_with fail
    go_loopg [3, 11, 13] N (fun gk x o i wr => ∃ (j y : Nat) (X : ByteArray), j + gk = N ∧ i = .int .i64 j ∧ x = .int .i64 y ∧ vit (ve ts vs f) (pl ts f a 5 im) (q + 1) j = some y ∧ o = .string X ∧ X = ⟨(OW ++ cc j).toArray⟩ ∧ Below w7.heap.size w7 wr)
    case atStart => exact ⟨0, q + 1, _, by omega, rfl, by go_num, rfl, rfl, by rw [HD.out, HC0.out, List.append_nil], Below.refl _ _⟩
    case round =>
      obtain ⟨j, y, X, hj', rfl, rfl, hy, rfl, hX, hbel⟩ := hrel
      have HJ : Hid (j + gk = N) := hj'
      have HY : Hid (vit (ve ts vs f) (pl ts f a 5 im) (q + 1) j = some y) := hy
      have HX : Hid (X = ⟨(OW ++ cc j).toArray⟩) := hX
      have hyl : y ≤ vs.length := HLT.out j y hy
      have hj : j ≤ N := by omega
      have hXs : X.size ≤ 40610 := by
        rw [hX, ba_sz]
        have := HCL.out j y hj hy
        omega
      have HBW : Hid (Below w.heap.size w wr) := HB7.out.trans (hbel.mono HB7.out.size)
      have HBE : Hid (Below w7.heap.size w7 wr) := hbel
      clear hj' hy hX
      by_cases hjm : j < N
      · obtain ⟨e1, he1⟩ := HPL.out j (by rw [HNE.out]; exact hjm)
        obtain ⟨z, y1, hz, hy1⟩ := HPV.out j (by rw [HNE.out]; exact hjm)
        have ez : z = y := by rw [HY.out] at hz; injection hz with hz; exact hz.symm
        subst ez
        have hpl : pl ts f a 5 im j ≤ 1048577 := by have := en_lt he1; omega
        have cj : wr.cell? ⟨g, j, none⟩ = some (.int .i64 (pl ts f a 5 im j : Nat)) := by rw [hbel.cell (p := ⟨g, j, none⟩) hgw]; exact HC.out j hjm
        have HCK := HP.out (pl ts f a 5 im j) z y1 e1 wr he1 hy1 HBW.out
        have HNX : Hid (vit (ve ts vs f) (pl ts f a 5 im) (q + 1) (j + 1) = some y1) := by show _ = _; rw [vit_succ, HY.out]; exact hy1
        have HSX : Hid (cc (j + 1) = cc j ++ rlE ts vs f (pl ts f a 5 im j) z) := HCS.out j z HY.out
        have hPs : ByteArray.size ⟨(rlE ts vs f (pl ts f a 5 im j) z).toArray⟩ ≤ 40600 := by rw [ba_sz]; exact HSL.out _ _ _ _ he1 hy1
        have hyl1 : y1 ≤ vs.length := (ve_lt hy1).2
        have HXP : Hid (X ++ ⟨(rlE ts vs f (pl ts f a 5 im j) z).toArray⟩ = ⟨(OW ++ cc (j + 1)).toArray⟩) := by
          show _ = _
          rw [HX.out, HSX.out, cat_list, List.append_assoc]
        clear hbel he1 hy1 hz
        generalize pl ts f a 5 im j = p at cj hpl HCK HSX hPs HXP
        obtain ⟨P, hP⟩ : ∃ P : ByteArray, (⟨(rlE ts vs f p z).toArray⟩ : ByteArray) = P := ⟨_, rfl⟩
        rw [hP] at hPs HCK HXP
        have HK : Hid (Calls Tryz.prog 20 #[.slice (some ⟨b', o', none⟩) ts.length cap', .int .i64 p, .slice (some ⟨b, o, none⟩) vs.length C, .int .i64 z] wr fun e w' => e = .returned (.tuple #[.string P, .int .i64 y1]) ∧ Below wr.heap.size wr w') := HCK
        have hXP2 : ¬ (9223372036854775807 < X.size + P.size) := by omega
        clear HCK hP HSX
        go_wp2_with fail
        refine Calls.mono HK.out ?_
        rintro e w8 ⟨rfl, hb8⟩
        have HB8 : Hid (Below w7.heap.size w7 w8) := HBE.out.trans (hb8.mono HBE.out.size)
        clear hb8 cj
        go_wp2_with fail
        go_roundg (gk - 1)
        case rel => exact ⟨j + 1, y1, _, by have := HJ.out; omega, by go_num, rfl, HNX.out, rfl, HXP.out, HB8.out⟩
        case measure => have := HJ.out; omega
      · have ej : j = N := by omega
        subst ej
        have HE : Hid (X = ⟨(OW ++ cc j).toArray⟩ ∧ q' = y) := ⟨HX.out, by have h1 := HV.out; rw [HY.out] at h1; injection h1 with h1; exact h1.symm⟩
        have HLE : Hid (∀ w, Calls Tryz.prog 38 #[.bool true, .int .i64 X.size] w fun e w' => e = .returned (.string ⟨(headL true X.size).toArray⟩) ∧ Below w.heap.size w w') := fun w => head_spec true X.size w (by omega)
        have HLR : Hid ((⟨(headL true X.size).toArray⟩ : ByteArray) ++ X = ⟨(rlL (OW ++ cc (np 5 im))).toArray⟩) := by
          show _ = _
          rw [HNE.out, HE.out.1, cat_list, ba_sz]
          rfl
        have hhs : ByteArray.size ⟨(headL true X.size).toArray⟩ ≤ 3 := by rw [ba_sz]; exact headL_len3 true (by omega)
        obtain ⟨Z, hZ⟩ : ∃ Z : ByteArray, (⟨(headL true X.size).toArray⟩ : ByteArray) = Z := ⟨_, rfl⟩
        rw [hZ] at HLE HLR hhs
        have hZ2 : ¬ (9223372036854775807 < Z.size + X.size) := by omega
        clear hZ
        clear hbel
        go_wp2_with fail
        refine (HLE.out _).mono ?_
        rintro e w9 ⟨rfl, hb9⟩
        have HB9 : Hid (Below w.heap.size w w9) := HBW.out.trans (hb9.mono HBW.out.size)
        clear hb9
        go_wp2_with fail
        go_ret2
        exact ⟨by rw [HE.out.2, ← HLR.out]; try rfl, HB9.out⟩
set_option maxRecDepth 100000 in
set_option maxHeartbeats 8000000 in
theorem e4_6 (ts : List (Int × Int)) (vs : List It) (hl : vs.length ≤ 200) (f : Nat) (hp : E4Hyp ts vs f) (a q q' e0 : Nat) (vt vv : Value) (w : World) (hf7 : f ≤ 7) (hT : IsTyps w.heap.size w vt ts) (hI : IsItems w.heap.size w vv vs) (ha : a < ts.length) (hq : q < vs.length) (hok : tyOk ts[a].1 ts[a].2 = true) (hit : iter (en ts f) (a + 1) (kids ts[a].1 ts[a].2) = some e0) (hfi : fitsI ts[a].1 ts[a].2 vs[q] = true)
    (hv : vit (ve ts vs f) (pl ts f a ts[a].1 vs[q].n) (q + 1) (np ts[a].1 vs[q].n) = some q') (hk : ts[a].1 = 6) :
    Calls Tryz.prog 20 #[vt, .int .i64 a, vv, .int .i64 q] w fun e w' => e = .returned (.tuple #[.string ⟨(rlL (rlOwn vs[q] ++ cat (rlE ts vs f) (ve ts vs f) (pl ts f a ts[a].1 vs[q].n) (q + 1) (np ts[a].1 vs[q].n))).toArray⟩, .int .i64 q']) ∧ Below w.heap.size w w' := by
  have hfi' : vs[q].k = ts[a].1 ∧ fitsN ts[a].1 ts[a].2 vs[q].n = true ∧ fitsS ts[a].1 ts[a].2 vs[q].s.size = true := by simpa [fitsI] using hfi
  have hfn := hfi'.2.1
  have hvk := hfi'.1
  have hnp : np ts[a].1 vs[q].n ≤ 20 := np_le hok hfn
  have HPL : Hid (∀ j, j < np ts[a].1 vs[q].n → ∃ e', en ts f (pl ts f a ts[a].1 vs[q].n j) = some e') := fun j hj => pl_ok ha hok hit hfn hj
  have HPV : Hid (∀ j, j < np ts[a].1 vs[q].n → ∃ y y', vit (ve ts vs f) (pl ts f a ts[a].1 vs[q].n) (q + 1) j = some y ∧ ve ts vs f (pl ts f a ts[a].1 vs[q].n j) y = some y') := fun j hj => by
    obtain ⟨y, hy⟩ := vit_part hv (show j ≤ np ts[a].1 vs[q].n by omega)
    obtain ⟨y', hy'⟩ := vit_part hv (show j + 1 ≤ np ts[a].1 vs[q].n by omega)
    rw [vit_succ, hy] at hy'
    exact ⟨y, y', hy, hy'⟩
  have HV : Hid (vit (ve ts vs f) (pl ts f a ts[a].1 vs[q].n) (q + 1) (np ts[a].1 vs[q].n) = some q') := hv
  have HPN : Hid (∀ w', Below w.heap.size w w' → Calls Tryz.prog 37 #[vt, .int .i64 a, .agg #[.int .i64 vs[q].k, .int .u64 vs[q].n, .string vs[q].s]] w' fun e w'' => PlPost ts f a ts[a].1 vs[q].n w' e w'') := fun w' hb => l3Plan_any ts f a e0 vs[q] vt w' hf7 ((hT.below hb).up hb.size) ha hok hit hfn
  have HP : Hid (∀ a q q' e0 w', en ts f a = some e0 → ve ts vs f a q = some q' → Below w.heap.size w w' → Calls Tryz.prog 20 #[vt, .int .i64 a, vv, .int .i64 q] w' fun e w'' => e = .returned (.tuple #[.string ⟨(rlE ts vs f a q).toArray⟩, .int .i64 q']) ∧ Below w'.heap.size w' w'') := fun a q q' e0 w' he hve hb => hp a q q' e0 vt vv w' hf7 he hve ((hT.below hb).up hb.size) ((hI.below hb).up hb.size)
  obtain ⟨b, o, C, hI, hF⟩ := hI
  have hvv := hF.at (by omega)
  rw [Nat.sub_zero, Nat.sub_zero, Nat.zero_mul, Nat.add_zero] at hvv
  have hsm := hI.small
  have hst := hT.small
  have hbB : b < w.heap.size := hI.low.resolve_left (by omega)
  obtain ⟨i0, i1, i2⟩ := hI.cells q hq
  obtain ⟨wk, wn, ws⟩ := hI.wf vs[q] (List.getElem_mem hq)
  have HLT : Hid (∀ j x, vit (ve ts vs f) (pl ts f a ts[a].1 vs[q].n) (q + 1) j = some x → x ≤ vs.length) := fun j x h => (vit_lt (by omega) h).2
  have hns : ∀ x ∈ vs, x.n < 18446744073709551616 := fun x h => (hI.wf x h).2.1
  have HSL : Hid (∀ a q e0 q', en ts f a = some e0 → ve ts vs f a q = some q' → (rlE ts vs f a q).length ≤ 40600) := fun a q e0 q' he hv => rlE_le hns hl he hv
  have HCL : Hid (∀ j x, j ≤ np ts[a].1 vs[q].n → vit (ve ts vs f) (pl ts f a ts[a].1 vs[q].n) (q + 1) j = some x → (rlOwn vs[q] ++ cat (rlE ts vs f) (ve ts vs f) (pl ts f a ts[a].1 vs[q].n) (q + 1) j).length ≤ 40610) := fun j x hj hx => body_le (q' := q') hns hl ha hq hok hit hfi (by omega) hj hx
  obtain ⟨b', o', cap', hv', hb', h1, h2, c0, c1⟩ := hT.at ha
  obtain ⟨cc, hcc⟩ : ∃ cc, cat (rlE ts vs f) (ve ts vs f) (pl ts f a ts[a].1 vs[q].n) (q + 1) = cc := ⟨_, rfl⟩
  have HCS : Hid (∀ j x, vit (ve ts vs f) (pl ts f a ts[a].1 vs[q].n) (q + 1) j = some x → cc (j + 1) = cc j ++ rlE ts vs f (pl ts f a ts[a].1 vs[q].n j) x) := fun j x h => by rw [← hcc]; exact cat_succ h
  have HC0 : Hid (cc 0 = []) := by show _ = _; rw [← hcc]; rfl
  rw [hcc] at HCL ⊢
  obtain ⟨OW, hOW⟩ : ∃ OW, rlOwn vs[q] = OW := ⟨_, rfl⟩
  have HOE : Hid (OW = []) := by show _ = _; rw [← hOW]; unfold rlOwn; rw [if_neg (by omega), if_neg (by omega)]
  rw [hOW] at HCL ⊢
  generalize ts[a].1 = k at *
  generalize ts[a].2 = n at *
  generalize vs[q] = it at *
  obtain ⟨ik, im, is⟩ := it
  simp only at i0 i1 i2 hnp HPL HPN HLT HPV HV HCL HCS hvk hk HOE wn ws
  subst hvk
  have hr := hI.room
  have hm := hI.most
  unfold maxLen at h2 hm
  subst hvv hv'
  have hql : q ≤ 200 := by omega
  clear hI hF hT hfi hfi' wk hp hit hfn hv hns hcc hOW
  subst hk
  have HB2 : Hid (Below w.heap.size w (w.alloc (.cells #[.int .i64 6, .int .u64 (im : Int), .string is] 52))) := bel1 _ _
  have HD : Hid ((⟨#[]⟩ : ByteArray) = ⟨(OW).toArray⟩) := by show _ = _; rw [HOE.out]
  go_enter Tryz.func20, Tryz.ntmps20
  go_wp2_with fail
  clear HOE
  go_wp2_with fail
  refine (HPN.out _ HB2.out).mono ?_
  rintro e w7 ⟨vp, rfl, hown, hb7⟩
  have HO : Hid (w7.ownsRow _ 2 1 vp (np 6 im) (plRow ts f a 6 im)) := hown
  have HB7 : Hid (Below w.heap.size w w7) := HB2.out.trans (hb7.mono (HB2.out.size))
  obtain ⟨N, hN⟩ : ∃ N, np 6 im = N := ⟨_, rfl⟩
  have HNE : Hid (np 6 im = N) := hN
  have h2' := hown.2
  rw [hN] at h2' hnp HV HCL
  have hgl := hown.lt
  clear hown hN hb7
  rcases h2' with ⟨rfl, hn0⟩ | ⟨g, cp, cur, rfl, hg, _, hcp, hcm, _, _⟩
  · have HE : Hid ((⟨#[]⟩ : ByteArray) = ⟨(OW ++ cc N).toArray⟩ ∧ q' = q + 1) := by
      have hv0 := HV.out
      rw [hn0] at hv0
      cases hv0
      exact ⟨by rw [HD.out, hn0, HC0.out, List.append_nil], rfl⟩
    have hDs : (⟨#[]⟩ : ByteArray).size ≤ 40610 := by
      rw [HE.out.1, ba_sz, ← HNE.out]
      have := HCL.out N q' (by omega) (by have := HV.out; exact this)
      rw [HNE.out]; exact this
    have HLE : Hid (∀ w, Calls Tryz.prog 38 #[.bool true, .int .i64 (⟨#[]⟩ : ByteArray).size] w fun e w' => e = .returned (.string ⟨(headL true (⟨#[]⟩ : ByteArray).size).toArray⟩) ∧ Below w.heap.size w w') := fun w => head_spec true (⟨#[]⟩ : ByteArray).size w (by omega)
    have HLR : Hid ((⟨(headL true (⟨#[]⟩ : ByteArray).size).toArray⟩ : ByteArray) ++ (⟨#[]⟩ : ByteArray) = ⟨(rlL (OW ++ cc (np 6 im))).toArray⟩) := by
      show _ = _
      rw [HNE.out, HE.out.1, cat_list, ba_sz]
      rfl
    have hhs : ByteArray.size ⟨(headL true (⟨#[]⟩ : ByteArray).size).toArray⟩ ≤ 3 := by rw [ba_sz]; exact headL_len3 true (by omega)
    obtain ⟨Z, hZ⟩ : ∃ Z : ByteArray, (⟨(headL true (⟨#[]⟩ : ByteArray).size).toArray⟩ : ByteArray) = Z := ⟨_, rfl⟩
    rw [hZ] at HLE HLR hhs
    have hZ2 : ¬ (9223372036854775807 < Z.size + (⟨#[]⟩ : ByteArray).size) := by omega
    clear hZ
    clear hgl
    go_wp2_with fail
    go_loopg [3, 11, 13] 0 (fun gk x o i wr => x = .int .i64 ((q + 1 : Nat) : Int) ∧ o = .string (⟨#[]⟩ : ByteArray) ∧ i = .int .i64 0 ∧ wr = w7)
    case atStart => exact ⟨by go_num, rfl, rfl, rfl⟩
    case round =>
      obtain ⟨rfl, rfl, rfl, rfl⟩ := hrel
      go_wp2_with fail
      refine (HLE.out _).mono ?_
      rintro e w9 ⟨rfl, hb9⟩
      have HB9 : Hid (Below w.heap.size w w9) := HB7.out.trans (hb9.mono HB7.out.size)
      clear hb9
      go_wp2_with fail
      go_ret2
      exact ⟨by rw [HE.out.2, ← HLR.out]; try rfl, HB9.out⟩
  · have hgw : g < w7.heap.size := (hgl g rfl).2
    have HC : Hid (∀ i, i < N → w7.cell? ⟨g, i, none⟩ = some (.int .i64 (pl ts f a 6 im i : Nat))) := fun i hi => by
      have ho := HO.out
      rw [← HNE.out] at ho hi
      exact row_at ho hi
    clear hgl
    unfold maxLen at hcm
    go_wp2_with fail
    go_loopg [3, 11, 13] N (fun gk x o i wr => ∃ (j y : Nat) (X : ByteArray), j + gk = N ∧ i = .int .i64 j ∧ x = .int .i64 y ∧ vit (ve ts vs f) (pl ts f a 6 im) (q + 1) j = some y ∧ o = .string X ∧ X = ⟨(OW ++ cc j).toArray⟩ ∧ Below w7.heap.size w7 wr)
    case atStart => exact ⟨0, q + 1, _, by omega, rfl, by go_num, rfl, rfl, by rw [HD.out, HC0.out, List.append_nil], Below.refl _ _⟩
    case round =>
      obtain ⟨j, y, X, hj', rfl, rfl, hy, rfl, hX, hbel⟩ := hrel
      have HJ : Hid (j + gk = N) := hj'
      have HY : Hid (vit (ve ts vs f) (pl ts f a 6 im) (q + 1) j = some y) := hy
      have HX : Hid (X = ⟨(OW ++ cc j).toArray⟩) := hX
      have hyl : y ≤ vs.length := HLT.out j y hy
      have hj : j ≤ N := by omega
      have hXs : X.size ≤ 40610 := by
        rw [hX, ba_sz]
        have := HCL.out j y hj hy
        omega
      have HBW : Hid (Below w.heap.size w wr) := HB7.out.trans (hbel.mono HB7.out.size)
      have HBE : Hid (Below w7.heap.size w7 wr) := hbel
      clear hj' hy hX
      by_cases hjm : j < N
      · obtain ⟨e1, he1⟩ := HPL.out j (by rw [HNE.out]; exact hjm)
        obtain ⟨z, y1, hz, hy1⟩ := HPV.out j (by rw [HNE.out]; exact hjm)
        have ez : z = y := by rw [HY.out] at hz; injection hz with hz; exact hz.symm
        subst ez
        have hpl : pl ts f a 6 im j ≤ 1048577 := by have := en_lt he1; omega
        have cj : wr.cell? ⟨g, j, none⟩ = some (.int .i64 (pl ts f a 6 im j : Nat)) := by rw [hbel.cell (p := ⟨g, j, none⟩) hgw]; exact HC.out j hjm
        have HCK := HP.out (pl ts f a 6 im j) z y1 e1 wr he1 hy1 HBW.out
        have HNX : Hid (vit (ve ts vs f) (pl ts f a 6 im) (q + 1) (j + 1) = some y1) := by show _ = _; rw [vit_succ, HY.out]; exact hy1
        have HSX : Hid (cc (j + 1) = cc j ++ rlE ts vs f (pl ts f a 6 im j) z) := HCS.out j z HY.out
        have hPs : ByteArray.size ⟨(rlE ts vs f (pl ts f a 6 im j) z).toArray⟩ ≤ 40600 := by rw [ba_sz]; exact HSL.out _ _ _ _ he1 hy1
        have hyl1 : y1 ≤ vs.length := (ve_lt hy1).2
        have HXP : Hid (X ++ ⟨(rlE ts vs f (pl ts f a 6 im j) z).toArray⟩ = ⟨(OW ++ cc (j + 1)).toArray⟩) := by
          show _ = _
          rw [HX.out, HSX.out, cat_list, List.append_assoc]
        clear hbel he1 hy1 hz
        generalize pl ts f a 6 im j = p at cj hpl HCK HSX hPs HXP
        obtain ⟨P, hP⟩ : ∃ P : ByteArray, (⟨(rlE ts vs f p z).toArray⟩ : ByteArray) = P := ⟨_, rfl⟩
        rw [hP] at hPs HCK HXP
        have HK : Hid (Calls Tryz.prog 20 #[.slice (some ⟨b', o', none⟩) ts.length cap', .int .i64 p, .slice (some ⟨b, o, none⟩) vs.length C, .int .i64 z] wr fun e w' => e = .returned (.tuple #[.string P, .int .i64 y1]) ∧ Below wr.heap.size wr w') := HCK
        have hXP2 : ¬ (9223372036854775807 < X.size + P.size) := by omega
        clear HCK hP HSX
        go_wp2_with fail
        refine Calls.mono HK.out ?_
        rintro e w8 ⟨rfl, hb8⟩
        have HB8 : Hid (Below w7.heap.size w7 w8) := HBE.out.trans (hb8.mono HBE.out.size)
        clear hb8 cj
        go_wp2_with fail
        go_roundg (gk - 1)
        case rel => exact ⟨j + 1, y1, _, by have := HJ.out; omega, by go_num, rfl, HNX.out, rfl, HXP.out, HB8.out⟩
        case measure => have := HJ.out; omega
      · have ej : j = N := by omega
        subst ej
        have HE : Hid (X = ⟨(OW ++ cc j).toArray⟩ ∧ q' = y) := ⟨HX.out, by have h1 := HV.out; rw [HY.out] at h1; injection h1 with h1; exact h1.symm⟩
        have HLE : Hid (∀ w, Calls Tryz.prog 38 #[.bool true, .int .i64 X.size] w fun e w' => e = .returned (.string ⟨(headL true X.size).toArray⟩) ∧ Below w.heap.size w w') := fun w => head_spec true X.size w (by omega)
        have HLR : Hid ((⟨(headL true X.size).toArray⟩ : ByteArray) ++ X = ⟨(rlL (OW ++ cc (np 6 im))).toArray⟩) := by
          show _ = _
          rw [HNE.out, HE.out.1, cat_list, ba_sz]
          rfl
        have hhs : ByteArray.size ⟨(headL true X.size).toArray⟩ ≤ 3 := by rw [ba_sz]; exact headL_len3 true (by omega)
        obtain ⟨Z, hZ⟩ : ∃ Z : ByteArray, (⟨(headL true X.size).toArray⟩ : ByteArray) = Z := ⟨_, rfl⟩
        rw [hZ] at HLE HLR hhs
        have hZ2 : ¬ (9223372036854775807 < Z.size + X.size) := by omega
        clear hZ
        clear hbel
        go_wp2_with fail
        refine (HLE.out _).mono ?_
        rintro e w9 ⟨rfl, hb9⟩
        have HB9 : Hid (Below w.heap.size w w9) := HBW.out.trans (hb9.mono HBW.out.size)
        clear hb9
        go_wp2_with fail
        go_ret2
        exact ⟨by rw [HE.out.2, ← HLR.out]; try rfl, HB9.out⟩
set_option maxRecDepth 100000 in
set_option maxHeartbeats 8000000 in
theorem e4_7 (ts : List (Int × Int)) (vs : List It) (hl : vs.length ≤ 200) (f : Nat) (hp : E4Hyp ts vs f) (a q q' e0 : Nat) (vt vv : Value) (w : World) (hf7 : f ≤ 7) (hT : IsTyps w.heap.size w vt ts) (hI : IsItems w.heap.size w vv vs) (ha : a < ts.length) (hq : q < vs.length) (hok : tyOk ts[a].1 ts[a].2 = true) (hit : iter (en ts f) (a + 1) (kids ts[a].1 ts[a].2) = some e0) (hfi : fitsI ts[a].1 ts[a].2 vs[q] = true)
    (hv : vit (ve ts vs f) (pl ts f a ts[a].1 vs[q].n) (q + 1) (np ts[a].1 vs[q].n) = some q') (hk : ts[a].1 = 7) :
    Calls Tryz.prog 20 #[vt, .int .i64 a, vv, .int .i64 q] w fun e w' => e = .returned (.tuple #[.string ⟨(rlL (rlOwn vs[q] ++ cat (rlE ts vs f) (ve ts vs f) (pl ts f a ts[a].1 vs[q].n) (q + 1) (np ts[a].1 vs[q].n))).toArray⟩, .int .i64 q']) ∧ Below w.heap.size w w' := by
  have hfi' : vs[q].k = ts[a].1 ∧ fitsN ts[a].1 ts[a].2 vs[q].n = true ∧ fitsS ts[a].1 ts[a].2 vs[q].s.size = true := by simpa [fitsI] using hfi
  have hfn := hfi'.2.1
  have hvk := hfi'.1
  have hnp : np ts[a].1 vs[q].n ≤ 20 := np_le hok hfn
  have HPL : Hid (∀ j, j < np ts[a].1 vs[q].n → ∃ e', en ts f (pl ts f a ts[a].1 vs[q].n j) = some e') := fun j hj => pl_ok ha hok hit hfn hj
  have HPV : Hid (∀ j, j < np ts[a].1 vs[q].n → ∃ y y', vit (ve ts vs f) (pl ts f a ts[a].1 vs[q].n) (q + 1) j = some y ∧ ve ts vs f (pl ts f a ts[a].1 vs[q].n j) y = some y') := fun j hj => by
    obtain ⟨y, hy⟩ := vit_part hv (show j ≤ np ts[a].1 vs[q].n by omega)
    obtain ⟨y', hy'⟩ := vit_part hv (show j + 1 ≤ np ts[a].1 vs[q].n by omega)
    rw [vit_succ, hy] at hy'
    exact ⟨y, y', hy, hy'⟩
  have HV : Hid (vit (ve ts vs f) (pl ts f a ts[a].1 vs[q].n) (q + 1) (np ts[a].1 vs[q].n) = some q') := hv
  have HPN : Hid (∀ w', Below w.heap.size w w' → Calls Tryz.prog 37 #[vt, .int .i64 a, .agg #[.int .i64 vs[q].k, .int .u64 vs[q].n, .string vs[q].s]] w' fun e w'' => PlPost ts f a ts[a].1 vs[q].n w' e w'') := fun w' hb => l3Plan_any ts f a e0 vs[q] vt w' hf7 ((hT.below hb).up hb.size) ha hok hit hfn
  have HP : Hid (∀ a q q' e0 w', en ts f a = some e0 → ve ts vs f a q = some q' → Below w.heap.size w w' → Calls Tryz.prog 20 #[vt, .int .i64 a, vv, .int .i64 q] w' fun e w'' => e = .returned (.tuple #[.string ⟨(rlE ts vs f a q).toArray⟩, .int .i64 q']) ∧ Below w'.heap.size w' w'') := fun a q q' e0 w' he hve hb => hp a q q' e0 vt vv w' hf7 he hve ((hT.below hb).up hb.size) ((hI.below hb).up hb.size)
  obtain ⟨b, o, C, hI, hF⟩ := hI
  have hvv := hF.at (by omega)
  rw [Nat.sub_zero, Nat.sub_zero, Nat.zero_mul, Nat.add_zero] at hvv
  have hsm := hI.small
  have hst := hT.small
  have hbB : b < w.heap.size := hI.low.resolve_left (by omega)
  obtain ⟨i0, i1, i2⟩ := hI.cells q hq
  obtain ⟨wk, wn, ws⟩ := hI.wf vs[q] (List.getElem_mem hq)
  have HLT : Hid (∀ j x, vit (ve ts vs f) (pl ts f a ts[a].1 vs[q].n) (q + 1) j = some x → x ≤ vs.length) := fun j x h => (vit_lt (by omega) h).2
  have hns : ∀ x ∈ vs, x.n < 18446744073709551616 := fun x h => (hI.wf x h).2.1
  have HSL : Hid (∀ a q e0 q', en ts f a = some e0 → ve ts vs f a q = some q' → (rlE ts vs f a q).length ≤ 40600) := fun a q e0 q' he hv => rlE_le hns hl he hv
  have HCL : Hid (∀ j x, j ≤ np ts[a].1 vs[q].n → vit (ve ts vs f) (pl ts f a ts[a].1 vs[q].n) (q + 1) j = some x → (rlOwn vs[q] ++ cat (rlE ts vs f) (ve ts vs f) (pl ts f a ts[a].1 vs[q].n) (q + 1) j).length ≤ 40610) := fun j x hj hx => body_le (q' := q') hns hl ha hq hok hit hfi (by omega) hj hx
  obtain ⟨b', o', cap', hv', hb', h1, h2, c0, c1⟩ := hT.at ha
  obtain ⟨cc, hcc⟩ : ∃ cc, cat (rlE ts vs f) (ve ts vs f) (pl ts f a ts[a].1 vs[q].n) (q + 1) = cc := ⟨_, rfl⟩
  have HCS : Hid (∀ j x, vit (ve ts vs f) (pl ts f a ts[a].1 vs[q].n) (q + 1) j = some x → cc (j + 1) = cc j ++ rlE ts vs f (pl ts f a ts[a].1 vs[q].n j) x) := fun j x h => by rw [← hcc]; exact cat_succ h
  have HC0 : Hid (cc 0 = []) := by show _ = _; rw [← hcc]; rfl
  rw [hcc] at HCL ⊢
  obtain ⟨OW, hOW⟩ : ∃ OW, rlOwn vs[q] = OW := ⟨_, rfl⟩
  have HOE : Hid (OW = []) := by show _ = _; rw [← hOW]; unfold rlOwn; rw [if_neg (by omega), if_neg (by omega)]
  rw [hOW] at HCL ⊢
  generalize ts[a].1 = k at *
  generalize ts[a].2 = n at *
  generalize vs[q] = it at *
  obtain ⟨ik, im, is⟩ := it
  simp only at i0 i1 i2 hnp HPL HPN HLT HPV HV HCL HCS hvk hk HOE wn ws
  subst hvk
  have hr := hI.room
  have hm := hI.most
  unfold maxLen at h2 hm
  subst hvv hv'
  have hql : q ≤ 200 := by omega
  clear hI hF hT hfi hfi' wk hp hit hfn hv hns hcc hOW
  subst hk
  have HB2 : Hid (Below w.heap.size w (w.alloc (.cells #[.int .i64 7, .int .u64 (im : Int), .string is] 52))) := bel1 _ _
  have HD : Hid ((⟨#[]⟩ : ByteArray) = ⟨(OW).toArray⟩) := by show _ = _; rw [HOE.out]
  go_enter Tryz.func20, Tryz.ntmps20
  go_wp2_with fail
  clear HOE
  go_wp2_with fail
  refine (HPN.out _ HB2.out).mono ?_
  rintro e w7 ⟨vp, rfl, hown, hb7⟩
  have HO : Hid (w7.ownsRow _ 2 1 vp (np 7 im) (plRow ts f a 7 im)) := hown
  have HB7 : Hid (Below w.heap.size w w7) := HB2.out.trans (hb7.mono (HB2.out.size))
  obtain ⟨N, hN⟩ : ∃ N, np 7 im = N := ⟨_, rfl⟩
  have HNE : Hid (np 7 im = N) := hN
  have h2' := hown.2
  rw [hN] at h2' hnp HV HCL
  have hgl := hown.lt
  clear hown hN hb7
  rcases h2' with ⟨rfl, hn0⟩ | ⟨g, cp, cur, rfl, hg, _, hcp, hcm, _, _⟩
  · have HE : Hid ((⟨#[]⟩ : ByteArray) = ⟨(OW ++ cc N).toArray⟩ ∧ q' = q + 1) := by
      have hv0 := HV.out
      rw [hn0] at hv0
      cases hv0
      exact ⟨by rw [HD.out, hn0, HC0.out, List.append_nil], rfl⟩
    have hDs : (⟨#[]⟩ : ByteArray).size ≤ 40610 := by
      rw [HE.out.1, ba_sz, ← HNE.out]
      have := HCL.out N q' (by omega) (by have := HV.out; exact this)
      rw [HNE.out]; exact this
    have HLE : Hid (∀ w, Calls Tryz.prog 38 #[.bool true, .int .i64 (⟨#[]⟩ : ByteArray).size] w fun e w' => e = .returned (.string ⟨(headL true (⟨#[]⟩ : ByteArray).size).toArray⟩) ∧ Below w.heap.size w w') := fun w => head_spec true (⟨#[]⟩ : ByteArray).size w (by omega)
    have HLR : Hid ((⟨(headL true (⟨#[]⟩ : ByteArray).size).toArray⟩ : ByteArray) ++ (⟨#[]⟩ : ByteArray) = ⟨(rlL (OW ++ cc (np 7 im))).toArray⟩) := by
      show _ = _
      rw [HNE.out, HE.out.1, cat_list, ba_sz]
      rfl
    have hhs : ByteArray.size ⟨(headL true (⟨#[]⟩ : ByteArray).size).toArray⟩ ≤ 3 := by rw [ba_sz]; exact headL_len3 true (by omega)
    obtain ⟨Z, hZ⟩ : ∃ Z : ByteArray, (⟨(headL true (⟨#[]⟩ : ByteArray).size).toArray⟩ : ByteArray) = Z := ⟨_, rfl⟩
    rw [hZ] at HLE HLR hhs
    have hZ2 : ¬ (9223372036854775807 < Z.size + (⟨#[]⟩ : ByteArray).size) := by omega
    clear hZ
    clear hgl
    go_wp2_with fail
    go_loopg [3, 11, 13] 0 (fun gk x o i wr => x = .int .i64 ((q + 1 : Nat) : Int) ∧ o = .string (⟨#[]⟩ : ByteArray) ∧ i = .int .i64 0 ∧ wr = w7)
    case atStart => exact ⟨by go_num, rfl, rfl, rfl⟩
    case round =>
      obtain ⟨rfl, rfl, rfl, rfl⟩ := hrel
      go_wp2_with fail
      refine (HLE.out _).mono ?_
      rintro e w9 ⟨rfl, hb9⟩
      have HB9 : Hid (Below w.heap.size w w9) := HB7.out.trans (hb9.mono HB7.out.size)
      clear hb9
      go_wp2_with fail
      go_ret2
      exact ⟨by rw [HE.out.2, ← HLR.out]; try rfl, HB9.out⟩
  · have hgw : g < w7.heap.size := (hgl g rfl).2
    have HC : Hid (∀ i, i < N → w7.cell? ⟨g, i, none⟩ = some (.int .i64 (pl ts f a 7 im i : Nat))) := fun i hi => by
      have ho := HO.out
      rw [← HNE.out] at ho hi
      exact row_at ho hi
    clear hgl
    unfold maxLen at hcm
    go_wp2_with fail
    go_loopg [3, 11, 13] N (fun gk x o i wr => ∃ (j y : Nat) (X : ByteArray), j + gk = N ∧ i = .int .i64 j ∧ x = .int .i64 y ∧ vit (ve ts vs f) (pl ts f a 7 im) (q + 1) j = some y ∧ o = .string X ∧ X = ⟨(OW ++ cc j).toArray⟩ ∧ Below w7.heap.size w7 wr)
    case atStart => exact ⟨0, q + 1, _, by omega, rfl, by go_num, rfl, rfl, by rw [HD.out, HC0.out, List.append_nil], Below.refl _ _⟩
    case round =>
      obtain ⟨j, y, X, hj', rfl, rfl, hy, rfl, hX, hbel⟩ := hrel
      have HJ : Hid (j + gk = N) := hj'
      have HY : Hid (vit (ve ts vs f) (pl ts f a 7 im) (q + 1) j = some y) := hy
      have HX : Hid (X = ⟨(OW ++ cc j).toArray⟩) := hX
      have hyl : y ≤ vs.length := HLT.out j y hy
      have hj : j ≤ N := by omega
      have hXs : X.size ≤ 40610 := by
        rw [hX, ba_sz]
        have := HCL.out j y hj hy
        omega
      have HBW : Hid (Below w.heap.size w wr) := HB7.out.trans (hbel.mono HB7.out.size)
      have HBE : Hid (Below w7.heap.size w7 wr) := hbel
      clear hj' hy hX
      by_cases hjm : j < N
      · obtain ⟨e1, he1⟩ := HPL.out j (by rw [HNE.out]; exact hjm)
        obtain ⟨z, y1, hz, hy1⟩ := HPV.out j (by rw [HNE.out]; exact hjm)
        have ez : z = y := by rw [HY.out] at hz; injection hz with hz; exact hz.symm
        subst ez
        have hpl : pl ts f a 7 im j ≤ 1048577 := by have := en_lt he1; omega
        have cj : wr.cell? ⟨g, j, none⟩ = some (.int .i64 (pl ts f a 7 im j : Nat)) := by rw [hbel.cell (p := ⟨g, j, none⟩) hgw]; exact HC.out j hjm
        have HCK := HP.out (pl ts f a 7 im j) z y1 e1 wr he1 hy1 HBW.out
        have HNX : Hid (vit (ve ts vs f) (pl ts f a 7 im) (q + 1) (j + 1) = some y1) := by show _ = _; rw [vit_succ, HY.out]; exact hy1
        have HSX : Hid (cc (j + 1) = cc j ++ rlE ts vs f (pl ts f a 7 im j) z) := HCS.out j z HY.out
        have hPs : ByteArray.size ⟨(rlE ts vs f (pl ts f a 7 im j) z).toArray⟩ ≤ 40600 := by rw [ba_sz]; exact HSL.out _ _ _ _ he1 hy1
        have hyl1 : y1 ≤ vs.length := (ve_lt hy1).2
        have HXP : Hid (X ++ ⟨(rlE ts vs f (pl ts f a 7 im j) z).toArray⟩ = ⟨(OW ++ cc (j + 1)).toArray⟩) := by
          show _ = _
          rw [HX.out, HSX.out, cat_list, List.append_assoc]
        clear hbel he1 hy1 hz
        generalize pl ts f a 7 im j = p at cj hpl HCK HSX hPs HXP
        obtain ⟨P, hP⟩ : ∃ P : ByteArray, (⟨(rlE ts vs f p z).toArray⟩ : ByteArray) = P := ⟨_, rfl⟩
        rw [hP] at hPs HCK HXP
        have HK : Hid (Calls Tryz.prog 20 #[.slice (some ⟨b', o', none⟩) ts.length cap', .int .i64 p, .slice (some ⟨b, o, none⟩) vs.length C, .int .i64 z] wr fun e w' => e = .returned (.tuple #[.string P, .int .i64 y1]) ∧ Below wr.heap.size wr w') := HCK
        have hXP2 : ¬ (9223372036854775807 < X.size + P.size) := by omega
        clear HCK hP HSX
        go_wp2_with fail
        refine Calls.mono HK.out ?_
        rintro e w8 ⟨rfl, hb8⟩
        have HB8 : Hid (Below w7.heap.size w7 w8) := HBE.out.trans (hb8.mono HBE.out.size)
        clear hb8 cj
        go_wp2_with fail
        go_roundg (gk - 1)
        case rel => exact ⟨j + 1, y1, _, by have := HJ.out; omega, by go_num, rfl, HNX.out, rfl, HXP.out, HB8.out⟩
        case measure => have := HJ.out; omega
      · have ej : j = N := by omega
        subst ej
        have HE : Hid (X = ⟨(OW ++ cc j).toArray⟩ ∧ q' = y) := ⟨HX.out, by have h1 := HV.out; rw [HY.out] at h1; injection h1 with h1; exact h1.symm⟩
        have HLE : Hid (∀ w, Calls Tryz.prog 38 #[.bool true, .int .i64 X.size] w fun e w' => e = .returned (.string ⟨(headL true X.size).toArray⟩) ∧ Below w.heap.size w w') := fun w => head_spec true X.size w (by omega)
        have HLR : Hid ((⟨(headL true X.size).toArray⟩ : ByteArray) ++ X = ⟨(rlL (OW ++ cc (np 7 im))).toArray⟩) := by
          show _ = _
          rw [HNE.out, HE.out.1, cat_list, ba_sz]
          rfl
        have hhs : ByteArray.size ⟨(headL true X.size).toArray⟩ ≤ 3 := by rw [ba_sz]; exact headL_len3 true (by omega)
        obtain ⟨Z, hZ⟩ : ∃ Z : ByteArray, (⟨(headL true X.size).toArray⟩ : ByteArray) = Z := ⟨_, rfl⟩
        rw [hZ] at HLE HLR hhs
        have hZ2 : ¬ (9223372036854775807 < Z.size + X.size) := by omega
        clear hZ
        clear hbel
        go_wp2_with fail
        refine (HLE.out _).mono ?_
        rintro e w9 ⟨rfl, hb9⟩
        have HB9 : Hid (Below w.heap.size w w9) := HBW.out.trans (hb9.mono HBW.out.size)
        clear hb9
        go_wp2_with fail
        go_ret2
        exact ⟨by rw [HE.out.2, ← HLR.out]; try rfl, HB9.out⟩
set_option maxRecDepth 100000 in
set_option maxHeartbeats 8000000 in
theorem e4_8 (ts : List (Int × Int)) (vs : List It) (hl : vs.length ≤ 200) (f : Nat) (hp : E4Hyp ts vs f) (a q q' e0 : Nat) (vt vv : Value) (w : World) (hf7 : f ≤ 7) (hT : IsTyps w.heap.size w vt ts) (hI : IsItems w.heap.size w vv vs) (ha : a < ts.length) (hq : q < vs.length) (hok : tyOk ts[a].1 ts[a].2 = true) (hit : iter (en ts f) (a + 1) (kids ts[a].1 ts[a].2) = some e0) (hfi : fitsI ts[a].1 ts[a].2 vs[q] = true)
    (hv : vit (ve ts vs f) (pl ts f a ts[a].1 vs[q].n) (q + 1) (np ts[a].1 vs[q].n) = some q') (hk : ts[a].1 = 8) :
    Calls Tryz.prog 20 #[vt, .int .i64 a, vv, .int .i64 q] w fun e w' => e = .returned (.tuple #[.string ⟨(rlL (rlOwn vs[q] ++ cat (rlE ts vs f) (ve ts vs f) (pl ts f a ts[a].1 vs[q].n) (q + 1) (np ts[a].1 vs[q].n))).toArray⟩, .int .i64 q']) ∧ Below w.heap.size w w' := by
  have hfi' : vs[q].k = ts[a].1 ∧ fitsN ts[a].1 ts[a].2 vs[q].n = true ∧ fitsS ts[a].1 ts[a].2 vs[q].s.size = true := by simpa [fitsI] using hfi
  have hfn := hfi'.2.1
  have hvk := hfi'.1
  have hnp : np ts[a].1 vs[q].n ≤ 20 := np_le hok hfn
  have HPL : Hid (∀ j, j < np ts[a].1 vs[q].n → ∃ e', en ts f (pl ts f a ts[a].1 vs[q].n j) = some e') := fun j hj => pl_ok ha hok hit hfn hj
  have HPV : Hid (∀ j, j < np ts[a].1 vs[q].n → ∃ y y', vit (ve ts vs f) (pl ts f a ts[a].1 vs[q].n) (q + 1) j = some y ∧ ve ts vs f (pl ts f a ts[a].1 vs[q].n j) y = some y') := fun j hj => by
    obtain ⟨y, hy⟩ := vit_part hv (show j ≤ np ts[a].1 vs[q].n by omega)
    obtain ⟨y', hy'⟩ := vit_part hv (show j + 1 ≤ np ts[a].1 vs[q].n by omega)
    rw [vit_succ, hy] at hy'
    exact ⟨y, y', hy, hy'⟩
  have HV : Hid (vit (ve ts vs f) (pl ts f a ts[a].1 vs[q].n) (q + 1) (np ts[a].1 vs[q].n) = some q') := hv
  have HPN : Hid (∀ w', Below w.heap.size w w' → Calls Tryz.prog 37 #[vt, .int .i64 a, .agg #[.int .i64 vs[q].k, .int .u64 vs[q].n, .string vs[q].s]] w' fun e w'' => PlPost ts f a ts[a].1 vs[q].n w' e w'') := fun w' hb => l3Plan_any ts f a e0 vs[q] vt w' hf7 ((hT.below hb).up hb.size) ha hok hit hfn
  have HP : Hid (∀ a q q' e0 w', en ts f a = some e0 → ve ts vs f a q = some q' → Below w.heap.size w w' → Calls Tryz.prog 20 #[vt, .int .i64 a, vv, .int .i64 q] w' fun e w'' => e = .returned (.tuple #[.string ⟨(rlE ts vs f a q).toArray⟩, .int .i64 q']) ∧ Below w'.heap.size w' w'') := fun a q q' e0 w' he hve hb => hp a q q' e0 vt vv w' hf7 he hve ((hT.below hb).up hb.size) ((hI.below hb).up hb.size)
  obtain ⟨b, o, C, hI, hF⟩ := hI
  have hvv := hF.at (by omega)
  rw [Nat.sub_zero, Nat.sub_zero, Nat.zero_mul, Nat.add_zero] at hvv
  have hsm := hI.small
  have hst := hT.small
  have hbB : b < w.heap.size := hI.low.resolve_left (by omega)
  obtain ⟨i0, i1, i2⟩ := hI.cells q hq
  obtain ⟨wk, wn, ws⟩ := hI.wf vs[q] (List.getElem_mem hq)
  have HLT : Hid (∀ j x, vit (ve ts vs f) (pl ts f a ts[a].1 vs[q].n) (q + 1) j = some x → x ≤ vs.length) := fun j x h => (vit_lt (by omega) h).2
  have hns : ∀ x ∈ vs, x.n < 18446744073709551616 := fun x h => (hI.wf x h).2.1
  have HSL : Hid (∀ a q e0 q', en ts f a = some e0 → ve ts vs f a q = some q' → (rlE ts vs f a q).length ≤ 40600) := fun a q e0 q' he hv => rlE_le hns hl he hv
  have HCL : Hid (∀ j x, j ≤ np ts[a].1 vs[q].n → vit (ve ts vs f) (pl ts f a ts[a].1 vs[q].n) (q + 1) j = some x → (rlOwn vs[q] ++ cat (rlE ts vs f) (ve ts vs f) (pl ts f a ts[a].1 vs[q].n) (q + 1) j).length ≤ 40610) := fun j x hj hx => body_le (q' := q') hns hl ha hq hok hit hfi (by omega) hj hx
  obtain ⟨b', o', cap', hv', hb', h1, h2, c0, c1⟩ := hT.at ha
  obtain ⟨cc, hcc⟩ : ∃ cc, cat (rlE ts vs f) (ve ts vs f) (pl ts f a ts[a].1 vs[q].n) (q + 1) = cc := ⟨_, rfl⟩
  have HCS : Hid (∀ j x, vit (ve ts vs f) (pl ts f a ts[a].1 vs[q].n) (q + 1) j = some x → cc (j + 1) = cc j ++ rlE ts vs f (pl ts f a ts[a].1 vs[q].n j) x) := fun j x h => by rw [← hcc]; exact cat_succ h
  have HC0 : Hid (cc 0 = []) := by show _ = _; rw [← hcc]; rfl
  rw [hcc] at HCL ⊢
  obtain ⟨OW, hOW⟩ : ∃ OW, rlOwn vs[q] = OW := ⟨_, rfl⟩
  have HOE : Hid (OW = []) := by show _ = _; rw [← hOW]; unfold rlOwn; rw [if_neg (by omega), if_neg (by omega)]
  rw [hOW] at HCL ⊢
  generalize ts[a].1 = k at *
  generalize ts[a].2 = n at *
  generalize vs[q] = it at *
  obtain ⟨ik, im, is⟩ := it
  simp only at i0 i1 i2 hnp HPL HPN HLT HPV HV HCL HCS hvk hk HOE wn ws
  subst hvk
  have hr := hI.room
  have hm := hI.most
  unfold maxLen at h2 hm
  subst hvv hv'
  have hql : q ≤ 200 := by omega
  clear hI hF hT hfi hfi' wk hp hit hfn hv hns hcc hOW
  subst hk
  have HB2 : Hid (Below w.heap.size w (w.alloc (.cells #[.int .i64 8, .int .u64 (im : Int), .string is] 52))) := bel1 _ _
  have HD : Hid ((⟨#[]⟩ : ByteArray) = ⟨(OW).toArray⟩) := by show _ = _; rw [HOE.out]
  go_enter Tryz.func20, Tryz.ntmps20
  go_wp2_with fail
  clear HOE
  go_wp2_with fail
  refine (HPN.out _ HB2.out).mono ?_
  rintro e w7 ⟨vp, rfl, hown, hb7⟩
  have HO : Hid (w7.ownsRow _ 2 1 vp (np 8 im) (plRow ts f a 8 im)) := hown
  have HB7 : Hid (Below w.heap.size w w7) := HB2.out.trans (hb7.mono (HB2.out.size))
  obtain ⟨N, hN⟩ : ∃ N, np 8 im = N := ⟨_, rfl⟩
  have HNE : Hid (np 8 im = N) := hN
  have h2' := hown.2
  rw [hN] at h2' hnp HV HCL
  have hgl := hown.lt
  clear hown hN hb7
  rcases h2' with ⟨rfl, hn0⟩ | ⟨g, cp, cur, rfl, hg, _, hcp, hcm, _, _⟩
  · have HE : Hid ((⟨#[]⟩ : ByteArray) = ⟨(OW ++ cc N).toArray⟩ ∧ q' = q + 1) := by
      have hv0 := HV.out
      rw [hn0] at hv0
      cases hv0
      exact ⟨by rw [HD.out, hn0, HC0.out, List.append_nil], rfl⟩
    have hDs : (⟨#[]⟩ : ByteArray).size ≤ 40610 := by
      rw [HE.out.1, ba_sz, ← HNE.out]
      have := HCL.out N q' (by omega) (by have := HV.out; exact this)
      rw [HNE.out]; exact this
    have HLE : Hid (∀ w, Calls Tryz.prog 38 #[.bool true, .int .i64 (⟨#[]⟩ : ByteArray).size] w fun e w' => e = .returned (.string ⟨(headL true (⟨#[]⟩ : ByteArray).size).toArray⟩) ∧ Below w.heap.size w w') := fun w => head_spec true (⟨#[]⟩ : ByteArray).size w (by omega)
    have HLR : Hid ((⟨(headL true (⟨#[]⟩ : ByteArray).size).toArray⟩ : ByteArray) ++ (⟨#[]⟩ : ByteArray) = ⟨(rlL (OW ++ cc (np 8 im))).toArray⟩) := by
      show _ = _
      rw [HNE.out, HE.out.1, cat_list, ba_sz]
      rfl
    have hhs : ByteArray.size ⟨(headL true (⟨#[]⟩ : ByteArray).size).toArray⟩ ≤ 3 := by rw [ba_sz]; exact headL_len3 true (by omega)
    obtain ⟨Z, hZ⟩ : ∃ Z : ByteArray, (⟨(headL true (⟨#[]⟩ : ByteArray).size).toArray⟩ : ByteArray) = Z := ⟨_, rfl⟩
    rw [hZ] at HLE HLR hhs
    have hZ2 : ¬ (9223372036854775807 < Z.size + (⟨#[]⟩ : ByteArray).size) := by omega
    clear hZ
    clear hgl
    go_wp2_with fail
    go_loopg [3, 11, 13] 0 (fun gk x o i wr => x = .int .i64 ((q + 1 : Nat) : Int) ∧ o = .string (⟨#[]⟩ : ByteArray) ∧ i = .int .i64 0 ∧ wr = w7)
    case atStart => exact ⟨by go_num, rfl, rfl, rfl⟩
    case round =>
      obtain ⟨rfl, rfl, rfl, rfl⟩ := hrel
      go_wp2_with fail
      refine (HLE.out _).mono ?_
      rintro e w9 ⟨rfl, hb9⟩
      have HB9 : Hid (Below w.heap.size w w9) := HB7.out.trans (hb9.mono HB7.out.size)
      clear hb9
      go_wp2_with fail
      go_ret2
      exact ⟨by rw [HE.out.2, ← HLR.out]; try rfl, HB9.out⟩
  · have hgw : g < w7.heap.size := (hgl g rfl).2
    have HC : Hid (∀ i, i < N → w7.cell? ⟨g, i, none⟩ = some (.int .i64 (pl ts f a 8 im i : Nat))) := fun i hi => by
      have ho := HO.out
      rw [← HNE.out] at ho hi
      exact row_at ho hi
    clear hgl
    unfold maxLen at hcm
    go_wp2_with fail
    go_loopg [3, 11, 13] N (fun gk x o i wr => ∃ (j y : Nat) (X : ByteArray), j + gk = N ∧ i = .int .i64 j ∧ x = .int .i64 y ∧ vit (ve ts vs f) (pl ts f a 8 im) (q + 1) j = some y ∧ o = .string X ∧ X = ⟨(OW ++ cc j).toArray⟩ ∧ Below w7.heap.size w7 wr)
    case atStart => exact ⟨0, q + 1, _, by omega, rfl, by go_num, rfl, rfl, by rw [HD.out, HC0.out, List.append_nil], Below.refl _ _⟩
    case round =>
      obtain ⟨j, y, X, hj', rfl, rfl, hy, rfl, hX, hbel⟩ := hrel
      have HJ : Hid (j + gk = N) := hj'
      have HY : Hid (vit (ve ts vs f) (pl ts f a 8 im) (q + 1) j = some y) := hy
      have HX : Hid (X = ⟨(OW ++ cc j).toArray⟩) := hX
      have hyl : y ≤ vs.length := HLT.out j y hy
      have hj : j ≤ N := by omega
      have hXs : X.size ≤ 40610 := by
        rw [hX, ba_sz]
        have := HCL.out j y hj hy
        omega
      have HBW : Hid (Below w.heap.size w wr) := HB7.out.trans (hbel.mono HB7.out.size)
      have HBE : Hid (Below w7.heap.size w7 wr) := hbel
      clear hj' hy hX
      by_cases hjm : j < N
      · obtain ⟨e1, he1⟩ := HPL.out j (by rw [HNE.out]; exact hjm)
        obtain ⟨z, y1, hz, hy1⟩ := HPV.out j (by rw [HNE.out]; exact hjm)
        have ez : z = y := by rw [HY.out] at hz; injection hz with hz; exact hz.symm
        subst ez
        have hpl : pl ts f a 8 im j ≤ 1048577 := by have := en_lt he1; omega
        have cj : wr.cell? ⟨g, j, none⟩ = some (.int .i64 (pl ts f a 8 im j : Nat)) := by rw [hbel.cell (p := ⟨g, j, none⟩) hgw]; exact HC.out j hjm
        have HCK := HP.out (pl ts f a 8 im j) z y1 e1 wr he1 hy1 HBW.out
        have HNX : Hid (vit (ve ts vs f) (pl ts f a 8 im) (q + 1) (j + 1) = some y1) := by show _ = _; rw [vit_succ, HY.out]; exact hy1
        have HSX : Hid (cc (j + 1) = cc j ++ rlE ts vs f (pl ts f a 8 im j) z) := HCS.out j z HY.out
        have hPs : ByteArray.size ⟨(rlE ts vs f (pl ts f a 8 im j) z).toArray⟩ ≤ 40600 := by rw [ba_sz]; exact HSL.out _ _ _ _ he1 hy1
        have hyl1 : y1 ≤ vs.length := (ve_lt hy1).2
        have HXP : Hid (X ++ ⟨(rlE ts vs f (pl ts f a 8 im j) z).toArray⟩ = ⟨(OW ++ cc (j + 1)).toArray⟩) := by
          show _ = _
          rw [HX.out, HSX.out, cat_list, List.append_assoc]
        clear hbel he1 hy1 hz
        generalize pl ts f a 8 im j = p at cj hpl HCK HSX hPs HXP
        obtain ⟨P, hP⟩ : ∃ P : ByteArray, (⟨(rlE ts vs f p z).toArray⟩ : ByteArray) = P := ⟨_, rfl⟩
        rw [hP] at hPs HCK HXP
        have HK : Hid (Calls Tryz.prog 20 #[.slice (some ⟨b', o', none⟩) ts.length cap', .int .i64 p, .slice (some ⟨b, o, none⟩) vs.length C, .int .i64 z] wr fun e w' => e = .returned (.tuple #[.string P, .int .i64 y1]) ∧ Below wr.heap.size wr w') := HCK
        have hXP2 : ¬ (9223372036854775807 < X.size + P.size) := by omega
        clear HCK hP HSX
        go_wp2_with fail
        refine Calls.mono HK.out ?_
        rintro e w8 ⟨rfl, hb8⟩
        have HB8 : Hid (Below w7.heap.size w7 w8) := HBE.out.trans (hb8.mono HBE.out.size)
        clear hb8 cj
        go_wp2_with fail
        go_roundg (gk - 1)
        case rel => exact ⟨j + 1, y1, _, by have := HJ.out; omega, by go_num, rfl, HNX.out, rfl, HXP.out, HB8.out⟩
        case measure => have := HJ.out; omega
      · have ej : j = N := by omega
        subst ej
        have HE : Hid (X = ⟨(OW ++ cc j).toArray⟩ ∧ q' = y) := ⟨HX.out, by have h1 := HV.out; rw [HY.out] at h1; injection h1 with h1; exact h1.symm⟩
        have HLE : Hid (∀ w, Calls Tryz.prog 38 #[.bool true, .int .i64 X.size] w fun e w' => e = .returned (.string ⟨(headL true X.size).toArray⟩) ∧ Below w.heap.size w w') := fun w => head_spec true X.size w (by omega)
        have HLR : Hid ((⟨(headL true X.size).toArray⟩ : ByteArray) ++ X = ⟨(rlL (OW ++ cc (np 8 im))).toArray⟩) := by
          show _ = _
          rw [HNE.out, HE.out.1, cat_list, ba_sz]
          rfl
        have hhs : ByteArray.size ⟨(headL true X.size).toArray⟩ ≤ 3 := by rw [ba_sz]; exact headL_len3 true (by omega)
        obtain ⟨Z, hZ⟩ : ∃ Z : ByteArray, (⟨(headL true X.size).toArray⟩ : ByteArray) = Z := ⟨_, rfl⟩
        rw [hZ] at HLE HLR hhs
        have hZ2 : ¬ (9223372036854775807 < Z.size + X.size) := by omega
        clear hZ
        clear hbel
        go_wp2_with fail
        refine (HLE.out _).mono ?_
        rintro e w9 ⟨rfl, hb9⟩
        have HB9 : Hid (Below w.heap.size w w9) := HBW.out.trans (hb9.mono HBW.out.size)
        clear hb9
        go_wp2_with fail
        go_ret2
        exact ⟨by rw [HE.out.2, ← HLR.out]; try rfl, HB9.out⟩
set_option maxRecDepth 100000 in
set_option maxHeartbeats 8000000 in
theorem e4_9 (ts : List (Int × Int)) (vs : List It) (hl : vs.length ≤ 200) (f : Nat) (hp : E4Hyp ts vs f) (a q q' e0 : Nat) (vt vv : Value) (w : World) (hf7 : f ≤ 7) (hT : IsTyps w.heap.size w vt ts) (hI : IsItems w.heap.size w vv vs) (ha : a < ts.length) (hq : q < vs.length) (hok : tyOk ts[a].1 ts[a].2 = true) (hit : iter (en ts f) (a + 1) (kids ts[a].1 ts[a].2) = some e0) (hfi : fitsI ts[a].1 ts[a].2 vs[q] = true)
    (hv : vit (ve ts vs f) (pl ts f a ts[a].1 vs[q].n) (q + 1) (np ts[a].1 vs[q].n) = some q') (hk : ts[a].1 = 9) :
    Calls Tryz.prog 20 #[vt, .int .i64 a, vv, .int .i64 q] w fun e w' => e = .returned (.tuple #[.string ⟨(rlL (rlOwn vs[q] ++ cat (rlE ts vs f) (ve ts vs f) (pl ts f a ts[a].1 vs[q].n) (q + 1) (np ts[a].1 vs[q].n))).toArray⟩, .int .i64 q']) ∧ Below w.heap.size w w' := by
  have hfi' : vs[q].k = ts[a].1 ∧ fitsN ts[a].1 ts[a].2 vs[q].n = true ∧ fitsS ts[a].1 ts[a].2 vs[q].s.size = true := by simpa [fitsI] using hfi
  have hfn := hfi'.2.1
  have hvk := hfi'.1
  have hnp : np ts[a].1 vs[q].n ≤ 20 := np_le hok hfn
  have HPL : Hid (∀ j, j < np ts[a].1 vs[q].n → ∃ e', en ts f (pl ts f a ts[a].1 vs[q].n j) = some e') := fun j hj => pl_ok ha hok hit hfn hj
  have HPV : Hid (∀ j, j < np ts[a].1 vs[q].n → ∃ y y', vit (ve ts vs f) (pl ts f a ts[a].1 vs[q].n) (q + 1) j = some y ∧ ve ts vs f (pl ts f a ts[a].1 vs[q].n j) y = some y') := fun j hj => by
    obtain ⟨y, hy⟩ := vit_part hv (show j ≤ np ts[a].1 vs[q].n by omega)
    obtain ⟨y', hy'⟩ := vit_part hv (show j + 1 ≤ np ts[a].1 vs[q].n by omega)
    rw [vit_succ, hy] at hy'
    exact ⟨y, y', hy, hy'⟩
  have HV : Hid (vit (ve ts vs f) (pl ts f a ts[a].1 vs[q].n) (q + 1) (np ts[a].1 vs[q].n) = some q') := hv
  have HPN : Hid (∀ w', Below w.heap.size w w' → Calls Tryz.prog 37 #[vt, .int .i64 a, .agg #[.int .i64 vs[q].k, .int .u64 vs[q].n, .string vs[q].s]] w' fun e w'' => PlPost ts f a ts[a].1 vs[q].n w' e w'') := fun w' hb => l3Plan_any ts f a e0 vs[q] vt w' hf7 ((hT.below hb).up hb.size) ha hok hit hfn
  have HP : Hid (∀ a q q' e0 w', en ts f a = some e0 → ve ts vs f a q = some q' → Below w.heap.size w w' → Calls Tryz.prog 20 #[vt, .int .i64 a, vv, .int .i64 q] w' fun e w'' => e = .returned (.tuple #[.string ⟨(rlE ts vs f a q).toArray⟩, .int .i64 q']) ∧ Below w'.heap.size w' w'') := fun a q q' e0 w' he hve hb => hp a q q' e0 vt vv w' hf7 he hve ((hT.below hb).up hb.size) ((hI.below hb).up hb.size)
  obtain ⟨b, o, C, hI, hF⟩ := hI
  have hvv := hF.at (by omega)
  rw [Nat.sub_zero, Nat.sub_zero, Nat.zero_mul, Nat.add_zero] at hvv
  have hsm := hI.small
  have hst := hT.small
  have hbB : b < w.heap.size := hI.low.resolve_left (by omega)
  obtain ⟨i0, i1, i2⟩ := hI.cells q hq
  obtain ⟨wk, wn, ws⟩ := hI.wf vs[q] (List.getElem_mem hq)
  have HLT : Hid (∀ j x, vit (ve ts vs f) (pl ts f a ts[a].1 vs[q].n) (q + 1) j = some x → x ≤ vs.length) := fun j x h => (vit_lt (by omega) h).2
  have hns : ∀ x ∈ vs, x.n < 18446744073709551616 := fun x h => (hI.wf x h).2.1
  have HSL : Hid (∀ a q e0 q', en ts f a = some e0 → ve ts vs f a q = some q' → (rlE ts vs f a q).length ≤ 40600) := fun a q e0 q' he hv => rlE_le hns hl he hv
  have HCL : Hid (∀ j x, j ≤ np ts[a].1 vs[q].n → vit (ve ts vs f) (pl ts f a ts[a].1 vs[q].n) (q + 1) j = some x → (rlOwn vs[q] ++ cat (rlE ts vs f) (ve ts vs f) (pl ts f a ts[a].1 vs[q].n) (q + 1) j).length ≤ 40610) := fun j x hj hx => body_le (q' := q') hns hl ha hq hok hit hfi (by omega) hj hx
  obtain ⟨b', o', cap', hv', hb', h1, h2, c0, c1⟩ := hT.at ha
  obtain ⟨cc, hcc⟩ : ∃ cc, cat (rlE ts vs f) (ve ts vs f) (pl ts f a ts[a].1 vs[q].n) (q + 1) = cc := ⟨_, rfl⟩
  have HCS : Hid (∀ j x, vit (ve ts vs f) (pl ts f a ts[a].1 vs[q].n) (q + 1) j = some x → cc (j + 1) = cc j ++ rlE ts vs f (pl ts f a ts[a].1 vs[q].n j) x) := fun j x h => by rw [← hcc]; exact cat_succ h
  have HC0 : Hid (cc 0 = []) := by show _ = _; rw [← hcc]; rfl
  rw [hcc] at HCL ⊢
  obtain ⟨OW, hOW⟩ : ∃ OW, rlOwn vs[q] = OW := ⟨_, rfl⟩
  have HOE : Hid (OW = rlNum vs[q].n) := by show _ = _; rw [← hOW]; unfold rlOwn; rw [if_pos (by omega)]
  rw [hOW] at HCL ⊢
  generalize ts[a].1 = k at *
  generalize ts[a].2 = n at *
  generalize vs[q] = it at *
  obtain ⟨ik, im, is⟩ := it
  simp only at i0 i1 i2 hnp HPL HPN HLT HPV HV HCL HCS hvk hk HOE wn ws
  subst hvk
  have hr := hI.room
  have hm := hI.most
  unfold maxLen at h2 hm
  subst hvv hv'
  have hql : q ≤ 200 := by omega
  clear hI hF hT hfi hfi' wk hp hit hfn hv hns hcc hOW
  subst hk
  have HL : Hid (∀ w, Calls Tryz.prog 35 #[.int .u64 im] w fun e w' => e = .returned (.string ⟨(rlNum im).toArray⟩) ∧ Below w.heap.size w w') := fun w => rlNumber_spec im w wn
  go_enter Tryz.func20, Tryz.ntmps20
  go_wp2_with fail
  refine (HL.out _).mono ?_
  rintro e w2 ⟨rfl, hb2⟩
  have hB2 : Below w.heap.size w w2 := (bel1 _ _).trans (hb2.mono (by simp))
  have HB2 : Hid (Below w.heap.size w w2) := hB2
  have x0 : w2.cell? ⟨w.heap.size, 0, none⟩ = some (.int .i64 9) := by rw [hb2.cell (p := ⟨w.heap.size, 0, none⟩) (by simp)]; simp [go_sem]
  have x1 : w2.cell? ⟨w.heap.size, 1, none⟩ = some (.int .u64 im) := by rw [hb2.cell (p := ⟨w.heap.size, 1, none⟩) (by simp)]; simp [go_sem]
  have x2 : w2.cell? ⟨w.heap.size, 2, none⟩ = some (.string is) := by rw [hb2.cell (p := ⟨w.heap.size, 2, none⟩) (by simp)]; simp [go_sem]
  clear hb2 hB2
  obtain ⟨D, hD⟩ : ∃ D : ByteArray, (⟨(rlNum im).toArray⟩ : ByteArray) = D := ⟨_, rfl⟩
  have HD : Hid (D = ⟨(OW).toArray⟩) := by show _ = _; rw [← hD, HOE.out]
  rw [hD]
  clear hD
  clear HOE
  go_wp2_with fail
  refine (HPN.out _ HB2.out).mono ?_
  rintro e w7 ⟨vp, rfl, hown, hb7⟩
  have HO : Hid (w7.ownsRow _ 2 1 vp (np 9 im) (plRow ts f a 9 im)) := hown
  have HB7 : Hid (Below w.heap.size w w7) := HB2.out.trans (hb7.mono (HB2.out.size))
  obtain ⟨N, hN⟩ : ∃ N, np 9 im = N := ⟨_, rfl⟩
  have HNE : Hid (np 9 im = N) := hN
  have h2' := hown.2
  rw [hN] at h2' hnp HV HCL
  have hgl := hown.lt
  clear hown hN hb7 x0 x1 x2
  rcases h2' with ⟨rfl, hn0⟩ | ⟨g, cp, cur, rfl, hg, _, hcp, hcm, _, _⟩
  · have HE : Hid (D = ⟨(OW ++ cc N).toArray⟩ ∧ q' = q + 1) := by
      have hv0 := HV.out
      rw [hn0] at hv0
      cases hv0
      exact ⟨by rw [HD.out, hn0, HC0.out, List.append_nil], rfl⟩
    have hDs : D.size ≤ 40610 := by
      rw [HE.out.1, ba_sz, ← HNE.out]
      have := HCL.out N q' (by omega) (by have := HV.out; exact this)
      rw [HNE.out]; exact this
    have HLE : Hid (∀ w, Calls Tryz.prog 38 #[.bool true, .int .i64 D.size] w fun e w' => e = .returned (.string ⟨(headL true D.size).toArray⟩) ∧ Below w.heap.size w w') := fun w => head_spec true D.size w (by omega)
    have HLR : Hid ((⟨(headL true D.size).toArray⟩ : ByteArray) ++ D = ⟨(rlL (OW ++ cc (np 9 im))).toArray⟩) := by
      show _ = _
      rw [HNE.out, HE.out.1, cat_list, ba_sz]
      rfl
    have hhs : ByteArray.size ⟨(headL true D.size).toArray⟩ ≤ 3 := by rw [ba_sz]; exact headL_len3 true (by omega)
    obtain ⟨Z, hZ⟩ : ∃ Z : ByteArray, (⟨(headL true D.size).toArray⟩ : ByteArray) = Z := ⟨_, rfl⟩
    rw [hZ] at HLE HLR hhs
    have hZ2 : ¬ (9223372036854775807 < Z.size + D.size) := by omega
    clear hZ
    clear hgl
    go_wp2_with fail
    go_loopg [3, 11, 13] 0 (fun gk x o i wr => x = .int .i64 ((q + 1 : Nat) : Int) ∧ o = .string D ∧ i = .int .i64 0 ∧ wr = w7)
    case atStart => exact ⟨by go_num, rfl, rfl, rfl⟩
    case round =>
      obtain ⟨rfl, rfl, rfl, rfl⟩ := hrel
      go_wp2_with fail
      refine (HLE.out _).mono ?_
      rintro e w9 ⟨rfl, hb9⟩
      have HB9 : Hid (Below w.heap.size w w9) := HB7.out.trans (hb9.mono HB7.out.size)
      clear hb9
      go_wp2_with fail
      go_ret2
      exact ⟨by rw [HE.out.2, ← HLR.out]; try rfl, HB9.out⟩
  · have hgw : g < w7.heap.size := (hgl g rfl).2
    have HC : Hid (∀ i, i < N → w7.cell? ⟨g, i, none⟩ = some (.int .i64 (pl ts f a 9 im i : Nat))) := fun i hi => by
      have ho := HO.out
      rw [← HNE.out] at ho hi
      exact row_at ho hi
    clear hgl
    unfold maxLen at hcm
    go_wp2_with fail
    go_loopg [3, 11, 13] N (fun gk x o i wr => ∃ (j y : Nat) (X : ByteArray), j + gk = N ∧ i = .int .i64 j ∧ x = .int .i64 y ∧ vit (ve ts vs f) (pl ts f a 9 im) (q + 1) j = some y ∧ o = .string X ∧ X = ⟨(OW ++ cc j).toArray⟩ ∧ Below w7.heap.size w7 wr)
    case atStart => exact ⟨0, q + 1, _, by omega, rfl, by go_num, rfl, rfl, by rw [HD.out, HC0.out, List.append_nil], Below.refl _ _⟩
    case round =>
      obtain ⟨j, y, X, hj', rfl, rfl, hy, rfl, hX, hbel⟩ := hrel
      have HJ : Hid (j + gk = N) := hj'
      have HY : Hid (vit (ve ts vs f) (pl ts f a 9 im) (q + 1) j = some y) := hy
      have HX : Hid (X = ⟨(OW ++ cc j).toArray⟩) := hX
      have hyl : y ≤ vs.length := HLT.out j y hy
      have hj : j ≤ N := by omega
      have hXs : X.size ≤ 40610 := by
        rw [hX, ba_sz]
        have := HCL.out j y hj hy
        omega
      have HBW : Hid (Below w.heap.size w wr) := HB7.out.trans (hbel.mono HB7.out.size)
      have HBE : Hid (Below w7.heap.size w7 wr) := hbel
      clear hj' hy hX
      by_cases hjm : j < N
      · obtain ⟨e1, he1⟩ := HPL.out j (by rw [HNE.out]; exact hjm)
        obtain ⟨z, y1, hz, hy1⟩ := HPV.out j (by rw [HNE.out]; exact hjm)
        have ez : z = y := by rw [HY.out] at hz; injection hz with hz; exact hz.symm
        subst ez
        have hpl : pl ts f a 9 im j ≤ 1048577 := by have := en_lt he1; omega
        have cj : wr.cell? ⟨g, j, none⟩ = some (.int .i64 (pl ts f a 9 im j : Nat)) := by rw [hbel.cell (p := ⟨g, j, none⟩) hgw]; exact HC.out j hjm
        have HCK := HP.out (pl ts f a 9 im j) z y1 e1 wr he1 hy1 HBW.out
        have HNX : Hid (vit (ve ts vs f) (pl ts f a 9 im) (q + 1) (j + 1) = some y1) := by show _ = _; rw [vit_succ, HY.out]; exact hy1
        have HSX : Hid (cc (j + 1) = cc j ++ rlE ts vs f (pl ts f a 9 im j) z) := HCS.out j z HY.out
        have hPs : ByteArray.size ⟨(rlE ts vs f (pl ts f a 9 im j) z).toArray⟩ ≤ 40600 := by rw [ba_sz]; exact HSL.out _ _ _ _ he1 hy1
        have hyl1 : y1 ≤ vs.length := (ve_lt hy1).2
        have HXP : Hid (X ++ ⟨(rlE ts vs f (pl ts f a 9 im j) z).toArray⟩ = ⟨(OW ++ cc (j + 1)).toArray⟩) := by
          show _ = _
          rw [HX.out, HSX.out, cat_list, List.append_assoc]
        clear hbel he1 hy1 hz
        generalize pl ts f a 9 im j = p at cj hpl HCK HSX hPs HXP
        obtain ⟨P, hP⟩ : ∃ P : ByteArray, (⟨(rlE ts vs f p z).toArray⟩ : ByteArray) = P := ⟨_, rfl⟩
        rw [hP] at hPs HCK HXP
        have HK : Hid (Calls Tryz.prog 20 #[.slice (some ⟨b', o', none⟩) ts.length cap', .int .i64 p, .slice (some ⟨b, o, none⟩) vs.length C, .int .i64 z] wr fun e w' => e = .returned (.tuple #[.string P, .int .i64 y1]) ∧ Below wr.heap.size wr w') := HCK
        have hXP2 : ¬ (9223372036854775807 < X.size + P.size) := by omega
        clear HCK hP HSX
        go_wp2_with fail
        refine Calls.mono HK.out ?_
        rintro e w8 ⟨rfl, hb8⟩
        have HB8 : Hid (Below w7.heap.size w7 w8) := HBE.out.trans (hb8.mono HBE.out.size)
        clear hb8 cj
        go_wp2_with fail
        go_roundg (gk - 1)
        case rel => exact ⟨j + 1, y1, _, by have := HJ.out; omega, by go_num, rfl, HNX.out, rfl, HXP.out, HB8.out⟩
        case measure => have := HJ.out; omega
      · have ej : j = N := by omega
        subst ej
        have HE : Hid (X = ⟨(OW ++ cc j).toArray⟩ ∧ q' = y) := ⟨HX.out, by have h1 := HV.out; rw [HY.out] at h1; injection h1 with h1; exact h1.symm⟩
        have HLE : Hid (∀ w, Calls Tryz.prog 38 #[.bool true, .int .i64 X.size] w fun e w' => e = .returned (.string ⟨(headL true X.size).toArray⟩) ∧ Below w.heap.size w w') := fun w => head_spec true X.size w (by omega)
        have HLR : Hid ((⟨(headL true X.size).toArray⟩ : ByteArray) ++ X = ⟨(rlL (OW ++ cc (np 9 im))).toArray⟩) := by
          show _ = _
          rw [HNE.out, HE.out.1, cat_list, ba_sz]
          rfl
        have hhs : ByteArray.size ⟨(headL true X.size).toArray⟩ ≤ 3 := by rw [ba_sz]; exact headL_len3 true (by omega)
        obtain ⟨Z, hZ⟩ : ∃ Z : ByteArray, (⟨(headL true X.size).toArray⟩ : ByteArray) = Z := ⟨_, rfl⟩
        rw [hZ] at HLE HLR hhs
        have hZ2 : ¬ (9223372036854775807 < Z.size + X.size) := by omega
        clear hZ
        clear hbel
        go_wp2_with fail
        refine (HLE.out _).mono ?_
        rintro e w9 ⟨rfl, hb9⟩
        have HB9 : Hid (Below w.heap.size w w9) := HBW.out.trans (hb9.mono HBW.out.size)
        clear hb9
        go_wp2_with fail
        go_ret2
        exact ⟨by rw [HE.out.2, ← HLR.out]; try rfl, HB9.out⟩
theorem l4Enc_all (ts : List (Int × Int)) (vs : List It) (hl : vs.length ≤ 200) : ∀ f, E4Hyp ts vs f := by
  intro f
  induction f with
  | zero => intro a q q' e0 vt vv w _ h; cases h
  | succ f ih =>
    intro a q q' e0 vt vv w hf7 he hv hT hI
    obtain ⟨_, hok, hit⟩ := en_inv he
    obtain ⟨ha, hq, hfi, hvt⟩ := ve_inv hv
    rw [rlE_ok ha hq]
    have hfi' : vs[q].k = ts[a].1 := by simp [fitsI] at hfi; exact hfi.1
    have hs := fit_size hok hfi
    have h9 : 1 ≤ ts[a].1 ∧ ts[a].1 ≤ 9 := by simp only [tyOk, decide_eq_true_eq] at hok; omega
    by_cases h4 : ts[a].1 ≤ 4
    · rw [if_pos h4]
      have e0 : np ts[a].1 vs[q].n = 0 := by unfold np; rw [if_neg (by omega), if_neg (by omega)]
      rw [e0] at hvt
      cases hvt
      have hc : vs[q].k = 1 ∨ vs[q].k = 2 ∨ vs[q].k = 3 ∨ vs[q].k = 4 := by omega
      rcases hc with h | h | h | h
      · exact e4_1 ts vs a q vt vv w hT hI ha hq hl (by omega) h
      · exact e4_2 ts vs a q vt vv w hT hI ha hq hl (by omega) h
      · exact e4_3 ts vs a q vt vv w hT hI ha hq hl (by omega) h
      · exact e4_4 ts vs a q vt vv w hT hI ha hq hl (by omega) h
    · rw [if_neg h4]
      have hc : ts[a].1 = 5 ∨ ts[a].1 = 6 ∨ ts[a].1 = 7 ∨ ts[a].1 = 8 ∨ ts[a].1 = 9 := by omega
      rcases hc with h | h | h | h | h
      · exact e4_5 ts vs hl f ih a q q' e0 vt vv w (by omega) hT hI ha hq hok hit hfi hvt h
      · exact e4_6 ts vs hl f ih a q q' e0 vt vv w (by omega) hT hI ha hq hok hit hfi hvt h
      · exact e4_7 ts vs hl f ih a q q' e0 vt vv w (by omega) hT hI ha hq hok hit hfi hvt h
      · exact e4_8 ts vs hl f ih a q q' e0 vt vv w (by omega) hT hI ha hq hok hit hfi hvt h
      · exact e4_9 ts vs hl f ih a q q' e0 vt vv w (by omega) hT hI ha hq hok hit hfi hvt h
end Go.Proofs.YtdncnjmlicdamaaGreatDoor
