/- A value's bytes, as RLP writes them: the contract of the writing. -/
import Derived.Test.YtjpdhenmhffmeaaDoorS8b
import Derived.Test.YtjpdhenmhffmeaaDoorS7d
namespace Go.Proofs.YtjpdhenmhffmeaaDoor
open Go.RowKit Go.Sort
set_option linter.unusedVariables false
set_option maxRecDepth 100000 in
set_option maxHeartbeats 2000000 in
theorem rwNum (u m : Nat) (w : World) (hm : m < 18446744073709551616) :
    Calls Tryd.prog 100 #[.agg #[], .iface 120 (.agg #[.pointer (some ⟨u, 0, none⟩), .int .u64 m])] w fun e w' => e = .returned (.string ⟨(rlNum m).toArray⟩) ∧ Below w.heap.size w w' := by
  have HC : Hid (∀ w, Calls Tryd.prog 101 #[.int .u64 m] w fun e w' => e = .returned (.string ⟨(rlNum m).toArray⟩) ∧ Below w.heap.size w w') := fun w => rlNumber_impl m w hm
  have y1 := as_yes_120
  go_enter Tryd.func100, Tryd.ntmps100
  go_wp2_with fail
  refine (HC.out _).mono ?_
  rintro e w1 ⟨rfl, hb1⟩
  have HB : Hid (Below w.heap.size w w1) := (bel2 _ _ _).trans (hb1.mono (by simp; omega))
  clear hb1
  go_wp2_with fail
  go_ret
  exact ⟨rfl, HB.out⟩
set_option maxRecDepth 100000 in
set_option maxHeartbeats 2000000 in
theorem rwBytes (u : Nat) (s : ByteArray) (w : World) (hs : s.size ≤ 60000) :
    Calls Tryd.prog 100 #[.agg #[], .iface 122 (.agg #[.pointer (some ⟨u, 0, none⟩), .string s])] w fun e w' => e = .returned (.string ⟨(rlS s.data.toList).toArray⟩) ∧ Below w.heap.size w w' := by
  have HC : Hid (∀ w, Calls Tryd.prog 102 #[.string s] w fun e w' => e = .returned (.string ⟨(rlS s.data.toList).toArray⟩) ∧ Below w.heap.size w w') := fun w => by
    have := rlString_impl s.data.toList w (by have : s.data.toList.length = s.size := Array.length_toList; omega)
    simpa using this
  have y1 := as_yes_122
  have n1 := as_no_122_120
  clear hs
  go_enter Tryd.func100, Tryd.ntmps100
  go_wp2_with fail
  refine (HC.out _).mono ?_
  rintro e w1 ⟨rfl, hb1⟩
  have HB : Hid (Below w.heap.size w w1) := (bel2 _ _ _).trans (hb1.mono (by simp; omega))
  clear hb1
  go_wp2_with fail
  go_ret
  exact ⟨rfl, HB.out⟩
set_option maxRecDepth 100000 in
set_option maxHeartbeats 2000000 in
theorem rwSeries (u M cap : Nat) (ad : Option Addr) (ys : Nat → Value) (E : Nat → List UInt8) (w : World) (hM : M ≤ 20) (h1 : M ≤ cap) (h2 : cap ≤ maxLen)
    (hcell : M = 0 ∨ ∃ g, ad = some ⟨g, 0, none⟩ ∧ g < w.heap.size ∧ ∀ j, j < M → w.cell? ⟨g, j, none⟩ = some (ys j)) (hE : ∀ j, j < M → (E j).length ≤ 1000000000000) (hw : WrHyp_rlp ys E M w) (hl : (catE E M).length ≤ 65535) :
    Calls Tryd.prog 100 #[.agg #[], .iface 131 (.agg #[.pointer (some ⟨u, 0, none⟩), .slice ad M cap])] w fun e w' => e = .returned (.string ⟨(rlL (catE E M)).toArray⟩) ∧ Below w.heap.size w w' := by
  have HA : Hid (∀ w', Below w.heap.size w w' → Calls Tryd.prog 104 #[.iface 48 (.agg #[]), .slice ad M cap] w' fun e w'' => e = .returned (.string ⟨(catE E M).toArray⟩) ∧ Below w'.heap.size w' w'') := fun w' hb => by
    refine writeAll_rlp M cap ad ys E w' hM h1 h2 ?_ hE (fun j hj w'' hb' => hw j hj w'' (hb.trans (hb'.mono hb.size)))
    rcases hcell with h | ⟨g, hg, hgl, hc⟩
    · exact .inl h
    · exact .inr ⟨g, hg, by have := hb.size; omega, fun j hj => by rw [hb.cell (p := ⟨g, j, none⟩) hgl]; exact hc j hj⟩
  have HC : Hid (∀ w, Calls Tryd.prog 103 #[.string ⟨(catE E M).toArray⟩] w fun e w' => e = .returned (.string ⟨(rlL (catE E M)).toArray⟩) ∧ Below w.heap.size w w') := fun w => rlList_impl _ w hl
  generalize (⟨(catE E M).toArray⟩ : ByteArray) = S at HA HC
  have y1 := as_yes_131
  have n1 := as_no_131_120
  have n2 := as_no_131_122
  clear hw hcell hE hl
  go_enter Tryd.func100, Tryd.ntmps100
  go_wp2_with fail
  refine (HA.out _ (bel2 _ _ _)).mono ?_
  rintro e w1 ⟨rfl, hb1⟩
  have HB : Hid (Below w.heap.size w w1) := (bel2 _ _ _).trans (hb1.mono (by simp; omega))
  clear hb1
  go_wp2_with fail
  refine (HC.out _).mono ?_
  rintro e w2 ⟨rfl, hb2⟩
  have HB2 : Hid (Below w.heap.size w w2) := HB.out.trans (hb2.mono HB.out.size)
  clear hb2
  go_wp2_with fail
  go_ret
  exact ⟨rfl, HB2.out⟩
/-- What stands in the list of an option or a union. -/
def chB (k : Int) (m : Nat) (y : Value) (E : List UInt8) : List UInt8 := (if k = 9 then rlNum m else []) ++ E
set_option maxRecDepth 100000 in
set_option maxHeartbeats 2000000 in
theorem rlCh_nil (u m : Nat) (w : World) :
    Calls Tryd.prog 105 #[.agg #[], .agg #[.pointer (some ⟨u, 0, none⟩), .int .u64 m, .nilIface]] w fun e w' => e = .returned (.string ⟨#[]⟩) ∧ Below w.heap.size w w' := by
  go_enter Tryd.func105, Tryd.ntmps105
  go_wp2_with fail
  go_ret
  exact ⟨rfl, bel2 _ _ _⟩
set_option maxRecDepth 100000 in
set_option maxHeartbeats 2000000 in
theorem rlCh_opt (u m : Nat) (T : TypeId) (z : Value) (E : List UInt8) (w : World) (c0 : w.cell? ⟨u, 0, none⟩ = some (.int .i64 8)) (hu : u < w.heap.size)
    (hy : ∀ w', Below w.heap.size w w' → Calls Tryd.prog 100 #[.agg #[], .iface T z] w' fun e w'' => e = .returned (.string ⟨E.toArray⟩) ∧ Below w'.heap.size w' w'') :
    Calls Tryd.prog 105 #[.agg #[], .agg #[.pointer (some ⟨u, 0, none⟩), .int .u64 m, .iface T z]] w fun e w' => e = .returned (.string ⟨E.toArray⟩) ∧ Below w.heap.size w w' := by
  have HY : Hid (∀ w', Below w.heap.size w w' → Calls Tryd.prog 100 #[.agg #[], .iface T z] w' fun e w'' => e = .returned (.string ⟨E.toArray⟩) ∧ Below w'.heap.size w' w'') := hy
  have r0 := cell_2 c0 hu (.cells #[] 48) (.cells #[.pointer (some ⟨u, 0, none⟩), .int .u64 (m : Int), .iface T z] 134)
  clear hy
  go_enter Tryd.func105, Tryd.ntmps105
  go_wp2_with fail
  refine (HY.out _ (bel2 _ _ _)).mono ?_
  rintro e w1 ⟨rfl, hb1⟩
  have HB : Hid (Below w.heap.size w w1) := (bel2 _ _ _).trans (hb1.mono (by simp; omega))
  clear hb1 r0
  go_wp2_with fail
  go_ret
  exact ⟨rfl, HB.out⟩
set_option maxRecDepth 100000 in
set_option maxHeartbeats 2000000 in
theorem rlCh_uni (u m : Nat) (T : TypeId) (z : Value) (E : List UInt8) (w : World) (c0 : w.cell? ⟨u, 0, none⟩ = some (.int .i64 9)) (hu : u < w.heap.size) (hm : m < 18446744073709551616) (hE : E.length ≤ 65535)
    (hy : ∀ w', Below w.heap.size w w' → Calls Tryd.prog 100 #[.agg #[], .iface T z] w' fun e w'' => e = .returned (.string ⟨E.toArray⟩) ∧ Below w'.heap.size w' w'') :
    Calls Tryd.prog 105 #[.agg #[], .agg #[.pointer (some ⟨u, 0, none⟩), .int .u64 m, .iface T z]] w fun e w' => e = .returned (.string ⟨(rlNum m ++ E).toArray⟩) ∧ Below w.heap.size w w' := by
  have HC : Hid (∀ w, Calls Tryd.prog 101 #[.int .u64 m] w fun e w' => e = .returned (.string ⟨(rlNum m).toArray⟩) ∧ Below w.heap.size w w') := fun w => rlNumber_impl m w hm
  have HY : Hid (∀ w', Below w.heap.size w w' → Calls Tryd.prog 100 #[.agg #[], .iface T z] w' fun e w'' => e = .returned (.string ⟨E.toArray⟩) ∧ Below w'.heap.size w' w'') := hy
  have HR : Hid ((⟨(rlNum m).toArray⟩ : ByteArray) ++ ⟨E.toArray⟩ = ⟨(rlNum m ++ E).toArray⟩) := cat_list _ _
  have hsz : ByteArray.size ⟨(rlNum m).toArray⟩ ≤ 10 := by rw [ba_sz]; exact rlNum_len hm
  have hsz2 : ByteArray.size ⟨E.toArray⟩ ≤ 65535 := by rw [ba_sz]; exact hE
  obtain ⟨D, hD⟩ : ∃ D : ByteArray, (⟨(rlNum m).toArray⟩ : ByteArray) = D := ⟨_, rfl⟩
  obtain ⟨X, hX⟩ : ∃ X : ByteArray, (⟨E.toArray⟩ : ByteArray) = X := ⟨_, rfl⟩
  rw [hD] at hsz HC
  rw [hX] at hsz2 HY
  rw [hD, hX] at HR
  have hD2 : ¬ (9223372036854775807 < D.size + X.size) := by omega
  have r0 := cell_2 c0 hu (.cells #[] 48) (.cells #[.pointer (some ⟨u, 0, none⟩), .int .u64 (m : Int), .iface T z] 134)
  have s1 := cells_re3 (w := ((w.alloc (.cells #[] 48)).alloc (.cells #[.pointer (some ⟨u, 0, none⟩), .int .u64 (m : Int), .iface T z] 134))) (a := ⟨w.heap.size + 1, 1, none⟩) (v := .int .u64 (m : Int)) (by simp [go_sem])
  have s2 := cells_re3 (w := ((w.alloc (.cells #[] 48)).alloc (.cells #[.pointer (some ⟨u, 0, none⟩), .int .u64 (m : Int), .iface T z] 134))) (a := ⟨w.heap.size + 1, 2, none⟩) (v := .iface T z) (by simp [go_sem])
  have HBR : Hid (∀ d os, Below w.heap.size w (grow (redrawn ((w.alloc (.cells #[] 48)).alloc (.cells #[.pointer (some ⟨u, 0, none⟩), .int .u64 (m : Int), .iface T z] 134)) d) os)) := fun d os => (bel2 _ _ _).trans ((below_regrown _ d os).mono (by simp; omega))
  clear hD hX hy hE hsz hsz2
  go_enter Tryd.func105, Tryd.ntmps105
  go_wp2_with fail
  refine wp_region_quiet_below (by kernel_rfl) (by kernel_rfl) ?_
  repeat (go_big_quiet_step (first | (go_at_call 101; exact Calls.regrown_of (HC.out _)) | (go_at_call 100; exact Calls.regrown_of (HY.out _ (HBR.out _ _)))))
  refine wpQuiet_nil ?_
  intro w6 hw'
  obtain ⟨⟨dq, osq⟩, hw''⟩ := hw'
  have hb2 : Below w.heap.size w w6 := by rw [hw'']; exact HBR.out _ _
  clear hw'' s1 s2 r0
  go_wp2_with fail
  go_ret
  exact ⟨by rw [← HR.out]; rfl, hb2⟩
set_option maxRecDepth 100000 in
set_option maxHeartbeats 2000000 in
theorem rwChoice (u m : Nat) (y : Value) (B : List UInt8) (w : World) (hy1 : y = .nilIface ∨ ∃ T z, y = .iface T z) (hB : B.length ≤ 65535)
    (hy : ∀ w', Below w.heap.size w w' → Calls Tryd.prog 105 #[.agg #[], .agg #[.pointer (some ⟨u, 0, none⟩), .int .u64 m, y]] w' fun e w'' => e = .returned (.string ⟨B.toArray⟩) ∧ Below w'.heap.size w' w'') :
    Calls Tryd.prog 100 #[.agg #[], .iface 134 (.agg #[.pointer (some ⟨u, 0, none⟩), .int .u64 m, y])] w fun e w' => e = .returned (.string ⟨(rlL B).toArray⟩) ∧ Below w.heap.size w w' := by
  have HY : Hid (∀ w', Below w.heap.size w w' → Calls Tryd.prog 105 #[.agg #[], .agg #[.pointer (some ⟨u, 0, none⟩), .int .u64 m, y]] w' fun e w'' => e = .returned (.string ⟨B.toArray⟩) ∧ Below w'.heap.size w' w'') := hy
  have HC : Hid (∀ w, Calls Tryd.prog 103 #[.string ⟨B.toArray⟩] w fun e w' => e = .returned (.string ⟨(rlL B).toArray⟩) ∧ Below w.heap.size w w') := fun w => rlList_impl _ w hB
  have y1 := as_yes_134
  have n1 := as_no_134_120
  have n2 := as_no_134_122
  have n3 := as_no_134_131
  generalize (⟨B.toArray⟩ : ByteArray) = S at HY HC
  clear hy hB
  rcases hy1 with rfl | ⟨T, z, rfl⟩
  all_goals
    go_enter Tryd.func100, Tryd.ntmps100
    go_wp2_with fail
    refine (HY.out _ (bel2 _ _ _)).mono ?_
    rintro e w1 ⟨rfl, hb1⟩
    have HB : Hid (Below w.heap.size w w1) := (bel2 _ _ _).trans (hb1.mono (by simp; omega))
    clear hb1
    go_wp2_with fail
    refine (HC.out _).mono ?_
    rintro e w2 ⟨rfl, hb2⟩
    have HB2 : Hid (Below w.heap.size w w2) := HB.out.trans (hb2.mono HB.out.size)
    clear hb2
    go_wp2_with fail
    go_ret
    exact ⟨rfl, HB2.out⟩
theorem write_rlp (ts : List (Int × Int)) (vs : List It) (hvs : ∀ x ∈ vs, x.n < 18446744073709551616 ∧ x.s.size ≤ 1048577) (hl : vs.length ≤ 200) : ∀ (f a q q' : Nat) (S : Nat → Prop) (x : Value) (w : World), ve ts vs f a q = some q' → VAt ts vs f w S x a q → (∀ c, S c → c < w.heap.size) →
    Calls Tryd.prog 100 #[.agg #[], x] w fun e w' => e = .returned (.string ⟨(rlE ts vs f a q).toArray⟩) ∧ Below w.heap.size w w' := by
  intro f
  induction f with
  | zero => intro a q q' S x w h; cases h
  | succ f ih =>
    intro a q q' S x w hv hx hS
    obtain ⟨u, ha, hq, ht, hfit, hx⟩ := hx
    obtain ⟨_, e0, ad0, cap0, hok, hit, hu, c0, c1, _⟩ := ht.openT
    have hul := hS u hu
    have hfit' : vs[q].k = ts[a].1 ∧ fitsN ts[a].1 ts[a].2 vs[q].n = true := by simp [fitsI] at hfit; exact ⟨hfit.1, hfit.2.1⟩
    obtain ⟨hxn, hxs⟩ := hvs vs[q] (List.getElem_mem hq)
    have hns : ∀ x ∈ vs, x.n < 18446744073709551616 := fun x h => (hvs x h).1
    have hs200 := fit_size hok hfit
    rw [ve_ok ha hq hfit] at hv
    rw [rlE_ok ha hq]
    have hpart : ∀ j, j < np ts[a].1 vs[q].n → ∃ y y', vit (ve ts vs f) (pl ts f a ts[a].1 vs[q].n) (q + 1) j = some y ∧ ve ts vs f (pl ts f a ts[a].1 vs[q].n j) y = some y' ∧ (rlE ts vs f (pl ts f a ts[a].1 vs[q].n j) y).length ≤ 40600 := fun j hj => by
      obtain ⟨y, hy⟩ := vit_part hv (show j ≤ np ts[a].1 vs[q].n by omega)
      obtain ⟨y', hy'⟩ := vit_part hv (show j + 1 ≤ np ts[a].1 vs[q].n by omega)
      rw [vit_succ, hy] at hy'
      obtain ⟨e', he'⟩ := pl_ok ha hok hit hfit'.2 hj
      exact ⟨y, y', hy, hy', rlE_le hns hl he' hy'⟩
    rcases hx with ⟨hk, rfl⟩ | ⟨hk, rfl⟩ | ⟨hk, ad, cap, rfl, h1, h2, h3⟩ | ⟨hk, y, rfl, h3⟩
    · rw [if_pos (by omega)]
      have e1 : rlOwn vs[q] = rlNum vs[q].n := by unfold rlOwn; rw [if_pos (by omega)]
      rw [e1]
      exact rwNum u vs[q].n w hxn
    · rw [if_pos (by omega)]
      have e1 : rlOwn vs[q] = rlS vs[q].s.data.toList := by unfold rlOwn; rw [if_neg (by omega), if_pos (by omega)]
      rw [e1]
      exact rwBytes u vs[q].s w (by omega)
    · rw [if_neg (by omega)]
      have e0 : np ts[a].1 vs[q].n = vs[q].n := by unfold np; rw [if_pos (by omega)]
      have e1 : rlOwn vs[q] = [] := by unfold rlOwn; rw [if_neg (by omega), if_neg (by omega)]
      have hbl := body_le (q' := q') hns hl ha hq hok hit hfit (by omega) (Nat.le_refl _) hv
      have h20 := np_le hok hfit'.2
      rw [e0] at h20 hpart hbl
      rw [e1, List.nil_append, cat_catE] at hbl
      rw [e0, e1, List.nil_append, cat_catE]
      obtain ⟨ys, hys⟩ : ∃ ys : Nat → Value, ys = fun j => (w.cell? ⟨(ad.map (·.block)).getD 0, j, none⟩).getD .nilIface := ⟨_, rfl⟩
      refine rwSeries u vs[q].n cap ad ys _ w h20 h1 h2 ?_ ?_ ?_ (by omega)
      · rcases h3 with h3 | ⟨g, rfl, hg, hp⟩
        · exact .inl h3
        · refine .inr ⟨g, rfl, hS g hg, fun j hj => ?_⟩
          obtain ⟨y, q1, _, hc, _⟩ := hp j hj
          rw [hys, hc]; simp [hc]
      · intro j hj
        obtain ⟨y, y', hy, _, hlen⟩ := hpart j hj
        rw [hy]
        simp only [Option.getD_some]
        omega
      · intro j hj w' hb
        obtain ⟨g, rfl, hg, hp⟩ := h3.resolve_left (by omega)
        obtain ⟨y, q1, hq1, hc, hva⟩ := hp j hj
        obtain ⟨z, z', hz, hz', _⟩ := hpart j hj
        have ez : z = q1 := by rw [hq1] at hz; injection hz with hz; exact hz.symm
        subst ez
        have ey : ys j = y := by rw [hys]; simp [hc]
        rw [ey]
        dsimp only
        rw [hz]
        exact ih _ _ _ S y w' hz' (hva.bel hS hb) (fun c hc => by have := hS c hc; have := hb.size; omega)
    · rw [if_neg (by omega)]
      have hbl := body_le (q' := q') hns hl ha hq hok hit hfit (by omega) (Nat.le_refl _) hv
      rcases h3 with ⟨h3, rfl⟩ | ⟨h3, hva⟩
      · have h8 : ts[a].1 = 8 := by
          rcases hk with hk | hk
          · exact hk
          · unfold np at h3; rw [if_neg (by omega), if_pos hk] at h3; cases h3
        have e1 : rlOwn vs[q] = [] := by unfold rlOwn; rw [if_neg (by omega), if_neg (by omega)]
        rw [h3, e1]
        exact rwChoice u vs[q].n .nilIface [] w (.inl rfl) (by simp) (fun w' _ => rlCh_nil u _ w')
      · have e0 : np ts[a].1 vs[q].n = 1 := by
          have h8 := hfit'.2
          unfold fitsN at h8
          unfold np at h3 ⊢
          rcases hk with hk | hk
          · rw [if_pos (by omega)] at h3 ⊢
            rw [if_neg (by omega), if_pos (by omega)] at h8
            have := of_decide_eq_true h8
            omega
          · rw [if_neg (by omega), if_pos hk]
        obtain ⟨z, z', hz, hz', hlen⟩ := hpart 0 (by omega)
        cases hz
        rw [e0] at hbl
        rw [e0]
        simp only [cat, vit_zero, Option.getD_some, List.nil_append] at hbl ⊢
        obtain ⟨T, zz, rfl⟩ := hva.iface
        have hrec : ∀ w', Below w.heap.size w w' → Calls Tryd.prog 100 #[.agg #[], .iface T zz] w' fun e w'' => e = .returned (.string ⟨(rlE ts vs f (pl ts f a ts[a].1 vs[q].n 0) (q + 1)).toArray⟩) ∧ Below w'.heap.size w' w'' := fun w' hb => ih _ _ _ S _ w' hz' (hva.bel hS hb) (fun c hc => by have := hS c hc; have := hb.size; omega)
        refine rwChoice u vs[q].n _ _ w (.inr ⟨T, zz, rfl⟩) (by omega) (fun w' hb => ?_)
        have c0' : w'.cell? ⟨u, 0, none⟩ = some (.int .i64 ts[a].1) := by rw [hb.cell (p := ⟨u, 0, none⟩) hul]; exact c0
        have hul' : u < w'.heap.size := by have := hb.size; omega
        rcases hk with hk | hk
        · have e1 : rlOwn vs[q] = [] := by unfold rlOwn; rw [if_neg (by omega), if_neg (by omega)]
          rw [e1, List.nil_append]
          exact rlCh_opt u _ T zz _ w' (by rw [c0', hk]) hul' (fun w'' hb' => hrec w'' (hb.trans (hb'.mono hb.size)))
        · have e1 : rlOwn vs[q] = rlNum vs[q].n := by unfold rlOwn; rw [if_pos (by omega)]
          rw [e1]
          exact rlCh_uni u _ T zz _ w' (by rw [c0', hk]) hul' hxn (by omega) (fun w'' hb' => hrec w'' (hb.trans (hb'.mono hb.size)))
end Go.Proofs.YtjpdhenmhffmeaaDoor
