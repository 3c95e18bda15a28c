/- A value's bytes, as the formats with counts write them: the contract of their writing. -/
import Derived.Test.YtepffjfgomhepaaGreatDoorS7w
namespace Go.Proofs.YtepffjfgomhepaaGreatDoor
open Go.RowKit Go.Sort
set_option linter.unusedVariables false
theorem VAt.iface {ts : List (Int × Int)} {vs : List It} {f : Nat} {w : World} {S : Nat → Prop} {x : Value} {a q : Nat} (h : VAt ts vs f w S x a q) : ∃ T z, x = .iface T z := by
  cases f with
  | zero => exact h.elim
  | succ f =>
    obtain ⟨u, ha, hq, ht, hf, h⟩ := h
    rcases h with ⟨_, h⟩ | ⟨_, h⟩ | ⟨_, ad, cap, h, _⟩ | ⟨_, y, h, _⟩
    all_goals exact ⟨_, _, h⟩
theorem VAt.bel {ts : List (Int × Int)} {vs : List It} {f : Nat} {w w' : World} {S : Nat → Prop} {x : Value} {a q : Nat} (h : VAt ts vs f w S x a q) (hS : ∀ c, S c → c < w.heap.size) (hb : Below w.heap.size w w') : VAt ts vs f w' S x a q :=
  h.keep (fun _ h => h) (fun c hc => hb.block c (hS c hc))
theorem own_num {cnt : Nat → List UInt8} {k n : Int} {x : It} (hk : x.k = k) (h : k = 1 ∨ k = 2 ∨ k = 8 ∨ k = 9) : own cnt n x = leL x.n (wid k n) := by
  subst hk
  unfold own wid
  rcases h with h | h | h | h <;> simp [h]
theorem own_bytes {cnt : Nat → List UInt8} {k n : Int} {x : It} (hk : x.k = k) (h : k = 3 ∨ k = 4) : own cnt n x = (if k = 3 ∨ k = 5 then cnt x.s.size else []) ++ x.s.data.toList := by
  subst hk
  unfold own
  rcases h with h | h <;> simp [h]
theorem own_series {cnt : Nat → List UInt8} {k n : Int} {x : It} (hk : x.k = k) (h : k = 5 ∨ k = 6 ∨ k = 7) : own cnt n x = if k = 3 ∨ k = 5 then cnt x.n else [] := by
  subst hk
  unfold own
  rcases h with h | h | h <;> simp [h]
theorem scE_le {cnt : Nat → List UInt8} {ts : List (Int × Int)} {vs : List It} (hc : ∀ m, (cnt m).length ≤ 9) (hs : ∀ x ∈ vs, x.s.size ≤ 1048577) (hl : vs.length ≤ 200) {f a e q q' : Nat} (he : en ts f a = some e) (hv : ve ts vs f a q = some q') : (scE cnt ts vs f a q).length ≤ 1000000000 := by
  have h1 := scE_len hc hs he hv
  have h2 := (ve_lt hv).2
  have h3 : q' * 1048590 ≤ 200 * 1048590 := Nat.mul_le_mul_right _ (by omega)
  omega
set_option maxRecDepth 100000 in
set_option maxHeartbeats 2000000 in
theorem wrChN_sc (u m : Nat) (k n : Int) (y : Value) (E : List UInt8) (w : World) (c0 : w.cell? ⟨u, 0, none⟩ = some (.int .i64 k)) (c1 : w.cell? ⟨u, 1, none⟩ = some (.int .i64 n)) (hu : u < w.heap.size) (hok : tyOk k n = true) (hm : m < 18446744073709551616)
    (hE : E.length ≤ 1000000000000) (hy : (y = .nilIface ∧ E = []) ∨ ((∃ T z, y = .iface T z) ∧ ∀ w', Below w.heap.size w w' → Calls Tryz.prog 125 #[.agg #[.func (.func 35) #[] #[], .func (.func 36) #[] #[]], y] w' fun e w'' => e = .returned (.string ⟨E.toArray⟩) ∧ Below w'.heap.size w' w'')) :
    Calls Tryz.prog 125 #[.agg #[.func (.func 35) #[] #[], .func (.func 36) #[] #[]], .iface 157 (.agg #[.pointer (some ⟨u, 0, none⟩), .int .u64 m, y])] w fun e w' => e = .returned (.string ⟨(leL m (wid k n) ++ E).toArray⟩) ∧ Below w.heap.size w w' := by
  have HC : Hid (Calls Tryz.prog 130 #[.agg #[], .iface 48 (.agg #[.func (.func 35) #[] #[], .func (.func 36) #[] #[]]), .agg #[.pointer (some ⟨u, 0, none⟩), .int .u64 m, y]] ((w.alloc (.cells #[.func (.func 35) #[] #[], .func (.func 36) #[] #[]] 48)).alloc (.cells #[.pointer (some ⟨u, 0, none⟩), .int .u64 (m : Int), y] 157)) fun e w' => e = .returned (.string ⟨(leL m (wid k n) ++ E).toArray⟩) ∧ Below ((w.alloc (.cells #[.func (.func 35) #[] #[], .func (.func 36) #[] #[]] 48)).alloc (.cells #[.pointer (some ⟨u, 0, none⟩), .int .u64 (m : Int), y] 157)).heap.size ((w.alloc (.cells #[.func (.func 35) #[] #[], .func (.func 36) #[] #[]] 48)).alloc (.cells #[.pointer (some ⟨u, 0, none⟩), .int .u64 (m : Int), y] 157)) w') :=
    wrChoice_sc u m k n y E _ (cell_2 c0 hu _ _) (cell_2 c1 hu _ _) (by simp; omega) hok hm hE (hy.imp id fun ⟨h1, h2⟩ => ⟨h1, fun w' hb => h2 w' ((bel2 _ _ _).trans (hb.mono (by simp; omega)))⟩)
  have y1 := as_yes_157
  have n1 := as_no_157_137
  have n2 := as_no_157_139
  have n3 := as_no_157_155
  have p0 := part00 (heap_2 w (.cells #[.func (.func 35) #[] #[], .func (.func 36) #[] #[]] 48) (.cells #[.pointer (some ⟨u, 0, none⟩), .int .u64 (m : Int), y] 157))
  have hy1 : y = .nilIface ∨ ∃ T z, y = .iface T z := hy.imp (·.1) (·.1)
  clear hok hy hE c0 c1
  rcases hy1 with rfl | ⟨T, z, rfl⟩
  all_goals
    go_enter Tryz.func125, Tryz.ntmps125
    go_wp2_with fail
    refine Calls.mono HC.out ?_
    rintro e w1 ⟨rfl, hb1⟩
    have HB : Hid (Below w.heap.size w w1) := (bel2 _ _ _).trans (hb1.mono (by simp; omega))
    clear hb1 p0
    go_wp2_with fail
    go_ret
    exact ⟨rfl, HB.out⟩
/-- A count's bytes, of numbers that a count can be. -/
def cb_sc (m : Nat) : List UInt8 := if m < 18446744073709551616 then putCompact m else []
theorem cb_len_sc (m : Nat) : (cb_sc m).length ≤ 9 := by
  unfold cb_sc
  split
  · rename_i h
    have := by8_8 m h
    unfold putCompact
    repeat' split
    all_goals first | (simp only [leL_len]; omega) | (simp only [leL_len, List.length_append]; omega) | (simp only [leL_len, List.length_cons]; omega)
  · simp
theorem cb_cnt_sc {k : Int} {m : Nat} (h : m < 18446744073709551616) : (if k = 3 ∨ k = 5 then cb_sc m else []) = cnt_sc k m := by
  unfold cnt_sc cb_sc
  rw [if_pos h]
theorem cnt_len_sc (k : Int) {m : Nat} (h : m < 18446744073709551616) : (cnt_sc k m).length ≤ 1000 := by
  rw [← cb_cnt_sc h]
  split
  · have := cb_len_sc m; omega
  · simp
theorem write_sc (ts : List (Int × Int)) (vs : List It) (hvs : ∀ x ∈ vs, x.n < 18446744073709551616 ∧ x.s.size ≤ 1048577) (hl : vs.length ≤ 200) : ∀ (f a q q' : Nat) (S : Nat → Prop) (x : Value) (w : World), ve ts vs f a q = some q' → VAt ts vs f w S x a q → (∀ c, S c → c < w.heap.size) →
    Calls Tryz.prog 125 #[.agg #[.func (.func 35) #[] #[], .func (.func 36) #[] #[]], x] w fun e w' => e = .returned (.string ⟨(scE cb_sc ts vs f a q).toArray⟩) ∧ Below w.heap.size w w' := by
  intro f
  induction f with
  | zero => intro a q q' S x w h; cases h
  | succ f ih =>
    intro a q q' S x w hv hx hS
    obtain ⟨u, ha, hq, ht, hfit, hx⟩ := hx
    obtain ⟨_, e0, ad0, cap0, hok, hit, hu, c0, c1, _⟩ := ht.openT
    have hul := hS u hu
    have hfit' : vs[q].k = ts[a].1 ∧ fitsN ts[a].1 ts[a].2 vs[q].n = true := by simp [fitsI] at hfit; exact ⟨hfit.1, hfit.2.1⟩
    obtain ⟨hxn, hxs⟩ := hvs vs[q] (List.getElem_mem hq)
    have hss : ∀ x ∈ vs, x.s.size ≤ 1048577 := fun x h => (hvs x h).2
    rw [ve_ok ha hq hfit] at hv
    rw [scE_ok ha hq]
    have hpart : ∀ j, j < np ts[a].1 vs[q].n → ∃ y y', vit (ve ts vs f) (pl ts f a ts[a].1 vs[q].n) (q + 1) j = some y ∧ ve ts vs f (pl ts f a ts[a].1 vs[q].n j) y = some y' ∧ (scE cb_sc ts vs f (pl ts f a ts[a].1 vs[q].n j) y).length ≤ 1000000000 := fun j hj => by
      obtain ⟨y, hy⟩ := vit_part hv (show j ≤ np ts[a].1 vs[q].n by omega)
      obtain ⟨y', hy'⟩ := vit_part hv (show j + 1 ≤ np ts[a].1 vs[q].n by omega)
      rw [vit_succ, hy] at hy'
      obtain ⟨e', he'⟩ := pl_ok ha hok hit hfit'.2 hj
      exact ⟨y, y', hy, hy', scE_le cb_len_sc hss hl he' hy'⟩
    rcases hx with ⟨hk, rfl⟩ | ⟨hk, rfl⟩ | ⟨hk, ad, cap, rfl, h1, h2, h3⟩ | ⟨hk, y, rfl, h3⟩
    · have e0 : np ts[a].1 vs[q].n = 0 := by unfold np; rw [if_neg (by omega), if_neg (by omega)]
      rw [e0, own_num hfit'.1 (by omega)]
      simp only [cat, List.append_nil]
      exact wrNum_sc u vs[q].n _ _ w c0 c1 hul hok hxn
    · have e0 : np ts[a].1 vs[q].n = 0 := by unfold np; rw [if_neg (by omega), if_neg (by omega)]
      have hm : vs[q].s.size < 18446744073709551616 := by omega
      rw [e0, own_bytes hfit'.1 hk, cb_cnt_sc hm]
      simp only [cat, List.append_nil]
      exact wrBytes_sc u vs[q].s _ _ w c0 c1 hul hxs (cnt_len_sc _ hm)
    · have e0 : np ts[a].1 vs[q].n = vs[q].n := by unfold np; rw [if_pos (by omega)]
      have h20 := np_le hok hfit'.2
      rw [e0] at h20 hpart
      rw [e0, own_series hfit'.1 hk, cb_cnt_sc hxn, cat_catE]
      obtain ⟨ys, hys⟩ : ∃ ys : Nat → Value, ys = fun j => (w.cell? ⟨(ad.map (·.block)).getD 0, j, none⟩).getD .nilIface := ⟨_, rfl⟩
      refine wrSeries_sc u vs[q].n cap ad _ _ ys _ w c0 c1 hul h20 h1 h2 ?_ ?_ ?_ (cnt_len_sc _ hxn)
      · rcases h3 with h3 | ⟨g, rfl, hg, hp⟩
        · exact .inl h3
        · refine .inr ⟨g, rfl, hS g hg, fun j hj => ?_⟩
          obtain ⟨y, q1, _, hc, _⟩ := hp j hj
          rw [hys, hc]; simp [hc]
      · intro j hj
        obtain ⟨y, y', hy, _, hlen⟩ := hpart j hj
        rw [hy]
        simp only [Option.getD_some]
        omega
      · intro j hj w' hb
        obtain ⟨g, rfl, hg, hp⟩ := h3.resolve_left (by omega)
        obtain ⟨y, q1, hq1, hc, hva⟩ := hp j hj
        obtain ⟨z, z', hz, hz', _⟩ := hpart j hj
        have ez : z = q1 := by rw [hq1] at hz; injection hz with hz; exact hz.symm
        subst ez
        have ey : ys j = y := by rw [hys]; simp [hc]
        rw [ey]
        dsimp only
        rw [hz]
        exact ih _ _ _ S y w' hz' (hva.bel hS hb) (fun c hc => by have := hS c hc; have := hb.size; omega)
    · rw [own_num hfit'.1 (by omega)]
      rcases h3 with ⟨h3, rfl⟩ | ⟨h3, hva⟩
      · rw [h3]
        exact wrChN_sc u vs[q].n _ _ .nilIface [] w c0 c1 hul hok hxn (by simp) (.inl ⟨rfl, rfl⟩)
      · have e0 : np ts[a].1 vs[q].n = 1 := by
          have h8 := hfit'.2
          unfold fitsN at h8
          unfold np at h3 ⊢
          rcases hk with hk | hk
          · rw [if_pos (by omega)] at h3 ⊢
            rw [if_neg (by omega), if_pos (by omega)] at h8
            have := of_decide_eq_true h8
            omega
          · rw [if_neg (by omega), if_pos hk]
        obtain ⟨z, z', hz, hz', hlen⟩ := hpart 0 (by omega)
        cases hz
        rw [e0]
        simp only [cat, vit_zero, Option.getD_some, List.nil_append]
        exact wrChN_sc u vs[q].n _ _ y _ w c0 c1 hul hok hxn (by omega) (.inr ⟨hva.iface, fun w' hb => ih _ _ _ S y w' hz' (hva.bel hS hb) (fun c hc => by have := hS c hc; have := hb.size; omega)⟩)
end Go.Proofs.YtepffjfgomhepaaGreatDoor
