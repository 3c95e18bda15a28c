/- A value's bytes, as SSZ writes them: by induction. -/
import Derived.Test.YtjpdhenmhffmeaaDoorS9e
namespace Go.Proofs.YtjpdhenmhffmeaaDoor
open Go.RowKit Go.Sort
set_option linter.unusedVariables false
theorem SerHyp.below {u M : Nat} {ys : Nat → Value} {E : Nat → List UInt8} {sz : Nat → Int} {fr : Nat} {w w' : World} (h : SerHyp u M ys E sz fr w) (hb : Below w.heap.size w w') : SerHyp u M ys E sz fr w' :=
  ⟨fun w1 h1 => h.front w1 (hb.trans (h1.mono hb.size)), fun j hj => by
    obtain ⟨c, h1, h2⟩ := h.part j hj
    exact ⟨c, fun w1 h3 => h1 w1 (hb.trans (h3.mono hb.size)), fun w1 h3 => h2 w1 (hb.trans (h3.mono hb.size))⟩, fun j hj w1 h1 => h.write j hj w1 (hb.trans (h1.mono hb.size)), h.szr, h.len, h.one⟩
set_option maxRecDepth 100000 in
set_option maxHeartbeats 2000000 in
theorem swSerN (u M cap : Nat) (ad : Option Addr) (ys : Nat → Value) (E : Nat → List UInt8) (sz : Nat → Int) (fr : Nat) (w : World) (hM : M ≤ 20) (hfr : fr ≤ 2684354560) (h1 : M ≤ cap) (h2 : cap ≤ maxLen)
    (hcell : M = 0 ∨ ∃ g, ad = some ⟨g, 0, none⟩ ∧ g < w.heap.size ∧ ∀ j, j < M → w.cell? ⟨g, j, none⟩ = some (ys j)) (hh : SerHyp u M ys E sz fr w) :
    Calls Tryd.prog 112 #[.agg #[], .iface 131 (.agg #[.pointer (some ⟨u, 0, none⟩), .slice ad M cap])] w fun e w' => e = .returned (.string ⟨((hts (fun j => decide (sz j < 0)) E fr M).1 ++ (hts (fun j => decide (sz j < 0)) E fr M).2).toArray⟩) ∧ Below w.heap.size w w' := by
  have HC : Hid (∀ w', Below w.heap.size w w' → Calls Tryd.prog 114 #[.agg #[], .agg #[.pointer (some ⟨u, 0, none⟩), .slice ad M cap]] w' fun e w'' => e = .returned (.string ⟨((hts (fun j => decide (sz j < 0)) E fr M).1 ++ (hts (fun j => decide (sz j < 0)) E fr M).2).toArray⟩) ∧ Below w'.heap.size w' w'') := fun w' hb => by
    refine swSeries u M cap ad ys E sz fr w' hM hfr h1 h2 ?_ (hh.below hb)
    rcases hcell with h | ⟨g, hg, hgl, hc⟩
    · exact .inl h
    · exact .inr ⟨g, hg, by have := hb.size; omega, fun j hj => by rw [hb.cell (p := ⟨g, j, none⟩) hgl]; exact hc j hj⟩
  have y1 := as_yes_131
  have n1 := as_no_131_120
  have n2 := as_no_131_122
  generalize (⟨((hts (fun j => decide (sz j < 0)) E fr M).1 ++ (hts (fun j => decide (sz j < 0)) E fr M).2).toArray⟩ : ByteArray) = R at HC ⊢
  clear hcell hh
  go_enter Tryd.func112, Tryd.ntmps112
  go_wp2_with fail
  refine (HC.out _ (bel2 _ _ _)).mono ?_
  rintro e w1 ⟨rfl, hb1⟩
  have HB : Hid (Below w.heap.size w w1) := (bel2 _ _ _).trans (hb1.mono (by simp; omega))
  clear hb1
  go_wp2_with fail
  go_ret
  exact ⟨rfl, HB.out⟩
theorem write_ssz (ts : List (Int × Int)) (vs : List It) (hvs : ∀ x ∈ vs, x.n < 18446744073709551616 ∧ x.s.size ≤ 1048577) (hl : vs.length ≤ 200) : ∀ (f a q q' : Nat) (S : Nat → Prop) (x : Value) (w : World), f ≤ 7 → ve ts vs f a q = some q' → VAt ts vs f w S x a q → (∀ c, S c → c < w.heap.size) →
    Calls Tryd.prog 112 #[.agg #[], x] w fun e w' => e = .returned (.string ⟨(ssE ts vs f a q).toArray⟩) ∧ Below w.heap.size w w' := by
  intro f
  induction f with
  | zero => intro a q q' S x w _ h; cases h
  | succ f ih =>
    intro a q q' S x w hf7 hv hx hS
    obtain ⟨u, ha, hq, ht, hfit, hx⟩ := hx
    obtain ⟨_, e0, ad0, cap0, hok, hit, hu, c0, c1, _⟩ := ht.openT
    have hul := hS u hu
    have hfit' : vs[q].k = ts[a].1 ∧ fitsN ts[a].1 ts[a].2 vs[q].n = true := by simp [fitsI] at hfit; exact ⟨hfit.1, hfit.2.1⟩
    obtain ⟨hxn, hxs⟩ := hvs vs[q] (List.getElem_mem hq)
    have hss : ∀ x ∈ vs, x.s.size ≤ 1048577 := fun x h => (hvs x h).2
    rw [ve_ok ha hq hfit] at hv
    have hpart : ∀ j, j < np ts[a].1 vs[q].n → ∃ y y', vit (ve ts vs f) (pl ts f a ts[a].1 vs[q].n) (q + 1) j = some y ∧ ve ts vs f (pl ts f a ts[a].1 vs[q].n j) y = some y' ∧ (ssE ts vs f (pl ts f a ts[a].1 vs[q].n j) y).length ≤ 209720000 := fun j hj => by
      obtain ⟨y, hy⟩ := vit_part hv (show j ≤ np ts[a].1 vs[q].n by omega)
      obtain ⟨y', hy'⟩ := vit_part hv (show j + 1 ≤ np ts[a].1 vs[q].n by omega)
      rw [vit_succ, hy] at hy'
      obtain ⟨e', he'⟩ := pl_ok ha hok hit hfit'.2 hj
      exact ⟨y, y', hy, hy', ssE_le hss hl he' hy'⟩
    rcases hx with ⟨hk, rfl⟩ | ⟨hk, rfl⟩ | ⟨hk, ad, cap, rfl, h1, h2, h3⟩ | ⟨hk, y, rfl, h3⟩
    · have e0 : np ts[a].1 vs[q].n = 0 := by unfold np; rw [if_neg (by omega), if_neg (by omega)]
      have e1 : ssOwn ts[a].2 vs[q] = leL vs[q].n (wid ts[a].1 ts[a].2) := by unfold ssOwn; rw [if_pos (by omega), hfit'.1]
      rw [ssE_flat ha hq (by omega), e0, e1]
      simp only [cat, List.append_nil]
      exact swNum u vs[q].n _ _ w c0 c1 hul hok hxn
    · have e0 : np ts[a].1 vs[q].n = 0 := by unfold np; rw [if_neg (by omega), if_neg (by omega)]
      have e1 : ssOwn ts[a].2 vs[q] = vs[q].s.data.toList := by unfold ssOwn; rw [if_neg (by omega), if_pos (by omega)]
      rw [ssE_flat ha hq (by omega), e0, e1]
      simp only [cat, List.append_nil]
      have := swBytes u vs[q].s w
      simpa using this
    · have e0 : np ts[a].1 vs[q].n = vs[q].n := by unfold np; rw [if_pos (by omega)]
      have h20 := np_le hok hfit'.2
      have hlen := fun (j : Nat) (hj : j ≤ np ts[a].1 vs[q].n) => Exists.elim (vit_part hv hj) fun x hx => ht_le (fr := frt (fun j => slt (szT ts f (pl ts f a ts[a].1 vs[q].n j))) vs[q].n) hss hl ha hq hok hit hfit hj hx
      rw [e0] at h20 hpart hlen
      rw [ssE_ser ha hq hk, e0]
      obtain ⟨ys, hys⟩ : ∃ ys : Nat → Value, ys = fun j => (w.cell? ⟨(ad.map (·.block)).getD 0, j, none⟩).getD .nilIface := ⟨_, rfl⟩
      have hfrl : frt (fun j => slt (szT ts f (pl ts f a ts[a].1 vs[q].n j))) vs[q].n ≤ 2684354560 := by
        have h4 := frt_le (s := fun j => slt (szT ts f (pl ts f a ts[a].1 vs[q].n j))) (L := 134217728) (n := vs[q].n) (fun j _ => slt_le (by omega)) vs[q].n (Nat.le_refl _)
        have h5 : vs[q].n * 134217728 ≤ 20 * 134217728 := Nat.mul_le_mul_right _ (by omega)
        omega
      refine swSerN u vs[q].n cap ad ys _ (fun j => szT ts f (pl ts f a ts[a].1 vs[q].n j)) _ w h20 hfrl h1 h2 ?_ ⟨?_, ?_, ?_, ?_, hlen, ?_⟩
      · rcases h3 with h3 | ⟨g, rfl, hg, hp⟩
        · exact .inl h3
        · refine .inr ⟨g, rfl, hS g hg, fun j hj => ?_⟩
          obtain ⟨y, q1, _, hc, _⟩ := hp j hj
          rw [hys, hc]; simp [hc]
      · intro w' hb
        exact front_any ts f u a w' S vs[q].n (by omega) (ht.belK hS hb) (fun c hc => by have := hS c hc; have := hb.size; omega) ha hfit'.2 hk h20
      · intro j hj
        obtain ⟨c, htc, hc⟩ := part_c ts f u a w S vs[q].n j ht hS ha hfit'.2 hk hj (by omega)
        exact ⟨c, hc, fun w' hb => size_any ts f (by omega) c _ w' S (htc.belK hS hb) (fun c hc => by have := hS c hc; have := hb.size; omega)⟩
      · intro j hj w' hb
        obtain ⟨g, rfl, hg, hp⟩ := h3.resolve_left (by omega)
        obtain ⟨y, q1, hq1, hc, hva⟩ := hp j hj
        obtain ⟨z, z', hz, hz', _⟩ := hpart j hj
        have ez : z = q1 := by rw [hq1] at hz; injection hz with hz; exact hz.symm
        subst ez
        have ey : ys j = y := by rw [hys]; simp [hc]
        rw [ey]
        rw [hz]
        exact ih _ _ _ S y w' (by omega) hz' (hva.bel hS hb) (fun c hc => by have := hS c hc; have := hb.size; omega)
      · intro j
        exact szT_small (by omega)
      · intro j hj
        obtain ⟨y, y', hy, _, hlen⟩ := hpart j hj
        rw [hy]
        exact hlen
    · have e1 : ssOwn ts[a].2 vs[q] = leL vs[q].n (wid ts[a].1 ts[a].2) := by unfold ssOwn; rw [if_pos (by omega), hfit'.1]
      rw [ssE_flat ha hq (by omega), e1]
      rcases h3 with ⟨h3, rfl⟩ | ⟨h3, hva⟩
      · rw [h3]
        exact swChoice u vs[q].n _ _ .nilIface [] w c0 c1 hul hok hxn (by simp) (.inl ⟨rfl, rfl⟩)
      · have e0 : np ts[a].1 vs[q].n = 1 := by
          have h8 := hfit'.2
          unfold fitsN at h8
          unfold np at h3 ⊢
          rcases hk with hk | hk
          · rw [if_pos (by omega)] at h3 ⊢
            rw [if_neg (by omega), if_pos (by omega)] at h8
            have := of_decide_eq_true h8
            omega
          · rw [if_neg (by omega), if_pos hk]
        obtain ⟨z, z', hz, hz', hlen⟩ := hpart 0 (by omega)
        cases hz
        rw [e0]
        simp only [cat, vit_zero, Option.getD_some, List.nil_append]
        exact swChoice u vs[q].n _ _ y _ w c0 c1 hul hok hxn (by omega) (.inr ⟨hva.iface, fun w' hb => ih _ _ _ S y w' (by omega) hz' (hva.bel hS hb) (fun c hc => by have := hS c hc; have := hb.size; omega)⟩)
end Go.Proofs.YtjpdhenmhffmeaaDoor
