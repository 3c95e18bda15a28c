/- Messages, as the program writes them: every value, by its levels: contract. -/
import Derived.Test.YtocealohiflheaaDoorWPf
namespace Go.Proofs.YtocealohiflheaaDoor
open Go.RowKit Go.Sort
set_option linter.unusedVariables false
set_option maxHeartbeats 1000000 in
theorem pwNum (u m : Nat) (w : World) (hm : m < 18446744073709551616) :
    Calls Tryd.prog 101 #[.agg #[], .iface 122 (.agg #[.pointer (some ⟨u, 0, none⟩), .int .u64 m])] w fun e w' => e = .returned (.string ⟨(putVar m).toArray⟩) ∧ Below w.heap.size w w' := by
  have HC : Hid (∀ w, Calls Tryd.prog 17 #[.int .u64 m] w fun e w' => e = .returned (.string ⟨(putVar m).toArray⟩) ∧ Below w.heap.size w w') := fun w => implPutVarint_any m w hm
  have y1 := as_yes_122
  go_enter Tryd.func101, Tryd.ntmps101
  go_wp2_with fail
  refine (HC.out _).mono ?_
  rintro e w1 ⟨rfl, hb1⟩
  have HB : Hid (Below w.heap.size w w1) := (bel2 _ _ _).trans (hb1.mono (by simp; omega))
  clear hb1
  go_wp2_with fail
  go_ret
  exact ⟨rfl, HB.out⟩
set_option maxHeartbeats 1000000 in
theorem pwBytes (u : Nat) (s : ByteArray) (w : World) :
    Calls Tryd.prog 101 #[.agg #[], .iface 124 (.agg #[.pointer (some ⟨u, 0, none⟩), .string s])] w fun e w' => e = .returned (.string s) ∧ Below w.heap.size w w' := by
  have y1 := as_yes_124
  have n1 := as_no_124_122
  go_enter Tryd.func101, Tryd.ntmps101
  go_wp2_with fail
  go_ret
  exact ⟨rfl, bel2 _ _ _⟩
set_option maxHeartbeats 1000000 in
theorem pwMsg (u M cap : Nat) (ad : Option Addr) (B : List UInt8) (w : World) (c0 : w.cell? ⟨u, 0, none⟩ = some (.int .i64 7)) (hu : u < w.heap.size)
    (hM : ∀ w', Below w.heap.size w w' → Calls Tryd.prog 102 #[.agg #[], .agg #[.pointer (some ⟨u, 0, none⟩), .slice ad M cap]] w' fun e w'' => e = .returned (.string ⟨B.toArray⟩) ∧ Below w'.heap.size w' w'') :
    Calls Tryd.prog 101 #[.agg #[], .iface 131 (.agg #[.pointer (some ⟨u, 0, none⟩), .slice ad M cap])] w fun e w' => e = .returned (.string ⟨B.toArray⟩) ∧ Below w.heap.size w w' := by
  have HM : Hid (∀ w', Below w.heap.size w w' → Calls Tryd.prog 102 #[.agg #[], .agg #[.pointer (some ⟨u, 0, none⟩), .slice ad M cap]] w' fun e w'' => e = .returned (.string ⟨B.toArray⟩) ∧ Below w'.heap.size w' w'') := hM
  have y1 := as_yes_131
  have n1 := as_no_131_122
  have n2 := as_no_131_124
  have r0 := cell_2 c0 hu (.cells #[] 64) (.cells #[.pointer (some ⟨u, 0, none⟩), .slice ad M cap] 131)
  clear hM c0
  go_enter Tryd.func101, Tryd.ntmps101
  go_wp2_with fail
  refine (HM.out _ (bel2 _ _ _)).mono ?_
  rintro e w1 ⟨rfl, hb1⟩
  have HB : Hid (Below w.heap.size w w1) := (bel2 _ _ _).trans (hb1.mono (by simp; omega))
  clear hb1 r0
  go_wp2_with fail
  go_ret
  exact ⟨rfl, HB.out⟩
set_option maxHeartbeats 1000000 in
theorem pwAll (u M cap : Nat) (k : Int) (ad : Option Addr) (B : List UInt8) (w : World) (hk : k ≠ 7) (c0 : w.cell? ⟨u, 0, none⟩ = some (.int .i64 k)) (hu : u < w.heap.size)
    (hM : ∀ w', Below w.heap.size w w' → Calls Tryd.prog 103 #[.iface 64 (.agg #[]), .slice ad M cap] w' fun e w'' => e = .returned (.string ⟨B.toArray⟩) ∧ Below w'.heap.size w' w'') :
    Calls Tryd.prog 101 #[.agg #[], .iface 131 (.agg #[.pointer (some ⟨u, 0, none⟩), .slice ad M cap])] w fun e w' => e = .returned (.string ⟨B.toArray⟩) ∧ Below w.heap.size w w' := by
  have HM : Hid (∀ w', Below w.heap.size w w' → Calls Tryd.prog 103 #[.iface 64 (.agg #[]), .slice ad M cap] w' fun e w'' => e = .returned (.string ⟨B.toArray⟩) ∧ Below w'.heap.size w' w'') := hM
  have y1 := as_yes_131
  have n1 := as_no_131_122
  have n2 := as_no_131_124
  have r0 := cell_2 c0 hu (.cells #[] 64) (.cells #[.pointer (some ⟨u, 0, none⟩), .slice ad M cap] 131)
  have hk7 : (k == 7) = false := beqF hk
  clear hM c0 hk
  go_enter Tryd.func101, Tryd.ntmps101
  go_wp2_with fail
  refine (HM.out _ (bel2 _ _ _)).mono ?_
  rintro e w1 ⟨rfl, hb1⟩
  have HB : Hid (Below w.heap.size w w1) := (bel2 _ _ _).trans (hb1.mono (by simp; omega))
  clear hb1 r0
  go_wp2_with fail
  go_ret
  exact ⟨rfl, HB.out⟩
set_option maxHeartbeats 1000000 in
theorem pwCho (u m : Nat) (y : Value) (w : World) (hy : y = .nilIface ∨ ∃ T z, y = .iface T z) :
    Calls Tryd.prog 101 #[.agg #[], .iface 134 (.agg #[.pointer (some ⟨u, 0, none⟩), .int .u64 m, y])] w fun e w' => e = .returned (.string ⟨#[]⟩) ∧ Below w.heap.size w w' := by
  have n1 := as_no_134_122
  have n2 := as_no_134_124
  have n3 := as_no_134_131
  rcases hy with rfl | ⟨T, z, rfl⟩
  all_goals
    go_enter Tryd.func101, Tryd.ntmps101
    go_wp2_with fail
    go_ret
    exact ⟨rfl, bel1 _ _⟩
theorem write_pr (ts : List (Int × Int)) (vs : List It) (hvs : ∀ x ∈ vs, x.n < 18446744073709551616 ∧ x.s.size ≤ 1048577) (hl : vs.length ≤ 200) : ∀ F f, f ≤ F → WvHyp ts vs f := by
  intro F
  induction F with
  | zero =>
    intro f hf
    have : f = 0 := by omega
    subst this
    intro a q q' S x w h
    cases h
  | succ F ih =>
    intro f hf
    by_cases hfF : f ≤ F
    · exact ih f hfF
    · have : f = F + 1 := by omega
      subst this
      clear hf hfF
      intro a q q' S x w hv hx hS
      obtain ⟨u, ha, hq, ht, hfit, hx⟩ := hx
      obtain ⟨_, e0, adk, capk, hok, hit, hu, c0, c1, c5, hk1, hk2, hkd⟩ := ht.openT
      have hul := hS u hu
      have hfit' : vs[q].k = ts[a].1 ∧ fitsN ts[a].1 ts[a].2 vs[q].n = true := by simp [fitsI] at hfit; exact ⟨hfit.1, hfit.2.1⟩
      obtain ⟨hxn, hxs⟩ := hvs vs[q] (List.getElem_mem hq)
      rw [ve_ok ha hq hfit] at hv
      rw [prX_none ha hq]
      have h20 := np_le hok hfit'.2
      have hpart : ∀ j, j < np ts[a].1 vs[q].n → ∃ y y', vit (ve ts vs F) (pl ts F a ts[a].1 vs[q].n) (q + 1) j = some y ∧ ve ts vs F (pl ts F a ts[a].1 vs[q].n j) y = some y' ∧ ∀ o, (prX ts vs F o (pl ts F a ts[a].1 vs[q].n j) y).length ≤ 60000 := fun j hj => by
        obtain ⟨y, hy⟩ := vit_part hv (show j ≤ np ts[a].1 vs[q].n by omega)
        obtain ⟨y', hy'⟩ := vit_part hv (show j + 1 ≤ np ts[a].1 vs[q].n by omega)
        rw [vit_succ, hy] at hy'
        obtain ⟨e', he'⟩ := pl_ok ha hok hit hfit'.2 hj
        exact ⟨y, y', hy, hy', fun o => prX_le hl o he' hy'⟩
      rcases hx with ⟨hk, rfl⟩ | ⟨hk, rfl⟩ | ⟨hk, ad, cap, rfl, h1, h2, h3⟩ | ⟨hk, y, rfl, h3⟩
      · have e1 : prW ts vs F (prX ts vs F) a q ts[a].1 vs[q] = putVar vs[q].n := by unfold prW; rw [if_pos (by omega)]
        rw [e1]
        exact pwNum u vs[q].n w hxn
      · have e1 : prW ts vs F (prX ts vs F) a q ts[a].1 vs[q] = vs[q].s.data.toList := by unfold prW; rw [if_neg (by omega), if_pos (by omega)]
        rw [e1]
        exact pwBytes u vs[q].s w
      · have e0' : np ts[a].1 vs[q].n = vs[q].n := by unfold np; rw [if_pos (by omega)]
        obtain ⟨ys, hys⟩ : ∃ ys : Nat → Value, ys = fun j => (w.cell? ⟨(ad.map (·.block)).getD 0, j, none⟩).getD .nilIface := ⟨_, rfl⟩
        have hcell : ∀ w', Below w.heap.size w w' → (vs[q].n = 0 ∨ ∃ g, ad = some ⟨g, 0, none⟩ ∧ g < w'.heap.size ∧ ∀ j, j < vs[q].n → w'.cell? ⟨g, j, none⟩ = some (ys j)) := fun w' hb => by
          rcases h3 with h3 | ⟨g, rfl, hg, hp⟩
          · exact .inl h3
          · refine .inr ⟨g, rfl, by have := hS g hg; have := hb.size; omega, fun j hj => ?_⟩
            obtain ⟨y, q1, _, hc, _⟩ := hp j hj
            rw [hb.cell (p := ⟨g, j, none⟩) (hS g hg), hys, hc]; simp [hc]
        have hval : ∀ j, j < vs[q].n → ∃ y z z', ys j = y ∧ vit (ve ts vs F) (pl ts F a ts[a].1 vs[q].n) (q + 1) j = some z ∧ ve ts vs F (pl ts F a ts[a].1 vs[q].n j) z = some z' ∧ VAt ts vs F w S y (pl ts F a ts[a].1 vs[q].n j) z := fun j hj => by
          obtain ⟨g, rfl, hg, hp⟩ := h3.resolve_left (by omega)
          obtain ⟨y, q1, hq1, hc, hva⟩ := hp j hj
          obtain ⟨z, z', hz, hz', _⟩ := hpart j (by omega)
          have ez : z = q1 := by rw [hq1] at hz; injection hz with hz; exact hz.symm
          subst ez
          exact ⟨y, z, z', by rw [hys]; simp [hc], hz, hz', hva⟩
        by_cases h7 : ts[a].1 = 7
        · have e1 : prW ts vs F (prX ts vs F) a q ts[a].1 vs[q] = catE (fun j => prX ts vs F (some j) (pl ts F a ts[a].1 vs[q].n j) ((vit (ve ts vs F) (pl ts F a ts[a].1 vs[q].n) (q + 1) j).getD 0)) (np ts[a].1 vs[q].n) := by
            unfold prW; rw [if_neg (by omega), if_neg (by omega), if_pos h7]
          rw [e1]
          rw [e0'] at hpart h20 ⊢
          have hkn : kids ts[a].1 ts[a].2 = vs[q].n := by
            have h := hfit'.2
            have := hok
            simp only [tyOk, decide_eq_true_eq] at this
            unfold fitsN at h
            rw [if_neg (by omega), if_neg (by omega), if_neg (by omega), if_pos (by omega)] at h
            have := of_decide_eq_true h
            unfold kids
            rw [if_neg (by omega), if_pos (by omega)]
            omega
          have hn1 : 1 ≤ vs[q].n := by
            have := hok
            simp only [tyOk, decide_eq_true_eq] at this
            have h := hfit'.2
            unfold fitsN at h
            rw [if_neg (by omega), if_neg (by omega), if_neg (by omega), if_pos (by omega)] at h
            have := of_decide_eq_true h
            omega
          obtain ⟨gt, rfl, hkk⟩ := hkd.resolve_left (by omega)
          rw [hkn] at c5 hk1 hkk
          obtain ⟨cs, hcs⟩ : ∃ cs : Nat → Nat, ∀ j, j < vs[q].n → ∃ p, iter (en ts F) (a + 1) j = some p ∧ w.cell? ⟨gt, j, none⟩ = some (.pointer (some ⟨cs j, 0, none⟩)) ∧ TreeAt ts F w S (cs j) p :=
            ⟨fun j => if h : j < vs[q].n then (hkk j h).choose else 0, fun j hj => by simp only [dif_pos hj]; exact (hkk j hj).choose_spec⟩
          have hgt : gt < w.heap.size := by obtain ⟨p, _, hc, _⟩ := hcs 0 (by omega); exact blk_of_cell hc
          refine pwMsg u vs[q].n cap ad _ w (by rw [c0, h7]) hul (fun w' hb => ?_)
          refine writeMessage_any u vs[q].n cap gt vs[q].n capk ad cs ys _ w' h20 h1 h2 (Nat.le_refl _) hk1 hk2 (by rw [hb.cell (p := ⟨u, 5, none⟩) hul]; exact c5) (by have := hb.size; omega) (by have := hb.size; omega) (fun j hj => ?_) (hcell w' hb) (fun j hj => ?_) (fun j hj w'' hb' => ?_)
          · obtain ⟨p, _, hc, _⟩ := hcs j hj
            rw [hb.cell (p := ⟨gt, j, none⟩) hgt]; exact hc
          · obtain ⟨y, y', hy, _, hlen⟩ := hpart j hj
            rw [hy]
            simpa only [Option.getD_some] using hlen (some j)
          · obtain ⟨y, z, z', hyy, hz, hz', hva⟩ := hval j hj
            obtain ⟨p, hp, _, htr⟩ := hcs j hj
            have hpl : pl ts F a ts[a].1 vs[q].n j = p := by unfold pl; rw [if_pos h7, hp]; rfl
            have hb2 := hb.trans (hb'.mono hb.size)
            rw [hz, hyy, Option.getD_some]
            rw [hpl] at hz' hva ⊢
            cases F with
            | zero => cases hz'
            | succ F =>
              exact writeField_of ts vs hvs hl F (ih (F + 1) (Nat.le_refl _)) (ih F (by omega)) j p z z' (cs j) S y w'' (by omega) hz' (TreeAt.bel htr hS hb2) (hva.bel hS hb2) (fun c hc => by have := hS c hc; have := hb2.size; omega)
        · have e1 : prW ts vs F (prX ts vs F) a q ts[a].1 vs[q] = catE (fun j => prX ts vs F none (pl ts F a ts[a].1 vs[q].n j) ((vit (ve ts vs F) (pl ts F a ts[a].1 vs[q].n) (q + 1) j).getD 0)) (np ts[a].1 vs[q].n) := by
            unfold prW; rw [if_neg (by omega), if_neg (by omega), if_neg h7, if_pos (by omega)]
          rw [e1]
          rw [e0'] at hpart h20 ⊢
          refine pwAll u vs[q].n cap ts[a].1 ad _ w h7 c0 hul (fun w' hb => ?_)
          refine writeAll_pr vs[q].n cap ad ys _ w' h20 h1 h2 (hcell w' hb) (fun j hj => ?_) (fun j hj w'' hb' => ?_)
          · obtain ⟨y, y', hy, _, hlen⟩ := hpart j hj
            have := hlen none
            rw [hy]
            simp only [Option.getD_some]
            omega
          · obtain ⟨y, z, z', hyy, hz, hz', hva⟩ := hval j hj
            have hb2 := hb.trans (hb'.mono hb.size)
            rw [hz, hyy, Option.getD_some]
            exact ih F (Nat.le_refl _) _ _ _ S y w'' hz' (hva.bel hS hb2) (fun c hc => by have := hS c hc; have := hb2.size; omega)
      · have e1 : prW ts vs F (prX ts vs F) a q ts[a].1 vs[q] = [] := by unfold prW; rw [if_neg (by omega), if_neg (by omega), if_neg (by omega), if_neg (by omega)]
        rw [e1]
        refine pwCho u vs[q].n y w ?_
        rcases h3 with ⟨_, rfl⟩ | ⟨_, hva⟩
        · exact .inl rfl
        · exact .inr hva.iface
end Go.Proofs.YtocealohiflheaaDoor
