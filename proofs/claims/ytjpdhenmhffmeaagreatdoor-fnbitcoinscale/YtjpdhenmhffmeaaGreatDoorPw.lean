/- A value of a type, moved to another place of another schema: plain facts. No function of the program is named here. -/
import Derived.Test.YtjpdhenmhffmeaaGreatDoorS7a
import Derived.Test.YtjpdhenmhffmeaaGreatDoorPu
namespace Go.Proofs.YtjpdhenmhffmeaaGreatDoor
set_option linter.unusedVariables false
theorem iter_mv {ts ts' : List (Int × Int)} {s f a : Nat} : ∀ {i p : Nat}, iter (en ts f) a i = some p → (∀ x, a ≤ x → x < p → ts'[x + s]? = ts[x]?) → iter (en ts' f) (a + s) i = some (p + s) := by
  intro i
  induction i with
  | zero => intro p h _; cases h; rfl
  | succ i ih =>
    intro p h hts
    obtain ⟨p0, h0⟩ := iter_part h (Nat.le_succ i)
    rw [iter_succ, h0] at h
    have h1 : en ts f p0 = some p := h
    have hl := (en_lt h1).1
    have ha : a ≤ p0 := iter_up (fun a e h => (en_lt h).1) h0 (Nat.zero_le i) (iter_zero _ _)
    rw [iter_succ, ih h0 (fun x hx hx' => hts x hx (by omega))]
    have := (en_move (ts := ts) (ts' := ts') (s := 0) (s' := s) (f := f) (a := p0) (e := p) (by simpa using h1) (fun x hx hx' => by rw [Nat.add_zero]; exact hts x (by omega) hx')).1
    exact this
/-- A part's place, where it ends, and the same place elsewhere. -/
theorem pl_mv {ts ts' : List (Int × Int)} {s f F a e m j : Nat} (hF : f ≤ F) (ha : a < ts.length) (hok : tyOk ts[a].1 ts[a].2 = true) (hit : iter (en ts f) (a + 1) (kids ts[a].1 ts[a].2) = some e) (hf : fitsN ts[a].1 ts[a].2 m = true) (hj : j < np ts[a].1 m) (hts : ∀ x, a ≤ x → x < e → ts'[x + s]? = ts[x]?) :
    ∃ p e', pl ts F a ts[a].1 m j = p ∧ pl ts' f (a + s) ts[a].1 m j = p + s ∧ en ts f p = some e' ∧ a < p ∧ e' ≤ e := by
  have hok' := hok
  simp only [tyOk, decide_eq_true_eq] at hok'
  unfold fitsN at hf
  unfold np at hj
  have up : ∀ i, i < kids ts[a].1 ts[a].2 → ∃ p e', iter (en ts f) (a + 1) i = some p ∧ iter (en ts F) (a + 1) i = some p ∧ iter (en ts' f) (a + s + 1) i = some (p + s) ∧ en ts f p = some e' ∧ a < p ∧ e' ≤ e := by
    intro i hi
    obtain ⟨p, hp⟩ := iter_part hit (show i ≤ kids ts[a].1 ts[a].2 by omega)
    obtain ⟨e', he'⟩ := iter_part hit (show i + 1 ≤ kids ts[a].1 ts[a].2 by omega)
    have hle : e' ≤ e := iter_up (fun a e h => (en_lt h).1) hit (show i + 1 ≤ kids ts[a].1 ts[a].2 by omega) he'
    rw [iter_succ, hp] at he'
    have hpe : en ts f p = some e' := he'
    have hap : a + 1 ≤ p := iter_up (fun a e h => (en_lt h).1) hp (Nat.zero_le i) (iter_zero _ _)
    have hpl := (en_lt hpe).1
    refine ⟨p, e', hp, iter_mono (fun a e h => en_mono hF h) hp, ?_, hpe, hap, hle⟩
    have := iter_mv (s := s) (ts' := ts') hp (fun x hx hx' => hts x (by omega) (by omega))
    rw [show a + s + 1 = a + 1 + s by omega]
    exact this
  by_cases h7 : ts[a].1 = 7
  · have hk : kids ts[a].1 ts[a].2 = m := by
      unfold kids
      rw [if_neg (by omega), if_pos (by omega)]
      rw [if_neg (by omega), if_neg (by omega), if_neg (by omega), if_pos (by omega)] at hf
      have := of_decide_eq_true hf
      omega
    rw [if_pos (by omega)] at hj
    obtain ⟨p, e', h1, h2, h3, h4, h5, h6⟩ := up j (by omega)
    exact ⟨p, e', by unfold pl; rw [if_pos h7, h2]; rfl, by unfold pl; rw [if_pos h7, h3]; rfl, h4, h5, h6⟩
  · by_cases h9 : ts[a].1 = 9
    · have hm : m < kids ts[a].1 ts[a].2 := by
        unfold kids
        rw [if_neg (by omega), if_pos (by omega)]
        rw [if_neg (by omega), if_neg (by omega), if_neg (by omega), if_neg (by omega), if_pos (by omega)] at hf
        have := of_decide_eq_true hf
        omega
      obtain ⟨p, e', h1, h2, h3, h4, h5, h6⟩ := up m hm
      exact ⟨p, e', by unfold pl; rw [if_neg h7, if_pos h9, h2]; rfl, by unfold pl; rw [if_neg h7, if_pos h9, h3]; rfl, h4, h5, h6⟩
    · have hk : kids ts[a].1 ts[a].2 = 1 := by
        unfold kids
        by_cases h568 : ts[a].1 = 5 ∨ ts[a].1 = 6 ∨ ts[a].1 = 8
        · rw [if_pos h568]
        · rw [if_neg (by omega), if_neg (by omega)] at hj
          omega
      rw [hk] at hit
      exact ⟨a + 1, e, by unfold pl; rw [if_neg h7, if_neg h9], by unfold pl; rw [if_neg h7, if_neg h9]; omega, hit, by omega, Nat.le_refl _⟩
/-- The value of a type, and its bytes, are the same elsewhere. -/
theorem val_mv {cnt : Nat → List UInt8} {ts ts' : List (Int × Int)} {vs vs' : List It} {s r : Nat} : ∀ {f F a e q q' : Nat}, f ≤ F → en ts f a = some e → (∀ x, a ≤ x → x < e → ts'[x + s]? = ts[x]?) → ve ts vs F a q = some q' → (∀ x, q ≤ x → x < q' → vs'[x + r]? = vs[x]?) →
    ve ts' vs' f (a + s) (q + r) = some (q' + r) ∧ scE cnt ts' vs' f (a + s) (q + r) = scE cnt ts vs F a q := by
  intro f
  induction f with
  | zero => intro F a e q q' _ h; cases h
  | succ f ih =>
    intro F a e q q' hF hen hts hve hvs
    obtain ⟨F, rfl⟩ : ∃ F', F = F' + 1 := ⟨F - 1, by omega⟩
    obtain ⟨ha, hok, hit⟩ := en_inv hen
    obtain ⟨_, hq, hfi, hv⟩ := ve_inv hve
    have hae := (en_lt hen).1
    have hqq := (ve_lt hve).1
    have e1 := hts a (Nat.le_refl _) hae
    have e2 := hvs q (Nat.le_refl _) hqq
    rw [List.getElem?_eq_getElem ha] at e1
    rw [List.getElem?_eq_getElem hq] at e2
    obtain ⟨ha', e1'⟩ := List.getElem?_eq_some_iff.1 e1
    obtain ⟨hq', e2'⟩ := List.getElem?_eq_some_iff.1 e2
    have hfn : fitsN ts[a].1 ts[a].2 vs[q].n = true := by simp [fitsI] at hfi; exact hfi.2.1
    have key : ∀ j y, j ≤ np ts[a].1 vs[q].n → vit (ve ts vs F) (pl ts F a ts[a].1 vs[q].n) (q + 1) j = some y → vit (ve ts' vs' f) (pl ts' f (a + s) ts[a].1 vs[q].n) (q + r + 1) j = some (y + r) ∧
        cat (scE cnt ts' vs' f) (ve ts' vs' f) (pl ts' f (a + s) ts[a].1 vs[q].n) (q + r + 1) j = cat (scE cnt ts vs F) (ve ts vs F) (pl ts F a ts[a].1 vs[q].n) (q + 1) j := by
      intro j
      induction j with
      | zero =>
        intro y _ hy
        cases hy
        exact ⟨by rw [vit_zero]; congr 1; omega, rfl⟩
      | succ j ihj =>
        intro y hj hy
        obtain ⟨y0, hy0⟩ := vit_part hy (Nat.le_succ j)
        obtain ⟨k1, k2⟩ := ihj y0 (by omega) hy0
        obtain ⟨p, e', p1, p2, p3, p4, p5⟩ := pl_mv (ts' := ts') (s := s) (show f ≤ F by omega) ha hok hit hfn (show j < np ts[a].1 vs[q].n by omega) hts
        have hyq : y ≤ q' := by
          have hm : ∀ i z, j + 1 ≤ i → vit (ve ts vs F) (pl ts F a ts[a].1 vs[q].n) (q + 1) i = some z → y ≤ z := by
            intro i
            induction i with
            | zero => intro z hi; omega
            | succ i ihi =>
              intro z hi hz
              by_cases hji : j = i
              · subst hji; rw [hy] at hz; cases hz; exact Nat.le_refl _
              · obtain ⟨z0, hz0⟩ := vit_part hz (Nat.le_succ i)
                have h1 := ihi z0 (by omega) hz0
                rw [vit_succ, hz0] at hz
                have := (ve_lt (show ve ts vs F _ z0 = some z from hz)).1
                omega
          exact hm _ _ hj hv
        have hq0 : q + 1 ≤ y0 := (vit_lt (by omega) hy0).1
        rw [vit_succ, hy0] at hy
        have hpv : ve ts vs F p y0 = some y := by rw [← p1]; exact hy
        obtain ⟨m1, m2⟩ := ih (show f ≤ F by omega) p3 (fun x hx hx' => hts x (by omega) (by omega)) hpv (fun x hx hx' => hvs x (by omega) (by omega))
        refine ⟨?_, ?_⟩
        · rw [vit_succ, k1]
          show ve ts' vs' f (pl ts' f (a + s) ts[a].1 vs[q].n j) (y0 + r) = _
          rw [p2]; exact m1
        · rw [cat_succ k1, cat_succ hy0, k2, p1, p2, m2]
    obtain ⟨k1, k2⟩ := key _ _ (Nat.le_refl _) hv
    refine ⟨?_, ?_⟩
    · rw [ve_ok ha' hq' (by rw [e1', e2']; exact hfi), e1', e2']
      exact k1
    · rw [scE_ok ha' hq', scE_ok ha hq, e1', e2', k2]
theorem typed_inv {ts : List (Int × Int)} {vs : List It} (h : typedB ts vs = true) : schOk ts = true ∧ vs.length ≤ 200 ∧ ve ts vs 7 0 0 = some vs.length := by
  unfold typedB at h
  simp only [Bool.and_eq_true, decide_eq_true_eq, beq_iff_eq] at h
  exact ⟨h.1, h.2.1, h.2.2⟩
theorem typed_mk {ts : List (Int × Int)} {vs : List It} (h1 : schOk ts = true) (h2 : vs.length ≤ 200) (h3 : ve ts vs 7 0 0 = some vs.length) : typedB ts vs = true := by
  unfold typedB; rw [h1, h3]; simp [h2]
theorem app_at {α : Type} {p l r : List α} {i : Nat} (h : i < l.length) : (p ++ (l ++ r))[i + p.length]? = l[i]? := by
  rw [List.getElem?_append_right (by omega), Nat.add_sub_cancel, List.getElem?_append_left h]
/-- A struct of a schema twice that is a schema: it lies no deeper than five. -/
theorem twice_en {k n : Int} {ts : List (Int × Int)} {e : Nat} (hs : schOk ts = true) (h : en ((7, 2) :: (ts ++ ts)) 7 0 = some e) : en ts 6 0 = some ts.length := by
  have h7 := (schOk_iff.1 hs).2
  obtain ⟨h0, hok, hit⟩ := en_inv h
  obtain ⟨e1, he1⟩ := iter_part hit (show 1 ≤ kids (((7, 2) :: (ts ++ ts)) : List (Int × Int))[0].1 (((7, 2) :: (ts ++ ts)) : List (Int × Int))[0].2 by simp [kids])
  have h1 : en ((7, 2) :: (ts ++ ts)) 6 1 = some e1 := he1
  have hm := (en_move (ts := ts) (ts' := (7, 2) :: (ts ++ ts)) (s := 0) (s' := 1) (f := 7) (a := 0) (e := ts.length) (by simpa using h7) (fun x _ hx => app_at (p := [(7, 2)]) (l := ts) (r := ts) hx)).1
  have hee : e1 = ts.length + 1 := by
    have := en_mono (show 6 ≤ 7 by omega) h1
    rw [show (0 : Nat) + 1 = 1 by rfl] at hm
    rw [hm] at this
    cases this
    rfl
  subst hee
  have := (en_move (ts := (7, 2) :: (ts ++ ts)) (ts' := ts) (s := 1) (s' := 0) (f := 6) (a := 0) (e := ts.length) (by simpa using h1) (fun x _ hx => by rw [Nat.add_zero]; exact (app_at (p := [(7, 2)]) (l := ts) (r := ts) hx).symm)).1
  simpa using this
end Go.Proofs.YtjpdhenmhffmeaaGreatDoor
