/- Messages, as the program writes them: every value: contract. -/
import Derived.Test.YtocealohiflheaaDoorWPe
import Derived.Test.YtocealohiflheaaDoorS7d
namespace Go.Proofs.YtocealohiflheaaDoor
open Go.RowKit Go.Sort
set_option linter.unusedVariables false
/-- The contract of the writing, f levels being left. -/
def WvHyp (ts : List (Int × Int)) (vs : List It) (f : Nat) : Prop :=
  ∀ (a q q' : Nat) (S : Nat → Prop) (x : Value) (w : World), ve ts vs f a q = some q' → VAt ts vs f w S x a q → (∀ c, S c → c < w.heap.size) →
    Calls Tryd.prog 101 #[.agg #[], x] w fun e w' => e = .returned (.string ⟨(prX ts vs f none a q).toArray⟩) ∧ Below w.heap.size w w'
/-- The parts of a series or a choice: they are a slice; each writes its bytes. -/
theorem parts_each (ts : List (Int × Int)) (vs : List It) (hl : vs.length ≤ 200) (f : Nat) (h0 : WvHyp ts vs f) (i a q q' c' : Nat) (k' : Int) (S : Nat → Prop) (x : Value) (w : World) (hi : i ≤ 20) (hv : ve ts vs (f + 1) a q = some q') (hx : VAt ts vs (f + 1) w S x a q) (hS : ∀ c, S c → c < w.heap.size) (ha : a < ts.length) (hq : q < vs.length)
    (hk : ts[a].1 = 5 ∨ ts[a].1 = 6 ∨ ts[a].1 = 8 ∨ ts[a].1 = 9) (ck : w.cell? ⟨c', 0, none⟩ = some (.int .i64 k')) (hc' : c' < w.heap.size) :
    ∀ w', Below w.heap.size w w' → Calls Tryd.prog 110 #[x] w' fun e w'' => (∃ ad n cp, e = .returned (.slice ad n cp) ∧ ∀ w3, Below w''.heap.size w'' w3 → Calls Tryd.prog 109 #[.agg #[], .int .i64 i, .pointer (some ⟨c', 0, none⟩), .slice ad n cp] w3 fun e w4 =>
      e = .returned (.string ⟨(catE (fun j => prP i k' (prX ts vs f none (pl ts f a ts[a].1 vs[q].n j) ((vit (ve ts vs f) (pl ts f a ts[a].1 vs[q].n) (q + 1) j).getD 0))) (np ts[a].1 vs[q].n)).toArray⟩) ∧ Below w3.heap.size w3 w4) ∧ Below w'.heap.size w' w'' := by
  intro w' hb
  obtain ⟨u, _, _, ht, hfit, hx⟩ := hx
  obtain ⟨_, e0, ad0, cap0, hok, hit, hu, c0, c1, _⟩ := ht.openT
  have hfit' : vs[q].k = ts[a].1 ∧ fitsN ts[a].1 ts[a].2 vs[q].n = true := by simp [fitsI] at hfit; exact ⟨hfit.1, hfit.2.1⟩
  rw [ve_ok ha hq hfit] at hv
  have h20 := np_le hok hfit'.2
  have hpart : ∀ j, j < np ts[a].1 vs[q].n → ∃ y y', vit (ve ts vs f) (pl ts f a ts[a].1 vs[q].n) (q + 1) j = some y ∧ ve ts vs f (pl ts f a ts[a].1 vs[q].n j) y = some y' ∧ (prX ts vs f none (pl ts f a ts[a].1 vs[q].n j) y).length ≤ 60000 := fun j hj => by
    obtain ⟨y, hy⟩ := vit_part hv (show j ≤ np ts[a].1 vs[q].n by omega)
    obtain ⟨y', hy'⟩ := vit_part hv (show j + 1 ≤ np ts[a].1 vs[q].n by omega)
    rw [vit_succ, hy] at hy'
    obtain ⟨e', he'⟩ := pl_ok ha hok hit hfit'.2 hj
    exact ⟨y, y', hy, hy', prX_le hl none he' hy'⟩
  rcases hx with ⟨hk', rfl⟩ | ⟨hk', rfl⟩ | ⟨hk', ad, cap, rfl, h1, h2, h3⟩ | ⟨hk', y, rfl, h3⟩
  · omega
  · omega
  · have e0 : np ts[a].1 vs[q].n = vs[q].n := by unfold np; rw [if_pos (by omega)]
    refine (parts_ser u vs[q].n cap ad w').mono ?_
    rintro e w1 ⟨rfl, hb1⟩
    refine ⟨⟨ad, vs[q].n, cap, rfl, fun w3 hb3 => ?_⟩, hb1⟩
    have hb13 : Below w.heap.size w w3 := hb.trans ((hb1.mono hb.size).trans (hb3.mono (by have := hb.size; have := hb1.size; omega)))
    rw [e0] at h20 hpart ⊢
    obtain ⟨ys, hys⟩ : ∃ ys : Nat → Value, ys = fun j => (w.cell? ⟨(ad.map (·.block)).getD 0, j, none⟩).getD .nilIface := ⟨_, rfl⟩
    refine writeEach_any i c' vs[q].n cap k' ad ys _ w3 hi h20 h1 h2 (by rw [hb13.cell (p := ⟨c', 0, none⟩) hc']; exact ck) (by have := hb13.size; omega) ?_ ?_ ?_
    · rcases h3 with h3 | ⟨g, rfl, hg, hp⟩
      · exact .inl h3
      · refine .inr ⟨g, rfl, by have := hS g hg; have := hb13.size; omega, fun j hj => ?_⟩
        obtain ⟨y, q1, _, hc, _⟩ := hp j hj
        rw [hb13.cell (p := ⟨g, j, none⟩) (hS g hg), hys, hc]; simp [hc]
    · intro j hj
      obtain ⟨y, y', hy, _, hlen⟩ := hpart j hj
      rw [hy]
      simpa only [Option.getD_some] using hlen
    · intro j hj w4 hb4
      obtain ⟨g, rfl, hg, hp⟩ := h3.resolve_left (by omega)
      obtain ⟨y, q1, hq1, hc, hva⟩ := hp j hj
      obtain ⟨z, z', hz, hz', _⟩ := hpart j hj
      have ez : z = q1 := by rw [hq1] at hz; injection hz with hz; exact hz.symm
      subst ez
      have ey : ys j = y := by rw [hys]; simp [hc]
      rw [ey]
      dsimp only
      rw [hz]
      have hb4' := hb13.trans (hb4.mono hb13.size)
      exact h0 _ _ _ S y w4 hz' (hva.bel hS hb4') (fun c hc => by have := hS c hc; have := hb4'.size; omega)
  · rcases h3 with ⟨h3, rfl⟩ | ⟨h3, hva⟩
    · refine (parts_nil u vs[q].n w').mono ?_
      rintro e w1 ⟨rfl, hb1⟩
      refine ⟨⟨none, 0, 0, rfl, fun w3 hb3 => ?_⟩, hb1⟩
      have hb13 : Below w.heap.size w w3 := hb.trans ((hb1.mono hb.size).trans (hb3.mono (by have := hb.size; have := hb1.size; omega)))
      rw [h3]
      exact writeEach_any i c' 0 0 k' none (fun _ => .nilIface) _ w3 hi (by omega) (Nat.le_refl _) (by simp [maxLen]) (by rw [hb13.cell (p := ⟨c', 0, none⟩) hc']; exact ck) (by have := hb13.size; omega) (.inl rfl) (fun j hj => by omega) (fun j hj => by omega)
    · have e0 : np ts[a].1 vs[q].n = 1 := by
        have h8 := hfit'.2
        unfold fitsN at h8
        unfold np at h3 ⊢
        rcases hk' with hk' | hk'
        · rw [if_pos (by omega)] at h3 ⊢
          rw [if_neg (by omega), if_pos (by omega)] at h8
          have := of_decide_eq_true h8
          omega
        · rw [if_neg (by omega), if_pos hk']
      obtain ⟨z, z', hz, hz', hlen⟩ := hpart 0 (by omega)
      obtain ⟨T, zz, rfl⟩ := hva.iface
      refine (parts_one u vs[q].n T zz w').mono ?_
      rintro e w1 ⟨⟨g, rfl, hg0, hg1, hc⟩, hb1⟩
      refine ⟨⟨some ⟨g, 0, none⟩, 1, 1, rfl, fun w3 hb3 => ?_⟩, hb1⟩
      have hb13 : Below w.heap.size w w3 := hb.trans ((hb1.mono hb.size).trans (hb3.mono (by have := hb.size; have := hb1.size; omega)))
      rw [e0]
      refine writeEach_any i c' 1 1 k' (some ⟨g, 0, none⟩) (fun _ => .iface T zz) _ w3 hi (by omega) (Nat.le_refl _) (by simp [maxLen]) (by rw [hb13.cell (p := ⟨c', 0, none⟩) hc']; exact ck) (by have := hb13.size; omega) (.inr ⟨g, rfl, by have := hb3.size; omega, fun j hj => ?_⟩) (fun j hj => ?_) (fun j hj w4 hb4 => ?_)
      · have ej : j = 0 := by omega
        subst ej
        rw [hb3.cell (p := ⟨g, 0, none⟩) hg1]; exact hc
      · have ej : j = 0 := by omega
        subst ej
        rw [hz]; simpa only [Option.getD_some] using hlen
      · have ej : j = 0 := by omega
        subst ej
        have hb4' := hb13.trans (hb4.mono hb13.size)
        dsimp only
        rw [hz]
        cases hz
        exact h0 _ _ _ S _ w4 hz' (hva.bel hS hb4') (fun c hc => by have := hS c hc; have := hb4'.size; omega)
theorem writeField_of (ts : List (Int × Int)) (vs : List It) (hvs : ∀ x ∈ vs, x.n < 18446744073709551616 ∧ x.s.size ≤ 1048577) (hl : vs.length ≤ 200) (f : Nat) (h1 : WvHyp ts vs (f + 1)) (h0 : WvHyp ts vs f) (i a q q' c : Nat) (S : Nat → Prop) (x : Value) (w : World) (hi : i ≤ 20) (hv : ve ts vs (f + 1) a q = some q') (ht : TreeAt ts (f + 1) w S c a) (hx : VAt ts vs (f + 1) w S x a q) (hS : ∀ c, S c → c < w.heap.size) :
    Calls Tryd.prog 105 #[.agg #[], .int .i64 i, .pointer (some ⟨c, 0, none⟩), x] w fun e w' => e = .returned (.string ⟨(prX ts vs (f + 1) (some i) a q).toArray⟩) ∧ Below w.heap.size w w' := by
  obtain ⟨ha, e0, adk, capk, hok, hit, hu, c0, c1, c5, hk1, hk2, hkd⟩ := ht.openT
  have hcl := hS c hu
  have hq : q < vs.length := by obtain ⟨_, _, hq, _⟩ := hx; exact hq
  have hfit : fitsI ts[a].1 ts[a].2 vs[q] = true := by obtain ⟨_, _, _, _, hf, _⟩ := hx; exact hf
  have hen : en ts (f + 1) a = some e0 := by rw [en_ok ha hok]; exact hit
  have hle := prX_le hl none hen hv
  have hPart : ∀ w', Below w.heap.size w w' → Calls Tryd.prog 112 #[.agg #[], .int .i64 i, .pointer (some ⟨c, 0, none⟩), x] w' fun e w'' => e = .returned (.string ⟨(prP i ts[a].1 (prX ts vs (f + 1) none a q)).toArray⟩) ∧ Below w'.heap.size w' w'' := fun w' hb =>
    writePart_any i c ts[a].1 x _ w' hi (by rw [hb.cell (p := ⟨c, 0, none⟩) hcl]; exact c0) (by have := hb.size; omega) (by omega) (fun w'' hb' => by
      have hb2 := hb.trans (hb'.mono hb.size)
      exact h1 a q q' S x w'' hv (hx.bel hS hb2) (fun c hc => by have := hS c hc; have := hb2.size; omega))
  have hNo : (ts[a].1 = 5 ∨ ts[a].1 ≤ 3) → ∀ w', Below w.heap.size w w' → Calls Tryd.prog 111 #[x] w' fun e w'' => e = .returned (.bool (isNo vs[q])) ∧ Below w'.heap.size w' w'' := fun hk w' hb => by
    refine (isNothing_val ts vs hvs (f + 1) a q (fun _ => hk) S x w' (hx.bel hS hb) (fun c hc => by have := hS c hc; have := hb.size; omega)).mono ?_
    rintro e w1 ⟨b, rfl, hbb, hb1⟩
    exact ⟨by rw [hbb hq], hb1⟩
  rw [prX_some ha hq]
  have hkk : ts[a].1 = 1 ∨ ts[a].1 = 2 ∨ ts[a].1 = 3 ∨ ts[a].1 = 4 ∨ ts[a].1 = 5 ∨ ts[a].1 = 6 ∨ ts[a].1 = 7 ∨ ts[a].1 = 8 ∨ ts[a].1 = 9 := by
    have := hok
    simp only [tyOk, decide_eq_true_eq] at this
    omega
  by_cases h47 : ts[a].1 = 4 ∨ ts[a].1 = 7
  · have e1 : eachK ts[a].1 (knd ts (a + 1)) = false := by rcases h47 with h | h <;> rw [h] <;> rfl
    have e2 : (decide (ts[a].1 = 5 ∨ ts[a].1 ≤ 3) && isNo vs[q]) = false := by rcases h47 with h | h <;> rw [h] <;> rfl
    rw [e1, e2]
    exact wf_a i c ts[a].1 x _ w h47 c0 hcl hPart
  · by_cases h123 : ts[a].1 = 1 ∨ ts[a].1 = 2 ∨ ts[a].1 = 3
    · have e1 : eachK ts[a].1 (knd ts (a + 1)) = false := by rcases h123 with h | h | h <;> rw [h] <;> rfl
      have e2 : (decide (ts[a].1 = 5 ∨ ts[a].1 ≤ 3) && isNo vs[q]) = isNo vs[q] := by rw [decide_eq_true (by omega)]; rfl
      rw [e1, e2]
      exact wf_b i c ts[a].1 x (isNo vs[q]) _ w h123 c0 hcl (hNo (by omega)) hPart
    · have h4 : ts[a].1 = 5 ∨ ts[a].1 = 6 ∨ ts[a].1 = 8 ∨ ts[a].1 = 9 := by omega
      have hkp : 1 ≤ kids ts[a].1 ts[a].2 := by
        have := hok
        simp only [tyOk, decide_eq_true_eq] at this
        unfold kids
        split
        · omega
        · rw [if_pos (by omega)]; omega
      obtain ⟨g, rfl, hk⟩ := hkd.resolve_left (by omega)
      obtain ⟨c', p, hp, hcg, htc⟩ := hk 0 (by omega)
      cases hp
      have hg := blk_of_cell hcg
      cases f with
      | zero => exact htc.elim
      | succ f =>
        obtain ⟨ha', _, _, _, _, _, hu', ck, _⟩ := htc.openT
        have hc' := hS c' hu'
        have hkn := knd_ok ha'
        rw [hkn]
        have hPB := parts_each ts vs hl (f + 1) h0 i a q q' c' ts[a + 1].1 S x w hi hv hx hS ha hq h4 ck hc'
        by_cases hek : eachK ts[a].1 ts[a + 1].1 = true
        · rw [if_pos hek]
          refine wf_d i c g (kids ts[a].1 ts[a].2) capk c' ts[a].1 ts[a + 1].1 x _ w ?_ c0 hcl c5 hk1 hk2 hcg hg ck hc' hPB
          have := hok
          simp only [tyOk, decide_eq_true_eq] at this
          have k1 : (ts[a].1 = 5 ∨ ts[a].1 = 6 ∨ ts[a].1 = 8) → kids ts[a].1 ts[a].2 = 1 := fun h => by unfold kids; rw [if_pos h]
          rcases h4 with h | h | h | h
          · have hn : isNk ts[a + 1].1 = false := by
              rw [h] at hek
              cases hh : isNk ts[a + 1].1 with
              | false => rfl
              | true => rw [show eachK 5 ts[a + 1].1 = !isNk ts[a + 1].1 from rfl, hh] at hek; cases hek
            exact .inl ⟨h, hn, k1 (.inl h)⟩
          · exact .inr (.inl ⟨h, k1 (.inr (.inl h))⟩)
          · exact .inr (.inr (.inl ⟨h, k1 (.inr (.inr h))⟩))
          · refine .inr (.inr (.inr ⟨h, ?_⟩))
            unfold kids
            rw [if_neg (by omega), if_pos (by omega)]
            omega
        · have h5 : ts[a].1 = 5 := by
            rcases h4 with h | h | h | h
            · exact h
            · rw [h] at hek; exact absurd rfl hek
            · rw [h] at hek; exact absurd rfl hek
            · rw [h] at hek; exact absurd rfl hek
          have hn : isNk ts[a + 1].1 = true := by
            rw [h5] at hek
            cases hh : isNk ts[a + 1].1 with
            | true => rfl
            | false => rw [show eachK 5 ts[a + 1].1 = !isNk ts[a + 1].1 from rfl, hh] at hek; exact absurd rfl hek
          rw [if_neg hek]
          have k1 : kids ts[a].1 ts[a].2 = 1 := by unfold kids; rw [if_pos (.inl h5)]
          rw [k1] at c5 hk1
          have e2 : (decide (ts[a].1 = 5 ∨ ts[a].1 ≤ 3) && isNo vs[q]) = isNo vs[q] := by rw [decide_eq_true (by omega)]; rfl
          rw [e2]
          exact wf_c i c g capk c' ts[a + 1].1 x (isNo vs[q]) _ w hn (by rw [c0, h5]) hcl c5 hk1 hk2 hcg hg ck hc' (hNo (by omega)) hPart
end Go.Proofs.YtocealohiflheaaDoor
