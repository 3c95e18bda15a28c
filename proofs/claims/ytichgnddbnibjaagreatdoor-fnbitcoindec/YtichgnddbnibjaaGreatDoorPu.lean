/- Schemas as plain lists of pairs: parts of a schema, a schema in an option. No function of the program is named here. -/
import Derived.Test.YtichgnddbnibjaaGreatDoorPt
namespace Go.Proofs.YtichgnddbnibjaaGreatDoor
set_option linter.unusedVariables false
theorem en_move {ts ts' : List (Int × Int)} {s s' : Nat} : ∀ {f a e : Nat}, en ts f (a + s) = some (e + s) → (∀ i, a ≤ i → i < e → ts'[i + s']? = ts[i + s]?) → en ts' f (a + s') = some (e + s') ∧ dp ts' f (a + s') = dp ts f (a + s) := by
  intro f
  induction f with
  | zero => intro a e h; cases h
  | succ f ih =>
    intro a e h hag
    have hlt := en_lt h
    obtain ⟨ha, ht, hi⟩ := en_inv h
    have h0 := hag a (Nat.le_refl _) (by omega)
    rw [List.getElem?_eq_getElem ha] at h0
    obtain ⟨ha', e0⟩ := List.getElem?_eq_some_iff.1 h0
    have key : ∀ j, j ≤ kids ts[a + s].1 ts[a + s].2 → ∃ x, iter (en ts f) (a + s + 1) j = some (x + s) ∧ iter (en ts' f) (a + s' + 1) j = some (x + s') ∧ mxTo (en ts' f) (dp ts' f) (a + s' + 1) (6 - f) j = mxTo (en ts f) (dp ts f) (a + s + 1) (6 - f) j ∧ a + 1 ≤ x ∧ x ≤ e := by
      intro j
      induction j with
      | zero => intro _; exact ⟨a + 1, by rw [iter_zero]; congr 1; omega, by rw [iter_zero]; congr 1; omega, rfl, Nat.le_refl _, by omega⟩
      | succ j ihj =>
        intro hj
        obtain ⟨x, q1, q2, q3, q4, q5⟩ := ihj (by omega)
        obtain ⟨b, hb⟩ := iter_part hi hj
        have hbe := iter_up (fun a e h => (en_lt h).1) hi hj hb
        have hb' := hb
        rw [iter_succ, q1] at hb'
        have hx : en ts f (x + s) = some b := hb'
        have hxb := (en_lt hx).1
        obtain ⟨y, rfl⟩ : ∃ y, b = y + s := ⟨b - s, by omega⟩
        obtain ⟨r1, r2⟩ := ih hx (fun i hi1 hi2 => hag i (by omega) (by omega))
        refine ⟨y, hb, by rw [iter_succ, q2]; exact r1, ?_, by omega, by omega⟩
        rw [mxTo_succ _ _ _ _ _ q2, mxTo_succ _ _ _ _ _ q1, q3, r2]
    obtain ⟨x, q1, q2, q3, _, _⟩ := key _ (Nat.le_refl _)
    rw [hi] at q1
    have hxe : x = e := by injection q1 with q1; omega
    subst hxe
    constructor
    · rw [en_ok ha' (by rw [e0]; exact ht), e0]; exact q2
    · rw [dp_at ha', dp_at ha, e0]; exact q3
/-- One level less: what is not too deep is there, one deeper. -/
theorem en_less {ts : List (Int × Int)} : ∀ {f a e : Nat}, f ≤ 6 → en ts (f + 1) a = some e → (dp ts (f + 1) a < 6 → en ts f a = some e ∧ dp ts f a = dp ts (f + 1) a + 1) ∧ (6 ≤ dp ts (f + 1) a → en ts f a = none) := by
  intro f
  induction f with
  | zero =>
    intro a e _ h
    obtain ⟨ha, ht, hi⟩ := en_inv h
    refine ⟨fun hd => ?_, fun _ => rfl⟩
    rw [dp_at ha] at hd
    have hm : ∀ j, 6 ≤ mxTo (en ts 0) (dp ts 0) (a + 1) (6 - 0) j := by
      intro j
      induction j with
      | zero => simp [mxTo]
      | succ j ihj => simp only [mxTo]; omega
    have := hm (kids ts[a].1 ts[a].2)
    omega
  | succ f ih =>
    intro a e hf h
    obtain ⟨ha, ht, hi⟩ := en_inv h
    have key : ∀ j, j ≤ kids ts[a].1 ts[a].2 → (mxTo (en ts (f + 1)) (dp ts (f + 1)) (a + 1) (6 - (f + 1)) j < 6 → iter (en ts f) (a + 1) j = iter (en ts (f + 1)) (a + 1) j ∧ mxTo (en ts f) (dp ts f) (a + 1) (6 - f) j = mxTo (en ts (f + 1)) (dp ts (f + 1)) (a + 1) (6 - (f + 1)) j + 1) ∧ (6 ≤ mxTo (en ts (f + 1)) (dp ts (f + 1)) (a + 1) (6 - (f + 1)) j → iter (en ts f) (a + 1) j = none) := by
      intro j
      induction j with
      | zero => intro _; simp only [mxTo, iter_zero]; exact ⟨fun _ => ⟨trivial, by omega⟩, fun h => by omega⟩
      | succ j ihj =>
        intro hj
        obtain ⟨x, hx⟩ := iter_part hi (show j ≤ kids ts[a].1 ts[a].2 by omega)
        obtain ⟨y, hy⟩ := iter_part hi hj
        have hxy : en ts (f + 1) x = some y := by rw [iter_succ, hx] at hy; exact hy
        obtain ⟨i1, i2⟩ := ih (by omega) hxy
        obtain ⟨k1, k2⟩ := ihj (by omega)
        rw [mxTo_succ _ _ _ _ _ hx]
        constructor
        · intro hm
          obtain ⟨k3, k4⟩ := k1 (by omega)
          obtain ⟨i3, i4⟩ := i1 (by omega)
          rw [hx] at k3
          refine ⟨?_, ?_⟩
          · rw [iter_succ, iter_succ, k3, hx]; show en ts f x = en ts (f + 1) x; rw [i3, hxy]
          · rw [mxTo_succ _ _ _ _ _ k3, k4, i4]; omega
        · intro hm
          by_cases hc : mxTo (en ts (f + 1)) (dp ts (f + 1)) (a + 1) (6 - (f + 1)) j < 6
          · obtain ⟨k3, k4⟩ := k1 hc
            rw [hx] at k3
            rw [iter_succ, k3]
            exact i2 (by omega)
          · rw [iter_succ, k2 (by omega)]; rfl
    obtain ⟨k1, k2⟩ := key _ (Nat.le_refl _)
    rw [dp_at ha]
    constructor
    · intro hm
      obtain ⟨k3, k4⟩ := k1 hm
      exact ⟨by rw [en_ok ha ht, k3]; exact hi, by rw [dp_at ha]; exact k4⟩
    · intro hm
      rw [en_ok ha ht]; exact k2 hm
/-- More levels: less deep. -/
theorem dp_mono {ts : List (Int × Int)} {a e : Nat} : ∀ {m f : Nat}, f + m ≤ 7 → en ts f a = some e → dp ts (f + m) a ≤ dp ts f a := by
  intro m
  induction m with
  | zero => intro f _ _; exact Nat.le_refl _
  | succ m ih =>
    intro f hf h
    have h1 := ih (by omega) h
    have h2 := en_mono (show f ≤ f + m by omega) h
    have h3 := en_mono (show f ≤ f + m + 1 by omega) h
    obtain ⟨i1, i2⟩ := en_less (show f + m ≤ 6 by omega) h3
    by_cases hc : dp ts (f + m + 1) a < 6
    · have := (i1 hc).2
      show dp ts (f + m + 1) a ≤ _
      omega
    · rw [i2 (by omega)] at h2; cases h2
theorem mxTo_ge {g : Nat → Option Nat} {h : Nat → Nat} {a d : Nat} : ∀ {j i x : Nat}, i < j → iter g a i = some x → h x ≤ mxTo g h a d j := by
  intro j
  induction j with
  | zero => intro i x hi; omega
  | succ j ih =>
    intro i x hi hx
    by_cases e : i = j
    · subst e; rw [mxTo_succ _ _ _ _ _ hx]; omega
    · have := ih (show i < j by omega) hx
      simp only [mxTo]; omega
/-- A place of a type is that of one of its types, no deeper than its deepest. -/
theorem en_find {ts : List (Int × Int)} : ∀ {f a e p : Nat}, en ts f a = some e → a ≤ p → p < e → ∃ f' e', f' ≤ f ∧ en ts f' p = some e' ∧ dp ts f' p ≤ dp ts f a := by
  intro f
  induction f with
  | zero => intro a e p h; cases h
  | succ f ih =>
    intro a e p h hp1 hp2
    by_cases hpa : a = p
    · subst hpa; exact ⟨f + 1, e, Nat.le_refl _, h, Nat.le_refl _⟩
    · obtain ⟨ha, ht, hi⟩ := en_inv h
      have key : ∀ j, j ≤ kids ts[a].1 ts[a].2 → ∀ x, iter (en ts f) (a + 1) j = some x → p < x → ∃ i y z, i < j ∧ iter (en ts f) (a + 1) i = some y ∧ en ts f y = some z ∧ y ≤ p ∧ p < z := by
        intro j
        induction j with
        | zero => intro _ x hx hpx; cases hx; omega
        | succ j ihj =>
          intro hj x hx hpx
          rw [iter_succ] at hx
          obtain ⟨y, hy, hz⟩ := Option.bind_eq_some_iff.1 hx
          by_cases hpy : p < y
          · obtain ⟨i, y', z', q1, q2, q3, q4, q5⟩ := ihj (by omega) y hy hpy
            exact ⟨i, y', z', by omega, q2, q3, q4, q5⟩
          · exact ⟨j, y, x, by omega, hy, hz, by omega, hpx⟩
      obtain ⟨i, y, z, q1, q2, q3, q4, q5⟩ := key _ (Nat.le_refl _) e hi hp2
      obtain ⟨f', e', r1, r2, r3⟩ := ih q3 q4 q5
      refine ⟨f', e', by omega, r2, ?_⟩
      rw [dp_at ha]
      exact Nat.le_trans r3 (mxTo_ge q1 q2)
theorem schOk_iff {ts : List (Int × Int)} : schOk ts = true ↔ ts.length ≤ 40 ∧ en ts 7 0 = some ts.length := by simp [schOk]
theorem endOf_some {ts : List (Int × Int)} {p : Nat} (hs : schOk ts = true) (hp : p < ts.length) : ∃ e, en ts 7 p = some e ∧ endOf ts p = e ∧ p < e ∧ e ≤ ts.length ∧ dp ts 7 p ≤ dp ts 7 0 := by
  obtain ⟨h40, h7⟩ := schOk_iff.1 hs
  obtain ⟨f', e', r1, r2, r3⟩ := en_find h7 (Nat.zero_le p) hp
  have h := en_mono r1 r2
  have hl := en_lt h
  have := dp_mono (m := 7 - f') (f := f') (by omega) r2
  rw [show f' + (7 - f') = 7 by omega] at this
  refine ⟨e', h, ?_, hl.1, hl.2, by omega⟩
  have e1 : decide ((0 : Int) ≤ p ∧ (p : Int) < ts.length) = true := by simp; exact hp
  unfold endOf; rw [hs, e1, Bool.and_self, if_pos rfl, Int.toNat_natCast, h]; rfl
/-- A part of a schema. -/
def partOf (ts : List (Int × Int)) (p e : Nat) : List (Int × Int) := (ts.drop p).take (e - p)
theorem part_len {ts : List (Int × Int)} {p e : Nat} (h : e ≤ ts.length) : (partOf ts p e).length = e - p := by simp [partOf]; omega
theorem part_at {ts : List (Int × Int)} {p e i : Nat} (h : i < e - p) : (partOf ts p e)[i]? = ts[i + p]? := by
  simp [partOf, h, List.getElem?_drop, Nat.add_comm]
theorem part_ok {ts : List (Int × Int)} {p e : Nat} (h40 : ts.length ≤ 40) (h : en ts 7 p = some e) : schOk (partOf ts p e) = true ∧ depthOf (partOf ts p e) = dp ts 7 p := by
  have hl := en_lt h
  have hpl := part_len (p := p) hl.2
  obtain ⟨m1, m2⟩ := en_move (ts := ts) (ts' := partOf ts p e) (s := p) (s' := 0) (f := 7) (a := 0) (e := e - p) (by rw [Nat.zero_add, Nat.sub_add_cancel (by omega)]; exact h) (fun i _ hi => by rw [Nat.add_zero]; exact part_at hi)
  simp only [Nat.zero_add, Nat.add_zero] at m1 m2
  have hs : schOk (partOf ts p e) = true := schOk_iff.2 ⟨by omega, by rw [hpl]; exact m1⟩
  exact ⟨hs, by unfold depthOf; rw [if_pos hs, m2]⟩
theorem part_end {ts : List (Int × Int)} (hs : schOk ts = true) : endOf ts 0 = ts.length := by
  obtain ⟨h40, h7⟩ := schOk_iff.1 hs
  have hl := en_lt h7
  obtain ⟨e, q1, q2, _⟩ := endOf_some hs hl.1
  rw [h7] at q1
  injection q1 with q1
  rw [← q1] at q2
  simpa using q2
theorem cut_bad {ts : List (Int × Int)} (hs : schOk ts = true) : schOk (ts.take (ts.length - 1)) = false := by
  obtain ⟨h40, h7⟩ := schOk_iff.1 hs
  have hl := en_lt h7
  cases hc : schOk (ts.take (ts.length - 1)) with
  | false => rfl
  | true =>
    obtain ⟨_, h7'⟩ := schOk_iff.1 hc
    have hlen : (ts.take (ts.length - 1)).length = ts.length - 1 := by simp
    rw [hlen] at h7'
    obtain ⟨m1, _⟩ := en_move (ts := ts.take (ts.length - 1)) (ts' := ts) (s := 0) (s' := 0) (f := 7) (a := 0) (e := ts.length - 1) h7' (fun i _ hi => by simp only [Nat.add_zero]; rw [List.getElem?_take, if_pos hi])
    simp only [Nat.add_zero] at m1
    rw [h7] at m1
    injection m1 with m1
    omega
theorem opt_en {ts : List (Int × Int)} : en ((8, 0) :: ts) 7 0 = (en ts 6 0).map (· + 1) ∧ (∀ e, en ts 6 0 = some e → dp ((8, 0) :: ts) 7 0 = dp ts 6 0) := by
  have h0 : en ((8, 0) :: ts) 7 0 = en ((8, 0) :: ts) 6 1 := by rw [en_ok (by simp) (by simp [tyOk])]; simp [kids, iter]
  have hmv : ∀ e, en ts 6 0 = some e → en ((8, 0) :: ts) 6 1 = some (e + 1) ∧ dp ((8, 0) :: ts) 6 1 = dp ts 6 0 := fun e he => by
    have := en_move (ts := ts) (ts' := (8, 0) :: ts) (s := 0) (s' := 1) (f := 6) (a := 0) (e := e) he (fun i _ _ => by simp)
    simpa using this
  constructor
  · rw [h0]
    cases he : en ts 6 0 with
    | some e => rw [(hmv e he).1]; rfl
    | none =>
      cases hx : en ((8, 0) :: ts) 6 1 with
      | none => rfl
      | some e =>
        have hl := en_lt hx
        have := en_move (ts := (8, 0) :: ts) (ts' := ts) (s := 1) (s' := 0) (f := 6) (a := 0) (e := e - 1) (by rw [Nat.sub_add_cancel (by omega)]; simpa using hx) (fun i _ _ => by simp)
        rw [show 0 + 0 = 0 from rfl, he] at this
        cases this.1
  · intro e he
    rw [dp_at (by simp)]
    have hk : kids ((8, 0) :: ts)[0].1 ((8, 0) :: ts)[0].2 = 1 := by simp [kids]
    rw [hk, mxTo_succ _ _ _ _ _ (iter_zero _ _)]
    simp only [mxTo, Nat.zero_add]
    rw [(hmv e he).2]
    omega
theorem opt_depth {ts : List (Int × Int)} (hs : schOk ts = true) : depthOf ((8, 0) :: ts) = if depthOf ts = 6 ∨ ts.length = 40 then -1 else depthOf ts + 1 := by
  obtain ⟨h40, h7⟩ := schOk_iff.1 hs
  obtain ⟨i1, i2⟩ := en_less (show 6 ≤ 6 by omega) h7
  have hd6 := dp_le ts 7 0
  have hD : depthOf ts = (dp ts 7 0 : Nat) := by unfold depthOf; rw [if_pos hs]
  rw [hD]
  by_cases hc : ((dp ts 7 0 : Nat) : Int) = 6 ∨ ts.length = 40
  · rw [if_pos hc]
    have hn : schOk ((8, 0) :: ts) = false := by
      cases hx : schOk ((8, 0) :: ts) with
      | false => rfl
      | true =>
        obtain ⟨q1, q2⟩ := schOk_iff.1 hx
        rcases hc with hc | hc
        · rw [opt_en.1, i2 (by show 6 ≤ dp ts 7 0; omega)] at q2; cases q2
        · simp at q1; omega
    unfold depthOf; rw [hn]; rfl
  · rw [if_neg hc]
    obtain ⟨k1, k2⟩ := i1 (by show dp ts 7 0 < 6; omega)
    have hy : schOk ((8, 0) :: ts) = true := schOk_iff.2 ⟨by simp; omega, by rw [opt_en.1, k1]; simp⟩
    unfold depthOf; rw [if_pos hy, opt_en.2 _ k1, k2]; simp
theorem opt_end {ts : List (Int × Int)} (hs : schOk ts = true) (hd : ¬ (depthOf ts = 6 ∨ ts.length = 40)) : endOf ((8, 0) :: ts) 1 = ts.length + 1 := by
  obtain ⟨h40, h7⟩ := schOk_iff.1 hs
  have hl := en_lt h7
  have hy : schOk ((8, 0) :: ts) = true := by
    cases hx : schOk ((8, 0) :: ts) with
    | true => rfl
    | false =>
      have h1 := opt_depth hs
      rw [if_neg hd] at h1
      have hD : depthOf ts = (dp ts 7 0 : Nat) := by unfold depthOf; rw [if_pos hs]
      rw [hD] at h1
      unfold depthOf at h1
      rw [hx] at h1
      simp at h1
      omega
  obtain ⟨e, q1, q2, _⟩ := endOf_some (p := 1) hy (by simp; omega)
  have := en_move (ts := ts) (ts' := (8, 0) :: ts) (s := 0) (s' := 1) (f := 7) (a := 0) (e := ts.length) h7 (fun i _ _ => by simp)
  rw [show 0 + 1 = 1 from rfl, q1] at this
  have h3 := this.1
  injection h3 with h3
  rw [h3] at q2
  simpa using q2
end Go.Proofs.YtichgnddbnibjaaGreatDoor
