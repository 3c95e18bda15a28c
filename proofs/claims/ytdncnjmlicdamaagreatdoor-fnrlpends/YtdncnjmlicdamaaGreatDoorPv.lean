/- Pt, Pu, Pv: one text. -/
import Derived.Test.YtdncnjmlicdamaaGreatDoorBase
namespace Go.Proofs.YtdncnjmlicdamaaGreatDoor
set_option linter.unusedVariables false
/-- Is that a type, by its kind and its number? -/
def tyOk (k n : Int) : Bool := decide ((k = 1 ∧ (n = 8 ∨ n = 16 ∨ n = 32 ∨ n = 64)) ∨ (k = 2 ∧ n = 0) ∨ (k = 3 ∧ 0 ≤ n ∧ n ≤ 200) ∨ (k = 4 ∧ 1 ≤ n ∧ n ≤ 64) ∨ (k = 5 ∧ 1 ≤ n ∧ n ≤ 20) ∨ (k = 6 ∧ 1 ≤ n ∧ n ≤ 8) ∨ (k = 7 ∧ 1 ≤ n ∧ n ≤ 6) ∨ (k = 8 ∧ n = 0) ∨ (k = 9 ∧ 1 ≤ n ∧ n ≤ 4))
/-- How many types stand behind it. -/
def kids (k n : Int) : Nat := if k = 5 ∨ k = 6 ∨ k = 8 then 1 else if k = 7 ∨ k = 9 then n.toNat else 0
theorem kids_le {k n : Int} (h : tyOk k n = true) : kids k n ≤ 6 := by
  simp only [tyOk, decide_eq_true_eq] at h
  unfold kids
  split
  · omega
  · split
    · omega
    · omega
/-- j steps from a. -/
def iter (g : Nat → Option Nat) (a : Nat) : Nat → Option Nat
  | 0 => some a
  | j + 1 => (iter g a j).bind g
theorem iter_zero (g : Nat → Option Nat) (a : Nat) : iter g a 0 = some a := rfl
theorem iter_succ (g : Nat → Option Nat) (a j : Nat) : iter g a (j + 1) = (iter g a j).bind g := rfl
theorem iter_none {g : Nat → Option Nat} {a j : Nat} (h : iter g a j = none) : ∀ m, j ≤ m → iter g a m = none := by
  intro m hm
  induction m with
  | zero =>
    have : j = 0 := by omega
    subst this; exact h
  | succ m ih =>
    by_cases e : j = m + 1
    · subst e; exact h
    · rw [iter_succ, ih (by omega)]; rfl
theorem iter_part {g : Nat → Option Nat} {a n e : Nat} (h : iter g a n = some e) {j : Nat} (hj : j ≤ n) : ∃ b, iter g a j = some b := by
  cases hx : iter g a j with
  | some b => exact ⟨b, rfl⟩
  | none => rw [iter_none hx n hj] at h; cases h
theorem iter_up {g : Nat → Option Nat} (hg : ∀ a e, g a = some e → a < e) {a n e : Nat} (h : iter g a n = some e) {j b : Nat} (hj : j ≤ n) (hb : iter g a j = some b) : b ≤ e := by
  induction n generalizing e with
  | zero =>
    have : j = 0 := by omega
    subst this; rw [hb] at h; cases h; exact Nat.le_refl _
  | succ n ih =>
    by_cases e1 : j = n + 1
    · subst e1; rw [hb] at h; cases h; exact Nat.le_refl _
    · rw [iter_succ] at h
      obtain ⟨c, hc, hd⟩ := Option.bind_eq_some_iff.1 h
      have := ih hc (by omega)
      have := hg c e hd
      omega
/-- Where the type at a place ends, f levels being left. -/
def en (ts : List (Int × Int)) : Nat → Nat → Option Nat
  | 0, _ => none
  | f + 1, a => match ts[a]? with
    | none => none
    | some t => if tyOk t.1 t.2 then iter (en ts f) (a + 1) (kids t.1 t.2) else none
theorem en_zero (ts : List (Int × Int)) (a : Nat) : en ts 0 a = none := rfl
theorem en_none {ts : List (Int × Int)} {f a : Nat} (h : ts.length ≤ a) : en ts f a = none := by
  cases f with
  | zero => rfl
  | succ f => simp [en, List.getElem?_eq_none h]
theorem en_bad {ts : List (Int × Int)} {f a : Nat} (h : a < ts.length) (ht : tyOk ts[a].1 ts[a].2 = false) : en ts (f + 1) a = none := by
  simp [en, List.getElem?_eq_getElem h, ht]
theorem en_ok {ts : List (Int × Int)} {f a : Nat} (h : a < ts.length) (ht : tyOk ts[a].1 ts[a].2 = true) : en ts (f + 1) a = iter (en ts f) (a + 1) (kids ts[a].1 ts[a].2) := by
  simp [en, List.getElem?_eq_getElem h, ht]
theorem en_inv {ts : List (Int × Int)} {f a e : Nat} (h : en ts (f + 1) a = some e) : ∃ ha : a < ts.length, tyOk ts[a].1 ts[a].2 = true ∧ iter (en ts f) (a + 1) (kids ts[a].1 ts[a].2) = some e := by
  by_cases ha : a < ts.length
  · refine ⟨ha, ?_⟩
    cases ht : tyOk ts[a].1 ts[a].2 with
    | false => rw [en_bad ha ht] at h; cases h
    | true => rw [en_ok ha ht] at h; exact ⟨rfl, h⟩
  · rw [en_none (by omega)] at h; cases h
theorem en_lt {ts : List (Int × Int)} : ∀ {f a e : Nat}, en ts f a = some e → a < e ∧ e ≤ ts.length := by
  intro f
  induction f with
  | zero => intro a e h; cases h
  | succ f ih =>
    intro a e h
    obtain ⟨ha, _, hi⟩ := en_inv h
    have h0 := iter_up (fun a e h => (ih h).1) hi (Nat.zero_le _) (iter_zero _ _)
    refine ⟨by omega, ?_⟩
    cases hk : kids ts[a].1 ts[a].2 with
    | zero => rw [hk] at hi; cases hi; omega
    | succ k =>
      rw [hk, iter_succ] at hi
      obtain ⟨c, hc, hd⟩ := Option.bind_eq_some_iff.1 hi
      exact (ih hd).2
theorem iter_mono {g g' : Nat → Option Nat} (hg : ∀ a e, g a = some e → g' a = some e) {a : Nat} : ∀ {n e : Nat}, iter g a n = some e → iter g' a n = some e := by
  intro n
  induction n with
  | zero => intro e h; exact h
  | succ n ih =>
    intro e h
    rw [iter_succ] at h ⊢
    obtain ⟨c, hc, hd⟩ := Option.bind_eq_some_iff.1 h
    rw [ih hc]; exact hg _ _ hd
theorem en_mono {ts : List (Int × Int)} : ∀ {f f' a e : Nat}, f ≤ f' → en ts f a = some e → en ts f' a = some e := by
  intro f
  induction f with
  | zero => intro f' a e _ h; cases h
  | succ f ih =>
    intro f' a e hf h
    obtain ⟨m, rfl⟩ : ∃ m, f' = m + 1 := ⟨f' - 1, by omega⟩
    obtain ⟨ha, ht, hi⟩ := en_inv h
    rw [en_ok ha ht]
    exact iter_mono (fun a e h => ih (by omega) h) hi
/-- The greatest of d and of what h says at the first j places. -/
def mxTo (g : Nat → Option Nat) (h : Nat → Nat) (a d : Nat) : Nat → Nat
  | 0 => d
  | j + 1 => max (mxTo g h a d j) (h ((iter g a j).getD 0))
theorem mxTo_succ (g : Nat → Option Nat) (h : Nat → Nat) (a d j : Nat) {b : Nat} (hb : iter g a j = some b) : mxTo g h a d (j + 1) = max (mxTo g h a d j) (h b) := by simp [mxTo, hb]
/-- How deep the deepest type of the type at a place lies; one that has f + 1 levels lies at 6 - f. -/
def dp (ts : List (Int × Int)) : Nat → Nat → Nat
  | 0, _ => 0
  | f + 1, a => match ts[a]? with
    | none => 0
    | some t => mxTo (en ts f) (dp ts f) (a + 1) (6 - f) (kids t.1 t.2)
theorem dp_at {ts : List (Int × Int)} {f a : Nat} (h : a < ts.length) : dp ts (f + 1) a = mxTo (en ts f) (dp ts f) (a + 1) (6 - f) (kids ts[a].1 ts[a].2) := by
  simp [dp, List.getElem?_eq_getElem h]
theorem mxTo_le {g : Nat → Option Nat} {h : Nat → Nat} {a d m : Nat} (hd : d ≤ m) (hh : ∀ b, h b ≤ m) : ∀ j, mxTo g h a d j ≤ m := by
  intro j
  induction j with
  | zero => exact hd
  | succ j ih => simp only [mxTo]; have := hh ((iter g a j).getD 0); omega
theorem dp_le (ts : List (Int × Int)) : ∀ f a, dp ts f a ≤ 6 := by
  intro f
  induction f with
  | zero => intro a; simp [dp]
  | succ f ih =>
    intro a
    unfold dp
    split
    · omega
    · exact mxTo_le (by omega) ih _
/-- Is that a schema? -/
def schOk (ts : List (Int × Int)) : Bool := decide (ts.length ≤ 40) && (en ts 7 0 == some ts.length)
def depthOf (ts : List (Int × Int)) : Int := if schOk ts then (dp ts 7 0 : Nat) else -1
def endOf (ts : List (Int × Int)) (a : Int) : Int := if schOk ts && decide (0 ≤ a ∧ a < ts.length) then (((en ts 7 a.toNat).map Int.ofNat).getD (-1)) else -1
end Go.Proofs.YtdncnjmlicdamaaGreatDoor
namespace Go.Proofs.YtdncnjmlicdamaaGreatDoor
set_option linter.unusedVariables false
theorem en_move {ts ts' : List (Int × Int)} {s s' : Nat} : ∀ {f a e : Nat}, en ts f (a + s) = some (e + s) → (∀ i, a ≤ i → i < e → ts'[i + s']? = ts[i + s]?) → en ts' f (a + s') = some (e + s') ∧ dp ts' f (a + s') = dp ts f (a + s) := by
  intro f
  induction f with
  | zero => intro a e h; cases h
  | succ f ih =>
    intro a e h hag
    have hlt := en_lt h
    obtain ⟨ha, ht, hi⟩ := en_inv h
    have h0 := hag a (Nat.le_refl _) (by omega)
    rw [List.getElem?_eq_getElem ha] at h0
    obtain ⟨ha', e0⟩ := List.getElem?_eq_some_iff.1 h0
    have key : ∀ j, j ≤ kids ts[a + s].1 ts[a + s].2 → ∃ x, iter (en ts f) (a + s + 1) j = some (x + s) ∧ iter (en ts' f) (a + s' + 1) j = some (x + s') ∧ mxTo (en ts' f) (dp ts' f) (a + s' + 1) (6 - f) j = mxTo (en ts f) (dp ts f) (a + s + 1) (6 - f) j ∧ a + 1 ≤ x ∧ x ≤ e := by
      intro j
      induction j with
      | zero => intro _; exact ⟨a + 1, by rw [iter_zero]; congr 1; omega, by rw [iter_zero]; congr 1; omega, rfl, Nat.le_refl _, by omega⟩
      | succ j ihj =>
        intro hj
        obtain ⟨x, q1, q2, q3, q4, q5⟩ := ihj (by omega)
        obtain ⟨b, hb⟩ := iter_part hi hj
        have hbe := iter_up (fun a e h => (en_lt h).1) hi hj hb
        have hb' := hb
        rw [iter_succ, q1] at hb'
        have hx : en ts f (x + s) = some b := hb'
        have hxb := (en_lt hx).1
        obtain ⟨y, rfl⟩ : ∃ y, b = y + s := ⟨b - s, by omega⟩
        obtain ⟨r1, r2⟩ := ih hx (fun i hi1 hi2 => hag i (by omega) (by omega))
        refine ⟨y, hb, by rw [iter_succ, q2]; exact r1, ?_, by omega, by omega⟩
        rw [mxTo_succ _ _ _ _ _ q2, mxTo_succ _ _ _ _ _ q1, q3, r2]
    obtain ⟨x, q1, q2, q3, _, _⟩ := key _ (Nat.le_refl _)
    rw [hi] at q1
    have hxe : x = e := by injection q1 with q1; omega
    subst hxe
    constructor
    · rw [en_ok ha' (by rw [e0]; exact ht), e0]; exact q2
    · rw [dp_at ha', dp_at ha, e0]; exact q3
/-- One level less: what is not too deep is there, one deeper. -/
theorem en_less {ts : List (Int × Int)} : ∀ {f a e : Nat}, f ≤ 6 → en ts (f + 1) a = some e → (dp ts (f + 1) a < 6 → en ts f a = some e ∧ dp ts f a = dp ts (f + 1) a + 1) ∧ (6 ≤ dp ts (f + 1) a → en ts f a = none) := by
  intro f
  induction f with
  | zero =>
    intro a e _ h
    obtain ⟨ha, ht, hi⟩ := en_inv h
    refine ⟨fun hd => ?_, fun _ => rfl⟩
    rw [dp_at ha] at hd
    have hm : ∀ j, 6 ≤ mxTo (en ts 0) (dp ts 0) (a + 1) (6 - 0) j := by
      intro j
      induction j with
      | zero => simp [mxTo]
      | succ j ihj => simp only [mxTo]; omega
    have := hm (kids ts[a].1 ts[a].2)
    omega
  | succ f ih =>
    intro a e hf h
    obtain ⟨ha, ht, hi⟩ := en_inv h
    have key : ∀ j, j ≤ kids ts[a].1 ts[a].2 → (mxTo (en ts (f + 1)) (dp ts (f + 1)) (a + 1) (6 - (f + 1)) j < 6 → iter (en ts f) (a + 1) j = iter (en ts (f + 1)) (a + 1) j ∧ mxTo (en ts f) (dp ts f) (a + 1) (6 - f) j = mxTo (en ts (f + 1)) (dp ts (f + 1)) (a + 1) (6 - (f + 1)) j + 1) ∧ (6 ≤ mxTo (en ts (f + 1)) (dp ts (f + 1)) (a + 1) (6 - (f + 1)) j → iter (en ts f) (a + 1) j = none) := by
      intro j
      induction j with
      | zero => intro _; simp only [mxTo, iter_zero]; exact ⟨fun _ => ⟨trivial, by omega⟩, fun h => by omega⟩
      | succ j ihj =>
        intro hj
        obtain ⟨x, hx⟩ := iter_part hi (show j ≤ kids ts[a].1 ts[a].2 by omega)
        obtain ⟨y, hy⟩ := iter_part hi hj
        have hxy : en ts (f + 1) x = some y := by rw [iter_succ, hx] at hy; exact hy
        obtain ⟨i1, i2⟩ := ih (by omega) hxy
        obtain ⟨k1, k2⟩ := ihj (by omega)
        rw [mxTo_succ _ _ _ _ _ hx]
        constructor
        · intro hm
          obtain ⟨k3, k4⟩ := k1 (by omega)
          obtain ⟨i3, i4⟩ := i1 (by omega)
          rw [hx] at k3
          refine ⟨?_, ?_⟩
          · rw [iter_succ, iter_succ, k3, hx]; show en ts f x = en ts (f + 1) x; rw [i3, hxy]
          · rw [mxTo_succ _ _ _ _ _ k3, k4, i4]; omega
        · intro hm
          by_cases hc : mxTo (en ts (f + 1)) (dp ts (f + 1)) (a + 1) (6 - (f + 1)) j < 6
          · obtain ⟨k3, k4⟩ := k1 hc
            rw [hx] at k3
            rw [iter_succ, k3]
            exact i2 (by omega)
          · rw [iter_succ, k2 (by omega)]; rfl
    obtain ⟨k1, k2⟩ := key _ (Nat.le_refl _)
    rw [dp_at ha]
    constructor
    · intro hm
      obtain ⟨k3, k4⟩ := k1 hm
      exact ⟨by rw [en_ok ha ht, k3]; exact hi, by rw [dp_at ha]; exact k4⟩
    · intro hm
      rw [en_ok ha ht]; exact k2 hm
/-- More levels: less deep. -/
theorem dp_mono {ts : List (Int × Int)} {a e : Nat} : ∀ {m f : Nat}, f + m ≤ 7 → en ts f a = some e → dp ts (f + m) a ≤ dp ts f a := by
  intro m
  induction m with
  | zero => intro f _ _; exact Nat.le_refl _
  | succ m ih =>
    intro f hf h
    have h1 := ih (by omega) h
    have h2 := en_mono (show f ≤ f + m by omega) h
    have h3 := en_mono (show f ≤ f + m + 1 by omega) h
    obtain ⟨i1, i2⟩ := en_less (show f + m ≤ 6 by omega) h3
    by_cases hc : dp ts (f + m + 1) a < 6
    · have := (i1 hc).2
      show dp ts (f + m + 1) a ≤ _
      omega
    · rw [i2 (by omega)] at h2; cases h2
theorem mxTo_ge {g : Nat → Option Nat} {h : Nat → Nat} {a d : Nat} : ∀ {j i x : Nat}, i < j → iter g a i = some x → h x ≤ mxTo g h a d j := by
  intro j
  induction j with
  | zero => intro i x hi; omega
  | succ j ih =>
    intro i x hi hx
    by_cases e : i = j
    · subst e; rw [mxTo_succ _ _ _ _ _ hx]; omega
    · have := ih (show i < j by omega) hx
      simp only [mxTo]; omega
/-- A place of a type is that of one of its types, no deeper than its deepest. -/
theorem en_find {ts : List (Int × Int)} : ∀ {f a e p : Nat}, en ts f a = some e → a ≤ p → p < e → ∃ f' e', f' ≤ f ∧ en ts f' p = some e' ∧ dp ts f' p ≤ dp ts f a := by
  intro f
  induction f with
  | zero => intro a e p h; cases h
  | succ f ih =>
    intro a e p h hp1 hp2
    by_cases hpa : a = p
    · subst hpa; exact ⟨f + 1, e, Nat.le_refl _, h, Nat.le_refl _⟩
    · obtain ⟨ha, ht, hi⟩ := en_inv h
      have key : ∀ j, j ≤ kids ts[a].1 ts[a].2 → ∀ x, iter (en ts f) (a + 1) j = some x → p < x → ∃ i y z, i < j ∧ iter (en ts f) (a + 1) i = some y ∧ en ts f y = some z ∧ y ≤ p ∧ p < z := by
        intro j
        induction j with
        | zero => intro _ x hx hpx; cases hx; omega
        | succ j ihj =>
          intro hj x hx hpx
          rw [iter_succ] at hx
          obtain ⟨y, hy, hz⟩ := Option.bind_eq_some_iff.1 hx
          by_cases hpy : p < y
          · obtain ⟨i, y', z', q1, q2, q3, q4, q5⟩ := ihj (by omega) y hy hpy
            exact ⟨i, y', z', by omega, q2, q3, q4, q5⟩
          · exact ⟨j, y, x, by omega, hy, hz, by omega, hpx⟩
      obtain ⟨i, y, z, q1, q2, q3, q4, q5⟩ := key _ (Nat.le_refl _) e hi hp2
      obtain ⟨f', e', r1, r2, r3⟩ := ih q3 q4 q5
      refine ⟨f', e', by omega, r2, ?_⟩
      rw [dp_at ha]
      exact Nat.le_trans r3 (mxTo_ge q1 q2)
theorem schOk_iff {ts : List (Int × Int)} : schOk ts = true ↔ ts.length ≤ 40 ∧ en ts 7 0 = some ts.length := by simp [schOk]
theorem endOf_some {ts : List (Int × Int)} {p : Nat} (hs : schOk ts = true) (hp : p < ts.length) : ∃ e, en ts 7 p = some e ∧ endOf ts p = e ∧ p < e ∧ e ≤ ts.length ∧ dp ts 7 p ≤ dp ts 7 0 := by
  obtain ⟨h40, h7⟩ := schOk_iff.1 hs
  obtain ⟨f', e', r1, r2, r3⟩ := en_find h7 (Nat.zero_le p) hp
  have h := en_mono r1 r2
  have hl := en_lt h
  have := dp_mono (m := 7 - f') (f := f') (by omega) r2
  rw [show f' + (7 - f') = 7 by omega] at this
  refine ⟨e', h, ?_, hl.1, hl.2, by omega⟩
  have e1 : decide ((0 : Int) ≤ p ∧ (p : Int) < ts.length) = true := by simp; exact hp
  unfold endOf; rw [hs, e1, Bool.and_self, if_pos rfl, Int.toNat_natCast, h]; rfl
/-- A part of a schema. -/
def partOf (ts : List (Int × Int)) (p e : Nat) : List (Int × Int) := (ts.drop p).take (e - p)
theorem part_len {ts : List (Int × Int)} {p e : Nat} (h : e ≤ ts.length) : (partOf ts p e).length = e - p := by simp [partOf]; omega
theorem part_at {ts : List (Int × Int)} {p e i : Nat} (h : i < e - p) : (partOf ts p e)[i]? = ts[i + p]? := by
  simp [partOf, h, List.getElem?_drop, Nat.add_comm]
theorem part_ok {ts : List (Int × Int)} {p e : Nat} (h40 : ts.length ≤ 40) (h : en ts 7 p = some e) : schOk (partOf ts p e) = true ∧ depthOf (partOf ts p e) = dp ts 7 p := by
  have hl := en_lt h
  have hpl := part_len (p := p) hl.2
  obtain ⟨m1, m2⟩ := en_move (ts := ts) (ts' := partOf ts p e) (s := p) (s' := 0) (f := 7) (a := 0) (e := e - p) (by rw [Nat.zero_add, Nat.sub_add_cancel (by omega)]; exact h) (fun i _ hi => by rw [Nat.add_zero]; exact part_at hi)
  simp only [Nat.zero_add, Nat.add_zero] at m1 m2
  have hs : schOk (partOf ts p e) = true := schOk_iff.2 ⟨by omega, by rw [hpl]; exact m1⟩
  exact ⟨hs, by unfold depthOf; rw [if_pos hs, m2]⟩
theorem part_end {ts : List (Int × Int)} (hs : schOk ts = true) : endOf ts 0 = ts.length := by
  obtain ⟨h40, h7⟩ := schOk_iff.1 hs
  have hl := en_lt h7
  obtain ⟨e, q1, q2, _⟩ := endOf_some hs hl.1
  rw [h7] at q1
  injection q1 with q1
  rw [← q1] at q2
  simpa using q2
theorem cut_bad {ts : List (Int × Int)} (hs : schOk ts = true) : schOk (ts.take (ts.length - 1)) = false := by
  obtain ⟨h40, h7⟩ := schOk_iff.1 hs
  have hl := en_lt h7
  cases hc : schOk (ts.take (ts.length - 1)) with
  | false => rfl
  | true =>
    obtain ⟨_, h7'⟩ := schOk_iff.1 hc
    have hlen : (ts.take (ts.length - 1)).length = ts.length - 1 := by simp
    rw [hlen] at h7'
    obtain ⟨m1, _⟩ := en_move (ts := ts.take (ts.length - 1)) (ts' := ts) (s := 0) (s' := 0) (f := 7) (a := 0) (e := ts.length - 1) h7' (fun i _ hi => by simp only [Nat.add_zero]; rw [List.getElem?_take, if_pos hi])
    simp only [Nat.add_zero] at m1
    rw [h7] at m1
    injection m1 with m1
    omega
theorem opt_en {ts : List (Int × Int)} : en ((8, 0) :: ts) 7 0 = (en ts 6 0).map (· + 1) ∧ (∀ e, en ts 6 0 = some e → dp ((8, 0) :: ts) 7 0 = dp ts 6 0) := by
  have h0 : en ((8, 0) :: ts) 7 0 = en ((8, 0) :: ts) 6 1 := by rw [en_ok (by simp) (by simp [tyOk])]; simp [kids, iter]
  have hmv : ∀ e, en ts 6 0 = some e → en ((8, 0) :: ts) 6 1 = some (e + 1) ∧ dp ((8, 0) :: ts) 6 1 = dp ts 6 0 := fun e he => by
    have := en_move (ts := ts) (ts' := (8, 0) :: ts) (s := 0) (s' := 1) (f := 6) (a := 0) (e := e) he (fun i _ _ => by simp)
    simpa using this
  constructor
  · rw [h0]
    cases he : en ts 6 0 with
    | some e => rw [(hmv e he).1]; rfl
    | none =>
      cases hx : en ((8, 0) :: ts) 6 1 with
      | none => rfl
      | some e =>
        have hl := en_lt hx
        have := en_move (ts := (8, 0) :: ts) (ts' := ts) (s := 1) (s' := 0) (f := 6) (a := 0) (e := e - 1) (by rw [Nat.sub_add_cancel (by omega)]; simpa using hx) (fun i _ _ => by simp)
        rw [show 0 + 0 = 0 from rfl, he] at this
        cases this.1
  · intro e he
    rw [dp_at (by simp)]
    have hk : kids ((8, 0) :: ts)[0].1 ((8, 0) :: ts)[0].2 = 1 := by simp [kids]
    rw [hk, mxTo_succ _ _ _ _ _ (iter_zero _ _)]
    simp only [mxTo, Nat.zero_add]
    rw [(hmv e he).2]
    omega
theorem opt_depth {ts : List (Int × Int)} (hs : schOk ts = true) : depthOf ((8, 0) :: ts) = if depthOf ts = 6 ∨ ts.length = 40 then -1 else depthOf ts + 1 := by
  obtain ⟨h40, h7⟩ := schOk_iff.1 hs
  obtain ⟨i1, i2⟩ := en_less (show 6 ≤ 6 by omega) h7
  have hd6 := dp_le ts 7 0
  have hD : depthOf ts = (dp ts 7 0 : Nat) := by unfold depthOf; rw [if_pos hs]
  rw [hD]
  by_cases hc : ((dp ts 7 0 : Nat) : Int) = 6 ∨ ts.length = 40
  · rw [if_pos hc]
    have hn : schOk ((8, 0) :: ts) = false := by
      cases hx : schOk ((8, 0) :: ts) with
      | false => rfl
      | true =>
        obtain ⟨q1, q2⟩ := schOk_iff.1 hx
        rcases hc with hc | hc
        · rw [opt_en.1, i2 (by show 6 ≤ dp ts 7 0; omega)] at q2; cases q2
        · simp at q1; omega
    unfold depthOf; rw [hn]; rfl
  · rw [if_neg hc]
    obtain ⟨k1, k2⟩ := i1 (by show dp ts 7 0 < 6; omega)
    have hy : schOk ((8, 0) :: ts) = true := schOk_iff.2 ⟨by simp; omega, by rw [opt_en.1, k1]; simp⟩
    unfold depthOf; rw [if_pos hy, opt_en.2 _ k1, k2]; simp
theorem opt_end {ts : List (Int × Int)} (hs : schOk ts = true) (hd : ¬ (depthOf ts = 6 ∨ ts.length = 40)) : endOf ((8, 0) :: ts) 1 = ts.length + 1 := by
  obtain ⟨h40, h7⟩ := schOk_iff.1 hs
  have hl := en_lt h7
  have hy : schOk ((8, 0) :: ts) = true := by
    cases hx : schOk ((8, 0) :: ts) with
    | true => rfl
    | false =>
      have h1 := opt_depth hs
      rw [if_neg hd] at h1
      have hD : depthOf ts = (dp ts 7 0 : Nat) := by unfold depthOf; rw [if_pos hs]
      rw [hD] at h1
      unfold depthOf at h1
      rw [hx] at h1
      simp at h1
      omega
  obtain ⟨e, q1, q2, _⟩ := endOf_some (p := 1) hy (by simp; omega)
  have := en_move (ts := ts) (ts' := (8, 0) :: ts) (s := 0) (s' := 1) (f := 7) (a := 0) (e := ts.length) h7 (fun i _ _ => by simp)
  rw [show 0 + 1 = 1 from rfl, q1] at this
  have h3 := this.1
  injection h3 with h3
  rw [h3] at q2
  simpa using q2
end Go.Proofs.YtdncnjmlicdamaaGreatDoor
namespace Go.Proofs.YtdncnjmlicdamaaGreatDoor
set_option linter.unusedVariables false
/-- An item: its kind, its number, its bytes. -/
structure It where
  k : Int
  n : Nat
  s : ByteArray
/-- Is that an item of that type, whatever stands behind it? -/
def fitsN (k n : Int) (m : Nat) : Bool :=
  if k = 1 then decide (m < 2 ^ n.toNat) else if k = 2 ∨ k = 8 then decide (m ≤ 1) else if k = 5 then decide ((m : Int) ≤ n) else if k = 6 ∨ k = 7 then decide ((m : Int) = n) else if k = 9 then decide ((m : Int) < n) else decide (m = 0)
def fitsS (k n : Int) (m : Nat) : Bool :=
  if k = 3 then decide ((m : Int) ≤ n) else if k = 4 then decide ((m : Int) = n) else decide (m = 0)
def fitsI (k n : Int) (x : It) : Bool := decide (x.k = k) && (fitsN k n x.n && fitsS k n x.s.size)
/-- How many values stand behind it. -/
def np (k : Int) (m : Nat) : Nat := if k = 5 ∨ k = 6 ∨ k = 7 ∨ k = 8 then m else if k = 9 then 1 else 0
/-- The place of the type of the j-th of these. -/
def pl (ts : List (Int × Int)) (f a : Nat) (k : Int) (m j : Nat) : Nat := if k = 7 then (iter (en ts f) (a + 1) j).getD 0 else if k = 9 then (iter (en ts f) (a + 1) m).getD 0 else a + 1
theorem np_le {k n : Int} {m : Nat} (hok : tyOk k n = true) (h : fitsN k n m = true) : np k m ≤ 20 := by
  simp only [tyOk, decide_eq_true_eq] at hok
  unfold fitsN at h
  unfold np
  rcases hok with h1 | h1 | h1 | h1 | h1 | h1 | h1 | h1 | h1
  all_goals
    obtain ⟨rfl, h2⟩ := h1
    simp at h ⊢
  all_goals omega
/-- The place of a part is a place of a type. -/
theorem pl_ok {ts : List (Int × Int)} {f a e : Nat} (ha : a < ts.length) (hok : tyOk ts[a].1 ts[a].2 = true) (h : iter (en ts f) (a + 1) (kids ts[a].1 ts[a].2) = some e) {m j : Nat} (hf : fitsN ts[a].1 ts[a].2 m = true) (hj : j < np ts[a].1 m) : ∃ e', en ts f (pl ts f a ts[a].1 m j) = some e' := by
  generalize ts[a].1 = k at *
  generalize ts[a].2 = n at *
  have step : ∀ i, i < kids k n → ∃ x e', iter (en ts f) (a + 1) i = some x ∧ en ts f x = some e' := fun i hi => by
    obtain ⟨x, hx⟩ := iter_part h (show i ≤ kids k n by omega)
    obtain ⟨y, hy⟩ := iter_part h (show i + 1 ≤ kids k n by omega)
    rw [iter_succ, hx] at hy
    exact ⟨x, y, hx, hy⟩
  simp only [tyOk, decide_eq_true_eq] at hok
  unfold np at hj
  unfold fitsN at hf
  rcases hok with h1 | h1 | h1 | h1 | h1 | h1 | h1 | h1 | h1
  all_goals
    obtain ⟨rfl, h2⟩ := h1
    simp at hj hf
  · obtain ⟨x, e', q1, q2⟩ := step 0 (by simp [kids])
    cases q1; exact ⟨e', by simp [pl]; exact q2⟩
  · obtain ⟨x, e', q1, q2⟩ := step 0 (by simp [kids])
    cases q1; exact ⟨e', by simp [pl]; exact q2⟩
  · obtain ⟨x, e', q1, q2⟩ := step j (by simp [kids]; omega)
    exact ⟨e', by simp [pl, q1]; exact q2⟩
  · obtain ⟨x, e', q1, q2⟩ := step 0 (by simp [kids])
    cases q1; exact ⟨e', by simp [pl]; exact q2⟩
  · obtain ⟨x, e', q1, q2⟩ := step m (by simp [kids]; omega)
    exact ⟨e', by simp [pl, q1]; exact q2⟩
/-- j parts from q. -/
def vit (g : Nat → Nat → Option Nat) (ps : Nat → Nat) (q : Nat) : Nat → Option Nat
  | 0 => some q
  | j + 1 => (vit g ps q j).bind (g (ps j))
theorem vit_zero (g : Nat → Nat → Option Nat) (ps : Nat → Nat) (q : Nat) : vit g ps q 0 = some q := rfl
theorem vit_succ (g : Nat → Nat → Option Nat) (ps : Nat → Nat) (q j : Nat) : vit g ps q (j + 1) = (vit g ps q j).bind (g (ps j)) := rfl
theorem vit_none {g : Nat → Nat → Option Nat} {ps : Nat → Nat} {q j : Nat} (h : vit g ps q j = none) : ∀ m, j ≤ m → vit g ps q m = none := by
  intro m hm
  induction m with
  | zero =>
    have : j = 0 := by omega
    subst this; exact h
  | succ m ih =>
    by_cases e : j = m + 1
    · subst e; exact h
    · rw [vit_succ, ih (by omega)]; rfl
/-- Where the value of the type at place a that begins at place q ends. -/
def ve (ts : List (Int × Int)) (vs : List It) : Nat → Nat → Nat → Option Nat
  | 0, _, _ => none
  | f + 1, a, q => match ts[a]? with
    | none => none
    | some t => match vs[q]? with
      | none => none
      | some x => if fitsI t.1 t.2 x then vit (ve ts vs f) (pl ts f a t.1 x.n) (q + 1) (np t.1 x.n) else none
theorem ve_end {ts : List (Int × Int)} {vs : List It} {f a q : Nat} (h : vs.length ≤ q) : ve ts vs f a q = none := by
  cases f with
  | zero => rfl
  | succ f =>
    simp only [ve, List.getElem?_eq_none h]
    split <;> rfl
theorem ve_bad {ts : List (Int × Int)} {vs : List It} {f a q : Nat} (ha : a < ts.length) (hq : q < vs.length) (h : fitsI ts[a].1 ts[a].2 vs[q] = false) : ve ts vs (f + 1) a q = none := by
  simp [ve, List.getElem?_eq_getElem ha, List.getElem?_eq_getElem hq, h]
theorem ve_ok {ts : List (Int × Int)} {vs : List It} {f a q : Nat} (ha : a < ts.length) (hq : q < vs.length) (h : fitsI ts[a].1 ts[a].2 vs[q] = true) : ve ts vs (f + 1) a q = vit (ve ts vs f) (pl ts f a ts[a].1 vs[q].n) (q + 1) (np ts[a].1 vs[q].n) := by
  simp [ve, List.getElem?_eq_getElem ha, List.getElem?_eq_getElem hq, h]
theorem ve_lt {ts : List (Int × Int)} {vs : List It} : ∀ {f a q q' : Nat}, ve ts vs f a q = some q' → q < q' ∧ q' ≤ vs.length := by
  intro f
  induction f with
  | zero => intro a q q' h; cases h
  | succ f ih =>
    intro a q q' h
    by_cases hq : q < vs.length
    · by_cases ha : a < ts.length
      · cases hf : fitsI ts[a].1 ts[a].2 vs[q] with
        | false => rw [ve_bad ha hq hf] at h; cases h
        | true =>
          rw [ve_ok ha hq hf] at h
          have key : ∀ j x, vit (ve ts vs f) (pl ts f a ts[a].1 vs[q].n) (q + 1) j = some x → q + 1 ≤ x ∧ x ≤ vs.length := by
            intro j
            induction j with
            | zero => intro x hx; cases hx; omega
            | succ j ihj =>
              intro x hx
              rw [vit_succ] at hx
              obtain ⟨y, hy, hz⟩ := Option.bind_eq_some_iff.1 hx
              have h1 := ihj y hy
              have h2 := ih hz
              omega
          have := key _ _ h
          omega
      · simp [ve, List.getElem?_eq_none (Nat.le_of_not_lt ha)] at h
    · rw [ve_end (by omega)] at h; cases h
theorem vit_lt {ts : List (Int × Int)} {vs : List It} {f q : Nat} {ps : Nat → Nat} (hq : q ≤ vs.length) : ∀ {j x : Nat}, vit (ve ts vs f) ps q j = some x → q ≤ x ∧ x ≤ vs.length := by
  intro j
  induction j with
  | zero => intro x hx; cases hx; omega
  | succ j ihj =>
    intro x hx
    rw [vit_succ] at hx
    obtain ⟨y, hy, hz⟩ := Option.bind_eq_some_iff.1 hx
    have h1 := ihj hy
    have h2 := ve_lt hz
    omega
/-- Is that a value of that schema? -/
def typedB (ts : List (Int × Int)) (vs : List It) : Bool := schOk ts && (decide (vs.length ≤ 200) && (ve ts vs 7 0 0 == some vs.length))
end Go.Proofs.YtdncnjmlicdamaaGreatDoor
