/- Values as plain lists of items: where the value of a type ends. No function of the program is named here. -/
import Derived.Test.YtichgnddbnibjaaGreatDoorPu
namespace Go.Proofs.YtichgnddbnibjaaGreatDoor
set_option linter.unusedVariables false
/-- An item: its kind, its number, its bytes. -/
structure It where
  k : Int
  n : Nat
  s : ByteArray
/-- Is that an item of that type, whatever stands behind it? -/
def fitsN (k n : Int) (m : Nat) : Bool :=
  if k = 1 then decide (m < 2 ^ n.toNat) else if k = 2 ∨ k = 8 then decide (m ≤ 1) else if k = 5 then decide ((m : Int) ≤ n) else if k = 6 ∨ k = 7 then decide ((m : Int) = n) else if k = 9 then decide ((m : Int) < n) else decide (m = 0)
def fitsS (k n : Int) (m : Nat) : Bool :=
  if k = 3 then decide ((m : Int) ≤ n) else if k = 4 then decide ((m : Int) = n) else decide (m = 0)
def fitsI (k n : Int) (x : It) : Bool := decide (x.k = k) && (fitsN k n x.n && fitsS k n x.s.size)
/-- How many values stand behind it. -/
def np (k : Int) (m : Nat) : Nat := if k = 5 ∨ k = 6 ∨ k = 7 ∨ k = 8 then m else if k = 9 then 1 else 0
/-- The place of the type of the j-th of these. -/
def pl (ts : List (Int × Int)) (f a : Nat) (k : Int) (m j : Nat) : Nat := if k = 7 then (iter (en ts f) (a + 1) j).getD 0 else if k = 9 then (iter (en ts f) (a + 1) m).getD 0 else a + 1
theorem np_le {k n : Int} {m : Nat} (hok : tyOk k n = true) (h : fitsN k n m = true) : np k m ≤ 20 := by
  simp only [tyOk, decide_eq_true_eq] at hok
  unfold fitsN at h
  unfold np
  rcases hok with h1 | h1 | h1 | h1 | h1 | h1 | h1 | h1 | h1
  all_goals
    obtain ⟨rfl, h2⟩ := h1
    simp at h ⊢
  all_goals omega
/-- The place of a part is a place of a type. -/
theorem pl_ok {ts : List (Int × Int)} {f a e : Nat} (ha : a < ts.length) (hok : tyOk ts[a].1 ts[a].2 = true) (h : iter (en ts f) (a + 1) (kids ts[a].1 ts[a].2) = some e) {m j : Nat} (hf : fitsN ts[a].1 ts[a].2 m = true) (hj : j < np ts[a].1 m) : ∃ e', en ts f (pl ts f a ts[a].1 m j) = some e' := by
  generalize ts[a].1 = k at *
  generalize ts[a].2 = n at *
  have step : ∀ i, i < kids k n → ∃ x e', iter (en ts f) (a + 1) i = some x ∧ en ts f x = some e' := fun i hi => by
    obtain ⟨x, hx⟩ := iter_part h (show i ≤ kids k n by omega)
    obtain ⟨y, hy⟩ := iter_part h (show i + 1 ≤ kids k n by omega)
    rw [iter_succ, hx] at hy
    exact ⟨x, y, hx, hy⟩
  simp only [tyOk, decide_eq_true_eq] at hok
  unfold np at hj
  unfold fitsN at hf
  rcases hok with h1 | h1 | h1 | h1 | h1 | h1 | h1 | h1 | h1
  all_goals
    obtain ⟨rfl, h2⟩ := h1
    simp at hj hf
  · obtain ⟨x, e', q1, q2⟩ := step 0 (by simp [kids])
    cases q1; exact ⟨e', by simp [pl]; exact q2⟩
  · obtain ⟨x, e', q1, q2⟩ := step 0 (by simp [kids])
    cases q1; exact ⟨e', by simp [pl]; exact q2⟩
  · obtain ⟨x, e', q1, q2⟩ := step j (by simp [kids]; omega)
    exact ⟨e', by simp [pl, q1]; exact q2⟩
  · obtain ⟨x, e', q1, q2⟩ := step 0 (by simp [kids])
    cases q1; exact ⟨e', by simp [pl]; exact q2⟩
  · obtain ⟨x, e', q1, q2⟩ := step m (by simp [kids]; omega)
    exact ⟨e', by simp [pl, q1]; exact q2⟩
/-- j parts from q. -/
def vit (g : Nat → Nat → Option Nat) (ps : Nat → Nat) (q : Nat) : Nat → Option Nat
  | 0 => some q
  | j + 1 => (vit g ps q j).bind (g (ps j))
theorem vit_zero (g : Nat → Nat → Option Nat) (ps : Nat → Nat) (q : Nat) : vit g ps q 0 = some q := rfl
theorem vit_succ (g : Nat → Nat → Option Nat) (ps : Nat → Nat) (q j : Nat) : vit g ps q (j + 1) = (vit g ps q j).bind (g (ps j)) := rfl
theorem vit_none {g : Nat → Nat → Option Nat} {ps : Nat → Nat} {q j : Nat} (h : vit g ps q j = none) : ∀ m, j ≤ m → vit g ps q m = none := by
  intro m hm
  induction m with
  | zero =>
    have : j = 0 := by omega
    subst this; exact h
  | succ m ih =>
    by_cases e : j = m + 1
    · subst e; exact h
    · rw [vit_succ, ih (by omega)]; rfl
/-- Where the value of the type at place a that begins at place q ends. -/
def ve (ts : List (Int × Int)) (vs : List It) : Nat → Nat → Nat → Option Nat
  | 0, _, _ => none
  | f + 1, a, q => match ts[a]? with
    | none => none
    | some t => match vs[q]? with
      | none => none
      | some x => if fitsI t.1 t.2 x then vit (ve ts vs f) (pl ts f a t.1 x.n) (q + 1) (np t.1 x.n) else none
theorem ve_end {ts : List (Int × Int)} {vs : List It} {f a q : Nat} (h : vs.length ≤ q) : ve ts vs f a q = none := by
  cases f with
  | zero => rfl
  | succ f =>
    simp only [ve, List.getElem?_eq_none h]
    split <;> rfl
theorem ve_bad {ts : List (Int × Int)} {vs : List It} {f a q : Nat} (ha : a < ts.length) (hq : q < vs.length) (h : fitsI ts[a].1 ts[a].2 vs[q] = false) : ve ts vs (f + 1) a q = none := by
  simp [ve, List.getElem?_eq_getElem ha, List.getElem?_eq_getElem hq, h]
theorem ve_ok {ts : List (Int × Int)} {vs : List It} {f a q : Nat} (ha : a < ts.length) (hq : q < vs.length) (h : fitsI ts[a].1 ts[a].2 vs[q] = true) : ve ts vs (f + 1) a q = vit (ve ts vs f) (pl ts f a ts[a].1 vs[q].n) (q + 1) (np ts[a].1 vs[q].n) := by
  simp [ve, List.getElem?_eq_getElem ha, List.getElem?_eq_getElem hq, h]
theorem ve_lt {ts : List (Int × Int)} {vs : List It} : ∀ {f a q q' : Nat}, ve ts vs f a q = some q' → q < q' ∧ q' ≤ vs.length := by
  intro f
  induction f with
  | zero => intro a q q' h; cases h
  | succ f ih =>
    intro a q q' h
    by_cases hq : q < vs.length
    · by_cases ha : a < ts.length
      · cases hf : fitsI ts[a].1 ts[a].2 vs[q] with
        | false => rw [ve_bad ha hq hf] at h; cases h
        | true =>
          rw [ve_ok ha hq hf] at h
          have key : ∀ j x, vit (ve ts vs f) (pl ts f a ts[a].1 vs[q].n) (q + 1) j = some x → q + 1 ≤ x ∧ x ≤ vs.length := by
            intro j
            induction j with
            | zero => intro x hx; cases hx; omega
            | succ j ihj =>
              intro x hx
              rw [vit_succ] at hx
              obtain ⟨y, hy, hz⟩ := Option.bind_eq_some_iff.1 hx
              have h1 := ihj y hy
              have h2 := ih hz
              omega
          have := key _ _ h
          omega
      · simp [ve, List.getElem?_eq_none (Nat.le_of_not_lt ha)] at h
    · rw [ve_end (by omega)] at h; cases h
theorem vit_lt {ts : List (Int × Int)} {vs : List It} {f q : Nat} {ps : Nat → Nat} (hq : q ≤ vs.length) : ∀ {j x : Nat}, vit (ve ts vs f) ps q j = some x → q ≤ x ∧ x ≤ vs.length := by
  intro j
  induction j with
  | zero => intro x hx; cases hx; omega
  | succ j ihj =>
    intro x hx
    rw [vit_succ] at hx
    obtain ⟨y, hy, hz⟩ := Option.bind_eq_some_iff.1 hx
    have h1 := ihj hy
    have h2 := ve_lt hz
    omega
/-- Is that a value of that schema? -/
def typedB (ts : List (Int × Int)) (vs : List It) : Bool := schOk ts && (decide (vs.length ≤ 200) && (ve ts vs 7 0 0 == some vs.length))
end Go.Proofs.YtichgnddbnibjaaGreatDoor
