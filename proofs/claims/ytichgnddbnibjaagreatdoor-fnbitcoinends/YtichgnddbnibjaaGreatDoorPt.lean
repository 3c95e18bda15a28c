/- Schemas as plain lists of pairs: where the type at a place ends, how deep its deepest one lies. No function of the program is named here. -/
import Derived.Test.YtichgnddbnibjaaGreatDoorBase
namespace Go.Proofs.YtichgnddbnibjaaGreatDoor
set_option linter.unusedVariables false
/-- Is that a type, by its kind and its number? -/
def tyOk (k n : Int) : Bool := decide ((k = 1 ∧ (n = 8 ∨ n = 16 ∨ n = 32 ∨ n = 64)) ∨ (k = 2 ∧ n = 0) ∨ (k = 3 ∧ 0 ≤ n ∧ n ≤ 200) ∨ (k = 4 ∧ 1 ≤ n ∧ n ≤ 64) ∨ (k = 5 ∧ 1 ≤ n ∧ n ≤ 20) ∨ (k = 6 ∧ 1 ≤ n ∧ n ≤ 8) ∨ (k = 7 ∧ 1 ≤ n ∧ n ≤ 6) ∨ (k = 8 ∧ n = 0) ∨ (k = 9 ∧ 1 ≤ n ∧ n ≤ 4))
/-- How many types stand behind it. -/
def kids (k n : Int) : Nat := if k = 5 ∨ k = 6 ∨ k = 8 then 1 else if k = 7 ∨ k = 9 then n.toNat else 0
theorem kids_le {k n : Int} (h : tyOk k n = true) : kids k n ≤ 6 := by
  simp only [tyOk, decide_eq_true_eq] at h
  unfold kids
  split
  · omega
  · split
    · omega
    · omega
/-- j steps from a. -/
def iter (g : Nat → Option Nat) (a : Nat) : Nat → Option Nat
  | 0 => some a
  | j + 1 => (iter g a j).bind g
theorem iter_zero (g : Nat → Option Nat) (a : Nat) : iter g a 0 = some a := rfl
theorem iter_succ (g : Nat → Option Nat) (a j : Nat) : iter g a (j + 1) = (iter g a j).bind g := rfl
theorem iter_none {g : Nat → Option Nat} {a j : Nat} (h : iter g a j = none) : ∀ m, j ≤ m → iter g a m = none := by
  intro m hm
  induction m with
  | zero =>
    have : j = 0 := by omega
    subst this; exact h
  | succ m ih =>
    by_cases e : j = m + 1
    · subst e; exact h
    · rw [iter_succ, ih (by omega)]; rfl
theorem iter_part {g : Nat → Option Nat} {a n e : Nat} (h : iter g a n = some e) {j : Nat} (hj : j ≤ n) : ∃ b, iter g a j = some b := by
  cases hx : iter g a j with
  | some b => exact ⟨b, rfl⟩
  | none => rw [iter_none hx n hj] at h; cases h
theorem iter_up {g : Nat → Option Nat} (hg : ∀ a e, g a = some e → a < e) {a n e : Nat} (h : iter g a n = some e) {j b : Nat} (hj : j ≤ n) (hb : iter g a j = some b) : b ≤ e := by
  induction n generalizing e with
  | zero =>
    have : j = 0 := by omega
    subst this; rw [hb] at h; cases h; exact Nat.le_refl _
  | succ n ih =>
    by_cases e1 : j = n + 1
    · subst e1; rw [hb] at h; cases h; exact Nat.le_refl _
    · rw [iter_succ] at h
      obtain ⟨c, hc, hd⟩ := Option.bind_eq_some_iff.1 h
      have := ih hc (by omega)
      have := hg c e hd
      omega
/-- Where the type at a place ends, f levels being left. -/
def en (ts : List (Int × Int)) : Nat → Nat → Option Nat
  | 0, _ => none
  | f + 1, a => match ts[a]? with
    | none => none
    | some t => if tyOk t.1 t.2 then iter (en ts f) (a + 1) (kids t.1 t.2) else none
theorem en_zero (ts : List (Int × Int)) (a : Nat) : en ts 0 a = none := rfl
theorem en_none {ts : List (Int × Int)} {f a : Nat} (h : ts.length ≤ a) : en ts f a = none := by
  cases f with
  | zero => rfl
  | succ f => simp [en, List.getElem?_eq_none h]
theorem en_bad {ts : List (Int × Int)} {f a : Nat} (h : a < ts.length) (ht : tyOk ts[a].1 ts[a].2 = false) : en ts (f + 1) a = none := by
  simp [en, List.getElem?_eq_getElem h, ht]
theorem en_ok {ts : List (Int × Int)} {f a : Nat} (h : a < ts.length) (ht : tyOk ts[a].1 ts[a].2 = true) : en ts (f + 1) a = iter (en ts f) (a + 1) (kids ts[a].1 ts[a].2) := by
  simp [en, List.getElem?_eq_getElem h, ht]
theorem en_inv {ts : List (Int × Int)} {f a e : Nat} (h : en ts (f + 1) a = some e) : ∃ ha : a < ts.length, tyOk ts[a].1 ts[a].2 = true ∧ iter (en ts f) (a + 1) (kids ts[a].1 ts[a].2) = some e := by
  by_cases ha : a < ts.length
  · refine ⟨ha, ?_⟩
    cases ht : tyOk ts[a].1 ts[a].2 with
    | false => rw [en_bad ha ht] at h; cases h
    | true => rw [en_ok ha ht] at h; exact ⟨rfl, h⟩
  · rw [en_none (by omega)] at h; cases h
theorem en_lt {ts : List (Int × Int)} : ∀ {f a e : Nat}, en ts f a = some e → a < e ∧ e ≤ ts.length := by
  intro f
  induction f with
  | zero => intro a e h; cases h
  | succ f ih =>
    intro a e h
    obtain ⟨ha, _, hi⟩ := en_inv h
    have h0 := iter_up (fun a e h => (ih h).1) hi (Nat.zero_le _) (iter_zero _ _)
    refine ⟨by omega, ?_⟩
    cases hk : kids ts[a].1 ts[a].2 with
    | zero => rw [hk] at hi; cases hi; omega
    | succ k =>
      rw [hk, iter_succ] at hi
      obtain ⟨c, hc, hd⟩ := Option.bind_eq_some_iff.1 hi
      exact (ih hd).2
theorem iter_mono {g g' : Nat → Option Nat} (hg : ∀ a e, g a = some e → g' a = some e) {a : Nat} : ∀ {n e : Nat}, iter g a n = some e → iter g' a n = some e := by
  intro n
  induction n with
  | zero => intro e h; exact h
  | succ n ih =>
    intro e h
    rw [iter_succ] at h ⊢
    obtain ⟨c, hc, hd⟩ := Option.bind_eq_some_iff.1 h
    rw [ih hc]; exact hg _ _ hd
theorem en_mono {ts : List (Int × Int)} : ∀ {f f' a e : Nat}, f ≤ f' → en ts f a = some e → en ts f' a = some e := by
  intro f
  induction f with
  | zero => intro f' a e _ h; cases h
  | succ f ih =>
    intro f' a e hf h
    obtain ⟨m, rfl⟩ : ∃ m, f' = m + 1 := ⟨f' - 1, by omega⟩
    obtain ⟨ha, ht, hi⟩ := en_inv h
    rw [en_ok ha ht]
    exact iter_mono (fun a e h => ih (by omega) h) hi
/-- The greatest of d and of what h says at the first j places. -/
def mxTo (g : Nat → Option Nat) (h : Nat → Nat) (a d : Nat) : Nat → Nat
  | 0 => d
  | j + 1 => max (mxTo g h a d j) (h ((iter g a j).getD 0))
theorem mxTo_succ (g : Nat → Option Nat) (h : Nat → Nat) (a d j : Nat) {b : Nat} (hb : iter g a j = some b) : mxTo g h a d (j + 1) = max (mxTo g h a d j) (h b) := by simp [mxTo, hb]
/-- How deep the deepest type of the type at a place lies; one that has f + 1 levels lies at 6 - f. -/
def dp (ts : List (Int × Int)) : Nat → Nat → Nat
  | 0, _ => 0
  | f + 1, a => match ts[a]? with
    | none => 0
    | some t => mxTo (en ts f) (dp ts f) (a + 1) (6 - f) (kids t.1 t.2)
theorem dp_at {ts : List (Int × Int)} {f a : Nat} (h : a < ts.length) : dp ts (f + 1) a = mxTo (en ts f) (dp ts f) (a + 1) (6 - f) (kids ts[a].1 ts[a].2) := by
  simp [dp, List.getElem?_eq_getElem h]
theorem mxTo_le {g : Nat → Option Nat} {h : Nat → Nat} {a d m : Nat} (hd : d ≤ m) (hh : ∀ b, h b ≤ m) : ∀ j, mxTo g h a d j ≤ m := by
  intro j
  induction j with
  | zero => exact hd
  | succ j ih => simp only [mxTo]; have := hh ((iter g a j).getD 0); omega
theorem dp_le (ts : List (Int × Int)) : ∀ f a, dp ts f a ≤ 6 := by
  intro f
  induction f with
  | zero => intro a; simp [dp]
  | succ f ih =>
    intro a
    unfold dp
    split
    · omega
    · exact mxTo_le (by omega) ih _
/-- Is that a schema? -/
def schOk (ts : List (Int × Int)) : Bool := decide (ts.length ≤ 40) && (en ts 7 0 == some ts.length)
def depthOf (ts : List (Int × Int)) : Int := if schOk ts then (dp ts 7 0 : Nat) else -1
def endOf (ts : List (Int × Int)) (a : Int) : Int := if schOk ts && decide (0 ≤ a ∧ a < ts.length) then (((en ts 7 a.toNat).map Int.ofNat).getD (-1)) else -1
end Go.Proofs.YtichgnddbnibjaaGreatDoor
