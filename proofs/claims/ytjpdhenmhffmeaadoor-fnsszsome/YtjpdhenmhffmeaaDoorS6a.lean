/- How many bytes the values of a type have in SSZ, as plain numbers. No function of the program is named here. -/
import Derived.Test.YtjpdhenmhffmeaaDoorPu
namespace Go.Proofs.YtjpdhenmhffmeaaDoor
set_option linter.unusedVariables false
/-- The sum of what h says at the first j places; -1 when one of these is below nought. -/
def addTo (g : Nat → Option Nat) (h : Nat → Int) (a : Nat) : Nat → Int
  | 0 => 0
  | j + 1 => if addTo g h a j < 0 ∨ h ((iter g a j).getD 0) < 0 then -1 else addTo g h a j + h ((iter g a j).getD 0)
theorem addTo_ok {g : Nat → Option Nat} {h : Nat → Int} {a j b : Nat} (hb : iter g a j = some b) (h1 : 0 ≤ addTo g h a j) (h2 : 0 ≤ h b) : addTo g h a (j + 1) = addTo g h a j + h b := by
  simp only [addTo, hb, Option.getD_some]; rw [if_neg (by omega)]
theorem addTo_no {g : Nat → Option Nat} {h : Nat → Int} {a j b : Nat} (hb : iter g a j = some b) (h2 : h b < 0) : addTo g h a (j + 1) = -1 := by
  simp only [addTo, hb, Option.getD_some]; rw [if_pos (by omega)]
theorem addTo_more {g : Nat → Option Nat} {h : Nat → Int} {a j : Nat} (h1 : addTo g h a j = -1) : ∀ m, j ≤ m → addTo g h a m = -1 := by
  intro m hm
  induction m with
  | zero =>
    have : j = 0 := by omega
    subst this; exact h1
  | succ m ih =>
    by_cases e : j = m + 1
    · subst e; exact h1
    · have := ih (by omega)
      simp only [addTo]; rw [if_pos (by omega)]
theorem addTo_range {g : Nat → Option Nat} {h : Nat → Int} {a : Nat} {B : Int} (hB : 0 ≤ B) (hh : ∀ b, h b ≤ B) : ∀ j : Nat, -1 ≤ addTo g h a j ∧ addTo g h a j ≤ j * B := by
  intro j
  induction j with
  | zero => simp [addTo]
  | succ j ih =>
    have := hh ((iter g a j).getD 0)
    have e : ((j + 1 : Nat) : Int) * B = j * B + B := by rw [Int.natCast_add, Int.add_mul]; simp
    have h0 : 0 ≤ (j : Int) * B := Int.mul_nonneg (by omega) hB
    simp only [addTo]
    split
    · omega
    · omega
/-- How many bytes each value of the type at a place has, f levels being left; -1 when that is not said. -/
def szT (ts : List (Int × Int)) : Nat → Nat → Int
  | 0, _ => -1
  | f + 1, a => match ts[a]? with
    | none => -1
    | some t => if tyOk t.1 t.2 then
        (if t.1 = 1 then t.2 / 8 else if t.1 = 2 then 1 else if t.1 = 4 then t.2 else if t.1 = 6 ∨ t.1 = 7 then
          (if addTo (en ts f) (szT ts f) (a + 1) (kids t.1 t.2) < 0 then -1 else addTo (en ts f) (szT ts f) (a + 1) (kids t.1 t.2) * (if t.1 = 6 then t.2 else 1)) else -1)
      else -1
theorem szT_at {ts : List (Int × Int)} {f a : Nat} (ha : a < ts.length) (hok : tyOk ts[a].1 ts[a].2 = true) : szT ts (f + 1) a =
    (if ts[a].1 = 1 then ts[a].2 / 8 else if ts[a].1 = 2 then 1 else if ts[a].1 = 4 then ts[a].2 else if ts[a].1 = 6 ∨ ts[a].1 = 7 then
          (if addTo (en ts f) (szT ts f) (a + 1) (kids ts[a].1 ts[a].2) < 0 then -1 else addTo (en ts f) (szT ts f) (a + 1) (kids ts[a].1 ts[a].2) * (if ts[a].1 = 6 then ts[a].2 else 1)) else -1) := by
  simp [szT, List.getElem?_eq_getElem ha, hok]
theorem szT_range (ts : List (Int × Int)) : ∀ f a, -1 ≤ szT ts f a ∧ szT ts f a ≤ 64 * 8 ^ f := by
  intro f
  induction f with
  | zero => intro a; simp [szT]
  | succ f ih =>
    intro a
    have hp : (0 : Int) ≤ 8 ^ f := Int.le_of_lt (Int.pow_pos (by decide))
    have he : (8 : Int) ^ (f + 1) = 8 ^ f * 8 := Int.pow_succ 8 f
    have hp1 : (1 : Int) ≤ 8 ^ f := Int.pow_pos (n := 8) (by decide)
    by_cases ha : a < ts.length
    · cases hok : tyOk ts[a].1 ts[a].2 with
      | false => simp [szT, List.getElem?_eq_getElem ha, hok]; omega
      | true =>
        rw [szT_at ha hok]
        have hr := addTo_range (g := en ts f) (h := szT ts f) (a := a + 1) (B := 64 * 8 ^ f) (by omega) (fun b => (ih b).2) (kids ts[a].1 ts[a].2)
        generalize addTo (en ts f) (szT ts f) (a + 1) (kids ts[a].1 ts[a].2) = x at *
        generalize ts[a].1 = k at *
        generalize ts[a].2 = n at *
        have hkl := kids_le hok
        simp only [tyOk, decide_eq_true_eq] at hok
        by_cases h1 : k = 1
        · rw [if_pos h1]; omega
        rw [if_neg h1]
        by_cases h2 : k = 2
        · rw [if_pos h2]; omega
        rw [if_neg h2]
        by_cases h4 : k = 4
        · rw [if_pos h4]; omega
        rw [if_neg h4]
        by_cases h67 : k = 6 ∨ k = 7
        · rw [if_pos h67]
          by_cases hx : x < 0
          · rw [if_pos hx]; omega
          · rw [if_neg hx]
            by_cases h6 : k = 6
            · rw [if_pos h6]
              have hk1 : kids k n = 1 := by unfold kids; rw [if_pos (by omega)]
              rw [hk1] at hr
              have hn : n = 1 ∨ n = 2 ∨ n = 3 ∨ n = 4 ∨ n = 5 ∨ n = 6 ∨ n = 7 ∨ n = 8 := by omega
              rcases hn with rfl | rfl | rfl | rfl | rfl | rfl | rfl | rfl <;> omega
            · rw [if_neg h6]
              have : (kids k n : Int) * (64 * 8 ^ f) ≤ 6 * (64 * 8 ^ f) := Int.mul_le_mul_of_nonneg_right (by omega) (by omega)
              omega
        · rw [if_neg h67]; omega
    · have : ts[a]? = none := List.getElem?_eq_none (by omega)
      simp [szT, this]; omega
theorem szT_small {ts : List (Int × Int)} {f a : Nat} (hf : f ≤ 7) : -1 ≤ szT ts f a ∧ szT ts f a ≤ 134217728 := by
  obtain ⟨h1, h2⟩ := szT_range ts f a
  refine ⟨h1, Int.le_trans h2 ?_⟩
  have : f = 0 ∨ f = 1 ∨ f = 2 ∨ f = 3 ∨ f = 4 ∨ f = 5 ∨ f = 6 ∨ f = 7 := by omega
  rcases this with rfl | rfl | rfl | rfl | rfl | rfl | rfl | rfl <;> decide
/-- How many bytes each value of a schema has. -/
def sszSize (ts : List (Int × Int)) : Int := if schOk ts then szT ts 7 0 else -1
end Go.Proofs.YtjpdhenmhffmeaaDoor
