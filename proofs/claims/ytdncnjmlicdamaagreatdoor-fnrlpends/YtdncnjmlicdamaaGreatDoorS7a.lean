/- The bytes of a value, as SCALE and Bitcoin write them, as plain lists. No function of the program is named here. -/
import Derived.Test.YtdncnjmlicdamaaGreatDoorPv
import Derived.Test.YtdncnjmlicdamaaGreatDoorL1a
namespace Go.Proofs.YtdncnjmlicdamaaGreatDoor
set_option linter.unusedVariables false
/-- The bytes of the first j parts, one behind the other. -/
def cat (e : Nat → Nat → List UInt8) (g : Nat → Nat → Option Nat) (ps : Nat → Nat) (q : Nat) : Nat → List UInt8
  | 0 => []
  | j + 1 => cat e g ps q j ++ e (ps j) ((vit g ps q j).getD 0)
theorem cat_succ {e : Nat → Nat → List UInt8} {g : Nat → Nat → Option Nat} {ps : Nat → Nat} {q j x : Nat} (h : vit g ps q j = some x) : cat e g ps q (j + 1) = cat e g ps q j ++ e (ps j) x := by simp [cat, h]
/-- What an item writes by itself; cnt: how a count is written. -/
def own (cnt : Nat → List UInt8) (n : Int) (x : It) : List UInt8 :=
  if x.k = 1 then leL x.n (n / 8).toNat else if x.k = 2 ∨ x.k = 8 ∨ x.k = 9 then leL x.n 1 else if x.k = 3 then cnt x.s.size ++ x.s.data.toList else if x.k = 4 then x.s.data.toList else if x.k = 5 then cnt x.n else []
/-- The bytes of the value of the type at place a that begins at place q. -/
def scE (cnt : Nat → List UInt8) (ts : List (Int × Int)) (vs : List It) : Nat → Nat → Nat → List UInt8
  | 0, _, _ => []
  | f + 1, a, q => match ts[a]? with
    | none => []
    | some t => match vs[q]? with
      | none => []
      | some x => own cnt t.2 x ++ cat (scE cnt ts vs f) (ve ts vs f) (pl ts f a t.1 x.n) (q + 1) (np t.1 x.n)
theorem scE_ok {cnt : Nat → List UInt8} {ts : List (Int × Int)} {vs : List It} {f a q : Nat} (ha : a < ts.length) (hq : q < vs.length) : scE cnt ts vs (f + 1) a q = own cnt ts[a].2 vs[q] ++ cat (scE cnt ts vs f) (ve ts vs f) (pl ts f a ts[a].1 vs[q].n) (q + 1) (np ts[a].1 vs[q].n) := by
  simp [scE, List.getElem?_eq_getElem ha, List.getElem?_eq_getElem hq]
theorem own_len {cnt : Nat → List UInt8} {k n : Int} {x : It} (hc : ∀ m, (cnt m).length ≤ 9) (hok : tyOk k n = true) (hk : x.k = k) (hs : x.s.size ≤ 1048577) : (own cnt n x).length ≤ 1048590 := by
  have h1 : x.s.data.toList.length = x.s.size := Array.length_toList
  have h2 := hc x.s.size
  have h3 := hc x.n
  have h4 : (n / 8).toNat ≤ 25 := by simp only [tyOk, decide_eq_true_eq] at hok; omega
  unfold own
  repeat' split
  all_goals (try simp only [leL_len, List.length_append, List.length_nil])
  all_goals omega
theorem ve_inv {ts : List (Int × Int)} {vs : List It} {f a q q' : Nat} (h : ve ts vs (f + 1) a q = some q') : ∃ (ha : a < ts.length) (hq : q < vs.length), fitsI ts[a].1 ts[a].2 vs[q] = true ∧ vit (ve ts vs f) (pl ts f a ts[a].1 vs[q].n) (q + 1) (np ts[a].1 vs[q].n) = some q' := by
  have hq : q < vs.length := by
    rcases Nat.lt_or_ge q vs.length with h1 | h1
    · exact h1
    · rw [ve_end h1] at h; cases h
  have ha : a < ts.length := by
    rcases Nat.lt_or_ge a ts.length with h1 | h1
    · exact h1
    · simp [ve, List.getElem?_eq_none h1] at h
  refine ⟨ha, hq, ?_⟩
  cases hf : fitsI ts[a].1 ts[a].2 vs[q] with
  | false => rw [ve_bad ha hq hf] at h; cases h
  | true => rw [ve_ok ha hq hf] at h; exact ⟨rfl, h⟩
theorem vit_part {g : Nat → Nat → Option Nat} {ps : Nat → Nat} {q n e : Nat} (h : vit g ps q n = some e) {j : Nat} (hj : j ≤ n) : ∃ b, vit g ps q j = some b := by
  cases hx : vit g ps q j with
  | some b => exact ⟨b, rfl⟩
  | none => rw [vit_none hx n hj] at h; cases h
/-- The bytes are no more than so many for each item. -/
theorem scE_len {cnt : Nat → List UInt8} {ts : List (Int × Int)} {vs : List It} (hc : ∀ m, (cnt m).length ≤ 9) (hs : ∀ x ∈ vs, x.s.size ≤ 1048577) : ∀ {f a e q q' : Nat}, en ts f a = some e → ve ts vs f a q = some q' → (scE cnt ts vs f a q).length + q * 1048590 ≤ q' * 1048590 := by
  intro f
  induction f with
  | zero => intro a e q q' h; cases h
  | succ f ih =>
    intro a e q q' he h
    obtain ⟨ha, hq, hfit, hv⟩ := ve_inv h
    obtain ⟨_, hok, hit⟩ := en_inv he
    have hfit' : vs[q].k = ts[a].1 ∧ fitsN ts[a].1 ts[a].2 vs[q].n = true := by simp [fitsI] at hfit; exact ⟨hfit.1, hfit.2.1⟩
    rw [scE_ok ha hq, List.length_append]
    have h1 := own_len hc hok hfit'.1 (hs vs[q] (List.getElem_mem _))
    have key : ∀ j x, j ≤ np ts[a].1 vs[q].n → vit (ve ts vs f) (pl ts f a ts[a].1 vs[q].n) (q + 1) j = some x → (cat (scE cnt ts vs f) (ve ts vs f) (pl ts f a ts[a].1 vs[q].n) (q + 1) j).length + (q + 1) * 1048590 ≤ x * 1048590 := by
      intro j
      induction j with
      | zero => intro x _ hx; cases hx; simp [cat]
      | succ j ihj =>
        intro x hj hx
        obtain ⟨y, hy⟩ := vit_part hx (Nat.le_succ j)
        rw [cat_succ hy, List.length_append]
        have h2 := ihj y (by omega) hy
        rw [vit_succ, hy] at hx
        obtain ⟨e', he'⟩ := pl_ok ha hok hit hfit'.2 (show j < np ts[a].1 vs[q].n by omega)
        have h3 := ih he' (show ve ts vs f _ y = some x from hx)
        omega
    have h4 := key _ _ (Nat.le_refl _) hv
    omega
theorem cat_len {cnt : Nat → List UInt8} {ts : List (Int × Int)} {vs : List It} (hc : ∀ m, (cnt m).length ≤ 9) (hs : ∀ x ∈ vs, x.s.size ≤ 1048577) {f a e q m : Nat} {k n : Int} (ha : a < ts.length) (hk : ts[a] = (k, n)) (hok : tyOk k n = true) (hit : iter (en ts f) (a + 1) (kids k n) = some e) (hf : fitsN k n m = true) :
    ∀ j x, j ≤ np k m → vit (ve ts vs f) (pl ts f a k m) (q + 1) j = some x → (cat (scE cnt ts vs f) (ve ts vs f) (pl ts f a k m) (q + 1) j).length + (q + 1) * 1048590 ≤ x * 1048590 := by
  intro j
  induction j with
  | zero => intro x _ hx; cases hx; simp [cat]
  | succ j ihj =>
    intro x hj hx
    obtain ⟨y, hy⟩ := vit_part hx (Nat.le_succ j)
    rw [cat_succ hy, List.length_append]
    have h2 := ihj y (by omega) hy
    rw [vit_succ, hy] at hx
    have e1 : k = ts[a].1 := by rw [hk]
    have e2 : n = ts[a].2 := by rw [hk]
    subst e1 e2
    obtain ⟨e', he'⟩ := pl_ok ha hok hit hf (show j < np ts[a].1 m by omega)
    have h3 := scE_len hc hs he' (show ve ts vs f _ y = some x from hx)
    omega
end Go.Proofs.YtdncnjmlicdamaaGreatDoor
