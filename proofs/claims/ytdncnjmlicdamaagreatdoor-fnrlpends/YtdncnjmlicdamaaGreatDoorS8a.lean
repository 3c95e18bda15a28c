/- The bytes of a value, as RLP writes them, as plain lists. -/
import Derived.Test.YtdncnjmlicdamaaGreatDoorS7a
import Derived.Test.YtdncnjmlicdamaaGreatDoorL1e
namespace Go.Proofs.YtdncnjmlicdamaaGreatDoor
set_option linter.unusedVariables false
/-- Is that a string that is written without a head? -/
def isOwn : List UInt8 → Bool
  | [b] => decide (b.toNat < 128)
  | _ => false
def rlS (l : List UInt8) : List UInt8 := if isOwn l then l else headL false l.length ++ l
def rlNum (m : Nat) : List UInt8 := rlS (leL m (by8 m)).reverse
def rlL (l : List UInt8) : List UInt8 := headL true l.length ++ l
/-- What an item writes by itself. -/
def rlOwn (x : It) : List UInt8 := if x.k = 1 ∨ x.k = 2 ∨ x.k = 9 then rlNum x.n else if x.k = 3 ∨ x.k = 4 then rlS x.s.data.toList else []
def rlE (ts : List (Int × Int)) (vs : List It) : Nat → Nat → Nat → List UInt8
  | 0, _, _ => []
  | f + 1, a, q => match ts[a]? with
    | none => []
    | some t => match vs[q]? with
      | none => []
      | some x => if t.1 ≤ 4 then rlOwn x else rlL (rlOwn x ++ cat (rlE ts vs f) (ve ts vs f) (pl ts f a t.1 x.n) (q + 1) (np t.1 x.n))
theorem rlE_ok {ts : List (Int × Int)} {vs : List It} {f a q : Nat} (ha : a < ts.length) (hq : q < vs.length) : rlE ts vs (f + 1) a q = if ts[a].1 ≤ 4 then rlOwn vs[q] else rlL (rlOwn vs[q] ++ cat (rlE ts vs f) (ve ts vs f) (pl ts f a ts[a].1 vs[q].n) (q + 1) (np ts[a].1 vs[q].n)) := by
  simp [rlE, List.getElem?_eq_getElem ha, List.getElem?_eq_getElem hq]
theorem headL_len3 (b : Bool) {n : Nat} (h : n ≤ 65535) : (headL b n).length ≤ 3 := by
  unfold headL
  have := by8_16 n h
  split
  · simp [leL_len]
  · simp [leL_len]; omega
theorem headL_len2 (b : Bool) {n : Nat} (h : n ≤ 255) : (headL b n).length ≤ 2 := by
  unfold headL
  have : by8 n ≤ 1 := (by8_le n 1).2 (by omega)
  split
  · simp [leL_len]
  · simp [leL_len]; omega
theorem rlS_len {l : List UInt8} {m : Nat} (h : l.length ≤ m) (hm : m ≤ 255) : (rlS l).length ≤ m + 2 := by
  unfold rlS
  have := headL_len2 false (show l.length ≤ 255 by omega)
  split
  · omega
  · simp only [List.length_append]; omega
theorem rlNum_len {m : Nat} (h : m < 18446744073709551616) : (rlNum m).length ≤ 10 := by
  have := by8_8 m h
  exact rlS_len (m := 8) (by simp [leL_len]; omega) (by omega)
theorem rlL_len {l : List UInt8} (h : l.length ≤ 65535) : (rlL l).length ≤ l.length + 3 := by
  unfold rlL
  have := headL_len3 true h
  simp only [List.length_append]; omega
theorem fit_size {k n : Int} {x : It} (hok : tyOk k n = true) (hf : fitsI k n x = true) : x.s.size ≤ 200 := by
  have hf' : x.k = k ∧ fitsN k n x.n = true ∧ fitsS k n x.s.size = true := by simpa [fitsI] using hf
  have h3 := hf'.2.2
  simp only [tyOk, decide_eq_true_eq] at hok
  unfold fitsS at h3
  split at h3
  · have := of_decide_eq_true h3; omega
  · split at h3
    · have := of_decide_eq_true h3; omega
    · have := of_decide_eq_true h3; omega
theorem rlOwn_len {x : It} (hn : x.n < 18446744073709551616) (hs : x.s.size ≤ 200) : (rlOwn x).length ≤ 202 ∧ (¬ (x.k = 3 ∨ x.k = 4) → (rlOwn x).length ≤ 10) := by
  have h1 := rlNum_len hn
  have h2 : x.s.data.toList.length = x.s.size := Array.length_toList
  have h3 := rlS_len (l := x.s.data.toList) (m := 200) (by omega) (by omega)
  unfold rlOwn
  refine ⟨?_, fun h => ?_⟩
  · repeat' split
    all_goals (try simp only [List.length_nil]); omega
  · rw [if_neg h]
    split <;> simp_all
theorem cat_rl_len {ts : List (Int × Int)} {vs : List It} {f a e q m : Nat} (ha : a < ts.length) (hok : tyOk ts[a].1 ts[a].2 = true) (hit : iter (en ts f) (a + 1) (kids ts[a].1 ts[a].2) = some e) (hf : fitsN ts[a].1 ts[a].2 m = true)
    (ih : ∀ {a e q q' : Nat}, en ts f a = some e → ve ts vs f a q = some q' → (rlE ts vs f a q).length + q * 203 ≤ q' * 203) :
    ∀ j x, j ≤ np ts[a].1 m → vit (ve ts vs f) (pl ts f a ts[a].1 m) (q + 1) j = some x → (cat (rlE ts vs f) (ve ts vs f) (pl ts f a ts[a].1 m) (q + 1) j).length + (q + 1) * 203 ≤ x * 203 := by
  intro j
  induction j with
  | zero => intro x _ hx; cases hx; simp [cat]
  | succ j ihj =>
    intro x hj hx
    obtain ⟨y, hy⟩ := vit_part hx (Nat.le_succ j)
    rw [cat_succ hy, List.length_append]
    have h2 := ihj y (by omega) hy
    rw [vit_succ, hy] at hx
    obtain ⟨e', he'⟩ := pl_ok ha hok hit hf (show j < np ts[a].1 m by omega)
    have h3 := ih he' (show ve ts vs f _ y = some x from hx)
    omega
theorem rlE_len {ts : List (Int × Int)} {vs : List It} (hvs : ∀ x ∈ vs, x.n < 18446744073709551616) (hl : vs.length ≤ 200) : ∀ {f a e q q' : Nat}, en ts f a = some e → ve ts vs f a q = some q' → (rlE ts vs f a q).length + q * 203 ≤ q' * 203 := by
  intro f
  induction f with
  | zero => intro a e q q' h; cases h
  | succ f ih =>
    intro a e q q' he h
    have hql := (ve_lt h).2
    obtain ⟨ha, hq, hfit, hv⟩ := ve_inv h
    obtain ⟨_, hok, hit⟩ := en_inv he
    have hfit' : vs[q].k = ts[a].1 ∧ fitsN ts[a].1 ts[a].2 vs[q].n = true := by simp [fitsI] at hfit; exact ⟨hfit.1, hfit.2.1⟩
    have h1 := rlOwn_len (hvs vs[q] (List.getElem_mem hq)) (fit_size hok hfit)
    have h4 := cat_rl_len ha hok hit hfit'.2 (fun he hv => ih he hv) _ _ (Nat.le_refl _) hv
    rw [rlE_ok ha hq]
    split
    · rename_i hk
      have : q + 1 ≤ q' := (ve_lt h).1
      have : (q + 1) * 203 ≤ q' * 203 := Nat.mul_le_mul_right _ this
      omega
    · rename_i hk
      have h5 := h1.2 (by rw [hfit'.1]; omega)
      have h6 : q' * 203 ≤ 200 * 203 := Nat.mul_le_mul_right _ (by omega)
      have h7 := rlL_len (l := rlOwn vs[q] ++ cat (rlE ts vs f) (ve ts vs f) (pl ts f a ts[a].1 vs[q].n) (q + 1) (np ts[a].1 vs[q].n)) (by rw [List.length_append]; omega)
      rw [List.length_append] at h7
      omega
theorem rlE_le {ts : List (Int × Int)} {vs : List It} (hvs : ∀ x ∈ vs, x.n < 18446744073709551616) (hl : vs.length ≤ 200) {f a e q q' : Nat} (he : en ts f a = some e) (hv : ve ts vs f a q = some q') : (rlE ts vs f a q).length ≤ 40600 := by
  have h1 := rlE_len hvs hl he hv
  have h2 := (ve_lt hv).2
  have h3 : q' * 203 ≤ 200 * 203 := Nat.mul_le_mul_right _ (by omega)
  omega
/-- What stands in a list has fewer bytes than a head can tell. -/
theorem body_le {ts : List (Int × Int)} {vs : List It} (hvs : ∀ x ∈ vs, x.n < 18446744073709551616) (hl : vs.length ≤ 200) {f a e q q' j x : Nat} (ha : a < ts.length) (hq : q < vs.length) (hok : tyOk ts[a].1 ts[a].2 = true) (hit : iter (en ts f) (a + 1) (kids ts[a].1 ts[a].2) = some e) (hfit : fitsI ts[a].1 ts[a].2 vs[q] = true) (hk : ¬ ts[a].1 ≤ 4)
    (hj : j ≤ np ts[a].1 vs[q].n) (hx : vit (ve ts vs f) (pl ts f a ts[a].1 vs[q].n) (q + 1) j = some x) : (rlOwn vs[q] ++ cat (rlE ts vs f) (ve ts vs f) (pl ts f a ts[a].1 vs[q].n) (q + 1) j).length ≤ 40610 := by
  have hfit' : vs[q].k = ts[a].1 ∧ fitsN ts[a].1 ts[a].2 vs[q].n = true := by simp [fitsI] at hfit; exact ⟨hfit.1, hfit.2.1⟩
  have h1 := (rlOwn_len (hvs vs[q] (List.getElem_mem hq)) (fit_size hok hfit)).2 (by rw [hfit'.1]; omega)
  have h4 := cat_rl_len (q := q) ha hok hit hfit'.2 (fun he hv => rlE_len hvs hl he hv) j x hj hx
  have h5 := (vit_lt (show q + 1 ≤ vs.length by omega) hx).2
  have h6 : x * 203 ≤ 200 * 203 := Nat.mul_le_mul_right _ (by omega)
  rw [List.length_append]
  omega
end Go.Proofs.YtdncnjmlicdamaaGreatDoor
