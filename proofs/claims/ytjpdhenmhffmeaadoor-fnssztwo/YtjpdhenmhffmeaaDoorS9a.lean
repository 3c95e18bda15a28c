/- The bytes of a value, as SSZ writes them, as plain lists: what stands ahead, what stands behind. -/
import Derived.Test.YtjpdhenmhffmeaaDoorS7d
import Derived.Test.YtjpdhenmhffmeaaDoorS6a
namespace Go.Proofs.YtjpdhenmhffmeaaDoor
set_option linter.unusedVariables false
/-- How many bytes a part has ahead of the variable ones. -/
def slt (z : Int) : Nat := if z < 0 then 4 else z.toNat
/-- The sum of the first j. -/
def frt (s : Nat → Nat) : Nat → Nat
  | 0 => 0
  | j + 1 => frt s j + s j
theorem frt_le {s : Nat → Nat} {L n : Nat} (h : ∀ j, j < n → s j ≤ L) : ∀ j, j ≤ n → frt s j ≤ j * L := by
  intro j
  induction j with
  | zero => intro _; simp [frt]
  | succ j ih =>
    intro hj
    have h1 := ih (by omega)
    have h2 := h j (by omega)
    have h3 : (j + 1) * L = j * L + L := Nat.succ_mul j L
    simp only [frt]
    omega
/-- The heads and the tails of the first j parts: vr tells which are variable, fr where the tails begin. -/
def hts (vr : Nat → Bool) (E : Nat → List UInt8) (fr : Nat) : Nat → List UInt8 × List UInt8
  | 0 => ([], [])
  | j + 1 => if vr j then ((hts vr E fr j).1 ++ leL (fr + (hts vr E fr j).2.length) 4, (hts vr E fr j).2 ++ E j) else ((hts vr E fr j).1 ++ E j, (hts vr E fr j).2)
theorem hts_var {vr : Nat → Bool} {E : Nat → List UInt8} {fr j : Nat} (h : vr j = true) : hts vr E fr (j + 1) = ((hts vr E fr j).1 ++ leL (fr + (hts vr E fr j).2.length) 4, (hts vr E fr j).2 ++ E j) := by simp [hts, h]
theorem hts_fix {vr : Nat → Bool} {E : Nat → List UInt8} {fr j : Nat} (h : vr j = false) : hts vr E fr (j + 1) = ((hts vr E fr j).1 ++ E j, (hts vr E fr j).2) := by simp [hts, h]
theorem hts_len {vr : Nat → Bool} {E : Nat → List UInt8} {fr : Nat} : ∀ j, (hts vr E fr j).1.length + (hts vr E fr j).2.length ≤ (catE E j).length + j * 4 := by
  intro j
  induction j with
  | zero => simp [hts, catE]
  | succ j ih =>
    cases h : vr j with
    | true => rw [hts_var h]; simp only [List.length_append, leL_len, catE]; omega
    | false => rw [hts_fix h]; simp only [List.length_append, catE]; omega
theorem hts_congr {vr vr' : Nat → Bool} {E E' : Nat → List UInt8} {fr : Nat} : ∀ {n : Nat}, (∀ j, j < n → vr j = vr' j ∧ E j = E' j) → hts vr E fr n = hts vr' E' fr n
  | 0, _ => rfl
  | n + 1, h => by simp only [hts]; rw [hts_congr (fun j hj => h j (by omega)), (h n (by omega)).1, (h n (by omega)).2]
/-- What an item writes by itself. -/
def ssOwn (n : Int) (x : It) : List UInt8 := if x.k = 1 ∨ x.k = 2 ∨ x.k = 8 ∨ x.k = 9 then leL x.n (wid x.k n) else if x.k = 3 ∨ x.k = 4 then x.s.data.toList else []
def ssE (ts : List (Int × Int)) (vs : List It) : Nat → Nat → Nat → List UInt8
  | 0, _, _ => []
  | f + 1, a, q => match ts[a]? with
    | none => []
    | some t => match vs[q]? with
      | none => []
      | some x => if t.1 = 5 ∨ t.1 = 6 ∨ t.1 = 7 then
          (hts (fun j => decide (szT ts f (pl ts f a t.1 x.n j) < 0)) (fun j => ssE ts vs f (pl ts f a t.1 x.n j) ((vit (ve ts vs f) (pl ts f a t.1 x.n) (q + 1) j).getD 0)) (frt (fun j => slt (szT ts f (pl ts f a t.1 x.n j))) (np t.1 x.n)) (np t.1 x.n)).1 ++
          (hts (fun j => decide (szT ts f (pl ts f a t.1 x.n j) < 0)) (fun j => ssE ts vs f (pl ts f a t.1 x.n j) ((vit (ve ts vs f) (pl ts f a t.1 x.n) (q + 1) j).getD 0)) (frt (fun j => slt (szT ts f (pl ts f a t.1 x.n j))) (np t.1 x.n)) (np t.1 x.n)).2
        else ssOwn t.2 x ++ cat (ssE ts vs f) (ve ts vs f) (pl ts f a t.1 x.n) (q + 1) (np t.1 x.n)
theorem ssE_ser {ts : List (Int × Int)} {vs : List It} {f a q : Nat} (ha : a < ts.length) (hq : q < vs.length) (hk : ts[a].1 = 5 ∨ ts[a].1 = 6 ∨ ts[a].1 = 7) : ssE ts vs (f + 1) a q =
    (hts (fun j => decide (szT ts f (pl ts f a ts[a].1 vs[q].n j) < 0)) (fun j => ssE ts vs f (pl ts f a ts[a].1 vs[q].n j) ((vit (ve ts vs f) (pl ts f a ts[a].1 vs[q].n) (q + 1) j).getD 0)) (frt (fun j => slt (szT ts f (pl ts f a ts[a].1 vs[q].n j))) (np ts[a].1 vs[q].n)) (np ts[a].1 vs[q].n)).1 ++
    (hts (fun j => decide (szT ts f (pl ts f a ts[a].1 vs[q].n j) < 0)) (fun j => ssE ts vs f (pl ts f a ts[a].1 vs[q].n j) ((vit (ve ts vs f) (pl ts f a ts[a].1 vs[q].n) (q + 1) j).getD 0)) (frt (fun j => slt (szT ts f (pl ts f a ts[a].1 vs[q].n j))) (np ts[a].1 vs[q].n)) (np ts[a].1 vs[q].n)).2 := by
  simp only [ssE, List.getElem?_eq_getElem ha, List.getElem?_eq_getElem hq]
  rw [if_pos hk]
theorem ssE_flat {ts : List (Int × Int)} {vs : List It} {f a q : Nat} (ha : a < ts.length) (hq : q < vs.length) (hk : ¬ (ts[a].1 = 5 ∨ ts[a].1 = 6 ∨ ts[a].1 = 7)) : ssE ts vs (f + 1) a q = ssOwn ts[a].2 vs[q] ++ cat (ssE ts vs f) (ve ts vs f) (pl ts f a ts[a].1 vs[q].n) (q + 1) (np ts[a].1 vs[q].n) := by
  simp only [ssE, List.getElem?_eq_getElem ha, List.getElem?_eq_getElem hq]
  rw [if_neg hk]
theorem ssOwn_len {k n : Int} {x : It} (hok : tyOk k n = true) (hk : x.k = k) (hs : x.s.size ≤ 1048577) : (ssOwn n x).length ≤ 1048590 := by
  have h1 : x.s.data.toList.length = x.s.size := Array.length_toList
  have h2 := wid_le hok
  subst hk
  unfold ssOwn
  repeat' split
  all_goals (try simp only [leL_len, List.length_nil])
  all_goals omega
theorem ss_parts_len {ts : List (Int × Int)} {vs : List It} {f a e q m : Nat} (ha : a < ts.length) (hok : tyOk ts[a].1 ts[a].2 = true) (hit : iter (en ts f) (a + 1) (kids ts[a].1 ts[a].2) = some e) (hf : fitsN ts[a].1 ts[a].2 m = true)
    (ih : ∀ {a e q q' : Nat}, en ts f a = some e → ve ts vs f a q = some q' → (ssE ts vs f a q).length + q * 1048600 + 4 ≤ q' * 1048600) :
    ∀ j x, j ≤ np ts[a].1 m → vit (ve ts vs f) (pl ts f a ts[a].1 m) (q + 1) j = some x → (cat (ssE ts vs f) (ve ts vs f) (pl ts f a ts[a].1 m) (q + 1) j).length + j * 4 + (q + 1) * 1048600 ≤ x * 1048600 := by
  intro j
  induction j with
  | zero => intro x _ hx; cases hx; simp [cat]
  | succ j ihj =>
    intro x hj hx
    obtain ⟨y, hy⟩ := vit_part hx (Nat.le_succ j)
    rw [cat_succ hy, List.length_append]
    have h2 := ihj y (by omega) hy
    rw [vit_succ, hy] at hx
    obtain ⟨e', he'⟩ := pl_ok ha hok hit hf (show j < np ts[a].1 m by omega)
    have h3 := ih he' (show ve ts vs f _ y = some x from hx)
    omega
theorem ssE_len {ts : List (Int × Int)} {vs : List It} (hs : ∀ x ∈ vs, x.s.size ≤ 1048577) : ∀ {f a e q q' : Nat}, en ts f a = some e → ve ts vs f a q = some q' → (ssE ts vs f a q).length + q * 1048600 + 4 ≤ q' * 1048600 := by
  intro f
  induction f with
  | zero => intro a e q q' h; cases h
  | succ f ih =>
    intro a e q q' he h
    obtain ⟨ha, hq, hfit, hv⟩ := ve_inv h
    obtain ⟨_, hok, hit⟩ := en_inv he
    have hfit' : vs[q].k = ts[a].1 ∧ fitsN ts[a].1 ts[a].2 vs[q].n = true := by simp [fitsI] at hfit; exact ⟨hfit.1, hfit.2.1⟩
    have h4 := ss_parts_len ha hok hit hfit'.2 (fun he hv => ih he hv) _ _ (Nat.le_refl _) hv
    by_cases hk : ts[a].1 = 5 ∨ ts[a].1 = 6 ∨ ts[a].1 = 7
    · rw [ssE_ser ha hq hk, List.length_append]
      rw [cat_catE] at h4
      have h5 := hts_len (vr := fun j => decide (szT ts f (pl ts f a ts[a].1 vs[q].n j) < 0)) (E := fun j => ssE ts vs f (pl ts f a ts[a].1 vs[q].n j) ((vit (ve ts vs f) (pl ts f a ts[a].1 vs[q].n) (q + 1) j).getD 0)) (fr := frt (fun j => slt (szT ts f (pl ts f a ts[a].1 vs[q].n j))) (np ts[a].1 vs[q].n)) (np ts[a].1 vs[q].n)
      omega
    · rw [ssE_flat ha hq hk, List.length_append]
      have h1 := ssOwn_len hok hfit'.1 (hs vs[q] (List.getElem_mem _))
      omega
theorem ssE_le {ts : List (Int × Int)} {vs : List It} (hs : ∀ x ∈ vs, x.s.size ≤ 1048577) (hl : vs.length ≤ 200) {f a e q q' : Nat} (he : en ts f a = some e) (hv : ve ts vs f a q = some q') : (ssE ts vs f a q).length ≤ 209720000 := by
  have h1 := ssE_len hs he hv
  have h2 := (ve_lt hv).2
  have h3 : q' * 1048600 ≤ 200 * 1048600 := Nat.mul_le_mul_right _ (by omega)
  omega
theorem slt_le {ts : List (Int × Int)} {f a : Nat} (hf : f ≤ 7) : slt (szT ts f a) ≤ 134217728 := by
  have := szT_small (ts := ts) (f := f) (a := a) hf
  unfold slt
  split <;> omega
/-- The heads and the tails of a value's first parts have no more bytes than so many. -/
theorem ht_le {ts : List (Int × Int)} {vs : List It} (hs : ∀ x ∈ vs, x.s.size ≤ 1048577) (hl : vs.length ≤ 200) {f a e q j x fr : Nat} (ha : a < ts.length) (hq : q < vs.length) (hok : tyOk ts[a].1 ts[a].2 = true) (hit : iter (en ts f) (a + 1) (kids ts[a].1 ts[a].2) = some e) (hfit : fitsI ts[a].1 ts[a].2 vs[q] = true)
    (hj : j ≤ np ts[a].1 vs[q].n) (hx : vit (ve ts vs f) (pl ts f a ts[a].1 vs[q].n) (q + 1) j = some x) :
    (hts (fun j => decide (szT ts f (pl ts f a ts[a].1 vs[q].n j) < 0)) (fun j => ssE ts vs f (pl ts f a ts[a].1 vs[q].n j) ((vit (ve ts vs f) (pl ts f a ts[a].1 vs[q].n) (q + 1) j).getD 0)) fr j).1.length + (hts (fun j => decide (szT ts f (pl ts f a ts[a].1 vs[q].n j) < 0)) (fun j => ssE ts vs f (pl ts f a ts[a].1 vs[q].n j) ((vit (ve ts vs f) (pl ts f a ts[a].1 vs[q].n) (q + 1) j).getD 0)) fr j).2.length ≤ 209720000 := by
  have hfit' : fitsN ts[a].1 ts[a].2 vs[q].n = true := by simp [fitsI] at hfit; exact hfit.2.1
  have h4 := ss_parts_len (q := q) ha hok hit hfit' (fun he hv => ssE_len hs he hv) j x hj hx
  rw [cat_catE] at h4
  have h5 := hts_len (vr := fun j => decide (szT ts f (pl ts f a ts[a].1 vs[q].n j) < 0)) (E := fun j => ssE ts vs f (pl ts f a ts[a].1 vs[q].n j) ((vit (ve ts vs f) (pl ts f a ts[a].1 vs[q].n) (q + 1) j).getD 0)) (fr := fr) j
  have h6 := (vit_lt (show q + 1 ≤ vs.length by omega) hx).2
  have h7 : x * 1048600 ≤ 200 * 1048600 := Nat.mul_le_mul_right _ (by omega)
  omega
end Go.Proofs.YtjpdhenmhffmeaaDoor
