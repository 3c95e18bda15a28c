/- What is written is read; what is read, written again, is that: SCALE and Bitcoin, both sides' own words. -/
import Derived.Test.YtichgnddbnibjaaGreatDoorSBi
namespace Go.Proofs.YtichgnddbnibjaaGreatDoor
open Go.RowKit
set_option linter.unusedVariables false
theorem own_small {cnt : Nat → List UInt8} {k n : Int} {x : It} (hc : ∀ m, (cnt m).length ≤ 9) (hok : tyOk k n = true) (hk : x.k = k) (hs : x.s.size ≤ 1000) : (own cnt n x).length ≤ 1020 := by
  have h1 : x.s.data.toList.length = x.s.size := Array.length_toList
  have h2 := hc x.s.size
  have h3 := hc x.n
  have h4 : (n / 8).toNat ≤ 25 := by simp only [tyOk, decide_eq_true_eq] at hok; omega
  unfold own
  repeat' split
  all_goals (try simp only [leL_len, List.length_append, List.length_nil])
  all_goals omega
theorem scE_small {cnt : Nat → List UInt8} {ts : List (Int × Int)} {vs : List It} (hc : ∀ m, (cnt m).length ≤ 9) (hs : ∀ x ∈ vs, x.s.size ≤ 1000) : ∀ {f a e q q' : Nat}, en ts f a = some e → ve ts vs f a q = some q' → (scE cnt ts vs f a q).length + q * 1020 ≤ q' * 1020 := by
  intro f
  induction f with
  | zero => intro a e q q' h; cases h
  | succ f ih =>
    intro a e q q' he h
    obtain ⟨ha, hq, hfit, hv⟩ := ve_inv h
    obtain ⟨_, hok, hit⟩ := en_inv he
    have hfit' : vs[q].k = ts[a].1 ∧ fitsN ts[a].1 ts[a].2 vs[q].n = true := by simp [fitsI] at hfit; exact ⟨hfit.1, hfit.2.1⟩
    rw [scE_ok ha hq, List.length_append]
    have h1 := own_small hc hok hfit'.1 (hs vs[q] (List.getElem_mem _))
    have key : ∀ j x, j ≤ np ts[a].1 vs[q].n → vit (ve ts vs f) (pl ts f a ts[a].1 vs[q].n) (q + 1) j = some x → (cat (scE cnt ts vs f) (ve ts vs f) (pl ts f a ts[a].1 vs[q].n) (q + 1) j).length + (q + 1) * 1020 ≤ x * 1020 := by
      intro j
      induction j with
      | zero => intro x _ hx; cases hx; simp [cat]
      | succ j ihj =>
        intro x hj hx
        obtain ⟨y, hy⟩ := vit_part hx (Nat.le_succ j)
        rw [cat_succ hy, List.length_append]
        have h2 := ihj y (by omega) hy
        rw [vit_succ, hy] at hx
        obtain ⟨e', he'⟩ := pl_ok ha hok hit hfit'.2 (show j < np ts[a].1 vs[q].n by omega)
        have h3 := ih he' (show ve ts vs f _ y = some x from hx)
        omega
    have h4 := key _ _ (Nat.le_refl _) hv
    omega
theorem typ_ve {ts : List (Int × Int)} {vs : List It} (h : typedB ts vs = true) : schOk ts = true ∧ vs.length ≤ 200 ∧ ve ts vs 7 0 0 = some vs.length := by
  unfold typedB at h
  simp only [Bool.and_eq_true, decide_eq_true_eq, beq_iff_eq] at h
  exact ⟨h.1, h.2.1, h.2.2⟩
/-- A value's bytes, whatever stands behind them. -/
theorem scD_enc {cnt : Nat → List UInt8} {get : List UInt8 → Nat × Nat × Bool} (hc : CntGet cnt get) {ts : List (Int × Int)} {vs : List It} (ht : typedB ts vs = true) (t : List UInt8) : scD get ts 7 0 (scE cnt ts vs 7 0 0 ++ t) = some (vs, (scE cnt ts vs 7 0 0).length) := by
  obtain ⟨h1, h2, h3⟩ := typ_ve ht
  have := scD_put hc (schOk_iff.1 h1).2 h3 t
  simpa using this
theorem ba_of (l : List UInt8) : (⟨l.toArray⟩ : ByteArray).data.toList = l := by simp
theorem ba_len (l : List UInt8) : (⟨l.toArray⟩ : ByteArray).size = l.length := by show l.toArray.size = _; simp
theorem decR_enc {cnt : Nat → List UInt8} {get : List UInt8 → Nat × Nat × Bool} (hc : CntGet cnt get) {ts : List (Int × Int)} {vs : List It} (ht : typedB ts vs = true) : decR get true ts ⟨(scE cnt ts vs 7 0 0).toArray⟩ = some vs := by
  refine decR_yes ?_ (typ_ve ht).2.1
  rw [ba_of, ba_len]
  have := scD_enc hc ht []
  rwa [List.append_nil] at this
/-- A byte more. -/
theorem decR_more {cnt : Nat → List UInt8} {get : List UInt8 → Nat × Nat × Bool} (hc : CntGet cnt get) {ts : List (Int × Int)} {vs : List It} (ht : typedB ts vs = true) (ok : Bool) (c : UInt8) : decR get ok ts ⟨(scE cnt ts vs 7 0 0 ++ [c]).toArray⟩ = none := by
  have h := scD_enc hc ht [c]
  refine decR_bad (l := vs) (m := (scE cnt ts vs 7 0 0).length) (by rw [ba_of]; exact h) (fun hn => ?_)
  have := hn.1
  rw [ba_len, List.length_append] at this
  simp at this
/-- What is read is a value, and that is what stands there. -/
theorem decR_back {cnt : Nat → List UInt8} {get : List UInt8 → Nat × Nat × Bool} (hc : CntGet cnt get) {ok : Bool} {ts : List (Int × Int)} {b : ByteArray} {l : List It} (hs : ok = true → schOk ts = true) (h : decR get ok ts b = some l) : typedB ts l = true ∧ scE cnt ts l 7 0 0 = b.data.toList := by
  obtain ⟨h1, h2, h3⟩ := decR_inv h
  have hk := hs h1
  refine ⟨by rw [scD_typed hk h2]; simpa using h3, ?_⟩
  have := (scD_back hc (schOk_iff.1 hk).2 h2).2.2 [] []
  simp only [List.nil_append, List.append_nil, List.length_nil] at this
  rw [this]
  exact List.take_of_length_le (by rw [lst_len]; exact Nat.le_refl _)
/-- Some last bytes less. -/
theorem decR_less {cnt : Nat → List UInt8} {get : List UInt8 → Nat × Nat × Bool} (hc : CntGet cnt get) {ts : List (Int × Int)} {vs : List It} (ht : typedB ts vs = true) (ok : Bool) (hs : ok = true → schOk ts = true) {p : Nat} (hp : p < (scE cnt ts vs 7 0 0).length) : decR get ok ts ⟨((scE cnt ts vs 7 0 0).take p).toArray⟩ = none := by
  cases h : decR get ok ts ⟨((scE cnt ts vs 7 0 0).take p).toArray⟩ with
  | none => rfl
  | some l =>
    obtain ⟨h1, h2⟩ := decR_back hc hs h
    rw [ba_of] at h2
    have h3 := scD_enc hc h1 ((scE cnt ts vs 7 0 0).drop p)
    rw [h2, List.take_append_drop] at h3
    have h4 := scD_enc hc ht []
    rw [List.append_nil, h3] at h4
    simp only [Option.some.injEq, Prod.mk.injEq, List.length_take] at h4
    omega
theorem enc_pos {cnt : Nat → List UInt8} {get : List UInt8 → Nat × Nat × Bool} (hc : CntGet cnt get) (hg : get [] = (0, 0, false)) {ts : List (Int × Int)} {vs : List It} (ht : typedB ts vs = true) : 0 < (scE cnt ts vs 7 0 0).length := by
  obtain ⟨h1, h2, h3⟩ := typ_ve ht
  exact scE_pos hc hg (schOk_iff.1 h1).2 h3
theorem enc_small {cnt : Nat → List UInt8} (hc : ∀ m, (cnt m).length ≤ 9) {ts : List (Int × Int)} {vs : List It} (hs : ∀ x ∈ vs, x.s.size ≤ 1000) (ht : typedB ts vs = true) : (scE cnt ts vs 7 0 0).length ≤ 204000 := by
  obtain ⟨h1, h2, h3⟩ := typ_ve ht
  have := scE_small hc hs (schOk_iff.1 h1).2 h3
  omega
end Go.Proofs.YtichgnddbnibjaaGreatDoor
