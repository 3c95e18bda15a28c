/- PDa, DrawA, PDr, DrawRl: one text. -/
import Derived.Test.YtdncnjmlicdamaaGreatDoorSBi
import Derived.Test.YtdncnjmlicdamaaGreatDoorDrawY
import Derived.Test.YtdncnjmlicdamaaGreatDoorDrawEx
import Derived.Test.YtdncnjmlicdamaaGreatDoorRDp
namespace Go.Proofs.YtdncnjmlicdamaaGreatDoor
open Go.RowKit
set_option linter.unusedVariables false
theorem own_small {cnt : Nat → List UInt8} {k n : Int} {x : It} (hc : ∀ m, (cnt m).length ≤ 9) (hok : tyOk k n = true) (hk : x.k = k) (hs : x.s.size ≤ 1000) : (own cnt n x).length ≤ 1020 := by
  have h1 : x.s.data.toList.length = x.s.size := Array.length_toList
  have h2 := hc x.s.size
  have h3 := hc x.n
  have h4 : (n / 8).toNat ≤ 25 := by simp only [tyOk, decide_eq_true_eq] at hok; omega
  unfold own
  repeat' split
  all_goals (try simp only [leL_len, List.length_append, List.length_nil])
  all_goals omega
theorem scE_small {cnt : Nat → List UInt8} {ts : List (Int × Int)} {vs : List It} (hc : ∀ m, (cnt m).length ≤ 9) (hs : ∀ x ∈ vs, x.s.size ≤ 1000) : ∀ {f a e q q' : Nat}, en ts f a = some e → ve ts vs f a q = some q' → (scE cnt ts vs f a q).length + q * 1020 ≤ q' * 1020 := by
  intro f
  induction f with
  | zero => intro a e q q' h; cases h
  | succ f ih =>
    intro a e q q' he h
    obtain ⟨ha, hq, hfit, hv⟩ := ve_inv h
    obtain ⟨_, hok, hit⟩ := en_inv he
    have hfit' : vs[q].k = ts[a].1 ∧ fitsN ts[a].1 ts[a].2 vs[q].n = true := by simp [fitsI] at hfit; exact ⟨hfit.1, hfit.2.1⟩
    rw [scE_ok ha hq, List.length_append]
    have h1 := own_small hc hok hfit'.1 (hs vs[q] (List.getElem_mem _))
    have key : ∀ j x, j ≤ np ts[a].1 vs[q].n → vit (ve ts vs f) (pl ts f a ts[a].1 vs[q].n) (q + 1) j = some x → (cat (scE cnt ts vs f) (ve ts vs f) (pl ts f a ts[a].1 vs[q].n) (q + 1) j).length + (q + 1) * 1020 ≤ x * 1020 := by
      intro j
      induction j with
      | zero => intro x _ hx; cases hx; simp [cat]
      | succ j ihj =>
        intro x hj hx
        obtain ⟨y, hy⟩ := vit_part hx (Nat.le_succ j)
        rw [cat_succ hy, List.length_append]
        have h2 := ihj y (by omega) hy
        rw [vit_succ, hy] at hx
        obtain ⟨e', he'⟩ := pl_ok ha hok hit hfit'.2 (show j < np ts[a].1 vs[q].n by omega)
        have h3 := ih he' (show ve ts vs f _ y = some x from hx)
        omega
    have h4 := key _ _ (Nat.le_refl _) hv
    omega
theorem typ_ve {ts : List (Int × Int)} {vs : List It} (h : typedB ts vs = true) : schOk ts = true ∧ vs.length ≤ 200 ∧ ve ts vs 7 0 0 = some vs.length := by
  unfold typedB at h
  simp only [Bool.and_eq_true, decide_eq_true_eq, beq_iff_eq] at h
  exact ⟨h.1, h.2.1, h.2.2⟩
/-- A value's bytes, whatever stands behind them. -/
theorem scD_enc {cnt : Nat → List UInt8} {get : List UInt8 → Nat × Nat × Bool} (hc : CntGet cnt get) {ts : List (Int × Int)} {vs : List It} (ht : typedB ts vs = true) (t : List UInt8) : scD get ts 7 0 (scE cnt ts vs 7 0 0 ++ t) = some (vs, (scE cnt ts vs 7 0 0).length) := by
  obtain ⟨h1, h2, h3⟩ := typ_ve ht
  have := scD_put hc (schOk_iff.1 h1).2 h3 t
  simpa using this
theorem ba_of (l : List UInt8) : (⟨l.toArray⟩ : ByteArray).data.toList = l := by simp
theorem ba_len (l : List UInt8) : (⟨l.toArray⟩ : ByteArray).size = l.length := by show l.toArray.size = _; simp
theorem decR_enc {cnt : Nat → List UInt8} {get : List UInt8 → Nat × Nat × Bool} (hc : CntGet cnt get) {ts : List (Int × Int)} {vs : List It} (ht : typedB ts vs = true) : decR get true ts ⟨(scE cnt ts vs 7 0 0).toArray⟩ = some vs := by
  refine decR_yes ?_ (typ_ve ht).2.1
  rw [ba_of, ba_len]
  have := scD_enc hc ht []
  rwa [List.append_nil] at this
/-- A byte more. -/
theorem decR_more {cnt : Nat → List UInt8} {get : List UInt8 → Nat × Nat × Bool} (hc : CntGet cnt get) {ts : List (Int × Int)} {vs : List It} (ht : typedB ts vs = true) (ok : Bool) (c : UInt8) : decR get ok ts ⟨(scE cnt ts vs 7 0 0 ++ [c]).toArray⟩ = none := by
  have h := scD_enc hc ht [c]
  refine decR_bad (l := vs) (m := (scE cnt ts vs 7 0 0).length) (by rw [ba_of]; exact h) (fun hn => ?_)
  have := hn.1
  rw [ba_len, List.length_append] at this
  simp at this
/-- What is read is a value, and that is what stands there. -/
theorem decR_back {cnt : Nat → List UInt8} {get : List UInt8 → Nat × Nat × Bool} (hc : CntGet cnt get) {ok : Bool} {ts : List (Int × Int)} {b : ByteArray} {l : List It} (hs : ok = true → schOk ts = true) (h : decR get ok ts b = some l) : typedB ts l = true ∧ scE cnt ts l 7 0 0 = b.data.toList := by
  obtain ⟨h1, h2, h3⟩ := decR_inv h
  have hk := hs h1
  refine ⟨by rw [scD_typed hk h2]; simpa using h3, ?_⟩
  have := (scD_back hc (schOk_iff.1 hk).2 h2).2.2 [] []
  simp only [List.nil_append, List.append_nil, List.length_nil] at this
  rw [this]
  exact List.take_of_length_le (by rw [lst_len]; exact Nat.le_refl _)
/-- Some last bytes less. -/
theorem decR_less {cnt : Nat → List UInt8} {get : List UInt8 → Nat × Nat × Bool} (hc : CntGet cnt get) {ts : List (Int × Int)} {vs : List It} (ht : typedB ts vs = true) (ok : Bool) (hs : ok = true → schOk ts = true) {p : Nat} (hp : p < (scE cnt ts vs 7 0 0).length) : decR get ok ts ⟨((scE cnt ts vs 7 0 0).take p).toArray⟩ = none := by
  cases h : decR get ok ts ⟨((scE cnt ts vs 7 0 0).take p).toArray⟩ with
  | none => rfl
  | some l =>
    obtain ⟨h1, h2⟩ := decR_back hc hs h
    rw [ba_of] at h2
    have h3 := scD_enc hc h1 ((scE cnt ts vs 7 0 0).drop p)
    rw [h2, List.take_append_drop] at h3
    have h4 := scD_enc hc ht []
    rw [List.append_nil, h3] at h4
    simp only [Option.some.injEq, Prod.mk.injEq, List.length_take] at h4
    omega
theorem enc_pos {cnt : Nat → List UInt8} {get : List UInt8 → Nat × Nat × Bool} (hc : CntGet cnt get) (hg : get [] = (0, 0, false)) {ts : List (Int × Int)} {vs : List It} (ht : typedB ts vs = true) : 0 < (scE cnt ts vs 7 0 0).length := by
  obtain ⟨h1, h2, h3⟩ := typ_ve ht
  exact scE_pos hc hg (schOk_iff.1 h1).2 h3
theorem enc_small {cnt : Nat → List UInt8} (hc : ∀ m, (cnt m).length ≤ 9) {ts : List (Int × Int)} {vs : List It} (hs : ∀ x ∈ vs, x.s.size ≤ 1000) (ht : typedB ts vs = true) : (scE cnt ts vs 7 0 0).length ≤ 204000 := by
  obtain ⟨h1, h2, h3⟩ := typ_ve ht
  have := scE_small hc hs (schOk_iff.1 h1).2 h3
  omega
end Go.Proofs.YtdncnjmlicdamaaGreatDoor
namespace Go.Proofs.YtdncnjmlicdamaaGreatDoor
open Go.RowKit
set_option linter.unusedVariables false
set_option maxRecDepth 100000 in
set_option maxHeartbeats 1000000 in
theorem wire_any (B0 B : Nat) (a : Option Addr) (len cap : Nat) (s : ByteArray) (w : World) (h : RdAt B0 B a len cap w) (hs : s.size ≤ 1000000) : Calls Tryz.prog 25 #[.pointer (some ⟨B, 0, none⟩), .string s] w fun e w' => (∃ t : ByteArray, t.size ≤ s.size + 1 ∧ e = .returned (.string t)) ∧ RdAt B0 B a len cap w' ∧ w.grownBy w' (some B) := by
  have hsi : (s.size : Int) ≤ 1000000 := by omega
  go_enter Tryz.func25, Tryz.ntmps25
  go_wp2_with fail
  refine (below_any B0 B a len cap 8 _ h (by decide) (by decide)).mono ?_
  rintro e w1 ⟨⟨m, hm, rfl⟩, hr1, hb1⟩
  have HR1 : Hid (RdAt B0 B a len cap w1) := hr1
  have HB1 : Hid (w.grownBy w1 (some B)) := hb1
  clear hr1 hb1 h
  by_cases m0 : m = 0
  · subst m0
    go_wp2_with fail
    refine (hurt_any B0 B a len cap s _ HR1.out hs).mono ?_
    rintro e w2 ⟨⟨t, ht, rfl⟩, hr2, hb2⟩
    go_wp2_with fail
    go_ret
    exact ⟨⟨t, ht, rfl⟩, hr2, gb_trans HB1.out hb2⟩
  · have i0 : ((m : Int) == 0) = false := by rw [beq_eq_false_iff_ne]; omega
    by_cases m1 : m = 1
    · subst m1
      go_wp2_with fail
      refine (below_any B0 B a len cap _ _ HR1.out (by omega) (by omega)).mono ?_
      rintro e w2 ⟨⟨v, hv, rfl⟩, hr2, hb2⟩
      have hvi : (v : Int) ≤ (s.size : Int) := by omega
      go_wp2_with fail
      go_ret
      exact ⟨⟨s.extract 0 v, by simp; omega, rfl⟩, hr2, gb_trans HB1.out hb2⟩
    · have i1 : ((m : Int) == 1) = false := by rw [beq_eq_false_iff_ne]; omega
      by_cases m2 : m = 2
      · subst m2
        have hsz : ¬ (9223372036854775807 < s.size + ByteArray.size ⟨#[0]⟩) := by show ¬ (9223372036854775807 < s.size + 1); omega
        go_wp2_with fail
        go_ret
        exact ⟨⟨s ++ ⟨#[0]⟩, by rw [ByteArray.size_append]; exact Nat.le_refl _, rfl⟩, HR1.out, HB1.out⟩
      · have i2 : ((m : Int) == 2) = false := by rw [beq_eq_false_iff_ne]; omega
        go_wp2_with fail
        go_ret
        exact ⟨⟨s, by omega, rfl⟩, HR1.out, HB1.out⟩
/-- What a draw of a schema and bytes leaves. -/
def DrawSPost (w : World) (e : Ending) (w' : World) : Prop := ∃ (v : Value) (ts : List (Int × Int)) (t : ByteArray), e = .returned (.tuple #[v, .string t]) ∧ w'.ownsRow w.heap.size 88 2 v ts.length (flatT ts) ∧ ts.length ≤ 24 ∧ wfT ts ∧ schOk ts = true ∧ t.size ≤ 1000000 ∧ Below w.heap.size w w'
theorem wfI_it {vs : List It} (h : wfI vs) : ∀ x ∈ vs, inI x.k ∧ x.n < 18446744073709551616 ∧ x.s.size ≤ 1048577 := fun x hx => by
  obtain ⟨h1, h2, h3⟩ := h x hx
  exact ⟨h1, h2, by omega⟩
end Go.Proofs.YtdncnjmlicdamaaGreatDoor
namespace Go.Proofs.YtdncnjmlicdamaaGreatDoor
open Go.RowKit
set_option linter.unusedVariables false
theorem rl_small {ts : List (Int × Int)} {vs : List It} (ht : typedB ts vs = true) : (rlE ts vs 7 0 0).length ≤ 204000 := by
  obtain ⟨h1, h2, h3⟩ := rl_typ_ve ht
  have := rlE_le (typed_ns ht) h2 (schOk_iff.1 h1).2 h3
  omega
theorem rl_pos {ts : List (Int × Int)} {vs : List It} (ht : typedB ts vs = true) : 0 < (rlE ts vs 7 0 0).length := by
  obtain ⟨h1, h2, h3⟩ := rl_typ_ve ht
  have := rlE_pos (typed_ns ht) h2 (schOk_iff.1 h1).2 h3 []
  rw [List.append_nil] at this
  exact List.length_pos_iff.2 this
theorem rlR_more {ts : List (Int × Int)} {vs : List It} (ht : typedB ts vs = true) (ok : Bool) (c : UInt8) : rlR ok ts (rlE ts vs 7 0 0 ++ [c]) = none := by
  have h := rlD_enc (st := true) ht [c]
  unfold rlR
  rw [h]
  cases ok <;> simp [whole]
theorem rlR_less {ts : List (Int × Int)} {vs : List It} (ht : typedB ts vs = true) (ok : Bool) (hs : ok = true → schOk ts = true) {p : Nat} (hp : p < (rlE ts vs 7 0 0).length) : rlR ok ts ((rlE ts vs 7 0 0).take p) = none := by
  cases h : rlR ok ts ((rlE ts vs 7 0 0).take p) with
  | none => rfl
  | some l =>
    obtain ⟨h1, h2⟩ := rlR_back hs h
    have h3 := rlD_enc (st := true) h1 ((rlE ts vs 7 0 0).drop p)
    rw [h2, List.take_append_drop] at h3
    have h4 := rlD_enc (st := true) ht []
    rw [List.append_nil, h3] at h4
    simp only [Option.some.injEq, Prod.mk.injEq] at h4
    have h5 := congrArg List.length h4.2
    rw [List.length_drop] at h5
    simp at h5
    omega
end Go.Proofs.YtdncnjmlicdamaaGreatDoor
namespace Go.Proofs.YtdncnjmlicdamaaGreatDoor
open Go.RowKit
set_option linter.unusedVariables false
set_option maxRecDepth 100000 in
set_option maxHeartbeats 2000000 in
theorem DrawRlpDec_any (B0 : Nat) (a : Option Addr) (len cap : Nat) (w : World) (hB : B0 ≤ w.heap.size) (hc : CodeAt B0 a len w) (hl : len ≤ 1048576) : Calls Tryz.prog 12 #[.slice a len cap] w fun e w' => DrawSPost w e w' := by
  go_enter Tryz.func12, Tryz.ntmps12
  go_wp2_with fail
  refine (l1Open_any B0 a len cap _ hB hc hl).mono ?_
  rintro e w1 ⟨rfl, hr1, hb1⟩
  have hs1 := hr1.size
  go_wp2_with fail
  refine (schema_any B0 _ a len cap _ hr1).mono ?_
  rintro e w2 ⟨⟨v, ts, rfl, hown, h0, h24, hwf, hsch⟩, hr2, hg2⟩
  have HO2 : Hid (w2.ownsRow w1.heap.size 88 2 v ts.length (flatT ts)) := hown
  have HV : Hid (Calls Tryz.prog 24 #[.pointer (some ⟨w.heap.size, 0, none⟩), v, .int .i64 0] w2 fun e w' => VaPost B0 w.heap.size a len cap 7 w2 e w') :=
    value_any B0 w.heap.size a len cap ts 7 0 ts.length v w2 (Nat.le_refl _) (schOk_iff.1 hsch).2 hr2 (fun w' hg => own_typs (World.ownsRow.kept hown hg (own_ne2 hown hs1)) (by omega) hwf)
  have HWT : Hid (wfT ts ∧ schOk ts = true) := ⟨hwf, hsch⟩
  have HB2 : Hid (Below w.heap.size w w2) := hb1.trans (gb_below hg2 (Nat.le_refl _) hs1)
  have hs2 : w1.heap.size ≤ w2.heap.size := hg2.size
  clear hown hwf hr1 hr2 hg2 hb1 hsch
  go_wp2_with fail
  refine Calls.mono HV.out ?_
  rintro e w3 ⟨⟨v3, vs, rfl, hown3, h3, h3', hwf3⟩, hr3, hg3⟩
  have HO3 : Hid (w3.ownsRow w1.heap.size 88 2 v ts.length (flatT ts)) := World.ownsRow.kept HO2.out hg3 (own_ne2 HO2.out hs1)
  have HT3 : Hid (IsTyps w3.heap.size w3 v ts) := own_typs HO3.out (by omega) HWT.out.1
  have HI3 : Hid (IsItems w3.heap.size w3 v3 vs) := OwnIt.items hown3 (by omega) (wfI_it hwf3)
  have HR3 : Hid (RdAt B0 w.heap.size a len cap w3) := hr3
  have HB3 : Hid (Below w.heap.size w w3) := HB2.out.trans (gb_below hg3 (Nat.le_refl _) (by omega))
  have HEN : Hid (Calls Tryz.prog 9 #[v, v3] w3 fun e w' => e = .returned (.tuple #[.string (encB (typedB ts vs) (rlpL ts vs)), .bool (typedB ts vs)]) ∧ Below w3.heap.size w3 w') := specRlpEnc_any ts vs v v3 w3 HT3.out HI3.out
  have hD : ((encB (typedB ts vs) (rlpL ts vs))).size ≤ 204000 := by
    cases ho : (typedB ts vs) with
    | false => simp [encB, ByteArray.size]
    | true =>
      have hh : typedB ts vs = true := by first | exact ho | (simp only [Bool.and_eq_true] at ho; exact ho.2)
      show (⟨(rlE ts vs 7 0 0).toArray⟩ : ByteArray).size ≤ 204000
      rw [ba_len]
      exact rl_small hh
  have hs3 : w2.heap.size ≤ w3.heap.size := hg3.size
  obtain ⟨D, hDE⟩ : ∃ D, (encB (typedB ts vs) (rlpL ts vs)) = D := ⟨_, rfl⟩
  obtain ⟨o, hoE⟩ : ∃ o, (typedB ts vs) = o := ⟨_, rfl⟩
  rw [hDE] at HEN hD
  rw [hoE] at HEN
  clear hown3 hr3 hg3 hwf3 HV hDE hoE
  go_wp2_with fail
  refine Calls.mono HEN.out ?_
  rintro e w4 ⟨rfl, hb4⟩
  have HO4 : Hid (w4.ownsRow w1.heap.size 88 2 v ts.length (flatT ts)) := World.ownsRow.kept HO3.out (gb_bel hb4) (by cases v.ownBlock <;> simp)
  have HR4 : Hid (RdAt B0 w.heap.size a len cap w4) := HR3.out.full hb4
  have HB4 : Hid (Below w.heap.size w w4) := HB3.out.trans (hb4.mono HB3.out.size)
  have hs4 : w3.heap.size ≤ w4.heap.size := hb4.size
  clear hb4
  go_wp2_with fail
  refine (wire_any B0 w.heap.size a len cap D _ HR4.out (by omega)).mono ?_
  rintro e w5 ⟨⟨t, ht, rfl⟩, hr5, hg5⟩
  have HO5 : Hid (w5.ownsRow w.heap.size 88 2 v ts.length (flatT ts)) := own_base (World.ownsRow.kept HO4.out hg5 (own_ne2 HO4.out hs1)) (by omega)
  have HB5 : Hid (Below w.heap.size w w5) := HB4.out.trans (gb_below hg5 (Nat.le_refl _) (by omega))
  clear hr5 hg5
  go_wp2_with fail
  go_ret2
  exact ⟨v, ts, t, rfl, HO5.out, h24, HWT.out.1, HWT.out.2, by omega, HB5.out⟩
end Go.Proofs.YtdncnjmlicdamaaGreatDoor
