/- WPa, WPb, WPc: one text. -/
import Derived.Test.YtocealohiflheaaDoorS7b
import Derived.Test.YtocealohiflheaaDoorL1c
import Derived.Test.YtocealohiflheaaDoorS7c
import Derived.Test.YtocealohiflheaaDoorSAa
import Derived.Deep.RegionHeld3
namespace Go.Proofs.YtocealohiflheaaDoor
set_option linter.unusedVariables false
/-- Is it written as a number? -/
def isNk (k : Int) : Bool := decide (k = 1 ∨ k = 2)
/-- The tag of the i-th field. -/
def tgN (i : Nat) (k : Int) : Nat := 8 * (i + 1) + (if isNk k then 0 else 2)
/-- A part behind its tag. -/
def prP (i : Nat) (k : Int) (B : List UInt8) : List UInt8 := putVar (tgN i k) ++ (if isNk k then B else putVar B.length ++ B)
def knd (ts : List (Int × Int)) (a : Nat) : Int := (ts[a]?.map (·.1)).getD 0
theorem knd_ok {ts : List (Int × Int)} {a : Nat} (h : a < ts.length) : knd ts a = ts[a].1 := by simp [knd, List.getElem?_eq_getElem h]
def isNo (x : It) : Bool := decide (x.n = 0) && decide (x.s.size = 0)
/-- Is each of its parts behind a tag of its own? -/
def eachK (k k' : Int) : Bool := decide (k = 6 ∨ 8 ≤ k) || (decide (k = 5) && !isNk k')
/-- What stands behind the tag. -/
def prW (ts : List (Int × Int)) (vs : List It) (f : Nat) (E : Option Nat → Nat → Nat → List UInt8) (a q : Nat) (k : Int) (x : It) : List UInt8 :=
  if k = 1 ∨ k = 2 then putVar x.n else if k = 3 ∨ k = 4 then x.s.data.toList else
  if k = 7 then catE (fun j => E (some j) (pl ts f a k x.n j) ((vit (ve ts vs f) (pl ts f a k x.n) (q + 1) j).getD 0)) (np k x.n) else
  if k = 5 ∨ k = 6 then catE (fun j => E none (pl ts f a k x.n j) ((vit (ve ts vs f) (pl ts f a k x.n) (q + 1) j).getD 0)) (np k x.n) else []
/-- A value's bytes: behind its tag (none), or as the i-th field. -/
def prX (ts : List (Int × Int)) (vs : List It) : Nat → Option Nat → Nat → Nat → List UInt8
  | 0, _, _, _ => []
  | f + 1, o, a, q => match ts[a]? with
    | none => []
    | some t => match vs[q]? with
      | none => []
      | some x => match o with
        | none => prW ts vs f (prX ts vs f) a q t.1 x
        | some i => if eachK t.1 (knd ts (a + 1)) then catE (fun j => prP i (knd ts (a + 1)) (prX ts vs f none (pl ts f a t.1 x.n j) ((vit (ve ts vs f) (pl ts f a t.1 x.n) (q + 1) j).getD 0))) (np t.1 x.n)
            else if decide (t.1 = 5 ∨ t.1 ≤ 3) && isNo x then [] else prP i t.1 (prW ts vs f (prX ts vs f) a q t.1 x)
theorem prX_none {ts : List (Int × Int)} {vs : List It} {f a q : Nat} (ha : a < ts.length) (hq : q < vs.length) : prX ts vs (f + 1) none a q = prW ts vs f (prX ts vs f) a q ts[a].1 vs[q] := by
  simp [prX, List.getElem?_eq_getElem ha, List.getElem?_eq_getElem hq]
theorem prX_some {ts : List (Int × Int)} {vs : List It} {f a q i : Nat} (ha : a < ts.length) (hq : q < vs.length) : prX ts vs (f + 1) (some i) a q =
    if eachK ts[a].1 (knd ts (a + 1)) then catE (fun j => prP i (knd ts (a + 1)) (prX ts vs f none (pl ts f a ts[a].1 vs[q].n j) ((vit (ve ts vs f) (pl ts f a ts[a].1 vs[q].n) (q + 1) j).getD 0))) (np ts[a].1 vs[q].n)
    else if decide (ts[a].1 = 5 ∨ ts[a].1 ≤ 3) && isNo vs[q] then [] else prP i ts[a].1 (prX ts vs (f + 1) none a q) := by
  rw [prX_none ha hq]
  simp [prX, List.getElem?_eq_getElem ha, List.getElem?_eq_getElem hq]
theorem varF_len : ∀ (f n : Nat), (varF f n).length ≤ f + 1
  | 0, n => by simp [varF]
  | f + 1, n => by
    unfold varF
    split
    · simp
    · have := varF_len f (n / 128)
      simp only [List.length_cons]; omega
theorem putVar_len (n : Nat) : (putVar n).length ≤ 11 := varF_len 10 n
theorem prP_len (i : Nat) (k : Int) (B : List UInt8) : (prP i k B).length ≤ 22 + B.length := by
  unfold prP
  have h1 := putVar_len (tgN i k)
  have h2 := putVar_len B.length
  split <;> simp only [List.length_append] <;> omega
theorem cat_grow {ts : List (Int × Int)} {vs : List It} {f q n : Nat} {ps : Nat → Nat} {E : Nat → List UInt8} (hE : ∀ j, j < n → ∀ y y', vit (ve ts vs f) ps (q + 1) j = some y → ve ts vs f (ps j) y = some y' → (E j).length + y * 300 ≤ y' * 300) :
    ∀ j x, j ≤ n → vit (ve ts vs f) ps (q + 1) j = some x → (catE E j).length + (q + 1) * 300 ≤ x * 300 := by
  intro j
  induction j with
  | zero => intro x _ hx; cases hx; simp [catE]
  | succ j ihj =>
    intro x hj hx
    obtain ⟨y, hy⟩ := vit_part hx (Nat.le_succ j)
    have h2 := ihj y (by omega) hy
    have hx' := hx
    rw [vit_succ, hy] at hx'
    have h3 := hE j (by omega) y x hy hx'
    simp only [catE, List.length_append]
    omega
theorem fit_pr {k n : Int} {x : It} (hok : tyOk k n = true) (hf : fitsI k n x = true) : x.s.size ≤ 200 := by
  have hf' : x.k = k ∧ fitsN k n x.n = true ∧ fitsS k n x.s.size = true := by simpa [fitsI] using hf
  have h3 := hf'.2.2
  simp only [tyOk, decide_eq_true_eq] at hok
  unfold fitsS at h3
  split at h3
  · have := of_decide_eq_true h3; omega
  · split at h3
    · have := of_decide_eq_true h3; omega
    · have := of_decide_eq_true h3; omega
theorem prX_len {ts : List (Int × Int)} {vs : List It} : ∀ {f a e q q' : Nat}, en ts f a = some e → ve ts vs f a q = some q' → (prX ts vs f none a q).length + 30 + q * 300 ≤ q' * 300 ∧ ∀ i, (prX ts vs f (some i) a q).length + q * 300 ≤ q' * 300 := by
  intro f
  induction f with
  | zero => intro a e q q' h; cases h
  | succ f ih =>
    intro a e q q' he h
    obtain ⟨ha, hq, hfit, hv⟩ := ve_inv h
    obtain ⟨_, hok, hit⟩ := en_inv he
    have hfit' : vs[q].k = ts[a].1 ∧ fitsN ts[a].1 ts[a].2 vs[q].n = true := by simp [fitsI] at hfit; exact ⟨hfit.1, hfit.2.1⟩
    have hs := fit_pr hok hfit
    have hql := (ve_lt h).1
    have part : ∀ j, j < np ts[a].1 vs[q].n → ∀ y y', vit (ve ts vs f) (pl ts f a ts[a].1 vs[q].n) (q + 1) j = some y → ve ts vs f (pl ts f a ts[a].1 vs[q].n j) y = some y' → (prX ts vs f none (pl ts f a ts[a].1 vs[q].n j) y).length + 30 + y * 300 ≤ y' * 300 ∧ ∀ i, (prX ts vs f (some i) (pl ts f a ts[a].1 vs[q].n j) y).length + y * 300 ≤ y' * 300 := fun j hj y y' hy hy' => by
      obtain ⟨e', he'⟩ := pl_ok ha hok hit hfit'.2 hj
      exact ih he' hy'
    have hW : (prW ts vs f (prX ts vs f) a q ts[a].1 vs[q]).length + 30 + q * 300 ≤ q' * 300 := by
      have hsl : vs[q].s.data.toList.length = vs[q].s.size := Array.length_toList
      unfold prW
      split
      · have := putVar_len vs[q].n; omega
      · split
        · omega
        · split
          · have := cat_grow (q := q) (n := np ts[a].1 vs[q].n) (E := fun j => prX ts vs f (some j) (pl ts f a ts[a].1 vs[q].n j) ((vit (ve ts vs f) (pl ts f a ts[a].1 vs[q].n) (q + 1) j).getD 0)) (fun j hj y y' hy hy' => by
              simp only [hy, Option.getD_some]; exact (part j hj y y' hy hy').2 j) _ _ (Nat.le_refl _) hv
            omega
          · split
            · have := cat_grow (q := q) (n := np ts[a].1 vs[q].n) (E := fun j => prX ts vs f none (pl ts f a ts[a].1 vs[q].n j) ((vit (ve ts vs f) (pl ts f a ts[a].1 vs[q].n) (q + 1) j).getD 0)) (fun j hj y y' hy hy' => by
                simp only [hy, Option.getD_some]; have := (part j hj y y' hy hy').1; omega) _ _ (Nat.le_refl _) hv
              omega
            · simp only [List.length_nil]; omega
    rw [prX_none ha hq]
    refine ⟨hW, fun i => ?_⟩
    rw [prX_some ha hq, prX_none ha hq]
    split
    · have := cat_grow (q := q) (n := np ts[a].1 vs[q].n) (E := fun j => prP i (knd ts (a + 1)) (prX ts vs f none (pl ts f a ts[a].1 vs[q].n j) ((vit (ve ts vs f) (pl ts f a ts[a].1 vs[q].n) (q + 1) j).getD 0))) (fun j hj y y' hy hy' => by
        simp only [hy, Option.getD_some]
        have h1 := (part j hj y y' hy hy').1
        have h2 := prP_len i (knd ts (a + 1)) (prX ts vs f none (pl ts f a ts[a].1 vs[q].n j) y)
        omega) _ _ (Nat.le_refl _) hv
      exact Nat.le_trans (Nat.add_le_add_left (by omega) _) this
    · split
      · simp only [List.length_nil]; omega
      · have := prP_len i ts[a].1 (prW ts vs f (prX ts vs f) a q ts[a].1 vs[q])
        omega
theorem prX_le {ts : List (Int × Int)} {vs : List It} (hl : vs.length ≤ 200) {f a e q q' : Nat} (o : Option Nat) (he : en ts f a = some e) (hv : ve ts vs f a q = some q') : (prX ts vs f o a q).length ≤ 60000 := by
  have h1 := prX_len he hv
  have h2 := (ve_lt hv).2
  have h3 : q' * 300 ≤ 200 * 300 := Nat.mul_le_mul_right _ (by omega)
  cases o with
  | none => omega
  | some i => have := h1.2 i; omega
end Go.Proofs.YtocealohiflheaaDoor
namespace Go.Proofs.YtocealohiflheaaDoor
open Go.RowKit Go.Sort
set_option linter.unusedVariables false
theorem ba_pr (l : List UInt8) : ByteArray.size ⟨l.toArray⟩ = l.length := by show l.toArray.size = _; simp
theorem isNk_no {k : Int} (h : ¬ (k = 1 ∨ k = 2)) : isNk k = false := decide_eq_false h
theorem isNumber_any (u : Nat) (k : Int) (w : World) (c0 : w.cell? ⟨u, 0, none⟩ = some (.int .i64 k)) : Calls Tryd.prog 108 #[.pointer (some ⟨u, 0, none⟩)] w fun e w' => e = .returned (.bool (isNk k)) ∧ w' = w := by
  by_cases h1 : k = 1
  · subst h1
    rw [show isNk 1 = true from rfl]
    go_enter Tryd.func108, Tryd.ntmps108
    go_wp2
    go_ret
    exact ⟨rfl, rfl⟩
  · by_cases h2 : k = 2
    · subst h2
      rw [show isNk 2 = true from rfl]
      go_enter Tryd.func108, Tryd.ntmps108
      go_wp2
      go_ret
      exact ⟨rfl, rfl⟩
    · have e1 : (k == 1) = false := beqF h1
      have e2 : (k == 2) = false := beqF h2
      rw [isNk_no (by omega)]
      clear h1 h2
      go_enter Tryd.func108, Tryd.ntmps108
      go_wp2
      go_ret
      exact ⟨rfl, rfl⟩
set_option maxHeartbeats 1000000 in
theorem protoTag_any (i u : Nat) (k : Int) (w : World) (hi : i ≤ 20) (c0 : w.cell? ⟨u, 0, none⟩ = some (.int .i64 k)) : Calls Tryd.prog 114 #[.int .i64 i, .pointer (some ⟨u, 0, none⟩)] w fun e w' => e = .returned (.string ⟨(putVar (tgN i k)).toArray⟩) ∧ Below w.heap.size w w' := by
  have HN : Hid (Calls Tryd.prog 108 #[.pointer (some ⟨u, 0, none⟩)] w fun e w' => e = .returned (.bool (isNk k)) ∧ w' = w) := isNumber_any u k w c0
  clear c0
  cases hk : isNk k with
  | true =>
    rw [hk] at HN
    have HP : Hid (∀ w, Calls Tryd.prog 17 #[.int .u64 (8 * ((i : Int) + 1))] w fun e w' => e = .returned (.string ⟨(putVar (tgN i k)).toArray⟩) ∧ Below w.heap.size w w') := fun w => by
      have := implPutVarint_any (tgN i k) w (by unfold tgN; split <;> omega)
      rwa [show ((tgN i k : Nat) : Int) = 8 * ((i : Int) + 1) by unfold tgN; rw [hk]; simp] at this
    generalize (⟨(putVar (tgN i k)).toArray⟩ : ByteArray) = S at HP ⊢
    clear hk
    go_enter Tryd.func114, Tryd.ntmps114
    go_wp2_with fail
    refine Calls.mono HN.out ?_
    rintro e w1 ⟨rfl, rfl⟩
    go_wp2_with fail
    refine Calls.mono (HP.out _) ?_
    rintro e w2 ⟨rfl, hb2⟩
    go_wp2_with fail
    go_ret
    exact ⟨rfl, hb2⟩
  | false =>
    rw [hk] at HN
    have HP : Hid (∀ w, Calls Tryd.prog 17 #[.int .u64 (8 * ((i : Int) + 1) + 2)] w fun e w' => e = .returned (.string ⟨(putVar (tgN i k)).toArray⟩) ∧ Below w.heap.size w w') := fun w => by
      have := implPutVarint_any (tgN i k) w (by unfold tgN; split <;> omega)
      rwa [show ((tgN i k : Nat) : Int) = 8 * ((i : Int) + 1) + 2 by unfold tgN; rw [hk]; simp] at this
    generalize (⟨(putVar (tgN i k)).toArray⟩ : ByteArray) = S at HP ⊢
    clear hk
    go_enter Tryd.func114, Tryd.ntmps114
    go_wp2_with fail
    refine Calls.mono HN.out ?_
    rintro e w1 ⟨rfl, rfl⟩
    go_wp2_with fail
    refine Calls.mono (HP.out _) ?_
    rintro e w2 ⟨rfl, hb2⟩
    go_wp2_with fail
    go_ret
    exact ⟨rfl, hb2⟩
set_option maxHeartbeats 2000000 in
theorem isNothing_num (z : Value) (k : Int) (m : Nat) (s : ByteArray) (w : World)
    (hc : Calls Tryd.prog 117 #[z] w fun e w' => e = .returned (.agg #[.int .i64 k, .int .u64 m, .string s]) ∧ Below w.heap.size w w') :
    Calls Tryd.prog 111 #[.iface 122 z] w fun e w' => e = .returned (.bool (isNo ⟨k, m, s⟩)) ∧ Below w.heap.size w w' := by
  have HC : Hid (Calls Tryd.prog 117 #[z] w fun e w' => e = .returned (.agg #[.int .i64 k, .int .u64 m, .string s]) ∧ Below w.heap.size w w') := hc
  have hem := str_empty s
  clear hc
  by_cases hm : m = 0
  · subst hm
    by_cases hz : s.size = 0
    · have he : s.toList.isEmpty = true := by rw [hem]; exact decide_eq_true hz
      have HR : Hid (isNo ⟨k, 0, s⟩ = true) := by show _ = _; simp only [isNo, hz]; rfl
      clear hem hz
      go_enter Tryd.func111, Tryd.ntmps111
      go_wp2_with fail
      refine Calls.mono HC.out ?_
      rintro e w1 ⟨rfl, hb1⟩
      have HB : Hid (Below w.heap.size w w1) := hb1
      clear hb1
      go_wp2_with fail
      go_ret
      exact ⟨by rw [HR.out]; try rfl, HB.out.trans ((bel1 _ _).mono HB.out.size)⟩
    · have he : s.toList.isEmpty = false := by rw [hem]; exact decide_eq_false hz
      have HR : Hid (isNo ⟨k, 0, s⟩ = false) := by show _ = _; simp only [isNo, hz]; rfl
      clear hem hz
      go_enter Tryd.func111, Tryd.ntmps111
      go_wp2_with fail
      refine Calls.mono HC.out ?_
      rintro e w1 ⟨rfl, hb1⟩
      have HB : Hid (Below w.heap.size w w1) := hb1
      clear hb1
      go_wp2_with fail
      go_ret
      exact ⟨by rw [HR.out]; try rfl, HB.out.trans ((bel1 _ _).mono HB.out.size)⟩
  · have hm0 : ((m : Int) == 0) = false := by simp; omega
    have HR : Hid (isNo ⟨k, m, s⟩ = false) := by show _ = _; simp only [isNo, hm]; rfl
    clear hem
    go_enter Tryd.func111, Tryd.ntmps111
    go_wp2_with fail
    refine Calls.mono HC.out ?_
    rintro e w1 ⟨rfl, hb1⟩
    have HB : Hid (Below w.heap.size w w1) := hb1
    clear hb1
    go_wp2_with fail
    go_ret
    exact ⟨by rw [HR.out]; try rfl, HB.out.trans ((bel1 _ _).mono HB.out.size)⟩
set_option maxHeartbeats 2000000 in
theorem isNothing_byt (z : Value) (k : Int) (m : Nat) (s : ByteArray) (w : World)
    (hc : Calls Tryd.prog 118 #[z] w fun e w' => e = .returned (.agg #[.int .i64 k, .int .u64 m, .string s]) ∧ Below w.heap.size w w') :
    Calls Tryd.prog 111 #[.iface 124 z] w fun e w' => e = .returned (.bool (isNo ⟨k, m, s⟩)) ∧ Below w.heap.size w w' := by
  have HC : Hid (Calls Tryd.prog 118 #[z] w fun e w' => e = .returned (.agg #[.int .i64 k, .int .u64 m, .string s]) ∧ Below w.heap.size w w') := hc
  have hem := str_empty s
  clear hc
  by_cases hm : m = 0
  · subst hm
    by_cases hz : s.size = 0
    · have he : s.toList.isEmpty = true := by rw [hem]; exact decide_eq_true hz
      have HR : Hid (isNo ⟨k, 0, s⟩ = true) := by show _ = _; simp only [isNo, hz]; rfl
      clear hem hz
      go_enter Tryd.func111, Tryd.ntmps111
      go_wp2_with fail
      refine Calls.mono HC.out ?_
      rintro e w1 ⟨rfl, hb1⟩
      have HB : Hid (Below w.heap.size w w1) := hb1
      clear hb1
      go_wp2_with fail
      go_ret
      exact ⟨by rw [HR.out]; try rfl, HB.out.trans ((bel1 _ _).mono HB.out.size)⟩
    · have he : s.toList.isEmpty = false := by rw [hem]; exact decide_eq_false hz
      have HR : Hid (isNo ⟨k, 0, s⟩ = false) := by show _ = _; simp only [isNo, hz]; rfl
      clear hem hz
      go_enter Tryd.func111, Tryd.ntmps111
      go_wp2_with fail
      refine Calls.mono HC.out ?_
      rintro e w1 ⟨rfl, hb1⟩
      have HB : Hid (Below w.heap.size w w1) := hb1
      clear hb1
      go_wp2_with fail
      go_ret
      exact ⟨by rw [HR.out]; try rfl, HB.out.trans ((bel1 _ _).mono HB.out.size)⟩
  · have hm0 : ((m : Int) == 0) = false := by simp; omega
    have HR : Hid (isNo ⟨k, m, s⟩ = false) := by show _ = _; simp only [isNo, hm]; rfl
    clear hem
    go_enter Tryd.func111, Tryd.ntmps111
    go_wp2_with fail
    refine Calls.mono HC.out ?_
    rintro e w1 ⟨rfl, hb1⟩
    have HB : Hid (Below w.heap.size w w1) := hb1
    clear hb1
    go_wp2_with fail
    go_ret
    exact ⟨by rw [HR.out]; try rfl, HB.out.trans ((bel1 _ _).mono HB.out.size)⟩
set_option maxHeartbeats 2000000 in
theorem isNothing_ser (z : Value) (k : Int) (m : Nat) (s : ByteArray) (w : World)
    (hc : Calls Tryd.prog 119 #[z] w fun e w' => e = .returned (.agg #[.int .i64 k, .int .u64 m, .string s]) ∧ Below w.heap.size w w') :
    Calls Tryd.prog 111 #[.iface 131 z] w fun e w' => e = .returned (.bool (isNo ⟨k, m, s⟩)) ∧ Below w.heap.size w w' := by
  have HC : Hid (Calls Tryd.prog 119 #[z] w fun e w' => e = .returned (.agg #[.int .i64 k, .int .u64 m, .string s]) ∧ Below w.heap.size w w') := hc
  have hem := str_empty s
  clear hc
  by_cases hm : m = 0
  · subst hm
    by_cases hz : s.size = 0
    · have he : s.toList.isEmpty = true := by rw [hem]; exact decide_eq_true hz
      have HR : Hid (isNo ⟨k, 0, s⟩ = true) := by show _ = _; simp only [isNo, hz]; rfl
      clear hem hz
      go_enter Tryd.func111, Tryd.ntmps111
      go_wp2_with fail
      refine Calls.mono HC.out ?_
      rintro e w1 ⟨rfl, hb1⟩
      have HB : Hid (Below w.heap.size w w1) := hb1
      clear hb1
      go_wp2_with fail
      go_ret
      exact ⟨by rw [HR.out]; try rfl, HB.out.trans ((bel1 _ _).mono HB.out.size)⟩
    · have he : s.toList.isEmpty = false := by rw [hem]; exact decide_eq_false hz
      have HR : Hid (isNo ⟨k, 0, s⟩ = false) := by show _ = _; simp only [isNo, hz]; rfl
      clear hem hz
      go_enter Tryd.func111, Tryd.ntmps111
      go_wp2_with fail
      refine Calls.mono HC.out ?_
      rintro e w1 ⟨rfl, hb1⟩
      have HB : Hid (Below w.heap.size w w1) := hb1
      clear hb1
      go_wp2_with fail
      go_ret
      exact ⟨by rw [HR.out]; try rfl, HB.out.trans ((bel1 _ _).mono HB.out.size)⟩
  · have hm0 : ((m : Int) == 0) = false := by simp; omega
    have HR : Hid (isNo ⟨k, m, s⟩ = false) := by show _ = _; simp only [isNo, hm]; rfl
    clear hem
    go_enter Tryd.func111, Tryd.ntmps111
    go_wp2_with fail
    refine Calls.mono HC.out ?_
    rintro e w1 ⟨rfl, hb1⟩
    have HB : Hid (Below w.heap.size w w1) := hb1
    clear hb1
    go_wp2_with fail
    go_ret
    exact ⟨by rw [HR.out]; try rfl, HB.out.trans ((bel1 _ _).mono HB.out.size)⟩
set_option maxHeartbeats 2000000 in
theorem isNothing_cho (z : Value) (k : Int) (m : Nat) (s : ByteArray) (w : World)
    (hc : Calls Tryd.prog 120 #[z] w fun e w' => e = .returned (.agg #[.int .i64 k, .int .u64 m, .string s]) ∧ Below w.heap.size w w') :
    Calls Tryd.prog 111 #[.iface 134 z] w fun e w' => e = .returned (.bool (isNo ⟨k, m, s⟩)) ∧ Below w.heap.size w w' := by
  have HC : Hid (Calls Tryd.prog 120 #[z] w fun e w' => e = .returned (.agg #[.int .i64 k, .int .u64 m, .string s]) ∧ Below w.heap.size w w') := hc
  have hem := str_empty s
  clear hc
  by_cases hm : m = 0
  · subst hm
    by_cases hz : s.size = 0
    · have he : s.toList.isEmpty = true := by rw [hem]; exact decide_eq_true hz
      have HR : Hid (isNo ⟨k, 0, s⟩ = true) := by show _ = _; simp only [isNo, hz]; rfl
      clear hem hz
      go_enter Tryd.func111, Tryd.ntmps111
      go_wp2_with fail
      refine Calls.mono HC.out ?_
      rintro e w1 ⟨rfl, hb1⟩
      have HB : Hid (Below w.heap.size w w1) := hb1
      clear hb1
      go_wp2_with fail
      go_ret
      exact ⟨by rw [HR.out]; try rfl, HB.out.trans ((bel1 _ _).mono HB.out.size)⟩
    · have he : s.toList.isEmpty = false := by rw [hem]; exact decide_eq_false hz
      have HR : Hid (isNo ⟨k, 0, s⟩ = false) := by show _ = _; simp only [isNo, hz]; rfl
      clear hem hz
      go_enter Tryd.func111, Tryd.ntmps111
      go_wp2_with fail
      refine Calls.mono HC.out ?_
      rintro e w1 ⟨rfl, hb1⟩
      have HB : Hid (Below w.heap.size w w1) := hb1
      clear hb1
      go_wp2_with fail
      go_ret
      exact ⟨by rw [HR.out]; try rfl, HB.out.trans ((bel1 _ _).mono HB.out.size)⟩
  · have hm0 : ((m : Int) == 0) = false := by simp; omega
    have HR : Hid (isNo ⟨k, m, s⟩ = false) := by show _ = _; simp only [isNo, hm]; rfl
    clear hem
    go_enter Tryd.func111, Tryd.ntmps111
    go_wp2_with fail
    refine Calls.mono HC.out ?_
    rintro e w1 ⟨rfl, hb1⟩
    have HB : Hid (Below w.heap.size w w1) := hb1
    clear hb1
    go_wp2_with fail
    go_ret
    exact ⟨by rw [HR.out]; try rfl, HB.out.trans ((bel1 _ _).mono HB.out.size)⟩
set_option maxRecDepth 100000 in
set_option maxHeartbeats 2000000 in
theorem writePart_any (i u : Nat) (k : Int) (x : Value) (B : List UInt8) (w : World) (hi : i ≤ 20) (c0 : w.cell? ⟨u, 0, none⟩ = some (.int .i64 k)) (hu : u < w.heap.size) (hB : B.length ≤ 1000000)
    (hx : ∀ w', Below w.heap.size w w' → Calls Tryd.prog 101 #[.agg #[], x] w' fun e w'' => e = .returned (.string ⟨B.toArray⟩) ∧ Below w'.heap.size w' w'') :
    Calls Tryd.prog 112 #[.agg #[], .int .i64 i, .pointer (some ⟨u, 0, none⟩), x] w fun e w' => e = .returned (.string ⟨(prP i k B).toArray⟩) ∧ Below w.heap.size w w' := by
  have HX : Hid (∀ w', Below w.heap.size w w' → Calls Tryd.prog 101 #[.agg #[], x] w' fun e w'' => e = .returned (.string ⟨B.toArray⟩) ∧ Below w'.heap.size w' w'') := hx
  have HT : Hid (∀ w', Below w.heap.size w w' → Calls Tryd.prog 114 #[.int .i64 i, .pointer (some ⟨u, 0, none⟩)] w' fun e w'' => e = .returned (.string ⟨(putVar (tgN i k)).toArray⟩) ∧ Below w'.heap.size w' w'') := fun w' hb => protoTag_any i u k w' hi (by rw [hb.cell (p := ⟨u, 0, none⟩) hu]; exact c0)
  have HN : Hid (∀ w', Below w.heap.size w w' → Calls Tryd.prog 108 #[.pointer (some ⟨u, 0, none⟩)] w' fun e w'' => e = .returned (.bool (isNk k)) ∧ w'' = w') := fun w' hb => isNumber_any u k w' (by rw [hb.cell (p := ⟨u, 0, none⟩) hu]; exact c0)
  have HP : Hid (∀ w, Calls Tryd.prog 17 #[.int .u64 (ByteArray.size ⟨B.toArray⟩)] w fun e w' => e = .returned (.string ⟨(putVar B.length).toArray⟩) ∧ Below w.heap.size w w') := fun w => by
    have := implPutVarint_any B.length w (by omega)
    rwa [show (B.length : Int) = (ByteArray.size ⟨B.toArray⟩ : Nat) by rw [ba_pr]] at this
  have hl1 := putVar_len (tgN i k)
  have hl2 := putVar_len B.length
  have HR : Hid ((⟨(prP i k B).toArray⟩ : ByteArray) = if isNk k then ⟨(putVar (tgN i k)).toArray⟩ ++ ⟨B.toArray⟩ else ⟨(putVar (tgN i k)).toArray⟩ ++ ⟨(putVar B.length).toArray⟩ ++ ⟨B.toArray⟩) := by
    show _ = _
    unfold prP
    split
    · rw [cat_list]
    · rw [cat_list, cat_list, List.append_assoc]
  have hs1 : ByteArray.size ⟨(putVar (tgN i k)).toArray⟩ ≤ 11 := by rw [ba_pr]; exact hl1
  have hs2 : ByteArray.size ⟨(putVar B.length).toArray⟩ ≤ 11 := by rw [ba_pr]; exact hl2
  have hs3 : ByteArray.size ⟨B.toArray⟩ ≤ 1000000 := by rw [ba_pr]; exact hB
  obtain ⟨D1, hD1⟩ : ∃ D : ByteArray, (⟨(putVar (tgN i k)).toArray⟩ : ByteArray) = D := ⟨_, rfl⟩
  obtain ⟨D2, hD2⟩ : ∃ D : ByteArray, (⟨(putVar B.length).toArray⟩ : ByteArray) = D := ⟨_, rfl⟩
  obtain ⟨D3, hD3⟩ : ∃ D : ByteArray, (⟨B.toArray⟩ : ByteArray) = D := ⟨_, rfl⟩
  rw [hD1] at HT hs1 HR
  rw [hD2] at HP hs2 HR
  rw [hD3] at HX hs3 HR HP
  have hsz12 : (D1 ++ D2).size ≤ 22 := by rw [ByteArray.size_append]; omega
  clear hx c0 hD1 hD2 hD3 hl1 hl2 hB
  have HB0 : Hid (Below w.heap.size w (w.alloc (.cells #[] 64))) := bel1 _ _
  have HBR : Hid (∀ d os, Below w.heap.size w (grow (redrawn (w.alloc (.cells #[] 64)) d) os)) := fun d os => (bel1 _ _).trans ((below_regrown _ d os).mono (by simp))
  cases hk : isNk k with
  | true =>
    rw [hk] at HN HR
    go_enter Tryd.func112, Tryd.ntmps112
    go_wp2_with fail
    refine wp_region_quiet_below (by kernel_rfl) (by kernel_rfl) ?_
    repeat (go_big_quiet_step (first | (go_at_call 114; exact Calls.regrown_of (HT.out _ (HBR.out _ _))) | (go_at_call 101; exact Calls.regrown_of (HX.out _ (HBR.out _ _)))))
    refine wpQuiet_nil ?_
    intro w6 hw'
    obtain ⟨⟨dq, osq⟩, hw''⟩ := hw'
    have HB6 : Hid (Below w.heap.size w w6) := by show Below _ _ _; rw [hw'']; exact HBR.out _ _
    clear hw''
    go_wp2_with fail
    refine Calls.mono (HN.out _ HB6.out) ?_
    rintro e w7 ⟨rfl, rfl⟩
    go_wp2_with fail
    go_ret
    exact ⟨by rw [HR.out]; rfl, HB6.out⟩
  | false =>
    rw [hk] at HN HR
    go_enter Tryd.func112, Tryd.ntmps112
    go_wp2_with fail
    refine wp_region_quiet_below (by kernel_rfl) (by kernel_rfl) ?_
    repeat (go_big_quiet_step (first | (go_at_call 114; exact Calls.regrown_of (HT.out _ (HBR.out _ _))) | (go_at_call 101; exact Calls.regrown_of (HX.out _ (HBR.out _ _)))))
    refine wpQuiet_nil ?_
    intro w6 hw'
    obtain ⟨⟨dq, osq⟩, hw''⟩ := hw'
    have HB6 : Hid (Below w.heap.size w w6) := by show Below _ _ _; rw [hw'']; exact HBR.out _ _
    clear hw''
    go_wp2_with fail
    refine Calls.mono (HN.out _ HB6.out) ?_
    rintro e w7 ⟨rfl, rfl⟩
    go_wp2_with fail
    refine Calls.mono (HP.out _) ?_
    rintro e w8 ⟨rfl, hb8⟩
    have HB8 : Hid (Below w.heap.size w w8) := HB6.out.trans (hb8.mono HB6.out.size)
    clear hb8
    go_wp2_with fail
    go_ret
    exact ⟨by rw [HR.out]; rfl, HB8.out⟩
end Go.Proofs.YtocealohiflheaaDoor
namespace Go.Proofs.YtocealohiflheaaDoor
open Go.RowKit Go.Sort
set_option linter.unusedVariables false
theorem isB_new1 (w : World) (o : Obj) : Lib.IsBuilder 157 5 w.heap.size (w.heap.size + 1) (Lib.byteCells []) ((w.alloc o).alloc (.cells #[.pointer none, .slice none 0 0] 157)) :=
  .inl ⟨by omega, .slice none 0 0, by have := heap_alloc_new (w.alloc o) (.cells #[.pointer none, .slice none 0 0] 157); simpa using this, World.ownsRow_nil _ _ _ _, by simp [Value.ownBlock]⟩
set_option maxRecDepth 100000 in
set_option maxHeartbeats 2000000 in
theorem writeEach_any (i u n cap : Nat) (k : Int) (ad : Option Addr) (ys : Nat → Value) (E : Nat → List UInt8) (w : World) (hi : i ≤ 20) (hn : n ≤ 20) (h1 : n ≤ cap) (h2 : cap ≤ maxLen) (c0 : w.cell? ⟨u, 0, none⟩ = some (.int .i64 k)) (hu : u < w.heap.size)
    (hcell : n = 0 ∨ ∃ g, ad = some ⟨g, 0, none⟩ ∧ g < w.heap.size ∧ ∀ j, j < n → w.cell? ⟨g, j, none⟩ = some (ys j)) (hE : ∀ j, j < n → (E j).length ≤ 60000) (hw : WrHyp_pr ys E n w) :
    Calls Tryd.prog 109 #[.agg #[], .int .i64 i, .pointer (some ⟨u, 0, none⟩), .slice ad n cap] w fun e w' => e = .returned (.string ⟨(catE (fun j => prP i k (E j)) n).toArray⟩) ∧ Below w.heap.size w w' := by
  have HW : Hid (∀ j, j < n → ∀ w', Below w.heap.size w w' → Calls Tryd.prog 112 #[.agg #[], .int .i64 i, .pointer (some ⟨u, 0, none⟩), ys j] w' fun e w'' => e = .returned (.string ⟨(prP i k (E j)).toArray⟩) ∧ Below w'.heap.size w' w'') := fun j hj w' hb =>
    writePart_any i u k (ys j) (E j) w' hi (by rw [hb.cell (p := ⟨u, 0, none⟩) hu]; exact c0) (by have := hb.size; omega) (by have := hE j hj; omega) (fun w'' hb' => hw j hj w'' (hb.trans (hb'.mono hb.size)))
  have HC : Hid (n = 0 ∨ ∃ g, ad = some ⟨g, 0, none⟩ ∧ g < w.heap.size ∧ ∀ j, j < n → w.cell? ⟨g, j, none⟩ = some (ys j)) := hcell
  have HE : Hid (∀ j, j < n → (prP i k (E j)).length ≤ 100000) := fun j hj => by have h1 := hE j hj; have h2 := prP_len i k (E j); omega
  have HS : Hid (∀ (bs : List Value) (s : ByteArray) (w' : World), Lib.IsBuilder 157 5 w.heap.size (w.heap.size + 1) bs w' → bs.length + s.size ≤ 140737488355328 → w.heap.size ≤ w'.heap.size →
      Calls Tryd.prog 104 #[.pointer (some ⟨w.heap.size + 1, 0, none⟩), .string s] w' fun e w'' => e = .returned (.tuple #[.int .i64 s.size, .nilIface]) ∧ (Lib.BuilderAt 157 5 w.heap.size (w.heap.size + 1) (.pointer (some ⟨w.heap.size + 1, 0, none⟩)) (bs ++ Lib.strCells s) w'' ∧ Below w.heap.size w' w'')) := fun bs s w' h hl hB => Tryd.Builder_WriteString _ _ bs s w' h hl hB
  clear hw hcell hE c0
  obtain ⟨G, hG⟩ : ∃ G : Nat → List UInt8, G = fun j => prP i k (E j) := ⟨_, rfl⟩
  rw [← hG]
  have HE' : Hid (∀ j, j < n → (G j).length ≤ 100000) := fun j hj => by rw [hG]; exact HE.out j hj
  have HW' : Hid (∀ j, j < n → ∀ w', Below w.heap.size w w' → Calls Tryd.prog 112 #[.agg #[], .int .i64 i, .pointer (some ⟨u, 0, none⟩), ys j] w' fun e w'' => e = .returned (.string ⟨(G j).toArray⟩) ∧ Below w'.heap.size w' w'') := fun j hj w' hb => by rw [hG]; exact HW.out j hj w' hb
  clear hG HE HW
  have HE := HE'
  have HW := HW'
  clear HE' HW'
  go_enter Tryd.func109, Tryd.ntmps109
  go_wp2_with fail
  go_loopg [14] n (fun gk i wr => ∃ j : Nat, j + gk = n ∧ i = .int .i64 j ∧ Lib.IsBuilder 157 5 w.heap.size (w.heap.size + 1) (Lib.byteCells (catE G j)) wr ∧ Below w.heap.size w wr)
  case atStart => exact ⟨0, by omega, rfl, isB_new1 w _, bel2 _ _ _⟩
  case round =>
    obtain ⟨j, hj', rfl, hib, hbel⟩ := hrel
    have HJ : Hid (j + gk = n) := hj'
    have hj : j ≤ n := by omega
    have HIB : Hid (Lib.IsBuilder 157 5 w.heap.size (w.heap.size + 1) (Lib.byteCells (catE G j)) wr) := hib
    have HB : Hid (Below w.heap.size w wr) := hbel
    clear hj' hib
    by_cases hjn : j < n
    · obtain ⟨g, rfl, hg, hc⟩ := HC.out.resolve_left (by omega)
      have c0 : wr.cell? ⟨g, j, none⟩ = some (ys j) := by rw [hbel.cell (p := ⟨g, j, none⟩) hg]; exact hc j hjn
      have hgr : g < wr.heap.size := by have := hbel.size; omega
      have HWj : Hid (Calls Tryd.prog 112 #[.agg #[], .int .i64 i, .pointer (some ⟨u, 0, none⟩), ys j] wr fun e w'' => e = .returned (.string ⟨(G j).toArray⟩) ∧ Below wr.heap.size wr w'') := HW.out j hjn wr hbel
      clear hc hbel
      obtain ⟨y, hy⟩ : ∃ y, ys j = y := ⟨_, rfl⟩
      rw [hy] at c0 HWj
      clear hy
      go_wp2_with fail
      refine Calls.mono HWj.out ?_
      rintro e w2 ⟨rfl, hb2⟩
      have HIB2 : Hid (Lib.IsBuilder 157 5 w.heap.size (w.heap.size + 1) (Lib.byteCells (catE G j)) w2) := isB_below HIB.out hb2
      have HB2 : Hid (Below w.heap.size w w2) := HB.out.trans (hb2.mono HB.out.size)
      clear hb2
      go_wp2_with fail
      refine (HS.out (Lib.byteCells (catE G j)) _ w2 HIB2.out (by
        rw [byteCells_len]
        have e1 := catE_len HE.out j hj
        have e2 := HE.out j hjn
        have e3 : ByteArray.size ⟨(G j).toArray⟩ = (G j).length := by simp [ByteArray.size]
        have e4 : j * 100000 ≤ 20 * 100000 := Nat.mul_le_mul_right _ (by omega)
        omega) HB2.out.size).mono ?_
      rintro e w3 ⟨rfl, hba, hb3⟩
      have HIB3 : Hid (Lib.IsBuilder 157 5 w.heap.size (w.heap.size + 1) (Lib.byteCells (catE G (j + 1))) w3) := by
        show Lib.IsBuilder _ _ _ _ _ _
        rw [byteCells_cat] at hba
        exact .inr hba
      have HB3 : Hid (Below w.heap.size w w3) := HB2.out.trans hb3
      clear hba hb3
      go_wp2_with fail
      go_roundg (gk - 1)
      case rel => exact ⟨j + 1, by have := HJ.out; omega, by go_num, HIB3.out, HB3.out⟩
      case measure => have := HJ.out; omega
    · have e1 : j = n := by omega
      subst e1
      go_wp2_with fail
      refine (Tryd.Builder_String_any w.heap.size (w.heap.size + 1) (catE G j) wr HIB.out HB.out.size).mono ?_
      rintro e w4 ⟨rfl, hb4⟩
      have HB4 : Hid (Below w.heap.size w w4) := HB.out.trans hb4
      clear hb4
      go_wp2_with fail
      go_ret
      exact ⟨rfl, HB4.out⟩
set_option maxRecDepth 100000 in
set_option maxHeartbeats 4000000 in
theorem writeMessage_any (u n cap gt nt capt : Nat) (ad : Option Addr) (cs : Nat → Nat) (ys : Nat → Value) (E : Nat → List UInt8) (w : World) (hn : n ≤ 20) (h1 : n ≤ cap) (h2 : cap ≤ maxLen) (hnt : n ≤ nt) (hnt1 : nt ≤ capt) (hnt2 : capt ≤ maxLen)
    (c5 : w.cell? ⟨u, 5, none⟩ = some (.slice (some ⟨gt, 0, none⟩) nt capt)) (hu : u < w.heap.size) (hgt : gt < w.heap.size) (hcs : ∀ j, j < n → w.cell? ⟨gt, j, none⟩ = some (.pointer (some ⟨cs j, 0, none⟩)))
    (hcell : n = 0 ∨ ∃ g, ad = some ⟨g, 0, none⟩ ∧ g < w.heap.size ∧ ∀ j, j < n → w.cell? ⟨g, j, none⟩ = some (ys j)) (hE : ∀ j, j < n → (E j).length ≤ 60000)
    (hw : ∀ j, j < n → ∀ w', Below w.heap.size w w' → Calls Tryd.prog 105 #[.agg #[], .int .i64 j, .pointer (some ⟨cs j, 0, none⟩), ys j] w' fun e w'' => e = .returned (.string ⟨(E j).toArray⟩) ∧ Below w'.heap.size w' w'') :
    Calls Tryd.prog 102 #[.agg #[], .agg #[.pointer (some ⟨u, 0, none⟩), .slice ad n cap]] w fun e w' => e = .returned (.string ⟨(catE E n).toArray⟩) ∧ Below w.heap.size w w' := by
  obtain ⟨W0, hW0⟩ : ∃ W0, W0 = (w.alloc (.cells #[] 64)).alloc (.cells #[.pointer (some ⟨u, 0, none⟩), .slice ad n cap] 131) := ⟨_, rfl⟩
  have hWs : W0.heap.size = w.heap.size + 1 + 1 := by rw [hW0]; simp
  have HW0B : Hid (Below w.heap.size w W0) := by show Below _ _ _; rw [hW0]; exact bel2 _ _ _
  have HX0 : Hid (W0.cell? ⟨w.heap.size + 1, 0, none⟩ = some (.pointer (some ⟨u, 0, none⟩)) ∧ W0.cell? ⟨w.heap.size + 1, 1, none⟩ = some (.slice ad n cap)) := by
    show _ ∧ _
    rw [hW0]; exact ⟨by simp [go_sem], by simp [go_sem]⟩
  have HW : Hid (∀ j, j < n → ∀ w', Below w.heap.size w w' → Calls Tryd.prog 105 #[.agg #[], .int .i64 j, .pointer (some ⟨cs j, 0, none⟩), ys j] w' fun e w'' => e = .returned (.string ⟨(E j).toArray⟩) ∧ Below w'.heap.size w' w'') := hw
  have HC : Hid (n = 0 ∨ ∃ g, ad = some ⟨g, 0, none⟩ ∧ g < w.heap.size ∧ ∀ j, j < n → w.cell? ⟨g, j, none⟩ = some (ys j)) := hcell
  have HE : Hid (∀ j, j < n → (E j).length ≤ 60000) := hE
  have HCS : Hid (∀ j, j < n → w.cell? ⟨gt, j, none⟩ = some (.pointer (some ⟨cs j, 0, none⟩))) := hcs
  have HC5 : Hid (w.cell? ⟨u, 5, none⟩ = some (.slice (some ⟨gt, 0, none⟩) nt capt)) := c5
  have HS : Hid (∀ (bs : List Value) (s : ByteArray) (w' : World), Lib.IsBuilder 157 5 W0.heap.size W0.heap.size bs w' → bs.length + s.size ≤ 140737488355328 → W0.heap.size ≤ w'.heap.size →
      Calls Tryd.prog 104 #[.pointer (some ⟨w.heap.size + 1 + 1, 0, none⟩), .string s] w' fun e w'' => e = .returned (.tuple #[.int .i64 s.size, .nilIface]) ∧ (Lib.BuilderAt 157 5 W0.heap.size W0.heap.size (.pointer (some ⟨w.heap.size + 1 + 1, 0, none⟩)) (bs ++ Lib.strCells s) w'' ∧ Below W0.heap.size w' w'')) := fun bs s w' h hl hB => by have := Tryd.Builder_WriteString W0.heap.size W0.heap.size bs s w' h hl hB; rw [hWs] at this; rw [hWs]; exact this
  unfold maxLen at h2 hnt2
  have HWS : Hid (W0.heap.size = w.heap.size + 1 + 1) := hWs
  have HWE : Hid (W0 = (w.alloc (.cells #[] 64)).alloc (.cells #[.pointer (some ⟨u, 0, none⟩), .slice ad n cap] 131)) := hW0
  clear hw hcell hE hcs c5 hW0 hWs
  go_enter Tryd.func102, Tryd.ntmps102
  go_wp2_with fail
  go_loopg [11] n (fun gk i wr => ∃ j : Nat, j + gk = n ∧ i = .int .i64 j ∧ Lib.IsBuilder 157 5 W0.heap.size W0.heap.size (Lib.byteCells (catE E j)) wr ∧ Below W0.heap.size W0 wr)
  case atStart => exact ⟨0, by omega, rfl, by rw [HWE.out]; exact isB_new _, by rw [HWE.out]; exact bel1 _ _⟩
  case round =>
    obtain ⟨j, hj', rfl, hib, hbel⟩ := hrel
    have HJ : Hid (j + gk = n) := hj'
    have hj : j ≤ n := by omega
    have HIB : Hid (Lib.IsBuilder 157 5 W0.heap.size W0.heap.size (Lib.byteCells (catE E j)) wr) := hib
    have HB : Hid (Below W0.heap.size W0 wr) := hbel
    have HBw : Hid (Below w.heap.size w wr) := HW0B.out.trans (hbel.mono HW0B.out.size)
    clear hj' hib hbel
    by_cases hjn : j < n
    · obtain ⟨g, rfl, hg, hc⟩ := HC.out.resolve_left (by omega)
      have c0 : wr.cell? ⟨g, j, none⟩ = some (ys j) := by rw [HBw.out.cell (p := ⟨g, j, none⟩) hg]; exact hc j hjn
      have HFS : Hid (∀ w3 : World, Below W0.heap.size W0 w3 → w3.cell? ⟨w.heap.size + 1, 0, none⟩ = some (.pointer (some ⟨u, 0, none⟩)) ∧ w3.cell? ⟨u, 5, none⟩ = some (.slice (some ⟨gt, 0, none⟩) nt capt) ∧ w3.cell? ⟨gt, j, none⟩ = some (.pointer (some ⟨cs j, 0, none⟩))) := fun w3 hb => by
        have hb' := HW0B.out.trans (hb.mono HW0B.out.size)
        exact ⟨by rw [hb.cell (p := ⟨w.heap.size + 1, 0, none⟩) (by have := HWS.out; show w.heap.size + 1 < _; omega)]; exact HX0.out.1, by rw [hb'.cell (p := ⟨u, 5, none⟩) hu]; exact HC5.out, by rw [hb'.cell (p := ⟨gt, j, none⟩) hgt]; exact HCS.out j hjn⟩
      have HS0 : Hid (wr.drew.cell? ⟨w.heap.size + 1, 0, none⟩ = some (.pointer (some ⟨u, 0, none⟩)) ∧ wr.drew.cell? ⟨u, 5, none⟩ = some (.slice (some ⟨gt, 0, none⟩) nt capt) ∧ wr.drew.cell? ⟨gt, j, none⟩ = some (.pointer (some ⟨cs j, 0, none⟩))) := HFS.out _ HB.out.drew
      have HWj : Hid (Calls Tryd.prog 105 #[.agg #[], .int .i64 j, .pointer (some ⟨cs j, 0, none⟩), ys j] wr.drew fun e w'' => e = .returned (.string ⟨(E j).toArray⟩) ∧ Below wr.drew.heap.size wr.drew w'') := HW.out j hjn wr.drew HBw.out.drew
      have hjt : j < nt := by omega
      clear hc
      obtain ⟨y, hy⟩ : ∃ y, ys j = y := ⟨_, rfl⟩
      rw [hy] at c0 HWj
      clear hy
      obtain ⟨cj, hcj⟩ : ∃ c, cs j = c := ⟨_, rfl⟩
      rw [hcj] at HWj HS0 HFS
      clear hcj
      go_wp2_with fail
      go_region_held3 (fun W => W.cell? ⟨w.heap.size + 1, 0, none⟩ = some (.pointer (some ⟨u, 0, none⟩)) ∧ W.cell? ⟨u, 5, none⟩ = some (.slice (some ⟨gt, 0, none⟩) nt capt) ∧ W.cell? ⟨gt, j, none⟩ = some (.pointer (some ⟨cj, 0, none⟩))) (first | exact HS0.out | exact HS4.out | exact HS3.out) (first
        | (go_at_call 105; refine Calls.mono HWj.out ?_; rintro e w3 ⟨rfl, hb3⟩; have HB3 : Hid (Below W0.heap.size W0 w3) := HB.out.drew.trans (hb3.mono HB.out.drew.size); have HIB3 : Hid (Lib.IsBuilder 157 5 W0.heap.size W0.heap.size (Lib.byteCells (catE E j)) w3) := isB_below (isB_below HIB.out (Below.refl _ _).drew) hb3; have HS3 : Hid _ := HFS.out w3 HB3.out; clear hb3)
        | (go_at_call 104; refine (HS.out (Lib.byteCells (catE E j)) _ w3 HIB3.out (by
            rw [byteCells_len]
            have e1 := catE_len HE.out j hj
            have e2 := HE.out j hjn
            have e3 : ByteArray.size ⟨(E j).toArray⟩ = (E j).length := by simp [ByteArray.size]
            have e4 : j * 60000 ≤ 20 * 60000 := Nat.mul_le_mul_right _ (by omega)
            omega) HB3.out.size).mono ?_; rintro e w4 ⟨rfl, hba, hb4⟩; have HB4 : Hid (Below W0.heap.size W0 w4) := HB3.out.trans hb4; have HIB4 : Hid (Lib.IsBuilder 157 5 W0.heap.size W0.heap.size (Lib.byteCells (catE E (j + 1))) w4) := (by show Lib.IsBuilder _ _ _ _ _ _; rw [byteCells_cat] at hba; have hba' := hba; rw [← HWS.out] at hba'; exact .inr hba'); have HS4 : Hid _ := HFS.out w4 HB4.out; clear hba hb4))
      all_goals
        go_wp2_with fail
        go_roundg (gk - 1)
        case rel => exact ⟨j + 1, by have := HJ.out; omega, by go_num, HIB4.out, HB4.out⟩
        case measure => have := HJ.out; omega
    · have e1 : j = n := by omega
      subst e1
      have HSS : Hid (Calls Tryd.prog 106 #[.pointer (some ⟨w.heap.size + 1 + 1, 0, none⟩)] wr fun e w' => e = .returned (.string ⟨(catE E j).toArray⟩) ∧ Below W0.heap.size wr w') := by have := Tryd.Builder_String_any W0.heap.size W0.heap.size (catE E j) wr HIB.out HB.out.size; rw [HWS.out] at this; show Calls _ _ _ _ _; rw [HWS.out]; exact this
      go_wp2_with fail
      refine Calls.mono HSS.out ?_
      rintro e w4 ⟨rfl, hb4⟩
      have HB4 : Hid (Below w.heap.size w w4) := HBw.out.trans (hb4.mono (by have := HWS.out; omega))
      clear hb4
      go_wp2_with fail
      go_ret
      exact ⟨rfl, HB4.out⟩
end Go.Proofs.YtocealohiflheaaDoor
