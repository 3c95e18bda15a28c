/- Px, Pm, Pb: one text. -/
import Derived.Test.YtjpdhenmhffmeaaGreatDoorPw
import Derived.Test.YtjpdhenmhffmeaaGreatDoorS7b
namespace Go.Proofs.YtjpdhenmhffmeaaGreatDoor
set_option linter.unusedVariables false
/-- A struct of a schema twice, its value; a list of two. -/
def twT (ts : List (Int × Int)) : List (Int × Int) := (7, 2) :: (ts ++ ts)
def twX (k : Int) (vs : List It) : List It := ⟨k, 2, ⟨#[]⟩⟩ :: (vs ++ vs)
theorem tw_at1 {ts : List (Int × Int)} {x : Nat} (h : x < ts.length) : (twT ts)[x + 1]? = ts[x]? := app_at (p := [(7, 2)]) (l := ts) (r := ts) h
theorem tw_at2 {ts : List (Int × Int)} {x : Nat} (h : x < ts.length) : (twT ts)[x + (ts.length + 1)]? = ts[x]? := by
  have := app_at (p := (7, 2) :: ts) (l := ts) (r := []) h
  simpa [twT] using this
theorem tx_at1 {k : Int} {vs : List It} {x : Nat} (h : x < vs.length) : (twX k vs)[x + 1]? = vs[x]? := app_at (p := [⟨k, 2, ⟨#[]⟩⟩]) (l := vs) (r := vs) h
theorem tx_at2 {k : Int} {vs : List It} {x : Nat} (h : x < vs.length) : (twX k vs)[x + (vs.length + 1)]? = vs[x]? := by
  have := app_at (p := (⟨k, 2, ⟨#[]⟩⟩ : It) :: vs) (l := vs) (r := []) h
  simpa [twX] using this
theorem two_sc (cnt : Nat → List UInt8) {ts : List (Int × Int)} {vs : List It} (ht : typedB ts vs = true) (h2 : schOk (twT ts) = true) (hl : (twX 7 vs).length ≤ 200) :
    typedB (twT ts) (twX 7 vs) = true ∧ scE cnt (twT ts) (twX 7 vs) 7 0 0 = scE cnt ts vs 7 0 0 ++ scE cnt ts vs 7 0 0 := by
  obtain ⟨hsch, hlen, hve⟩ := typed_inv ht
  have h6 : en ts 6 0 = some ts.length := twice_en (k := 0) (n := 0) hsch (schOk_iff.1 h2).2
  have hen1 : en (twT ts) 6 1 = some (ts.length + 1) := by
    have := (en_move (ts := ts) (ts' := twT ts) (s := 0) (s' := 1) (f := 6) (a := 0) (e := ts.length) (by simpa using h6) (fun x _ hx => tw_at1 hx)).1
    simpa using this
  obtain ⟨a1, b1⟩ := val_mv (cnt := cnt) (ts' := twT ts) (vs' := twX 7 vs) (s := 1) (r := 1) (show 6 ≤ 7 by omega) h6 (fun x _ hx => tw_at1 hx) hve (fun x _ hx => tx_at1 hx)
  obtain ⟨a2, b2⟩ := val_mv (cnt := cnt) (ts' := twT ts) (vs' := twX 7 vs) (s := ts.length + 1) (r := vs.length + 1) (show 6 ≤ 7 by omega) h6 (fun x _ hx => tw_at2 hx) hve (fun x _ hx => tx_at2 hx)
  simp only [Nat.zero_add] at a1 b1 a2 b2
  have ha : 0 < (twT ts).length := by simp [twT]
  have hq : 0 < (twX 7 vs).length := by simp [twX]
  have et : (twT ts)[0] = (7, 2) := rfl
  have ex : (twX 7 vs)[0] = ⟨7, 2, ⟨#[]⟩⟩ := rfl
  have p0 : pl (twT ts) 6 0 7 2 0 = 1 := by simp [pl, iter]
  have p1 : pl (twT ts) 6 0 7 2 1 = ts.length + 1 := by simp [pl, iter, hen1]
  have hfit : fitsI (twT ts)[0].1 (twT ts)[0].2 (twX 7 vs)[0] = true := by rw [et, ex]; rfl
  have hnp : np (7 : Int) 2 = 2 := by simp [np]
  have v1 : vit (ve (twT ts) (twX 7 vs) 6) (pl (twT ts) 6 0 7 2) 1 1 = some (vs.length + 1) := by
    rw [vit_succ, vit_zero]
    show ve _ _ 6 (pl (twT ts) 6 0 7 2 0) 1 = _
    rw [p0]; exact a1
  have v2 : vit (ve (twT ts) (twX 7 vs) 6) (pl (twT ts) 6 0 7 2) 1 2 = some (vs.length + (vs.length + 1)) := by
    rw [vit_succ, v1]
    show ve _ _ 6 (pl (twT ts) 6 0 7 2 1) (vs.length + 1) = _
    rw [p1]; exact a2
  refine ⟨typed_mk h2 hl ?_, ?_⟩
  · rw [ve_ok ha hq hfit, et, ex]
    show vit (ve (twT ts) (twX 7 vs) 6) (pl (twT ts) 6 0 7 2) 1 (np 7 2) = _
    rw [hnp, v2]
    simp [twX]; omega
  · rw [scE_ok ha hq, et, ex]
    show own cnt 2 ⟨7, 2, ⟨#[]⟩⟩ ++ cat (scE cnt (twT ts) (twX 7 vs) 6) (ve (twT ts) (twX 7 vs) 6) (pl (twT ts) 6 0 7 2) 1 (np 7 2) = _
    have ho : own cnt 2 ⟨7, 2, ⟨#[]⟩⟩ = [] := by simp [own]
    rw [hnp, ho, cat_succ v1, cat_succ (vit_zero _ _ _), p0, p1, b1, b2]
    simp [cat]
theorem list_sc (cnt : Nat → List UInt8) {ts : List (Int × Int)} {vs : List It} (ht : typedB ts vs = true) (h2 : schOk (twT ts) = true) (hl : (twX 5 vs).length ≤ 200) :
    typedB ((5, 5) :: ts) (twX 5 vs) = true ∧ scE cnt ((5, 5) :: ts) (twX 5 vs) 7 0 0 = cnt 2 ++ (scE cnt ts vs 7 0 0 ++ scE cnt ts vs 7 0 0) := by
  obtain ⟨hsch, hlen, hve⟩ := typed_inv ht
  have h6 : en ts 6 0 = some ts.length := twice_en (k := 0) (n := 0) hsch (schOk_iff.1 h2).2
  have hl1 : ∀ x, 0 ≤ x → x < ts.length → ((5, 5) :: ts)[x + 1]? = ts[x]? := fun x _ hx => by simp
  have hen1 : en ((5, 5) :: ts) 6 1 = some (ts.length + 1) := by
    have := (en_move (ts := ts) (ts' := (5, 5) :: ts) (s := 0) (s' := 1) (f := 6) (a := 0) (e := ts.length) (by simpa using h6) (fun x h hx => hl1 x h hx)).1
    simpa using this
  have h40 : ts.length + 1 ≤ 40 := by have := (schOk_iff.1 h2).1; simp [twT] at this; omega
  obtain ⟨a1, b1⟩ := val_mv (cnt := cnt) (ts' := (5, 5) :: ts) (vs' := twX 5 vs) (s := 1) (r := 1) (show 6 ≤ 7 by omega) h6 hl1 hve (fun x _ hx => tx_at1 hx)
  obtain ⟨a2, b2⟩ := val_mv (cnt := cnt) (ts' := (5, 5) :: ts) (vs' := twX 5 vs) (s := 1) (r := vs.length + 1) (show 6 ≤ 7 by omega) h6 hl1 hve (fun x _ hx => tx_at2 hx)
  simp only [Nat.zero_add] at a1 b1 a2 b2
  have ha : 0 < ((5, 5) :: ts).length := by simp
  have hq : 0 < (twX 5 vs).length := by simp [twX]
  have et : (((5, 5) :: ts) : List (Int × Int))[0] = (5, 5) := rfl
  have ex : (twX 5 vs)[0] = ⟨5, 2, ⟨#[]⟩⟩ := rfl
  have p0 : ∀ j, pl ((5, 5) :: ts) 6 0 5 2 j = 1 := fun j => by simp [pl]
  have hfit : fitsI (((5, 5) :: ts) : List (Int × Int))[0].1 (((5, 5) :: ts) : List (Int × Int))[0].2 (twX 5 vs)[0] = true := by rw [et, ex]; rfl
  have hnp : np (5 : Int) 2 = 2 := by simp [np]
  have hs5 : schOk ((5, 5) :: ts) = true := schOk_iff.2 ⟨by simp; omega, by
    rw [en_ok ha (by rw [et]; rfl), et]
    show iter (en ((5, 5) :: ts) 6) 1 (kids 5 5) = _
    have : kids (5 : Int) 5 = 1 := by simp [kids]
    rw [this]
    show en _ 6 1 = _
    rw [hen1]; simp⟩
  have v1 : vit (ve ((5, 5) :: ts) (twX 5 vs) 6) (pl ((5, 5) :: ts) 6 0 5 2) 1 1 = some (vs.length + 1) := by
    rw [vit_succ, vit_zero]
    show ve _ _ 6 (pl ((5, 5) :: ts) 6 0 5 2 0) 1 = _
    rw [p0]; exact a1
  have v2 : vit (ve ((5, 5) :: ts) (twX 5 vs) 6) (pl ((5, 5) :: ts) 6 0 5 2) 1 2 = some (vs.length + (vs.length + 1)) := by
    rw [vit_succ, v1]
    show ve _ _ 6 (pl ((5, 5) :: ts) 6 0 5 2 1) (vs.length + 1) = _
    rw [p0]; exact a2
  refine ⟨typed_mk hs5 hl ?_, ?_⟩
  · rw [ve_ok ha hq hfit, et, ex]
    show vit (ve ((5, 5) :: ts) (twX 5 vs) 6) (pl ((5, 5) :: ts) 6 0 5 2) 1 (np 5 2) = _
    rw [hnp, v2]
    simp [twX]; omega
  · rw [scE_ok ha hq, et, ex]
    show own cnt 5 ⟨5, 2, ⟨#[]⟩⟩ ++ cat (scE cnt ((5, 5) :: ts) (twX 5 vs) 6) (ve ((5, 5) :: ts) (twX 5 vs) 6) (pl ((5, 5) :: ts) 6 0 5 2) 1 (np 5 2) = _
    have ho : own cnt 5 ⟨5, 2, ⟨#[]⟩⟩ = cnt 2 := by simp [own]
    rw [hnp, ho, cat_succ v1, cat_succ (vit_zero _ _ _), p0, p0, b1, b2]
    simp [cat]
end Go.Proofs.YtjpdhenmhffmeaaGreatDoor
namespace Go.Proofs.YtjpdhenmhffmeaaGreatDoor
set_option linter.unusedVariables false
theorem vit_le {ts : List (Int × Int)} {vs : List It} {f q : Nat} {ps : Nat → Nat} : ∀ {i j y z : Nat}, j ≤ i → vit (ve ts vs f) ps q j = some y → vit (ve ts vs f) ps q i = some z → y ≤ z := by
  intro i
  induction i with
  | zero => intro j y z hj hy hz; have : j = 0 := by omega
            subst this; rw [hy] at hz; cases hz; exact Nat.le_refl _
  | succ i ih =>
    intro j y z hj hy hz
    by_cases e : j = i + 1
    · subst e; rw [hy] at hz; cases hz; exact Nat.le_refl _
    · obtain ⟨z0, hz0⟩ := vit_part hz (Nat.le_succ i)
      have h1 := ih (show j ≤ i by omega) hy hz0
      rw [vit_succ, hz0] at hz
      have := (ve_lt (show ve ts vs f _ z0 = some z from hz)).1
      omega
theorem parts_mv {ts ts' : List (Int × Int)} {vs vs' : List It} {s r f F a e q q' : Nat} (hF : f ≤ F) (hen : en ts (f + 1) a = some e) (hts : ∀ x, a ≤ x → x < e → ts'[x + s]? = ts[x]?) (hve : ve ts vs (F + 1) a q = some q') (hvs : ∀ x, q ≤ x → x < q' → vs'[x + r]? = vs[x]?) :
    ∃ (ha : a < ts.length) (hq : q < vs.length) (ha' : a + s < ts'.length) (hq' : q + r < vs'.length), ts'[a + s] = ts[a] ∧ vs'[q + r] = vs[q] ∧ tyOk ts[a].1 ts[a].2 = true ∧
      ∀ j, j < np ts[a].1 vs[q].n → ∃ y p e' y', vit (ve ts vs F) (pl ts F a ts[a].1 vs[q].n) (q + 1) j = some y ∧ vit (ve ts' vs' f) (pl ts' f (a + s) ts[a].1 vs[q].n) (q + r + 1) j = some (y + r) ∧
        pl ts F a ts[a].1 vs[q].n j = p ∧ pl ts' f (a + s) ts[a].1 vs[q].n j = p + s ∧ en ts f p = some e' ∧ a < p ∧ e' ≤ e ∧ ve ts vs F p y = some y' ∧ q < y ∧ y' ≤ q' := by
  obtain ⟨ha, hok, hit⟩ := en_inv hen
  obtain ⟨_, hq, hfi, hv⟩ := ve_inv hve
  have e1 := hts a (Nat.le_refl _) (en_lt hen).1
  have e2 := hvs q (Nat.le_refl _) (ve_lt hve).1
  rw [List.getElem?_eq_getElem ha] at e1
  rw [List.getElem?_eq_getElem hq] at e2
  obtain ⟨ha', e1'⟩ := List.getElem?_eq_some_iff.1 e1
  obtain ⟨hq', e2'⟩ := List.getElem?_eq_some_iff.1 e2
  have hfn : fitsN ts[a].1 ts[a].2 vs[q].n = true := by simp [fitsI] at hfi; exact hfi.2.1
  refine ⟨ha, hq, ha', hq', e1', e2', hok, ?_⟩
  have one : ∀ j y, j < np ts[a].1 vs[q].n → vit (ve ts vs F) (pl ts F a ts[a].1 vs[q].n) (q + 1) j = some y → ∃ p e' y', pl ts F a ts[a].1 vs[q].n j = p ∧ pl ts' f (a + s) ts[a].1 vs[q].n j = p + s ∧ en ts f p = some e' ∧ a < p ∧ e' ≤ e ∧ ve ts vs F p y = some y' ∧ q < y ∧ y' ≤ q' := by
    intro j y hj hy
    obtain ⟨y1, hy1⟩ := vit_part hv (show j + 1 ≤ np ts[a].1 vs[q].n by omega)
    obtain ⟨p, e', p1, p2, p3, p4, p5⟩ := pl_mv (ts' := ts') (s := s) hF ha hok hit hfn hj hts
    have hyq := vit_le (show j + 1 ≤ np ts[a].1 vs[q].n by omega) hy1 hv
    have h0 : q + 1 ≤ y := (vit_lt (show q + 1 ≤ vs.length by omega) hy).1
    rw [vit_succ, hy] at hy1
    have hy2 : ve ts vs F (pl ts F a ts[a].1 vs[q].n j) y = some y1 := hy1
    rw [p1] at hy2
    exact ⟨p, e', y1, p1, p2, p3, p4, p5, hy2, by omega, hyq⟩
  have all : ∀ j, j ≤ np ts[a].1 vs[q].n → ∀ y, vit (ve ts vs F) (pl ts F a ts[a].1 vs[q].n) (q + 1) j = some y → vit (ve ts' vs' f) (pl ts' f (a + s) ts[a].1 vs[q].n) (q + r + 1) j = some (y + r) := by
    intro j
    induction j with
    | zero => intro _ y hy; cases hy; rw [vit_zero]; congr 1; omega
    | succ j ihj =>
      intro hj y hy
      obtain ⟨y0, hy0⟩ := vit_part hy (Nat.le_succ j)
      obtain ⟨p, e', y', p1, p2, p3, p4, p5, p6, p7, p8⟩ := one j y0 (by omega) hy0
      rw [vit_succ, hy0] at hy
      have hy2 : ve ts vs F (pl ts F a ts[a].1 vs[q].n j) y0 = some y := hy
      rw [p1, p6] at hy2
      cases hy2
      rw [vit_succ, ihj (by omega) y0 hy0]
      show ve ts' vs' f (pl ts' f (a + s) ts[a].1 vs[q].n j) (y0 + r) = _
      rw [p2]
      exact (val_mv (cnt := fun _ => []) hF p3 (fun x hx hx' => hts x (by omega) (by omega)) p6 (fun x hx hx' => hvs x (by omega) (by omega))).1
  intro j hj
  obtain ⟨y, hy⟩ := vit_part hv (show j ≤ np ts[a].1 vs[q].n by omega)
  obtain ⟨p, e', y', p1, p2, p3, p4, p5, p6, p7, p8⟩ := one j y hj hy
  exact ⟨y, p, e', y', hy, all j (by omega) y hy, p1, p2, p3, p4, p5, p6, p7, p8⟩
/-- A struct of a schema twice: where its two parts are. -/
theorem two_parts {ts : List (Int × Int)} {vs : List It} (ht : typedB ts vs = true) (h2 : schOk (twT ts) = true) :
    en ts 6 0 = some ts.length ∧ pl (twT ts) 6 0 7 2 0 = 1 ∧ pl (twT ts) 6 0 7 2 1 = ts.length + 1 ∧ vit (ve (twT ts) (twX 7 vs) 6) (pl (twT ts) 6 0 7 2) 1 0 = some 1 ∧ vit (ve (twT ts) (twX 7 vs) 6) (pl (twT ts) 6 0 7 2) 1 1 = some (vs.length + 1) := by
  obtain ⟨hsch, hlen, hve⟩ := typed_inv ht
  have h6 : en ts 6 0 = some ts.length := twice_en (k := 0) (n := 0) hsch (schOk_iff.1 h2).2
  have hen1 : en (twT ts) 6 1 = some (ts.length + 1) := by
    have := (en_move (ts := ts) (ts' := twT ts) (s := 0) (s' := 1) (f := 6) (a := 0) (e := ts.length) (by simpa using h6) (fun x _ hx => tw_at1 hx)).1
    simpa using this
  have a1 := (val_mv (cnt := fun _ => []) (ts' := twT ts) (vs' := twX 7 vs) (s := 1) (r := 1) (show 6 ≤ 7 by omega) h6 (fun x _ hx => tw_at1 hx) hve (fun x _ hx => tx_at1 hx)).1
  simp only [Nat.zero_add] at a1
  have p0 : pl (twT ts) 6 0 7 2 0 = 1 := by simp [pl, iter]
  have p1 : pl (twT ts) 6 0 7 2 1 = ts.length + 1 := by simp [pl, iter, hen1]
  refine ⟨h6, p0, p1, rfl, ?_⟩
  rw [vit_succ, vit_zero]
  show ve _ _ 6 (pl (twT ts) 6 0 7 2 0) 1 = _
  rw [p0]; exact a1
/-- An option of a schema. -/
theorem optIn {ts : List (Int × Int)} (hs : schOk ts = true) (h : schOk ((8, 0) :: ts) = true) : en ts 6 0 = some ts.length ∧ en ((8, 0) :: ts) 6 1 = some (ts.length + 1) := by
  have h7 := (schOk_iff.1 hs).2
  obtain ⟨h0, hok, hit⟩ := en_inv (schOk_iff.1 h).2
  have h1 : en ((8, 0) :: ts) 6 1 = some ((8, 0) :: ts).length := hit
  have := (en_move (ts := (8, 0) :: ts) (ts' := ts) (s := 1) (s' := 0) (f := 6) (a := 0) (e := ts.length) (by simpa using h1) (fun x _ hx => by simp)).1
  exact ⟨by simpa using this, by simpa using h1⟩
theorem opt_some {ts : List (Int × Int)} {vs : List It} (ht : typedB ts vs = true) (h2 : schOk ((8, 0) :: ts) = true) (hl : vs.length + 1 ≤ 200) :
    typedB ((8, 0) :: ts) (⟨8, 1, ⟨#[]⟩⟩ :: vs) = true ∧ pl ((8, 0) :: ts) 6 0 8 1 0 = 1 := by
  obtain ⟨hsch, hlen, hve⟩ := typed_inv ht
  obtain ⟨h6, h61⟩ := optIn hsch h2
  have a1 := (val_mv (cnt := fun _ => []) (ts' := (8, 0) :: ts) (vs' := (⟨8, 1, ⟨#[]⟩⟩ : It) :: vs) (s := 1) (r := 1) (show 6 ≤ 7 by omega) h6 (fun x _ hx => by simp) hve (fun x _ hx => by simp)).1
  simp only [Nat.zero_add] at a1
  have p0 : pl ((8, 0) :: ts) 6 0 8 1 0 = 1 := by simp [pl]
  have ha : 0 < ((8, 0) :: ts).length := by simp
  have hq : 0 < ((⟨8, 1, ⟨#[]⟩⟩ : It) :: vs).length := by simp
  refine ⟨typed_mk h2 (by simpa using hl) ?_, p0⟩
  rw [ve_ok ha hq rfl]
  show vit (ve ((8, 0) :: ts) _ 6) (pl ((8, 0) :: ts) 6 0 8 1) 1 (np 8 1) = _
  have hnp : np (8 : Int) 1 = 1 := by simp [np]
  rw [hnp, vit_succ, vit_zero]
  show ve _ _ 6 (pl ((8, 0) :: ts) 6 0 8 1 0) 1 = _
  rw [p0, a1]; simp
theorem opt_none {ts : List (Int × Int)} (h2 : schOk ((8, 0) :: ts) = true) : typedB ((8, 0) :: ts) [⟨8, 0, ⟨#[]⟩⟩] = true := by
  have ha : 0 < ((8, 0) :: ts).length := by simp
  refine typed_mk h2 (by simp) ?_
  rw [ve_ok ha (by simp) rfl]
  rfl
end Go.Proofs.YtjpdhenmhffmeaaGreatDoor
namespace Go.Proofs.YtjpdhenmhffmeaaGreatDoor
set_option linter.unusedVariables false
/-- Is an item counted, and not by nought? Has it 64 bytes or more? -/
def cB (x : It) : Bool := (decide (x.k = 5) && decide (0 < x.n)) || (decide (x.k = 3) && !decide (x.s.size = 0))
def lB (x : It) : Bool := decide (x.k = 3) && decide (64 ≤ x.s.size)
def anyC (vs : List It) (j : Nat) : Bool := (vs.take j).any cB
def anyL (vs : List It) (j : Nat) : Bool := (vs.take j).any lB
theorem any_next {p : It → Bool} {vs : List It} {j : Nat} (h : j < vs.length) : (vs.take (j + 1)).any p = ((vs.take j).any p || p vs[j]) := by
  rw [List.take_succ_eq_append_getElem h, List.any_append]; simp
theorem any_no {p : It → Bool} {vs : List It} (h : (vs.take vs.length).any p = false) : ∀ x (hx : x < vs.length), p vs[x] = false := fun x hx => by
  rw [List.take_length, List.any_eq_false] at h
  simpa using h vs[x] (List.getElem_mem hx)
theorem catE_len_eq {E E' : Nat → List UInt8} : ∀ {n : Nat}, (∀ j, j < n → (E j).length = (E' j).length) → (catE E n).length = (catE E' n).length
  | 0, _ => rfl
  | n + 1, h => by simp only [catE, List.length_append]; rw [catE_len_eq (fun j hj => h j (by omega)), h n (by omega)]
theorem sc_len_eq {cnt cnt' : Nat → List UInt8} (hc : ∀ m, m < 64 → (cnt m).length = (cnt' m).length) {ts : List (Int × Int)} {vs : List It} : ∀ {f a e q q' : Nat}, en ts f a = some e → ve ts vs f a q = some q' → (∀ x (hx : x < vs.length), lB vs[x] = false) → (scE cnt ts vs f a q).length = (scE cnt' ts vs f a q).length := by
  intro f
  induction f with
  | zero => intro a e q q' h; cases h
  | succ f ih =>
    intro a e q q' hen hve hl
    obtain ⟨ha, hq, _, _, _, _, hok, hp⟩ := parts_mv (s := 0) (r := 0) (ts' := ts) (vs' := vs) (Nat.le_refl f) hen (fun x _ _ => rfl) hve (fun x _ _ => rfl)
    obtain ⟨_, _, hfi, _⟩ := ve_inv hve
    rw [scE_ok ha hq, scE_ok ha hq, cat_catE, cat_catE, List.length_append, List.length_append]
    have h1 : (own cnt ts[a].2 vs[q]).length = (own cnt' ts[a].2 vs[q]).length := by
      have hlq := hl q hq
      have hf' : vs[q].k = ts[a].1 ∧ fitsN ts[a].1 ts[a].2 vs[q].n = true := by simp [fitsI] at hfi; exact ⟨hfi.1, hfi.2.1⟩
      unfold own
      by_cases h3 : vs[q].k = 3
      · have h64 : vs[q].s.size < 64 := by simp [lB, h3] at hlq; exact hlq
        simp [h3, hc _ h64]
      · by_cases h5 : vs[q].k = 5
        · have hn : vs[q].n < 64 := by
            have e5 : ts[a].1 = 5 := by rw [← hf'.1]; exact h5
            have h2 := hf'.2
            rw [e5] at h2 hok
            simp [fitsN] at h2
            simp [tyOk] at hok
            omega
          simp [h5, hc _ hn]
        · simp [h3, h5]
    have h2 := catE_len_eq (E := fun j => scE cnt ts vs f (pl ts f a ts[a].1 vs[q].n j) ((vit (ve ts vs f) (pl ts f a ts[a].1 vs[q].n) (q + 1) j).getD 0)) (E' := fun j => scE cnt' ts vs f (pl ts f a ts[a].1 vs[q].n j) ((vit (ve ts vs f) (pl ts f a ts[a].1 vs[q].n) (q + 1) j).getD 0)) (n := np ts[a].1 vs[q].n) (fun j hj => by
      obtain ⟨y, p, e', y', p1, p2, p3, p4, p5, p6, p7, p8, p9, p10⟩ := hp j hj
      simp only [p1, p3, Option.getD_some]
      exact ih p5 p8 hl)
    rw [h1, h2]
theorem sc_eq {cnt cnt' : Nat → List UInt8} (hc : cnt 0 = cnt' 0) {ts : List (Int × Int)} {vs : List It} : ∀ {f a e q q' : Nat}, en ts f a = some e → ve ts vs f a q = some q' → (∀ x (hx : x < vs.length), cB vs[x] = false) → scE cnt ts vs f a q = scE cnt' ts vs f a q := by
  intro f
  induction f with
  | zero => intro a e q q' h; cases h
  | succ f ih =>
    intro a e q q' hen hve hl
    obtain ⟨ha, hq, _, _, _, _, hok, hp⟩ := parts_mv (s := 0) (r := 0) (ts' := ts) (vs' := vs) (Nat.le_refl f) hen (fun x _ _ => rfl) hve (fun x _ _ => rfl)
    rw [scE_ok ha hq, scE_ok ha hq, cat_catE, cat_catE]
    have h1 : own cnt ts[a].2 vs[q] = own cnt' ts[a].2 vs[q] := by
      have hlq := hl q hq
      unfold own
      by_cases h3 : vs[q].k = 3
      · have h64 : vs[q].s.size = 0 := by simp only [cB, h3] at hlq; simpa [ByteArray.size_eq_zero_iff] using hlq
        simp [h3, h64, hc]
      · by_cases h5 : vs[q].k = 5
        · have hn : vs[q].n = 0 := by simp [cB, h5] at hlq; omega
          simp [h5, hn, hc]
        · simp [h3, h5]
    have h2 := catE_congr (E := fun j => scE cnt ts vs f (pl ts f a ts[a].1 vs[q].n j) ((vit (ve ts vs f) (pl ts f a ts[a].1 vs[q].n) (q + 1) j).getD 0)) (E' := fun j => scE cnt' ts vs f (pl ts f a ts[a].1 vs[q].n j) ((vit (ve ts vs f) (pl ts f a ts[a].1 vs[q].n) (q + 1) j).getD 0)) (n := np ts[a].1 vs[q].n) (fun j hj => by
      obtain ⟨y, p, e', y', p1, p2, p3, p4, p5, p6, p7, p8, p9, p10⟩ := hp j hj
      simp only [p1, p3, Option.getD_some]
      exact ih p5 p8 hl)
    rw [h1, h2]
end Go.Proofs.YtjpdhenmhffmeaaGreatDoor
