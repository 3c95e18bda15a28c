/- Two values of a schema in a struct, in a list: plain facts. No function of the program is named here. -/
import Derived.Test.YtogadhfickojcaaGreatDoorPw
namespace Go.Proofs.YtogadhfickojcaaGreatDoor
set_option linter.unusedVariables false
/-- A struct of a schema twice, its value; a list of two. -/
def twT (ts : List (Int × Int)) : List (Int × Int) := (7, 2) :: (ts ++ ts)
def twX (k : Int) (vs : List It) : List It := ⟨k, 2, ⟨#[]⟩⟩ :: (vs ++ vs)
theorem tw_at1 {ts : List (Int × Int)} {x : Nat} (h : x < ts.length) : (twT ts)[x + 1]? = ts[x]? := app_at (p := [(7, 2)]) (l := ts) (r := ts) h
theorem tw_at2 {ts : List (Int × Int)} {x : Nat} (h : x < ts.length) : (twT ts)[x + (ts.length + 1)]? = ts[x]? := by
  have := app_at (p := (7, 2) :: ts) (l := ts) (r := []) h
  simpa [twT] using this
theorem tx_at1 {k : Int} {vs : List It} {x : Nat} (h : x < vs.length) : (twX k vs)[x + 1]? = vs[x]? := app_at (p := [⟨k, 2, ⟨#[]⟩⟩]) (l := vs) (r := vs) h
theorem tx_at2 {k : Int} {vs : List It} {x : Nat} (h : x < vs.length) : (twX k vs)[x + (vs.length + 1)]? = vs[x]? := by
  have := app_at (p := (⟨k, 2, ⟨#[]⟩⟩ : It) :: vs) (l := vs) (r := []) h
  simpa [twX] using this
theorem two_sc (cnt : Nat → List UInt8) {ts : List (Int × Int)} {vs : List It} (ht : typedB ts vs = true) (h2 : schOk (twT ts) = true) (hl : (twX 7 vs).length ≤ 200) :
    typedB (twT ts) (twX 7 vs) = true ∧ scE cnt (twT ts) (twX 7 vs) 7 0 0 = scE cnt ts vs 7 0 0 ++ scE cnt ts vs 7 0 0 := by
  obtain ⟨hsch, hlen, hve⟩ := typed_inv ht
  have h6 : en ts 6 0 = some ts.length := twice_en (k := 0) (n := 0) hsch (schOk_iff.1 h2).2
  have hen1 : en (twT ts) 6 1 = some (ts.length + 1) := by
    have := (en_move (ts := ts) (ts' := twT ts) (s := 0) (s' := 1) (f := 6) (a := 0) (e := ts.length) (by simpa using h6) (fun x _ hx => tw_at1 hx)).1
    simpa using this
  obtain ⟨a1, b1⟩ := val_mv (cnt := cnt) (ts' := twT ts) (vs' := twX 7 vs) (s := 1) (r := 1) (show 6 ≤ 7 by omega) h6 (fun x _ hx => tw_at1 hx) hve (fun x _ hx => tx_at1 hx)
  obtain ⟨a2, b2⟩ := val_mv (cnt := cnt) (ts' := twT ts) (vs' := twX 7 vs) (s := ts.length + 1) (r := vs.length + 1) (show 6 ≤ 7 by omega) h6 (fun x _ hx => tw_at2 hx) hve (fun x _ hx => tx_at2 hx)
  simp only [Nat.zero_add] at a1 b1 a2 b2
  have ha : 0 < (twT ts).length := by simp [twT]
  have hq : 0 < (twX 7 vs).length := by simp [twX]
  have et : (twT ts)[0] = (7, 2) := rfl
  have ex : (twX 7 vs)[0] = ⟨7, 2, ⟨#[]⟩⟩ := rfl
  have p0 : pl (twT ts) 6 0 7 2 0 = 1 := by simp [pl, iter]
  have p1 : pl (twT ts) 6 0 7 2 1 = ts.length + 1 := by simp [pl, iter, hen1]
  have hfit : fitsI (twT ts)[0].1 (twT ts)[0].2 (twX 7 vs)[0] = true := by rw [et, ex]; rfl
  have hnp : np (7 : Int) 2 = 2 := by simp [np]
  have v1 : vit (ve (twT ts) (twX 7 vs) 6) (pl (twT ts) 6 0 7 2) 1 1 = some (vs.length + 1) := by
    rw [vit_succ, vit_zero]
    show ve _ _ 6 (pl (twT ts) 6 0 7 2 0) 1 = _
    rw [p0]; exact a1
  have v2 : vit (ve (twT ts) (twX 7 vs) 6) (pl (twT ts) 6 0 7 2) 1 2 = some (vs.length + (vs.length + 1)) := by
    rw [vit_succ, v1]
    show ve _ _ 6 (pl (twT ts) 6 0 7 2 1) (vs.length + 1) = _
    rw [p1]; exact a2
  refine ⟨typed_mk h2 hl ?_, ?_⟩
  · rw [ve_ok ha hq hfit, et, ex]
    show vit (ve (twT ts) (twX 7 vs) 6) (pl (twT ts) 6 0 7 2) 1 (np 7 2) = _
    rw [hnp, v2]
    simp [twX]; omega
  · rw [scE_ok ha hq, et, ex]
    show own cnt 2 ⟨7, 2, ⟨#[]⟩⟩ ++ cat (scE cnt (twT ts) (twX 7 vs) 6) (ve (twT ts) (twX 7 vs) 6) (pl (twT ts) 6 0 7 2) 1 (np 7 2) = _
    have ho : own cnt 2 ⟨7, 2, ⟨#[]⟩⟩ = [] := by simp [own]
    rw [hnp, ho, cat_succ v1, cat_succ (vit_zero _ _ _), p0, p1, b1, b2]
    simp [cat]
theorem list_sc (cnt : Nat → List UInt8) {ts : List (Int × Int)} {vs : List It} (ht : typedB ts vs = true) (h2 : schOk (twT ts) = true) (hl : (twX 5 vs).length ≤ 200) :
    typedB ((5, 5) :: ts) (twX 5 vs) = true ∧ scE cnt ((5, 5) :: ts) (twX 5 vs) 7 0 0 = cnt 2 ++ (scE cnt ts vs 7 0 0 ++ scE cnt ts vs 7 0 0) := by
  obtain ⟨hsch, hlen, hve⟩ := typed_inv ht
  have h6 : en ts 6 0 = some ts.length := twice_en (k := 0) (n := 0) hsch (schOk_iff.1 h2).2
  have hl1 : ∀ x, 0 ≤ x → x < ts.length → ((5, 5) :: ts)[x + 1]? = ts[x]? := fun x _ hx => by simp
  have hen1 : en ((5, 5) :: ts) 6 1 = some (ts.length + 1) := by
    have := (en_move (ts := ts) (ts' := (5, 5) :: ts) (s := 0) (s' := 1) (f := 6) (a := 0) (e := ts.length) (by simpa using h6) (fun x h hx => hl1 x h hx)).1
    simpa using this
  have h40 : ts.length + 1 ≤ 40 := by have := (schOk_iff.1 h2).1; simp [twT] at this; omega
  obtain ⟨a1, b1⟩ := val_mv (cnt := cnt) (ts' := (5, 5) :: ts) (vs' := twX 5 vs) (s := 1) (r := 1) (show 6 ≤ 7 by omega) h6 hl1 hve (fun x _ hx => tx_at1 hx)
  obtain ⟨a2, b2⟩ := val_mv (cnt := cnt) (ts' := (5, 5) :: ts) (vs' := twX 5 vs) (s := 1) (r := vs.length + 1) (show 6 ≤ 7 by omega) h6 hl1 hve (fun x _ hx => tx_at2 hx)
  simp only [Nat.zero_add] at a1 b1 a2 b2
  have ha : 0 < ((5, 5) :: ts).length := by simp
  have hq : 0 < (twX 5 vs).length := by simp [twX]
  have et : (((5, 5) :: ts) : List (Int × Int))[0] = (5, 5) := rfl
  have ex : (twX 5 vs)[0] = ⟨5, 2, ⟨#[]⟩⟩ := rfl
  have p0 : ∀ j, pl ((5, 5) :: ts) 6 0 5 2 j = 1 := fun j => by simp [pl]
  have hfit : fitsI (((5, 5) :: ts) : List (Int × Int))[0].1 (((5, 5) :: ts) : List (Int × Int))[0].2 (twX 5 vs)[0] = true := by rw [et, ex]; rfl
  have hnp : np (5 : Int) 2 = 2 := by simp [np]
  have hs5 : schOk ((5, 5) :: ts) = true := schOk_iff.2 ⟨by simp; omega, by
    rw [en_ok ha (by rw [et]; rfl), et]
    show iter (en ((5, 5) :: ts) 6) 1 (kids 5 5) = _
    have : kids (5 : Int) 5 = 1 := by simp [kids]
    rw [this]
    show en _ 6 1 = _
    rw [hen1]; simp⟩
  have v1 : vit (ve ((5, 5) :: ts) (twX 5 vs) 6) (pl ((5, 5) :: ts) 6 0 5 2) 1 1 = some (vs.length + 1) := by
    rw [vit_succ, vit_zero]
    show ve _ _ 6 (pl ((5, 5) :: ts) 6 0 5 2 0) 1 = _
    rw [p0]; exact a1
  have v2 : vit (ve ((5, 5) :: ts) (twX 5 vs) 6) (pl ((5, 5) :: ts) 6 0 5 2) 1 2 = some (vs.length + (vs.length + 1)) := by
    rw [vit_succ, v1]
    show ve _ _ 6 (pl ((5, 5) :: ts) 6 0 5 2 1) (vs.length + 1) = _
    rw [p0]; exact a2
  refine ⟨typed_mk hs5 hl ?_, ?_⟩
  · rw [ve_ok ha hq hfit, et, ex]
    show vit (ve ((5, 5) :: ts) (twX 5 vs) 6) (pl ((5, 5) :: ts) 6 0 5 2) 1 (np 5 2) = _
    rw [hnp, v2]
    simp [twX]; omega
  · rw [scE_ok ha hq, et, ex]
    show own cnt 5 ⟨5, 2, ⟨#[]⟩⟩ ++ cat (scE cnt ((5, 5) :: ts) (twX 5 vs) 6) (ve ((5, 5) :: ts) (twX 5 vs) 6) (pl ((5, 5) :: ts) 6 0 5 2) 1 (np 5 2) = _
    have ho : own cnt 5 ⟨5, 2, ⟨#[]⟩⟩ = cnt 2 := by simp [own]
    rw [hnp, ho, cat_succ v1, cat_succ (vit_zero _ _ _), p0, p0, b1, b2]
    simp [cat]
end Go.Proofs.YtogadhfickojcaaGreatDoor
