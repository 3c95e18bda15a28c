/- What is read as SCALE or Bitcoin's bytes, on plain lists. No function of the program is named here. -/
import Derived.Test.YtichgnddbnibjaaGreatDoorS7a
import Derived.Test.YtichgnddbnibjaaGreatDoorL1e
namespace Go.Proofs.YtichgnddbnibjaaGreatDoor
set_option linter.unusedVariables false
/-- How many bytes a number of that type has. -/
def wd (k n : Int) : Nat := if k = 1 then (n / 8).toNat else 1
/-- The item of a type with which b begins, and how many bytes it has by itself. -/
def oneD (get : List UInt8 → Nat × Nat × Bool) (k n : Int) (b : List UInt8) : Option (It × Nat) :=
  if k = 1 ∨ k = 2 ∨ k = 8 ∨ k = 9 then (if wd k n ≤ b.length then some (⟨k, leV (b.take (wd k n)), ⟨#[]⟩⟩, wd k n) else none)
  else if k = 3 then (if (get b).2.2 = true ∧ (get b).1 ≤ n.toNat ∧ (get b).2.1 + (get b).1 ≤ b.length then some (⟨k, 0, ⟨((b.drop (get b).2.1).take (get b).1).toArray⟩⟩, (get b).2.1 + (get b).1) else none)
  else if k = 4 then (if n.toNat ≤ b.length then some (⟨k, 0, ⟨(b.take n.toNat).toArray⟩⟩, n.toNat) else none)
  else if k = 5 then (if (get b).2.2 = true then some (⟨k, (get b).1, ⟨#[]⟩⟩, (get b).2.1) else none)
  else some (⟨k, n.toNat, ⟨#[]⟩⟩, 0)
/-- The first j parts, one behind the other, from place h of b on. -/
def partsD (d : Nat → List UInt8 → Option (List It × Nat)) (ps : Nat → Nat) (b : List UInt8) (h : Nat) : Nat → Option (List (List It) × Nat)
  | 0 => some ([], h)
  | j + 1 => (partsD d ps b h j).bind fun x => (d (ps j) (b.drop x.2)).map fun y => (x.1 ++ [y.1], x.2 + y.2)
/-- The value of the type at place a with which b begins, and how many bytes it has. -/
def scD (get : List UInt8 → Nat × Nat × Bool) (ts : List (Int × Int)) : Nat → Nat → List UInt8 → Option (List It × Nat)
  | 0, _, _ => none
  | f + 1, a, b => match ts[a]? with
    | none => none
    | some t => (oneD get t.1 t.2 b).bind fun x => if fitsI t.1 t.2 x.1 then (partsD (scD get ts f) (pl ts f a t.1 x.1.n) b x.2 (np t.1 x.1.n)).map fun y => (x.1 :: y.1.flatten, y.2) else none
theorem scD_inv {get : List UInt8 → Nat × Nat × Bool} {ts : List (Int × Int)} {f a m : Nat} {b : List UInt8} {l : List It} (h : scD get ts (f + 1) a b = some (l, m)) :
    ∃ (ha : a < ts.length) (x : It) (h0 : Nat) (ls : List (List It)), oneD get ts[a].1 ts[a].2 b = some (x, h0) ∧ fitsI ts[a].1 ts[a].2 x = true ∧ partsD (scD get ts f) (pl ts f a ts[a].1 x.n) b h0 (np ts[a].1 x.n) = some (ls, m) ∧ l = x :: ls.flatten := by
  by_cases ha : a < ts.length
  · refine ⟨ha, ?_⟩
    simp only [scD, List.getElem?_eq_getElem ha] at h
    obtain ⟨⟨x, h0⟩, h1, h2⟩ := Option.bind_eq_some_iff.1 h
    simp only at h2
    split at h2
    · rename_i hf
      obtain ⟨⟨ls, m'⟩, h3, h4⟩ := Option.map_eq_some_iff.1 h2
      simp only [Prod.mk.injEq] at h4
      obtain ⟨rfl, rfl⟩ := h4
      exact ⟨x, h0, ls, h1, hf, h3, rfl⟩
    · cases h2
  · simp [scD, List.getElem?_eq_none (Nat.le_of_not_lt ha)] at h
theorem partsD_len {d : Nat → List UInt8 → Option (List It × Nat)} {ps : Nat → Nat} {b : List UInt8} {h0 : Nat} : ∀ {j m : Nat} {ls : List (List It)}, partsD d ps b h0 j = some (ls, m) → ls.length = j := by
  intro j
  induction j with
  | zero => intro m ls h; simp only [partsD, Option.some.injEq, Prod.mk.injEq] at h; rw [← h.1]; rfl
  | succ j ih =>
    intro m ls h
    simp only [partsD] at h
    obtain ⟨⟨ls', m'⟩, h1, h2⟩ := Option.bind_eq_some_iff.1 h
    obtain ⟨y, _, h4⟩ := Option.map_eq_some_iff.1 h2
    simp only [Prod.mk.injEq] at h4
    rw [← h4.1]
    simp [ih h1]
/-- What is read is a value of the type, wherever it stands. -/
theorem scD_ve {get : List UInt8 → Nat × Nat × Bool} {ts : List (Int × Int)} : ∀ {f a m : Nat} {b : List UInt8} {l : List It}, scD get ts f a b = some (l, m) → ∀ pre post : List It, ve ts (pre ++ (l ++ post)) f a pre.length = some (pre.length + l.length) := by
  intro f
  induction f with
  | zero => intro a m b l h; cases h
  | succ f ih =>
    intro a m b l h pre post
    obtain ⟨ha, x, h0, ls, h1, h2, h3, rfl⟩ := scD_inv h
    have hq : pre.length < (pre ++ ((x :: ls.flatten) ++ post)).length := by simp
    have hx : (pre ++ ((x :: ls.flatten) ++ post))[pre.length] = x := by simp
    rw [ve_ok ha hq (by rw [hx]; exact h2), hx]
    have key : ∀ j m' ls', partsD (scD get ts f) (pl ts f a ts[a].1 x.n) b h0 j = some (ls', m') → ∀ rest : List It, vit (ve ts (pre ++ ((x :: ls'.flatten) ++ rest)) f) (pl ts f a ts[a].1 x.n) (pre.length + 1) j = some (pre.length + 1 + ls'.flatten.length) := by
      intro j
      induction j with
      | zero =>
        intro m' ls' hp rest
        simp only [partsD, Option.some.injEq, Prod.mk.injEq] at hp
        rw [← hp.1]
        simp [vit_zero]
      | succ j ihj =>
        intro m' ls' hp rest
        simp only [partsD] at hp
        obtain ⟨⟨ls1, m1⟩, q1, q2⟩ := Option.bind_eq_some_iff.1 hp
        obtain ⟨⟨l2, m2⟩, q3, q4⟩ := Option.map_eq_some_iff.1 q2
        simp only [Prod.mk.injEq] at q4
        obtain ⟨rfl, _⟩ := q4
        have e1 := ihj m1 ls1 q1 (l2 ++ rest)
        have eq1 : pre ++ ((x :: (ls1 ++ [l2]).flatten) ++ rest) = pre ++ ((x :: ls1.flatten) ++ (l2 ++ rest)) := by simp
        rw [eq1, vit_succ, e1]
        have e2 := ih q3 (pre ++ (x :: ls1.flatten)) rest
        have eq2 : (pre ++ (x :: ls1.flatten)) ++ (l2 ++ rest) = pre ++ ((x :: ls1.flatten) ++ (l2 ++ rest)) := by simp
        rw [eq2] at e2
        have eq3 : (pre ++ (x :: ls1.flatten)).length = pre.length + 1 + ls1.flatten.length := by simp; omega
        rw [eq3] at e2
        show ve ts _ f _ _ = _
        rw [e2]
        simp
        omega
    have := key _ _ _ h3 post
    rw [this]
    simp
    omega
/-- A schema's value that is read is typed where it has no more items than a value may have. -/
theorem scD_typed {get : List UInt8 → Nat × Nat × Bool} {ts : List (Int × Int)} {b : List UInt8} {l : List It} {m : Nat} (hs : schOk ts = true) (h : scD get ts 7 0 b = some (l, m)) : typedB ts l = decide (l.length ≤ 200) := by
  have hv := scD_ve h [] []
  simp only [List.nil_append, List.append_nil, List.length_nil, Nat.zero_add] at hv
  unfold typedB
  rw [hs, hv]
  simp
end Go.Proofs.YtichgnddbnibjaaGreatDoor
