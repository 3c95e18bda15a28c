/- What is read, kind by kind; a text's rest: plain facts. -/
import Derived.Test.YtepffjfgomhepaaGreatDoorSBp
namespace Go.Proofs.YtepffjfgomhepaaGreatDoor
set_option linter.unusedVariables false
theorem scD_at {get : List UInt8 → Nat × Nat × Bool} {ts : List (Int × Int)} {f a : Nat} {b : List UInt8} (ha : a < ts.length) : scD get ts (f + 1) a b = (oneD get ts[a].1 ts[a].2 b).bind fun x => if fitsI ts[a].1 ts[a].2 x.1 then (partsD (scD get ts f) (pl ts f a ts[a].1 x.1.n) b x.2 (np ts[a].1 x.1.n)).map fun y => (x.1 :: y.1.flatten, y.2) else none := by
  simp [scD, List.getElem?_eq_getElem ha]
theorem scD_one {get : List UInt8 → Nat × Nat × Bool} {ts : List (Int × Int)} {f a h : Nat} {b : List UInt8} {x : It} (ha : a < ts.length) (h1 : oneD get ts[a].1 ts[a].2 b = some (x, h)) (h2 : fitsI ts[a].1 ts[a].2 x = true) : scD get ts (f + 1) a b = (partsD (scD get ts f) (pl ts f a ts[a].1 x.n) b h (np ts[a].1 x.n)).map fun y => (x :: y.1.flatten, y.2) := by
  rw [scD_at ha, h1]; simp [h2]
theorem scD_leaf {get : List UInt8 → Nat × Nat × Bool} {ts : List (Int × Int)} {f a h : Nat} {b : List UInt8} {x : It} (ha : a < ts.length) (h1 : oneD get ts[a].1 ts[a].2 b = some (x, h)) (h2 : fitsI ts[a].1 ts[a].2 x = true) (h3 : np ts[a].1 x.n = 0) : scD get ts (f + 1) a b = some ([x], h) := by
  rw [scD_one ha h1 h2, h3]; simp [partsD]
theorem scD_no {get : List UInt8 → Nat × Nat × Bool} {ts : List (Int × Int)} {f a : Nat} {b : List UInt8} (ha : a < ts.length) (h1 : oneD get ts[a].1 ts[a].2 b = none) : scD get ts (f + 1) a b = none := by
  rw [scD_at ha, h1]; rfl
theorem scD_bad {get : List UInt8 → Nat × Nat × Bool} {ts : List (Int × Int)} {f a h : Nat} {b : List UInt8} {x : It} (ha : a < ts.length) (h1 : oneD get ts[a].1 ts[a].2 b = some (x, h)) (h2 : fitsI ts[a].1 ts[a].2 x = false) : scD get ts (f + 1) a b = none := by
  rw [scD_at ha, h1]; simp [h2]
theorem partsD_succ (d : Nat → List UInt8 → Option (List It × Nat)) (ps : Nat → Nat) (b : List UInt8) (h j : Nat) : partsD d ps b h (j + 1) = (partsD d ps b h j).bind fun x => (d (ps j) (b.drop x.2)).map fun y => (x.1 ++ [y.1], x.2 + y.2) := rfl
theorem partsD_none {d : Nat → List UInt8 → Option (List It × Nat)} {ps : Nat → Nat} {b : List UInt8} {h j : Nat} (hj : partsD d ps b h j = none) : ∀ n, j ≤ n → partsD d ps b h n = none := by
  intro n hn
  induction n with
  | zero =>
    have : j = 0 := by omega
    subst this; exact hj
  | succ n ih =>
    by_cases e : j = n + 1
    · subst e; exact hj
    · rw [partsD_succ, ih (by omega)]; rfl
theorem partsD_one (d : Nat → List UInt8 → Option (List It × Nat)) (ps : Nat → Nat) (b : List UInt8) (h : Nat) : partsD d ps b h 1 = (d (ps 0) (b.drop h)).map fun y => ([y.1], h + y.2) := by
  simp [partsD]
theorem fitsI_num {k n : Int} {m : Nat} (h3 : k ≠ 3) (h4 : k ≠ 4) : fitsI k n ⟨k, m, ⟨#[]⟩⟩ = fitsN k n m := by
  simp [fitsI, fitsS, h3, h4, ByteArray.size]
theorem fitsN_flat {k n : Int} (h : k = 3 ∨ k = 4) : fitsN k n 0 = true := by
  rcases h with rfl | rfl <;> simp [fitsN]
theorem fitsI_str {k n : Int} {s : ByteArray} (h : k = 3 ∨ k = 4) : fitsI k n ⟨k, 0, s⟩ = fitsS k n s.size := by
  simp [fitsI, fitsN_flat h]
theorem oneD_num {get : List UInt8 → Nat × Nat × Bool} {k n : Int} {b : List UInt8} (h : k = 1 ∨ k = 2 ∨ k = 8 ∨ k = 9) : oneD get k n b = if wd k n ≤ b.length then some (⟨k, leV (b.take (wd k n)), ⟨#[]⟩⟩, wd k n) else none := by
  unfold oneD; rw [if_pos h]
/-- A number that is none. -/
theorem scD_numNo {get : List UInt8 → Nat × Nat × Bool} {ts : List (Int × Int)} {f a : Nat} {b : List UInt8} (ha : a < ts.length) (hk : ts[a].1 = 1 ∨ ts[a].1 = 2 ∨ ts[a].1 = 8 ∨ ts[a].1 = 9) (h : b.length < wd ts[a].1 ts[a].2 ∨ fitsN ts[a].1 ts[a].2 (leV (b.take (wd ts[a].1 ts[a].2))) = false) : scD get ts (f + 1) a b = none := by
  by_cases hl : wd ts[a].1 ts[a].2 ≤ b.length
  · refine scD_bad ha (by rw [oneD_num hk, if_pos hl]) ?_
    rw [fitsI_num (by omega) (by omega)]
    exact h.resolve_left (by omega)
  · exact scD_no ha (by rw [oneD_num hk, if_neg hl])
theorem ex_list (s : ByteArray) (m : Nat) : (s.extract m s.size).data.toList = s.data.toList.drop m := by
  rw [ByteArray.data_extract, Array.toList_extract, List.extract_eq_take_drop]
  exact List.take_of_length_le (by rw [List.length_drop, Array.length_toList]; exact Nat.le_refl _)
theorem ex_sz (s : ByteArray) (m : Nat) : (s.extract m s.size).size = s.size - m := by simp
theorem ba_ext {s t : ByteArray} (h : s.data.toList = t.data.toList) : s = t := by
  obtain ⟨⟨l⟩⟩ := s
  obtain ⟨⟨l'⟩⟩ := t
  simp at h; subst h; rfl
theorem ex_ex (s : ByteArray) (m k : Nat) : (s.extract m s.size).extract k (s.extract m s.size).size = s.extract (m + k) s.size := by
  apply ba_ext
  rw [ex_list, ex_list, ex_list, List.drop_drop]
theorem ex_pre (s : ByteArray) (m : Nat) : (s.extract 0 m).data.toList = s.data.toList.take m := by
  rw [ByteArray.data_extract, Array.toList_extract, List.extract_eq_take_drop]
  simp
theorem ex_mid (s : ByteArray) (h m : Nat) : (⟨((s.data.toList.drop h).take m).toArray⟩ : ByteArray) = (s.extract h s.size).extract 0 m := by
  apply ba_ext
  rw [ex_pre, ex_list]
theorem ex_head (s : ByteArray) (m : Nat) : (⟨(s.data.toList.take m).toArray⟩ : ByteArray) = s.extract 0 m := by
  apply ba_ext
  rw [ex_pre]
theorem ex_zero (s : ByteArray) : s.extract 0 s.size = s := by
  apply ba_ext
  rw [ex_list]; rfl
theorem lst_len (s : ByteArray) : s.data.toList.length = s.size := Array.length_toList
/-- A part that is taken lies within. -/
theorem partsD_le {d : Nat → List UInt8 → Option (List It × Nat)} {ps : Nat → Nat} {b : List UInt8} {h : Nat} (hb : h ≤ b.length) (hd : ∀ a c l m, d a c = some (l, m) → m ≤ c.length) : ∀ {j m : Nat} {ls : List (List It)}, partsD d ps b h j = some (ls, m) → h ≤ m ∧ m ≤ b.length := by
  intro j
  induction j with
  | zero => intro m ls hp; simp only [partsD, Option.some.injEq, Prod.mk.injEq] at hp; omega
  | succ j ih =>
    intro m ls hp
    rw [partsD_succ] at hp
    obtain ⟨⟨ls1, m1⟩, q1, q2⟩ := Option.bind_eq_some_iff.1 hp
    obtain ⟨⟨l2, m2⟩, q3, q4⟩ := Option.map_eq_some_iff.1 q2
    simp only [Prod.mk.injEq] at q4
    have := ih q1
    have := hd _ _ _ _ q3
    rw [List.length_drop] at this
    omega
end Go.Proofs.YtepffjfgomhepaaGreatDoor
