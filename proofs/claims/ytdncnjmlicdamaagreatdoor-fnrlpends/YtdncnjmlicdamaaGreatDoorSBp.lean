/- PGa, PGb, SBa, SBp: one text. -/
import Derived.Test.YtdncnjmlicdamaaGreatDoorL1i
import Derived.Test.YtdncnjmlicdamaaGreatDoorS7a
import Derived.Test.YtdncnjmlicdamaaGreatDoorL1e
namespace Go.Proofs.YtdncnjmlicdamaaGreatDoor
open Go.RowKit
set_option linter.unusedVariables false
theorem leV_leL : ∀ (n k : Nat), n < 2 ^ (8 * k) → leV (leL n k) = n
  | n, 0, h => by simp [leL, leV] at h ⊢; omega
  | n, k + 1, h => by
    rw [leL_cons, leV]
    rw [leV_leL (n / 256) k (by rw [show 8 * (k + 1) = 8 * k + 8 from by omega, Nat.pow_add] at h; omega), UInt8.toNat_ofNat']
    omega
theorem behind_of (k low n : Nat) (t : List UInt8) (hn : n < 2 ^ (8 * k)) (hl : low ≤ n) : behind (leL n k ++ t) k low = (n, 1 + k, true) := by
  have e : (leL n k ++ t).take k = leL n k := by rw [List.take_append_of_le_length (by rw [leL_len]; exact Nat.le_refl _), List.take_of_length_le (by rw [leL_len]; exact Nat.le_refl _)]
  unfold behind
  rw [e, leV_leL n k hn]
  simp [leL_len, hl]
theorem getSize_put (n : Nat) (t : List UInt8) (hn : n < 18446744073709551616) : getSize (putSize n ++ t) = (n, (putSize n).length, true) := by
  unfold putSize
  by_cases h1 : n < 253
  · rw [if_pos h1, leL_cons]
    have e : (UInt8.ofNat n).toNat = n := by rw [UInt8.toNat_ofNat']; omega
    show getSize (UInt8.ofNat n :: _) = _
    simp only [getSize]
    rw [e, if_pos h1]
    rfl
  · rw [if_neg h1]
    by_cases h2 : n < 65536
    · rw [if_pos h2]
      show getSize (253 :: (leL n 2 ++ t)) = _
      simp only [getSize]
      rw [if_neg (by decide), if_pos (by decide), behind_of 2 253 n t h2 (by omega), List.length_cons, leL_len] <;> rfl
    · rw [if_neg h2]
      by_cases h3 : n < 4294967296
      · rw [if_pos h3]
        show getSize (254 :: (leL n 4 ++ t)) = _
        simp only [getSize]
        rw [if_neg (by decide), if_neg (by decide), if_pos (by decide), behind_of 4 65536 n t h3 (by omega), List.length_cons, leL_len] <;> rfl
      · rw [if_neg h3]
        show getSize (255 :: (leL n 8 ++ t)) = _
        simp only [getSize]
        rw [if_neg (by decide), if_neg (by decide), if_neg (by decide), behind_of 8 4294967296 n t hn (by omega), List.length_cons, leL_len] <;> rfl
theorem getSize_back (l : List UInt8) (x k : Nat) (h : getSize l = (x, k, true)) : putSize x = l.take k ∧ k ≤ l.length ∧ x < 18446744073709551616 := by
  cases l with
  | nil => simp [getSize] at h
  | cons b r =>
    have hb := b.toNat_lt
    simp only [getSize] at h
    by_cases h1 : b.toNat < 253
    · rw [if_pos h1] at h
      cases h
      refine ⟨?_, by simp, by omega⟩
      unfold putSize
      rw [if_pos h1, leL_cons]
      simp [leL]
    · rw [if_neg h1] at h
      have key : ∀ kk low : Nat, kk ≤ 8 → (∀ (_ : kk ≤ r.length) (_ : low ≤ leV (r.take kk)), putSize (leV (r.take kk)) = b :: r.take kk) → behind r kk low = (x, k, true) → putSize x = (b :: r).take k ∧ k ≤ (b :: r).length ∧ x < 18446744073709551616 := by
        intro kk low hkk hp hbd
        unfold behind at hbd
        split at hbd
        · rename_i hc
          cases hbd
          have h9 := leV_take_lt r kk hc.1
          have h10 : leV (r.take kk) < 18446744073709551616 := Nat.lt_of_lt_of_le h9 (Nat.le_trans (Nat.pow_le_pow_right (by decide) (show 8 * kk ≤ 64 by omega)) (by decide))
          exact ⟨by rw [hp hc.1 hc.2, Nat.add_comm, List.take_succ_cons], by rw [List.length_cons]; omega, h10⟩
        · cases hbd
      by_cases h2 : b.toNat = 253
      · rw [if_pos h2] at h
        exact key 2 253 (by omega) (fun a c => putSize_253 b r h2 a c) h
      · rw [if_neg h2] at h
        by_cases h3 : b.toNat = 254
        · rw [if_pos h3] at h
          exact key 4 65536 (by omega) (fun a c => putSize_254 b r h3 a c) h
        · rw [if_neg h3] at h
          exact key 8 4294967296 (by omega) (fun a c => putSize_255 b r (by omega) a c) h
theorem gc_eq (l : List UInt8) (b : UInt8) (r : List UInt8) (h : l = b :: r) : getCompact l = if b.toNat % 4 = 0 then cw l 1 0 else if b.toNat % 4 = 1 then cw l 2 64 else if b.toNat % 4 = 2 then cw l 4 16384 else cl r (b.toNat / 4 + 4) := by subst h; rfl
theorem take_leL (n k : Nat) (t : List UInt8) : (leL n k ++ t).take k = leL n k := by rw [List.take_append_of_le_length (by rw [leL_len]; exact Nat.le_refl _), List.take_of_length_le (by rw [leL_len]; exact Nat.le_refl _)]
theorem cw_of (v k least : Nat) (t : List UInt8) (hv : v < 2 ^ (8 * k)) (hl : least ≤ v / 4) : cw (leL v k ++ t) k least = (v / 4, k, true) := by
  unfold cw
  rw [take_leL, leV_leL v k hv, if_pos ⟨by rw [List.length_append, leL_len]; omega, hl⟩]
theorem ofN (v : Nat) : (UInt8.ofNat v).toNat = v % 256 := by rw [UInt8.toNat_ofNat']
theorem getCompact_put (n : Nat) (t : List UInt8) (hn : n < 18446744073709551616) : getCompact (putCompact n ++ t) = (n, (putCompact n).length, true) := by
  unfold putCompact
  by_cases h1 : n < 64
  · rw [if_pos h1, gc_eq (leL (4 * n) 1 ++ t) _ _ (by rw [leL_cons]; rfl), ofN, if_pos (by omega), cw_of (4 * n) 1 0 t (by omega) (by omega), leL_len]
    congr 1
    omega
  · rw [if_neg h1]
    by_cases h2 : n < 16384
    · rw [if_pos h2, gc_eq (leL (4 * n + 1) 2 ++ t) _ _ (by rw [leL_cons]; rfl), ofN, if_neg (by omega), if_pos (by omega), cw_of (4 * n + 1) 2 64 t (by omega) (by omega), leL_len]
      congr 1
      omega
    · rw [if_neg h2]
      by_cases h3 : n < 1073741824
      · rw [if_pos h3, gc_eq (leL (4 * n + 2) 4 ++ t) _ _ (by rw [leL_cons]; rfl), ofN, if_neg (by omega), if_neg (by omega), if_pos (by omega), cw_of (4 * n + 2) 4 16384 t (by omega) (by omega), leL_len]
        congr 1
        omega
      · rw [if_neg h3]
        have h8 := by8_8 n hn
        have h4 := by8_4 n h3
        have hp := (by8_le n (by8 n)).1 (Nat.le_refl _)
        rw [gc_eq _ _ _ (show (leL (4 * (by8 n - 4) + 3) 1 ++ leL n (by8 n)) ++ t = UInt8.ofNat (4 * (by8 n - 4) + 3) :: (leL n (by8 n) ++ t) from by rw [leL_cons]; rfl), ofN, if_neg (by omega), if_neg (by omega), if_neg (by omega), show (4 * (by8 n - 4) + 3) % 256 / 4 + 4 = by8 n from by omega]
        unfold cl
        rw [take_leL, leV_leL n _ hp, if_pos ⟨h8, by rw [List.length_append, leL_len]; omega, by omega, rfl⟩, List.length_append, leL_len, leL_len]
theorem cw_back (b : UInt8) (r : List UInt8) (k least x kk : Nat) (hk8 : k ≤ 8) (hp : k ≤ (b :: r).length → least ≤ leV ((b :: r).take k) / 4 → putCompact (leV ((b :: r).take k) / 4) = (b :: r).take k) (h : cw (b :: r) k least = (x, kk, true)) : putCompact x = (b :: r).take kk ∧ kk ≤ (b :: r).length ∧ x < 18446744073709551616 := by
  unfold cw at h
  split at h
  · rename_i hc
    cases h
    have h9 := leV_take_lt (b :: r) k hc.1
    have h10 : leV ((b :: r).take k) < 18446744073709551616 := Nat.lt_of_lt_of_le h9 (Nat.le_trans (Nat.pow_le_pow_right (by decide) (show 8 * k ≤ 64 by omega)) (by decide))
    exact ⟨hp hc.1 hc.2, hc.1, by omega⟩
  · cases h
theorem getCompact_back (l : List UInt8) (x k : Nat) (h : getCompact l = (x, k, true)) : putCompact x = l.take k ∧ k ≤ l.length ∧ x < 18446744073709551616 := by
  cases l with
  | nil => simp [getCompact] at h
  | cons b r =>
    have hb := b.toNat_lt
    rw [gc_eq _ b r rfl] at h
    by_cases h0 : b.toNat % 4 = 0
    · rw [if_pos h0] at h
      exact cw_back b r 1 0 x k (by omega) (putCompact_0 b r h0) h
    · rw [if_neg h0] at h
      by_cases h1 : b.toNat % 4 = 1
      · rw [if_pos h1] at h
        exact cw_back b r 2 64 x k (by omega) (putCompact_1 b r h1) h
      · rw [if_neg h1] at h
        by_cases h2 : b.toNat % 4 = 2
        · rw [if_pos h2] at h
          exact cw_back b r 4 16384 x k (by omega) (putCompact_2 b r h2) h
        · rw [if_neg h2] at h
          unfold cl at h
          split at h
          · rename_i hc
            obtain ⟨c1, c2, c3, c4⟩ := hc
            have e := putCompact_long b r (b.toNat / 4 + 4) (by omega) c2 c3 c4
            generalize b.toNat / 4 + 4 = q at *
            cases h
            have h9 := leV_take_lt r q c2
            have h10 : leV (r.take q) < 18446744073709551616 := Nat.lt_of_lt_of_le h9 (Nat.le_trans (Nat.pow_le_pow_right (by decide) (show 8 * q ≤ 64 by omega)) (by decide))
            exact ⟨by rw [e, Nat.add_comm, List.take_succ_cons], by rw [List.length_cons]; omega, h10⟩
          · cases h
/-- A way to write counts, and one to read them, that belong together. -/
structure CntGet (cnt : Nat → List UInt8) (get : List UInt8 → Nat × Nat × Bool) : Prop where
  put : ∀ n t, n < 18446744073709551616 → get (cnt n ++ t) = (n, (cnt n).length, true)
  back : ∀ l x k, get l = (x, k, true) → cnt x = l.take k ∧ k ≤ l.length ∧ x < 18446744073709551616
theorem cntGet_mk {put : Nat → List UInt8} {get : List UInt8 → Nat × Nat × Bool} (h1 : ∀ n t, n < 18446744073709551616 → get (put n ++ t) = (n, (put n).length, true)) (h2 : ∀ l x k, get l = (x, k, true) → put x = l.take k ∧ k ≤ l.length ∧ x < 18446744073709551616) : CntGet (fun m => if m < 18446744073709551616 then put m else []) get :=
  ⟨fun n t hn => by simp only [if_pos hn]; exact h1 n t hn, fun l x k h => by
    obtain ⟨a, b, c⟩ := h2 l x k h
    simp only [if_pos c]
    exact ⟨a, b, c⟩⟩
theorem cntGet_sc : CntGet (fun m => if m < 18446744073709551616 then putCompact m else []) getCompact := cntGet_mk getCompact_put getCompact_back
theorem cntGet_bc : CntGet (fun m => if m < 18446744073709551616 then putSize m else []) getSize := cntGet_mk getSize_put getSize_back
end Go.Proofs.YtdncnjmlicdamaaGreatDoor
namespace Go.Proofs.YtdncnjmlicdamaaGreatDoor
open Go.RowKit
set_option linter.unusedVariables false
theorem hl_of (list : Bool) (n : Nat) (t : List UInt8) (h56 : 56 ≤ n) (hn : n ≤ 65535) : hl list ((leL n (by8 n)).reverse ++ t) (by8 n) = (list, n, 1 + by8 n, true) := by
  have hp := (by8_le n (by8 n)).1 (Nat.le_refl _)
  have e : ((leL n (by8 n)).reverse ++ t).take (by8 n) = (leL n (by8 n)).reverse := by
    rw [List.take_append_of_le_length (by rw [List.length_reverse, leL_len]; exact Nat.le_refl _), List.take_of_length_le (by rw [List.length_reverse, leL_len]; exact Nat.le_refl _)]
  unfold hl
  rw [e, List.reverse_reverse, leV_leL n _ hp, if_pos ⟨by8_16 n hn, by rw [List.length_append, List.length_reverse, leL_len]; omega, h56, rfl⟩]
theorem getHead_headL (list : Bool) (n : Nat) (t : List UInt8) (hn : n ≤ 65535) : getHead (headL list n ++ t) = (list, n, (headL list n).length, true) := by
  have hb2 := by8_16 n hn
  by_cases h : n < 56
  · cases list
    · rw [headL_false_lo n h, leL_len, leL_cons]
      show getHead (UInt8.ofNat (128 + n) :: _) = _
      simp only [getHead]
      rw [show (UInt8.ofNat (128 + n)).toNat = 128 + n from by rw [UInt8.toNat_ofNat']; omega, if_neg (by omega), if_pos (by omega), decide_eq_false (by omega), show (128 + n) % 64 = n from by omega]
    · rw [headL_true_lo n h, leL_len, leL_cons]
      show getHead (UInt8.ofNat (192 + n) :: _) = _
      simp only [getHead]
      rw [show (UInt8.ofNat (192 + n)).toNat = 192 + n from by rw [UInt8.toNat_ofNat']; omega, if_neg (by omega), if_pos (by omega), decide_eq_true (by omega), show (192 + n) % 64 = n from by omega]
  · have h1 := by8_pos n (by omega)
    cases list
    · rw [headL_false_hi n h, List.length_append, leL_len, List.length_reverse, leL_len, leL_cons]
      show getHead (UInt8.ofNat (183 + by8 n) :: ((leL n (by8 n)).reverse ++ t)) = _
      simp only [getHead]
      rw [show (UInt8.ofNat (183 + by8 n)).toNat = 183 + by8 n from by rw [UInt8.toNat_ofNat']; omega, if_neg (by omega), if_neg (by omega), decide_eq_false (by omega), show (183 + by8 n) % 64 - 55 = by8 n from by omega, hl_of false n t (by omega) hn]
    · rw [headL_true_hi n h, List.length_append, leL_len, List.length_reverse, leL_len, leL_cons]
      show getHead (UInt8.ofNat (247 + by8 n) :: ((leL n (by8 n)).reverse ++ t)) = _
      simp only [getHead]
      rw [show (UInt8.ofNat (247 + by8 n)).toNat = 247 + by8 n from by rw [UInt8.toNat_ofNat']; omega, if_neg (by omega), if_neg (by omega), decide_eq_true (by omega), show (247 + by8 n) % 64 - 55 = by8 n from by omega, hl_of true n t (by omega) hn]
theorem getHead_back (l : List UInt8) (x : Bool) (m k : Nat) (h : getHead l = (x, m, k, true)) : putHead x m = l.take k ∧ k ≤ l.length ∧ m ≤ 65535 := by
  have key : ∀ m : Nat, m ≤ 65535 → putHead x m = headL x m := by
    intro m hm; unfold putHead; rw [if_pos ⟨by omega, by omega⟩, Int.toNat_natCast]
  cases l with
  | nil => simp [getHead] at h
  | cons b r =>
    have hb := b.toNat_lt
    simp only [getHead] at h
    by_cases h1 : b.toNat < 128
    · rw [if_pos h1] at h; simp at h
    · rw [if_neg h1] at h
      by_cases h2 : b.toNat % 64 < 56
      · rw [if_pos h2] at h
        have e := headL_lo b r (by omega) h2
        cases h
        exact ⟨by rw [key _ (by omega), e]; simp, by simp, by omega⟩
      · rw [if_neg h2] at h
        unfold hl at h
        split at h
        · rename_i hc
          obtain ⟨c1, c2, c3, c4⟩ := hc
          have e := headL_yes b r (b.toNat % 64 - 55) (by omega) rfl (by omega) c2 c3 c4
          have h9 := leV_rev_lt r (b.toNat % 64 - 55) c2
          have h10 : leV (r.take (b.toNat % 64 - 55)).reverse < 65536 := Nat.lt_of_lt_of_le h9 (Nat.le_trans (Nat.pow_le_pow_right (by decide) (show 8 * (b.toNat % 64 - 55) ≤ 16 by omega)) (by decide))
          generalize b.toNat % 64 - 55 = q at *
          cases h
          exact ⟨by rw [key _ (by omega), e, Nat.add_comm, List.take_succ_cons], by rw [List.length_cons]; omega, by omega⟩
        · cases h
end Go.Proofs.YtdncnjmlicdamaaGreatDoor
namespace Go.Proofs.YtdncnjmlicdamaaGreatDoor
set_option linter.unusedVariables false
/-- How many bytes a number of that type has. -/
def wd (k n : Int) : Nat := if k = 1 then (n / 8).toNat else 1
/-- The item of a type with which b begins, and how many bytes it has by itself. -/
def oneD (get : List UInt8 → Nat × Nat × Bool) (k n : Int) (b : List UInt8) : Option (It × Nat) :=
  if k = 1 ∨ k = 2 ∨ k = 8 ∨ k = 9 then (if wd k n ≤ b.length then some (⟨k, leV (b.take (wd k n)), ⟨#[]⟩⟩, wd k n) else none)
  else if k = 3 then (if (get b).2.2 = true ∧ (get b).1 ≤ n.toNat ∧ (get b).2.1 + (get b).1 ≤ b.length then some (⟨k, 0, ⟨((b.drop (get b).2.1).take (get b).1).toArray⟩⟩, (get b).2.1 + (get b).1) else none)
  else if k = 4 then (if n.toNat ≤ b.length then some (⟨k, 0, ⟨(b.take n.toNat).toArray⟩⟩, n.toNat) else none)
  else if k = 5 then (if (get b).2.2 = true then some (⟨k, (get b).1, ⟨#[]⟩⟩, (get b).2.1) else none)
  else some (⟨k, n.toNat, ⟨#[]⟩⟩, 0)
/-- The first j parts, one behind the other, from place h of b on. -/
def partsD (d : Nat → List UInt8 → Option (List It × Nat)) (ps : Nat → Nat) (b : List UInt8) (h : Nat) : Nat → Option (List (List It) × Nat)
  | 0 => some ([], h)
  | j + 1 => (partsD d ps b h j).bind fun x => (d (ps j) (b.drop x.2)).map fun y => (x.1 ++ [y.1], x.2 + y.2)
/-- The value of the type at place a with which b begins, and how many bytes it has. -/
def scD (get : List UInt8 → Nat × Nat × Bool) (ts : List (Int × Int)) : Nat → Nat → List UInt8 → Option (List It × Nat)
  | 0, _, _ => none
  | f + 1, a, b => match ts[a]? with
    | none => none
    | some t => (oneD get t.1 t.2 b).bind fun x => if fitsI t.1 t.2 x.1 then (partsD (scD get ts f) (pl ts f a t.1 x.1.n) b x.2 (np t.1 x.1.n)).map fun y => (x.1 :: y.1.flatten, y.2) else none
theorem scD_inv {get : List UInt8 → Nat × Nat × Bool} {ts : List (Int × Int)} {f a m : Nat} {b : List UInt8} {l : List It} (h : scD get ts (f + 1) a b = some (l, m)) :
    ∃ (ha : a < ts.length) (x : It) (h0 : Nat) (ls : List (List It)), oneD get ts[a].1 ts[a].2 b = some (x, h0) ∧ fitsI ts[a].1 ts[a].2 x = true ∧ partsD (scD get ts f) (pl ts f a ts[a].1 x.n) b h0 (np ts[a].1 x.n) = some (ls, m) ∧ l = x :: ls.flatten := by
  by_cases ha : a < ts.length
  · refine ⟨ha, ?_⟩
    simp only [scD, List.getElem?_eq_getElem ha] at h
    obtain ⟨⟨x, h0⟩, h1, h2⟩ := Option.bind_eq_some_iff.1 h
    simp only at h2
    split at h2
    · rename_i hf
      obtain ⟨⟨ls, m'⟩, h3, h4⟩ := Option.map_eq_some_iff.1 h2
      simp only [Prod.mk.injEq] at h4
      obtain ⟨rfl, rfl⟩ := h4
      exact ⟨x, h0, ls, h1, hf, h3, rfl⟩
    · cases h2
  · simp [scD, List.getElem?_eq_none (Nat.le_of_not_lt ha)] at h
theorem partsD_len {d : Nat → List UInt8 → Option (List It × Nat)} {ps : Nat → Nat} {b : List UInt8} {h0 : Nat} : ∀ {j m : Nat} {ls : List (List It)}, partsD d ps b h0 j = some (ls, m) → ls.length = j := by
  intro j
  induction j with
  | zero => intro m ls h; simp only [partsD, Option.some.injEq, Prod.mk.injEq] at h; rw [← h.1]; rfl
  | succ j ih =>
    intro m ls h
    simp only [partsD] at h
    obtain ⟨⟨ls', m'⟩, h1, h2⟩ := Option.bind_eq_some_iff.1 h
    obtain ⟨y, _, h4⟩ := Option.map_eq_some_iff.1 h2
    simp only [Prod.mk.injEq] at h4
    rw [← h4.1]
    simp [ih h1]
/-- What is read is a value of the type, wherever it stands. -/
theorem scD_ve {get : List UInt8 → Nat × Nat × Bool} {ts : List (Int × Int)} : ∀ {f a m : Nat} {b : List UInt8} {l : List It}, scD get ts f a b = some (l, m) → ∀ pre post : List It, ve ts (pre ++ (l ++ post)) f a pre.length = some (pre.length + l.length) := by
  intro f
  induction f with
  | zero => intro a m b l h; cases h
  | succ f ih =>
    intro a m b l h pre post
    obtain ⟨ha, x, h0, ls, h1, h2, h3, rfl⟩ := scD_inv h
    have hq : pre.length < (pre ++ ((x :: ls.flatten) ++ post)).length := by simp
    have hx : (pre ++ ((x :: ls.flatten) ++ post))[pre.length] = x := by simp
    rw [ve_ok ha hq (by rw [hx]; exact h2), hx]
    have key : ∀ j m' ls', partsD (scD get ts f) (pl ts f a ts[a].1 x.n) b h0 j = some (ls', m') → ∀ rest : List It, vit (ve ts (pre ++ ((x :: ls'.flatten) ++ rest)) f) (pl ts f a ts[a].1 x.n) (pre.length + 1) j = some (pre.length + 1 + ls'.flatten.length) := by
      intro j
      induction j with
      | zero =>
        intro m' ls' hp rest
        simp only [partsD, Option.some.injEq, Prod.mk.injEq] at hp
        rw [← hp.1]
        simp [vit_zero]
      | succ j ihj =>
        intro m' ls' hp rest
        simp only [partsD] at hp
        obtain ⟨⟨ls1, m1⟩, q1, q2⟩ := Option.bind_eq_some_iff.1 hp
        obtain ⟨⟨l2, m2⟩, q3, q4⟩ := Option.map_eq_some_iff.1 q2
        simp only [Prod.mk.injEq] at q4
        obtain ⟨rfl, _⟩ := q4
        have e1 := ihj m1 ls1 q1 (l2 ++ rest)
        have eq1 : pre ++ ((x :: (ls1 ++ [l2]).flatten) ++ rest) = pre ++ ((x :: ls1.flatten) ++ (l2 ++ rest)) := by simp
        rw [eq1, vit_succ, e1]
        have e2 := ih q3 (pre ++ (x :: ls1.flatten)) rest
        have eq2 : (pre ++ (x :: ls1.flatten)) ++ (l2 ++ rest) = pre ++ ((x :: ls1.flatten) ++ (l2 ++ rest)) := by simp
        rw [eq2] at e2
        have eq3 : (pre ++ (x :: ls1.flatten)).length = pre.length + 1 + ls1.flatten.length := by simp; omega
        rw [eq3] at e2
        show ve ts _ f _ _ = _
        rw [e2]
        simp
        omega
    have := key _ _ _ h3 post
    rw [this]
    simp
    omega
/-- A schema's value that is read is typed where it has no more items than a value may have. -/
theorem scD_typed {get : List UInt8 → Nat × Nat × Bool} {ts : List (Int × Int)} {b : List UInt8} {l : List It} {m : Nat} (hs : schOk ts = true) (h : scD get ts 7 0 b = some (l, m)) : typedB ts l = decide (l.length ≤ 200) := by
  have hv := scD_ve h [] []
  simp only [List.nil_append, List.append_nil, List.length_nil, Nat.zero_add] at hv
  unfold typedB
  rw [hs, hv]
  simp
end Go.Proofs.YtdncnjmlicdamaaGreatDoor
namespace Go.Proofs.YtdncnjmlicdamaaGreatDoor
set_option linter.unusedVariables false
theorem it_ext {x : It} {k : Int} {n : Nat} {s : ByteArray} (hk : x.k = k) (hn : x.n = n) (hs : x.s = s) : x = ⟨k, n, s⟩ := by
  cases x; cases hk; cases hn; cases hs; rfl
theorem s_zero {s : ByteArray} (h : s.size = 0) : s = ⟨#[]⟩ := by
  obtain ⟨⟨l⟩⟩ := s
  have : l = [] := by simpa [ByteArray.size] using h
  subst this; rfl
theorem fit_parts {k n : Int} {x : It} (hf : fitsI k n x = true) : x.k = k ∧ fitsN k n x.n = true ∧ fitsS k n x.s.size = true := by simpa [fitsI] using hf
theorem fitS_zero {k n : Int} {m : Nat} (h : fitsS k n m = true) (h3 : k ≠ 3) (h4 : k ≠ 4) : m = 0 := by
  unfold fitsS at h
  rw [if_neg h3, if_neg h4] at h
  exact of_decide_eq_true h
/-- An item's own bytes, read. -/
theorem oneD_own {cnt : Nat → List UInt8} {get : List UInt8 → Nat × Nat × Bool} (hc : CntGet cnt get) {k n : Int} {x : It} (hok : tyOk k n = true) (hf : fitsI k n x = true) (t : List UInt8) : oneD get k n (own cnt n x ++ t) = some (x, (own cnt n x).length) := by
  obtain ⟨hk, hn, hs⟩ := fit_parts hf
  simp only [tyOk, decide_eq_true_eq] at hok
  have num : ∀ j : Nat, wd k n = j → x.n < 2 ^ (8 * j) → own cnt n x = leL x.n j → (k = 1 ∨ k = 2 ∨ k = 8 ∨ k = 9) → oneD get k n (own cnt n x ++ t) = some (x, (own cnt n x).length) := by
    intro j hj hx ho hkk
    have hs0 := s_zero (fitS_zero hs (by omega) (by omega))
    rw [ho]
    unfold oneD
    rw [if_pos hkk, hj, if_pos (by rw [List.length_append, leL_len]; omega), take_leL, leV_leL _ _ hx, leL_len, ← it_ext hk rfl hs0]
  rcases hok with h | h | h | h | h | h | h | h | h
  · obtain ⟨rfl, h2⟩ := h
    have hx : x.n < 2 ^ n.toNat := by unfold fitsN at hn; rw [if_pos rfl] at hn; exact of_decide_eq_true hn
    have ho : own cnt n x = leL x.n (n / 8).toNat := by unfold own; rw [if_pos hk]
    refine num (n / 8).toNat (by simp [wd]) ?_ ho (.inl rfl)
    rw [show 8 * (n / 8).toNat = n.toNat by omega]
    exact hx
  · obtain ⟨rfl, h2⟩ := h
    have hx : x.n ≤ 1 := by unfold fitsN at hn; rw [if_neg (by omega), if_pos (by omega)] at hn; exact of_decide_eq_true hn
    have ho : own cnt n x = leL x.n 1 := by unfold own; rw [if_neg (by omega), if_pos (by omega)]
    exact num 1 (by simp [wd]) (by omega) ho (by omega)
  · obtain ⟨rfl, h2⟩ := h
    have hx : (x.s.size : Int) ≤ n := by unfold fitsS at hs; rw [if_pos rfl] at hs; exact of_decide_eq_true hs
    have hn0 : x.n = 0 := by unfold fitsN at hn; simp at hn; exact hn
    have hl : x.s.data.toList.length = x.s.size := Array.length_toList
    have ho : own cnt n x = cnt x.s.size ++ x.s.data.toList := by unfold own; rw [if_neg (by omega), if_neg (by omega), if_pos (by omega)]
    have hg := hc.put x.s.size (x.s.data.toList ++ t) (by omega)
    rw [ho]
    unfold oneD
    rw [if_neg (by omega), if_pos rfl, List.append_assoc, hg]
    simp only []
    rw [if_pos ⟨trivial, by omega, by simp only [List.length_append]; omega⟩, List.drop_left, ← hl, List.take_left]
    congr 1
    simp only [List.length_append]
    rw [it_ext hk hn0 (rfl : x.s = x.s)]
  · obtain ⟨rfl, h2⟩ := h
    have hx : (x.s.size : Int) = n := by unfold fitsS at hs; rw [if_neg (by omega), if_pos rfl] at hs; exact of_decide_eq_true hs
    have hn0 : x.n = 0 := by unfold fitsN at hn; simp at hn; exact hn
    have hl : x.s.data.toList.length = x.s.size := Array.length_toList
    have ho : own cnt n x = x.s.data.toList := by unfold own; rw [if_neg (by omega), if_neg (by omega), if_neg (by omega), if_pos (by omega)]
    rw [ho]
    unfold oneD
    rw [if_neg (by omega), if_neg (by omega), if_pos rfl, if_pos (by rw [List.length_append]; omega), show n.toNat = x.s.data.toList.length by omega, List.take_left, ← it_ext hk hn0 (rfl : x.s = _)]
  · obtain ⟨rfl, h2⟩ := h
    have hs0 := s_zero (fitS_zero hs (by omega) (by omega))
    have hx : (x.n : Int) ≤ n := by unfold fitsN at hn; rw [if_neg (by omega), if_neg (by omega), if_pos rfl] at hn; exact of_decide_eq_true hn
    have ho : own cnt n x = cnt x.n := by unfold own; rw [if_neg (by omega), if_neg (by omega), if_neg (by omega), if_neg (by omega), if_pos (by omega)]
    rw [ho]
    unfold oneD
    rw [if_neg (by omega), if_neg (by omega), if_neg (by omega), if_pos rfl, hc.put x.n t (by omega)]
    simp only []
    rw [if_pos trivial, ← it_ext hk rfl hs0]
  all_goals
    first
    | (have hkk : k = 6 ∨ k = 7 := by omega
       have hs0 := s_zero (fitS_zero hs (by omega) (by omega))
       have hx : (x.n : Int) = n := by unfold fitsN at hn; rw [if_neg (by omega), if_neg (by omega), if_neg (by omega), if_pos (by omega)] at hn; exact of_decide_eq_true hn
       have ho : own cnt n x = [] := by unfold own; rw [if_neg (by omega), if_neg (by omega), if_neg (by omega), if_neg (by omega), if_neg (by omega)]
       rw [ho]
       unfold oneD
       rw [if_neg (by omega), if_neg (by omega), if_neg (by omega), if_neg (by omega), ← it_ext hk (show x.n = n.toNat by omega) hs0]
       rfl)
    | (have hkk : k = 8 ∨ k = 9 := by omega
       have hx : x.n < 256 := by
         unfold fitsN at hn
         rcases hkk with rfl | rfl
         · rw [if_neg (by omega), if_pos (by omega)] at hn; have := of_decide_eq_true hn; omega
         · rw [if_neg (by omega), if_neg (by omega), if_neg (by omega), if_neg (by omega), if_pos (by omega)] at hn; have := of_decide_eq_true hn; omega
       have ho : own cnt n x = leL x.n 1 := by unfold own; rw [if_neg (by omega), if_pos (by omega)]
       exact num 1 (by unfold wd; rw [if_neg (by omega)]) (by omega) ho (by omega))
/-- An item that is read: its own bytes are those. -/
theorem oneD_back {cnt : Nat → List UInt8} {get : List UInt8 → Nat × Nat × Bool} (hc : CntGet cnt get) {k n : Int} {x : It} {h : Nat} {b : List UInt8} (hok : tyOk k n = true) (hd : oneD get k n b = some (x, h)) : own cnt n x = b.take h ∧ h ≤ b.length ∧ x.n < 18446744073709551616 ∧ x.k = k ∧ x.s.size ≤ 200 := by
  simp only [tyOk, decide_eq_true_eq] at hok
  unfold oneD at hd
  by_cases h1 : k = 1 ∨ k = 2 ∨ k = 8 ∨ k = 9
  · rw [if_pos h1] at hd
    split at hd
    · rename_i hl
      simp only [Option.some.injEq, Prod.mk.injEq] at hd
      obtain ⟨rfl, rfl⟩ := hd
      have hw : wd k n ≤ 8 := by unfold wd; split <;> omega
      have ho : own cnt n ⟨k, leV (b.take (wd k n)), ⟨#[]⟩⟩ = leL (leV (b.take (wd k n))) (wd k n) := by
        unfold own wd
        by_cases e : k = 1
        · simp [e]
        · simp only [if_neg e]; rw [if_pos (by omega)]
      have h9 := leV_take_lt b (wd k n) hl
      refine ⟨by rw [ho, leL_take b _ hl], hl, Nat.lt_of_lt_of_le h9 (Nat.le_trans (Nat.pow_le_pow_right (by decide) (show 8 * wd k n ≤ 64 by omega)) (by decide)), rfl, by simp [ByteArray.size]⟩
    · cases hd
  · rw [if_neg h1] at hd
    by_cases h3 : k = 3
    · rw [if_pos h3] at hd
      split at hd
      · rename_i hl
        obtain ⟨q1, q2, q3⟩ := hl
        simp only [Option.some.injEq, Prod.mk.injEq] at hd
        obtain ⟨rfl, rfl⟩ := hd
        obtain ⟨p1, p2, p3⟩ := hc.back b (get b).1 (get b).2.1 (by rw [← q1])
        have ls : ((b.drop (get b).2.1).take (get b).1).length = (get b).1 := by rw [List.length_take, List.length_drop]; omega
        refine ⟨?_, q3, by simp, rfl, by simp only [ByteArray.size, List.size_toArray]; omega⟩
        unfold own
        simp only []
        rw [if_neg (by omega), if_neg (by omega), if_pos h3]
        simp only [ByteArray.size, List.size_toArray, ls]
        rw [p1, List.take_add]
      · cases hd
    · rw [if_neg h3] at hd
      by_cases h4 : k = 4
      · rw [if_pos h4] at hd
        split at hd
        · rename_i hl
          simp only [Option.some.injEq, Prod.mk.injEq] at hd
          obtain ⟨rfl, rfl⟩ := hd
          refine ⟨?_, hl, by simp, rfl, by simp only [ByteArray.size, List.size_toArray, List.length_take]; omega⟩
          unfold own
          simp only []
          rw [if_neg (by omega), if_neg (by omega), if_neg (by omega), if_pos h4]
        · cases hd
      · rw [if_neg h4] at hd
        by_cases h5 : k = 5
        · rw [if_pos h5] at hd
          split at hd
          · rename_i hl
            simp only [Option.some.injEq, Prod.mk.injEq] at hd
            obtain ⟨rfl, rfl⟩ := hd
            obtain ⟨p1, p2, p3⟩ := hc.back b (get b).1 (get b).2.1 (by rw [← hl])
            refine ⟨?_, p2, p3, rfl, by simp [ByteArray.size]⟩
            unfold own
            simp only []
            rw [if_neg (by omega), if_neg (by omega), if_neg (by omega), if_neg (by omega), if_pos h5, p1]
          · cases hd
        · rw [if_neg h5] at hd
          simp only [Option.some.injEq, Prod.mk.injEq] at hd
          obtain ⟨rfl, rfl⟩ := hd
          refine ⟨?_, by omega, by simp only []; omega, rfl, by simp [ByteArray.size]⟩
          unfold own
          simp only []
          rw [if_neg (by omega), if_neg (by omega), if_neg (by omega), if_neg (by omega), if_neg (by omega)]
          simp
theorem cat_split {e : Nat → Nat → List UInt8} {g : Nat → Nat → Option Nat} {ps : Nat → Nat} {q : Nat} : ∀ {j n : Nat}, j ≤ n → ∃ r, cat e g ps q n = cat e g ps q j ++ r := by
  intro j n hj
  induction n with
  | zero => have : j = 0 := by omega
            subst this; exact ⟨[], by simp⟩
  | succ n ih =>
    by_cases e1 : j = n + 1
    · subst e1; exact ⟨[], by simp⟩
    · obtain ⟨r, hr⟩ := ih (by omega)
      exact ⟨r ++ e (ps n) ((vit g ps q n).getD 0), by simp only [cat]; rw [hr, List.append_assoc]⟩
theorem drop_take_step (vs : List It) {a b c : Nat} (h1 : a ≤ b) (h2 : b ≤ c) : (vs.drop a).take (b - a) ++ (vs.drop b).take (c - b) = (vs.drop a).take (c - a) := by
  rw [show c - a = (b - a) + (c - b) by omega, List.take_add, List.drop_drop, show a + (b - a) = b by omega]
/-- A value's bytes, read: the value. -/
theorem scD_put {cnt : Nat → List UInt8} {get : List UInt8 → Nat × Nat × Bool} (hc : CntGet cnt get) {ts : List (Int × Int)} {vs : List It} : ∀ {f a e q q' : Nat}, en ts f a = some e → ve ts vs f a q = some q' → ∀ t, scD get ts f a (scE cnt ts vs f a q ++ t) = some ((vs.drop q).take (q' - q), (scE cnt ts vs f a q).length) := by
  intro f
  induction f with
  | zero => intro a e q q' h; cases h
  | succ f ih =>
    intro a e q q' he h t
    obtain ⟨ha, hq, hfit, hv⟩ := ve_inv h
    obtain ⟨_, hok, hit⟩ := en_inv he
    have hfn := (fit_parts hfit).2.1
    have key : ∀ j x, j ≤ np ts[a].1 vs[q].n → vit (ve ts vs f) (pl ts f a ts[a].1 vs[q].n) (q + 1) j = some x →
        ∃ ls, partsD (scD get ts f) (pl ts f a ts[a].1 vs[q].n) (scE cnt ts vs (f + 1) a q ++ t) (own cnt ts[a].2 vs[q]).length j = some (ls, (own cnt ts[a].2 vs[q]).length + (cat (scE cnt ts vs f) (ve ts vs f) (pl ts f a ts[a].1 vs[q].n) (q + 1) j).length) ∧ ls.flatten = (vs.drop (q + 1)).take (x - (q + 1)) := by
      intro j
      induction j with
      | zero => intro x _ hx; cases hx; exact ⟨[], by simp [partsD, cat], by simp⟩
      | succ j ihj =>
        intro x hj hx
        obtain ⟨y, hy⟩ := vit_part hx (Nat.le_succ j)
        obtain ⟨ls, h1, h2⟩ := ihj y (by omega) hy
        have hx' := hx
        rw [vit_succ, hy] at hx'
        obtain ⟨e', he'⟩ := pl_ok ha hok hit hfn (show j < np ts[a].1 vs[q].n by omega)
        have hx2 : ve ts vs f (pl ts f a ts[a].1 vs[q].n j) y = some x := hx'
        obtain ⟨r, hr⟩ := cat_split (e := scE cnt ts vs f) (g := ve ts vs f) (ps := pl ts f a ts[a].1 vs[q].n) (q := q + 1) (show j + 1 ≤ np ts[a].1 vs[q].n by omega)
        have hcs := cat_succ (e := scE cnt ts vs f) (g := ve ts vs f) (ps := pl ts f a ts[a].1 vs[q].n) hy
        have hd : (scE cnt ts vs (f + 1) a q ++ t).drop ((own cnt ts[a].2 vs[q]).length + (cat (scE cnt ts vs f) (ve ts vs f) (pl ts f a ts[a].1 vs[q].n) (q + 1) j).length) = scE cnt ts vs f (pl ts f a ts[a].1 vs[q].n j) y ++ (r ++ t) := by
          rw [scE_ok ha hq, hr, hcs, ← List.length_append]
          simp only [List.append_assoc]
          rw [← List.append_assoc (own cnt ts[a].2 vs[q]), List.drop_left]
        have h3 := ih he' hx2 (r ++ t)
        have l1 := vit_lt (show q + 1 ≤ vs.length by omega) hy
        have l2 := (ve_lt hx2).1
        refine ⟨ls ++ [(vs.drop y).take (x - y)], ?_, ?_⟩
        · simp only [partsD]
          rw [h1]
          simp only [Option.bind_some]
          rw [hd, h3]
          simp only [Option.map_some]
          rw [hcs, List.length_append]
          congr 2
          omega
        · rw [List.flatten_append, h2]
          simp only [List.flatten_cons, List.flatten_nil, List.append_nil]
          exact drop_take_step vs l1.1 (by omega)
    obtain ⟨ls, h1, h2⟩ := key _ _ (Nat.le_refl _) hv
    have hl := vit_lt (show q + 1 ≤ vs.length by omega) hv
    have hone := oneD_own hc hok hfit (cat (scE cnt ts vs f) (ve ts vs f) (pl ts f a ts[a].1 vs[q].n) (q + 1) (np ts[a].1 vs[q].n) ++ t)
    rw [← List.append_assoc, ← scE_ok ha hq] at hone
    simp only [scD, List.getElem?_eq_getElem ha]
    rw [hone]
    simp only [Option.bind_some]
    rw [if_pos hfit, h1]
    simp only [Option.map_some]
    rw [h2, scE_ok ha hq, List.length_append]
    congr 2
    rw [show q' - q = (q' - (q + 1)) + 1 by omega, List.drop_eq_getElem_cons hq, List.take_succ_cons]
/-- What is read, written again. -/
theorem scD_back {cnt : Nat → List UInt8} {get : List UInt8 → Nat × Nat × Bool} (hc : CntGet cnt get) {ts : List (Int × Int)} : ∀ {f a e m : Nat} {b : List UInt8} {l : List It}, en ts f a = some e → scD get ts f a b = some (l, m) → m ≤ b.length ∧ (∀ x ∈ l, (1 ≤ x.k ∧ x.k ≤ 9) ∧ x.n < 18446744073709551616 ∧ x.s.size ≤ 200) ∧ ∀ pre post : List It, scE cnt ts (pre ++ (l ++ post)) f a pre.length = b.take m := by
  intro f
  induction f with
  | zero => intro a e m b l h; cases h
  | succ f ih =>
    intro a e m b l he h
    obtain ⟨ha, x, h0, ls, h1, h2, h3, rfl⟩ := scD_inv h
    obtain ⟨_, hok, hit⟩ := en_inv he
    obtain ⟨ho, hh, hxn, hxk, hxs⟩ := oneD_back hc hok h1
    have hfn := (fit_parts h2).2.1
    have hk9 : 1 ≤ x.k ∧ x.k ≤ 9 := by rw [hxk]; simp only [tyOk, decide_eq_true_eq] at hok; omega
    have key : ∀ j m' ls', j ≤ np ts[a].1 x.n → partsD (scD get ts f) (pl ts f a ts[a].1 x.n) b h0 j = some (ls', m') →
        h0 ≤ m' ∧ m' ≤ b.length ∧ (∀ y ∈ ls'.flatten, (1 ≤ y.k ∧ y.k ≤ 9) ∧ y.n < 18446744073709551616 ∧ y.s.size ≤ 200) ∧ ∀ pre rest : List It, cat (scE cnt ts (pre ++ ((x :: ls'.flatten) ++ rest)) f) (ve ts (pre ++ ((x :: ls'.flatten) ++ rest)) f) (pl ts f a ts[a].1 x.n) (pre.length + 1) j = (b.drop h0).take (m' - h0) ∧ vit (ve ts (pre ++ ((x :: ls'.flatten) ++ rest)) f) (pl ts f a ts[a].1 x.n) (pre.length + 1) j = some (pre.length + 1 + ls'.flatten.length) := by
      intro j
      induction j with
      | zero =>
        intro m' ls' _ hp
        simp only [partsD, Option.some.injEq, Prod.mk.injEq] at hp
        obtain ⟨rfl, rfl⟩ := hp
        exact ⟨by omega, hh, by simp, fun pre rest => ⟨by simp [cat], by simp [vit_zero]⟩⟩
      | succ j ihj =>
        intro m' ls' hj hp
        simp only [partsD] at hp
        obtain ⟨⟨ls1, m1⟩, q1, q2⟩ := Option.bind_eq_some_iff.1 hp
        obtain ⟨⟨l2, m2⟩, q3, q4⟩ := Option.map_eq_some_iff.1 q2
        simp only [Prod.mk.injEq] at q4
        obtain ⟨rfl, rfl⟩ := q4
        obtain ⟨b1, b2, b3, b4⟩ := ihj m1 ls1 (by omega) q1
        obtain ⟨e', he'⟩ := pl_ok ha hok hit hfn (show j < np ts[a].1 x.n by omega)
        obtain ⟨c1, c2, c3⟩ := ih he' q3
        rw [List.length_drop] at c1
        refine ⟨by omega, by omega, ?_, fun pre rest => ?_⟩
        · intro y hy
          rw [List.flatten_append] at hy
          simp only [List.flatten_cons, List.flatten_nil, List.append_nil, List.mem_append] at hy
          exact hy.elim (b3 y) (c2 y)
        · obtain ⟨d1, d2⟩ := b4 pre (l2 ++ rest)
          have eq1 : pre ++ ((x :: (ls1 ++ [l2]).flatten) ++ rest) = pre ++ ((x :: ls1.flatten) ++ (l2 ++ rest)) := by simp
          have eq2 : (pre ++ (x :: ls1.flatten)) ++ (l2 ++ rest) = pre ++ ((x :: ls1.flatten) ++ (l2 ++ rest)) := by simp
          have eq3 : (pre ++ (x :: ls1.flatten)).length = pre.length + 1 + ls1.flatten.length := by simp; omega
          have e2 := c3 (pre ++ (x :: ls1.flatten)) rest
          have e3 := scD_ve q3 (pre ++ (x :: ls1.flatten)) rest
          rw [eq2, eq3] at e2 e3
          rw [eq1]
          refine ⟨?_, ?_⟩
          · rw [cat_succ d2, d1, e2, show m1 + m2 - h0 = (m1 - h0) + m2 by omega, List.take_add, List.drop_drop, show h0 + (m1 - h0) = m1 by omega]
          · rw [vit_succ, d2]
            show ve ts _ f _ _ = _
            rw [e3]
            simp
            omega
    obtain ⟨k1, k2, k3, k4⟩ := key _ _ _ (Nat.le_refl _) h3
    refine ⟨k2, ?_, fun pre post => ?_⟩
    · intro y hy
      rcases List.mem_cons.1 hy with rfl | hy
      · exact ⟨hk9, hxn, hxs⟩
      · exact k3 y hy
    · have hq : pre.length < (pre ++ ((x :: ls.flatten) ++ post)).length := by simp
      have hx : (pre ++ ((x :: ls.flatten) ++ post))[pre.length] = x := by simp
      rw [scE_ok ha hq, hx, ho, (k4 pre post).1, show m = h0 + (m - h0) by omega, List.take_add]
      congr 2
      omega
/-- How many items are read at most. -/
theorem scD_many {get : List UInt8 → Nat × Nat × Bool} {ts : List (Int × Int)} : ∀ {f a e m : Nat} {b : List UInt8} {l : List It}, en ts f a = some e → scD get ts f a b = some (l, m) → 1 ≤ l.length ∧ l.length ≤ 21 ^ f := by
  intro f
  induction f with
  | zero => intro a e m b l h; cases h
  | succ f ih =>
    intro a e m b l he h
    obtain ⟨ha, x, h0, ls, h1, h2, h3, rfl⟩ := scD_inv h
    obtain ⟨_, hok, hit⟩ := en_inv he
    have hfn := (fit_parts h2).2.1
    have h20 := np_le hok hfn
    have key : ∀ j m' ls', j ≤ np ts[a].1 x.n → partsD (scD get ts f) (pl ts f a ts[a].1 x.n) b h0 j = some (ls', m') → ls'.flatten.length ≤ j * 21 ^ f := by
      intro j
      induction j with
      | zero =>
        intro m' ls' _ hp
        simp only [partsD, Option.some.injEq, Prod.mk.injEq] at hp
        obtain ⟨rfl, rfl⟩ := hp
        simp
      | succ j ihj =>
        intro m' ls' hj hp
        simp only [partsD] at hp
        obtain ⟨⟨ls1, m1⟩, q1, q2⟩ := Option.bind_eq_some_iff.1 hp
        obtain ⟨⟨l2, m2⟩, q3, q4⟩ := Option.map_eq_some_iff.1 q2
        simp only [Prod.mk.injEq] at q4
        obtain ⟨rfl, rfl⟩ := q4
        have b1 := ihj m1 ls1 (by omega) q1
        obtain ⟨e', he'⟩ := pl_ok ha hok hit hfn (show j < np ts[a].1 x.n by omega)
        have c1 := (ih he' q3).2
        rw [List.flatten_append]
        simp only [List.flatten_cons, List.flatten_nil, List.append_nil, List.length_append]
        rw [Nat.succ_mul]
        omega
    have k1 := key _ _ _ (Nat.le_refl _) h3
    have k2 : np ts[a].1 x.n * 21 ^ f ≤ 20 * 21 ^ f := Nat.mul_le_mul_right _ h20
    have k3 : 1 ≤ 21 ^ f := Nat.one_le_pow _ _ (by decide)
    rw [List.length_cons, Nat.pow_succ]
    omega
theorem own_pos {cnt : Nat → List UInt8} {get : List UInt8 → Nat × Nat × Bool} (hc : CntGet cnt get) (hg : get [] = (0, 0, false)) {k n : Int} {x : It} (hok : tyOk k n = true) (hf : fitsI k n x = true) (h67 : ¬ (k = 6 ∨ k = 7)) : 0 < (own cnt n x).length := by
  rcases Nat.eq_zero_or_pos (own cnt n x).length with h0 | h0
  · have hn : own cnt n x = [] := List.eq_nil_of_length_eq_zero h0
    have h1 := oneD_own hc hok hf []
    rw [hn] at h1
    simp only [List.append_nil, List.length_nil] at h1
    unfold oneD at h1
    rw [hg] at h1
    simp only [tyOk, decide_eq_true_eq] at hok
    by_cases q1 : k = 1 ∨ k = 2 ∨ k = 8 ∨ k = 9
    · rw [if_pos q1, if_neg (by unfold wd; simp only [List.length_nil]; split <;> omega)] at h1; cases h1
    · rw [if_neg q1] at h1
      by_cases q3 : k = 3
      · rw [if_pos q3, if_neg (by simp)] at h1; cases h1
      · rw [if_neg q3] at h1
        by_cases q4 : k = 4
        · rw [if_pos q4, if_neg (by simp only [List.length_nil]; omega)] at h1; cases h1
        · rw [if_neg q4] at h1
          by_cases q5 : k = 5
          · rw [if_pos q5, if_neg (by simp)] at h1; cases h1
          · omega
  · exact h0
/-- A value has a byte. -/
theorem scE_pos {cnt : Nat → List UInt8} {get : List UInt8 → Nat × Nat × Bool} (hc : CntGet cnt get) (hg : get [] = (0, 0, false)) {ts : List (Int × Int)} {vs : List It} : ∀ {f a e q q' : Nat}, en ts f a = some e → ve ts vs f a q = some q' → 0 < (scE cnt ts vs f a q).length := by
  intro f
  induction f with
  | zero => intro a e q q' h; cases h
  | succ f ih =>
    intro a e q q' he h
    obtain ⟨ha, hq, hfit, hv⟩ := ve_inv h
    obtain ⟨_, hok, hit⟩ := en_inv he
    have hfn := (fit_parts hfit).2.1
    rw [scE_ok ha hq, List.length_append]
    by_cases h67 : ts[a].1 = 6 ∨ ts[a].1 = 7
    · have hnp : 1 ≤ np ts[a].1 vs[q].n := by
        unfold np
        rw [if_pos (by omega)]
        unfold fitsN at hfn
        simp only [tyOk, decide_eq_true_eq] at hok
        rw [if_neg (by omega), if_neg (by omega), if_neg (by omega), if_pos h67] at hfn
        have := of_decide_eq_true hfn
        omega
      obtain ⟨y, hy⟩ := vit_part hv hnp
      obtain ⟨e', he'⟩ := pl_ok ha hok hit hfn (show 0 < np ts[a].1 vs[q].n by omega)
      have h1 := ih he' (show ve ts vs f _ (q + 1) = some y from hy)
      obtain ⟨r, hr⟩ := cat_split (e := scE cnt ts vs f) (g := ve ts vs f) (ps := pl ts f a ts[a].1 vs[q].n) (q := q + 1) hnp
      rw [hr, cat_succ (x := q + 1) rfl]
      simp only [List.length_append]
      omega
    · have := own_pos hc hg hok hfit h67
      omega
end Go.Proofs.YtdncnjmlicdamaaGreatDoor
