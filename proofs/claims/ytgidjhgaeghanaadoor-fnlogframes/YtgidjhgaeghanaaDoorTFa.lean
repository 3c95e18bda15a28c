/- The frames of a log: plain facts. -/
import Derived.Test.YtgidjhgaeghanaaDoorTFm
namespace Go.Proofs.YtgidjhgaeghanaaDoor
open Go.RowKit Go.Sort
set_option linter.unusedVariables false
theorem leL_cons1 (n k : Nat) : leL n (k + 1) = UInt8.ofNat n :: leL (n / 256) k := by
  unfold leL
  rw [List.range_succ_eq_map, List.map_cons, List.map_map]
  congr 1
  · simp [byt]
  · apply List.map_congr_left
    intro i _
    simp only [Function.comp, byt]
    rw [show 8 * (i + 1) = 8 + 8 * i from by omega, Nat.pow_add, ← Nat.div_div_eq_div_mul]
theorem leL_leV1 : ∀ l : List UInt8, leL (leV l) l.length = l
  | [] => rfl
  | b :: l => by
    have hb := b.toNat_lt
    rw [List.length_cons, leL_cons1]
    simp only [leV]
    rw [show (b.toNat + 256 * leV l) / 256 = leV l from by omega, leL_leV1 l]
    congr 1
    apply UInt8.toNat_inj.1
    rw [UInt8.toNat_ofNat']
    omega
theorem leV_leL1 : ∀ (n k : Nat), n < 2 ^ (8 * k) → leV (leL n k) = n
  | n, 0, h => by simp [leL, leV] at h ⊢; omega
  | n, k + 1, h => by
    rw [leL_cons1, leV]
    rw [leV_leL1 (n / 256) k (by rw [show 8 * (k + 1) = 8 * k + 8 from by omega, Nat.pow_add] at h; omega), UInt8.toNat_ofNat']
    omega
theorem sum_text {l : List UInt8} {c : Nat} (hl : l.length = 4) (hc : c < 4294967296) : leL c 4 = l ↔ c = leV l := by
  constructor
  · rintro rfl; exact (leV_leL1 c 4 (by simpa using hc)).symm
  · rintro rfl; have := leL_leV1 l; rwa [hl] at this
def hN (l : List UInt8) : Nat := leV (l.take 4).reverse
def hS (l : List UInt8) : Nat := leV ((l.drop 4).take 4)
def hD (l : List UInt8) (n : Nat) : List UInt8 := (l.drop 8).take n
/-- How long the frame is that bytes begin with. -/
def nx (l : List UInt8) : Option Nat := if 8 ≤ l.length ∧ hN l ≤ 100000 ∧ 8 + hN l ≤ l.length ∧ crc (hD l (hN l)) = hS l then some (hN l) else none
def itF (s : ByteArray) : Nat → Nat × List ByteArray
  | 0 => (0, [])
  | k + 1 => match nx (s.data.toList.drop (itF s k).1) with
    | some n => ((itF s k).1 + (8 + n), (itF s k).2 ++ [⟨(hD (s.data.toList.drop (itF s k).1) n).toArray⟩])
    | none => itF s k
def RdF (s : ByteArray) (p : Nat) (X : List ByteArray) : Prop := (∃ k, itF s k = (p, X)) ∧ p ≤ s.size ∧ X.length * 8 ≤ p
theorem RdF.zero (s : ByteArray) : RdF s 0 [] := ⟨⟨0, rfl⟩, Nat.zero_le _, Nat.zero_le _⟩
theorem dropLen (s : ByteArray) (p : Nat) : (s.data.toList.drop p).length = s.size - p := by rw [List.length_drop]; rfl
theorem RdF.next {s : ByteArray} {p n : Nat} {X : List ByteArray} (h : RdF s p X) (hn : nx (s.data.toList.drop p) = some n) : RdF s (p + (8 + n)) (X ++ [⟨(hD (s.data.toList.drop p) n).toArray⟩]) := by
  obtain ⟨⟨k, hk⟩, h1, h2⟩ := h
  refine ⟨⟨k + 1, ?_⟩, ?_, ?_⟩
  · show (match nx (s.data.toList.drop (itF s k).1) with | some n => _ | none => _) = _
    rw [hk, hn]
  · unfold nx at hn
    split at hn
    · rename_i hh; simp at hn; rw [dropLen] at hh; omega
    · simp at hn
  · simp; omega
def FEnd (s : ByteArray) (p : Nat) (X : List ByteArray) : Prop := RdF s p X ∧ nx (s.data.toList.drop p) = none
theorem it_stay {s : ByteArray} {k : Nat} (h : nx (s.data.toList.drop (itF s k).1) = none) : ∀ m, itF s (k + m) = itF s k
  | 0 => rfl
  | m + 1 => by
    show (match nx (s.data.toList.drop (itF s (k + m)).1) with | some n => _ | none => _) = _
    rw [it_stay h m, h]
    exact it_stay h m
theorem FEnd.one {s : ByteArray} {p p' : Nat} {X X' : List ByteArray} (h : FEnd s p X) (h' : FEnd s p' X') : p = p' ∧ X = X' := by
  obtain ⟨⟨⟨k, hk⟩, _⟩, hn⟩ := h
  obtain ⟨⟨⟨k', hk'⟩, _⟩, hn'⟩ := h'
  have e : itF s k = itF s k' := by
    rcases Nat.le_total k k' with hle | hle
    · have := it_stay (s := s) (k := k) (by rw [hk]; exact hn) (k' - k)
      rw [show k + (k' - k) = k' by omega] at this; exact this.symm
    · have := it_stay (s := s) (k := k') (by rw [hk']; exact hn') (k - k')
      rw [show k' + (k - k') = k by omega] at this; exact this
  rw [hk, hk'] at e
  exact ⟨congrArg Prod.fst e, congrArg Prod.snd e⟩
theorem nx_short {l : List UInt8} (h : l.length < 8) : nx l = none := if_neg (by omega)
theorem nx_none {l : List UInt8} (h : 100000 < hN l ∨ l.length < 8 + hN l ∨ crc (hD l (hN l)) ≠ hS l) : nx l = none := if_neg (by omega)
theorem nx_some {l : List UInt8} (h0 : 8 ≤ l.length) (h1 : hN l ≤ 100000) (h2 : 8 + hN l ≤ l.length) (h3 : crc (hD l (hN l)) = hS l) : nx l = some (hN l) := if_pos ⟨h0, h1, h2, h3⟩
theorem hS_lt (l : List UInt8) : hS l < 4294967296 := by
  have := leV_lt ((l.drop 4).take 4)
  have h4 : ((l.drop 4).take 4).length ≤ 4 := by simp; omega
  have := Nat.pow_le_pow_right (n := 2) (by decide) (Nat.mul_le_mul_left 8 h4)
  unfold hS
  have e : (2:Nat) ^ (8 * 4) = 4294967296 := by decide
  omega
theorem hN_lt (l : List UInt8) : hN l < 4294967296 := by
  have := leV_lt (l.take 4).reverse
  have h4 : (l.take 4).reverse.length ≤ 4 := by simp; omega
  have := Nat.pow_le_pow_right (n := 2) (by decide) (Nat.mul_le_mul_left 8 h4)
  unfold hN
  have e : (2:Nat) ^ (8 * 4) = 4294967296 := by decide
  omega
/-- A text's bytes, taken out of it. -/
theorem exL (s : ByteArray) (a b : Nat) : (s.extract a b).data.toList = (s.data.toList.drop a).take (b - a) := by simp [ByteArray.data_extract]
theorem exD (s : ByteArray) (p n : Nat) : s.extract (p + 8) (p + 8 + n) = ⟨(hD (s.data.toList.drop p) n).toArray⟩ := by
  apply str_of
  rw [exL, hD, List.drop_drop, show p + 8 + n - (p + 8) = n by omega]
theorem exS (s : ByteArray) (p : Nat) : leV (s.extract (p + 4) (p + 8)).data.toList = hS (s.data.toList.drop p) := by
  rw [exL, hS, List.drop_drop, show p + 8 - (p + 4) = 4 by omega]
/-- The first j of four bytes, the highest first. -/
def hJ (l : List UInt8) (j : Nat) : Nat := leV (l.take j).reverse
theorem hJ_next {l : List UInt8} {j : Nat} (h : j < l.length) : hJ l (j + 1) = 256 * hJ l j + (l[j]).toNat := by
  unfold hJ
  rw [List.take_succ_eq_append_getElem h, List.reverse_append]
  simp [leV]; omega
theorem hJ_lt (l : List UInt8) {j : Nat} (h : j ≤ 4) : hJ l j < 4294967296 := by
  have := leV_lt (l.take j).reverse
  have h4 : (l.take j).reverse.length ≤ 4 := by simp; omega
  have := Nat.pow_le_pow_right (n := 2) (by decide) (Nat.mul_le_mul_left 8 h4)
  unfold hJ
  have e : (2:Nat) ^ (8 * 4) = 4294967296 := by decide
  omega
theorem strv_app (a : List ByteArray) (x : ByteArray) : strv (a ++ [x]) = strv a ++ [.string x] := by simp [strv]
/-- What TakeFrames answers. -/
def TfE (s : ByteArray) (B : Nat) (w' : World) (e : Ending) : Prop := ∃ v p X, e = .returned (.tuple #[v, .int .i64 ((p : Nat) : Int)]) ∧ FEnd s p X ∧ w'.ownsRow B 9 1 v X.length (strv X)
end Go.Proofs.YtgidjhgaeghanaaDoor
