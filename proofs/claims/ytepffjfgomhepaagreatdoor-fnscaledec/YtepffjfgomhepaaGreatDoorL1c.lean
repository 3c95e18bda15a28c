/- Varints written: contracts. -/
import Derived.Test.YtepffjfgomhepaaGreatDoorL1b
namespace Go.Proofs.YtepffjfgomhepaaGreatDoor
open Go.RowKit
set_option linter.unusedVariables false
/-- Seven bits, and the eighth: more follows. -/
def vb (m : Nat) : UInt8 := UInt8.ofNat (m % 128 + 128)
/-- Bytes of seven bits, the lowest first; ten at most. -/
def varF : Nat → Nat → List UInt8
  | 0, n => [UInt8.ofNat n]
  | f + 1, n => if n < 128 then [UInt8.ofNat n] else vb n :: varF f (n / 128)
def putVar (n : Nat) : List UInt8 := varF 10 n
theorem varF_small (f m : Nat) (h : m < 128) : varF f m = [UInt8.ofNat m] := by
  cases f with
  | zero => rfl
  | succ f => simp [varF, h]
theorem varF_big (f m : Nat) (h : ¬ m < 128) : varF (f + 1) m = vb m :: varF f (m / 128) := by simp [varF, h]
theorem or128 : ∀ a : Fin 256, a.val ||| 128 = a.val % 128 + 128 := by decide +kernel
theorem bv_or (m : Nat) : bv (vb m) = Value.int IntKind.u8 (bits BinOp.or IntKind.u8 ((m : Int) % 256) 128) := by
  have e : ((m : Int) % 256) = ((m % 256 : Nat) : Int) := by omega
  have o := or128 ⟨m % 256, Nat.mod_lt _ (by decide)⟩
  simp only at o
  have h := u8_or_nat (m % 256) 128 (by omega) (by decide)
  unfold vb
  rw [e, bv_ofNat]
  rw [show ((128 : Nat) : Int) = 128 from rfl] at h
  rw [h, o]
  congr 1
  omega
/-- How far the writing has come: what is done, what is left of the number, how many bytes may follow. -/
def VarAt (n : Nat) (l : List UInt8) (m : Nat) : Prop := ∃ f, l ++ varF f m = putVar n ∧ l.length + f = 10 ∧ m < 2 ^ (7 * f)
theorem VarAt.start (n : Nat) (hn : n < 18446744073709551616) : VarAt n [] n := ⟨10, rfl, rfl, by rw [show (2:Nat) ^ (7 * 10) = 1180591620717411303424 from by decide]; omega⟩
theorem VarAt.len {n : Nat} {l : List UInt8} {m : Nat} (h : VarAt n l m) : l.length ≤ 10 := by obtain ⟨f, _, h, _⟩ := h; omega
theorem VarAt.step {n : Nat} {l : List UInt8} {m : Nat} (h : VarAt n l m) (hm : ¬ m < 128) : VarAt n (l ++ [vb m]) (m / 128) := by
  obtain ⟨f, h1, h2, h3⟩ := h
  match f with
  | 0 => simp at h3; omega
  | f + 1 =>
    refine ⟨f, ?_, by simp; omega, ?_⟩
    · rw [varF_big f m hm] at h1; simpa using h1
    · rw [show 7 * (f + 1) = 7 * f + 7 from by omega, Nat.pow_add] at h3
      omega
theorem VarAt.done {n : Nat} {l : List UInt8} {m : Nat} (h : VarAt n l m) (hm : m < 128) : l ++ [UInt8.ofNat m] = putVar n := by
  obtain ⟨f, h1, _, _⟩ := h
  rw [varF_small f m hm] at h1; exact h1
end Go.Proofs.YtepffjfgomhepaaGreatDoor
