/- Numbers in whole widths; Bitcoin's and SCALE's numbers, RLP's heads, written: contracts. -/
import Derived.Test.YtocealohiflheaaDoorL1c
namespace Go.Proofs.YtocealohiflheaaDoor
open Go.RowKit
set_option linter.unusedVariables false
theorem by8_zero : by8 0 = 0 := by decide
theorem by8_div (m : Nat) (h : 0 < m) : by8 m = 1 + by8 (m / 256) := by
  unfold by8
  by_cases h2 : 256 ≤ m
  · have := bl_div m 8 (by omega)
    rw [show (2 : Nat) ^ 8 = 256 from rfl] at this
    omega
  · have e : m / 256 = 0 := by omega
    have h8 := bl_8 m (by omega)
    have h0 : ¬ bl m ≤ 0 := by rw [bl_le]; omega
    have hz : bl 0 = 0 := rfl
    rw [e, hz]; omega
theorem by8_8 (n : Nat) (h : n < 18446744073709551616) : by8 n ≤ 8 := (by8_le n 8).2 h
theorem cat_cons (b : UInt8) (l : List UInt8) : (⟨#[b]⟩ : ByteArray) ++ (⟨l.toArray⟩ : ByteArray) = ⟨(b :: l).toArray⟩ := by
  apply ByteArray.ext
  simp
theorem cat_list (a l : List UInt8) : (⟨a.toArray⟩ : ByteArray) ++ (⟨l.toArray⟩ : ByteArray) = ⟨(a ++ l).toArray⟩ := by
  apply ByteArray.ext
  simp
/-- Bitcoin's CompactSize. -/
def putSize (n : Nat) : List UInt8 := if n < 253 then leL n 1 else if n < 65536 then 253 :: leL n 2 else if n < 4294967296 then 254 :: leL n 4 else 255 :: leL n 8
theorem leL_253 : leL 253 1 = [253] := by decide
theorem leL_254 : leL 254 1 = [254] := by decide
theorem leL_255 : leL 255 1 = [255] := by decide
end Go.Proofs.YtocealohiflheaaDoor
