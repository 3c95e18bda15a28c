/- A message of two numbers: plain facts. No function of the program is named here. -/
import Derived.Test.YtocealohiflheaaDoorWPc
import Derived.Test.YtocealohiflheaaDoorSPa
namespace Go.Proofs.YtocealohiflheaaDoor
set_option linter.unusedVariables false
def twoS : List (Int × Int) := [(7, 2), (1, 64), (1, 64)]
def twoV (a b : Nat) : List It := [⟨7, 2, ⟨#[]⟩⟩, ⟨1, a, ⟨#[]⟩⟩, ⟨1, b, ⟨#[]⟩⟩]
theorem twoS_ok : schOk twoS = true := by decide +kernel
theorem fits64 {a : Nat} (h : a < 18446744073709551616) : fitsI 1 64 ⟨1, a, ⟨#[]⟩⟩ = true := by
  show (decide ((1 : Int) = 1) && (decide (a < 2 ^ (64 : Int).toNat) && decide (0 = 0))) = true
  have : (2 : Nat) ^ (64 : Int).toNat = 18446744073709551616 := by decide
  rw [this]
  simp [h]
theorem twoN {a b : Nat} (ha : a < 18446744073709551616) (hb : b < 18446744073709551616) :
    pl twoS 6 0 7 2 0 = 1 ∧ pl twoS 6 0 7 2 1 = 2 ∧ vit (ve twoS (twoV a b) 6) (pl twoS 6 0 7 2) 1 1 = some 2 ∧ vit (ve twoS (twoV a b) 6) (pl twoS 6 0 7 2) 1 2 = some 3 := by
  have p0 : pl twoS 6 0 7 2 0 = 1 := by decide +kernel
  have p1 : pl twoS 6 0 7 2 1 = 2 := by decide +kernel
  have v1 : ve twoS (twoV a b) 6 1 1 = some 2 := by
    rw [ve_ok (f := 5) (show 1 < twoS.length by decide) (show 1 < (twoV a b).length by simp [twoV]) (fits64 ha)]
    rfl
  have v2 : ve twoS (twoV a b) 6 2 2 = some 3 := by
    rw [ve_ok (f := 5) (show 2 < twoS.length by decide) (show 2 < (twoV a b).length by simp [twoV]) (fits64 hb)]
    rfl
  have h1 : vit (ve twoS (twoV a b) 6) (pl twoS 6 0 7 2) 1 1 = some 2 := by
    rw [vit_succ, vit_zero]
    show ve twoS (twoV a b) 6 (pl twoS 6 0 7 2 0) 1 = _
    rw [p0]; exact v1
  refine ⟨p0, p1, h1, ?_⟩
  rw [vit_succ, h1]
  show ve twoS (twoV a b) 6 (pl twoS 6 0 7 2 1) 2 = _
  rw [p1]; exact v2
theorem twoT {a b : Nat} (ha : a < 18446744073709551616) (hb : b < 18446744073709551616) : typedB twoS (twoV a b) = true := by
  have hv : ve twoS (twoV a b) 7 0 0 = some (twoV a b).length := by
    rw [ve_ok (f := 6) (show 0 < twoS.length by decide) (show 0 < (twoV a b).length by simp [twoV]) rfl]
    show vit (ve twoS (twoV a b) 6) (pl twoS 6 0 7 2) 1 2 = some 3
    exact (twoN ha hb).2.2.2
  unfold typedB
  rw [twoS_ok, hv]
  simp [twoV]
def fld (i a : Nat) : List UInt8 := if a = 0 then [] else putVar (8 * (i + 1)) ++ putVar a
theorem twoX {a b : Nat} (ha : a < 18446744073709551616) (hb : b < 18446744073709551616) : prX twoS (twoV a b) 7 none 0 0 = fld 0 a ++ fld 1 b := by
  obtain ⟨p0, p1, v1, v2⟩ := twoN ha hb
  have one : ∀ (i p q c : Nat) (hp : p < twoS.length) (hq : q < (twoV a b).length), twoS[p] = (1, 64) → (twoV a b)[q] = ⟨1, c, ⟨#[]⟩⟩ → prX twoS (twoV a b) 6 (some i) p q = fld i c := fun i p q c hp hq e1 e2 => by
    rw [prX_some (f := 5) hp hq, prX_none (f := 5) hp hq, e1, e2]
    have h1 : eachK 1 (knd twoS (p + 1)) = false := rfl
    rw [if_neg (by rw [h1]; decide)]
    have hW : prW twoS (twoV a b) 5 (prX twoS (twoV a b) 5) p q 1 ⟨1, c, ⟨#[]⟩⟩ = putVar c := rfl
    show (if (decide ((1 : Int) = 5 ∨ (1 : Int) ≤ 3) && isNo ⟨1, c, ⟨#[]⟩⟩) = true then [] else prP i 1 (prW twoS (twoV a b) 5 (prX twoS (twoV a b) 5) p q 1 ⟨1, c, ⟨#[]⟩⟩)) = _
    rw [hW]
    have hn : (decide ((1 : Int) = 5 ∨ (1 : Int) ≤ 3) && isNo ⟨1, c, ⟨#[]⟩⟩) = decide (c = 0) := by
      show (true && (decide (c = 0) && true)) = _
      simp
    rw [hn]
    unfold fld
    by_cases hc : c = 0
    · simp [hc]
    · simp [hc, prP, tgN, isNk]
  rw [prX_none (f := 6) (show 0 < twoS.length by decide) (show 0 < (twoV a b).length by simp [twoV])]
  show prW twoS (twoV a b) 6 (prX twoS (twoV a b) 6) 0 0 7 ⟨7, 2, ⟨#[]⟩⟩ = _
  have hnp : np (7 : Int) 2 = 2 := by simp [np]
  unfold prW
  rw [if_neg (by omega), if_neg (by omega), if_pos rfl]
  show catE (fun j => prX twoS (twoV a b) 6 (some j) (pl twoS 6 0 7 2 j) ((vit (ve twoS (twoV a b) 6) (pl twoS 6 0 7 2) 1 j).getD 0)) (np 7 2) = _
  rw [hnp]
  simp only [catE, p0, p1, v1, vit_zero, Option.getD_some, List.nil_append]
  rw [one 0 1 1 a (by decide) (by simp [twoV]) rfl rfl, one 1 2 2 b (by decide) (by simp [twoV]) rfl rfl]
theorem two_pm : pm twoS 7 0 = true := by decide +kernel
end Go.Proofs.YtocealohiflheaaDoor
