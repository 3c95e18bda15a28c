/- What the formats' contracts share: the variable that says what is wrong; what schemaFor leaves; all of the first parts. -/
import Derived.Test.YtichgnddbnibjaaGreatDoorS2h
import Derived.Test.YtichgnddbnibjaaGreatDoorS3f
namespace Go.Proofs.YtichgnddbnibjaaGreatDoor
open Go.RowKit Go.Sort
set_option linter.unusedVariables false
/-- All of the first j parts do. -/
def allTo (g : Nat → Option Nat) (h : Nat → Bool) (a : Nat) : Nat → Bool
  | 0 => true
  | j + 1 => allTo g h a j && h ((iter g a j).getD 0)
theorem allTo_succ {g : Nat → Option Nat} {h : Nat → Bool} {a j b : Nat} (hb : iter g a j = some b) : allTo g h a (j + 1) = (allTo g h a j && h b) := by simp [allTo, hb]
theorem allTo_false {g : Nat → Option Nat} {h : Nat → Bool} {a j : Nat} (hf : allTo g h a j = false) : ∀ m, j ≤ m → allTo g h a m = false := by
  intro m hm
  induction m with
  | zero => have : j = 0 := by omega
            subst this; exact hf
  | succ m ih =>
    by_cases hj : j = m + 1
    · subst hj; exact hf
    · have := ih (by omega)
      simp [allTo, this]
/-- The variable that says what is wrong with a schema or a value holds an error. -/
def ET (w : World) : Prop := 0 < w.heap.size ∧ ∃ T z, w.cell? ⟨0, 0, none⟩ = some (.iface T z)
theorem ET.below {w w' : World} {B : Nat} (h : ET w) (hb : Below w.heap.size w w') : ET w' := by
  obtain ⟨h1, T, z, h2⟩ := h
  exact ⟨by have := hb.size; omega, T, z, by rw [hb.cell (p := ⟨0, 0, none⟩) h1]; exact h2⟩
/-- What schemaFor leaves. -/
def SfPost (ts : List (Int × Int)) (ok : Bool) (w : World) (e : Ending) (w' : World) : Prop :=
  Below w.heap.size w w' ∧ ((ok = false ∧ ∃ T z, e = .returned (.tuple #[.pointer none, .iface T z])) ∨ (ok = true ∧ ∃ u, e = .returned (.tuple #[.pointer (some ⟨u, 0, none⟩), .nilIface]) ∧ TreeAt ts 7 w' (fun b => w.heap.size ≤ b ∧ b < w'.heap.size) u 0))
end Go.Proofs.YtichgnddbnibjaaGreatDoor
