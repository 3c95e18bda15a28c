/- What the formats with whole numbers share: a number's width, its bytes; a count: contracts. -/
import Derived.Test.YtdncnjmlicdamaaDoorS3f
import Derived.Test.YtdncnjmlicdamaaDoorS7a
import Derived.Test.YtdncnjmlicdamaaDoorL1e
import Derived.Test.YtdncnjmlicdamaaDoorSh
import Derived.Laws.EntriesVeiled
namespace Go.Proofs.YtdncnjmlicdamaaDoor
open Go.RowKit Go.Sort
set_option linter.unusedVariables false
theorem bel2 (w : World) (o o' : Obj) : Below w.heap.size w ((w.alloc o).alloc o') := (bel1 w o).alloc (by simp) _
theorem bel3 (w : World) (o o' o'' : Obj) : Below w.heap.size w (((w.alloc o).alloc o').alloc o'') := (bel2 w o o').alloc (by simp; omega) _
/-- How many bytes a number of that type has. -/
def wid (k n : Int) : Nat := if k = 1 then (n / 8).toNat else 1
theorem wid_le {k n : Int} (hok : tyOk k n = true) : wid k n ≤ 8 := by
  simp only [tyOk, decide_eq_true_eq] at hok
  unfold wid
  split <;> omega
theorem clone_any (s : ByteArray) (w : World) (hs : s.size ≤ 281474976710656) : Calls Tryd.prog 94 #[.string s] w fun e w' => e = .returned (.string s) ∧ Below w.heap.size w w' := by
  have HC : Hid (∀ w, Calls Tryd.prog 97 #[.string s] w fun e w' => e = .returned (.string s) ∧ Below w.heap.size w w') := fun w => Tryd.stringslite_Clone s w hs
  clear hs
  go_enter Tryd.func94, Tryd.ntmps94
  go_wp2_with fail
  refine (HC.out _).mono ?_
  rintro e w1 ⟨rfl, hb1⟩
  go_wp2_with fail
  go_ret
  exact ⟨rfl, hb1⟩
/-- The bytes of the first j parts. -/
def catE (E : Nat → List UInt8) : Nat → List UInt8
  | 0 => []
  | j + 1 => catE E j ++ E j
theorem catE_len {E : Nat → List UInt8} {L : Nat} {n : Nat} (h : ∀ j, j < n → (E j).length ≤ L) : ∀ j, j ≤ n → (catE E j).length ≤ j * L := by
  intro j
  induction j with
  | zero => intro _; simp [catE]
  | succ j ih =>
    intro hj
    simp only [catE, List.length_append]
    have h1 := ih (by omega)
    have h2 := h j (by omega)
    have h3 : (j + 1) * L = j * L + L := Nat.succ_mul j L
    omega
theorem cat_catE (e : Nat → Nat → List UInt8) (g : Nat → Nat → Option Nat) (ps : Nat → Nat) (q : Nat) : ∀ j, cat e g ps q j = catE (fun j => e (ps j) ((vit g ps q j).getD 0)) j
  | 0 => rfl
  | j + 1 => by simp only [cat, catE]; rw [cat_catE e g ps q j]
theorem catE_congr {E E' : Nat → List UInt8} : ∀ {n : Nat}, (∀ j, j < n → E j = E' j) → catE E n = catE E' n
  | 0, _ => rfl
  | n + 1, h => by simp only [catE]; rw [catE_congr (fun j hj => h j (by omega)), h n (by omega)]
theorem byteCells_cat (a b : List UInt8) : Lib.byteCells a ++ Lib.strCells ⟨b.toArray⟩ = Lib.byteCells (a ++ b) := by simp [Lib.byteCells, Lib.strCells]
theorem byteCells_len (a : List UInt8) : (Lib.byteCells a).length = a.length := by simp [Lib.byteCells]
end Go.Proofs.YtdncnjmlicdamaaDoor
