/- What the formats with whole numbers share: a number's width, its bytes; a count: contracts. -/
import Derived.Test.YtepffjfgomhepaaDoorS3f
import Derived.Test.YtepffjfgomhepaaDoorS7a
import Derived.Test.YtepffjfgomhepaaDoorL1e
import Derived.Test.YtepffjfgomhepaaDoorSh
import Derived.Laws.EntriesVeiled
namespace Go.Proofs.YtepffjfgomhepaaDoor
open Go.RowKit Go.Sort
set_option linter.unusedVariables false
theorem bel2 (w : World) (o o' : Obj) : Below w.heap.size w ((w.alloc o).alloc o') := (bel1 w o).alloc (by simp) _
theorem bel3 (w : World) (o o' o'' : Obj) : Below w.heap.size w (((w.alloc o).alloc o').alloc o'') := (bel2 w o o').alloc (by simp; omega) _
/-- How many bytes a number of that type has. -/
def wid (k n : Int) : Nat := if k = 1 then (n / 8).toNat else 1
theorem wid_le {k n : Int} (hok : tyOk k n = true) : wid k n ≤ 8 := by
  simp only [tyOk, decide_eq_true_eq] at hok
  unfold wid
  split <;> omega
set_option maxHeartbeats 1000000 in
theorem width_any (k n : Int) (w : World) (hok : tyOk k n = true) : Calls Tryd.prog 105 #[.agg #[], .agg #[.int .i64 k, .int .i64 n]] w fun e w' => e = .returned (.int .i64 (wid k n)) ∧ Below w.heap.size w w' := by
  simp only [tyOk, decide_eq_true_eq] at hok
  by_cases h1 : k = 1
  · subst h1
    have hn : n = 8 ∨ n = 16 ∨ n = 32 ∨ n = 64 := by omega
    rcases hn with rfl | rfl | rfl | rfl
    all_goals
      go_enter Tryd.func105, Tryd.ntmps105
      go_wp2_with fail
      go_ret
      exact ⟨by simp [wid], bel2 _ _ _⟩
  · have hk := beqF h1
    have HW : Hid (wid k n = 1) := if_neg h1
    clear hok h1
    go_enter Tryd.func105, Tryd.ntmps105
    go_wp2_with fail
    go_ret
    exact ⟨by rw [HW.out]; rfl, bel2 _ _ _⟩
set_option maxHeartbeats 1000000 in
theorem isCounted_any (k n : Int) (w : World) : Calls Tryd.prog 118 #[.agg #[.int .i64 k, .int .i64 n]] w fun e w' => e = .returned (.bool (decide (k = 3 ∨ k = 5))) ∧ Below w.heap.size w w' := by
  by_cases h3 : k = 3
  · subst h3
    go_enter Tryd.func118, Tryd.ntmps118
    go_wp2_with fail
    go_ret
    exact ⟨rfl, bel1 _ _⟩
  · by_cases h5 : k = 5
    · subst h5
      go_enter Tryd.func118, Tryd.ntmps118
      go_wp2_with fail
      go_ret
      exact ⟨rfl, bel1 _ _⟩
    · have HR : Hid (decide (k = 3 ∨ k = 5) = false) := by show _ = _; simp [h3, h5]
      have e3 := beqF h3
      have e5 := beqF h5
      clear h3 h5
      go_enter Tryd.func118, Tryd.ntmps118
      go_wp2_with fail
      go_ret
      exact ⟨by rw [HR.out]; try rfl, bel1 _ _⟩
theorem clone_any (s : ByteArray) (w : World) (hs : s.size ≤ 281474976710656) : Calls Tryd.prog 120 #[.string s] w fun e w' => e = .returned (.string s) ∧ Below w.heap.size w w' := by
  have HC : Hid (∀ w, Calls Tryd.prog 121 #[.string s] w fun e w' => e = .returned (.string s) ∧ Below w.heap.size w w') := fun w => Tryd.stringslite_Clone s w hs
  clear hs
  go_enter Tryd.func120, Tryd.ntmps120
  go_wp2_with fail
  refine (HC.out _).mono ?_
  rintro e w1 ⟨rfl, hb1⟩
  go_wp2_with fail
  go_ret
  exact ⟨rfl, hb1⟩
/-- The address of a part without bytes at the head of a codec is the codec's. -/
theorem part00 {W : World} {b : Nat} {cs : Array Value} (h : W.heap[b]? = some (.cells cs 52 (0, 0))) : (partAt ⟨b, 0, none⟩ 0 0).run Tryd.prog W = .ok ⟨b, 0, none⟩ W := by
  have e0 : Tryd.prog.cellsOf 52 = 2 := by kernel_rfl
  have e1 : byteOfCell Tryd.prog Tryd.prog.depth 52 0 = some 0 := by kernel_rfl
  have e2 : W.shape? b = some (52, cs.size) := by simp [World.shape?, h]
  have hv : (viewAt b).run Tryd.prog W = .ok none W := by simp [viewAt, go_sem, e2]
  simp [partAt, byteOf, noView, go_sem, e0, e1, e2, hv]
theorem part00_re {W : World} {b : Nat} {cs : Array Value} (h : W.heap[b]? = some (.cells cs 52 (0, 0))) (d : Nat) (os : Array Obj) : (partAt ⟨b, 0, none⟩ 0 0).run Tryd.prog (grow (redrawn W d) os) = .ok ⟨b, 0, none⟩ (grow (redrawn W d) os) :=
  part00 (cs := cs) (by rw [(below_regrown W d os).block b (blk_lt h)]; exact h)
theorem newScale_any (w : World) : Calls Tryd.prog 21 #[] w fun e w' => e = .returned (.agg #[.func (.func 35) #[] #[], .func (.func 36) #[] #[]]) ∧ Below w.heap.size w w' := by
  go_enter Tryd.func21, Tryd.ntmps21
  go_wp2_with fail
  refine bodyPost_ret (v := .agg #[.func (.func 35) #[] #[], .func (.func 36) #[] #[]]) (by simp [results, Tryd.results21, go_sem]) rfl ?_
  exact ⟨rfl, bel1 _ _⟩
theorem newBitcoin_any (w : World) : Calls Tryd.prog 26 #[] w fun e w' => e = .returned (.agg #[.func (.func 37) #[] #[], .func (.func 38) #[] #[]]) ∧ Below w.heap.size w w' := by
  go_enter Tryd.func26, Tryd.ntmps26
  go_wp2_with fail
  refine bodyPost_ret (v := .agg #[.func (.func 37) #[] #[], .func (.func 38) #[] #[]]) (by simp [results, Tryd.results26, go_sem]) rfl ?_
  exact ⟨rfl, bel1 _ _⟩
/-- The bytes of the first j parts. -/
def catE (E : Nat → List UInt8) : Nat → List UInt8
  | 0 => []
  | j + 1 => catE E j ++ E j
theorem catE_len {E : Nat → List UInt8} {L : Nat} {n : Nat} (h : ∀ j, j < n → (E j).length ≤ L) : ∀ j, j ≤ n → (catE E j).length ≤ j * L := by
  intro j
  induction j with
  | zero => intro _; simp [catE]
  | succ j ih =>
    intro hj
    simp only [catE, List.length_append]
    have h1 := ih (by omega)
    have h2 := h j (by omega)
    have h3 : (j + 1) * L = j * L + L := Nat.succ_mul j L
    omega
theorem cat_catE (e : Nat → Nat → List UInt8) (g : Nat → Nat → Option Nat) (ps : Nat → Nat) (q : Nat) : ∀ j, cat e g ps q j = catE (fun j => e (ps j) ((vit g ps q j).getD 0)) j
  | 0 => rfl
  | j + 1 => by simp only [cat, catE]; rw [cat_catE e g ps q j]
theorem catE_congr {E E' : Nat → List UInt8} : ∀ {n : Nat}, (∀ j, j < n → E j = E' j) → catE E n = catE E' n
  | 0, _ => rfl
  | n + 1, h => by simp only [catE]; rw [catE_congr (fun j hj => h j (by omega)), h n (by omega)]
theorem byteCells_cat (a b : List UInt8) : Lib.byteCells a ++ Lib.strCells ⟨b.toArray⟩ = Lib.byteCells (a ++ b) := by simp [Lib.byteCells, Lib.strCells]
theorem byteCells_len (a : List UInt8) : (Lib.byteCells a).length = a.length := by simp [Lib.byteCells]
end Go.Proofs.YtepffjfgomhepaaDoor
