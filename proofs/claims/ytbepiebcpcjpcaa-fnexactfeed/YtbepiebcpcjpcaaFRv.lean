/- A right framer, by the specification: contract. -/
import Derived.Test.YtbepiebcpcjpcaaFRq
namespace Go.Proofs.Ytbepiebcpcjpcaa
open Go.RowKit Go.Sort
set_option linter.unusedVariables false
def tkm (l : List UInt8) : Bool := match tk l with
  | .more => true
  | _ => false
/-- What FramerOk answers. -/
def fkB (s : ByteArray) (n : Int) (b : Bool) : Bool := tkm s.data.toList && decide (0 ≤ n ∧ n ≤ 1000000000) && (!b || decide (s.size = 0))
theorem boxR (w : World) (s : ByteArray) (n : Int) (b : Bool) (W : World) (h : W.heap[w.heap.size]? = some (.cells #[.string s, .int .i64 n, .bool b] 33 (0, 0))) : W.cell? ⟨w.heap.size, 0, none⟩ = some (.string s) ∧ W.cell? ⟨w.heap.size, 1, none⟩ = some (.int .i64 n) ∧ W.cell? ⟨w.heap.size, 2, none⟩ = some (.bool b) :=
  ⟨by rw [cell_of_row _ _ 0 _ _ _ h]; rfl, by rw [cell_of_row _ _ 1 _ _ _ h]; rfl, by rw [cell_of_row _ _ 2 _ _ _ h]; rfl⟩
set_option maxRecDepth 100000 in
set_option maxHeartbeats 2000000 in
theorem specFramerOk_any (s : ByteArray) (n : Int) (b : Bool) (w : World) (hs : s.size ≤ 1048576) : Calls Try.prog 12 #[.agg #[.string s, .int .i64 n, .bool b]] w fun e w' => e = .returned (.bool (fkB s n b)) ∧ Below w.heap.size w w' := by
  have HC : Hid (∀ w, Calls Try.prog 29 #[.string s] w fun e w' => e = .returned (tkV s (tk s.data.toList)) ∧ Below w.heap.size w w') := fun w => l11Take_any s w hs
  cases hk : tk s.data.toList with
  | none =>
    have HR : Hid (fkB s n b = false) := by show _ = _; unfold fkB tkm; rw [hk]; rfl
    rw [hk] at HC
    simp only [tkV] at HC
    rw [HR.out]
    clear hk HR
    go_enter Try.func12, Try.ntmps12
    go_wp2_with fail
    refine (HC.out _).mono ?_
    rintro e w1 ⟨rfl, hb1⟩
    have HB1 : Hid (Below w.heap.size w w1) := (bel1 w _).trans (hb1.mono (by simp))
    obtain ⟨c0, c1, c2⟩ := boxR w s n b w1 (by rw [hb1.block w.heap.size (by simp)]; exact heap_alloc_new w _)
    clear hb1
    go_wp2_with fail
    go_ret
    exact ⟨rfl, HB1.out.alloc (HB1.out.size) _⟩
  | whole a k m h =>
    have HR : Hid (fkB s n b = false) := by show _ = _; unfold fkB tkm; rw [hk]; rfl
    rw [hk] at HC
    simp only [tkV] at HC
    rw [HR.out]
    clear hk HR
    generalize s.extract h (h + m) = D at HC
    generalize h + m = q at HC
    go_enter Try.func12, Try.ntmps12
    go_wp2_with fail
    refine (HC.out _).mono ?_
    rintro e w1 ⟨rfl, hb1⟩
    have HB1 : Hid (Below w.heap.size w w1) := (bel1 w _).trans (hb1.mono (by simp))
    obtain ⟨c0, c1, c2⟩ := boxR w s n b w1 (by rw [hb1.block w.heap.size (by simp)]; exact heap_alloc_new w _)
    clear hb1
    go_wp2_with fail
    go_ret
    exact ⟨rfl, HB1.out.alloc (HB1.out.size) _⟩
  | more =>
    have HR : Hid (fkB s n b = (decide (0 ≤ n ∧ n ≤ 1000000000) && (!b || decide (s.size = 0)))) := by show _ = _; unfold fkB tkm; rw [hk]; rfl
    rw [hk] at HC
    simp only [tkV] at HC
    rw [HR.out]
    clear hk HR
    have HI : Hid (∀ w, Calls Try.prog 30 #[.int .i64 n, .int .i64 0, .int .i64 1000000000] w fun e w' => e = .returned (.bool (decide (0 ≤ n ∧ n ≤ 1000000000))) ∧ w' = w) := fun w => l1In_any n 0 1000000000 w
    generalize decide (0 ≤ n ∧ n ≤ 1000000000) = o at HI ⊢
    have h1 : s.toList.isEmpty = decide (s.size = 0) := str_empty s
    generalize decide (s.size = 0) = z at h1 ⊢
    cases o <;> cases b <;> cases z
    all_goals
      go_enter Try.func12, Try.ntmps12
      go_wp2_with fail
      refine (HC.out _).mono ?_
      rintro e w1 ⟨rfl, hb1⟩
      have HB1 : Hid (Below w.heap.size w w1) := (bel1 w _).trans (hb1.mono (by simp))
      obtain ⟨c0, c1, c2⟩ := boxR w s n _ w1 (by rw [hb1.block w.heap.size (by simp)]; exact heap_alloc_new w _)
      have hlt : w.heap.size < w1.heap.size := by have := hb1.size; simp at this; omega
      clear hb1
      go_wp2_with fail
      refine (HI.out _).mono ?_
      rintro e w2 ⟨rfl, rfl⟩
      go_wp2_with fail
      go_ret
      exact ⟨rfl, HB1.out.alloc (HB1.out.size) _⟩
end Go.Proofs.Ytbepiebcpcjpcaa
