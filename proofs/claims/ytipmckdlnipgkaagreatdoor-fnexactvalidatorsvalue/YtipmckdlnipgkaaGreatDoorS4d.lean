/- The program's text of a type: contract. -/
import Derived.Test.YtipmckdlnipgkaaGreatDoorS4a
import Derived.Test.YtipmckdlnipgkaaGreatDoorSh
import Derived.Test.YtipmckdlnipgkaaGreatDoorS2h
import Derived.Lib.QuietBelow
import Derived.BigQuiet
import Derived.Lib.AppendIntMem
namespace Go.Proofs.YtipmckdlnipgkaaGreatDoor
open Go.RowKit Go.Sort
set_option linter.unusedVariables false
/-- The library's table lies in memory as its text lays it. -/
def PW (w : World) : Prop := Lib.TabIs Tryz.prog w "internal/strconv.uint64pow10" .u64 Lib.pow10Tab
theorem Tryz.gPW : Tryz.prog.globalNamed "internal/strconv.uint64pow10" = some 6 := by kernel_rfl
theorem PW.below {w w' : World} (h : PW w) (hb : Below w.heap.size w w') : PW w' := by
  unfold PW Lib.TabIs World.var? at h ⊢
  rw [Tryz.gPW] at h ⊢
  simp only [Option.bind_some] at h ⊢
  have hlt : 6 < w.heap.size := by
    rcases Nat.lt_or_ge 6 w.heap.size with h' | h'
    · exact h'
    · rw [Array.getElem?_eq_none h'] at h; cases h
  rw [hb.block _ hlt]
  exact h
theorem cells_re4 {w : World} {a : Addr} {v : Value} (h : w.cell? a = some v) : ∀ d os, (grow (redrawn w d) os).cell? a = some v := fun d os => cell_regrown h d os
end Go.Proofs.YtipmckdlnipgkaaGreatDoor
