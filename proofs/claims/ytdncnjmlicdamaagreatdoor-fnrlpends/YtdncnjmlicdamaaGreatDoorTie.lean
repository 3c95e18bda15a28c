/-
  DERIVED. GIVEN WITH THE SEED: THE PROGRAM's TIES (one call each: nine closed facts by the kernel) AND EACH ROW's TIE, after the 31st guide's Derived/Test/Toyas{Tie, Card}.lean. No idea stands in it: it is a product of the set-up. Laid BY PROGRAM, IN A SANDBOX (cutbox-door.mjs). By AI agents, Wed Nov 11 2026. No macro, syntax, notation, axiom, sorry.
-/
import Derived.Test.YtdncnjmlicdamaaGreatDoorRows
import Derived.LaidByTextLater
import Derived.SevenTiedAt
import Derived.LaidSub
import Derived.LaidOnce
namespace Go.Proofs.YtdncnjmlicdamaaGreatDoor
open Go
set_option maxRecDepth 100000
theorem seatTie1 : Tryz.prog.laidByTextLater [("loop.example/g00774/impl.kindRows", Rows.laid_loop_example_g00774_impl_kindRows), ("loop.example/g00774/impl.errType", Rows.laid_loop_example_g00774_impl_errType), ("loop.example/g00774/impl.errForm", Rows.laid_loop_example_g00774_impl_errForm)] [.data, .sentinel, .sentinel] true :=
  Program.laidByTextLater_by_one 61 8 46 (by kernel_rfl) (by kernel_rfl) (by kernel_rfl) (by kernel_rfl) (by kernel_rfl) (by kernel_rfl) (fun _ _ => by kernel_rfl)
theorem noOwnUnsafe : Tryz.pinned.checked.prog.headLifts.contains "ownunsafe" = false := by kernel_rfl
theorem tie : Tryz.prog.laidByTextLater [("loop.example/g00774/impl.kindRows", Rows.laid_loop_example_g00774_impl_kindRows), ("loop.example/g00774/impl.errType", Rows.laid_loop_example_g00774_impl_errType), ("loop.example/g00774/impl.errForm", Rows.laid_loop_example_g00774_impl_errForm)] [.data, .sentinel, .sentinel] true :=
  Program.laidByTextLater.sub seatTie1 ["loop.example/g00774/impl.kindRows", "loop.example/g00774/impl.errType", "loop.example/g00774/impl.errForm"] (by kernel_rfl) (by kernel_rfl)
theorem fnRlp_row_tie : Rows.fnRlpRow.laidByTextAt .later Tryz.pinned [.data, .sentinel, .sentinel] true :=
  OpenClaim.laidByTextAt_later rfl rfl tie noOwnUnsafe
theorem fnRlpDec_row_tie : Rows.fnRlpDecRow.laidByTextAt .later Tryz.pinned [.data, .sentinel, .sentinel] true :=
  OpenClaim.laidByTextAt_later rfl rfl tie noOwnUnsafe
theorem fnRlpEnds_row_tie : Rows.fnRlpEndsRow.laidByTextAt .later Tryz.pinned [.data, .sentinel, .sentinel] true :=
  OpenClaim.laidByTextAt_later rfl rfl tie noOwnUnsafe
theorem fnRlpUpto_row_tie : Rows.fnRlpUptoRow.laidByTextAt .later Tryz.pinned [.data, .sentinel, .sentinel] true :=
  OpenClaim.laidByTextAt_later rfl rfl tie noOwnUnsafe
theorem fnRlpDecUpto_row_tie : Rows.fnRlpDecUptoRow.laidByTextAt .later Tryz.pinned [.data, .sentinel, .sentinel] true :=
  OpenClaim.laidByTextAt_later rfl rfl tie noOwnUnsafe
theorem fnRlpEndsUpto_row_tie : Rows.fnRlpEndsUptoRow.laidByTextAt .later Tryz.pinned [.data, .sentinel, .sentinel] true :=
  OpenClaim.laidByTextAt_later rfl rfl tie noOwnUnsafe
end Go.Proofs.YtdncnjmlicdamaaGreatDoor
