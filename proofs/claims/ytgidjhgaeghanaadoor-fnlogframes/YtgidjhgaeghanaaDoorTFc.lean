/- The reader of frames: giveUp, take: contracts. -/
import Derived.Test.YtgidjhgaeghanaaDoorTFa
import Derived.WalkLawsBesides
namespace Go.Proofs.YtgidjhgaeghanaaDoor
open Go.RowKit Go.Sort
set_option linter.unusedVariables false
/-- The reader's box. -/
def Bx (w : World) (b : Nat) (R : ByteArray) (at_ : Nat) : Prop := w.heap[b]? = some (.cells #[.string R, .int .i64 (at_ : Nat)] 35 (0, 0))
theorem Bx.cells {w : World} {b : Nat} {R : ByteArray} {q : Nat} (h : Bx w b R q) : w.cell? ⟨b, 0, none⟩ = some (.string R) ∧ w.cell? ⟨b, 1, none⟩ = some (.int .i64 (q : Nat)) ∧ w.frozen? ⟨b, 0, none⟩ = false ∧ w.frozen? ⟨b, 1, none⟩ = false :=
  ⟨by rw [cell_of_row w b 0 _ _ _ h]; rfl, by rw [cell_of_row w b 1 _ _ _ h]; rfl, by simp [World.frozen?, show w.heap[b]? = _ from h], by simp [World.frozen?, show w.heap[b]? = _ from h]⟩
theorem Bx.set0 {w : World} {b : Nat} {R : ByteArray} {q : Nat} (h : Bx w b R q) (R' : ByteArray) : Bx (w.setCell ⟨b, 0, none⟩ (.string R')) b R' q := by
  show _ = _
  rw [set_block (i := 0) h]; rfl
theorem Bx.set1 {w : World} {b : Nat} {R : ByteArray} {q : Nat} (h : Bx w b R q) (q' : Nat) : Bx (w.setCell ⟨b, 1, none⟩ (.int .i64 (q' : Nat))) b R q' := by
  show _ = _
  rw [set_block (i := 1) h]; rfl
def GaveUp (q : Nat) (e : Ending) : Prop := e = .panicked [{ v := .iface 48 (.int .i64 (q : Nat)), recovered := false }]
theorem giveUp_any (b : Nat) (R : ByteArray) (q : Nat) (w : World) (hb : Bx w b R q) : Calls Tryd.prog 31 #[.pointer (some ⟨b, 0, none⟩)] w fun e w' => GaveUp q e ∧ w' = w := by
  obtain ⟨c0, c1, f0, f1⟩ := hb.cells
  go_enter Tryd.func31, Tryd.ntmps31
  go_wp2
  exact ⟨rfl, rfl, rfl⟩
set_option maxHeartbeats 1000000 in
theorem take_no (b : Nat) (R : ByteArray) (q n : Nat) (w : World) (hb : Bx w b R q) (hn : R.size < n) (hl : n < 4294967296) (hR : R.size ≤ 1048576) : Calls Tryd.prog 29 #[.pointer (some ⟨b, 0, none⟩), .int .i64 (n : Nat)] w fun e w' => GaveUp q e ∧ w' = w := by
  obtain ⟨c0, c1, f0, f1⟩ := hb.cells
  have HG : Hid (Calls Tryd.prog 31 #[.pointer (some ⟨b, 0, none⟩)] w fun e w' => GaveUp q e ∧ w' = w) := giveUp_any b R q w hb
  clear hb
  go_enter Tryd.func29, Tryd.ntmps29
  go_wp2_with fail
  refine HG.out.mono ?_
  rintro e w1 ⟨rfl, rfl⟩
  first | exact ⟨rfl, rfl, rfl⟩ | (trace_state; sorry)
set_option maxHeartbeats 1000000 in
theorem take_yes (b : Nat) (R : ByteArray) (q n : Nat) (w : World) (hb : Bx w b R q) (hn : n ≤ R.size) (hR : R.size ≤ 1048576) : Calls Tryd.prog 29 #[.pointer (some ⟨b, 0, none⟩), .int .i64 (n : Nat)] w fun e w' => e = .returned (.string (R.extract 0 n)) ∧ Bx w' b (R.extract n R.size) q ∧ w.grownBy w' (some b) := by
  obtain ⟨c0, c1, f0, f1⟩ := hb.cells
  have HX : Hid (Bx (w.setCell ⟨b, 0, none⟩ (.string (R.extract n R.size))) b (R.extract n R.size) q ∧ w.grownBy (w.setCell ⟨b, 0, none⟩ (.string (R.extract n R.size))) (some b)) := ⟨hb.set0 _, mk_set (mk_refl _ _) _ _⟩
  clear hb
  go_enter Tryd.func29, Tryd.ntmps29
  go_wp2_with fail
  go_ret
  exact ⟨rfl, HX.out⟩
end Go.Proofs.YtgidjhgaeghanaaDoor
