/- A number, bytes taken off a text: contracts. -/
import Derived.Test.YtepffjfgomhepaaGreatDoorSBa
import Derived.Test.YtepffjfgomhepaaGreatDoorS7b
import Derived.Test.YtepffjfgomhepaaGreatDoorSAa
namespace Go.Proofs.YtepffjfgomhepaaGreatDoor
open Go.RowKit Go.Sort
set_option linter.unusedVariables false
theorem wd_wid (k n : Int) : wd k n = wid k n := rfl
/-- The variable that says that bytes are none of a value holds that error. -/
def EFv (T : TypeId) (z : Value) (w : World) : Prop := 1 < w.heap.size ∧ w.cell? ⟨1, 0, none⟩ = some (.iface T z)
theorem EFv.below {T : TypeId} {z : Value} {w w' : World} (h : EFv T z w) (hb : Below w.heap.size w w') : EFv T z w' :=
  ⟨by have := h.1; have := hb.size; omega, by rw [hb.cell (p := ⟨1, 0, none⟩) h.1]; exact h.2⟩
def EF (w : World) : Prop := ∃ T z, EFv T z w
theorem EF.below {w w' : World} (h : EF w) (hb : Below w.heap.size w w') : EF w' := by
  obtain ⟨T, z, h⟩ := h
  exact ⟨T, z, h.below hb⟩
set_option maxRecDepth 100000 in
set_option maxHeartbeats 2000000 in
theorem readBytes_no (u : Nat) (k n : Int) (s : ByteArray) (w : World) (c0 : w.cell? ⟨u, 0, none⟩ = some (.int .i64 k)) (c1 : w.cell? ⟨u, 1, none⟩ = some (.int .i64 n)) (hok : tyOk k n = true) (hs : s.size ≤ 1048577) (hf : fitsS k n s.size = false) (T : TypeId) (z : Value) (he : EFv T z w) :
    Calls Tryz.prog 142 #[.pointer (some ⟨u, 0, none⟩), .string s] w fun e w' => e = .returned (.tuple #[.nilIface, .iface T z]) ∧ Below w.heap.size w w' := by
  have HC : Hid (∀ w, Calls Tryz.prog 81 #[.agg #[.int .i64 k, .int .i64 n], .string s] w fun e w' => e = .returned (.bool false) ∧ Below w.heap.size w w') := fun w => by rw [← hf]; exact bytesFit_any k n s w hok hs
  have HE : Hid (EFv T z w) := he
  clear hok hs hf he
  go_enter Tryz.func142, Tryz.ntmps142
  go_wp2_with fail
  refine (HC.out _).mono ?_
  rintro e w1 ⟨rfl, hb1⟩
  obtain ⟨e1, e2⟩ := EFv.below HE.out hb1
  have HB1 : Hid (Below w.heap.size w w1) := hb1
  clear hb1
  go_wp2_with fail
  go_region
  all_goals
    go_wp2_with fail
    go_ret2
    exact ⟨rfl, by first | exact HB1.out | exact HB1.out.drew⟩
set_option maxRecDepth 100000 in
set_option maxHeartbeats 2000000 in
theorem readBytes_yes (u : Nat) (k n : Int) (s : ByteArray) (w : World) (c0 : w.cell? ⟨u, 0, none⟩ = some (.int .i64 k)) (c1 : w.cell? ⟨u, 1, none⟩ = some (.int .i64 n)) (hok : tyOk k n = true) (hs : s.size ≤ 1048577) (hf : fitsS k n s.size = true) :
    Calls Tryz.prog 142 #[.pointer (some ⟨u, 0, none⟩), .string s] w fun e w' => e = .returned (.tuple #[.iface 139 (.agg #[.pointer (some ⟨u, 0, none⟩), .string s]), .nilIface]) ∧ Below w.heap.size w w' := by
  have HC : Hid (∀ w, Calls Tryz.prog 81 #[.agg #[.int .i64 k, .int .i64 n], .string s] w fun e w' => e = .returned (.bool true) ∧ Below w.heap.size w w') := fun w => by rw [← hf]; exact bytesFit_any k n s w hok hs
  have HL : Hid (∀ w, Calls Tryz.prog 34 #[.string s] w fun e w' => e = .returned (.string s) ∧ Below w.heap.size w w') := fun w => clone_any s w (by omega)
  clear hok hs hf
  go_enter Tryz.func142, Tryz.ntmps142
  go_wp2_with fail
  refine (HC.out _).mono ?_
  rintro e w1 ⟨rfl, hb1⟩
  have HB1 : Hid (Below w.heap.size w w1) := hb1
  clear hb1
  go_wp2_with fail
  refine (HL.out _).mono ?_
  rintro e w2 ⟨rfl, hb2⟩
  have HB2 : Hid (Below w.heap.size w w2) := HB1.out.trans (hb2.mono HB1.out.size)
  clear hb2
  go_wp2_with fail
  go_ret2
  exact ⟨rfl, HB2.out⟩
end Go.Proofs.YtepffjfgomhepaaGreatDoor
