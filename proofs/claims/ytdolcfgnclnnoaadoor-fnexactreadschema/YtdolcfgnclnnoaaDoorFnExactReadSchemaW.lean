/- Whatever its arguments, laws.FnExactReadSchema returns true and leaves them, and the table that it reads, as they were; the table starts as the program's text lays it. -/
import Derived.Test.YtdolcfgnclnnoaaDoorCards
import Derived.Test.YtdolcfgnclnnoaaDoorTie
import Derived.Test.YtdolcfgnclnnoaaDoorSRm
import Derived.Test.YtdolcfgnclnnoaaDoorSRl
import Derived.Test.YtdolcfgnclnnoaaDoorSRk
import Derived.Test.YtdolcfgnclnnoaaDoorS2j
import Derived.Test.YtdolcfgnclnnoaaDoorS2k
import Derived.SevenTiedAt
import Derived.Lay
namespace Go.Proofs.YtdolcfgnclnnoaaDoor.fnExactReadSchema
open Go.ChangeShapes Go.WideShapes Go.ChangeAt Go.RowKit
open Go.ChangeMaps (open_string shut_string)
set_option linter.unusedVariables false
theorem rd_len {s : List UInt8} {r : Option (List (Int × Int))} (h : RdOk s r) : (r.getD []).length ≤ 40 := by
  cases r with
  | none => simp
  | some ts => exact (schOk_iff.1 (h.1 ts rfl).1).1

set_option maxRecDepth 100000 in
set_option maxHeartbeats 2000000 in
theorem walk (a0 : ByteArray) (w : World) (w0 : a0.size ≤ maxLen) (hev : EV w) :
    Calls Tryd.prog 3 #[.string a0] w fun e w' => e = .returned (.bool true) ∧ Below w.heap.size w w' := by
  by_cases hs : 1048576 < a0.size
  · go_enter Tryd.func3, Tryd.ntmps3
    go_wp2_with fail
    go_ret
    exact ⟨rfl, Below.refl _ _⟩
  · have hsz : a0.size ≤ 1048576 := by omega
    have HEV : Hid (EV w) := hev
    clear hev
    go_enter Tryd.func3, Tryd.ntmps3
    go_wp2_with fail
    refine (specReadSchema_any a0 w hsz).mono ?_
    rintro e w1 ⟨⟨r, v1, rfl, hr, ho1, hw1⟩, hb1⟩
    have HB1 : Hid (Below w.heap.size w w1) := hb1
    have hs1 : w.heap.size ≤ w1.heap.size := hb1.size
    have HT1 : Hid (IsTyps w1.heap.size w1 v1 (r.getD [])) := own_typs ho1 (by have := rd_len hr; omega) hw1
    have HR : Hid (RdOk a0.data.toList r) := hr
    clear hb1 hr ho1 hw1
    go_wp2_with fail
    refine (implReadSchema_any a0 w1 hsz (HEV.out.below HB1.out)).mono ?_
    rintro e w2 ⟨⟨r2, v2, rfl, hr2, ho2, hw2⟩, hb2⟩
    obtain rfl : r = r2 := HR.out.uniq hr2
    have HB2 : Hid (Below w.heap.size w w2) := HB1.out.trans (hb2.mono hs1)
    have hs2 : w1.heap.size ≤ w2.heap.size := hb2.size
    have HB12 : Hid (Below w1.heap.size w1 w2) := hb2
    have HO2 : Hid (w2.ownsRow w1.heap.size 33 2 v2 (r.getD []).length (flatT (r.getD []))) := ho2
    have HT2 : Hid (IsTyps w2.heap.size w2 v2 (r.getD [])) := own_typs ho2 (by have := rd_len hr2; omega) hw2
    have HL : Hid ((r.getD []).length ≤ 1000) := by have := rd_len HR.out; show _ ≤ _; omega
    clear hb2 hr2 ho2 hw2
    go_wp2_with fail
    refine (eqTypS_any (r.getD []) (r.getD []) _ _ w2 HT2.out ((HT1.out.below HB12.out).up hs2)).mono ?_
    rintro e w3 ⟨rfl, hb3⟩
    have hd : decide ((r.getD []) = (r.getD [])) = true := by simp
    rw [hd]
    have HB3 : Hid (Below w.heap.size w w3) := HB2.out.trans (hb3.mono (by omega))
    have HB13 : Hid (Below w1.heap.size w1 w3) := HB12.out.trans (hb3.mono hs2)
    have HO3 : Hid (w3.ownsRow w1.heap.size 33 2 v2 (r.getD []).length (flatT (r.getD []))) := HO2.out.kept (gb_bel hb3) (by cases v2.ownBlock <;> simp)
    have hs3 : w1.heap.size ≤ w3.heap.size := HB13.out.size
    clear hb3 hd
    go_wp2_with fail
    refine (markTypS_any 1 w1.heap.size (r.getD []) v2 w3 (by decide) HL.out HO3.out).mono ?_
    rintro e w4 ⟨⟨rfl, hmk⟩, hb4⟩
    have HB4 : Hid (Below w.heap.size w w4) := HB3.out.trans (hb4.mono hs1)
    have HB14 : Hid (Below w1.heap.size w1 w4) := HB13.out.trans hb4
    have HM4 : Hid (MkV 1 (r.getD []).length w1.heap.size w4 v2) := hmk
    have hs4 : w1.heap.size ≤ w4.heap.size := HB14.out.size
    clear hb4 hmk
    obtain ⟨L, hL⟩ : ∃ L : Nat, 1 + 2 * (r.getD []).length = L := ⟨_, rfl⟩
    have HLE : Hid (1 + 2 * (r.getD []).length = L) := hL
    have hL1 : 1 ≤ L := by omega
    have hL2 : L ≤ 2001 := by have := HL.out; omega
    rw [hL]
    clear hL
    have HH : Hid (∀ w', MkV 1 (r.getD []).length w1.heap.size w' v2 → Calls Tryd.prog 9 #[v2, .int .i64 1] w' fun e w'' => e = .returned (.int .i64 (L : Int)) ∧ w'' = w') := fun w' h => by have := heldTypS_any 1 _ _ v2 w' (by decide) HL.out h; rw [HLE.out] at this; exact this
    go_wp2_with fail
    refine (HH.out _ HM4.out).mono ?_
    rintro e w5 ⟨rfl, rfl⟩
    go_wp2_with fail
    refine (implReadSchema_any a0 w5 hsz (HEV.out.below HB4.out)).mono ?_
    rintro e w6 ⟨⟨r6, v6, rfl, hr6, ho6, hw6⟩, hb6⟩
    obtain rfl : r = r6 := HR.out.uniq hr6
    have HB6 : Hid (Below w.heap.size w w6) := HB4.out.trans (hb6.mono (by omega))
    have hs6 : w5.heap.size ≤ w6.heap.size := hb6.size
    have HB16 : Hid (Below w1.heap.size w1 w6) := HB14.out.trans (hb6.mono hs4)
    have HM6 : Hid (MkV 1 (r.getD []).length w1.heap.size w6 v2) := HM4.out.below hb6
    have HT6 : Hid (IsTyps w6.heap.size w6 v6 (r.getD [])) := own_typs ho6 (by have := rd_len hr6; omega) hw6
    clear hb6 hr6 ho6 hw6
    go_wp2_with fail
    refine (eqTypS_any (r.getD []) (r.getD []) _ _ w6 HT6.out ((HT1.out.below HB16.out).up HB16.out.size)).mono ?_
    rintro e w7 ⟨rfl, hb7⟩
    have hd : decide ((r.getD []) = (r.getD [])) = true := by simp
    rw [hd]
    have HB7 : Hid (Below w.heap.size w w7) := HB6.out.trans (hb7.mono HB6.out.size)
    have HM7 : Hid (MkV 1 (r.getD []).length w1.heap.size w7 v2) := HM6.out.below hb7
    clear hb7 hd
    go_wp2_with fail
    refine (HH.out _ HM7.out).mono ?_
    rintro e w8 ⟨rfl, rfl⟩
    go_wp2_with fail
    go_ret
    exact ⟨rfl, HB7.out⟩
end Go.Proofs.YtdolcfgnclnnoaaDoor.fnExactReadSchema
