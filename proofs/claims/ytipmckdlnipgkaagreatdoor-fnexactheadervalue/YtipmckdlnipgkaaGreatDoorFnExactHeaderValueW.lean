/- Whatever its arguments, laws.FnExactHeaderValue returns true and leaves them, and the table that it reads, as they were; the table starts as the program's text lays it. -/
import Derived.Test.YtipmckdlnipgkaaGreatDoorCards
import Derived.Test.YtipmckdlnipgkaaGreatDoorTie
import Derived.Test.YtipmckdlnipgkaaGreatDoorHVe
import Derived.Test.YtipmckdlnipgkaaGreatDoorSRk
import Derived.Test.YtipmckdlnipgkaaGreatDoorS2k
import Derived.SevenTiedAt
import Derived.Lib.SmallJoins
import Derived.Test.YtipmckdlnipgkaaGreatDoorSJ5
import Derived.Lay
namespace Go.Proofs.YtipmckdlnipgkaaGreatDoor.fnExactHeaderValue
open Go.ChangeShapes Go.WideShapes Go.ChangeAt Go.RowKit
open Go.ChangeMaps (open_string shut_string)
open Go.Joins
set_option linter.unusedVariables false
theorem cells24 : Tryz.prog.cellsOf 24 = 5 := by kernel_rfl

set_option maxRecDepth 100000 in
set_option maxHeartbeats 8000000 in
theorem walk (a0a : Int) (a0b : Int) (a0c : ByteArray) (a0d : ByteArray) (a0e : ByteArray) (w : World) (w0a : (Lit.int .u64 a0a).wf = true) (w0b : (Lit.int .u64 a0b).wf = true) (w0c : a0c.size ≤ maxLen) (w0d : a0d.size ≤ maxLen) (w0e : a0e.size ≤ maxLen) (hev : EV w) :
    Calls Tryz.prog 3 #[.agg #[.int .u64 a0a, .int .u64 a0b, .string a0c, .string a0d, .string a0e]] w fun e w' => e = .returned (.bool true) ∧ Below w.heap.size w w' := by
  obtain ⟨na, rfl⟩ : ∃ n : Nat, a0a = n := ⟨a0a.toNat, by have := bounds_u64 w0a; omega⟩
  obtain ⟨nb, rfl⟩ : ∃ n : Nat, a0b = n := ⟨a0b.toNat, by have := bounds_u64 w0b; omega⟩
  have hna : na < 18446744073709551616 := by have := bounds_u64 w0a; omega
  have hnb : nb < 18446744073709551616 := by have := bounds_u64 w0b; omega
  have HEV : Hid (EV w) := hev
  obtain ⟨W, hW⟩ : ∃ W, w.alloc (.cells #[.int .u64 na, .int .u64 nb, .string a0c, .string a0d, .string a0e] 24) = W := ⟨_, rfl⟩
  have HWW : Hid (w.alloc (.cells #[.int .u64 na, .int .u64 nb, .string a0c, .string a0d, .string a0e] 24) = W) := hW
  have HB0 : Hid (Below w.heap.size w W) := by show Below _ _ _; rw [← hW]; exact belA _ _
  have HA0 : Hid (W.heap[w.heap.size]? = some (.cells #[.int .u64 na, .int .u64 nb, .string a0c, .string a0d, .string a0e] 24 (0, 0))) := by show _ = _; rw [← hW]; exact heap_alloc_new w _
  obtain ⟨Z, hZ⟩ : ∃ Z, w.heap.size = Z := ⟨_, rfl⟩
  have HZ : Hid (w.heap.size = Z) := hZ
  have HSZ : Hid (∀ w', Below w.heap.size w w' → Calls Tryz.prog 7 #[.agg #[.int .u64 na, .int .u64 nb, .string a0c, .string a0d, .string a0e], .int .i64 1048576] w' fun e w'' => (∃ r : Int, e = .returned (.int .i64 r) ∧ (r = -1 ∨ (0 ≤ r ∧ a0c.size ≤ 1048576 ∧ a0d.size ≤ 1048576 ∧ a0e.size ≤ 1048576))) ∧ Below w'.heap.size w' w'') := fun w' _ => szHeader_any na nb a0c a0d a0e w' w0c w0d w0e
  rw [hZ] at HA0 HB0 HSZ
  clear hW hev hZ
  obtain ⟨x0, x1, x2, x3, x4⟩ := cells5 HA0.out
  go_enter Tryz.func3, Tryz.ntmps3
  go_wp2_with fail
  first | rw [HWW.out] | skip
  first | rw [HZ.out] | skip
  refine (HSZ.out _ HB0.out).mono ?_
  rintro e w1 ⟨⟨r, rfl, hr | ⟨hr, hgood⟩⟩, hb⟩
  · subst hr
    have HB1 : Hid (Below Z w w1) := HB0.out.trans (hb.mono (by have := HB0.out.size; have := HZ.out; omega))
    clear hb x0 x1 x2 x3 x4
    go_wp2_with fail
    go_ret
    exact ⟨rfl, by rw [HZ.out]; exact HB1.out⟩
  · have hr0 : ¬ r < 0 := by omega
    obtain ⟨g1, g2, g3⟩ := hgood
    have hgood := trivial
    have HTO : Hid (∀ w', Below w.heap.size w w' → Calls Tryz.prog 9 #[.agg #[.int .u64 na, .int .u64 nb, .string a0c, .string a0d, .string a0e]] w' fun e w'' => (∃ v, e = .returned v ∧ v = (.agg #[.int .u64 na, .int .u64 nb, .string a0c, .string a0d, .string a0e] : Value)) ∧ Below w'.heap.size w' w'') := fun w' _ => (toHeader_any na nb a0c a0d a0e w').mono (by rintro e w'' ⟨rfl, hb⟩; exact ⟨⟨_, rfl, rfl⟩, hb⟩)
    have vlR_len : ∀ (x y : Unit), (vlR 1 (hdVs na nb a0c a0d a0e)).length ≤ 1000 := fun _ _ => by unfold vlR; split <;> simp [hdVs]
    have vlR_wf0 : ∀ x ∈ vlR 1 (hdVs na nb a0c a0d a0e), inI x.k ∧ x.n < 18446744073709551616 ∧ x.s.size ≤ 1048577 := hdV_wf na nb a0c a0d a0e hna hnb (by omega) (by omega) (by omega)
    have HSP : Hid (∀ w' v, v = (.agg #[.int .u64 na, .int .u64 nb, .string a0c, .string a0d, .string a0e] : Value) → Calls Tryz.prog 8 #[v] w' fun e w'' => (∃ v', e = .returned v' ∧ OwnIt w'.heap.size w'' v' (vlR 1 (hdVs na nb a0c a0d a0e))) ∧ Below w'.heap.size w' w'') := fun w' v h => by subst h; exact specHeaderValue_any na nb a0c a0d a0e w' hna hnb (by omega) (by omega) (by omega)
    have HIM : Hid (∀ w' v, v = (.agg #[.int .u64 na, .int .u64 nb, .string a0c, .string a0d, .string a0e] : Value) → EV w' → Calls Tryz.prog 10 #[v] w' fun e w'' => (∃ v', e = .returned v' ∧ OwnIt w'.heap.size w'' v' (vlR 1 (hdVs na nb a0c a0d a0e))) ∧ Below w'.heap.size w' w'') := fun w' v h he => by subst h; exact implHeaderValue_any na nb a0c a0d a0e w' he hna hnb (by omega) (by omega) (by omega)
    obtain ⟨n, hn⟩ : ∃ n, (vlR 1 (hdVs na nb a0c a0d a0e)).length = n := ⟨_, rfl⟩
    have HN : Hid ((vlR 1 (hdVs na nb a0c a0d a0e)).length = n) := hn
    have hn0 : n ≤ 1000 := by rw [← hn]; exact vlR_len () ()
    have HIT : Hid (∀ (B : Nat) (w' : World) (v : Value), OwnIt B w' v (vlR 1 (hdVs na nb a0c a0d a0e)) → IsItems w'.heap.size w' v (vlR 1 (hdVs na nb a0c a0d a0e))) := fun B w' v h => h.items (by rw [hn]; omega) vlR_wf0
    clear hn hgood hr
    have HB1 : Hid (Below Z w w1) := HB0.out.trans (hb.mono (by have := HB0.out.size; have := HZ.out; omega))
    have HA1 : Hid (w1.heap[Z]? = some (.cells #[.int .u64 na, .int .u64 nb, .string a0c, .string a0d, .string a0e] 24 (0, 0))) := (hb.block Z (blk_lt HA0.out)).trans HA0.out
    clear hb x0 x1 x2 x3 x4
    obtain ⟨x0, x1, x2, x3, x4⟩ := cells5 HA1.out
    go_wp2_with fail
    refine (HTO.out _ (by rw [HZ.out]; exact HB1.out)).mono ?_
    rintro e w2 ⟨⟨u2, rfl, hu⟩, hb⟩
    have HB2 : Hid (Below Z w w2) := HB1.out.trans (hb.mono (by have := HB1.out.size; have := HZ.out; omega))
    have HA2 : Hid (w2.heap[Z]? = some (.cells #[.int .u64 na, .int .u64 nb, .string a0c, .string a0d, .string a0e] 24 (0, 0))) := (hb.block Z (blk_lt HA1.out)).trans HA1.out
    have HU2 : Hid _ := hu
    clear hb hu x0 x1 x2 x3 x4
    go_wp2_with fail
    refine (HSP.out _ _ HU2.out).mono ?_
    rintro e w3 ⟨⟨v3, rfl, ho⟩, hb⟩
    have HB3 : Hid (Below Z w w3) := HB2.out.trans (hb.mono (by have := HB2.out.size; have := HZ.out; omega))
    have HA3 : Hid (w3.heap[Z]? = some (.cells #[.int .u64 na, .int .u64 nb, .string a0c, .string a0d, .string a0e] 24 (0, 0))) := (hb.block Z (blk_lt HA2.out)).trans HA2.out
    have HO3_3 : Hid (OwnIt w2.heap.size w3 v3 (vlR 1 (hdVs na nb a0c a0d a0e))) := ho
    have HS3 : Hid (w2.heap.size ≤ w3.heap.size) := hb.size
    clear hb ho
    obtain ⟨x0, x1, x2, x3, x4⟩ := cells5 HA3.out
    go_wp2_with fail
    refine (HTO.out _ (by rw [HZ.out]; exact HB3.out)).mono ?_
    rintro e w4 ⟨⟨u4, rfl, hu⟩, hb⟩
    have HB4 : Hid (Below Z w w4) := HB3.out.trans (hb.mono (by have := HB3.out.size; have := HZ.out; omega))
    have HA4 : Hid (w4.heap[Z]? = some (.cells #[.int .u64 na, .int .u64 nb, .string a0c, .string a0d, .string a0e] 24 (0, 0))) := (hb.block Z (blk_lt HA3.out)).trans HA3.out
    have HO3_4 : Hid (OwnIt w2.heap.size w4 v3 (vlR 1 (hdVs na nb a0c a0d a0e))) := HO3_3.out.kept hb
    have HU4 : Hid _ := hu
    have HS4 : Hid (w3.heap.size ≤ w4.heap.size) := hb.size
    clear hb hu x0 x1 x2 x3 x4
    go_wp2_with fail
    refine (HIM.out _ _ HU4.out (HEV.out.below (by rw [HZ.out]; exact HB4.out))).mono ?_
    rintro e w5 ⟨⟨v5, rfl, ho⟩, hb⟩
    have HB5 : Hid (Below Z w w5) := HB4.out.trans (hb.mono (by have := HB4.out.size; have := HZ.out; omega))
    have HA5 : Hid (w5.heap[Z]? = some (.cells #[.int .u64 na, .int .u64 nb, .string a0c, .string a0d, .string a0e] 24 (0, 0))) := (hb.block Z (blk_lt HA4.out)).trans HA4.out
    have HO3_5 : Hid (OwnIt w2.heap.size w5 v3 (vlR 1 (hdVs na nb a0c a0d a0e))) := HO3_4.out.kept hb
    have HO5_5 : Hid (OwnIt w4.heap.size w5 v5 (vlR 1 (hdVs na nb a0c a0d a0e))) := ho
    have HS5 : Hid (w4.heap.size ≤ w5.heap.size) := hb.size
    clear hb ho
    go_wp2_with fail
    refine (eqItemS_same (vlR 1 (hdVs na nb a0c a0d a0e)) _ _ w5 (HIT.out _ _ _ HO5_5.out) (HIT.out _ _ _ HO3_5.out)).mono ?_
    rintro e w6 ⟨rfl, hb⟩
    have HB6 : Hid (Below Z w w6) := HB5.out.trans (hb.mono (by have := HB5.out.size; have := HZ.out; omega))
    have HA6 : Hid (w6.heap[Z]? = some (.cells #[.int .u64 na, .int .u64 nb, .string a0c, .string a0d, .string a0e] 24 (0, 0))) := (hb.block Z (blk_lt HA5.out)).trans HA5.out
    have HO3_6 : Hid (OwnIt w2.heap.size w6 v3 (vlR 1 (hdVs na nb a0c a0d a0e))) := HO3_5.out.kept hb
    have HO5_6 : Hid (OwnIt w4.heap.size w6 v5 (vlR 1 (hdVs na nb a0c a0d a0e))) := HO5_5.out.kept hb
    clear hb
    go_wp2_with fail
    refine (markItemS_any 1 n w4.heap.size v5 w6 (by decide) (by decide) (by omega) (by have h := MkS.ofOwn HO5_6.out; rw [HN.out] at h; exact h)).mono ?_
    rintro e w7 ⟨⟨rfl, hmk⟩, hg⟩
    have hlow : ∀ k, v5.ownBlock = some k → w4.heap.size ≤ k := fun k hk => (World.ownsRow.lt HO5_6.out k hk).1
    have hb : Below Z w6 w7 := ⟨hg.os, hg.tape, hg.output, hg.size, fun k hk => hg.block k (by have := HB6.out.size; have := HZ.out; omega) (fun e => by have := hlow k e.symm; have := HB4.out.size; have := HZ.out; omega)⟩
    have HB7 : Hid (Below Z w w7) := HB6.out.trans hb
    have HA7 : Hid (w7.heap[Z]? = some (.cells #[.int .u64 na, .int .u64 nb, .string a0c, .string a0d, .string a0e] 24 (0, 0))) := (hg.block Z (blk_lt HA6.out) (fun e => by have h1 := hlow Z e.symm; have h2 := blk_lt HA3.out; have h3 := HS4.out; omega)).trans HA6.out
    have HO3_7 : Hid (OwnIt w2.heap.size w7 v3 (vlR 1 (hdVs na nb a0c a0d a0e))) := World.ownsRow.kept HO3_6.out hg (by cases hv : v3.ownBlock with | none => exact .inl rfl | some k => exact .inr (fun e => by have h1 := hlow k e.symm; have h2 := (World.ownsRow.lt HO3_3.out k hv).2; have h3 := HS4.out; omega))
    have HM7 : Hid (MkS 1 n n w4.heap.size w7 v5) := hmk
    obtain ⟨Q, hQ⟩ : ∃ Q : Nat, 1 + 3 * n = Q := ⟨_, rfl⟩
    have HQ : Hid (1 + 3 * n = Q) := hQ
    have hQ0 : ¬ (Q : Int) < 0 := by omega
    have hQ1 : Q ≤ 3001 := by omega
    rw [hQ]
    have HH : Hid (∀ w', MkS 1 n n w4.heap.size w' v5 → Calls Tryz.prog 13 #[v5, .int .i64 1] w' fun e w'' => e = .returned (.int .i64 (Q : Int)) ∧ Below w'.heap.size w' w'') := fun w' h => by have := heldItemS_any 1 n w4.heap.size v5 w' (by decide) (by decide) (by omega) h; rw [hQ] at this; exact this
    clear hQ hb hg hmk hlow
    go_wp2_with fail
    refine (HH.out _ HM7.out).mono ?_
    rintro e w8 ⟨rfl, hb⟩
    have HB8 : Hid (Below Z w w8) := HB7.out.trans (hb.mono (by have := HB7.out.size; have := HZ.out; omega))
    have HA8 : Hid (w8.heap[Z]? = some (.cells #[.int .u64 na, .int .u64 nb, .string a0c, .string a0d, .string a0e] 24 (0, 0))) := (hb.block Z (blk_lt HA7.out)).trans HA7.out
    have HO3_8 : Hid (OwnIt w2.heap.size w8 v3 (vlR 1 (hdVs na nb a0c a0d a0e))) := HO3_7.out.kept hb
    have HM8 : Hid (MkS 1 n n w4.heap.size w8 v5) := HM7.out.below hb
    clear hb
    obtain ⟨x0, x1, x2, x3, x4⟩ := cells5 HA8.out
    go_wp2_with fail
    refine (HTO.out _ (by rw [HZ.out]; exact HB8.out)).mono ?_
    rintro e w9 ⟨⟨u9, rfl, hu⟩, hb⟩
    have HB9 : Hid (Below Z w w9) := HB8.out.trans (hb.mono (by have := HB8.out.size; have := HZ.out; omega))
    have HA9 : Hid (w9.heap[Z]? = some (.cells #[.int .u64 na, .int .u64 nb, .string a0c, .string a0d, .string a0e] 24 (0, 0))) := (hb.block Z (blk_lt HA8.out)).trans HA8.out
    have HO3_9 : Hid (OwnIt w2.heap.size w9 v3 (vlR 1 (hdVs na nb a0c a0d a0e))) := HO3_8.out.kept hb
    have HM9 : Hid (MkS 1 n n w4.heap.size w9 v5) := HM8.out.below hb
    have HU9 : Hid _ := hu
    clear hb hu x0 x1 x2 x3 x4
    go_wp2_with fail
    refine (HIM.out _ _ HU9.out (HEV.out.below (by rw [HZ.out]; exact HB9.out))).mono ?_
    rintro e w10 ⟨⟨v10, rfl, ho⟩, hb⟩
    have HB10 : Hid (Below Z w w10) := HB9.out.trans (hb.mono (by have := HB9.out.size; have := HZ.out; omega))
    have HA10 : Hid (w10.heap[Z]? = some (.cells #[.int .u64 na, .int .u64 nb, .string a0c, .string a0d, .string a0e] 24 (0, 0))) := (hb.block Z (blk_lt HA9.out)).trans HA9.out
    have HO3_10 : Hid (OwnIt w2.heap.size w10 v3 (vlR 1 (hdVs na nb a0c a0d a0e))) := HO3_9.out.kept hb
    have HM10 : Hid (MkS 1 n n w4.heap.size w10 v5) := HM9.out.below hb
    have HO10_10 : Hid (OwnIt w9.heap.size w10 v10 (vlR 1 (hdVs na nb a0c a0d a0e))) := ho
    have HS10 : Hid (w9.heap.size ≤ w10.heap.size) := hb.size
    clear hb ho
    go_wp2_with fail
    refine (eqItemS_same (vlR 1 (hdVs na nb a0c a0d a0e)) _ _ w10 (HIT.out _ _ _ HO10_10.out) (HIT.out _ _ _ HO3_10.out)).mono ?_
    rintro e w11 ⟨rfl, hb⟩
    have HB11 : Hid (Below Z w w11) := HB10.out.trans (hb.mono (by have := HB10.out.size; have := HZ.out; omega))
    have HA11 : Hid (w11.heap[Z]? = some (.cells #[.int .u64 na, .int .u64 nb, .string a0c, .string a0d, .string a0e] 24 (0, 0))) := (hb.block Z (blk_lt HA10.out)).trans HA10.out
    have HO3_11 : Hid (OwnIt w2.heap.size w11 v3 (vlR 1 (hdVs na nb a0c a0d a0e))) := HO3_10.out.kept hb
    have HO10_11 : Hid (OwnIt w9.heap.size w11 v10 (vlR 1 (hdVs na nb a0c a0d a0e))) := HO10_10.out.kept hb
    have HM11 : Hid (MkS 1 n n w4.heap.size w11 v5) := HM10.out.below hb
    clear hb
    go_wp2_with fail
    refine (HH.out _ HM11.out).mono ?_
    rintro e w12 ⟨rfl, hb⟩
    have HB12 : Hid (Below Z w w12) := HB11.out.trans (hb.mono (by have := HB11.out.size; have := HZ.out; omega))
    have HA12 : Hid (w12.heap[Z]? = some (.cells #[.int .u64 na, .int .u64 nb, .string a0c, .string a0d, .string a0e] 24 (0, 0))) := (hb.block Z (blk_lt HA11.out)).trans HA11.out
    have HO3_12 : Hid (OwnIt w2.heap.size w12 v3 (vlR 1 (hdVs na nb a0c a0d a0e))) := HO3_11.out.kept hb
    have HO10_12 : Hid (OwnIt w9.heap.size w12 v10 (vlR 1 (hdVs na nb a0c a0d a0e))) := HO10_11.out.kept hb
    have HM12 : Hid (MkS 1 n n w4.heap.size w12 v5) := HM11.out.below hb
    clear hb
    go_wp2_with fail
    go_ret
    exact ⟨rfl, by rw [HZ.out]; exact HB12.out⟩
end Go.Proofs.YtipmckdlnipgkaaGreatDoor.fnExactHeaderValue
