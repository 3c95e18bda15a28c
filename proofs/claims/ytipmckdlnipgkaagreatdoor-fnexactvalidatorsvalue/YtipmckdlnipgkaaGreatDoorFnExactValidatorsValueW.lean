/- Whatever its arguments, laws.FnExactValidatorsValue returns true and leaves them, and the table that it reads, as they were; the table starts as the program's text lays it. -/
import Derived.Test.YtipmckdlnipgkaaGreatDoorCards
import Derived.Test.YtipmckdlnipgkaaGreatDoorTie
import Derived.Test.YtipmckdlnipgkaaGreatDoorPVVe
import Derived.Test.YtipmckdlnipgkaaGreatDoorSRk
import Derived.Test.YtipmckdlnipgkaaGreatDoorS2k
import Derived.SevenTiedAt
import Derived.Lib.SmallJoins
import Derived.Lay
namespace Go.Proofs.YtipmckdlnipgkaaGreatDoor.fnExactValidatorsValue
open Go.ChangeShapes Go.WideShapes Go.ChangeAt Go.RowKit
open Go.ChangeMaps (open_string shut_string)
open Go.Joins
set_option linter.unusedVariables false
theorem cells47 : Tryz.prog.cellsOf 47 = 2 := by kernel_rfl

set_option maxRecDepth 100000 in
set_option maxHeartbeats 8000000 in
theorem walk (a0a : Int) (a0bp : Option Addr) (a0bl a0bc : Nat) (w : World) (w0a : (Lit.int .u64 a0a).wf = true) (w0b : ArgValidators w a0bp a0bl a0bc) (hev : EV w) :
    Calls Tryz.prog 5 #[.agg #[.int .u64 a0a, .slice a0bp a0bl a0bc]] w fun e w' => e = .returned (.bool true) ∧ Below w.heap.size w w' := by
  obtain ⟨na, rfl, hna⟩ := u64_natD w0a
  have HEV : Hid (EV w) := hev
  obtain ⟨W, hW⟩ : ∃ W, w.alloc (.cells #[.int .u64 na, .slice a0bp a0bl a0bc] 47) = W := ⟨_, rfl⟩
  have HWW : Hid (w.alloc (.cells #[.int .u64 na, .slice a0bp a0bl a0bc] 47) = W) := hW
  have HB0 : Hid (Below w.heap.size w W) := by show Below _ _ _; rw [← hW]; exact belA _ _
  have HA0 : Hid (W.heap[w.heap.size]? = some (.cells #[.int .u64 na, .slice a0bp a0bl a0bc] 47 (0, 0))) := by show _ = _; rw [← hW]; exact heap_alloc_new w _
  obtain ⟨Z, hZ⟩ : ∃ Z, w.heap.size = Z := ⟨_, rfl⟩
  have HZ : Hid (w.heap.size = Z) := hZ
  have HSZ : Hid (∀ w', Below w.heap.size w w' → Calls Tryz.prog 20 #[.agg #[.int .u64 na, .slice a0bp a0bl a0bc], .int .i64 1048576] w' fun e w'' => (∃ r : Int, e = .returned (.int .i64 r) ∧ (r = -1 ∨ (0 ≤ r ∧ ∃ l : List Pa, l.length = a0bl ∧ l.length ≤ 1048576 ∧ smP l ∧ IsV w.heap.size w (.slice a0bp a0bl a0bc) l))) ∧ Below w'.heap.size w' w'') := fun w' h => szValidators_any na a0bp a0bl a0bc w w' h w0b
  rw [hZ] at HA0 HB0
  clear hW hev hZ
  obtain ⟨x0, x1⟩ := cellsN2 HA0.out
  go_enter Tryz.func5, Tryz.ntmps5
  go_wp2_with fail
  first | rw [HWW.out] | skip
  first | rw [HZ.out] | skip
  refine (HSZ.out _ (by rw [HZ.out]; exact HB0.out)).mono ?_
  rintro e w1 ⟨⟨r, rfl, hr | ⟨hr, hgood⟩⟩, hb⟩
  · subst hr
    have HB1 : Hid (Below Z w w1) := HB0.out.trans (hb.mono (by have := HB0.out.size; have := HZ.out; omega))
    clear hb x0 x1
    go_wp2_with fail
    go_ret
    exact ⟨rfl, by rw [HZ.out]; exact HB1.out⟩
  · have hr0 : ¬ r < 0 := by omega
    obtain ⟨l, hll, hl1, hsm, hvv⟩ := hgood
    subst hll
    have HV : Hid (IsV w.heap.size w (.slice a0bp l.length a0bc) l) := hvv
    have HTO : Hid (∀ w', Below Z w w' → Calls Tryz.prog 22 #[.agg #[.int .u64 na, .slice a0bp l.length a0bc]] w' fun e w'' => (∃ g, e = .returned (.agg #[.int .u64 na, .slice (some ⟨g, 0, none⟩) l.length l.length]) ∧ w'.heap.size ≤ g ∧ RowV l w'' g l.length) ∧ Below w'.heap.size w' w'') := fun w' hb => by rw [← HZ.out] at hb; exact toValidators_any na l _ w' (by omega) ((hvv.below hb).up hb.size)
    have HSP : Hid (∀ w' g, RowV l w' g l.length → Calls Tryz.prog 21 #[.agg #[.int .u64 na, .slice (some ⟨g, 0, none⟩) l.length l.length]] w' fun e w'' => (∃ v', e = .returned v' ∧ OwnIt w'.heap.size w'' v' (vlR 3 (msV na l))) ∧ Below w'.heap.size w' w'') := fun w' g h => specValidatorsValue_any na l _ w' hna hl1 hsm (h.done (by omega))
    have HIM : Hid (∀ w' g, RowV l w' g l.length → EV w' → Calls Tryz.prog 23 #[.agg #[.int .u64 na, .slice (some ⟨g, 0, none⟩) l.length l.length]] w' fun e w'' => (∃ v', e = .returned v' ∧ OwnIt w'.heap.size w'' v' (vlR 3 (msV na l))) ∧ Below w'.heap.size w' w'') := fun w' g h he => implValidatorsValue_any na l _ w' he hna hl1 hsm (h.done (by omega))
    have HEQ : Hid (∀ w' g g', RowV l w' g l.length → RowV l w' g' l.length → Calls Tryz.prog 24 #[.agg #[.int .u64 na, .slice (some ⟨g, 0, none⟩) l.length l.length], .agg #[.int .u64 na, .slice (some ⟨g', 0, none⟩) l.length l.length]] w' fun e w'' => e = .returned (.bool true) ∧ Below w'.heap.size w' w'') := fun w' g g' h h' => eqValidators_same na l _ _ _ _ w' (by omega) (h.done (by omega)) (h'.done (by omega))
    have HMK : Hid (∀ w' g, RowV l w' g l.length → Calls Tryz.prog 25 #[.agg #[.int .u64 na, .slice (some ⟨g, 0, none⟩) l.length l.length], .int .i64 1] w' fun e w'' => (∃ L : Nat, e = .returned (.int .i64 (L : Int)) ∧ L ≤ 2400000) ∧ w'.grownBy w'' (some g)) := fun w' g h => markValidators_any na l.length g _ _ w' (by omega) (MkQv.ofRow h (by omega))
    obtain ⟨n, hn⟩ : ∃ n, (vlR 3 (msV na l)).length = n := ⟨_, rfl⟩
    have HN : Hid ((vlR 3 (msV na l)).length = n) := hn
    have hn0 : n ≤ 1000 := by rw [← hn]; exact Nat.le_trans (vlR_short _ _) (by decide)
    have HIT : Hid (∀ (B : Nat) (w' : World) (v : Value), OwnIt B w' v (vlR 3 (msV na l)) → IsItems w'.heap.size w' v (vlR 3 (msV na l))) := fun B w' v h => h.items (by rw [hn]; omega) (fun x hx => msV_wf (by omega) hsm hna x (vlR_mem hx))
    clear hn hr hvv hsm
    have HB1 : Hid (Below Z w w1) := HB0.out.trans (hb.mono (by have := HB0.out.size; have := HZ.out; omega))
    have HA1 : Hid (w1.heap[Z]? = some (.cells #[.int .u64 na, .slice a0bp l.length a0bc] 47 (0, 0))) := (hb.block Z (blk_lt HA0.out)).trans HA0.out
    clear hb x0 x1
    obtain ⟨x0, x1⟩ := cellsN2 HA1.out
    go_wp2_with fail
    refine (HTO.out _ HB1.out).mono ?_
    rintro e w2 ⟨⟨g2, rfl, hgb, hrow⟩, hb⟩
    have HB2 : Hid (Below Z w w2) := HB1.out.trans (hb.mono (by have := HB1.out.size; have := HZ.out; omega))
    have HA2 : Hid (w2.heap[Z]? = some (.cells #[.int .u64 na, .slice a0bp l.length a0bc] 47 (0, 0))) := (hb.block Z (blk_lt HA1.out)).trans HA1.out
    have HGg2 : Hid (w1.heap.size ≤ g2) := hgb
    have HRg2_2 : Hid (RowV l w2 g2 l.length) := hrow
    have HS2 : Hid (w1.heap.size ≤ w2.heap.size) := hb.size
    clear hb hgb hrow x0 x1
    go_wp2_with fail
    refine (HSP.out _ _ HRg2_2.out).mono ?_
    rintro e w3 ⟨⟨v3, rfl, ho⟩, hb⟩
    have HB3 : Hid (Below Z w w3) := HB2.out.trans (hb.mono (by have := HB2.out.size; have := HZ.out; omega))
    have HA3 : Hid (w3.heap[Z]? = some (.cells #[.int .u64 na, .slice a0bp l.length a0bc] 47 (0, 0))) := (hb.block Z (blk_lt HA2.out)).trans HA2.out
    have HRg2_3 : Hid (RowV l w3 g2 l.length) := HRg2_2.out.keep (hb.block g2 (by obtain ⟨cs, h, _⟩ := HRg2_2.out; exact blk_lt h))
    have HO3_3 : Hid (OwnIt w2.heap.size w3 v3 (vlR 3 (msV na l))) := ho
    have HS3 : Hid (w2.heap.size ≤ w3.heap.size) := hb.size
    clear hb ho
    obtain ⟨x0, x1⟩ := cellsN2 HA3.out
    go_wp2_with fail
    refine (HTO.out _ HB3.out).mono ?_
    rintro e w4 ⟨⟨g4, rfl, hgb, hrow⟩, hb⟩
    have HB4 : Hid (Below Z w w4) := HB3.out.trans (hb.mono (by have := HB3.out.size; have := HZ.out; omega))
    have HA4 : Hid (w4.heap[Z]? = some (.cells #[.int .u64 na, .slice a0bp l.length a0bc] 47 (0, 0))) := (hb.block Z (blk_lt HA3.out)).trans HA3.out
    have HO3_4 : Hid (OwnIt w2.heap.size w4 v3 (vlR 3 (msV na l))) := HO3_3.out.kept hb
    have HGg4 : Hid (w3.heap.size ≤ g4) := hgb
    have HRg4_4 : Hid (RowV l w4 g4 l.length) := hrow
    have HS4 : Hid (w3.heap.size ≤ w4.heap.size) := hb.size
    clear hb hgb hrow x0 x1
    obtain ⟨w44, hw44⟩ : ∃ W, w4.alloc (.cells #[.int .u64 na, .slice (some ⟨g4, 0, none⟩) l.length l.length] 52) = W := ⟨_, rfl⟩
    have hb : Below w4.heap.size w4 w44 := by rw [← hw44]; exact belA _ _
    have HB44 : Hid (Below Z w w44) := HB4.out.trans (hb.mono (by have := HB4.out.size; have := HZ.out; omega))
    have HA44 : Hid (w44.heap[Z]? = some (.cells #[.int .u64 na, .slice a0bp l.length a0bc] 47 (0, 0))) := (hb.block Z (blk_lt HA4.out)).trans HA4.out
    have HO3_44 : Hid (OwnIt w2.heap.size w44 v3 (vlR 3 (msV na l))) := HO3_4.out.kept hb
    have HRg4_44 : Hid (RowV l w44 g4 l.length) := HRg4_4.out.keep (hb.block g4 (by obtain ⟨cs, h, _⟩ := HRg4_4.out; exact blk_lt h))
    have HX44 : Hid (w44.heap[w4.heap.size]? = some (.cells #[.int .u64 na, .slice (some ⟨g4, 0, none⟩) l.length l.length] 52 (0, 0))) := by show _ = _; rw [← hw44]; exact heap_alloc_new w4 _
    have HS44 : Hid (w4.heap.size ≤ w44.heap.size) := hb.size
    have HW44 : Hid (w4.alloc (.cells #[.int .u64 na, .slice (some ⟨g4, 0, none⟩) l.length l.length] 52) = w44) := hw44
    clear hb hw44
    have hxb := cellsN2 HX44.out
    obtain ⟨y0, y1⟩ := hxb
    go_wp2_with fail
    try rw [HW44.out]
    try (go_wp2_with fail)
    clear y0 y1
    refine (HIM.out _ _ HRg4_44.out (HEV.out.below (by rw [HZ.out]; exact HB44.out))).mono ?_
    rintro e w5 ⟨⟨v5, rfl, ho⟩, hb⟩
    have HB5 : Hid (Below Z w w5) := HB44.out.trans (hb.mono (by have := HB44.out.size; have := HZ.out; omega))
    have HA5 : Hid (w5.heap[Z]? = some (.cells #[.int .u64 na, .slice a0bp l.length a0bc] 47 (0, 0))) := (hb.block Z (blk_lt HA44.out)).trans HA44.out
    have HO3_5 : Hid (OwnIt w2.heap.size w5 v3 (vlR 3 (msV na l))) := HO3_44.out.kept hb
    have HRg4_5 : Hid (RowV l w5 g4 l.length) := HRg4_44.out.keep (hb.block g4 (by obtain ⟨cs, h, _⟩ := HRg4_44.out; exact blk_lt h))
    have HX5 : Hid (w5.heap[w4.heap.size]? = some (.cells #[.int .u64 na, .slice (some ⟨g4, 0, none⟩) l.length l.length] 52 (0, 0))) := (hb.block w4.heap.size (blk_lt HX44.out)).trans HX44.out
    have HO5_5 : Hid (OwnIt w44.heap.size w5 v5 (vlR 3 (msV na l))) := ho
    have HS5 : Hid (w44.heap.size ≤ w5.heap.size) := hb.size
    clear hb ho
    go_wp2_with fail
    refine (eqItemS_same (vlR 3 (msV na l)) _ _ w5 (HIT.out _ _ _ HO5_5.out) (HIT.out _ _ _ HO3_5.out)).mono ?_
    rintro e w6 ⟨rfl, hb⟩
    have HB6 : Hid (Below Z w w6) := HB5.out.trans (hb.mono (by have := HB5.out.size; have := HZ.out; omega))
    have HA6 : Hid (w6.heap[Z]? = some (.cells #[.int .u64 na, .slice a0bp l.length a0bc] 47 (0, 0))) := (hb.block Z (blk_lt HA5.out)).trans HA5.out
    have HO3_6 : Hid (OwnIt w2.heap.size w6 v3 (vlR 3 (msV na l))) := HO3_5.out.kept hb
    have HO5_6 : Hid (OwnIt w44.heap.size w6 v5 (vlR 3 (msV na l))) := HO5_5.out.kept hb
    have HRg4_6 : Hid (RowV l w6 g4 l.length) := HRg4_5.out.keep (hb.block g4 (by obtain ⟨cs, h, _⟩ := HRg4_5.out; exact blk_lt h))
    have HX6 : Hid (w6.heap[w4.heap.size]? = some (.cells #[.int .u64 na, .slice (some ⟨g4, 0, none⟩) l.length l.length] 52 (0, 0))) := (hb.block w4.heap.size (blk_lt HX5.out)).trans HX5.out
    clear hb
    obtain ⟨X4, hX4⟩ : ∃ X, w4.heap.size = X := ⟨_, rfl⟩
    have HX4 : Hid (w4.heap.size = X4) := hX4
    rw [hX4] at HX6 ⊢
    have HKX : Hid (∀ W, Below w6.heap.size w6 W → W.cell? ⟨Z, 0, none⟩ = some (.int .u64 na) ∧ W.cell? ⟨Z, 1, none⟩ = some (.slice a0bp l.length a0bc) ∧ W.cell? ⟨X4, 0, none⟩ = some (.int .u64 na) ∧ W.cell? ⟨X4, 1, none⟩ = some (.slice (some ⟨g4, 0, none⟩) l.length l.length)) := fun W hb => by
      have a1 := (hb.block Z (blk_lt HA6.out)).trans HA6.out
      have a2 := (hb.block X4 (blk_lt HX6.out)).trans HX6.out
      obtain ⟨x0, x1⟩ := cellsN2 a1
      obtain ⟨y0, y1⟩ := cellsN2 a2
      exact ⟨x0, x1, y0, y1⟩
    have HG60 : Hid (Below w6.heap.size w6 w6.drew) := (Below.refl _ _).drew
    have HS60 : Hid _ := HKX.out w6.drew HG60.out
    clear hX4
    go_wp2_with fail
    go_region_held3 (fun W => W.cell? ⟨Z, 0, none⟩ = some (.int .u64 na) ∧ W.cell? ⟨Z, 1, none⟩ = some (.slice a0bp l.length a0bc) ∧ W.cell? ⟨X4, 0, none⟩ = some (.int .u64 na) ∧ W.cell? ⟨X4, 1, none⟩ = some (.slice (some ⟨g4, 0, none⟩) l.length l.length)) (first | exact HS60.out | exact HS68.out | exact HS67.out) (first
      | (go_at_call 22; refine (HTO.out _ (HB6.out.trans (HG60.out.mono (by have := HB6.out.size; have := HZ.out; omega)))).mono ?_; rintro e w7 ⟨⟨g7, rfl, hgb, hrow⟩, hb7⟩; have HG67 : Hid (Below w6.heap.size w6 w7) := HG60.out.trans (hb7.mono HG60.out.size); have HS67 : Hid _ := HKX.out w7 HG67.out; have HRg4_7 : Hid (RowV l w7 g4 l.length) := HRg4_6.out.keep (HG67.out.block g4 (by obtain ⟨cs, h, _⟩ := HRg4_6.out; exact blk_lt h)); have HRg7_7 : Hid (RowV l w7 g7 l.length) := hrow; clear hgb hrow hb7)
      | (go_at_call 24; refine (HEQ.out _ _ _ HRg4_7.out HRg7_7.out).mono ?_; rintro e w8 ⟨rfl, hb8⟩; have HG68 : Hid (Below w6.heap.size w6 w8) := HG67.out.trans (hb8.mono HG67.out.size); have HS68 : Hid _ := HKX.out w8 HG68.out; clear hb8))
    have hb := HG68.out
    have HB8 : Hid (Below Z w w8) := HB6.out.trans (hb.mono (by have := HB6.out.size; have := HZ.out; omega))
    have HA8 : Hid (w8.heap[Z]? = some (.cells #[.int .u64 na, .slice a0bp l.length a0bc] 47 (0, 0))) := (hb.block Z (blk_lt HA6.out)).trans HA6.out
    have HO3_8 : Hid (OwnIt w2.heap.size w8 v3 (vlR 3 (msV na l))) := HO3_6.out.kept hb
    have HO5_8 : Hid (OwnIt w44.heap.size w8 v5 (vlR 3 (msV na l))) := HO5_6.out.kept hb
    have HRg4_8 : Hid (RowV l w8 g4 l.length) := HRg4_6.out.keep (hb.block g4 (by obtain ⟨cs, h, _⟩ := HRg4_6.out; exact blk_lt h))
    have HX8 : Hid (w8.heap[X4]? = some (.cells #[.int .u64 na, .slice (some ⟨g4, 0, none⟩) l.length l.length] 52 (0, 0))) := (hb.block X4 (blk_lt HX6.out)).trans HX6.out
    clear hb HS60 HG60
    obtain ⟨y0, y1⟩ := cellsN2 HX8.out
    go_wp2_with fail
    clear y0 y1
    refine (HMK.out _ _ HRg4_8.out).mono ?_
    rintro e w9 ⟨⟨L, rfl, hL⟩, hg⟩
    have hL0 : ¬ (L : Int) < 0 := by omega
    have hb : Below Z w8 w9 := ⟨hg.os, hg.tape, hg.output, hg.size, fun k hk => hg.block k (by have := HB8.out.size; have := HZ.out; omega) (fun e => by have := Option.some.inj e; have := HGg4.out; have := HB3.out.size; have := HZ.out; omega)⟩
    have HB9 : Hid (Below Z w w9) := HB8.out.trans hb
    have HA9 : Hid (w9.heap[Z]? = some (.cells #[.int .u64 na, .slice a0bp l.length a0bc] 47 (0, 0))) := (hg.block Z (blk_lt HA8.out) (fun e => by have h1 := Option.some.inj e; have h2 := blk_lt HA3.out; have h3 := HGg4.out; omega)).trans HA8.out
    have HO3_9 : Hid (OwnIt w2.heap.size w9 v3 (vlR 3 (msV na l))) := World.ownsRow.kept HO3_8.out hg (by cases hv : v3.ownBlock with | none => exact .inl rfl | some k => exact .inr (fun e => by have h1 := Option.some.inj e; have h2 := (World.ownsRow.lt HO3_3.out k hv).2; have h3 := HGg4.out; omega))
    have HO5_9 : Hid (OwnIt w44.heap.size w9 v5 (vlR 3 (msV na l))) := World.ownsRow.kept HO5_8.out hg (by cases hv : v5.ownBlock with | none => exact .inl rfl | some k => exact .inr (fun e => by have h1 := Option.some.inj e; have h2 := (World.ownsRow.lt HO5_5.out k hv).1; have h3 : g4 < w4.heap.size := (by obtain ⟨cs, h, _⟩ := HRg4_4.out; exact blk_lt h); have h4 := HS44.out; omega))
    clear hb hg
    go_wp2_with fail
    refine (eqItemS_same (vlR 3 (msV na l)) _ _ w9 (HIT.out _ _ _ HO5_9.out) (HIT.out _ _ _ HO3_9.out)).mono ?_
    rintro e w10 ⟨rfl, hb⟩
    have HB10 : Hid (Below Z w w10) := HB9.out.trans (hb.mono (by have := HB9.out.size; have := HZ.out; omega))
    have HA10 : Hid (w10.heap[Z]? = some (.cells #[.int .u64 na, .slice a0bp l.length a0bc] 47 (0, 0))) := (hb.block Z (blk_lt HA9.out)).trans HA9.out
    have HO3_10 : Hid (OwnIt w2.heap.size w10 v3 (vlR 3 (msV na l))) := HO3_9.out.kept hb
    have HO5_10 : Hid (OwnIt w44.heap.size w10 v5 (vlR 3 (msV na l))) := HO5_9.out.kept hb
    clear hb
    go_wp2_with fail
    refine (markItemS_any 1 n w44.heap.size v5 w10 (by decide) (by decide) (by omega) (by have h := MkS.ofOwn HO5_10.out; rw [HN.out] at h; exact h)).mono ?_
    rintro e w11 ⟨⟨rfl, hmk⟩, hg⟩
    have hlow : ∀ k, v5.ownBlock = some k → w44.heap.size ≤ k := fun k hk => (World.ownsRow.lt HO5_10.out k hk).1
    have hb : Below Z w10 w11 := ⟨hg.os, hg.tape, hg.output, hg.size, fun k hk => hg.block k (by have := HB10.out.size; have := HZ.out; omega) (fun e => by have := hlow k e.symm; have := HB44.out.size; have := HZ.out; omega)⟩
    have HB11 : Hid (Below Z w w11) := HB10.out.trans hb
    have HA11 : Hid (w11.heap[Z]? = some (.cells #[.int .u64 na, .slice a0bp l.length a0bc] 47 (0, 0))) := (hg.block Z (blk_lt HA10.out) (fun e => by have h1 := hlow Z e.symm; have h2 := blk_lt HA44.out; omega)).trans HA10.out
    have HO3_11 : Hid (OwnIt w2.heap.size w11 v3 (vlR 3 (msV na l))) := World.ownsRow.kept HO3_10.out hg (by cases hv : v3.ownBlock with | none => exact .inl rfl | some k => exact .inr (fun e => by have h1 := hlow k e.symm; have h2 := (World.ownsRow.lt HO3_3.out k hv).2; have h3 := HS4.out; have h4 := HS44.out; omega))
    have HM11 : Hid (MkS 1 n n w44.heap.size w11 v5) := hmk
    obtain ⟨Q, hQ⟩ : ∃ Q : Nat, 1 + 3 * n = Q := ⟨_, rfl⟩
    have hQ0 : ¬ (Q : Int) < 0 := by omega
    have hQ1 : Q ≤ 3001 := by omega
    rw [hQ]
    have HH : Hid (∀ w', MkS 1 n n w44.heap.size w' v5 → Calls Tryz.prog 13 #[v5, .int .i64 1] w' fun e w'' => e = .returned (.int .i64 (Q : Int)) ∧ Below w'.heap.size w' w'') := fun w' h => by have := heldItemS_any 1 n w44.heap.size v5 w' (by decide) (by decide) (by omega) h; rw [hQ] at this; exact this
    clear hQ hb hg hmk hlow
    go_wp2_with fail
    refine (HH.out _ HM11.out).mono ?_
    rintro e w12 ⟨rfl, hb⟩
    have HB12 : Hid (Below Z w w12) := HB11.out.trans (hb.mono (by have := HB11.out.size; have := HZ.out; omega))
    have HA12 : Hid (w12.heap[Z]? = some (.cells #[.int .u64 na, .slice a0bp l.length a0bc] 47 (0, 0))) := (hb.block Z (blk_lt HA11.out)).trans HA11.out
    have HO3_12 : Hid (OwnIt w2.heap.size w12 v3 (vlR 3 (msV na l))) := HO3_11.out.kept hb
    have HM12 : Hid (MkS 1 n n w44.heap.size w12 v5) := HM11.out.below hb
    clear hb
    obtain ⟨x0, x1⟩ := cellsN2 HA12.out
    go_wp2_with fail
    refine (HTO.out _ HB12.out).mono ?_
    rintro e w13 ⟨⟨g13, rfl, hgb, hrow⟩, hb⟩
    have HB13 : Hid (Below Z w w13) := HB12.out.trans (hb.mono (by have := HB12.out.size; have := HZ.out; omega))
    have HA13 : Hid (w13.heap[Z]? = some (.cells #[.int .u64 na, .slice a0bp l.length a0bc] 47 (0, 0))) := (hb.block Z (blk_lt HA12.out)).trans HA12.out
    have HO3_13 : Hid (OwnIt w2.heap.size w13 v3 (vlR 3 (msV na l))) := HO3_12.out.kept hb
    have HM13 : Hid (MkS 1 n n w44.heap.size w13 v5) := HM12.out.below hb
    have HGg13 : Hid (w12.heap.size ≤ g13) := hgb
    have HRg13_13 : Hid (RowV l w13 g13 l.length) := hrow
    have HS13 : Hid (w12.heap.size ≤ w13.heap.size) := hb.size
    clear hb hgb hrow x0 x1
    go_wp2_with fail
    refine (HIM.out _ _ HRg13_13.out (HEV.out.below (by rw [HZ.out]; exact HB13.out))).mono ?_
    rintro e w14 ⟨⟨v14, rfl, ho⟩, hb⟩
    have HB14 : Hid (Below Z w w14) := HB13.out.trans (hb.mono (by have := HB13.out.size; have := HZ.out; omega))
    have HA14 : Hid (w14.heap[Z]? = some (.cells #[.int .u64 na, .slice a0bp l.length a0bc] 47 (0, 0))) := (hb.block Z (blk_lt HA13.out)).trans HA13.out
    have HO3_14 : Hid (OwnIt w2.heap.size w14 v3 (vlR 3 (msV na l))) := HO3_13.out.kept hb
    have HRg13_14 : Hid (RowV l w14 g13 l.length) := HRg13_13.out.keep (hb.block g13 (by obtain ⟨cs, h, _⟩ := HRg13_13.out; exact blk_lt h))
    have HM14 : Hid (MkS 1 n n w44.heap.size w14 v5) := HM13.out.below hb
    have HO14_14 : Hid (OwnIt w13.heap.size w14 v14 (vlR 3 (msV na l))) := ho
    have HS14 : Hid (w13.heap.size ≤ w14.heap.size) := hb.size
    clear hb ho
    go_wp2_with fail
    refine (eqItemS_same (vlR 3 (msV na l)) _ _ w14 (HIT.out _ _ _ HO14_14.out) (HIT.out _ _ _ HO3_14.out)).mono ?_
    rintro e w15 ⟨rfl, hb⟩
    have HB15 : Hid (Below Z w w15) := HB14.out.trans (hb.mono (by have := HB14.out.size; have := HZ.out; omega))
    have HA15 : Hid (w15.heap[Z]? = some (.cells #[.int .u64 na, .slice a0bp l.length a0bc] 47 (0, 0))) := (hb.block Z (blk_lt HA14.out)).trans HA14.out
    have HO3_15 : Hid (OwnIt w2.heap.size w15 v3 (vlR 3 (msV na l))) := HO3_14.out.kept hb
    have HO14_15 : Hid (OwnIt w13.heap.size w15 v14 (vlR 3 (msV na l))) := HO14_14.out.kept hb
    have HM15 : Hid (MkS 1 n n w44.heap.size w15 v5) := HM14.out.below hb
    clear hb
    go_wp2_with fail
    refine (HH.out _ HM15.out).mono ?_
    rintro e w16 ⟨rfl, hb⟩
    have HB16 : Hid (Below Z w w16) := HB15.out.trans (hb.mono (by have := HB15.out.size; have := HZ.out; omega))
    have HA16 : Hid (w16.heap[Z]? = some (.cells #[.int .u64 na, .slice a0bp l.length a0bc] 47 (0, 0))) := (hb.block Z (blk_lt HA15.out)).trans HA15.out
    have HO3_16 : Hid (OwnIt w2.heap.size w16 v3 (vlR 3 (msV na l))) := HO3_15.out.kept hb
    have HO14_16 : Hid (OwnIt w13.heap.size w16 v14 (vlR 3 (msV na l))) := HO14_15.out.kept hb
    have HM16 : Hid (MkS 1 n n w44.heap.size w16 v5) := HM15.out.below hb
    clear hb
    go_wp2_with fail
    go_ret
    exact ⟨rfl, by rw [HZ.out]; exact HB16.out⟩
end Go.Proofs.YtipmckdlnipgkaaGreatDoor.fnExactValidatorsValue
