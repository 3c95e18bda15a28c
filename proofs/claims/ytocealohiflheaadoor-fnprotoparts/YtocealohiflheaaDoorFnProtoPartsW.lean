/- Whatever its arguments, laws.FnProtoParts returns true and leaves them, and the table that it reads, as they were; the table starts as the program's text lays it. -/
import Derived.Test.YtocealohiflheaaDoorCards
import Derived.Test.YtocealohiflheaaDoorTie
import Derived.Test.YtocealohiflheaaDoorWPl
import Derived.Test.YtocealohiflheaaDoorS7g
import Derived.Test.YtocealohiflheaaDoorDrawX
import Derived.Test.YtocealohiflheaaDoorPq
import Derived.Test.YtocealohiflheaaDoorDrawY
import Derived.SevenTiedAt
namespace Go.Proofs.YtocealohiflheaaDoor.fnProtoParts
open Go.ChangeShapes Go.WideShapes Go.ChangeAt Go.RowKit
open Go.ChangeMaps (open_string shut_string)
set_option linter.unusedVariables false
theorem big_any (a : Option Addr) (len cap : Nat) (w : World) (hl : len ≤ maxLen) : Calls Tryd.prog 15 #[.slice a len cap] w fun e w' => e = .returned (.bool (decide (1048576 < len))) ∧ w' = w := by
  unfold maxLen at hl
  go_enter Tryd.func15, Tryd.ntmps15
  go_wp2
  go_ret
  exact ⟨ret_b (by simp; omega), rfl⟩
theorem row_len {k : IntKind} {w : World} {a : Option Addr} {len cap : Nat} {zs : List Int} (h : IsRow k w a len cap zs) : len ≤ maxLen := by
  rcases h with ⟨_, rfl, _, _⟩ | ⟨x, _, h1, h2, _⟩
  · simp [maxLen]
  · omega
/-- The three items in memory of one's own. -/
theorem three_items {w : World} {B : Nat} {a b : Nat} (hB : B ≤ w.heap.size) : OwnIt B (w.alloc (.cells #[.int .i64 7, .int .u64 2, .string ⟨#[]⟩, .int .i64 1, .int .u64 a, .string ⟨#[]⟩, .int .i64 1, .int .u64 b, .string ⟨#[]⟩] 42)) (.slice (some ⟨w.heap.size, 0, none⟩) 3 3) (twoV a b) :=
  World.ownsRow_lit w #[.int .i64 7, .int .u64 2, .string ⟨#[]⟩, .int .i64 1, .int .u64 a, .string ⟨#[]⟩, .int .i64 1, .int .u64 b, .string ⟨#[]⟩] 3 hB (by decide) rfl
theorem inI1 : inI 1 := ⟨by decide, by decide⟩
theorem wfT_two : wfT twoS := fun t ht => by
  simp only [twoS, List.mem_cons, List.not_mem_nil, or_false] at ht
  rcases ht with rfl | rfl | rfl <;> exact ⟨⟨by decide, by decide⟩, ⟨by decide, by decide⟩⟩
theorem wf_two {a b : Nat} (ha : a < 18446744073709551616) (hb : b < 18446744073709551616) : ∀ x ∈ twoV a b, inI x.k ∧ x.n < 18446744073709551616 ∧ x.s.size ≤ 1048577 := fun x hx => by
  simp only [twoV, List.mem_cons, List.not_mem_nil, or_false] at hx
  rcases hx with rfl | rfl | rfl
  · exact ⟨⟨by decide, by decide⟩, by show (2 : Nat) < _; omega, by show (0 : Nat) ≤ _; omega⟩
  · exact ⟨inI1, ha, by show (0 : Nat) ≤ _; omega⟩
  · exact ⟨inI1, hb, by show (0 : Nat) ≤ _; omega⟩
theorem fld_len (i a : Nat) : (fld i a).length ≤ 22 := by
  unfold fld
  split
  · simp
  · rw [List.length_append]; have h1 := putVar_len (8 * (i + 1)); have h2 := putVar_len a; omega
theorem putVar_ne (a : Nat) : putVar a ≠ [] := by
  unfold putVar varF
  split <;> simp
theorem ba_z (l : List UInt8) : ByteArray.size ⟨l.toArray⟩ = l.length := by show l.toArray.size = _; simp

set_option maxRecDepth 100000 in
set_option maxHeartbeats 4000000 in
theorem walk (a0 : Option Addr) (len0 cap0 : Nat) (z0 : List Int) (a1 : Option Addr) (len1 cap1 : Nat) (z1 : List Int) (w : World) (w0 : IsRow .u8 w a0 len0 cap0 z0) (w1 : IsRow .u8 w a1 len1 cap1 z1) (hkr : KR w) (hET : ET w) :
    Calls Tryd.prog 4 #[.slice a0 len0 cap0, .slice a1 len1 cap1] w fun e w' => e = .returned (.bool true) ∧ Below w.heap.size w w' := by
  have hlm0 := row_len w0
  have hlm1 := row_len w1
  have HK : Hid (KR w) := hkr
  have HE : Hid (ET w) := hET
  have HB0 : Hid (∀ w, Calls Tryd.prog 15 #[.slice a0 len0 cap0] w fun e w' => e = .returned (.bool (decide (1048576 < len0))) ∧ w' = w) := fun w => big_any a0 len0 cap0 w hlm0
  have HB1 : Hid (∀ w, Calls Tryd.prog 15 #[.slice a1 len1 cap1] w fun e w' => e = .returned (.bool (decide (1048576 < len1))) ∧ w' = w) := fun w => big_any a1 len1 cap1 w hlm1
  by_cases hbig : 1048576 < len0
  · have hd : decide (1048576 < len0) = true := decide_eq_true hbig
    rw [hd] at HB0
    clear w0 w1 hlm0 hlm1 hbig hd hkr hET
    go_enter Tryd.func4, Tryd.ntmps4
    go_wp2_with fail
    refine (HB0.out _).mono ?_
    rintro e w2 ⟨rfl, rfl⟩
    go_wp2_with fail
    go_ret
    exact ⟨rfl, Below.refl _ _⟩
  · by_cases hbig1 : 1048576 < len1
    · have hd : decide (1048576 < len0) = false := decide_eq_false hbig
      have hd1 : decide (1048576 < len1) = true := decide_eq_true hbig1
      rw [hd] at HB0
      rw [hd1] at HB1
      clear w0 w1 hlm0 hlm1 hbig hbig1 hd hd1 hkr hET
      go_enter Tryd.func4, Tryd.ntmps4
      go_wp2_with fail
      refine (HB0.out _).mono ?_
      rintro e w2 ⟨rfl, rfl⟩
      go_wp2_with fail
      refine (HB1.out _).mono ?_
      rintro e w3 ⟨rfl, rfl⟩
      go_wp2_with fail
      go_ret
      exact ⟨rfl, Below.refl _ _⟩
    · have hd : decide (1048576 < len0) = false := decide_eq_false hbig
      have hd1 : decide (1048576 < len1) = false := decide_eq_false hbig1
      rw [hd] at HB0
      rw [hd1] at HB1
      have HD0 : Hid (Calls Tryd.prog 16 #[.slice a0 len0 cap0] w fun e w' => (∃ n : Nat, n < 18446744073709551616 ∧ e = .returned (.int .u64 n)) ∧ Below w.heap.size w w') := DrawPutVarint_any w.heap.size a0 len0 cap0 w (Nat.le_refl _) w0.code (by omega)
      have HD1 : Hid (∀ w', Below w.heap.size w w' → Calls Tryd.prog 16 #[.slice a1 len1 cap1] w' fun e w'' => (∃ n : Nat, n < 18446744073709551616 ∧ e = .returned (.int .u64 n)) ∧ Below w'.heap.size w' w'') := fun w' hb => DrawPutVarint_any w.heap.size a1 len1 cap1 w' hb.size (CodeAt.below w1.code hb) (by omega)
      clear w0 w1 hlm0 hlm1 hbig hbig1 hd hd1 hkr hET
      go_enter Tryd.func4, Tryd.ntmps4
      go_wp2_with fail
      refine (HB0.out _).mono ?_
      rintro e w2 ⟨rfl, rfl⟩
      go_wp2_with fail
      refine (HB1.out _).mono ?_
      rintro e w3 ⟨rfl, rfl⟩
      go_wp2_with fail
      refine Calls.mono HD0.out ?_
      rintro e w4 ⟨⟨a, ha, rfl⟩, hb4⟩
      have HB4 : Hid (Below w3.heap.size w3 w4) := hb4
      clear hb4
      go_wp2_with fail
      refine Calls.mono (HD1.out _ HB4.out) ?_
      rintro e w5 ⟨⟨b, hb, rfl⟩, hb5⟩
      have HB5 : Hid (Below w3.heap.size w3 w5) := HB4.out.trans (hb5.mono HB4.out.size)
      obtain ⟨W0, hW0⟩ : ∃ W0, W0 = ((((w5.alloc (.cells #[.int .i64 7, .int .i64 2, .int .i64 1, .int .i64 64, .int .i64 1, .int .i64 64] 40)).alloc (.cells #[.int .i64 7, .int .u64 2, .string ⟨#[]⟩] 42)).alloc (.cells #[.int .i64 1, .int .u64 a, .string ⟨#[]⟩] 42)).alloc (.cells #[.int .i64 1, .int .u64 b, .string ⟨#[]⟩] 42)).alloc (.cells #[.int .i64 1, .int .u64 0, .string ⟨#[]⟩] 42) := ⟨_, rfl⟩
      have hWs : W0.heap.size = w5.heap.size + 1 + 1 + 1 + 1 + 1 := by rw [hW0]; simp
      have HW5 : Hid (Below w5.heap.size w5 W0) := by
        show Below _ _ _
        rw [hW0]
        exact ((((bel1 _ _).alloc (by simp) _).alloc (by simp; omega) _).alloc (by simp; omega) _).alloc (by simp; omega) _
      have HWA : Hid (Below w3.heap.size w3 W0) := HB5.out.trans (HW5.out.mono HB5.out.size)
      have HT0 : Hid (W0.ownsRow w5.heap.size 40 2 (.slice (some ⟨w5.heap.size, 0, none⟩) 3 3) 3 (flatT twoS)) := by
        show World.ownsRow _ _ _ _ _ _ _
        rw [hW0]
        exact ((((World.ownsRow_lit w5 #[.int .i64 7, .int .i64 2, .int .i64 1, .int .i64 64, .int .i64 1, .int .i64 64] 3 (Nat.le_refl _) (by decide) rfl).alloc _).alloc _).alloc _).alloc _
      have HBX : Hid (∀ w', Below W0.heap.size W0 w' → w'.cell? ⟨w5.heap.size + 1, 0, none⟩ = some (.int .i64 7) ∧ w'.cell? ⟨w5.heap.size + 1, 1, none⟩ = some (.int .u64 2) ∧ w'.cell? ⟨w5.heap.size + 1, 2, none⟩ = some (.string ⟨#[]⟩) ∧ w'.cell? ⟨w5.heap.size + 1 + 1, 0, none⟩ = some (.int .i64 1) ∧ w'.cell? ⟨w5.heap.size + 1 + 1, 1, none⟩ = some (.int .u64 a) ∧ w'.cell? ⟨w5.heap.size + 1 + 1, 2, none⟩ = some (.string ⟨#[]⟩) ∧ w'.cell? ⟨w5.heap.size + 1 + 1 + 1, 0, none⟩ = some (.int .i64 1) ∧ w'.cell? ⟨w5.heap.size + 1 + 1 + 1, 1, none⟩ = some (.int .u64 b) ∧ w'.cell? ⟨w5.heap.size + 1 + 1 + 1, 2, none⟩ = some (.string ⟨#[]⟩) ∧ w'.cell? ⟨w5.heap.size + 1 + 1 + 1 + 1, 0, none⟩ = some (.int .i64 1) ∧ w'.cell? ⟨w5.heap.size + 1 + 1 + 1 + 1, 1, none⟩ = some (.int .u64 0) ∧ w'.cell? ⟨w5.heap.size + 1 + 1 + 1 + 1, 2, none⟩ = some (.string ⟨#[]⟩)) := fun w' hb => by
        refine ⟨cell_b ?_ (by omega) hb, cell_b ?_ (by omega) hb, cell_b ?_ (by omega) hb, cell_b ?_ (by omega) hb, cell_b ?_ (by omega) hb, cell_b ?_ (by omega) hb, cell_b ?_ (by omega) hb, cell_b ?_ (by omega) hb, cell_b ?_ (by omega) hb, cell_b ?_ (by omega) hb, cell_b ?_ (by omega) hb, cell_b ?_ (by omega) hb⟩ <;> rw [hW0] <;> simp [go_sem]
      have HP : Hid (∀ (a' b' : Nat) (w' : World), a' < 18446744073709551616 → b' < 18446744073709551616 → Below W0.heap.size W0 w' → Calls Tryd.prog 12 #[.slice (some ⟨w5.heap.size, 0, none⟩) 3 3, .slice (some ⟨w'.heap.size, 0, none⟩) 3 3] (w'.alloc (.cells #[.int .i64 7, .int .u64 2, .string ⟨#[]⟩, .int .i64 1, .int .u64 a', .string ⟨#[]⟩, .int .i64 1, .int .u64 b', .string ⟨#[]⟩] 42)) fun e w'' => e = .returned (.tuple #[.string ⟨(fld 0 a' ++ fld 1 b').toArray⟩, .bool true]) ∧ Below (w'.alloc (.cells #[.int .i64 7, .int .u64 2, .string ⟨#[]⟩, .int .i64 1, .int .u64 a', .string ⟨#[]⟩, .int .i64 1, .int .u64 b', .string ⟨#[]⟩] 42)).heap.size (w'.alloc (.cells #[.int .i64 7, .int .u64 2, .string ⟨#[]⟩, .int .i64 1, .int .u64 a', .string ⟨#[]⟩, .int .i64 1, .int .u64 b', .string ⟨#[]⟩] 42)) w'') := fun a' b' w' ha' hb' hb => by
        have hbb := hb.trans ((bel1 w' (.cells #[.int .i64 7, .int .u64 2, .string ⟨#[]⟩, .int .i64 1, .int .u64 a', .string ⟨#[]⟩, .int .i64 1, .int .u64 b', .string ⟨#[]⟩] 42)).mono hb.size)
        have hbw := HWA.out.trans (hbb.mono HWA.out.size)
        have hT : IsTyps (w'.alloc (.cells #[.int .i64 7, .int .u64 2, .string ⟨#[]⟩, .int .i64 1, .int .u64 a', .string ⟨#[]⟩, .int .i64 1, .int .u64 b', .string ⟨#[]⟩] 42)).heap.size (w'.alloc (.cells #[.int .i64 7, .int .u64 2, .string ⟨#[]⟩, .int .i64 1, .int .u64 a', .string ⟨#[]⟩, .int .i64 1, .int .u64 b', .string ⟨#[]⟩] 42)) (.slice (some ⟨w5.heap.size, 0, none⟩) 3 3) twoS := own_typs (own_keepX HT0.out (fun g hg => hbb.block g (World.ownsRow.lt HT0.out g hg).2)) (by decide) wfT_two
        have hI := (three_items (w := w') (B := w'.heap.size) (a := a') (b := b') (Nat.le_refl _)).items (by simp [twoV]) (wf_two ha' hb')
        have := implProtoEnc_any twoS (twoV a' b') _ _ _ hT hI (HK.out.below hbw) (ET.below (B := 0) HE.out hbw)
        rw [two_pm, twoT ha' hb', show proL twoS (twoV a' b') = fld 0 a' ++ fld 1 b' from twoX ha' hb'] at this
        exact this
      have HC1 := HP.out a b W0 ha hb (Below.refl _ _)
      rw [hWs, hW0] at HC1
      have HC1' : Hid _ := HC1
      have HWS : Hid (W0.heap.size = w5.heap.size + 1 + 1 + 1 + 1 + 1) := hWs
      have HWE : Hid (W0 = _) := hW0
      clear HC1 hWs hW0 hb5 HD0 HD1 HB0 HB1
      obtain ⟨F1, hF1⟩ : ∃ F : ByteArray, (⟨(fld 0 a).toArray⟩ : ByteArray) = F := ⟨_, rfl⟩
      obtain ⟨F2, hF2⟩ : ∃ F : ByteArray, (⟨(fld 1 b).toArray⟩ : ByteArray) = F := ⟨_, rfl⟩
      have hF12 : (⟨(fld 0 a ++ fld 1 b).toArray⟩ : ByteArray) = F1 ++ F2 := by rw [← hF1, ← hF2, cat_list]
      have hF10 : (⟨(fld 0 a ++ fld 1 0).toArray⟩ : ByteArray) = F1 := by rw [← hF1, show fld 1 0 = [] from rfl, List.append_nil]
      have hF02 : (⟨(fld 0 0 ++ fld 1 b).toArray⟩ : ByteArray) = F2 := by rw [← hF2]; rfl
      have hs1 : F1.size ≤ 22 := by rw [← hF1, ba_z]; exact fld_len 0 a
      have hs2 : F2.size ≤ 22 := by rw [← hF2, ba_z]; exact fld_len 1 b
      have HC1'' := HC1'.out
      rw [hF12] at HC1''
      have HCA : Hid _ := HC1''
      have HP2 : Hid (∀ w', Below W0.heap.size W0 w' → Calls Tryd.prog 12 #[.slice (some ⟨w5.heap.size, 0, none⟩) 3 3, .slice (some ⟨w'.heap.size, 0, none⟩) 3 3] (w'.alloc (.cells #[.int .i64 7, .int .u64 2, .string ⟨#[]⟩, .int .i64 1, .int .u64 a, .string ⟨#[]⟩, .int .i64 1, .int .u64 0, .string ⟨#[]⟩] 42)) fun e w'' => e = .returned (.tuple #[.string F1, .bool true]) ∧ Below (w'.alloc (.cells #[.int .i64 7, .int .u64 2, .string ⟨#[]⟩, .int .i64 1, .int .u64 a, .string ⟨#[]⟩, .int .i64 1, .int .u64 0, .string ⟨#[]⟩] 42)).heap.size (w'.alloc (.cells #[.int .i64 7, .int .u64 2, .string ⟨#[]⟩, .int .i64 1, .int .u64 a, .string ⟨#[]⟩, .int .i64 1, .int .u64 0, .string ⟨#[]⟩] 42)) w'') := fun w' hb => by
        have := HP.out a 0 w' ha (by omega) hb
        rw [hF10] at this
        exact this
      have HP3 : Hid (∀ w', Below W0.heap.size W0 w' → Calls Tryd.prog 12 #[.slice (some ⟨w5.heap.size, 0, none⟩) 3 3, .slice (some ⟨w'.heap.size, 0, none⟩) 3 3] (w'.alloc (.cells #[.int .i64 7, .int .u64 2, .string ⟨#[]⟩, .int .i64 1, .int .u64 0, .string ⟨#[]⟩, .int .i64 1, .int .u64 b, .string ⟨#[]⟩] 42)) fun e w'' => e = .returned (.tuple #[.string F2, .bool true]) ∧ Below (w'.alloc (.cells #[.int .i64 7, .int .u64 2, .string ⟨#[]⟩, .int .i64 1, .int .u64 0, .string ⟨#[]⟩, .int .i64 1, .int .u64 b, .string ⟨#[]⟩] 42)).heap.size (w'.alloc (.cells #[.int .i64 7, .int .u64 2, .string ⟨#[]⟩, .int .i64 1, .int .u64 0, .string ⟨#[]⟩, .int .i64 1, .int .u64 b, .string ⟨#[]⟩] 42)) w'') := fun w' hb => by
        have := HP.out 0 b w' (by omega) ‹b < 18446744073709551616› hb
        rw [hF02] at this
        exact this
      have HF1E : Hid ((⟨(fld 0 a).toArray⟩ : ByteArray) = F1) := hF1
      have HF2E : Hid ((⟨(fld 1 b).toArray⟩ : ByteArray) = F2) := hF2
      clear HC1'' HC1' hF12 hF10 hF02 hF1 hF2
      go_wp2_with fail
      refine Calls.mono HCA.out ?_
      rintro e w6 ⟨rfl, hb6⟩
      have HBw6 : Hid (Below W0.heap.size W0 w6) := by
        have h := hb6
        rw [← HWE.out] at h
        exact (bel1 W0 _).trans (h.mono (by simp))
      clear hb6
      obtain ⟨z0, z1, z2, z3, z4, z5, z6, z7, z8, z9, z10, z11⟩ := HBX.out w6 HBw6.out
      go_wp2_with fail
      refine Calls.mono (HP2.out w6 HBw6.out) ?_
      rintro e w7 ⟨rfl, hb7⟩
      have HBw7 : Hid (Below W0.heap.size W0 w7) := HBw6.out.trans (((bel1 w6 _).trans (hb7.mono (by simp))).mono HBw6.out.size)
      clear hb7
      clear z0 z1 z2 z3 z4 z5 z6 z7 z8 z9 z10 z11
      obtain ⟨z0, z1, z2, z3, z4, z5, z6, z7, z8, z9, z10, z11⟩ := HBX.out w7 HBw7.out
      go_wp2_with fail
      refine Calls.mono (HP3.out w7 HBw7.out) ?_
      rintro e w8 ⟨rfl, hb8⟩
      have HBw8 : Hid (Below W0.heap.size W0 w8) := HBw7.out.trans (((bel1 w7 _).trans (hb8.mono (by simp))).mono HBw7.out.size)
      have HFin : Hid (Below w3.heap.size w3 w8) := HWA.out.trans (HBw8.out.mono HWA.out.size)
      clear hb8
      clear z0 z1 z2 z3 z4 z5 z6 z7 z8 z9 z10 z11
      have hE1 : F1.toList.isEmpty = decide (a = 0) ∧ ((a : Int) == 0) = decide (a = 0) := by
        refine ⟨?_, by by_cases h : a = 0 <;> simp [h]⟩
        rw [← HF1E.out, ByteArray.toList_eq]
        unfold fld
        by_cases h : a = 0
        · simp [h]
        · simp only [h, if_false, decide_false]
          have := putVar_ne a
          simp [this]
      obtain ⟨hE1, hE2⟩ := hE1
      have hF12s : (F1 ++ F2).size ≤ 44 := by rw [ByteArray.size_append]; omega
      by_cases hb0 : b = 0
      · have hbz : ((b : Int) == 0) = true := by rw [hb0]; rfl
        by_cases ha0 : a = 0
        · rw [decide_eq_true ha0] at hE1 hE2
          go_wp2_with fail
          go_ret
          exact ⟨rfl, HFin.out⟩
        · rw [decide_eq_false ha0] at hE1 hE2
          go_wp2_with fail
          go_ret
          exact ⟨rfl, HFin.out⟩
      · have hbz : ((b : Int) == 0) = false := by simp; omega
        obtain ⟨PB, hPB⟩ : ∃ F : ByteArray, (⟨(putVar b).toArray⟩ : ByteArray) = F := ⟨_, rfl⟩
        have hPs : PB.size ≤ 11 := by rw [← hPB, ba_z]; exact putVar_len b
        have hF2 : F2 = (⟨#[16]⟩ : ByteArray) ++ PB := by
          rw [← HF2E.out, ← hPB]
          unfold fld
          rw [if_neg hb0]
          exact (cat_list [16] (putVar b)).symm
        have HPV : Hid (∀ w, Calls Tryd.prog 17 #[.int .u64 b] w fun e w' => e = .returned (.string PB) ∧ Below w.heap.size w w') := fun w => by have := implPutVarint_any b w hb; rwa [hPB] at this
        have hs16 : (⟨#[16]⟩ : ByteArray).size = 1 := rfl
        have hFP : ((⟨#[16]⟩ : ByteArray) ++ PB).size ≤ 12 := by rw [ByteArray.size_append]; omega
        clear hPB
        subst hF2
        by_cases ha0 : a = 0
        · rw [decide_eq_true ha0] at hE1 hE2
          go_wp2_with fail
          refine (HPV.out _).mono ?_
          rintro e w9 ⟨rfl, hb9⟩
          have HF9 : Hid (Below w3.heap.size w3 w9) := HFin.out.trans (hb9.mono HFin.out.size)
          clear hb9
          go_wp2_with fail
          go_ret
          exact ⟨rfl, HF9.out⟩
        · rw [decide_eq_false ha0] at hE1 hE2
          go_wp2_with fail
          refine (HPV.out _).mono ?_
          rintro e w9 ⟨rfl, hb9⟩
          have HF9 : Hid (Below w3.heap.size w3 w9) := HFin.out.trans (hb9.mono HFin.out.size)
          clear hb9
          go_wp2_with fail
          go_ret
          exact ⟨rfl, HF9.out⟩
end Go.Proofs.YtocealohiflheaaDoor.fnProtoParts
