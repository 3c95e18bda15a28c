/- SSZ: where parts begin; a series' bytes: contracts. -/
import Derived.Test.YtlhojfimdignoaaDoorS9a
import Derived.Test.YtlhojfimdignoaaDoorS9c
import Derived.Test.YtlhojfimdignoaaDoorS6c
import Derived.Test.YtlhojfimdignoaaDoorS7c
namespace Go.Proofs.YtlhojfimdignoaaDoor
open Go.RowKit Go.Sort
set_option linter.unusedVariables false
theorem slt_var {z : Int} (h : z < 0) : slt z = 4 := if_pos h
theorem slt_fix {z : Int} (h : ¬ z < 0) : (slt z : Int) = z := by unfold slt; rw [if_neg h]; omega
set_option maxHeartbeats 1000000 in
theorem slot_any (ts : List (Int × Int)) (f u a : Nat) (w : World) (S : Nat → Prop) (hf : f ≤ 7) (ht : TreeAt ts f w S u a) (hS : ∀ c, S c → c < w.heap.size) :
    Calls Tryd.prog 79 #[.agg #[], .pointer (some ⟨u, 0, none⟩)] w fun e w' => e = .returned (.int .i64 (slt (szT ts f a))) ∧ Below w.heap.size w w' := by
  have HC : Hid (∀ w', Below w.heap.size w w' → Calls Tryd.prog 72 #[.agg #[], .pointer (some ⟨u, 0, none⟩)] w' fun e w'' => e = .returned (.int .i64 (szT ts f a)) ∧ Below w'.heap.size w' w'') := fun w' hb => size_any ts f hf u a w' S (ht.belK hS hb) (fun c hc => by have := hS c hc; have := hb.size; omega)
  have HW : Hid (∀ w, Calls Tryd.prog 83 #[] w fun e w' => e = .returned (.int .i64 4) ∧ w' = w) := fun w => widthOf_u32_any w
  have hz := szT_small (ts := ts) (f := f) (a := a) hf
  by_cases hv : szT ts f a < 0
  · have HR : Hid (slt (szT ts f a) = 4) := slt_var hv
    have ez : szT ts f a = -1 := by omega
    rw [ez] at HC
    clear hz hv ez ht hS
    go_enter Tryd.func79, Tryd.ntmps79
    go_wp2_with fail
    refine (HC.out _ (bel1 _ _)).mono ?_
    rintro e w1 ⟨rfl, hb1⟩
    have HB1 : Hid (Below w.heap.size w w1) := (bel1 _ _).trans (hb1.mono (by simp))
    clear hb1
    go_wp2_with fail
    refine (HW.out _).mono ?_
    rintro e w2 ⟨rfl, rfl⟩
    go_wp2_with fail
    go_ret
    exact ⟨by rw [HR.out]; try rfl, HB1.out⟩
  · have HR : Hid ((slt (szT ts f a) : Int) = szT ts f a) := slt_fix hv
    obtain ⟨z, hze⟩ : ∃ z, szT ts f a = z := ⟨_, rfl⟩
    have HZ : Hid (szT ts f a = z) := hze
    rw [hze] at HC hz hv
    have hz1 : (z == -1) = false := beqF (by omega)
    have hz2 : (z != -1) = true := by rw [bne_iff_ne]; omega
    clear hze ht hS
    go_enter Tryd.func79, Tryd.ntmps79
    go_wp2_with fail
    refine (HC.out _ (bel1 _ _)).mono ?_
    rintro e w1 ⟨rfl, hb1⟩
    have HB1 : Hid (Below w.heap.size w w1) := (bel1 _ _).trans (hb1.mono (by simp))
    clear hb1
    go_wp2_with fail
    go_ret
    exact ⟨by rw [HR.out, HZ.out]; try rfl, HB1.out⟩
set_option maxHeartbeats 1000000 in
/-- The type of a series' j-th part: one place in memory, whatever has been laid since. -/
theorem part_c (ts : List (Int × Int)) (f u a : Nat) (w : World) (S : Nat → Prop) (M j : Nat) (h : TreeAt ts (f + 1) w S u a) (hS : ∀ c, S c → c < w.heap.size) (ha : a < ts.length) (hf : fitsN ts[a].1 ts[a].2 M = true) (hk : ts[a].1 = 5 ∨ ts[a].1 = 6 ∨ ts[a].1 = 7) (hj : j < M) (hj20 : j ≤ 20) :
    ∃ c, TreeAt ts f w S c (pl ts f a ts[a].1 M j) ∧ ∀ w', Below w.heap.size w w' → Calls Tryd.prog 47 #[.pointer (some ⟨u, 0, none⟩), .int .u64 j] w' fun e w'' => e = .returned (.pointer (some ⟨c, 0, none⟩)) ∧ w'' = w' := by
  obtain ⟨hu, _, e0, ad, cap, hok, _, c0, c1, c2, c3, c4, c5, h3, h4, h5⟩ := h
  have hul := hS u hu
  have hkl := kids_le hok
  have hex : ts[a].1 = 7 → kids ts[a].1 ts[a].2 = M := fun h7 => by
    unfold fitsN at hf
    rw [if_neg (by omega), if_neg (by omega), if_neg (by omega), if_pos (by omega)] at hf
    have := of_decide_eq_true hf
    unfold kids
    rw [if_neg (by omega), if_pos (by omega)]
    omega
  have hone : ts[a].1 ≠ 7 → kids ts[a].1 ts[a].2 = 1 := fun h7 => kids_one (by omega)
  by_cases h7 : ts[a].1 = 7
  · obtain ⟨g, rfl, hg, hp⟩ := h5.resolve_left (by rw [hex h7]; omega)
    obtain ⟨c, p, hp1, hc, htr⟩ := hp j (by rw [hex h7]; exact hj)
    have hgl := hS g hg
    have epl : pl ts f a ts[a].1 M j = p := by unfold pl; rw [if_pos h7, hp1]; rfl
    refine ⟨c, by rw [epl]; exact htr, fun w' hb => ?_⟩
    have d0 : w'.cell? ⟨u, 0, none⟩ = some (.int .i64 7) := by rw [hb.cell (p := ⟨u, 0, none⟩) hul, c0, h7]
    have d5 : w'.cell? ⟨u, 5, none⟩ = some (.slice (some ⟨g, 0, none⟩) M cap) := by rw [hb.cell (p := ⟨u, 5, none⟩) hul, c5, hex h7]
    have dg : w'.cell? ⟨g, j, none⟩ = some (.pointer (some ⟨c, 0, none⟩)) := by rw [hb.cell (p := ⟨g, j, none⟩) hgl]; exact hc
    rw [hex h7] at h3
    clear hp hc htr hp1 c0 c1 c2 c3 c4 c5 h5 hf hex hone hok epl hkl
    go_enter Tryd.func47, Tryd.ntmps47
    go_wp2_with fail
    go_ret
    exact ⟨rfl, rfl⟩
  · obtain ⟨g, rfl, hg, hp⟩ := h5.resolve_left (by rw [hone h7]; omega)
    obtain ⟨c, p, hp1, hc, htr⟩ := hp 0 (by rw [hone h7]; omega)
    cases hp1
    have hgl := hS g hg
    have epl : pl ts f a ts[a].1 M j = a + 1 := by unfold pl; rw [if_neg h7, if_neg (by omega)]
    refine ⟨c, by rw [epl]; exact htr, fun w' hb => ?_⟩
    have k7 : (ts[a].1 == 7) = false := beqF h7
    have k9 : (ts[a].1 == 9) = false := beqF (by omega)
    have d0 : w'.cell? ⟨u, 0, none⟩ = some (.int .i64 ts[a].1) := by rw [hb.cell (p := ⟨u, 0, none⟩) hul, c0]
    have d5 : w'.cell? ⟨u, 5, none⟩ = some (.slice (some ⟨g, 0, none⟩) 1 cap) := by rw [hb.cell (p := ⟨u, 5, none⟩) hul, c5, hone h7]
    have dg : w'.cell? ⟨g, 0, none⟩ = some (.pointer (some ⟨c, 0, none⟩)) := by rw [hb.cell (p := ⟨g, 0, none⟩) hgl]; exact hc
    rw [hone h7] at h3
    generalize ts[a].1 = k at *
    clear hp hc htr c0 c1 c2 c3 c4 c5 h5 hf hex hone hok epl hkl hk h7
    go_enter Tryd.func47, Tryd.ntmps47
    go_wp2_with fail
    go_ret
    exact ⟨rfl, rfl⟩
set_option maxRecDepth 100000 in
set_option maxHeartbeats 2000000 in
theorem front_any (ts : List (Int × Int)) (f u a : Nat) (w : World) (S : Nat → Prop) (M : Nat) (hf7 : f ≤ 7) (h : TreeAt ts (f + 1) w S u a) (hS : ∀ c, S c → c < w.heap.size) (ha : a < ts.length) (hf : fitsN ts[a].1 ts[a].2 M = true) (hk : ts[a].1 = 5 ∨ ts[a].1 = 6 ∨ ts[a].1 = 7) (hM : M ≤ 20) :
    Calls Tryd.prog 71 #[.agg #[], .pointer (some ⟨u, 0, none⟩), .int .i64 M] w fun e w' => e = .returned (.int .i64 (frt (fun j => slt (szT ts f (pl ts f a ts[a].1 M j))) M)) ∧ Below w.heap.size w w' := by
  have HP : Hid (∀ j, j < M → ∃ c, (∀ w', Below w.heap.size w w' → Calls Tryd.prog 47 #[.pointer (some ⟨u, 0, none⟩), .int .u64 j] w' fun e w'' => e = .returned (.pointer (some ⟨c, 0, none⟩)) ∧ w'' = w') ∧
      ∀ w', Below w.heap.size w w' → Calls Tryd.prog 79 #[.agg #[], .pointer (some ⟨c, 0, none⟩)] w' fun e w'' => e = .returned (.int .i64 (slt (szT ts f (pl ts f a ts[a].1 M j)))) ∧ Below w'.heap.size w' w'') := fun j hj => by
    obtain ⟨c, htc, hc⟩ := part_c ts f u a w S M j h hS ha hf hk hj (by omega)
    exact ⟨c, hc, fun w' hb => slot_any ts f c _ w' S hf7 (htc.belK hS hb) (fun c hc => by have := hS c hc; have := hb.size; omega)⟩
  obtain ⟨sl, hsl⟩ : ∃ sl : Nat → Nat, (fun j => slt (szT ts f (pl ts f a ts[a].1 M j))) = sl := ⟨_, rfl⟩
  have hsle : ∀ j, sl j ≤ 134217728 := fun j => by rw [← hsl]; exact slt_le hf7
  have HSL : Hid (∀ j, slt (szT ts f (pl ts f a ts[a].1 M j)) = sl j) := fun j => by rw [← hsl]
  rw [hsl]
  have HFR : Hid (∀ j, j ≤ M → frt sl j ≤ j * 134217728) := frt_le (n := M) (fun j _ => hsle j)
  clear h hS hf hk hsl
  go_enter Tryd.func71, Tryd.ntmps71
  go_wp2_with fail
  go_loopg [7, 11] M (fun gk s i wr => ∃ j : Nat, j + gk = M ∧ i = .int .u64 j ∧ s = .int .i64 (frt sl j : Nat) ∧ Below (w.alloc (.cells #[] 56)).heap.size (w.alloc (.cells #[] 56)) wr)
  case atStart => exact ⟨0, by omega, rfl, rfl, Below.refl _ _⟩
  case round =>
    obtain ⟨j, hj', rfl, rfl, hbel⟩ := hrel
    have HJ : Hid (j + gk = M) := hj'
    have hj : j ≤ M := by omega
    have HBL : Hid (Below (w.alloc (.cells #[] 56)).heap.size (w.alloc (.cells #[] 56)) wr) := hbel
    have HBW : Hid (Below w.heap.size w wr) := (bel1 _ _).trans (hbel.mono (by simp))
    have hfr := HFR.out j hj
    have hfr2 : j * 134217728 ≤ 20 * 134217728 := Nat.mul_le_mul_right _ (by omega)
    clear hj'
    by_cases hjM : j < M
    · obtain ⟨c, hpc, hsc⟩ := HP.out j hjM
      rw [HSL.out] at hsc
      have HPC : Hid (∀ w', Below w.heap.size w w' → Calls Tryd.prog 47 #[.pointer (some ⟨u, 0, none⟩), .int .u64 j] w' fun e w'' => e = .returned (.pointer (some ⟨c, 0, none⟩)) ∧ Below w'.heap.size w' w'') := fun w' hb => (hpc w' hb).mono fun e w'' ⟨h1, h2⟩ => ⟨h1, by rw [h2]; exact Below.refl _ _⟩
      have HSC : Hid (∀ w', Below w.heap.size w w' → Calls Tryd.prog 79 #[.agg #[], .pointer (some ⟨c, 0, none⟩)] w' fun e w'' => e = .returned (.int .i64 (sl j)) ∧ Below w'.heap.size w' w'') := hsc
      have HBR : Hid (∀ d os, Below w.heap.size w (grow (redrawn wr d) os)) := fun d os => HBW.out.trans ((below_regrown _ d os).mono HBW.out.size)
      have HBE : Hid (∀ d os, Below (w.alloc (.cells #[] 56)).heap.size (w.alloc (.cells #[] 56)) (grow (redrawn wr d) os)) := fun d os => HBL.out.trans ((below_regrown _ d os).mono HBL.out.size)
      have hsj := hsle j
      have HFS : Hid (frt sl (j + 1) = frt sl j + sl j) := rfl
      generalize sl j = sj at *
      generalize frt sl j = fj at *
      clear hpc hsc hsle hbel
      go_wp2_with fail
      refine wp_region_quiet_below (by kernel_rfl) (by kernel_rfl) ?_
      repeat (go_big_quiet_step (first | (go_at_call 47; exact Calls.regrown_of (HPC.out _ (HBR.out _ _))) | (go_at_call 79; exact Calls.regrown_of (HSC.out _ (HBR.out _ _)))))
      refine wpQuiet_nil ?_
      intro w6 hw'
      obtain ⟨⟨dq, osq⟩, hw''⟩ := hw'
      have HB6 : Hid (Below (w.alloc (.cells #[] 56)).heap.size (w.alloc (.cells #[] 56)) w6) := by rw [hw'']; exact HBE.out _ _
      clear hw''
      go_wp2_with fail
      go_roundg (gk - 1)
      case rel => exact ⟨j + 1, by have := HJ.out; omega, by go_num, by rw [HFS.out]; go_num, HB6.out⟩
      case measure => have := HJ.out; omega
    · have ej : j = M := by omega
      have HF : Hid (frt sl M = frt sl j) := by rw [ej]; exact rfl
      clear hbel ej
      generalize frt sl j = fj at *
      go_wp2_with fail
      go_ret
      exact ⟨by rw [HF.out]; try rfl, HBW.out⟩
end Go.Proofs.YtlhojfimdignoaaDoor
