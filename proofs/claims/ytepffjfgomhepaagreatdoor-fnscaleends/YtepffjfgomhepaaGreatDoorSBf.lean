/- A choice taken off a text: contract, out of the one of a value. -/
import Derived.Test.YtepffjfgomhepaaGreatDoorSBe
import Derived.Test.YtepffjfgomhepaaGreatDoorSBq
import Derived.Test.YtepffjfgomhepaaGreatDoorS3c
import Derived.Test.YtepffjfgomhepaaGreatDoorSAa
namespace Go.Proofs.YtepffjfgomhepaaGreatDoor
open Go.RowKit Go.Sort
set_option linter.unusedVariables false
/-- What take leaves: an error is that of T and z. -/
def TkPost (get : List UInt8 → Nat × Nat × Bool) (T : TypeId) (z : Value) (ts : List (Int × Int)) (f a : Nat) (S0 : Nat → Prop) (b : ByteArray) (w : World) (e : Ending) (w' : World) : Prop :=
  Below w.heap.size w w' ∧
  ((scD get ts f a b.data.toList = none ∧ ∃ x y, (x = .nilIface ∨ ∃ T z, x = .iface T z) ∧ e = .returned (.tuple #[x, .string y, .iface T z])) ∨
   (∃ l m T' y, scD get ts f a b.data.toList = some (l, m) ∧ m ≤ b.size ∧ e = .returned (.tuple #[.iface T' y, .string (b.extract m b.size), .nilIface]) ∧ DAt ts f w' (fun c => S0 c ∨ (w.heap.size ≤ c ∧ c < w'.heap.size)) (.iface T' y) a l))
/-- The contract of take, f levels being left. -/
def TkHyp_sc (T : TypeId) (z : Value) (ts : List (Int × Int)) (f : Nat) : Prop :=
  ∀ (a u : Nat) (S0 : Nat → Prop) (b : ByteArray) (w : World), TreeAt ts f w S0 u a → (∀ c, S0 c → c < w.heap.size) → b.size ≤ 1048576 → EFv T z w →
    Calls Tryz.prog 136 #[.agg #[.func (.func 35) #[] #[], .func (.func 36) #[] #[]], .pointer (some ⟨u, 0, none⟩), .string b] w fun e w' => TkPost getCompact T z ts f a S0 b w e w'
set_option maxRecDepth 100000 in
set_option maxHeartbeats 4000000 in
theorem takeChoice_sc (T : TypeId) (z : Value) (ts : List (Int × Int)) (f : Nat) (hp : TkHyp_sc T z ts f) (a u : Nat) (S0 : Nat → Prop) (b : ByteArray) (w : World) (ht : TreeAt ts (f + 1) w S0 u a) (hS0 : ∀ c, S0 c → c < w.heap.size) (ha : a < ts.length) (hk : ts[a].1 = 8 ∨ ts[a].1 = 9) (hb : b.size ≤ 1048576) (he : EFv T z w) :
    Calls Tryz.prog 139 #[.agg #[.func (.func 35) #[] #[], .func (.func 36) #[] #[]], .pointer (some ⟨u, 0, none⟩), .string b] w fun e w' => TkPost getCompact T z ts (f + 1) a S0 b w e w' := by
  obtain ⟨_, e0, ad0, cap0, hok, hit, hu, c0, c1, _⟩ := ht.openT
  have hul := hS0 u hu
  have hw1 : wid ts[a].1 ts[a].2 = 1 := if_neg (by omega)
  have hwd : wd ts[a].1 ts[a].2 = 1 := hw1
  have hkk : ts[a].1 = 1 ∨ ts[a].1 = 2 ∨ ts[a].1 = 8 ∨ ts[a].1 = 9 := by omega
  have hll := lst_len b
  have HT : Hid (TreeAt ts (f + 1) w S0 u a) := ht
  have HS : Hid (∀ c, S0 c → c < w.heap.size) := hS0
  have HP : Hid (TkHyp_sc T z ts f) := hp
  have HE : Hid (EFv T z w) := he
  have HKK : Hid (ts[a].1 = 8 ∨ ts[a].1 = 9) := hk
  have r0 := cells_re3 (cell_1i c0 hul (.cells #[.func (.func 35) #[] #[], .func (.func 36) #[] #[]] 48))
  have r1 := cells_re3 (cell_1i c1 hul (.cells #[.func (.func 35) #[] #[], .func (.func 36) #[] #[]] 48))
  have p0 := part00_re (heap_alloc_new w (.cells #[.func (.func 35) #[] #[], .func (.func 36) #[] #[]] 48))
  have t0 := cells_re3 (w := (w.alloc (.cells #[.func (.func 35) #[] #[], .func (.func 36) #[] #[]] 48))) (a := ⟨w.heap.size, 0, none⟩) (v := .func (.func 35) #[] #[]) (by simp [go_sem])
  have t1 := cells_re3 (w := (w.alloc (.cells #[.func (.func 35) #[] #[], .func (.func 36) #[] #[]] 48))) (a := ⟨w.heap.size, 1, none⟩) (v := .func (.func 36) #[] #[]) (by simp [go_sem])
  have HBR : Hid (∀ d os, Below w.heap.size w (grow (redrawn (w.alloc (.cells #[.func (.func 35) #[] #[], .func (.func 36) #[] #[]] 48)) d) os)) := fun d os => (bel1 _ _).trans ((below_regrown _ d os).mono (by simp))
  by_cases hn : b.size < wid ts[a].1 ts[a].2 ∨ fitsN ts[a].1 ts[a].2 (leV (b.data.toList.take (wid ts[a].1 ts[a].2))) = false
  · have HN : Hid (scD getCompact ts (f + 1) a b.data.toList = none) := scD_numNo ha hkk (hn.imp (fun h => by rw [hll]; exact h) id)
    have HTN : Hid (∀ w', Below w.heap.size w w' → Calls Tryz.prog 137 #[.agg #[], .agg #[.int .i64 ts[a].1, .int .i64 ts[a].2], .string b] w' fun e w'' => e = .returned (.tuple #[.int .u64 0, .string ⟨#[]⟩, .iface T z]) ∧ Below w'.heap.size w' w'') := fun w' hbw => takeNumber_no _ _ b w' hok (by omega) hn T z (he.below hbw)
    clear ht hS0 hp he hk hkk hok hit hn hw1 hwd c0 c1 t0 t1
    generalize ts[a].1 = k at r0 HTN
    generalize ts[a].2 = n at r1 HTN
    go_enter Tryz.func139, Tryz.ntmps139
    go_wp2_with fail
    refine wp_region_quiet_below (by kernel_rfl) (by kernel_rfl) ?_
    repeat (go_big_quiet_step (exact Calls.regrown_of (HTN.out _ (HBR.out _ _))))
    refine wpQuiet_nil ?_
    intro w1 hw'
    obtain ⟨⟨dq, osq⟩, hw''⟩ := hw'
    have HB1 : Hid (Below w.heap.size w w1) := by rw [hw'']; exact HBR.out _ _
    clear hw'' r0 r1 p0
    go_wp2_with fail
    go_ret3
    exact ⟨HB1.out, .inl ⟨HN.out, _, _, .inl rfl, rfl⟩⟩
  · have hl1 : wid ts[a].1 ts[a].2 ≤ b.size := by omega
    have hfn : fitsN ts[a].1 ts[a].2 (leV (b.data.toList.take (wid ts[a].1 ts[a].2))) = true := by
      cases h : fitsN ts[a].1 ts[a].2 (leV (b.data.toList.take (wid ts[a].1 ts[a].2))) with
      | true => rfl
      | false => exact absurd (.inr h) hn
    have HTN : Hid (∀ w', Below w.heap.size w w' → Calls Tryz.prog 137 #[.agg #[], .agg #[.int .i64 ts[a].1, .int .i64 ts[a].2], .string b] w' fun e w'' => e = .returned (.tuple #[.int .u64 (leV (b.data.toList.take (wid ts[a].1 ts[a].2)) : Nat), .string (b.extract (wid ts[a].1 ts[a].2) b.size), .nilIface]) ∧ Below w'.heap.size w' w'') := fun w' hbw => takeNumber_yes _ _ b w' hok (by omega) hl1 hfn
    have hone : oneD getCompact ts[a].1 ts[a].2 b.data.toList = some (⟨ts[a].1, leV (b.data.toList.take 1), ⟨#[]⟩⟩, 1) := by rw [oneD_num hkk, hwd, if_pos (by omega)]
    rw [hw1] at HTN hfn hl1
    have hm4 : leV (b.data.toList.take 1) < 256 := by
      have h2 := leV_lt (b.data.toList.take 1)
      have h3 : (b.data.toList.take 1).length = 1 := by simp; omega
      rw [h3] at h2; exact h2
    obtain ⟨m, hmE⟩ : ∃ m, leV (b.data.toList.take 1) = m := ⟨_, rfl⟩
    rw [hmE] at HTN hfn hone hm4
    have hfi : fitsI ts[a].1 ts[a].2 ⟨ts[a].1, m, ⟨#[]⟩⟩ = true := by rw [fitsI_num (by omega) (by omega)]; exact hfn
    have HSD : Hid (scD getCompact ts (f + 1) a b.data.toList = (partsD (scD getCompact ts f) (pl ts f a ts[a].1 m) b.data.toList 1 (np ts[a].1 m)).map fun y => (⟨ts[a].1, m, ⟨#[]⟩⟩ :: y.1.flatten, y.2)) := scD_one ha hone hfi
    have HFI : Hid (fitsI ts[a].1 ts[a].2 ⟨ts[a].1, m, ⟨#[]⟩⟩ = true) := hfi
    have HFN : Hid (fitsN ts[a].1 ts[a].2 m = true) := hfn
    by_cases hz : ts[a].1 = 8 ∧ m = 0
    · have HN : Hid (scD getCompact ts (f + 1) a b.data.toList = some ([⟨ts[a].1, 0, ⟨#[]⟩⟩], 1)) := by
        show _ = _
        rw [← hz.2]
        exact scD_leaf ha hone hfi (by unfold np; rw [if_pos (by omega)]; exact hz.2)
      have HNP : Hid (np ts[a].1 0 = 0) := by show np _ 0 = 0; unfold np; rw [if_pos (by omega)]
      have HCN : Hid (∀ w', Below w.heap.size w w' → Calls Tryz.prog 100 #[.pointer (some ⟨u, 0, none⟩), .int .u64 0] w' fun e w'' => e = .returned (.pointer none) ∧ w'' = w') := fun w' hbw => chosen_no ts f u a w' S0 (ht.bel hS0 hbw) ha hz.1
      have hz2 := hz.2
      subst hz2
      clear ht hS0 hp he hk hkk hok hit hn hw1 hwd c0 c1 t0 t1 hone hfi hfn hmE hz HSD
      generalize hkE : ts[a].1 = k at r0 HTN
      generalize ts[a].2 = n at r1 HTN
      clear hkE
      go_enter Tryz.func139, Tryz.ntmps139
      go_wp2_with fail
      refine wp_region_quiet_below (by kernel_rfl) (by kernel_rfl) ?_
      repeat (go_big_quiet_step (exact Calls.regrown_of (HTN.out _ (HBR.out _ _))))
      refine wpQuiet_nil ?_
      intro w1 hw'
      obtain ⟨⟨dq, osq⟩, hw''⟩ := hw'
      have HB1 : Hid (Below w.heap.size w w1) := by rw [hw'']; exact HBR.out _ _
      clear hw'' r0 r1 p0
      go_wp2_with fail
      refine (HCN.out _ HB1.out).mono ?_
      rintro e w2 ⟨rfl, rfl⟩
      go_wp2_with fail
      go_ret3
      exact ⟨HB1.out, .inr ⟨_, 1, _, _, HN.out, hl1, rfl, u, ⟨_, 0, ⟨#[]⟩⟩, ha, (HT.out.bel HS.out HB1.out).keep (fun c hc => .inl hc) (fun _ _ => rfl), HFI.out, by show (0 : Nat) < _; omega, .inr (.inr (.inr ⟨HKK.out, .nilIface, [], rfl, rfl, .inl ⟨HNP.out, rfl, rfl⟩⟩))⟩⟩
    · have hnp : np ts[a].1 m = 1 := by
        unfold np
        unfold fitsN at hfn
        rcases hk with h8 | h9
        · rw [if_pos (by omega)]
          rw [if_neg (by omega), if_pos (by omega)] at hfn
          have := of_decide_eq_true hfn
          have : m ≠ 0 := fun e => hz ⟨h8, e⟩
          omega
        · rw [if_neg (by omega), if_pos h9]
      have HNP : Hid (np ts[a].1 m = 1) := hnp
      have HCH : Hid (∀ w', Below w.heap.size w w' → Calls Tryz.prog 100 #[.pointer (some ⟨u, 0, none⟩), .int .u64 m] w' fun e w'' => (∃ c, e = .returned (.pointer (some ⟨c, 0, none⟩)) ∧ TreeAt ts f w' S0 c (pl ts f a ts[a].1 m 0)) ∧ w'' = w') := fun w' hbw => chosen_any ts f u a w' S0 m (ht.bel hS0 hbw) ha hk hfn hz (by omega)
      have hsR : (b.extract 1 b.size).size ≤ 1048576 := by rw [ex_sz]; omega
      have HEX : Hid (∀ q, (b.extract 1 b.size).extract q (b.extract 1 b.size).size = b.extract (1 + q) b.size) := fun q => ex_ex b 1 q
      have HLI : Hid ((b.extract 1 b.size).data.toList = b.data.toList.drop 1) := ex_list b 1
      have HSZ : Hid ((b.extract 1 b.size).size = b.size - 1) := ex_sz b 1
      obtain ⟨R, hR⟩ : ∃ R, b.extract 1 b.size = R := ⟨_, rfl⟩
      rw [hR] at HTN hsR HEX HLI HSZ
      have hmi : (m : Int) < 18446744073709551616 := by omega
      clear ht hS0 hp he hk hkk hok hit hn hw1 hwd c0 c1 hone hfi hfn hmE hz hR hnp
      generalize hkE : ts[a].1 = k at r0 HTN
      generalize ts[a].2 = n at r1 HTN
      clear hkE
      go_enter Tryz.func139, Tryz.ntmps139
      go_wp2_with fail
      refine wp_region_quiet_below (by kernel_rfl) (by kernel_rfl) ?_
      repeat (go_big_quiet_step (exact Calls.regrown_of (HTN.out _ (HBR.out _ _))))
      refine wpQuiet_nil ?_
      intro w1 hw'
      obtain ⟨⟨dq, osq⟩, hw''⟩ := hw'
      have HB1 : Hid (Below w.heap.size w w1) := by rw [hw'']; exact HBR.out _ _
      have x0 : w1.cell? ⟨w.heap.size, 0, none⟩ = some (.func (.func 35) #[] #[]) := by rw [hw'']; exact t0 _ _
      have x1 : w1.cell? ⟨w.heap.size, 1, none⟩ = some (.func (.func 36) #[] #[]) := by rw [hw'']; exact t1 _ _
      clear hw'' r0 r1 p0 t0 t1
      go_wp2_with fail
      refine (HCH.out _ HB1.out).mono ?_
      rintro e w2 ⟨⟨c, rfl, htc⟩, rfl⟩
      have HTC : Hid (TreeAt ts f w2 S0 c (pl ts f a ts[a].1 m 0)) := htc
      clear htc
      go_wp2_with fail
      refine (HP.out _ c S0 R w2 HTC.out (fun c hc => by have := HS.out c hc; have := HB1.out.size; omega) hsR (HE.out.below HB1.out)).mono ?_
      rintro e w3 ⟨hb3, ⟨hno, x, y, hx, rfl⟩ | ⟨l, q, T', y, hsd, hq, rfl, hd⟩⟩
      · have HB3 : Hid (Below w.heap.size w w3) := HB1.out.trans (hb3.mono HB1.out.size)
        have HN : Hid (scD getCompact ts (f + 1) a b.data.toList = none) := by
          show _ = _
          rw [HSD.out, HNP.out, partsD_one, ← HLI.out, hno]; rfl
        clear hb3 hno x0 x1
        rcases hx with rfl | ⟨T1, z1, rfl⟩
        all_goals
          go_wp2_with fail
          go_ret3
          exact ⟨HB3.out, .inl ⟨HN.out, _, _, .inr ⟨_, _, rfl⟩, rfl⟩⟩
      · have HB3 : Hid (Below w.heap.size w w3) := HB1.out.trans (hb3.mono HB1.out.size)
        have HN : Hid (scD getCompact ts (f + 1) a b.data.toList = some (⟨ts[a].1, m, ⟨#[]⟩⟩ :: l, 1 + q)) := by
          show _ = _
          rw [HSD.out, HNP.out, partsD_one, ← HLI.out, hsd]
          simp
        have HQ : Hid (1 + q ≤ b.size) := by show _ ≤ _; have := HSZ.out; omega
        have HD : Hid (DAt ts f w3 (fun c => S0 c ∨ (w2.heap.size ≤ c ∧ c < w3.heap.size)) (.iface T' y) (pl ts f a ts[a].1 m 0) l) := hd
        have HB23 : Hid (Below w2.heap.size w2 w3) := hb3
        clear hb3 hsd hq hd x0 x1
        go_wp2_with fail
        go_ret3
        exact ⟨HB3.out, .inr ⟨_, 1 + q, _, _, HN.out, HQ.out, by rw [← HEX.out]; rfl, u, ⟨_, m, ⟨#[]⟩⟩, ha, (HT.out.bel HS.out HB3.out).keep (fun c hc => .inl hc) (fun _ _ => rfl), HFI.out, by show m < _; omega, .inr (.inr (.inr ⟨HKK.out, .iface T' y, l, rfl, rfl, .inr ⟨by show 0 < np _ m; rw [HNP.out]; omega, HD.out.keep (fun c hc => hc.imp id (fun h => ⟨by have := HB1.out.size; omega, h.2⟩)) (fun _ _ => rfl)⟩⟩))⟩⟩
end Go.Proofs.YtepffjfgomhepaaGreatDoor
