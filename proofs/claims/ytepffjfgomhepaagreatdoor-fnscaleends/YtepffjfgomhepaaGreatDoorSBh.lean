/- A value taken off a text: contract. -/
import Derived.Test.YtepffjfgomhepaaGreatDoorSBg
namespace Go.Proofs.YtepffjfgomhepaaGreatDoor
open Go.RowKit Go.Sort
set_option linter.unusedVariables false
theorem TkPost.up {get : List UInt8 → Nat × Nat × Bool} {T : TypeId} {z : Value} {ts : List (Int × Int)} {f a : Nat} {S0 : Nat → Prop} {b : ByteArray} {w w1 : World} {e : Ending} {w' : World} (hb : Below w.heap.size w w1) (h : TkPost get T z ts f a S0 b w1 e w') : TkPost get T z ts f a S0 b w e w' := by
  obtain ⟨h1, h2⟩ := h
  refine ⟨hb.trans (h1.mono hb.size), h2.imp id ?_⟩
  rintro ⟨l, m, T', y, q1, q2, q3, q4⟩
  exact ⟨l, m, T', y, q1, q2, q3, q4.keep (fun c hc => hc.imp id (fun h => ⟨by have := hb.size; omega, h.2⟩)) (fun _ _ => rfl)⟩
theorem TkPost.form {get : List UInt8 → Nat × Nat × Bool} {T : TypeId} {z : Value} {ts : List (Int × Int)} {f a : Nat} {S0 : Nat → Prop} {b : ByteArray} {w : World} {e : Ending} {w' : World} (h : TkPost get T z ts f a S0 b w e w') : ∃ x y er, e = .returned (.tuple #[x, .string y, er]) := by
  obtain ⟨_, ⟨_, x, y, _, h⟩ | ⟨l, m, T', y, _, _, h, _⟩⟩ := h
  · exact ⟨_, _, _, h⟩
  · exact ⟨_, _, _, h⟩
theorem takeBytes_any_sc (T : TypeId) (z : Value) (ts : List (Int × Int)) (f a u : Nat) (S0 : Nat → Prop) (b : ByteArray) (w : World) (ht : TreeAt ts (f + 1) w S0 u a) (hS0 : ∀ c, S0 c → c < w.heap.size) (ha : a < ts.length) (hk : ts[a].1 = 3 ∨ ts[a].1 = 4) (hb : b.size ≤ 1048576) (he : EFv T z w) :
    Calls Tryz.prog 138 #[.agg #[.func (.func 35) #[] #[], .func (.func 36) #[] #[]], .pointer (some ⟨u, 0, none⟩), .string b] w fun e w' => TkPost getCompact T z ts (f + 1) a S0 b w e w' := by
  obtain ⟨_, e0, ad0, cap0, hok, hit, hu, c0, c1, _⟩ := ht.openT
  have hul := hS0 u hu
  have hll := lst_len b
  have hn200 : 0 ≤ ts[a].2 ∧ ts[a].2 ≤ 200 := by have := hok; simp only [tyOk, decide_eq_true_eq] at this; omega
  have bad : scD getCompact ts (f + 1) a b.data.toList = none → ∀ e w', ((∃ y, e = .returned (.tuple #[.nilIface, .string y, .iface T z])) ∧ Below w.heap.size w w') → TkPost getCompact T z ts (f + 1) a S0 b w e w' := by
    rintro hno e w' ⟨⟨y, rfl⟩, hb2⟩
    exact ⟨hb2, .inl ⟨hno, _, _, .inl rfl, rfl⟩⟩
  have good : ∀ (h m : Nat), h + m ≤ b.size → oneD getCompact ts[a].1 ts[a].2 b.data.toList = some (⟨ts[a].1, 0, (b.extract h b.size).extract 0 m⟩, h + m) → fitsS ts[a].1 ts[a].2 m = true → ∀ e w', (e = .returned (.tuple #[.iface 139 (.agg #[.pointer (some ⟨u, 0, none⟩), .string ((b.extract h b.size).extract 0 m)]), .string ((b.extract h b.size).extract m (b.extract h b.size).size), .nilIface]) ∧ Below w.heap.size w w') → TkPost getCompact T z ts (f + 1) a S0 b w e w' := by
    rintro h m hhm hone hfs e w' ⟨rfl, hb2⟩
    have hsz : ((b.extract h b.size).extract 0 m).size = m := by rw [extract_size _ _ (by rw [ex_sz]; omega)]
    have hfi : fitsI ts[a].1 ts[a].2 ⟨ts[a].1, 0, (b.extract h b.size).extract 0 m⟩ = true := by rw [fitsI_str hk, hsz]; exact hfs
    refine ⟨hb2, .inr ⟨_, h + m, _, _, scD_leaf ha hone hfi (by unfold np; rw [if_neg (by omega), if_neg (by omega)]), hhm, by rw [ex_ex], ?_⟩⟩
    exact ⟨u, ⟨ts[a].1, 0, (b.extract h b.size).extract 0 m⟩, ha, (ht.bel hS0 hb2).keep (fun c hc => .inl hc) (fun _ _ => rfl), hfi, by show (0 : Nat) < _; omega, .inr (.inl ⟨hk, rfl, rfl⟩)⟩
  rcases hk with hk3 | hk4
  · cases hg2 : (getCompact b.data.toList).2.2 with
    | false =>
      have hno : scD getCompact ts (f + 1) a b.data.toList = none := scD_no ha (by unfold oneD; rw [if_neg (by omega), if_pos hk3, if_neg (by rw [hg2]; simp)])
      exact (takeBytes_err_sc u _ _ b w c0 c1 hul T z (fun w' hbw => takeCount_no_sc _ _ b w' (.inl hk3) hb hg2 T z (he.below hbw))).mono (bad hno)
    | true =>
      obtain ⟨m, h, hg⟩ : ∃ m h, getCompact b.data.toList = (m, h, true) := ⟨_, _, by rw [← hg2]⟩
      obtain ⟨b1, b2, b3⟩ := cntGet_sc.back _ _ _ hg
      rw [hll] at b2
      have htc : ∀ w', Below w.heap.size w w' → Calls Tryz.prog 141 #[.agg #[.func (.func 35) #[] #[], .func (.func 36) #[] #[]], .agg #[.int .i64 ts[a].1, .int .i64 ts[a].2], .string b] w' fun e w'' => e = .returned (.tuple #[.int .u64 m, .string (b.extract h b.size), .nilIface]) ∧ Below w'.heap.size w' w'' := fun w' hbw => takeCount_yes_sc _ _ m h b w' (.inl hk3) hb hg b2
      have hRs : (b.extract h b.size).size = b.size - h := ex_sz b h
      by_cases hm : (b.extract h b.size).size < m
      · have hno : scD getCompact ts (f + 1) a b.data.toList = none := scD_no ha (by unfold oneD; rw [if_neg (by omega), if_pos hk3, hg, if_neg (by simp only [hll]; omega)])
        exact (takeBytes_short_sc u _ _ b w c0 c1 hul m _ (by omega) hm b3 T z he htc).mono (bad hno)
      · cases hf : fitsS ts[a].1 ts[a].2 m with
        | false =>
          have hmn : ¬ (m : Int) ≤ ts[a].2 := by
            unfold fitsS at hf
            rw [if_pos hk3] at hf
            exact of_decide_eq_false hf
          have hno : scD getCompact ts (f + 1) a b.data.toList = none := scD_no ha (by unfold oneD; rw [if_neg (by omega), if_pos hk3, hg, if_neg (by simp only []; omega)])
          exact (takeBytes_long_sc u _ _ b w c0 c1 hul m _ hok (by omega) (by omega) hf T z he htc).mono (bad hno)
        | true =>
          have hmn : (m : Int) ≤ ts[a].2 := by
            unfold fitsS at hf
            rw [if_pos hk3] at hf
            exact of_decide_eq_true hf
          refine (takeBytes_yes_sc u m _ _ b _ w c0 c1 hul hok (by omega) (by omega) hf htc).mono (good h m (by omega) ?_ hf)
          unfold oneD
          rw [if_neg (by omega), if_pos hk3, hg, if_pos ⟨rfl, by simp only []; omega, by simp only [hll]; omega⟩]
          simp only [ex_mid]
  · obtain ⟨N, hN⟩ := Int.eq_ofNat_of_zero_le hn200.1
    have htc : ∀ w', Below w.heap.size w w' → Calls Tryz.prog 141 #[.agg #[.func (.func 35) #[] #[], .func (.func 36) #[] #[]], .agg #[.int .i64 ts[a].1, .int .i64 ts[a].2], .string b] w' fun e w'' => e = .returned (.tuple #[.int .u64 N, .string (b.extract 0 b.size), .nilIface]) ∧ Below w'.heap.size w' w'' := fun w' hbw => by
      rw [ex_zero, hN]
      exact takeCount_flat_sc _ N b w' (by omega) (by omega)
    have hRs : (b.extract 0 b.size).size = b.size := by rw [ex_zero]
    by_cases hm : (b.extract 0 b.size).size < N
    · have hno : scD getCompact ts (f + 1) a b.data.toList = none := scD_no ha (by unfold oneD; rw [if_neg (by omega), if_neg (by omega), if_pos hk4, if_neg (by rw [hN, hll]; simp only [Int.toNat_natCast]; omega)])
      exact (takeBytes_short_sc u _ _ b w c0 c1 hul N _ (by omega) hm (by omega) T z he htc).mono (bad hno)
    · have hf : fitsS ts[a].1 ts[a].2 N = true := by
        unfold fitsS
        rw [if_neg (by omega), if_pos hk4, hN]
        simp
      refine (takeBytes_yes_sc u N _ _ b _ w c0 c1 hul hok (by omega) (by omega) hf htc).mono (good 0 N (by omega) ?_ hf)
      unfold oneD
      rw [if_neg (by omega), if_neg (by omega), if_pos hk4, if_pos (by rw [hN, hll]; simp only [Int.toNat_natCast]; omega), hN]
      simp only [Int.toNat_natCast, ex_head, ex_zero, Nat.zero_add]
theorem takeSeries_any_sc (T : TypeId) (z : Value) (ts : List (Int × Int)) (f : Nat) (hp : TkHyp_sc T z ts f) (a u : Nat) (S0 : Nat → Prop) (b : ByteArray) (w : World) (ht : TreeAt ts (f + 1) w S0 u a) (hS0 : ∀ c, S0 c → c < w.heap.size) (ha : a < ts.length) (hk : ts[a].1 = 5 ∨ ts[a].1 = 6 ∨ ts[a].1 = 7) (hb : b.size ≤ 1048576) (he : EFv T z w) :
    Calls Tryz.prog 140 #[.agg #[.func (.func 35) #[] #[], .func (.func 36) #[] #[]], .pointer (some ⟨u, 0, none⟩), .string b] w fun e w' => TkPost getCompact T z ts (f + 1) a S0 b w e w' := by
  obtain ⟨_, e0, ad0, cap0, hok, hit, hu, c0, c1, _⟩ := ht.openT
  have hul := hS0 u hu
  have hll := lst_len b
  have hn200 : 0 ≤ ts[a].2 ∧ ts[a].2 ≤ 200 := by have := hok; simp only [tyOk, decide_eq_true_eq] at this; omega
  by_cases hk5 : ts[a].1 = 5
  · cases hg2 : (getCompact b.data.toList).2.2 with
    | false =>
      have hno : scD getCompact ts (f + 1) a b.data.toList = none := scD_no ha (by unfold oneD; rw [if_neg (by omega), if_neg (by omega), if_neg (by omega), if_pos hk5, if_neg (by rw [hg2]; simp)])
      exact takeSeries_err_sc T z ts f a u _ _ S0 b w c0 c1 hul hno (fun w' hbw => takeCount_no_sc _ _ b w' (.inr hk5) hb hg2 T z (he.below hbw))
    | true =>
      obtain ⟨m, h, hg⟩ : ∃ m h, getCompact b.data.toList = (m, h, true) := ⟨_, _, by rw [← hg2]⟩
      obtain ⟨b1, b2, b3⟩ := cntGet_sc.back _ _ _ hg
      rw [hll] at b2
      have htc : ∀ w', Below w.heap.size w w' → Calls Tryz.prog 141 #[.agg #[.func (.func 35) #[] #[], .func (.func 36) #[] #[]], .agg #[.int .i64 ts[a].1, .int .i64 ts[a].2], .string b] w' fun e w'' => e = .returned (.tuple #[.int .u64 m, .string (b.extract h b.size), .nilIface]) ∧ Below w'.heap.size w' w'' := fun w' hbw => takeCount_yes_sc _ _ m h b w' (.inr hk5) hb hg b2
      have hone : oneD getCompact ts[a].1 ts[a].2 b.data.toList = some (⟨ts[a].1, m, ⟨#[]⟩⟩, h) := by unfold oneD; rw [if_neg (by omega), if_neg (by omega), if_neg (by omega), if_pos hk5, hg]; simp
      cases hf : fitsN ts[a].1 ts[a].2 m with
      | false =>
        exact takeSeries_bad_sc T z ts f a u m _ _ _ S0 b w c0 c1 hul hok b3 hf he (scD_bad ha hone (by rw [fitsI_num (by omega) (by omega)]; exact hf)) htc
      | true => exact takeSeries_yes_sc T z ts f hp a u m h _ S0 b w ht hS0 ha hk hb he hone b2 rfl hf htc
  · obtain ⟨N, hN⟩ := Int.eq_ofNat_of_zero_le hn200.1
    have htc : ∀ w', Below w.heap.size w w' → Calls Tryz.prog 141 #[.agg #[.func (.func 35) #[] #[], .func (.func 36) #[] #[]], .agg #[.int .i64 ts[a].1, .int .i64 ts[a].2], .string b] w' fun e w'' => e = .returned (.tuple #[.int .u64 N, .string b, .nilIface]) ∧ Below w'.heap.size w' w'' := fun w' hbw => by
      rw [hN]
      exact takeCount_flat_sc _ N b w' (by omega) (by omega)
    have hone : oneD getCompact ts[a].1 ts[a].2 b.data.toList = some (⟨ts[a].1, N, ⟨#[]⟩⟩, 0) := by unfold oneD; rw [if_neg (by omega), if_neg (by omega), if_neg (by omega), if_neg hk5, hN]; rfl
    have hf : fitsN ts[a].1 ts[a].2 N = true := by
      unfold fitsN
      rw [if_neg (by omega), if_neg (by omega), if_neg (by omega), if_pos (by omega), hN]
      simp
    exact takeSeries_yes_sc T z ts f hp a u N 0 _ S0 b w ht hS0 ha hk hb he hone (by omega) (ex_zero b).symm hf htc
set_option maxRecDepth 100000 in
set_option maxHeartbeats 4000000 in
theorem take_num_sc (T : TypeId) (z : Value) (ts : List (Int × Int)) (f a u : Nat) (S0 : Nat → Prop) (b : ByteArray) (w : World) (ht : TreeAt ts (f + 1) w S0 u a) (hS0 : ∀ c, S0 c → c < w.heap.size) (ha : a < ts.length) (hk : ts[a].1 = 1 ∨ ts[a].1 = 2) (hb : b.size ≤ 1048576) (he : EFv T z w) :
    Calls Tryz.prog 136 #[.agg #[.func (.func 35) #[] #[], .func (.func 36) #[] #[]], .pointer (some ⟨u, 0, none⟩), .string b] w fun e w' => TkPost getCompact T z ts (f + 1) a S0 b w e w' := by
  obtain ⟨_, e0, ad0, cap0, hok, hit, hu, c0, c1, _⟩ := ht.openT
  have hul := hS0 u hu
  have hkk : ts[a].1 = 1 ∨ ts[a].1 = 2 ∨ ts[a].1 = 8 ∨ ts[a].1 = 9 := by omega
  have hll := lst_len b
  have HT : Hid (TreeAt ts (f + 1) w S0 u a) := ht
  have HS : Hid (∀ c, S0 c → c < w.heap.size) := hS0
  have HKK : Hid (ts[a].1 = 1 ∨ ts[a].1 = 2) := hk
  have r0 := cells_re3 (cell_1i c0 hul (.cells #[.func (.func 35) #[] #[], .func (.func 36) #[] #[]] 48))
  have r1 := cells_re3 (cell_1i c1 hul (.cells #[.func (.func 35) #[] #[], .func (.func 36) #[] #[]] 48))
  have s0 := cell_1i c0 hul (.cells #[.func (.func 35) #[] #[], .func (.func 36) #[] #[]] 48)
  have p0 := part00_re (heap_alloc_new w (.cells #[.func (.func 35) #[] #[], .func (.func 36) #[] #[]] 48))
  have HBR : Hid (∀ d os, Below w.heap.size w (grow (redrawn (w.alloc (.cells #[.func (.func 35) #[] #[], .func (.func 36) #[] #[]] 48)) d) os)) := fun d os => (bel1 _ _).trans ((below_regrown _ d os).mono (by simp))
  by_cases hn : b.size < wid ts[a].1 ts[a].2 ∨ fitsN ts[a].1 ts[a].2 (leV (b.data.toList.take (wid ts[a].1 ts[a].2))) = false
  · have HN : Hid (scD getCompact ts (f + 1) a b.data.toList = none) := scD_numNo ha hkk (hn.imp (fun h => by rw [hll]; exact h) id)
    have HTN : Hid (∀ w', Below w.heap.size w w' → Calls Tryz.prog 137 #[.agg #[], .agg #[.int .i64 ts[a].1, .int .i64 ts[a].2], .string b] w' fun e w'' => e = .returned (.tuple #[.int .u64 0, .string ⟨#[]⟩, .iface T z]) ∧ Below w'.heap.size w' w'') := fun w' hbw => takeNumber_no _ _ b w' hok (by omega) hn T z (he.below hbw)
    clear ht hS0 he hkk hok hit hn c0 c1
    generalize ts[a].1 = k at r0 s0 HTN hk
    generalize ts[a].2 = n at r1 HTN
    rcases hk with rfl | rfl
    all_goals
      go_enter Tryz.func136, Tryz.ntmps136
      go_wp2_with fail
      refine wp_region_quiet_below (by kernel_rfl) (by kernel_rfl) ?_
      repeat (go_big_quiet_step (exact Calls.regrown_of (HTN.out _ (HBR.out _ _))))
      refine wpQuiet_nil ?_
      intro w1 hw'
      obtain ⟨⟨dq, osq⟩, hw''⟩ := hw'
      have HB1 : Hid (Below w.heap.size w w1) := by rw [hw'']; exact HBR.out _ _
      clear hw'' r0 r1 p0 s0
      go_wp2_with fail
      go_ret3
      exact ⟨HB1.out, .inl ⟨HN.out, .iface 137 (.agg #[.pointer (some ⟨u, 0, none⟩), .int .u64 0]), ⟨#[]⟩, .inr ⟨_, _, rfl⟩, rfl⟩⟩
  · have hl1 : wid ts[a].1 ts[a].2 ≤ b.size := by omega
    have hfn : fitsN ts[a].1 ts[a].2 (leV (b.data.toList.take (wid ts[a].1 ts[a].2))) = true := by
      cases h : fitsN ts[a].1 ts[a].2 (leV (b.data.toList.take (wid ts[a].1 ts[a].2))) with
      | true => rfl
      | false => exact absurd (.inr h) hn
    have HTN : Hid (∀ w', Below w.heap.size w w' → Calls Tryz.prog 137 #[.agg #[], .agg #[.int .i64 ts[a].1, .int .i64 ts[a].2], .string b] w' fun e w'' => e = .returned (.tuple #[.int .u64 (leV (b.data.toList.take (wid ts[a].1 ts[a].2)) : Nat), .string (b.extract (wid ts[a].1 ts[a].2) b.size), .nilIface]) ∧ Below w'.heap.size w' w'') := fun w' hbw => takeNumber_yes _ _ b w' hok (by omega) hl1 hfn
    have hone : oneD getCompact ts[a].1 ts[a].2 b.data.toList = some (⟨ts[a].1, leV (b.data.toList.take (wid ts[a].1 ts[a].2)), ⟨#[]⟩⟩, wid ts[a].1 ts[a].2) := by
      rw [oneD_num hkk]
      exact if_pos (show wid ts[a].1 ts[a].2 ≤ b.data.toList.length by omega)
    have hm8 : leV (b.data.toList.take (wid ts[a].1 ts[a].2)) < 18446744073709551616 := by
      have hw8 := wid_le hok
      have h2 := leV_lt (b.data.toList.take (wid ts[a].1 ts[a].2))
      have h3 : (b.data.toList.take (wid ts[a].1 ts[a].2)).length ≤ 8 := by simp; omega
      have h4 : 2 ^ (8 * (b.data.toList.take (wid ts[a].1 ts[a].2)).length) ≤ 2 ^ 64 := Nat.pow_le_pow_right (by decide) (by omega)
      exact Nat.lt_of_lt_of_le h2 h4
    generalize leV (b.data.toList.take (wid ts[a].1 ts[a].2)) = m at *
    generalize wid ts[a].1 ts[a].2 = K at *
    have hfi : fitsI ts[a].1 ts[a].2 ⟨ts[a].1, m, ⟨#[]⟩⟩ = true := by rw [fitsI_num (by omega) (by omega)]; exact hfn
    have HN : Hid (scD getCompact ts (f + 1) a b.data.toList = some ([⟨ts[a].1, m, ⟨#[]⟩⟩], K)) := scD_leaf ha hone hfi (by unfold np; rw [if_neg (by omega), if_neg (by omega)])
    have HFI : Hid (fitsI ts[a].1 ts[a].2 ⟨ts[a].1, m, ⟨#[]⟩⟩ = true) := hfi
    have HM8 : Hid (m < 18446744073709551616) := hm8
    clear ht hS0 he hkk hok hit hn c0 c1 hone hfi hfn
    generalize ts[a].1 = k at r0 s0 HTN hk
    generalize ts[a].2 = n at r1 HTN
    rcases hk with rfl | rfl
    all_goals
      go_enter Tryz.func136, Tryz.ntmps136
      go_wp2_with fail
      refine wp_region_quiet_below (by kernel_rfl) (by kernel_rfl) ?_
      repeat (go_big_quiet_step (exact Calls.regrown_of (HTN.out _ (HBR.out _ _))))
      refine wpQuiet_nil ?_
      intro w1 hw'
      obtain ⟨⟨dq, osq⟩, hw''⟩ := hw'
      have HB1 : Hid (Below w.heap.size w w1) := by rw [hw'']; exact HBR.out _ _
      clear hw'' r0 r1 p0 s0
      go_wp2_with fail
      go_ret3
      refine ⟨HB1.out, .inr ⟨_, K, _, _, HN.out, hl1, rfl, ?_⟩⟩
      exact ⟨u, ⟨ts[a].1, m, ⟨#[]⟩⟩, ha, (HT.out.bel HS.out HB1.out).keep (fun c hc => .inl hc) (fun _ _ => rfl), HFI.out, HM8.out, .inl ⟨HKK.out, rfl, rfl⟩⟩
set_option maxRecDepth 100000 in
set_option maxHeartbeats 4000000 in
theorem take_step_sc (T : TypeId) (z : Value) (ts : List (Int × Int)) (f : Nat) (hp : TkHyp_sc T z ts f) : TkHyp_sc T z ts (f + 1) := by
  intro a u S0 b w ht hS0 hb he
  obtain ⟨ha, e0, ad0, cap0, hok, hit, hu, c0, c1, _⟩ := ht.openT
  have hul := hS0 u hu
  by_cases hk12 : ts[a].1 = 1 ∨ ts[a].1 = 2
  · exact take_num_sc T z ts f a u S0 b w ht hS0 ha hk12 hb he
  · have s0 := cell_1i c0 hul (.cells #[.func (.func 35) #[] #[], .func (.func 36) #[] #[]] 48)
    have HB1 : Hid (Below w.heap.size w (w.alloc (.cells #[.func (.func 35) #[] #[], .func (.func 36) #[] #[]] 48))) := bel1 _ _
    have hS1 : ∀ w', Below w.heap.size w w' → ∀ c, S0 c → c < w'.heap.size := fun w' hbw c hc => Nat.lt_of_lt_of_le (hS0 c hc) hbw.size
    by_cases hk34 : ts[a].1 = 3 ∨ ts[a].1 = 4
    · have HC : Hid (∀ w', Below w.heap.size w w' → Calls Tryz.prog 138 #[.agg #[.func (.func 35) #[] #[], .func (.func 36) #[] #[]], .pointer (some ⟨u, 0, none⟩), .string b] w' fun e w'' => TkPost getCompact T z ts (f + 1) a S0 b w' e w'') := fun w' hbw => takeBytes_any_sc T z ts f a u S0 b w' (ht.bel hS0 hbw) (hS1 w' hbw) ha hk34 hb (he.below hbw)
      clear ht hS0 hp he hok hit c0 c1 hS1 hk12
      generalize ts[a].1 = k at s0 hk34
      rcases hk34 with rfl | rfl
      all_goals
        go_enter Tryz.func136, Tryz.ntmps136
        go_wp2_with fail
        refine (HC.out _ HB1.out).mono ?_
        intro e w2 hpo
        obtain ⟨x, y, er, rfl⟩ := hpo.form
        have HPO : Hid (TkPost getCompact T z ts (f + 1) a S0 b w (.returned (.tuple #[x, .string y, er])) w2) := hpo.up HB1.out
        clear hpo s0
        go_wp2_with fail
        go_ret3
        exact HPO.out
    · by_cases hk89 : ts[a].1 = 8 ∨ ts[a].1 = 9
      · have HC : Hid (∀ w', Below w.heap.size w w' → Calls Tryz.prog 139 #[.agg #[.func (.func 35) #[] #[], .func (.func 36) #[] #[]], .pointer (some ⟨u, 0, none⟩), .string b] w' fun e w'' => TkPost getCompact T z ts (f + 1) a S0 b w' e w'') := fun w' hbw => takeChoice_sc T z ts f hp a u S0 b w' (ht.bel hS0 hbw) (hS1 w' hbw) ha hk89 hb (he.below hbw)
        clear ht hS0 hp he hok hit c0 c1 hS1 hk12 hk34
        generalize ts[a].1 = k at s0 hk89
        rcases hk89 with rfl | rfl
        all_goals
          go_enter Tryz.func136, Tryz.ntmps136
          go_wp2_with fail
          refine (HC.out _ HB1.out).mono ?_
          intro e w2 hpo
          obtain ⟨x, y, er, rfl⟩ := hpo.form
          have HPO : Hid (TkPost getCompact T z ts (f + 1) a S0 b w (.returned (.tuple #[x, .string y, er])) w2) := hpo.up HB1.out
          clear hpo s0
          go_wp2_with fail
          go_ret3
          exact HPO.out
      · have hk567 : ts[a].1 = 5 ∨ ts[a].1 = 6 ∨ ts[a].1 = 7 := by simp only [tyOk, decide_eq_true_eq] at hok; omega
        have HC : Hid (∀ w', Below w.heap.size w w' → Calls Tryz.prog 140 #[.agg #[.func (.func 35) #[] #[], .func (.func 36) #[] #[]], .pointer (some ⟨u, 0, none⟩), .string b] w' fun e w'' => TkPost getCompact T z ts (f + 1) a S0 b w' e w'') := fun w' hbw => takeSeries_any_sc T z ts f hp a u S0 b w' (ht.bel hS0 hbw) (hS1 w' hbw) ha hk567 hb (he.below hbw)
        clear ht hS0 hp he hok hit c0 c1 hS1 hk12 hk34 hk89
        generalize ts[a].1 = k at s0 hk567
        rcases hk567 with rfl | rfl | rfl
        all_goals
          go_enter Tryz.func136, Tryz.ntmps136
          go_wp2_with fail
          refine (HC.out _ HB1.out).mono ?_
          intro e w2 hpo
          obtain ⟨x, y, er, rfl⟩ := hpo.form
          have HPO : Hid (TkPost getCompact T z ts (f + 1) a S0 b w (.returned (.tuple #[x, .string y, er])) w2) := hpo.up HB1.out
          clear hpo s0
          go_wp2_with fail
          go_ret3
          exact HPO.out
theorem take_sc (T : TypeId) (z : Value) (ts : List (Int × Int)) : ∀ f, TkHyp_sc T z ts f := by
  intro f
  induction f with
  | zero => intro a u S0 b w ht; exact ht.elim
  | succ f ih => exact take_step_sc T z ts f ih
end Go.Proofs.YtepffjfgomhepaaGreatDoor
