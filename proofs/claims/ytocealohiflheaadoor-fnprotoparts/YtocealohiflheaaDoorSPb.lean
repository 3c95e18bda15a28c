/- Messages: the program's side: contracts. -/
import Derived.Test.YtocealohiflheaaDoorSPa
namespace Go.Proofs.YtocealohiflheaaDoor
open Go.RowKit Go.Sort
set_option linter.unusedVariables false
set_option maxRecDepth 100000 in
set_option maxHeartbeats 4000000 in
theorem prAdmits_succ (ts : List (Int × Int)) (f : Nat) (hyp : ∀ f', f' ≤ f → PaHyp ts f') : PaHyp ts (f + 1) := by
  intro u a w S h hS
  have hh := h
  obtain ⟨ha, e, ad, cap, hok, hit, hu, c0, c1, c5, h3, h4, h5⟩ := h.openT
  have hul := hS u hu
  have hK6 := kids_le hok
  have HI : Hid (∀ f', f' ≤ f → PaHyp ts f') := hyp
  have HD : Hid (pm ts (f + 1) a = (decide (ts[a].1 = 7) && allTo (en ts f) (fdB ts (pm ts f)) (a + 1) (kids ts[a].1 ts[a].2))) := pm_ok ha
  have HIT : Hid (iter (en ts f) (a + 1) (kids ts[a].1 ts[a].2) = some e) := hit
  obtain ⟨K, hK⟩ : ∃ K, kids ts[a].1 ts[a].2 = K := ⟨_, rfl⟩
  obtain ⟨k, hk⟩ : ∃ k, ts[a].1 = k := ⟨_, rfl⟩
  rw [hK] at c5 h3 h5 hK6 HD HIT
  rw [hk] at c0 HD
  have HS : Hid (∀ c, S c → c < w.heap.size) := hS
  have HH : Hid (K = 0 ∨ ∃ g, ad = some ⟨g, 0, none⟩ ∧ g < w.heap.size ∧ ∀ j, j < K → ∃ c p, iter (en ts f) (a + 1) j = some p ∧ w.cell? ⟨g, j, none⟩ = some (.pointer (some ⟨c, 0, none⟩)) ∧ TreeAt ts f w S c p) := by
    rcases h5 with h5 | ⟨g, hg, hp⟩
    · exact .inl h5
    · rcases Nat.eq_zero_or_pos K with h0 | h0
      · exact .inl h0
      · obtain ⟨c, p, _, hc, _⟩ := hp 0 h0
        exact .inr ⟨g, hg, block_lt_of_cell hc, hp⟩
  clear hyp h hh h5 hok hit hK hk hS c1
  by_cases h7 : k = 7
  · have HD2 : Hid (pm ts (f + 1) a = allTo (en ts f) (fdB ts (pm ts f)) (a + 1) K) := by show _ = _; rw [HD.out]; simp [h7]
    subst h7
    have r0 := cell_1p c0 hul (.cells #[] 64)
    have r5 := cell_1p c5 hul (.cells #[] 64)
    clear HD
    go_enter Tryd.func100, Tryd.ntmps100
    go_wp2_with fail
    go_loopg [19] K (fun gk i wr => ∃ j : Nat, j + gk = K ∧ i = .int .i64 j ∧ allTo (en ts f) (fdB ts (pm ts f)) (a + 1) j = true ∧ Below (w.heap.size + 1) (w.alloc (.cells #[] 64)) wr)
    case atStart => exact ⟨0, by omega, rfl, rfl, Below.refl _ _⟩
    case round =>
      obtain ⟨j, hj', rfl, hall, hbel⟩ := hrel
      have HJ : Hid (j + gk = K) := hj'
      have hj : j ≤ K := by omega
      have HALL : Hid (allTo (en ts f) (fdB ts (pm ts f)) (a + 1) j = true) := hall
      have HB : Hid (Below (w.heap.size + 1) (w.alloc (.cells #[] 64)) wr) := hbel
      have HBW : Hid (Below w.heap.size w wr) := (bel1 _ _).trans (hbel.mono (by omega))
      clear hj' hall hbel
      by_cases hjk : j < K
      · obtain ⟨g, rfl, hg, hk⟩ := HH.out.resolve_left (by omega)
        obtain ⟨c, p, hp, hcell, htr⟩ := hk j hjk
        have cj : wr.cell? ⟨g, j, none⟩ = some (.pointer (some ⟨c, 0, none⟩)) := by rw [HBW.out.cell (p := ⟨g, j, none⟩) hg]; exact hcell
        have htr' : TreeAt ts f wr S c p := htr.belP HS.out HBW.out
        have hSw : ∀ c, S c → c < wr.heap.size := fun c hc => by have := HS.out c hc; have := HBW.out.size; omega
        have HSw : Hid (∀ c, S c → c < wr.heap.size) := hSw
        obtain ⟨k', n', hpl, hk', hn', hok', hcl, d0, d1, h58⟩ := field_at htr' hSw
        obtain ⟨e', he'⟩ := iter_part HIT.out (show j + 1 ≤ K by omega)
        rw [iter_succ, hp] at he'
        have HPE : Hid (en ts f p = some e') := he'
        have HN : Hid (allTo (en ts f) (fdB ts (pm ts f)) (a + 1) (j + 1) = fdB ts (pm ts f) p) := by show _ = _; rw [allTo_succ hp, HALL.out]; rfl
        have HF : Hid (fdB ts (pm ts f) p = if k' = 5 ∨ k' = 8 then ppB ts (pm ts f) (p + 1) else ppB ts (pm ts f) p) := by show _ = _; rw [fdB_ok hpl, hk']
        have HTR : Hid (TreeAt ts f wr S c p) := htr'
        clear hk hp hcell htr htr' he' hSw
        -- the part that is asked for: at block c', place p', of f' levels
        have HEND : Hid (∀ (b : Bool) (w2 : World), Below wr.heap.size wr w2 → fdB ts (pm ts f) p = b → (b = true → allTo (en ts f) (fdB ts (pm ts f)) (a + 1) (j + 1) = true) ∧ (b = false → pm ts (f + 1) a = false) ∧ Below (w.heap.size + 1) (w.alloc (.cells #[] 64)) w2 ∧ Below w.heap.size w w2) := fun b w2 hb2 hbv =>
          ⟨fun hb => by rw [HN.out, hbv, hb], fun hb => by rw [HD2.out]; exact allTo_false (HN.out.trans (hbv.trans hb)) K (by omega), HB.out.trans (hb2.mono (by have := HB.out.size; simpa using this)), HBW.out.trans (hb2.mono HBW.out.size)⟩
        by_cases hq : k' = 5 ∨ k' = 8
        · obtain ⟨g', cap', c', f', rfl, d5, hc1, hc2, dg, ht'⟩ := h58 hq
          obtain ⟨k2, n2, hpl2, hk2, hn2, hok2, hcl2, b0, b1, _⟩ := field_at ht' HSw.out
          have HPV : Hid (fdB ts (pm ts (f' + 1)) p = (decide (kids k2 n2 = 0) || pm ts f' (p + 1))) := by
            show _ = _
            have hen := en_child HPE.out hpl (by rw [hk']; exact hq)
            rw [HF.out, if_pos hq, ppB_ok hpl2, hk2, hn2, pm_up hen]
          have HC2 : Hid (∀ w, Calls Tryd.prog 81 #[.agg #[.int .i64 k2, .int .i64 n2]] w fun e w' => e = .returned (.int .i64 (kids k2 n2)) ∧ Below w.heap.size w w') := fun w => partsOf_any k2 n2 w hok2
          have HA2 : Hid (∀ w2, Below wr.heap.size wr w2 → Calls Tryd.prog 100 #[.agg #[], .pointer (some ⟨c', 0, none⟩)] w2 fun e w' => e = .returned (.bool (pm ts f' (p + 1))) ∧ Below w2.heap.size w2 w') := fun w2 hb2 => HI.out f' (by omega) c' (p + 1) w2 S (ht'.belP HSw.out hb2) (fun c hc => by have := HSw.out c hc; have := hb2.size; omega)
          have hgl : g' < wr.heap.size := block_lt_of_cell dg
          clear ht' h58 hk' hn' hk2 hn2 hok' hok2 HTR HF
          have hkk2 := kids_le (k := k2) (n := n2)
          clear hkk2
          obtain ⟨m, hm⟩ : ∃ m, kids k2 n2 = m := ⟨_, rfl⟩
          rw [hm] at HPV HC2
          clear hm
          rcases hq with hq5 | hq8
          all_goals
            first | subst hq5 | subst hq8
            generalize pm ts f' (p + 1) = q at HPV HA2
            by_cases hm0 : m = 0
            · have HPT : Hid (fdB ts (pm ts (f' + 1)) p = true) := by show _ = _; rw [HPV.out, hm0]; rfl
              subst hm0
              go_wp2_with fail
              refine (HC2.out _).mono ?_
              rintro e w2 ⟨rfl, hb2⟩
              obtain ⟨u1, _, u3, u4⟩ := HEND.out true w2 hb2 HPT.out
              have HU : Hid (allTo (en ts (f' + 1)) (fdB ts (pm ts (f' + 1))) (a + 1) (j + 1) = true) := u1 rfl
              have HU3 : Hid (Below (w.heap.size + 1) (w.alloc (.cells #[] 64)) w2) := u3
              clear hb2 u1 u3 u4 cj d0 d1 d5 dg b0 b1
              go_wp2_with fail
              go_roundg (gk - 1)
              case rel => exact ⟨j + 1, by have := HJ.out; omega, by go_num, HU.out, HU3.out⟩
              case measure => have := HJ.out; omega
            · have hmb : ((m : Int) == 0) = false := by simp; omega
              have HPT : Hid (fdB ts (pm ts (f' + 1)) p = q) := by show _ = _; rw [HPV.out, decide_eq_false hm0]; rfl
              clear hm0
              go_wp2_with fail
              refine (HC2.out _).mono ?_
              rintro e w2 ⟨rfl, hb2⟩
              have HB2 : Hid (Below wr.heap.size wr w2) := hb2
              clear hb2 cj d0 d1 d5 dg b0 b1
              go_wp2_with fail
              refine (HA2.out w2 HB2.out).mono ?_
              rintro e w3 ⟨rfl, hb3⟩
              obtain ⟨u1, u2, u3, u4⟩ := HEND.out q w3 (HB2.out.trans (hb3.mono HB2.out.size)) HPT.out
              clear hb3
              cases q with
              | true =>
                have HU : Hid (allTo (en ts (f' + 1)) (fdB ts (pm ts (f' + 1))) (a + 1) (j + 1) = true) := u1 rfl
                have HU3 : Hid (Below (w.heap.size + 1) (w.alloc (.cells #[] 64)) w3) := u3
                clear u1 u2 u3 u4
                go_wp2_with fail
                go_roundg (gk - 1)
                case rel => exact ⟨j + 1, by have := HJ.out; omega, by go_num, HU.out, HU3.out⟩
                case measure => have := HJ.out; omega
              | false =>
                have HR : Hid (pm ts ((f' + 1) + 1) a = false) := u2 rfl
                have HU4 : Hid (Below w.heap.size w w3) := u4
                clear u1 u2 u3 u4
                go_wp2_with fail
                go_ret
                exact ⟨by rw [HR.out]; try rfl, HU4.out⟩
        · have HPV : Hid (fdB ts (pm ts f) p = (decide (kids k' n' = 0) || pm ts f p)) := by
            show _ = _
            rw [HF.out, if_neg hq, ppB_ok hpl, hk', hn']
          have e5 : (k' == 5) = false := beqF (fun h => hq (.inl h))
          have e8 : (k' == 8) = false := beqF (fun h => hq (.inr h))
          have HC2 : Hid (∀ w, Calls Tryd.prog 81 #[.agg #[.int .i64 k', .int .i64 n']] w fun e w' => e = .returned (.int .i64 (kids k' n')) ∧ Below w.heap.size w w') := fun w => partsOf_any k' n' w hok'
          have HA2 : Hid (∀ w2, Below wr.heap.size wr w2 → Calls Tryd.prog 100 #[.agg #[], .pointer (some ⟨c, 0, none⟩)] w2 fun e w' => e = .returned (.bool (pm ts f p)) ∧ Below w2.heap.size w2 w') := fun w2 hb2 => HI.out f (Nat.le_refl _) c p w2 S (HTR.out.belP HSw.out hb2) (fun c hc => by have := HSw.out c hc; have := hb2.size; omega)
          clear h58 hk' hn' hok' HTR HF hq
          obtain ⟨m, hm⟩ : ∃ m, kids k' n' = m := ⟨_, rfl⟩
          rw [hm] at HPV HC2
          clear hm
          generalize pm ts f p = q at HPV HA2
          by_cases hm0 : m = 0
          · have HPT : Hid (fdB ts (pm ts f) p = true) := by show _ = _; rw [HPV.out, hm0]; rfl
            subst hm0
            go_wp2_with fail
            refine (HC2.out _).mono ?_
            rintro e w2 ⟨rfl, hb2⟩
            obtain ⟨u1, _, u3, u4⟩ := HEND.out true w2 hb2 HPT.out
            have HU : Hid (allTo (en ts f) (fdB ts (pm ts f)) (a + 1) (j + 1) = true) := u1 rfl
            have HU3 : Hid (Below (w.heap.size + 1) (w.alloc (.cells #[] 64)) w2) := u3
            clear hb2 u1 u3 u4 cj d0 d1 
            go_wp2_with fail
            go_roundg (gk - 1)
            case rel => exact ⟨j + 1, by have := HJ.out; omega, by go_num, HU.out, HU3.out⟩
            case measure => have := HJ.out; omega
          · have hmb : ((m : Int) == 0) = false := by simp; omega
            have HPT : Hid (fdB ts (pm ts f) p = q) := by show _ = _; rw [HPV.out, decide_eq_false hm0]; rfl
            clear hm0
            go_wp2_with fail
            refine (HC2.out _).mono ?_
            rintro e w2 ⟨rfl, hb2⟩
            have HB2 : Hid (Below wr.heap.size wr w2) := hb2
            clear hb2 cj d0 d1 
            go_wp2_with fail
            refine (HA2.out w2 HB2.out).mono ?_
            rintro e w3 ⟨rfl, hb3⟩
            obtain ⟨u1, u2, u3, u4⟩ := HEND.out q w3 (HB2.out.trans (hb3.mono HB2.out.size)) HPT.out
            clear hb3
            cases q with
            | true =>
              have HU : Hid (allTo (en ts f) (fdB ts (pm ts f)) (a + 1) (j + 1) = true) := u1 rfl
              have HU3 : Hid (Below (w.heap.size + 1) (w.alloc (.cells #[] 64)) w3) := u3
              clear u1 u2 u3 u4
              go_wp2_with fail
              go_roundg (gk - 1)
              case rel => exact ⟨j + 1, by have := HJ.out; omega, by go_num, HU.out, HU3.out⟩
              case measure => have := HJ.out; omega
            | false =>
              have HR : Hid (pm ts (f + 1) a = false) := u2 rfl
              have HU4 : Hid (Below w.heap.size w w3) := u4
              clear u1 u2 u3 u4
              go_wp2_with fail
              go_ret
              exact ⟨by rw [HR.out]; try rfl, HU4.out⟩
      · have e1 : j = K := by omega
        have HR : Hid (pm ts (f + 1) a = true) := by show _ = _; rw [HD2.out, ← e1]; exact HALL.out
        clear e1
        go_wp2_with fail
        go_ret
        exact ⟨by rw [HR.out]; try rfl, HBW.out⟩
  · have HR : Hid (pm ts (f + 1) a = false) := by show _ = _; rw [HD.out]; simp [h7]
    have e7 : (k != 7) = true := by simp [h7]
    have r0 := cell_1p c0 hul (.cells #[] 64)
    clear HD h7
    go_enter Tryd.func100, Tryd.ntmps100
    go_wp2_with fail
    go_ret
    exact ⟨by rw [HR.out]; try rfl, bel1 _ _⟩
theorem prAdmits (ts : List (Int × Int)) : ∀ F f, f ≤ F → PaHyp ts f := by
  intro F
  induction F with
  | zero =>
    intro f hf
    obtain rfl : f = 0 := by omega
    intro u a w S h; exact h.elim
  | succ F ih =>
    intro f hf
    by_cases h : f = F + 1
    · subst h; exact prAdmits_succ ts F ih
    · exact ih f (by omega)
set_option maxHeartbeats 2000000 in
theorem schemaFor_pr (b : Bool) (ts : List (Int × Int)) (v : Value) (w : World) (hv : IsTyps w.heap.size w v ts) (hw : KR w) (he : ET w)
    (hA : schOk ts = true → ∀ (u : Nat) (w : World) (S : Nat → Prop), TreeAt ts 7 w S u 0 → (∀ c, S c → c < w.heap.size) → Calls Tryd.prog 100 #[.agg #[], .pointer (some ⟨u, 0, none⟩)] w fun e w' => e = .returned (.bool b) ∧ Below w.heap.size w w') :
    Calls Tryd.prog 45 #[.iface 64 (.agg #[]), v] w fun e w' => SfPost ts (schOk ts && b) w e w' := by
  have HC : Hid (Calls Tryd.prog 65 #[v] w fun e w' => PsPost ts w e w') := parseSchema_any ts v w hv hw
  have HE : Hid (ET w) := he
  have HA : Hid (schOk ts = true → ∀ (u : Nat) (w : World) (S : Nat → Prop), TreeAt ts 7 w S u 0 → (∀ c, S c → c < w.heap.size) → Calls Tryd.prog 100 #[.agg #[], .pointer (some ⟨u, 0, none⟩)] w fun e w' => e = .returned (.bool b) ∧ Below w.heap.size w w') := hA
  clear hv hw he hA
  go_enter Tryd.func45, Tryd.ntmps45
  go_wp2_with fail
  refine Calls.mono HC.out ?_
  rintro e w1 ⟨hb1, ⟨hs, rfl⟩ | ⟨hs, u, rfl, htr⟩⟩
  · have HR : Hid ((schOk ts && b) = false) := by show _ = _; rw [hs]; rfl
    obtain ⟨e1, T, z, e2⟩ := ET.below (B := 0) HE.out hb1
    clear hs
    go_wp2_with fail
    go_region
    all_goals
      go_wp2_with fail
      go_ret2
      exact ⟨by first | exact hb1 | exact hb1.drew, .inl ⟨HR.out, T, z, rfl⟩⟩
  · have HB1 : Hid (Below w.heap.size w w1) := hb1
    have HT : Hid (TreeAt ts 7 w1 (fun b => w.heap.size ≤ b ∧ b < w1.heap.size) u 0) := htr
    have HS : Hid (schOk ts = true) := hs
    clear hs htr hb1
    go_wp2_with fail
    refine (HA.out HS.out u _ _ HT.out (fun c hc => hc.2)).mono ?_
    rintro e w2 ⟨rfl, hb2⟩
    have HB2 : Hid (Below w.heap.size w w2) := HB1.out.trans (hb2.mono HB1.out.size)
    have HT2 : Hid (TreeAt ts 7 w2 (fun b => w.heap.size ≤ b ∧ b < w2.heap.size) u 0) := (HT.out.belP (fun c hc => hc.2) hb2).keep (fun c hc => ⟨hc.1, by have := hb2.size; omega⟩) (fun _ _ => rfl)
    obtain ⟨e1, T, z, e2⟩ := ET.below (B := 0) HE.out HB2.out
    clear hb2
    cases b with
    | true =>
      have HR : Hid ((schOk ts && true) = true) := by show _ = _; rw [HS.out]; rfl
      clear e1 e2
      go_wp2_with fail
      go_ret2
      exact ⟨HB2.out, .inr ⟨HR.out, u, rfl, HT2.out⟩⟩
    | false =>
      have HR : Hid ((schOk ts && false) = false) := by show _ = _; rw [HS.out]; rfl
      go_wp2_with fail
      go_region
      all_goals
        go_wp2_with fail
        go_ret2
        exact ⟨by first | exact HB2.out | exact HB2.out.drew, .inl ⟨HR.out, T, z, rfl⟩⟩
set_option maxHeartbeats 1000000 in
theorem implProtoOk_any (ts : List (Int × Int)) (v : Value) (w : World) (hv : IsTyps w.heap.size w v ts) (hw : KR w) (he : ET w) : Calls Tryd.prog 20 #[v] w fun e w' => e = .returned (.bool (schOk ts && pm ts 7 0)) ∧ Below w.heap.size w w' := by
  have HC : Hid (Calls Tryd.prog 45 #[.iface 64 (.agg #[]), v] w fun e w' => SfPost ts (schOk ts && pm ts 7 0) w e w') := schemaFor_pr (pm ts 7 0) ts v w hv hw he (fun hs u w S h hS => prAdmits ts 7 7 (Nat.le_refl _) u 0 w S h hS)
  clear hv hw he
  have HA : Hid (Calls Tryd.prog 40 #[.iface 64 (.agg #[]), v] w fun e w' => e = .returned (.bool (schOk ts && pm ts 7 0)) ∧ Below w.heap.size w w') := by
    show Calls _ _ _ _ _
    generalize (schOk ts && pm ts 7 0) = o at HC ⊢
    go_enter Tryd.func40, Tryd.ntmps40
    go_wp2_with fail
    refine Calls.mono HC.out ?_
    rintro e w1 ⟨hb1, ⟨rfl, T, z, rfl⟩ | ⟨rfl, u, rfl, htr⟩⟩
    · go_wp2_with fail
      go_ret
      exact ⟨rfl, hb1⟩
    · clear htr
      go_wp2_with fail
      go_ret
      exact ⟨rfl, hb1⟩
  clear HC
  go_enter Tryd.func20, Tryd.ntmps20
  go_wp2_with fail
  refine Calls.mono HA.out ?_
  rintro e w2 ⟨rfl, hb2⟩
  go_wp2_with fail
  go_ret
  exact ⟨rfl, hb2⟩
end Go.Proofs.YtocealohiflheaaDoor
