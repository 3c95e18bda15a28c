/- Whatever its arguments, laws.FnBitcoinScale returns true and leaves them, and the table that it reads, as they were; the table starts as the program's text lays it. -/
import Derived.Test.YtjpdhenmhffmeaaGreatDoorCards
import Derived.Test.YtjpdhenmhffmeaaGreatDoorTie
import Derived.Test.YtjpdhenmhffmeaaGreatDoorS7f
import Derived.Test.YtjpdhenmhffmeaaGreatDoorS7i
import Derived.Test.YtjpdhenmhffmeaaGreatDoorS7g
import Derived.Test.YtjpdhenmhffmeaaGreatDoorDrawBi
import Derived.Test.YtjpdhenmhffmeaaGreatDoorPb
import Derived.SevenTiedAt
namespace Go.Proofs.YtjpdhenmhffmeaaGreatDoor.fnBitcoinScale
open Go.ChangeShapes Go.WideShapes Go.ChangeAt Go.RowKit
open Go.ChangeMaps (open_string shut_string)
set_option linter.unusedVariables false
theorem big_any (a : Option Addr) (len cap : Nat) (w : World) (hl : len ≤ maxLen) : Calls Tryz.prog 4 #[.slice a len cap] w fun e w' => e = .returned (.bool (decide (1048576 < len))) ∧ w' = w := by
  unfold maxLen at hl
  go_enter Tryz.func4, Tryz.ntmps4
  go_wp2
  go_ret
  exact ⟨ret_b (by simp; omega), rfl⟩
theorem row_len {k : IntKind} {w : World} {a : Option Addr} {len cap : Nat} {zs : List Int} (h : IsRow k w a len cap zs) : len ≤ maxLen := by
  rcases h with ⟨_, rfl, _, _⟩ | ⟨x, _, h1, h2, _⟩
  · simp [maxLen]
  · omega
theorem wfI_items {vs : List It} (h : wfI vs) : ∀ x ∈ vs, inI x.k ∧ x.n < 18446744073709551616 ∧ x.s.size ≤ 1048577 := fun x hx => by
  obtain ⟨h1, h2, h3⟩ := h x hx
  exact ⟨h1, h2, by omega⟩
theorem own_sl {w : World} {base e size : Nat} {v : Value} {n : Nat} {xs : List Value} (h : w.ownsRow base e size v n xs) : ∃ ad cap, v = .slice ad n cap := by
  rcases h.2 with ⟨hv, h0⟩ | ⟨g, cap, cur, hv, _⟩
  · exact ⟨none, 0, by rw [hv, h0]⟩
  · exact ⟨_, cap, hv⟩
theorem cb_count : (∀ m, m < 64 → (cb_sc m).length = (cb_bc m).length) ∧ cb_sc 0 = cb_bc 0 := by
  refine ⟨fun m hm => ?_, by rfl⟩
  have h1 : cb_sc m = putCompact m := if_pos (by omega)
  have h2 : cb_bc m = putSize m := if_pos (by omega)
  rw [h1, h2]
  unfold putCompact putSize
  rw [if_pos hm, if_pos (by omega)]
  simp [leL_len]

set_option maxRecDepth 100000 in
set_option maxHeartbeats 8000000 in
theorem walk (a0 : Option Addr) (len0 cap0 : Nat) (z0 : List Int) (w : World) (w0 : IsRow .u8 w a0 len0 cap0 z0) (hkr : KR w) (hET : ET w) :
    Calls Tryz.prog 3 #[.slice a0 len0 cap0] w fun e w' => e = .returned (.bool true) ∧ Below w.heap.size w w' := by
  have hlm := row_len w0
  by_cases hbig : 1048576 < len0
  · have hd : decide (1048576 < len0) = true := decide_eq_true hbig
    have HB : Hid (∀ w, Calls Tryz.prog 4 #[.slice a0 len0 cap0] w fun e w' => e = .returned (.bool true) ∧ w' = w) := fun w => by have := big_any a0 len0 cap0 w hlm; rwa [hd] at this
    clear w0 hlm hbig hd hkr hET
    go_enter Tryz.func3, Tryz.ntmps3
    go_wp2_with fail
    refine (HB.out _).mono ?_
    rintro e w1 ⟨rfl, rfl⟩
    go_wp2_with fail
    go_ret
    exact ⟨rfl, Below.refl _ _⟩
  · have hd : decide (1048576 < len0) = false := decide_eq_false hbig
    have HB : Hid (∀ w, Calls Tryz.prog 4 #[.slice a0 len0 cap0] w fun e w' => e = .returned (.bool false) ∧ w' = w) := fun w => by have := big_any a0 len0 cap0 w hlm; rwa [hd] at this
    have HD : Hid (Calls Tryz.prog 5 #[.slice a0 len0 cap0] w fun e w' => DrawTPost w e w') := DrawBitcoinEnc_any w.heap.size a0 len0 cap0 w (Nat.le_refl _) w0.code (by omega)
    have HK : Hid (KR w) := hkr
    have HE : Hid (ET w) := hET
    clear w0 hlm hbig hd hkr hET
    go_enter Tryz.func3, Tryz.ntmps3
    go_wp2_with fail
    refine (HB.out _).mono ?_
    rintro e w1 ⟨rfl, rfl⟩
    go_wp2_with fail
    refine Calls.mono HD.out ?_
    rintro e w2 ⟨v, ts, v', vs, rfl, hot, h41, hwf, hoi, h15, hwi, hb2⟩
    have HT : Hid (IsTyps w2.heap.size w2 v ts) := own_typs hot (by omega) hwf
    have HI : Hid (IsItems w2.heap.size w2 v' vs) := hoi.items (by omega) (wfI_items hwi)
    have HWI : Hid (∀ x ∈ vs, x.s.size ≤ 1048577) := fun x hx => (wfI_items hwi x hx).2.2
    have HB2 : Hid (Below w1.heap.size w1 w2) := hb2
    have HE2 : Hid (∀ w', Below w2.heap.size w2 w' → Calls Tryz.prog 6 #[v, v'] w' fun e w'' => e = .returned (.tuple #[.string (encB (btOk ts && typedB ts vs) (bitL ts vs)), .bool (btOk ts && typedB ts vs)]) ∧ Below w'.heap.size w' w'') := fun w' hb => implBitcoinEnc_any ts vs v v' w' ((HT.out.below hb).up hb.size) ((HI.out.below hb).up hb.size) (HK.out.below (hb2.trans (hb.mono hb2.size))) (ET.below (B := 0) HE.out (hb2.trans (hb.mono hb2.size)))
    have HS2 : Hid (∀ w', Below w2.heap.size w2 w' → Calls Tryz.prog 7 #[v, v'] w' fun e w'' => e = .returned (.tuple #[.string (encB (btOk ts && typedB ts vs) (bitL ts vs)), .bool (btOk ts && typedB ts vs)]) ∧ Below w'.heap.size w' w'') := fun w' hb => specBitcoinEnc_any ts vs v v' w' ((HT.out.below hb).up hb.size) ((HI.out.below hb).up hb.size)
    have HC2 : Hid (∀ w', Below w2.heap.size w2 w' → Calls Tryz.prog 8 #[v, v'] w' fun e w'' => e = .returned (.tuple #[.string (encB (typedB ts vs) (encL ts vs)), .bool (typedB ts vs)]) ∧ Below w'.heap.size w' w'') := fun w' hb => implScaleEnc_any ts vs v v' w' ((HT.out.below hb).up hb.size) ((HI.out.below hb).up hb.size) (HK.out.below (hb2.trans (hb.mono hb2.size))) (ET.below (B := 0) HE.out (hb2.trans (hb.mono hb2.size)))
    obtain ⟨ad, cT, rfl⟩ := own_sl hot
    obtain ⟨bd, cI, rfl⟩ := own_sl hoi
    obtain ⟨o, ho⟩ : ∃ o, (btOk ts && typedB ts vs) = o := ⟨_, rfl⟩
    obtain ⟨D, hD⟩ : ∃ D, encB (btOk ts && typedB ts vs) (bitL ts vs) = D := ⟨_, rfl⟩
    have HO : Hid ((btOk ts && typedB ts vs) = o) := ho
    have HDE : Hid (encB (btOk ts && typedB ts vs) (bitL ts vs) = D) := hD
    rw [hD, ho] at HE2 HS2
    clear hot hoi hwf hwi hb2 HD HB ho hD h41
    have hqo : (o != o) = false := by cases o <;> rfl
    have hqo' : (o == o) = true := by cases o <;> rfl
    go_wp2_with fail
    refine (HE2.out w2 (Below.refl _ _)).mono ?_
    rintro e w3 ⟨rfl, hb3⟩
    have HB3 : Hid (Below w2.heap.size w2 w3) := hb3
    clear hb3
    go_wp2_with fail
    refine (HS2.out w3 HB3.out).mono ?_
    rintro e w4 ⟨rfl, hb4⟩
    have HB4 : Hid (Below w2.heap.size w2 w4) := HB3.out.trans (hb4.mono HB3.out.size)
    have HI4 : Hid (IsItems w4.heap.size w4 (.slice bd vs.length cI) vs) := (HI.out.below HB4.out).up HB4.out.size
    have HBA : Hid (Below w1.heap.size w1 w4) := HB2.out.trans (HB4.out.mono HB2.out.size)
    clear hb4
    cases o with
    | false =>
      go_wp2_with fail
      go_ret
      exact ⟨rfl, HBA.out⟩
    | true =>
      have HTY : Hid (typedB ts vs = true) := by
        have h := HO.out
        simp only [Bool.and_eq_true] at h
        exact h.2
      have hDe : (⟨(bitL ts vs).toArray⟩ : ByteArray) = D := by
        have h := HDE.out
        rw [HO.out] at h
        exact h
      obtain ⟨k1, k2, k3⟩ := typed_inv HTY.out
      obtain ⟨C, hC⟩ : ∃ C : ByteArray, ⟨(encL ts vs).toArray⟩ = C := ⟨_, rfl⟩
      have hDs : D.size ≤ 1000000000 := by rw [← hDe, ba_size]; exact scE_le cb_len_bc HWI.out k2 (schOk_iff.1 k1).2 k3
      have hCs : C.size ≤ 1000000000 := by rw [← hC, ba_size]; exact scE_le cb_len_sc HWI.out k2 (schOk_iff.1 k1).2 k3
      have HLN : Hid (anyL vs vs.length = false → C.size = D.size) := fun h => by
        rw [← hDe, ← hC, ba_size, ba_size]
        exact sc_len_eq cb_count.1 (schOk_iff.1 k1).2 k3 (any_no h)
      have HEQ : Hid (anyC vs vs.length = false → C = D) := fun h => by
        rw [← hDe, ← hC]
        show (⟨(scE cb_sc ts vs 7 0 0).toArray⟩ : ByteArray) = ⟨(scE cb_bc ts vs 7 0 0).toArray⟩
        rw [sc_eq cb_count.2 (schOk_iff.1 k1).2 k3 (any_no h)]
      have HCC : Hid (Calls Tryz.prog 8 #[.slice ad ts.length cT, .slice bd vs.length cI] w4 fun e w'' => e = .returned (.tuple #[.string C, .bool true]) ∧ Below w4.heap.size w4 w'') := by
        have h3 : encB true (encL ts vs) = C := hC
        have := HC2.out w4 HB4.out
        rw [HTY.out, h3] at this
        exact this
      clear hDe hC k1 k3
      go_wp2_with fail
      go_loopg [9, 10, 11] vs.length (fun gk c l i wr => ∃ j : Nat, j + gk = vs.length ∧ i = .int .i64 j ∧ c = .bool (anyC vs j) ∧ l = .bool (anyL vs j) ∧ wr = w4)
      case atStart => exact ⟨0, by omega, rfl, rfl, rfl, rfl⟩
      case round =>
        obtain ⟨j, hj', rfl, rfl, rfl, hw⟩ := hrel
        subst hw
        have HJ : Hid (j + gk = vs.length) := hj'
        have hj : j ≤ vs.length := by omega
        clear hj'
        by_cases hlt : j < vs.length
        · obtain ⟨b, o, cap', hv', hbl, _, _, c0, c1, c2⟩ := HI4.out.at hlt
          cases hv'
          have HCN : Hid (anyC vs (j + 1) = (anyC vs j || cB vs[j])) := any_next hlt
          have HLNX : Hid (anyL vs (j + 1) = (anyL vs j || lB vs[j])) := any_next hlt
          obtain ⟨it, hit⟩ : ∃ it, vs[j] = it := ⟨_, rfl⟩
          rw [hit] at c0 c1 c2 HCN HLNX
          have hsz : it.s.size ≤ 1048577 := by rw [← hit]; exact HWI.out _ (List.getElem_mem _)
          clear hit
          obtain ⟨ik, im, is⟩ := it
          simp only at c0 c1 c2 hsz
          have hem := str_empty is
          obtain ⟨cc, hcc⟩ : ∃ cc, anyC vs j = cc := ⟨_, rfl⟩
          obtain ⟨ll, hll⟩ : ∃ ll, anyL vs j = ll := ⟨_, rfl⟩
          rw [hcc] at HCN ⊢
          rw [hll] at HLNX ⊢
          clear hcc hll
          by_cases k3 : ik = 3
          · subst k3
            by_cases hz : is.size = 0
            · have hem' : is.toList.isEmpty = true := by rw [hem]; exact decide_eq_true hz
              have h64 : decide ((64 : Int) ≤ is.size) = false := by simp; omega
              have hcB : cB ⟨3, im, is⟩ = false := by simp [cB, hz]
              have hlB : lB ⟨3, im, is⟩ = false := by simp [lB]; omega
              rw [hcB] at HCN
              rw [hlB] at HLNX
              clear hem hcB hlB
              cases cc <;> cases ll
              all_goals
                go_wp2_with fail
                go_roundg (gk - 1)
                case rel => exact ⟨j + 1, by have := HJ.out; omega, by go_num, by rw [HCN.out]; rfl, by rw [HLNX.out]; rfl, rfl⟩
                case measure => have := HJ.out; omega
            · have hem' : is.toList.isEmpty = false := by rw [hem]; exact decide_eq_false hz
              have hcB : cB ⟨3, im, is⟩ = true := by simp [cB, hz]
              rw [hcB] at HCN
              by_cases h6 : 64 ≤ is.size
              · have h64 : decide ((64 : Int) ≤ is.size) = true := by simp; omega
                have hlB : lB ⟨3, im, is⟩ = true := by simp [lB]; omega
                rw [hlB] at HLNX
                clear hem hcB hlB
                cases cc <;> cases ll
                all_goals
                  go_wp2_with fail
                  go_roundg (gk - 1)
                  case rel => exact ⟨j + 1, by have := HJ.out; omega, by go_num, by rw [HCN.out]; rfl, by rw [HLNX.out]; rfl, rfl⟩
                  case measure => have := HJ.out; omega
              · have h64 : decide ((64 : Int) ≤ is.size) = false := by simp; omega
                have hlB : lB ⟨3, im, is⟩ = false := by simp [lB]; omega
                rw [hlB] at HLNX
                clear hem hcB hlB
                cases cc <;> cases ll
                all_goals
                  go_wp2_with fail
                  go_roundg (gk - 1)
                  case rel => exact ⟨j + 1, by have := HJ.out; omega, by go_num, by rw [HCN.out]; rfl, by rw [HLNX.out]; rfl, rfl⟩
                  case measure => have := HJ.out; omega
          · have hk3 : (ik == 3) = false := by simp; omega
            have hlB : lB ⟨ik, im, is⟩ = false := by simp [lB]; omega
            rw [hlB] at HLNX
            by_cases k5 : ik = 5
            · subst k5
              by_cases hn : 0 < im
              · have hnn : decide ((0 : Int) < im) = true := by simp; omega
                have hcB : cB ⟨5, im, is⟩ = true := by simp [cB, hn]
                rw [hcB] at HCN
                clear hem hcB hlB k3
                cases cc <;> cases ll
                all_goals
                  go_wp2_with fail
                  go_roundg (gk - 1)
                  case rel => exact ⟨j + 1, by have := HJ.out; omega, by go_num, by rw [HCN.out]; rfl, by rw [HLNX.out]; rfl, rfl⟩
                  case measure => have := HJ.out; omega
              · have hn0 : im = 0 := by omega
                subst hn0
                have hcB : cB ⟨5, 0, is⟩ = false := by simp [cB]
                rw [hcB] at HCN
                clear hem hcB hlB k3
                cases cc <;> cases ll
                all_goals
                  go_wp2_with fail
                  go_roundg (gk - 1)
                  case rel => exact ⟨j + 1, by have := HJ.out; omega, by go_num, by rw [HCN.out]; rfl, by rw [HLNX.out]; rfl, rfl⟩
                  case measure => have := HJ.out; omega
            · have hk5 : (ik == 5) = false := by simp; omega
              have hcB : cB ⟨ik, im, is⟩ = false := by simp [cB]; omega
              rw [hcB] at HCN
              clear hem hcB hlB
              cases cc <;> cases ll
              all_goals
                go_wp2_with fail
                go_roundg (gk - 1)
                case rel => exact ⟨j + 1, by have := HJ.out; omega, by go_num, by rw [HCN.out]; rfl, by rw [HLNX.out]; rfl, rfl⟩
                case measure => have := HJ.out; omega
        · have ej : j = vs.length := by omega
          subst ej
          clear hlt hj
          obtain ⟨cc, hcc⟩ : ∃ cc, anyC vs vs.length = cc := ⟨_, rfl⟩
          obtain ⟨ll, hll⟩ : ∃ ll, anyL vs vs.length = ll := ⟨_, rfl⟩
          rw [hcc] at HEQ
          rw [hll] at HLN
          rw [hcc, hll]
          clear hcc hll
          cases cc with
          | true =>
            cases ll with
            | true =>
              go_wp2_with fail
              refine HCC.out.mono ?_
              rintro e w5 ⟨rfl, hb5⟩
              have HB5 : Hid (Below w1.heap.size w1 w5) := HBA.out.trans (hb5.mono HBA.out.size)
              clear hb5
              go_wp2_with fail
              go_ret
              exact ⟨rfl, HB5.out⟩
            | false =>
              have HCD : Hid (C.size = D.size) := HLN.out rfl
              go_wp2_with fail
              refine HCC.out.mono ?_
              rintro e w5 ⟨rfl, hb5⟩
              have HB5 : Hid (Below w1.heap.size w1 w5) := HBA.out.trans (hb5.mono HBA.out.size)
              have hcd : ((C.size : Int) == (D.size : Int)) = true := by rw [HCD.out]; simp
              clear hb5
              go_wp2_with fail
              go_ret
              exact ⟨rfl, HB5.out⟩
          | false =>
            have hCD : C = D := HEQ.out rfl
            subst hCD
            have hcd : (C.toList == C.toList) = true := by simp
            have hcd' : ((C.size : Int) == (C.size : Int)) = true := by simp
            cases ll
            all_goals
              go_wp2_with fail
              refine HCC.out.mono ?_
              rintro e w5 ⟨rfl, hb5⟩
              have HB5 : Hid (Below w1.heap.size w1 w5) := HBA.out.trans (hb5.mono HBA.out.size)
              clear hb5
              go_wp2_with fail
              go_ret
              exact ⟨rfl, HB5.out⟩
end Go.Proofs.YtjpdhenmhffmeaaGreatDoor.fnBitcoinScale
