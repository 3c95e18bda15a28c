/- Bitcoin's schemas and encoding, both sides: contracts. -/
import Derived.Test.YtjpdhenmhffmeaaGreatDoorS7h
import Derived.Test.YtjpdhenmhffmeaaGreatDoorS7q
namespace Go.Proofs.YtjpdhenmhffmeaaGreatDoor
open Go.RowKit Go.Sort
set_option linter.unusedVariables false
def bitL (ts : List (Int × Int)) (vs : List It) : List UInt8 := scE cb_bc ts vs 7 0 0
theorem btOk_no {ts : List (Int × Int)} {j : Nat} (hj : j < ts.length) (h : ts[j].1 = 8 ∨ ts[j].1 = 9) : btOk ts = false := by
  cases hb : btOk ts with
  | false => rfl
  | true =>
    unfold btOk at hb
    rw [List.all_eq_true] at hb
    have := hb ts[j] (List.getElem_mem hj)
    simp at this
    omega
theorem btOk_yes {ts : List (Int × Int)} (h : ∀ q (h : q < ts.length), ¬ (ts[q].1 = 8 ∨ ts[q].1 = 9)) : btOk ts = true := by
  unfold btOk
  rw [List.all_eq_true]
  intro t ht
  obtain ⟨i, hi, rfl⟩ := List.getElem_of_mem ht
  simpa using h i hi
set_option maxHeartbeats 2000000 in
theorem specBitcoinOk_any (ts : List (Int × Int)) (v : Value) (w : World) (hv : IsTyps w.heap.size w v ts) : Calls Tryz.prog 16 #[v] w fun e w' => e = .returned (.bool (schOk ts && btOk ts)) ∧ Below w.heap.size w w' := by
  have HC : Hid (∀ w', Below w.heap.size w w' → Calls Tryz.prog 33 #[v] w' fun e w'' => e = .returned (.bool (schOk ts)) ∧ Below w'.heap.size w' w'') := fun w' hb => specSchemaOk_any ts v w' ((hv.below hb).up hb.size)
  have HV : Hid (IsTyps w.heap.size w v ts) := hv
  have hst := hv.small
  obtain ⟨ad, cap, rfl, h1, h2, h3⟩ := hv.form
  clear h3 hv
  go_enter Tryz.func16, Tryz.ntmps16
  go_wp2_with fail
  go_loopg [3] ts.length (fun gk i wr => ∃ j : Nat, j + gk = ts.length ∧ i = .int .i64 j ∧ (∀ q (h : q < ts.length), q < j → ¬ (ts[q].1 = 8 ∨ ts[q].1 = 9)) ∧ Below w.heap.size w wr)
  case atStart => exact ⟨0, by omega, rfl, fun q h hq => by omega, Below.refl _ _⟩
  case round =>
    obtain ⟨j, hj', rfl, hall, hbel⟩ := hrel
    have HJ : Hid (j + gk = ts.length) := hj'
    have hj : j ≤ ts.length := by omega
    have HALL : Hid (∀ q (h : q < ts.length), q < j → ¬ (ts[q].1 = 8 ∨ ts[q].1 = 9)) := hall
    have HB : Hid (Below w.heap.size w wr) := hbel
    clear hj' hall
    by_cases hjk : j < ts.length
    · obtain ⟨b, o, cap', e1, hb, g1, g2, c0, c1⟩ := (HV.out.below hbel).at hjk
      cases e1
      have hgr : b < wr.heap.size := by have := hbel.size; omega
      obtain ⟨k, hk⟩ : ∃ k, ts[j].1 = k := ⟨_, rfl⟩
      have HKE : Hid (ts[j].1 = k) := hk
      rw [hk] at c0
      clear c1 hk hbel
      by_cases h8 : k = 8
      · have HR : Hid ((schOk ts && btOk ts) = false) := by show _ = _; rw [btOk_no hjk (.inl (HKE.out.trans h8)), Bool.and_false]
        subst h8
        go_wp2_with fail
        go_ret
        exact ⟨by rw [HR.out]; try rfl, HB.out⟩
      · by_cases h9 : k = 9
        · have HR : Hid ((schOk ts && btOk ts) = false) := by show _ = _; rw [btOk_no hjk (.inr (HKE.out.trans h9)), Bool.and_false]
          subst h9
          go_wp2_with fail
          go_ret
          exact ⟨by rw [HR.out]; try rfl, HB.out⟩
        · have HN : Hid (∀ q (h : q < ts.length), q < j + 1 → ¬ (ts[q].1 = 8 ∨ ts[q].1 = 9)) := fun q h hq => by
            by_cases hqj : q < j
            · exact HALL.out q h hqj
            · have e : q = j := by omega
              subst e
              rw [HKE.out]; omega
          have e8 := beqF h8
          have e9 := beqF h9
          clear h8 h9
          go_wp2_with fail
          go_roundg (gk - 1)
          case rel => exact ⟨j + 1, by have := HJ.out; omega, by go_num, HN.out, HB.out⟩
          case measure => have := HJ.out; omega
    · have HR : Hid (btOk ts = true) := btOk_yes (fun q h => HALL.out q h (by omega))
      clear hbel
      go_wp2_with fail
      refine (HC.out _ HB.out).mono ?_
      rintro e w1 ⟨rfl, hb1⟩
      have HB1 : Hid (Below w.heap.size w w1) := HB.out.trans (hb1.mono HB.out.size)
      clear hb1
      go_wp2_with fail
      go_ret
      exact ⟨by rw [HR.out, Bool.and_true]; try rfl, HB1.out⟩
set_option maxHeartbeats 1000000 in
theorem specBitcoinEnc_any (ts : List (Int × Int)) (vs : List It) (v v' : Value) (w : World) (hv : IsTyps w.heap.size w v ts) (hv' : IsItems w.heap.size w v' vs) :
    Calls Tryz.prog 7 #[v, v'] w fun e w' => e = .returned (.tuple #[.string (encB (btOk ts && typedB ts vs) (bitL ts vs)), .bool (btOk ts && typedB ts vs)]) ∧ Below w.heap.size w w' := by
  have HO : Hid (Calls Tryz.prog 16 #[v] w fun e w' => e = .returned (.bool (schOk ts && btOk ts)) ∧ Below w.heap.size w w') := specBitcoinOk_any ts v w hv
  have HC : Hid (∀ w', Below w.heap.size w w' → Calls Tryz.prog 17 #[v, v'] w' fun e w'' => e = .returned (.bool (typedB ts vs)) ∧ Below w'.heap.size w' w'') := fun w' hb => specTyped_any ts vs v v' w' ((hv.below hb).up hb.size) ((hv'.below hb).up hb.size)
  have HE : Hid (typedB ts vs = true → ∀ w', Below w.heap.size w w' → Calls Tryz.prog 18 #[v, .int .i64 0, v', .int .i64 0, .bool true] w' fun e w'' => e = .returned (.tuple #[.string ⟨(bitL ts vs).toArray⟩, .int .i64 vs.length]) ∧ Below w'.heap.size w' w'') := fun ht w' hb => by
    obtain ⟨hs, hl, hve⟩ := typed_ve ht
    exact l6EncB_all ts vs hl 7 0 0 vs.length ts.length v v' w' (Nat.le_refl _) (schOk_iff.1 hs).2 hve ((hv.below hb).up hb.size) ((hv'.below hb).up hb.size)
  obtain ⟨o, ho⟩ : ∃ o, (schOk ts && btOk ts) = o := ⟨_, rfl⟩
  obtain ⟨t, ht⟩ : ∃ t, typedB ts vs = t := ⟨_, rfl⟩
  have HEQ : Hid ((btOk ts && t) = (o && t)) := by
    show _ = _
    rw [← ho]
    cases t with
    | false => simp
    | true => rw [(typed_ve ht).1]; rfl
  rw [ho] at HO
  rw [ht] at HC HE ⊢
  rw [HEQ.out]
  clear hv hv' ho ht HEQ
  cases o with
  | false =>
    go_enter Tryz.func7, Tryz.ntmps7
    go_wp2_with fail
    refine Calls.mono HO.out ?_
    rintro e w1 ⟨rfl, hb1⟩
    go_wp2_with fail
    go_ret2
    exact ⟨rfl, hb1⟩
  | true =>
    cases t with
    | false =>
      go_enter Tryz.func7, Tryz.ntmps7
      go_wp2_with fail
      refine Calls.mono HO.out ?_
      rintro e w1 ⟨rfl, hb1⟩
      have HB1 : Hid (Below w.heap.size w w1) := hb1
      clear hb1
      go_wp2_with fail
      refine (HC.out _ HB1.out).mono ?_
      rintro e w2 ⟨rfl, hb2⟩
      have HB2 : Hid (Below w.heap.size w w2) := HB1.out.trans (hb2.mono HB1.out.size)
      clear hb2
      go_wp2_with fail
      go_ret2
      exact ⟨rfl, HB2.out⟩
    | true =>
      have HE2 : Hid (∀ w', Below w.heap.size w w' → Calls Tryz.prog 18 #[v, .int .i64 0, v', .int .i64 0, .bool true] w' fun e w'' => e = .returned (.tuple #[.string ⟨(bitL ts vs).toArray⟩, .int .i64 vs.length]) ∧ Below w'.heap.size w' w'') := HE.out rfl
      clear HE
      go_enter Tryz.func7, Tryz.ntmps7
      go_wp2_with fail
      refine Calls.mono HO.out ?_
      rintro e w1 ⟨rfl, hb1⟩
      have HB1 : Hid (Below w.heap.size w w1) := hb1
      clear hb1
      go_wp2_with fail
      refine (HC.out _ HB1.out).mono ?_
      rintro e w2 ⟨rfl, hb2⟩
      have HB2 : Hid (Below w.heap.size w w2) := HB1.out.trans (hb2.mono HB1.out.size)
      clear hb2
      go_wp2_with fail
      refine (HE2.out w2 HB2.out).mono ?_
      rintro e w3 ⟨rfl, hb3⟩
      have HB3 : Hid (Below w.heap.size w w3) := HB2.out.trans (hb3.mono HB2.out.size)
      clear hb3
      go_wp2_with fail
      go_ret2
      exact ⟨rfl, HB3.out⟩
set_option maxHeartbeats 2000000 in
theorem schemaFor_bc (b : Bool) (ts : List (Int × Int)) (v : Value) (w : World) (hv : IsTyps w.heap.size w v ts) (hw : KR w) (he : ET w)
    (hA : schOk ts = true → ∀ (u : Nat) (w : World) (S : Nat → Prop), TreeAt ts 7 w S u 0 → (∀ c, S c → c < w.heap.size) → Calls Tryz.prog 126 #[.agg #[.func (.func 31) #[] #[], .func (.func 32) #[] #[]], .pointer (some ⟨u, 0, none⟩)] w fun e w' => e = .returned (.bool b) ∧ Below w.heap.size w w') :
    Calls Tryz.prog 28 #[.iface 50 (.agg #[.func (.func 31) #[] #[], .func (.func 32) #[] #[]]), v] w fun e w' => SfPost ts (schOk ts && b) w e w' := by
  have HC : Hid (Calls Tryz.prog 45 #[v] w fun e w' => PsPost ts w e w') := parseSchema_any ts v w hv hw
  have HE : Hid (ET w) := he
  have HA : Hid (schOk ts = true → ∀ (u : Nat) (w : World) (S : Nat → Prop), TreeAt ts 7 w S u 0 → (∀ c, S c → c < w.heap.size) → Calls Tryz.prog 126 #[.agg #[.func (.func 31) #[] #[], .func (.func 32) #[] #[]], .pointer (some ⟨u, 0, none⟩)] w fun e w' => e = .returned (.bool b) ∧ Below w.heap.size w w') := hA
  clear hv hw he hA
  go_enter Tryz.func28, Tryz.ntmps28
  go_wp2_with fail
  refine Calls.mono HC.out ?_
  rintro e w1 ⟨hb1, ⟨hs, rfl⟩ | ⟨hs, u, rfl, htr⟩⟩
  · have HR : Hid ((schOk ts && b) = false) := by show _ = _; rw [hs]; rfl
    obtain ⟨e1, T, z, e2⟩ := ET.below (B := 0) HE.out hb1
    clear hs
    go_wp2_with fail
    go_region
    all_goals
      go_wp2_with fail
      go_ret2
      exact ⟨by first | exact hb1 | exact hb1.drew, .inl ⟨HR.out, T, z, rfl⟩⟩
  · have HB1 : Hid (Below w.heap.size w w1) := hb1
    have HT : Hid (TreeAt ts 7 w1 (fun b => w.heap.size ≤ b ∧ b < w1.heap.size) u 0) := htr
    have HS : Hid (schOk ts = true) := hs
    clear hs htr hb1
    go_wp2_with fail
    refine (HA.out HS.out u _ _ HT.out (fun c hc => hc.2)).mono ?_
    rintro e w2 ⟨rfl, hb2⟩
    have HB2 : Hid (Below w.heap.size w w2) := HB1.out.trans (hb2.mono HB1.out.size)
    have HT2 : Hid (TreeAt ts 7 w2 (fun b => w.heap.size ≤ b ∧ b < w2.heap.size) u 0) := (HT.out.bel (fun c hc => hc.2) hb2).keep (fun c hc => ⟨hc.1, by have := hb2.size; omega⟩) (fun _ _ => rfl)
    obtain ⟨e1, T, z, e2⟩ := ET.below (B := 0) HE.out HB2.out
    clear hb2
    cases b with
    | true =>
      have HR : Hid ((schOk ts && true) = true) := by show _ = _; rw [HS.out]; rfl
      clear e1 e2
      go_wp2_with fail
      go_ret2
      exact ⟨HB2.out, .inr ⟨HR.out, u, rfl, HT2.out⟩⟩
    | false =>
      have HR : Hid ((schOk ts && false) = false) := by show _ = _; rw [HS.out]; rfl
      go_wp2_with fail
      go_region
      all_goals
        go_wp2_with fail
        go_ret2
        exact ⟨by first | exact HB2.out | exact HB2.out.drew, .inl ⟨HR.out, T, z, rfl⟩⟩
set_option maxHeartbeats 2000000 in
theorem encodeBy_bc (b : Bool) (ts : List (Int × Int)) (vs : List It) (v v' : Value) (w : World) (hv : IsTyps w.heap.size w v ts) (hv' : IsItems w.heap.size w v' vs) (hw : KR w) (he : ET w)
    (hA : schOk ts = true → ∀ (u : Nat) (w : World) (S : Nat → Prop), TreeAt ts 7 w S u 0 → (∀ c, S c → c < w.heap.size) → Calls Tryz.prog 126 #[.agg #[.func (.func 31) #[] #[], .func (.func 32) #[] #[]], .pointer (some ⟨u, 0, none⟩)] w fun e w' => e = .returned (.bool b) ∧ Below w.heap.size w w') :
    Calls Tryz.prog 14 #[.iface 50 (.agg #[.func (.func 31) #[] #[], .func (.func 32) #[] #[]]), v, v'] w fun e w' => EncPost (b && typedB ts vs) (bitL ts vs) w e w' := by
  have HC : Hid (Calls Tryz.prog 28 #[.iface 50 (.agg #[.func (.func 31) #[] #[], .func (.func 32) #[] #[]]), v] w fun e w' => SfPost ts (schOk ts && b) w e w') := schemaFor_bc b ts v w hv hw he hA
  have HE : Hid (ET w) := he
  have HI : Hid (IsItems w.heap.size w v' vs) := hv'
  have hvs := items_wf hv'
  clear hv hv' hw he hA
  obtain ⟨o, ho⟩ : ∃ o, (b && typedB ts vs) = o := ⟨_, rfl⟩
  have HOE : Hid ((b && typedB ts vs) = o) := ho
  rw [ho]
  clear ho
  go_enter Tryz.func14, Tryz.ntmps14
  go_wp2_with fail
  refine Calls.mono HC.out ?_
  rintro e w1 ⟨hb1, ⟨hs, T0, z0, rfl⟩ | ⟨hs, u, rfl, htr⟩⟩
  · have HO : Hid (o = false) := by
      show _ = _
      rw [← HOE.out]
      cases ht : typedB ts vs with
      | false => simp
      | true => rw [(typed_ve ht).1] at hs; simpa using hs
    clear hs hvs
    go_wp2_with fail
    go_ret2
    exact ⟨⟨_, by rw [HO.out]; try rfl, .inr ⟨HO.out, T0, z0, rfl⟩⟩, hb1⟩
  · have hs' : schOk ts = true ∧ b = true := by simpa using hs
    obtain ⟨hsch, rfl⟩ := hs'
    have HV : Hid (Calls Tryz.prog 29 #[.pointer (some ⟨u, 0, none⟩), v'] w1 fun e w' => VoPost ts vs (fun b => w.heap.size ≤ b ∧ b < w1.heap.size) w1 e w') := valueOf_any ts vs u _ v' w1 hsch htr (fun c hc => hc.2) ((HI.out.below hb1).up hb1.size)
    have HB1 : Hid (Below w.heap.size w w1) := hb1
    clear hs htr hb1
    rcases Bool.eq_false_or_eq_true (typedB ts vs) with ht | ht
    · obtain ⟨hs, hl, hve⟩ := typed_ve ht
      have HO : Hid (o = true) := by show _ = _; rw [← HOE.out, ht]; rfl
      have hsz : (bitL ts vs).length ≤ 1000000000 := scE_le cb_len_bc (fun x h => (hvs x h).2) hl (schOk_iff.1 hs).2 hve
      have hsz2 : ByteArray.size ⟨(bitL ts vs).toArray⟩ ≤ 1000000000 := by rw [ba_size]; exact hsz
      have HCL : Hid (∀ w, Calls Tryz.prog 30 #[.string ⟨(bitL ts vs).toArray⟩] w fun e w' => e = .returned (.string ⟨(bitL ts vs).toArray⟩) ∧ Below w.heap.size w w') := fun w => clone_any _ w (by omega)
      have HW : Hid (∀ x (S : Nat → Prop) w'', (∀ c, S c → c < w''.heap.size) → VAt ts vs 7 w'' S x 0 0 → Calls Tryz.prog 115 #[.agg #[.func (.func 31) #[] #[], .func (.func 32) #[] #[]], x] w'' fun e w3 => e = .returned (.string ⟨(bitL ts vs).toArray⟩) ∧ Below w''.heap.size w'' w3) := fun x S w'' hS hx => write_bc ts vs hvs hl 7 0 0 vs.length S x w'' hve hx hS
      have HTB : Hid (typedB ts vs = true) := ht
      clear hsz hsz2 hs hl hve hvs ht hsch
      go_wp2_with fail
      refine Calls.mono HV.out ?_
      rintro e w2 ⟨hb2, x, rfl, hx⟩
      obtain ⟨⟨T, z, rfl⟩, hva⟩ := hx HTB.out
      rw [HTB.out]
      have HB2 : Hid (Below w.heap.size w w2) := HB1.out.trans (hb2.mono HB1.out.size)
      have HSS : Hid (∀ c, ((w.heap.size ≤ c ∧ c < w1.heap.size) ∨ (w1.heap.size ≤ c ∧ c < w2.heap.size)) → c < w2.heap.size) := fun c hc => by have := hb2.size; omega
      have HX : Hid (VAt ts vs 7 w2 (fun c => (w.heap.size ≤ c ∧ c < w1.heap.size) ∨ (w1.heap.size ≤ c ∧ c < w2.heap.size)) (.iface T z) 0 0) := hva
      clear hb2 hva hx
      go_wp2_with fail
      refine (HW.out _ _ w2 HSS.out HX.out).mono ?_
      rintro e w3 ⟨rfl, hb3⟩
      have HB3 : Hid (Below w.heap.size w w3) := HB2.out.trans (hb3.mono HB2.out.size)
      clear hb3
      go_wp2_with fail
      refine (HCL.out _).mono ?_
      rintro e w4 ⟨rfl, hb4⟩
      have HB4 : Hid (Below w.heap.size w w4) := HB3.out.trans (hb4.mono HB3.out.size)
      clear hb4
      go_wp2_with fail
      go_ret2
      exact ⟨⟨_, by rw [HO.out]; rfl, .inl ⟨HO.out, rfl⟩⟩, HB4.out⟩
    · have HO : Hid (o = false) := by show _ = _; rw [← HOE.out, ht]; rfl
      have HTB : Hid (typedB ts vs = false) := ht
      clear hvs ht hsch
      go_wp2_with fail
      refine Calls.mono HV.out ?_
      rintro e w2 ⟨hb2, x, rfl, _⟩
      rw [HTB.out]
      have HB2 : Hid (Below w.heap.size w w2) := HB1.out.trans (hb2.mono HB1.out.size)
      obtain ⟨e1, T, z, e2⟩ := ET.below (B := 0) HE.out HB2.out
      clear hb2
      go_wp2_with fail
      go_region
      all_goals
        go_wp2_with fail
        go_ret2
        exact ⟨⟨_, by rw [HO.out]; try rfl, .inr ⟨HO.out, T, z, rfl⟩⟩, by first | exact HB2.out | exact HB2.out.drew⟩
set_option maxHeartbeats 2000000 in
theorem implBitcoinEnc_any (ts : List (Int × Int)) (vs : List It) (v v' : Value) (w : World) (hv : IsTyps w.heap.size w v ts) (hv' : IsItems w.heap.size w v' vs) (hw : KR w) (he : ET w) :
    Calls Tryz.prog 6 #[v, v'] w fun e w' => e = .returned (.tuple #[.string (encB (btOk ts && typedB ts vs) (bitL ts vs)), .bool (btOk ts && typedB ts vs)]) ∧ Below w.heap.size w w' := by
  have HN : Hid (∀ w, Calls Tryz.prog 15 #[] w fun e w' => e = .returned (.agg #[.func (.func 31) #[] #[], .func (.func 32) #[] #[]]) ∧ Below w.heap.size w w') := fun w => newBitcoin_any w
  have HC : Hid (∀ w', Below w.heap.size w w' → Calls Tryz.prog 14 #[.iface 50 (.agg #[.func (.func 31) #[] #[], .func (.func 32) #[] #[]]), v, v'] w' fun e w'' => EncPost (btOk ts && typedB ts vs) (bitL ts vs) w' e w'') := fun w' hb => encodeBy_bc (btOk ts) ts vs v v' w' ((hv.below hb).up hb.size) ((hv'.below hb).up hb.size) (hw.below hb) (ET.below (B := 0) he hb) (fun hs u w S h hS => by have h1 := btAdmits ts 7 u 0 w S h hS; rw [bt_all hs] at h1; exact h1)
  clear hv hv' hw he
  generalize (btOk ts && typedB ts vs) = o at HC ⊢
  go_enter Tryz.func6, Tryz.ntmps6
  go_wp2_with fail
  refine (HN.out _).mono ?_
  rintro e w1 ⟨rfl, hb1⟩
  have HB1 : Hid (Below w.heap.size w w1) := hb1
  clear hb1
  go_wp2_with fail
  refine (HC.out w1 HB1.out).mono ?_
  rintro e w2 ⟨⟨x, rfl, hx⟩, hb2⟩
  have HB2 : Hid (Below w.heap.size w w2) := HB1.out.trans (hb2.mono HB1.out.size)
  clear hb2
  rcases hx with ⟨rfl, rfl⟩ | ⟨rfl, T, z, rfl⟩
  all_goals
    go_wp2_with fail
    go_region
    all_goals
      go_wp2_with fail
      go_ret2
      exact ⟨rfl, by first | exact HB2.out | exact HB2.out.drew⟩
end Go.Proofs.YtjpdhenmhffmeaaGreatDoor
