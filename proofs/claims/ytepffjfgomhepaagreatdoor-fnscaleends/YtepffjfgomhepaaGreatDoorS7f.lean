/- SCALE's encoding, both sides: contracts. -/
import Derived.Test.YtepffjfgomhepaaGreatDoorS7e
import Derived.Test.YtepffjfgomhepaaGreatDoorS7q
namespace Go.Proofs.YtepffjfgomhepaaGreatDoor
open Go.RowKit Go.Sort
set_option linter.unusedVariables false
def encL (ts : List (Int × Int)) (vs : List It) : List UInt8 := scE cb_sc ts vs 7 0 0
set_option maxHeartbeats 1000000 in
theorem specScaleEnc_any (ts : List (Int × Int)) (vs : List It) (v v' : Value) (w : World) (hv : IsTyps w.heap.size w v ts) (hv' : IsItems w.heap.size w v' vs) :
    Calls Tryz.prog 9 #[v, v'] w fun e w' => e = .returned (.tuple #[.string (encB (typedB ts vs) (encL ts vs)), .bool (typedB ts vs)]) ∧ Below w.heap.size w w' := by
  have HC : Hid (Calls Tryz.prog 20 #[v, v'] w fun e w' => e = .returned (.bool (typedB ts vs)) ∧ Below w.heap.size w w') := specTyped_any ts vs v v' w hv hv'
  cases ht : typedB ts vs with
  | false =>
    have HR : Hid (encB false (encL ts vs) = ⟨#[]⟩) := rfl
    rw [ht] at HC
    clear hv hv' ht
    go_enter Tryz.func9, Tryz.ntmps9
    go_wp2_with fail
    refine Calls.mono HC.out ?_
    rintro e w1 ⟨rfl, hb1⟩
    go_wp2_with fail
    go_ret2
    exact ⟨by rw [HR.out]; try rfl, hb1⟩
  | true =>
    obtain ⟨hs, hl, hve⟩ := typed_ve ht
    have HE : Hid (∀ w', Below w.heap.size w w' → Calls Tryz.prog 21 #[v, .int .i64 0, v', .int .i64 0, .bool false] w' fun e w'' => e = .returned (.tuple #[.string ⟨(encL ts vs).toArray⟩, .int .i64 vs.length]) ∧ Below w'.heap.size w' w'') := fun w' hb =>
      l6Enc_all ts vs hl 7 0 0 vs.length ts.length v v' w' (Nat.le_refl _) (schOk_iff.1 hs).2 hve ((hv.below hb).up hb.size) ((hv'.below hb).up hb.size)
    have HR : Hid (encB true (encL ts vs) = ⟨(encL ts vs).toArray⟩) := rfl
    rw [ht] at HC
    clear hv hv' ht hs hl hve
    go_enter Tryz.func9, Tryz.ntmps9
    go_wp2_with fail
    refine Calls.mono HC.out ?_
    rintro e w1 ⟨rfl, hb1⟩
    have HB1 : Hid (Below w.heap.size w w1) := hb1
    clear hb1
    go_wp2_with fail
    refine (HE.out w1 HB1.out).mono ?_
    rintro e w2 ⟨rfl, hb2⟩
    have HB2 : Hid (Below w.heap.size w w2) := HB1.out.trans (hb2.mono HB1.out.size)
    clear hb2
    go_wp2_with fail
    go_ret2
    exact ⟨by rw [HR.out]; try rfl, HB2.out⟩
set_option maxHeartbeats 2000000 in
theorem schemaFor_sc (b : Bool) (ts : List (Int × Int)) (v : Value) (w : World) (hv : IsTyps w.heap.size w v ts) (hw : KR w) (he : ET w)
    (hA : schOk ts = true → ∀ (u : Nat) (w : World) (S : Nat → Prop), TreeAt ts 7 w S u 0 → (∀ c, S c → c < w.heap.size) → Calls Tryz.prog 122 #[.agg #[], .pointer (some ⟨u, 0, none⟩)] w fun e w' => e = .returned (.bool b) ∧ Below w.heap.size w w') :
    Calls Tryz.prog 33 #[.iface 50 (.agg #[.func (.func 35) #[] #[], .func (.func 36) #[] #[]]), v] w fun e w' => SfPost ts (schOk ts && b) w e w' := by
  have HC : Hid (Calls Tryz.prog 29 #[v] w fun e w' => PsPost ts w e w') := parseSchema_any ts v w hv hw
  have HE : Hid (ET w) := he
  have HA : Hid (schOk ts = true → ∀ (u : Nat) (w : World) (S : Nat → Prop), TreeAt ts 7 w S u 0 → (∀ c, S c → c < w.heap.size) → Calls Tryz.prog 122 #[.agg #[], .pointer (some ⟨u, 0, none⟩)] w fun e w' => e = .returned (.bool b) ∧ Below w.heap.size w w') := hA
  clear hv hw he hA
  go_enter Tryz.func33, Tryz.ntmps33
  go_wp2_with fail
  refine Calls.mono HC.out ?_
  rintro e w1 ⟨hb1, ⟨hs, rfl⟩ | ⟨hs, u, rfl, htr⟩⟩
  · have HR : Hid ((schOk ts && b) = false) := by show _ = _; rw [hs]; rfl
    obtain ⟨e1, T, z, e2⟩ := ET.below (B := 0) HE.out hb1
    clear hs
    go_wp2_with fail
    go_region
    all_goals
      go_wp2_with fail
      go_ret2
      exact ⟨by first | exact hb1 | exact hb1.drew, .inl ⟨HR.out, T, z, rfl⟩⟩
  · have HB1 : Hid (Below w.heap.size w w1) := hb1
    have HT : Hid (TreeAt ts 7 w1 (fun b => w.heap.size ≤ b ∧ b < w1.heap.size) u 0) := htr
    have HS : Hid (schOk ts = true) := hs
    clear hs htr hb1
    go_wp2_with fail
    refine (HA.out HS.out u _ _ HT.out (fun c hc => hc.2)).mono ?_
    rintro e w2 ⟨rfl, hb2⟩
    have HB2 : Hid (Below w.heap.size w w2) := HB1.out.trans (hb2.mono HB1.out.size)
    have HT2 : Hid (TreeAt ts 7 w2 (fun b => w.heap.size ≤ b ∧ b < w2.heap.size) u 0) := (HT.out.bel (fun c hc => hc.2) hb2).keep (fun c hc => ⟨hc.1, by have := hb2.size; omega⟩) (fun _ _ => rfl)
    obtain ⟨e1, T, z, e2⟩ := ET.below (B := 0) HE.out HB2.out
    clear hb2
    cases b with
    | true =>
      have HR : Hid ((schOk ts && true) = true) := by show _ = _; rw [HS.out]; rfl
      clear e1 e2
      go_wp2_with fail
      go_ret2
      exact ⟨HB2.out, .inr ⟨HR.out, u, rfl, HT2.out⟩⟩
    | false =>
      have HR : Hid ((schOk ts && false) = false) := by show _ = _; rw [HS.out]; rfl
      go_wp2_with fail
      go_region
      all_goals
        go_wp2_with fail
        go_ret2
        exact ⟨by first | exact HB2.out | exact HB2.out.drew, .inl ⟨HR.out, T, z, rfl⟩⟩
set_option maxHeartbeats 2000000 in
theorem encodeBy_sc (b : Bool) (ts : List (Int × Int)) (vs : List It) (v v' : Value) (w : World) (hv : IsTyps w.heap.size w v ts) (hv' : IsItems w.heap.size w v' vs) (hw : KR w) (he : ET w)
    (hA : schOk ts = true → ∀ (u : Nat) (w : World) (S : Nat → Prop), TreeAt ts 7 w S u 0 → (∀ c, S c → c < w.heap.size) → Calls Tryz.prog 122 #[.agg #[], .pointer (some ⟨u, 0, none⟩)] w fun e w' => e = .returned (.bool b) ∧ Below w.heap.size w w') :
    Calls Tryz.prog 18 #[.iface 50 (.agg #[.func (.func 35) #[] #[], .func (.func 36) #[] #[]]), v, v'] w fun e w' => EncPost (b && typedB ts vs) (encL ts vs) w e w' := by
  have HC : Hid (Calls Tryz.prog 33 #[.iface 50 (.agg #[.func (.func 35) #[] #[], .func (.func 36) #[] #[]]), v] w fun e w' => SfPost ts (schOk ts && b) w e w') := schemaFor_sc b ts v w hv hw he hA
  have HE : Hid (ET w) := he
  have HI : Hid (IsItems w.heap.size w v' vs) := hv'
  have hvs := items_wf hv'
  clear hv hv' hw he hA
  obtain ⟨o, ho⟩ : ∃ o, (b && typedB ts vs) = o := ⟨_, rfl⟩
  have HOE : Hid ((b && typedB ts vs) = o) := ho
  rw [ho]
  clear ho
  go_enter Tryz.func18, Tryz.ntmps18
  go_wp2_with fail
  refine Calls.mono HC.out ?_
  rintro e w1 ⟨hb1, ⟨hs, T0, z0, rfl⟩ | ⟨hs, u, rfl, htr⟩⟩
  · have HO : Hid (o = false) := by
      show _ = _
      rw [← HOE.out]
      cases ht : typedB ts vs with
      | false => simp
      | true => rw [(typed_ve ht).1] at hs; simpa using hs
    clear hs hvs
    go_wp2_with fail
    go_ret2
    exact ⟨⟨_, by rw [HO.out]; try rfl, .inr ⟨HO.out, T0, z0, rfl⟩⟩, hb1⟩
  · have hs' : schOk ts = true ∧ b = true := by simpa using hs
    obtain ⟨hsch, rfl⟩ := hs'
    have HV : Hid (Calls Tryz.prog 30 #[.pointer (some ⟨u, 0, none⟩), v'] w1 fun e w' => VoPost ts vs (fun b => w.heap.size ≤ b ∧ b < w1.heap.size) w1 e w') := valueOf_any ts vs u _ v' w1 hsch htr (fun c hc => hc.2) ((HI.out.below hb1).up hb1.size)
    have HB1 : Hid (Below w.heap.size w w1) := hb1
    clear hs htr hb1
    rcases Bool.eq_false_or_eq_true (typedB ts vs) with ht | ht
    · obtain ⟨hs, hl, hve⟩ := typed_ve ht
      have HO : Hid (o = true) := by show _ = _; rw [← HOE.out, ht]; rfl
      have hsz : (encL ts vs).length ≤ 1000000000 := scE_le cb_len_sc (fun x h => (hvs x h).2) hl (schOk_iff.1 hs).2 hve
      have hsz2 : ByteArray.size ⟨(encL ts vs).toArray⟩ ≤ 1000000000 := by rw [ba_size]; exact hsz
      have HCL : Hid (∀ w, Calls Tryz.prog 34 #[.string ⟨(encL ts vs).toArray⟩] w fun e w' => e = .returned (.string ⟨(encL ts vs).toArray⟩) ∧ Below w.heap.size w w') := fun w => clone_any _ w (by omega)
      have HW : Hid (∀ x (S : Nat → Prop) w'', (∀ c, S c → c < w''.heap.size) → VAt ts vs 7 w'' S x 0 0 → Calls Tryz.prog 125 #[.agg #[.func (.func 35) #[] #[], .func (.func 36) #[] #[]], x] w'' fun e w3 => e = .returned (.string ⟨(encL ts vs).toArray⟩) ∧ Below w''.heap.size w'' w3) := fun x S w'' hS hx => write_sc ts vs hvs hl 7 0 0 vs.length S x w'' hve hx hS
      have HTB : Hid (typedB ts vs = true) := ht
      clear hsz hsz2 hs hl hve hvs ht hsch
      go_wp2_with fail
      refine Calls.mono HV.out ?_
      rintro e w2 ⟨hb2, x, rfl, hx⟩
      obtain ⟨⟨T, z, rfl⟩, hva⟩ := hx HTB.out
      rw [HTB.out]
      have HB2 : Hid (Below w.heap.size w w2) := HB1.out.trans (hb2.mono HB1.out.size)
      have HSS : Hid (∀ c, ((w.heap.size ≤ c ∧ c < w1.heap.size) ∨ (w1.heap.size ≤ c ∧ c < w2.heap.size)) → c < w2.heap.size) := fun c hc => by have := hb2.size; omega
      have HX : Hid (VAt ts vs 7 w2 (fun c => (w.heap.size ≤ c ∧ c < w1.heap.size) ∨ (w1.heap.size ≤ c ∧ c < w2.heap.size)) (.iface T z) 0 0) := hva
      clear hb2 hva hx
      go_wp2_with fail
      refine (HW.out _ _ w2 HSS.out HX.out).mono ?_
      rintro e w3 ⟨rfl, hb3⟩
      have HB3 : Hid (Below w.heap.size w w3) := HB2.out.trans (hb3.mono HB2.out.size)
      clear hb3
      go_wp2_with fail
      refine (HCL.out _).mono ?_
      rintro e w4 ⟨rfl, hb4⟩
      have HB4 : Hid (Below w.heap.size w w4) := HB3.out.trans (hb4.mono HB3.out.size)
      clear hb4
      go_wp2_with fail
      go_ret2
      exact ⟨⟨_, by rw [HO.out]; rfl, .inl ⟨HO.out, rfl⟩⟩, HB4.out⟩
    · have HO : Hid (o = false) := by show _ = _; rw [← HOE.out, ht]; rfl
      have HTB : Hid (typedB ts vs = false) := ht
      clear hvs ht hsch
      go_wp2_with fail
      refine Calls.mono HV.out ?_
      rintro e w2 ⟨hb2, x, rfl, _⟩
      rw [HTB.out]
      have HB2 : Hid (Below w.heap.size w w2) := HB1.out.trans (hb2.mono HB1.out.size)
      obtain ⟨e1, T, z, e2⟩ := ET.below (B := 0) HE.out HB2.out
      clear hb2
      go_wp2_with fail
      go_region
      all_goals
        go_wp2_with fail
        go_ret2
        exact ⟨⟨_, by rw [HO.out]; try rfl, .inr ⟨HO.out, T, z, rfl⟩⟩, by first | exact HB2.out | exact HB2.out.drew⟩
set_option maxHeartbeats 2000000 in
theorem implScaleEnc_any (ts : List (Int × Int)) (vs : List It) (v v' : Value) (w : World) (hv : IsTyps w.heap.size w v ts) (hv' : IsItems w.heap.size w v' vs) (hw : KR w) (he : ET w) :
    Calls Tryz.prog 8 #[v, v'] w fun e w' => e = .returned (.tuple #[.string (encB (typedB ts vs) (encL ts vs)), .bool (typedB ts vs)]) ∧ Below w.heap.size w w' := by
  have HN : Hid (∀ w, Calls Tryz.prog 19 #[] w fun e w' => e = .returned (.agg #[.func (.func 35) #[] #[], .func (.func 36) #[] #[]]) ∧ Below w.heap.size w w') := fun w => newScale_any w
  have HC : Hid (∀ w', Below w.heap.size w w' → Calls Tryz.prog 18 #[.iface 50 (.agg #[.func (.func 35) #[] #[], .func (.func 36) #[] #[]]), v, v'] w' fun e w'' => EncPost (typedB ts vs) (encL ts vs) w' e w'') := fun w' hb => encodeBy_sc (true) ts vs v v' w' ((hv.below hb).up hb.size) ((hv'.below hb).up hb.size) (hw.below hb) (ET.below (B := 0) he hb) (fun _ u w S _ _ => anyAdmits _ w)
  clear hv hv' hw he
  generalize (typedB ts vs) = o at HC ⊢
  go_enter Tryz.func8, Tryz.ntmps8
  go_wp2_with fail
  refine (HN.out _).mono ?_
  rintro e w1 ⟨rfl, hb1⟩
  have HB1 : Hid (Below w.heap.size w w1) := hb1
  clear hb1
  go_wp2_with fail
  refine (HC.out w1 HB1.out).mono ?_
  rintro e w2 ⟨⟨x, rfl, hx⟩, hb2⟩
  have HB2 : Hid (Below w.heap.size w w2) := HB1.out.trans (hb2.mono HB1.out.size)
  clear hb2
  rcases hx with ⟨rfl, rfl⟩ | ⟨rfl, T, z, rfl⟩
  all_goals
    go_wp2_with fail
    go_region
    all_goals
      go_wp2_with fail
      go_ret2
      exact ⟨rfl, by first | exact HB2.out | exact HB2.out.drew⟩
end Go.Proofs.YtepffjfgomhepaaGreatDoor
