/- RLP read, the program's side: contract. -/
import Derived.Test.YtdncnjmlicdamaaGreatDoorRDh
import Derived.Test.YtdncnjmlicdamaaGreatDoorSBi
import Derived.Test.YtdncnjmlicdamaaGreatDoorS8e
namespace Go.Proofs.YtdncnjmlicdamaaGreatDoor
open Go.RowKit Go.Sort
set_option linter.unusedVariables false
set_option maxHeartbeats 2000000 in
theorem schemaFor_rd (b : Bool) (ts : List (Int × Int)) (v : Value) (w : World) (hv : IsTyps w.heap.size w v ts) (hw : KR w) (he : ET w)
    (hA : schOk ts = true → ∀ (u : Nat) (w : World) (S : Nat → Prop), TreeAt ts 7 w S u 0 → (∀ c, S c → c < w.heap.size) → Calls Tryz.prog 95 #[.agg #[], .pointer (some ⟨u, 0, none⟩)] w fun e w' => e = .returned (.bool b) ∧ Below w.heap.size w w') :
    Calls Tryz.prog 32 #[.iface 45 (.agg #[]), v] w fun e w' => SfPost ts (schOk ts && b) w e w' := by
  have HC : Hid (Calls Tryz.prog 28 #[v] w fun e w' => PsPost ts w e w') := parseSchema_any ts v w hv hw
  have HE : Hid (ET w) := he
  have HA : Hid (schOk ts = true → ∀ (u : Nat) (w : World) (S : Nat → Prop), TreeAt ts 7 w S u 0 → (∀ c, S c → c < w.heap.size) → Calls Tryz.prog 95 #[.agg #[], .pointer (some ⟨u, 0, none⟩)] w fun e w' => e = .returned (.bool b) ∧ Below w.heap.size w w') := hA
  clear hv hw he hA
  go_enter Tryz.func32, Tryz.ntmps32
  go_wp2_with fail
  refine Calls.mono HC.out ?_
  rintro e w1 ⟨hb1, ⟨hs, rfl⟩ | ⟨hs, u, rfl, htr⟩⟩
  · have HR : Hid ((schOk ts && b) = false) := by show _ = _; rw [hs]; rfl
    obtain ⟨e1, T, z, e2⟩ := ET.below (B := 0) HE.out hb1
    clear hs
    go_wp2_with fail
    go_region
    all_goals
      go_wp2_with fail
      go_ret2
      exact ⟨by first | exact hb1 | exact hb1.drew, .inl ⟨HR.out, T, z, rfl⟩⟩
  · have HB1 : Hid (Below w.heap.size w w1) := hb1
    have HT : Hid (TreeAt ts 7 w1 (fun b => w.heap.size ≤ b ∧ b < w1.heap.size) u 0) := htr
    have HS : Hid (schOk ts = true) := hs
    clear hs htr hb1
    go_wp2_with fail
    refine (HA.out HS.out u _ _ HT.out (fun c hc => hc.2)).mono ?_
    rintro e w2 ⟨rfl, hb2⟩
    have HB2 : Hid (Below w.heap.size w w2) := HB1.out.trans (hb2.mono HB1.out.size)
    have HT2 : Hid (TreeAt ts 7 w2 (fun b => w.heap.size ≤ b ∧ b < w2.heap.size) u 0) := (HT.out.bel (fun c hc => hc.2) hb2).keep (fun c hc => ⟨hc.1, by have := hb2.size; omega⟩) (fun _ _ => rfl)
    obtain ⟨e1, T, z, e2⟩ := ET.below (B := 0) HE.out HB2.out
    clear hb2
    cases b with
    | true =>
      have HR : Hid ((schOk ts && true) = true) := by show _ = _; rw [HS.out]; rfl
      clear e1 e2
      go_wp2_with fail
      go_ret2
      exact ⟨HB2.out, .inr ⟨HR.out, u, rfl, HT2.out⟩⟩
    | false =>
      have HR : Hid ((schOk ts && false) = false) := by show _ = _; rw [HS.out]; rfl
      go_wp2_with fail
      go_region
      all_goals
        go_wp2_with fail
        go_ret2
        exact ⟨by first | exact HB2.out | exact HB2.out.drew, .inl ⟨HR.out, T, z, rfl⟩⟩
set_option maxRecDepth 100000 in
set_option maxHeartbeats 4000000 in
theorem decodeBy_rl (bb : Bool) (ts : List (Int × Int)) (v : Value) (b : ByteArray) (w : World) (hv : IsTyps w.heap.size w v ts) (hb : b.size ≤ 1048576) (hw : KR w) (he : ET w) (hf : EF w)
    (hA : schOk ts = true → ∀ (u : Nat) (w : World) (S : Nat → Prop), TreeAt ts 7 w S u 0 → (∀ c, S c → c < w.heap.size) → Calls Tryz.prog 95 #[.agg #[], .pointer (some ⟨u, 0, none⟩)] w fun e w' => e = .returned (.bool bb) ∧ Below w.heap.size w w') :
    Calls Tryz.prog 21 #[.iface 45 (.agg #[]), v, .string b] w fun e w' => DecE (rlR (schOk ts && bb) ts b.data.toList) w e w' := by
  have HC : Hid (Calls Tryz.prog 32 #[.iface 45 (.agg #[]), v] w fun e w' => SfPost ts (schOk ts && bb) w e w') := schemaFor_rd bb ts v w hv hw he hA
  obtain ⟨T, z, hef⟩ := hf
  have HE : Hid (EFv T z w) := hef
  obtain ⟨o, ho⟩ : ∃ o, (schOk ts && bb) = o := ⟨_, rfl⟩
  have HOE : Hid ((schOk ts && bb) = o) := ho
  rw [ho] at HC ⊢
  clear hv hw he hA ho hef
  go_enter Tryz.func21, Tryz.ntmps21
  go_wp2_with fail
  refine Calls.mono HC.out ?_
  rintro e w1 ⟨hb1, ⟨rfl, T0, z0, rfl⟩ | ⟨rfl, u, rfl, htr⟩⟩
  · go_wp2_with fail
    go_ret2
    exact ⟨.inl ⟨rlR_no, T0, z0, rfl⟩, hb1⟩
  · have HB1 : Hid (Below w.heap.size w w1) := hb1
    have h7 : schOk ts = true := by have := HOE.out; simp at this; exact this.1
    have he7 := (schOk_iff.1 h7).2
    have HR : Hid (Calls Tryz.prog 96 #[.agg #[], .pointer (some ⟨u, 0, none⟩), .string b] w1 fun e w' => RrPost T z (whole (rlD true ts 7 0 b.data.toList)) ts 7 0 (fun c => w.heap.size ≤ c ∧ c < w1.heap.size) w1 e w') := read_step T z ts 7 (take_rl T z ts 7) 0 u _ b w1 htr (fun c hc => hc.2) hb (HE.out.below hb1)
    clear htr hb1
    go_wp2_with fail
    refine Calls.mono HR.out ?_
    rintro e w2 ⟨hb2, ⟨hno, x, hx, rfl⟩ | ⟨l, T', y, hsd, rfl, hd⟩⟩
    · have HB2 : Hid (Below w.heap.size w w2) := HB1.out.trans (hb2.mono HB1.out.size)
      have HN : Hid (rlR true ts b.data.toList = none) := by
        show _ = _
        unfold rlR
        rw [hno]; rfl
      clear hno hb2
      rcases hx with rfl | ⟨T1, z1, rfl⟩
      all_goals
        go_wp2_with fail
        go_ret2
        exact ⟨.inl ⟨HN.out, T, z, rfl⟩, HB2.out⟩
    · have HB2 : Hid (Below w.heap.size w w2) := HB1.out.trans (hb2.mono HB1.out.size)
      have hsd2 := whole_some hsd
      have hll := (rlD_many he7 hsd2).2.1
      have hll2 : l.length ≤ 1801088541 := by simpa using hll
      have HIO : Hid (Calls Tryz.prog 39 #[.iface T' y, .slice none 0 0] w2 fun e w' => IoPost w.heap.size w2 (.slice none 0 0) ([] ++ l) e w') :=
        itemsOf_all ts 7 _ 0 l [] _ (.slice none 0 0) w.heap.size w2 hd (fun c hc => by have := hb2.size; rcases hc with h | h <;> omega) (fun c hc => by simp [Value.ownBlock]) (OwnIt.nil _ _) HB2.out.size (by simp; omega)
      rw [List.nil_append] at HIO
      have HSD : Hid (rlD true ts 7 0 b.data.toList = some (l, [])) := hsd2
      clear hsd hsd2 hd hb2 hll
      go_wp2_with fail
      refine Calls.mono HIO.out ?_
      rintro e w3 ⟨v3, rfl, hown, hgr⟩
      have HB3 : Hid (Below w.heap.size w w3) := HB2.out.trans ((grew_below hgr).mono HB2.out.size)
      have HOW : Hid (OwnIt w.heap.size w3 v3 l) := hown
      obtain ⟨ad, cap, rfl, q1, q2, _⟩ := hown.form
      unfold maxLen at q2
      clear hown hgr
      by_cases h200 : l.length ≤ 200
      · have HY : Hid (rlR true ts b.data.toList = some l) := rlR_yes HSD.out h200
        have i1 : decide ((200 : Int) < (l.length : Int)) = false := by simp; omega
        go_wp2_with fail
        go_ret2
        exact ⟨.inr ⟨l, _, HY.out, rfl, HOW.out⟩, HB3.out⟩
      · have HY : Hid (rlR true ts b.data.toList = none) := by
          show _ = _
          unfold rlR
          rw [HSD.out]
          simp [whole, h200]
        have i1 : decide ((200 : Int) < (l.length : Int)) = true := by simp; omega
        obtain ⟨e1, e2⟩ := EFv.below HE.out HB3.out
        go_wp2_with fail
        go_region
        all_goals
          go_wp2_with fail
          go_ret2
          exact ⟨.inl ⟨HY.out, T, z, rfl⟩, by first | exact HB3.out | exact HB3.out.drew⟩
set_option maxRecDepth 100000 in
set_option maxHeartbeats 4000000 in
theorem implRlpDec_any (ts : List (Int × Int)) (v : Value) (b : ByteArray) (w : World) (hv : IsTyps w.heap.size w v ts) (hb : b.size ≤ 1048576) (hw : KR w) (he : ET w) (hf : EF w) :
    Calls Tryz.prog 10 #[v, .string b] w fun e w' => DecV (rlR (schOk ts) ts b.data.toList) w e w' := by
  have HC : Hid (∀ w', Below w.heap.size w w' → Calls Tryz.prog 21 #[.iface 45 (.agg #[]), v, .string b] w' fun e w'' => DecE (rlR (schOk ts) ts b.data.toList) w' e w'') := fun w' hb' => by
    have h := decodeBy_rl true ts v b w' ((hv.below hb').up hb'.size) hb (hw.below hb') (ET.below (B := 0) he hb') (EF.below hf hb') (fun _ u w S _ _ => anyAdmits _ w)
    rwa [Bool.and_true] at h
  clear hv hw he hf
  generalize (rlR (schOk ts) ts b.data.toList) = R at HC ⊢
  go_enter Tryz.func10, Tryz.ntmps10
  go_wp2_with fail
  refine (HC.out _ (Below.refl _ _)).mono ?_
  rintro e w2 ⟨⟨rfl, T, z, rfl⟩ | ⟨l, v2, rfl, rfl, hown⟩, hb2⟩
  · have HB2 : Hid (Below w.heap.size w w2) := hb2
    clear hb2
    go_wp2_with fail
    go_region
    all_goals
      go_wp2_with fail
      go_ret2
      exact ⟨⟨_, rfl, OwnIt.nil _ _⟩, by first | exact HB2.out | exact HB2.out.drew⟩
  · have HB2 : Hid (Below w.heap.size w w2) := hb2
    have HOW : Hid (OwnIt w.heap.size w2 v2 l) := hown
    have HOD : Hid (OwnIt w.heap.size w2.drew v2 l) := HOW.out.kept (Below.drew (Below.refl _ _))
    clear hb2 hown
    go_wp2_with fail
    go_region
    all_goals
      go_wp2_with fail
      go_ret2
      exact ⟨⟨_, rfl, by first | exact HOW.out | exact HOD.out⟩, by first | exact HB2.out | exact HB2.out.drew⟩
end Go.Proofs.YtdncnjmlicdamaaGreatDoor
