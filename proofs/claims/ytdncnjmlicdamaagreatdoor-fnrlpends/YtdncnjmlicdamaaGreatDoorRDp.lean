/- RLP read by the specification: contract. -/
import Derived.Test.YtdncnjmlicdamaaGreatDoorRDo
import Derived.Test.YtdncnjmlicdamaaGreatDoorSBi
import Derived.Test.YtdncnjmlicdamaaGreatDoorS8e
namespace Go.Proofs.YtdncnjmlicdamaaGreatDoor
open Go.RowKit Go.Sort
set_option linter.unusedVariables false
theorem partsL_all {d : Nat → List UInt8 → Option (List It × List UInt8)} {ps : Nat → Nat} {L n : Nat} {Q : It → Prop} (hd : ∀ i c l r, i < n → c.length ≤ L → d (ps i) c = some (l, r) → r.length ≤ L ∧ ∀ x ∈ l, Q x) : ∀ {m i : Nat} {b : List UInt8} {ls : List (List It)}, i + m ≤ n → b.length ≤ L → partsL d ps m i b = some ls → ∀ x ∈ ls.flatten, Q x := by
  intro m
  induction m with
  | zero =>
    intro i b ls hi hb h
    simp only [partsL] at h
    split at h
    · simp only [Option.some.injEq] at h; subst h; simp
    · cases h
  | succ m ih =>
    intro i b ls hi hb h
    simp only [partsL] at h
    split at h
    · simp only [Option.some.injEq] at h; subst h; simp
    · obtain ⟨⟨l1, b1⟩, g1, g2⟩ := Option.bind_eq_some_iff.1 h
      obtain ⟨ls1, g3, g4⟩ := Option.map_eq_some_iff.1 g2
      subst g4
      obtain ⟨q1, q2⟩ := hd i b l1 b1 (by omega) hb g1
      have h1 := ih (by omega) q1 g3
      intro x hx
      rw [List.flatten_cons, List.mem_append] at hx
      exact hx.elim (q2 x) (h1 x)
theorem rlD_wf {st : Bool} {ts : List (Int × Int)} {L : Nat} : ∀ {f a e : Nat} {b : List UInt8} {l : List It} {rest : List UInt8}, en ts f a = some e → b.length ≤ L → rlD st ts f a b = some (l, rest) → ∀ x ∈ l, (1 ≤ x.k ∧ x.k ≤ 9) ∧ x.n < 18446744073709551616 ∧ x.s.size ≤ L := by
  intro f
  induction f with
  | zero => intro a e b l rest h; cases h
  | succ f ih =>
    intro a e b l rest he hbL h
    obtain ⟨ha, hok, hit⟩ := en_inv he
    rw [rlD_at ha] at h
    obtain ⟨⟨list, body, rest'⟩, g1, g2⟩ := Option.bind_eq_some_iff.1 h
    obtain ⟨l', g3, g4⟩ := Option.map_eq_some_iff.1 g2
    simp only [Prod.mk.injEq] at g4
    obtain ⟨rfl, rfl⟩ := g4
    have hl := tk_len g1
    have hbody : body.length ≤ L := by have := hl.1; omega
    have hok' := hok
    simp only [tyOk, decide_eq_true_eq] at hok'
    have hk : 1 ≤ ts[a].1 ∧ ts[a].1 ≤ 9 := by omega
    have one : ∀ (m : Nat) (s : ByteArray), m < 18446744073709551616 → s.size ≤ L → (1 ≤ (⟨ts[a].1, m, s⟩ : It).k ∧ (⟨ts[a].1, m, s⟩ : It).k ≤ 9) ∧ (⟨ts[a].1, m, s⟩ : It).n < 18446744073709551616 ∧ (⟨ts[a].1, m, s⟩ : It).s.size ≤ L := fun m s h1 h2 => ⟨hk, h1, h2⟩
    unfold rlB at g3
    split at g3
    · cases g3
    · split at g3
      · obtain ⟨m, q1, q2⟩ := Option.map_eq_some_iff.1 g3
        subst q2
        intro x hx
        simp only [List.mem_cons, List.not_mem_nil, or_false] at hx
        subst hx
        exact one m _ (numD_back q1).2.1 (Nat.zero_le _)
      · split at g3
        · split at g3
          · simp only [Option.some.injEq] at g3
            subst g3
            intro x hx
            simp only [List.mem_cons, List.not_mem_nil, or_false] at hx
            subst hx
            exact one 0 _ (by omega) (by show body.toArray.size ≤ L; simpa using hbody)
          · cases g3
        · split at g3
          · rename_i k8
            split at g3
            · simp only [Option.some.injEq] at g3
              subst g3
              intro x hx
              simp only [List.mem_cons, List.not_mem_nil, or_false] at hx
              subst hx
              exact one 0 _ (by omega) (Nat.zero_le _)
            · obtain ⟨l1, q1, q2⟩ := Option.map_eq_some_iff.1 g3
              have q3 := whole_some q1
              have hfn : fitsN ts[a].1 ts[a].2 1 = true := by unfold fitsN; rw [if_neg (by omega), if_pos (by omega)]; rfl
              obtain ⟨e', he'⟩ := pl_ok ha hok hit hfn (show 0 < np ts[a].1 1 by unfold np; rw [if_pos (by omega)]; omega)
              have h1 := ih he' hbody q3
              subst q2
              intro x hx
              rcases List.mem_cons.1 hx with rfl | hx
              · exact one 1 _ (by omega) (Nat.zero_le _)
              · exact h1 x hx
          · rename_i k8
            split at g3
            · rename_i k9
              obtain ⟨⟨ls2, num, more⟩, r1, r2⟩ := Option.bind_eq_some_iff.1 g3
              simp only [] at r2
              split at r2
              · cases r2
              · obtain ⟨m, r3, r4⟩ := Option.bind_eq_some_iff.1 r2
                obtain ⟨l1, q1, q2⟩ := Option.map_eq_some_iff.1 r4
                have q3 := whole_some q1
                have hfn := (numD_back r3).2.2 rfl
                obtain ⟨e', he'⟩ := pl_ok ha hok hit hfn (show 0 < np ts[a].1 m by unfold np; rw [if_neg (by omega), if_pos k9]; omega)
                have h1 := ih he' (by have h7 := (tk_len r1).1; have e7 : (list, body, rest').2.1.length = body.length := rfl; omega) q3
                subst q2
                intro x hx
                rcases List.mem_cons.1 hx with rfl | hx
                · exact one m _ (numD_back r3).2.1 (Nat.zero_le _)
                · exact h1 x hx
            · rename_i hlist h12 h34 k9
              obtain ⟨ls, q1, q2⟩ := Option.bind_eq_some_iff.1 g3
              split at q2
              · simp only [Option.some.injEq] at q2
                subst q2
                have hk567 : ts[a].1 = 5 ∨ ts[a].1 = 6 ∨ ts[a].1 = 7 := by omega
                have hsf := ser_fits hok hk567
                have hle := partsL_le q1
                have h1 := partsL_all (n := ts[a].2.toNat) (L := L) (Q := fun x => (1 ≤ x.k ∧ x.k ≤ 9) ∧ x.n < 18446744073709551616 ∧ x.s.size ≤ L) (fun i c l r hi hc hd => by
                  obtain ⟨e', he'⟩ := pl_ok ha hok hit hsf.1 (show i < np ts[a].1 ts[a].2.toNat by rw [hsf.2.1]; exact hi)
                  rw [pl_any (by omega) ts[a].2.toNat 0] at he'
                  exact ⟨by have := rlD_rest hd; omega, ih he' hc hd⟩) (by omega) hbody q1
                intro x hx
                rcases List.mem_cons.1 hx with rfl | hx
                · exact one ls.length _ (by omega) (Nat.zero_le _)
                · exact h1 x hx
              · cases q2
theorem rlR_wf {ok : Bool} {ts : List (Int × Int)} {b : List UInt8} (hs : ok = true → schOk ts = true) : ((rlR ok ts b).getD []).length ≤ 200 ∧ ∀ x ∈ (rlR ok ts b).getD [], inI x.k ∧ x.n < 18446744073709551616 ∧ x.s.size ≤ 1048577 := by
  cases h : rlR ok ts b with
  | none => exact ⟨by simp, by simp⟩
  | some l =>
    obtain ⟨h1, h2, h3⟩ := rlR_inv h
    have q := (rlD_back (schOk_iff.1 (hs h1)).2 h2).1
    refine ⟨h3, fun x hx => ?_⟩
    have q2 := q x hx
    exact ⟨⟨by omega, by omega⟩, q2.2.1, by omega⟩
/-- Too many items are no value. -/
theorem specTyped_long (ts : List (Int × Int)) (n cap : Nat) (ad : Option Addr) (v : Value) (w : World) (hv : IsTyps w.heap.size w v ts) (h1 : 200 < n) (h2 : n ≤ cap) (h3 : cap ≤ maxLen) : Calls Tryz.prog 19 #[v, .slice ad n cap] w fun e w' => e = .returned (.bool false) ∧ Below w.heap.size w w' := by
  have HC : Hid (Calls Tryz.prog 26 #[v] w fun e w' => e = .returned (.bool (schOk ts)) ∧ Below w.heap.size w w') := specSchemaOk_any ts v w hv
  unfold maxLen at h3
  have hd : decide ((n : Int) ≤ 200) = false := by simp; omega
  generalize schOk ts = o at HC
  clear hv
  cases o with
  | false =>
    go_enter Tryz.func19, Tryz.ntmps19
    go_wp2_with fail
    refine Calls.mono HC.out ?_
    rintro e w1 ⟨rfl, hb1⟩
    go_wp2_with fail
    go_ret
    exact ⟨rfl, hb1⟩
  | true =>
    go_enter Tryz.func19, Tryz.ntmps19
    go_wp2_with fail
    refine Calls.mono HC.out ?_
    rintro e w1 ⟨rfl, hb1⟩
    go_wp2_with fail
    go_ret
    exact ⟨rfl, hb1⟩
theorem specRlpEnc_long (ts : List (Int × Int)) (n cap : Nat) (ad : Option Addr) (v : Value) (w : World) (hv : IsTyps w.heap.size w v ts) (h1 : 200 < n) (h2 : n ≤ cap) (h3 : cap ≤ maxLen) : Calls Tryz.prog 9 #[v, .slice ad n cap] w fun e w' => e = .returned (.tuple #[.string ⟨#[]⟩, .bool false]) ∧ Below w.heap.size w w' := by
  have HC : Hid (Calls Tryz.prog 19 #[v, .slice ad n cap] w fun e w' => e = .returned (.bool false) ∧ Below w.heap.size w w') := specTyped_long ts n cap ad v w hv h1 h2 h3
  clear hv
  go_enter Tryz.func9, Tryz.ntmps9
  go_wp2_with fail
  refine Calls.mono HC.out ?_
  rintro e w1 ⟨rfl, hb1⟩
  go_wp2_with fail
  go_ret2
  exact ⟨rfl, hb1⟩
set_option maxRecDepth 100000 in
set_option maxHeartbeats 4000000 in
theorem specRlpDec_any (ts : List (Int × Int)) (v : Value) (b : ByteArray) (w : World) (hv : IsTyps w.heap.size w v ts) (hb : b.size ≤ 1048576) :
    Calls Tryz.prog 13 #[v, .string b] w fun e w' => DecV (rlR (schOk ts) ts b.data.toList) w e w' := by
  have HC : Hid (Calls Tryz.prog 26 #[v] w fun e w' => e = .returned (.bool (schOk ts)) ∧ Below w.heap.size w w') := specSchemaOk_any ts v w hv
  have HV : Hid (IsTyps w.heap.size w v ts) := hv
  obtain ⟨o, ho⟩ : ∃ o, schOk ts = o := ⟨_, rfl⟩
  have HOE : Hid (schOk ts = o) := ho
  rw [ho] at HC ⊢
  clear hv ho
  cases o with
  | false =>
    go_enter Tryz.func13, Tryz.ntmps13
    go_wp2_with fail
    refine Calls.mono HC.out ?_
    rintro e w1 ⟨rfl, hb1⟩
    go_wp2_with fail
    go_ret2
    exact ⟨⟨_, rfl, OwnIt.nil _ _⟩, hb1⟩
  | true =>
    have hs := HOE.out
    have he7 := (schOk_iff.1 hs).2
    obtain ⟨hsp1, hsp2⟩ := rlR_spec hs b.data.toList
    have HS1 : Hid (rlD false ts 7 0 b.data.toList = none → rlR true ts b.data.toList = none) := hsp1
    have HS2 : Hid (∀ l r, rlD false ts 7 0 b.data.toList = some (l, r) → rlR true ts b.data.toList = if typedB ts l = true ∧ rlE ts l 7 0 0 = b.data.toList then some l else none) := hsp2
    have HD : Hid (∀ w', Below w.heap.size w w' → Calls Tryz.prog 27 #[v, .int .i64 0, .string b] w' fun e w'' => D4Post ts 7 0 b w' e w'') := fun w' hb' => l4Dec_all ts 7 0 _ v b w' (Nat.le_refl _) he7 ((HV.out.below hb').up hb'.size) hb
    have HMN : Hid (∀ l r, rlD false ts 7 0 b.data.toList = some (l, r) → l.length ≤ 1801088541 ∧ ∀ x ∈ l, inI x.k ∧ x.n < 18446744073709551616 ∧ x.s.size ≤ 1048577) := fun l r h => by
      refine ⟨by have := (rlD_many he7 h).2.1; simpa using this, fun x hx => ?_⟩
      have q := rlD_wf (L := 1048576) he7 (by rw [lst_len]; exact hb) h x hx
      exact ⟨⟨by omega, by omega⟩, q.2.1, by omega⟩
    clear hs he7 hsp1 hsp2
    go_enter Tryz.func13, Tryz.ntmps13
    go_wp2_with fail
    refine Calls.mono HC.out ?_
    rintro e w1 ⟨rfl, hb1⟩
    have HB1 : Hid (Below w.heap.size w w1) := hb1
    clear hb1
    go_wp2_with fail
    refine (HD.out _ HB1.out).mono ?_
    rintro e w2 ⟨⟨hno, v0, y0, rfl⟩ | ⟨l, R, v2, hsd, rfl, hown⟩, hb2⟩
    · have HB2 : Hid (Below w.heap.size w w2) := HB1.out.trans (hb2.mono HB1.out.size)
      have HN : Hid (rlR true ts b.data.toList = none) := HS1.out hno
      clear hno hb2
      go_wp2_with fail
      go_ret2
      rw [HN.out]
      exact ⟨⟨_, rfl, OwnIt.nil _ _⟩, HB2.out⟩
    · have HB2 : Hid (Below w.heap.size w w2) := HB1.out.trans (hb2.mono HB1.out.size)
      have HOW : Hid (OwnIt w.heap.size w2 v2 l) := own_b hown HB1.out.size
      obtain ⟨hll, hwf⟩ := HMN.out l _ hsd
      have HWF : Hid (∀ x ∈ l, inI x.k ∧ x.n < 18446744073709551616 ∧ x.s.size ≤ 1048577) := hwf
      have HR : Hid (rlR true ts b.data.toList = if typedB ts l = true ∧ rlE ts l 7 0 0 = b.data.toList then some l else none) := HS2.out l _ hsd
      obtain ⟨ad, cap, rfl, q1, q2, _⟩ := hown.form
      have hv2 := (HV.out.below HB2.out).up HB2.out.size
      clear hown hb2 hwf hsd
      by_cases h200 : l.length ≤ 200
      · have HTC : Hid (Calls Tryz.prog 9 #[v, .slice ad l.length cap] w2 fun e w' => e = .returned (.tuple #[.string (encB (typedB ts l) (rlpL ts l)), .bool (typedB ts l)]) ∧ Below w2.heap.size w2 w') := specRlpEnc_any ts l v _ w2 hv2 (HOW.out.items (by omega) HWF.out)
        unfold maxLen at q2
        cases hty : typedB ts l with
        | false =>
          rw [hty] at HTC HR
          have HN : Hid (rlR true ts b.data.toList = none) := by show _ = _; rw [HR.out, if_neg (fun h => by cases h.1)]
          clear hv2 hty
          go_wp2_with fail
          refine Calls.mono HTC.out ?_
          rintro e w3 ⟨rfl, hb3⟩
          have HB3 : Hid (Below w.heap.size w w3) := HB2.out.trans (hb3.mono HB2.out.size)
          clear hb3
          go_wp2_with fail
          go_ret2
          rw [HN.out]
          exact ⟨⟨_, rfl, OwnIt.nil _ _⟩, HB3.out⟩
        | true =>
          rw [hty] at HTC HR
          obtain ⟨E, hE⟩ : ∃ E, encB true (rlpL ts l) = E := ⟨_, rfl⟩
          have HEL : Hid (E.data.toList = rlE ts l 7 0 0) := by show _ = _; rw [← hE]; rfl
          rw [hE] at HTC
          clear hv2 hty hE
          by_cases heq : E = b
          · have HN : Hid (rlR true ts b.data.toList = some l) := by show _ = _; rw [HR.out, if_pos ⟨rfl, by rw [← HEL.out, heq]⟩]
            have i1 : (E.toList == b.toList) = true := by rw [heq]; simp
            have i2 : (E.toList != b.toList) = false := by rw [heq]; simp
            clear heq
            go_wp2_with fail
            refine Calls.mono HTC.out ?_
            rintro e w3 ⟨rfl, hb3⟩
            have HB3 : Hid (Below w.heap.size w w3) := HB2.out.trans (hb3.mono HB2.out.size)
            have HO3 : Hid (OwnIt w.heap.size w3 (.slice ad l.length cap) l) := HOW.out.kept hb3
            clear hb3
            go_wp2_with fail
            go_ret2
            rw [HN.out]
            exact ⟨⟨_, rfl, HO3.out⟩, HB3.out⟩
          · have hne : E.toList ≠ b.toList := fun h => heq (ba_ext (by rw [ByteArray.toList_eq, ByteArray.toList_eq] at h; exact h))
            have HN : Hid (rlR true ts b.data.toList = none) := by show _ = _; rw [HR.out, if_neg (fun h => heq (ba_ext (by rw [HEL.out, h.2])))]
            have i1 : (E.toList == b.toList) = false := by rw [beq_eq_false_iff_ne]; exact hne
            have i2 : (E.toList != b.toList) = true := by rw [bne_iff_ne]; exact hne
            clear heq hne
            go_wp2_with fail
            refine Calls.mono HTC.out ?_
            rintro e w3 ⟨rfl, hb3⟩
            have HB3 : Hid (Below w.heap.size w w3) := HB2.out.trans (hb3.mono HB2.out.size)
            clear hb3
            go_wp2_with fail
            go_ret2
            rw [HN.out]
            exact ⟨⟨_, rfl, OwnIt.nil _ _⟩, HB3.out⟩
      · have HTC : Hid (Calls Tryz.prog 9 #[v, .slice ad l.length cap] w2 fun e w' => e = .returned (.tuple #[.string ⟨#[]⟩, .bool false]) ∧ Below w2.heap.size w2 w') := specRlpEnc_long ts l.length cap ad v w2 hv2 (by omega) q1 q2
        have HN : Hid (rlR true ts b.data.toList = none) := by
          show _ = _
          rw [HR.out, if_neg (fun h => h200 (rl_typ_ve h.1).2.1)]
        unfold maxLen at q2
        clear hv2
        go_wp2_with fail
        refine Calls.mono HTC.out ?_
        rintro e w3 ⟨rfl, hb3⟩
        have HB3 : Hid (Below w.heap.size w w3) := HB2.out.trans (hb3.mono HB2.out.size)
        clear hb3
        go_wp2_with fail
        go_ret2
        rw [HN.out]
        exact ⟨⟨_, rfl, OwnIt.nil _ _⟩, HB3.out⟩
end Go.Proofs.YtdncnjmlicdamaaGreatDoor
