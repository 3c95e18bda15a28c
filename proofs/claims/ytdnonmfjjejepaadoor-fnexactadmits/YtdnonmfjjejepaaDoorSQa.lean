/- What each codec admits: contracts. -/
import Derived.Test.YtdnonmfjjejepaaDoorSPb
import Derived.Test.YtdnonmfjjejepaaDoorSPc
namespace Go.Proofs.YtdnonmfjjejepaaDoor
open Go.RowKit Go.Sort
set_option linter.unusedVariables false
theorem blk_of_cell {w : World} {b i : Nat} {v : Value} (h : w.cell? ⟨b, i, none⟩ = some v) : b < w.heap.size := by
  rcases Nat.lt_or_ge b w.heap.size with h' | h'
  · exact h'
  · simp [World.cell?, Array.getElem?_eq_none h'] at h
def bt (ts : List (Int × Int)) : Nat → Nat → Bool
  | 0, _ => false
  | f + 1, a => match ts[a]? with
    | none => false
    | some t => (!(decide (t.1 = 8 ∨ t.1 = 9))) && allTo (en ts f) (bt ts f) (a + 1) (kids t.1 t.2)
theorem bt_ok {ts : List (Int × Int)} {f a : Nat} (ha : a < ts.length) : bt ts (f + 1) a = ((!(decide (ts[a].1 = 8 ∨ ts[a].1 = 9))) && allTo (en ts f) (bt ts f) (a + 1) (kids ts[a].1 ts[a].2)) := by
  simp [bt, List.getElem?_eq_getElem ha]
/-- Neither options nor unions. -/
def btOk (ts : List (Int × Int)) : Bool := ts.all fun t => !(decide (t.1 = 8 ∨ t.1 = 9))
theorem bt_flat {ts : List (Int × Int)} : ∀ {f a e : Nat}, en ts f a = some e → (bt ts f a = true ↔ ∀ i (h : i < ts.length), a ≤ i → i < e → ¬ (ts[i].1 = 8 ∨ ts[i].1 = 9)) := by
  intro f
  induction f with
  | zero => intro a e h; cases h
  | succ f ih =>
    intro a e he
    obtain ⟨ha, hok, hit⟩ := en_inv he
    have key : ∀ j x, iter (en ts f) (a + 1) j = some x → (allTo (en ts f) (bt ts f) (a + 1) j = true ↔ ∀ i (h : i < ts.length), a + 1 ≤ i → i < x → ¬ (ts[i].1 = 8 ∨ ts[i].1 = 9)) := by
      intro j
      induction j with
      | zero =>
        intro x hx
        cases hx
        simp only [allTo, true_iff]
        intro i h h1 h2
        omega
      | succ j ihj =>
        intro x hx
        obtain ⟨y, hy⟩ := iter_part hx (Nat.le_succ j)
        rw [allTo_succ hy, Bool.and_eq_true, ihj y hy]
        rw [iter_succ, hy] at hx
        have hyx : y < x := (en_lt (show en ts f y = some x from hx)).1
        have hay : a + 1 ≤ y := iter_up (fun a e h => (en_lt h).1) hy (Nat.zero_le j) (iter_zero _ _)
        rw [ih (show en ts f y = some x from hx)]
        constructor
        · rintro ⟨h1, h2⟩ i hi h3 h4
          by_cases h5 : i < y
          · exact h1 i hi h3 h5
          · exact h2 i hi (by omega) h4
        · intro h1
          exact ⟨fun i hi h3 h4 => h1 i hi h3 (by omega), fun i hi h3 h4 => h1 i hi (by omega) h4⟩
    have hae : a < e := (en_lt he).1
    rw [bt_ok ha, Bool.and_eq_true, key _ _ hit]
    constructor
    · rintro ⟨h1, h2⟩ i hi h3 h4
      by_cases h5 : i = a
      · subst h5; simpa using h1
      · exact h2 i hi (by omega) h4
    · intro h1
      exact ⟨by simpa using h1 a ha (Nat.le_refl _) hae, fun i hi h3 h4 => h1 i hi (by omega) h4⟩
theorem bt_all {ts : List (Int × Int)} (hs : schOk ts = true) : bt ts 7 0 = btOk ts := by
  have h7 := (schOk_iff.1 hs).2
  rw [Bool.eq_iff_iff, bt_flat h7]
  unfold btOk
  rw [List.all_eq_true]
  constructor
  · intro h t ht
    obtain ⟨i, hi, rfl⟩ := List.getElem_of_mem ht
    simpa using h i hi (Nat.zero_le _) hi
  · intro h i hi _ _
    simpa using h ts[i] (List.getElem_mem hi)
set_option maxHeartbeats 2000000 in
theorem btAdmits (ts : List (Int × Int)) : ∀ (f u a : Nat) (w : World) (S : Nat → Prop), TreeAt ts f w S u a → (∀ c, S c → c < w.heap.size) →
    Calls Tryd.prog 93 #[.agg #[.func (.func 28) #[] #[], .func (.func 29) #[] #[]], .pointer (some ⟨u, 0, none⟩)] w fun e w' => e = .returned (.bool (bt ts f a)) ∧ Below w.heap.size w w' := by
  intro f
  induction f with
  | zero => intro u a w S h; exact h.elim
  | succ f ih =>
    intro u a w S h hS
    obtain ⟨ha, e, ad, cap, hok, hit, hu, c0, c1, c5, h3, h4, h5⟩ := h.openT
    have hul := hS u hu
    have hK6 := kids_le hok
    have HI : Hid (∀ (u a : Nat) (w : World) (S : Nat → Prop), TreeAt ts f w S u a → (∀ c, S c → c < w.heap.size) → Calls Tryd.prog 93 #[.agg #[.func (.func 28) #[] #[], .func (.func 29) #[] #[]], .pointer (some ⟨u, 0, none⟩)] w fun e w' => e = .returned (.bool (bt ts f a)) ∧ Below w.heap.size w w') := ih
    have HD : Hid (bt ts (f + 1) a = ((!(decide (ts[a].1 = 8 ∨ ts[a].1 = 9))) && allTo (en ts f) (bt ts f) (a + 1) (kids ts[a].1 ts[a].2))) := bt_ok ha
    obtain ⟨K, hK⟩ : ∃ K, kids ts[a].1 ts[a].2 = K := ⟨_, rfl⟩
    obtain ⟨k, hk⟩ : ∃ k, ts[a].1 = k := ⟨_, rfl⟩
    rw [hK] at c5 h3 h5 hit hK6 HD
    rw [hk] at c0 HD
    have HS : Hid (∀ c, S c → c < w.heap.size) := hS
    have HH : Hid (K = 0 ∨ ∃ g, ad = some ⟨g, 0, none⟩ ∧ g < w.heap.size ∧ ∀ j, j < K → ∃ c p, iter (en ts f) (a + 1) j = some p ∧ w.cell? ⟨g, j, none⟩ = some (.pointer (some ⟨c, 0, none⟩)) ∧ TreeAt ts f w S c p) := by
      rcases h5 with h5 | ⟨g, hg, hp⟩
      · exact .inl h5
      · rcases Nat.eq_zero_or_pos K with h0 | h0
        · exact .inl h0
        · obtain ⟨c, p, _, hc, _⟩ := hp 0 h0
          exact .inr ⟨g, hg, blk_of_cell hc, hp⟩
    clear ih h h5 hok hit hK hk hS c1
    by_cases h8 : k = 8
    · subst h8
      have HR : Hid (bt ts (f + 1) a = false) := by show _ = _; rw [HD.out]; rfl
      have r0 := cell_1p c0 hul (.cells #[.func (.func 28) #[] #[], .func (.func 29) #[] #[]] 61)
      go_enter Tryd.func93, Tryd.ntmps93
      go_wp2_with fail
      go_ret
      exact ⟨by rw [HR.out]; try rfl, by first | exact bel1 _ _ | exact Below.refl _ _⟩
    · by_cases h9 : k = 9
      · subst h9
        have HR : Hid (bt ts (f + 1) a = false) := by show _ = _; rw [HD.out]; rfl
        have r0 := cell_1p c0 hul (.cells #[.func (.func 28) #[] #[], .func (.func 29) #[] #[]] 61)
        go_enter Tryd.func93, Tryd.ntmps93
        go_wp2_with fail
        go_ret
        exact ⟨by rw [HR.out]; try rfl, by first | exact bel1 _ _ | exact Below.refl _ _⟩
      · have HD2 : Hid (bt ts (f + 1) a = allTo (en ts f) (bt ts f) (a + 1) K) := by show _ = _; rw [HD.out]; simp [h8, h9]
        have e8 := beqF h8
        have e9 := beqF h9
        have r0 := cell_1p c0 hul (.cells #[.func (.func 28) #[] #[], .func (.func 29) #[] #[]] 61)
        have r5 := cell_1p c5 hul (.cells #[.func (.func 28) #[] #[], .func (.func 29) #[] #[]] 61)
        clear h8 h9 HD
        go_enter Tryd.func93, Tryd.ntmps93
        go_wp2_with fail
        go_loopg [26] K (fun gk i wr => ∃ j : Nat, j + gk = K ∧ i = .int .i64 j ∧ allTo (en ts f) (bt ts f) (a + 1) j = true ∧ Below (w.heap.size + 1) (w.alloc (.cells #[.func (.func 28) #[] #[], .func (.func 29) #[] #[]] 61)) wr)
        case atStart => exact ⟨0, by omega, rfl, rfl, Below.refl _ _⟩
        case round =>
          obtain ⟨j, hj', rfl, hall, hbel⟩ := hrel
          have HJ : Hid (j + gk = K) := hj'
          have hj : j ≤ K := by omega
          have HALL : Hid (allTo (en ts f) (bt ts f) (a + 1) j = true) := hall
          have HB : Hid (Below (w.heap.size + 1) (w.alloc (.cells #[.func (.func 28) #[] #[], .func (.func 29) #[] #[]] 61)) wr) := hbel
          have x0 : wr.cell? ⟨w.heap.size, 0, none⟩ = some (.func (.func 28) #[] #[]) := by rw [hbel.cell (p := ⟨w.heap.size, 0, none⟩) (by simp)]; simp [go_sem]
          have x1 : wr.cell? ⟨w.heap.size, 1, none⟩ = some (.func (.func 29) #[] #[]) := by rw [hbel.cell (p := ⟨w.heap.size, 1, none⟩) (by simp)]; simp [go_sem]
          have HBW : Hid (Below w.heap.size w wr) := (bel1 _ _).trans (hbel.mono (by omega))
          clear hj' hall
          by_cases hjk : j < K
          · obtain ⟨g, rfl, hg, hk⟩ := HH.out.resolve_left (by omega)
            obtain ⟨c, p, hp, hcell, htr⟩ := hk j hjk
            have cj : wr.cell? ⟨g, j, none⟩ = some (.pointer (some ⟨c, 0, none⟩)) := by rw [HBW.out.cell (p := ⟨g, j, none⟩) hg]; exact hcell
            have HT : Hid (TreeAt ts f wr S c p) := htr.belP HS.out HBW.out
            have HN : Hid (allTo (en ts f) (bt ts f) (a + 1) (j + 1) = bt ts f p) := by show _ = _; rw [allTo_succ hp, HALL.out]; rfl
            have HSw : Hid (∀ c, S c → c < wr.heap.size) := fun c hc => by have := HS.out c hc; have := HBW.out.size; omega
            clear hk hp hcell htr hbel
            go_wp2_with fail
            refine (HI.out c p _ S HT.out HSw.out).mono ?_
            rintro e w2 ⟨rfl, hb2⟩
            have HB2 : Hid (Below (w.heap.size + 1) (w.alloc (.cells #[.func (.func 28) #[] #[], .func (.func 29) #[] #[]] 61)) w2) := HB.out.trans (hb2.mono (by have := HB.out.size; simpa using this))
            have HBW2 : Hid (Below w.heap.size w w2) := HBW.out.trans (hb2.mono HBW.out.size)
            clear hb2 x0 x1 cj
            cases hb : bt ts f p with
            | true =>
              have HN2 : Hid (allTo (en ts f) (bt ts f) (a + 1) (j + 1) = true) := HN.out.trans hb
              clear hb
              go_wp2_with fail
              go_roundg (gk - 1)
              case rel => exact ⟨j + 1, by have := HJ.out; omega, by go_num, HN2.out, HB2.out⟩
              case measure => have := HJ.out; omega
            | false =>
              have HR : Hid (bt ts (f + 1) a = false) := by show _ = _; rw [HD2.out]; exact allTo_false (HN.out.trans hb) K (by omega)
              clear hb
              go_wp2_with fail
              go_ret
              exact ⟨by rw [HR.out]; try rfl, HBW2.out⟩
          · have e1 : j = K := by omega
            have HR : Hid (bt ts (f + 1) a = true) := by show _ = _; rw [HD2.out, ← e1]; exact HALL.out
            clear e1 hbel x0 x1
            go_wp2_with fail
            go_ret
            exact ⟨by rw [HR.out]; try rfl, HBW.out⟩
theorem btOk_no {ts : List (Int × Int)} {j : Nat} (hj : j < ts.length) (h : ts[j].1 = 8 ∨ ts[j].1 = 9) : btOk ts = false := by
  cases hb : btOk ts with
  | false => rfl
  | true =>
    unfold btOk at hb
    rw [List.all_eq_true] at hb
    have := hb ts[j] (List.getElem_mem hj)
    simp at this
    omega
theorem btOk_yes {ts : List (Int × Int)} (h : ∀ q (h : q < ts.length), ¬ (ts[q].1 = 8 ∨ ts[q].1 = 9)) : btOk ts = true := by
  unfold btOk
  rw [List.all_eq_true]
  intro t ht
  obtain ⟨i, hi, rfl⟩ := List.getElem_of_mem ht
  simpa using h i hi
set_option maxHeartbeats 2000000 in
theorem specBitcoinOk_any (ts : List (Int × Int)) (v : Value) (w : World) (hv : IsTyps w.heap.size w v ts) : Calls Tryd.prog 10 #[v] w fun e w' => e = .returned (.bool (schOk ts && btOk ts)) ∧ Below w.heap.size w w' := by
  have HC : Hid (∀ w', Below w.heap.size w w' → Calls Tryd.prog 12 #[v] w' fun e w'' => e = .returned (.bool (schOk ts)) ∧ Below w'.heap.size w' w'') := fun w' hb => specSchemaOk_any ts v w' ((hv.below hb).up hb.size)
  have HV : Hid (IsTyps w.heap.size w v ts) := hv
  have hst := hv.small
  obtain ⟨ad, cap, rfl, h1, h2, h3⟩ := hv.form
  clear h3 hv
  go_enter Tryd.func10, Tryd.ntmps10
  go_wp2_with fail
  go_loopg [3] ts.length (fun gk i wr => ∃ j : Nat, j + gk = ts.length ∧ i = .int .i64 j ∧ (∀ q (h : q < ts.length), q < j → ¬ (ts[q].1 = 8 ∨ ts[q].1 = 9)) ∧ Below w.heap.size w wr)
  case atStart => exact ⟨0, by omega, rfl, fun q h hq => by omega, Below.refl _ _⟩
  case round =>
    obtain ⟨j, hj', rfl, hall, hbel⟩ := hrel
    have HJ : Hid (j + gk = ts.length) := hj'
    have hj : j ≤ ts.length := by omega
    have HALL : Hid (∀ q (h : q < ts.length), q < j → ¬ (ts[q].1 = 8 ∨ ts[q].1 = 9)) := hall
    have HB : Hid (Below w.heap.size w wr) := hbel
    clear hj' hall
    by_cases hjk : j < ts.length
    · obtain ⟨b, o, cap', e1, hb, g1, g2, c0, c1⟩ := (HV.out.below hbel).at hjk
      cases e1
      have hgr : b < wr.heap.size := by have := hbel.size; omega
      obtain ⟨k, hk⟩ : ∃ k, ts[j].1 = k := ⟨_, rfl⟩
      have HKE : Hid (ts[j].1 = k) := hk
      rw [hk] at c0
      clear c1 hk hbel
      by_cases h8 : k = 8
      · have HR : Hid ((schOk ts && btOk ts) = false) := by show _ = _; rw [btOk_no hjk (.inl (HKE.out.trans h8)), Bool.and_false]
        subst h8
        go_wp2_with fail
        go_ret
        exact ⟨by rw [HR.out]; try rfl, HB.out⟩
      · by_cases h9 : k = 9
        · have HR : Hid ((schOk ts && btOk ts) = false) := by show _ = _; rw [btOk_no hjk (.inr (HKE.out.trans h9)), Bool.and_false]
          subst h9
          go_wp2_with fail
          go_ret
          exact ⟨by rw [HR.out]; try rfl, HB.out⟩
        · have HN : Hid (∀ q (h : q < ts.length), q < j + 1 → ¬ (ts[q].1 = 8 ∨ ts[q].1 = 9)) := fun q h hq => by
            by_cases hqj : q < j
            · exact HALL.out q h hqj
            · have e : q = j := by omega
              subst e
              rw [HKE.out]; omega
          have e8 := beqF h8
          have e9 := beqF h9
          clear h8 h9
          go_wp2_with fail
          go_roundg (gk - 1)
          case rel => exact ⟨j + 1, by have := HJ.out; omega, by go_num, HN.out, HB.out⟩
          case measure => have := HJ.out; omega
    · have HR : Hid (btOk ts = true) := btOk_yes (fun q h => HALL.out q h (by omega))
      clear hbel
      go_wp2_with fail
      refine (HC.out _ HB.out).mono ?_
      rintro e w1 ⟨rfl, hb1⟩
      have HB1 : Hid (Below w.heap.size w w1) := HB.out.trans (hb1.mono HB.out.size)
      clear hb1
      go_wp2_with fail
      go_ret
      exact ⟨by rw [HR.out, Bool.and_true]; try rfl, HB1.out⟩
theorem anyAdmits (v : Value) (w : World) : Calls Tryd.prog 82 #[.agg #[], v] w fun e w' => e = .returned (.bool true) ∧ Below w.heap.size w w' := by
  go_enter Tryd.func82, Tryd.ntmps82
  go_wp2_with fail
  go_ret
  exact ⟨rfl, by first | exact Below.refl _ _ | exact bel1 _ _⟩
set_option maxHeartbeats 2000000 in
theorem schemaFor_rl (b : Bool) (ts : List (Int × Int)) (v : Value) (w : World) (hv : IsTyps w.heap.size w v ts) (hw : KR w) (he : ET w)
    (hA : schOk ts = true → ∀ (u : Nat) (w : World) (S : Nat → Prop), TreeAt ts 7 w S u 0 → (∀ c, S c → c < w.heap.size) → Calls Tryd.prog 82 #[.agg #[], .pointer (some ⟨u, 0, none⟩)] w fun e w' => e = .returned (.bool b) ∧ Below w.heap.size w w') :
    Calls Tryd.prog 21 #[.iface 48 (.agg #[]), v] w fun e w' => SfPost ts (schOk ts && b) w e w' := by
  have HC : Hid (Calls Tryd.prog 30 #[v] w fun e w' => PsPost ts w e w') := parseSchema_any ts v w hv hw
  have HE : Hid (ET w) := he
  have HA : Hid (schOk ts = true → ∀ (u : Nat) (w : World) (S : Nat → Prop), TreeAt ts 7 w S u 0 → (∀ c, S c → c < w.heap.size) → Calls Tryd.prog 82 #[.agg #[], .pointer (some ⟨u, 0, none⟩)] w fun e w' => e = .returned (.bool b) ∧ Below w.heap.size w w') := hA
  clear hv hw he hA
  go_enter Tryd.func21, Tryd.ntmps21
  go_wp2_with fail
  refine Calls.mono HC.out ?_
  rintro e w1 ⟨hb1, ⟨hs, rfl⟩ | ⟨hs, u, rfl, htr⟩⟩
  · have HR : Hid ((schOk ts && b) = false) := by show _ = _; rw [hs]; rfl
    obtain ⟨e1, T, z, e2⟩ := ET.below (B := 0) HE.out hb1
    clear hs
    go_wp2_with fail
    go_region
    all_goals
      go_wp2_with fail
      go_ret2
      exact ⟨by first | exact hb1 | exact hb1.drew, .inl ⟨HR.out, T, z, rfl⟩⟩
  · have HB1 : Hid (Below w.heap.size w w1) := hb1
    have HT : Hid (TreeAt ts 7 w1 (fun b => w.heap.size ≤ b ∧ b < w1.heap.size) u 0) := htr
    have HS : Hid (schOk ts = true) := hs
    clear hs htr hb1
    go_wp2_with fail
    refine (HA.out HS.out u _ _ HT.out (fun c hc => hc.2)).mono ?_
    rintro e w2 ⟨rfl, hb2⟩
    have HB2 : Hid (Below w.heap.size w w2) := HB1.out.trans (hb2.mono HB1.out.size)
    have HT2 : Hid (TreeAt ts 7 w2 (fun b => w.heap.size ≤ b ∧ b < w2.heap.size) u 0) := (HT.out.belP (fun c hc => hc.2) hb2).keep (fun c hc => ⟨hc.1, by have := hb2.size; omega⟩) (fun _ _ => rfl)
    obtain ⟨e1, T, z, e2⟩ := ET.below (B := 0) HE.out HB2.out
    clear hb2
    cases b with
    | true =>
      have HR : Hid ((schOk ts && true) = true) := by show _ = _; rw [HS.out]; rfl
      clear e1 e2
      go_wp2_with fail
      go_ret2
      exact ⟨HB2.out, .inr ⟨HR.out, u, rfl, HT2.out⟩⟩
    | false =>
      have HR : Hid ((schOk ts && false) = false) := by show _ = _; rw [HS.out]; rfl
      go_wp2_with fail
      go_region
      all_goals
        go_wp2_with fail
        go_ret2
        exact ⟨by first | exact HB2.out | exact HB2.out.drew, .inl ⟨HR.out, T, z, rfl⟩⟩
set_option maxHeartbeats 2000000 in
theorem schemaFor_ss (b : Bool) (ts : List (Int × Int)) (v : Value) (w : World) (hv : IsTyps w.heap.size w v ts) (hw : KR w) (he : ET w)
    (hA : schOk ts = true → ∀ (u : Nat) (w : World) (S : Nat → Prop), TreeAt ts 7 w S u 0 → (∀ c, S c → c < w.heap.size) → Calls Tryd.prog 82 #[.agg #[], .pointer (some ⟨u, 0, none⟩)] w fun e w' => e = .returned (.bool b) ∧ Below w.heap.size w w') :
    Calls Tryd.prog 21 #[.iface 51 (.agg #[]), v] w fun e w' => SfPost ts (schOk ts && b) w e w' := by
  have HC : Hid (Calls Tryd.prog 30 #[v] w fun e w' => PsPost ts w e w') := parseSchema_any ts v w hv hw
  have HE : Hid (ET w) := he
  have HA : Hid (schOk ts = true → ∀ (u : Nat) (w : World) (S : Nat → Prop), TreeAt ts 7 w S u 0 → (∀ c, S c → c < w.heap.size) → Calls Tryd.prog 82 #[.agg #[], .pointer (some ⟨u, 0, none⟩)] w fun e w' => e = .returned (.bool b) ∧ Below w.heap.size w w') := hA
  clear hv hw he hA
  go_enter Tryd.func21, Tryd.ntmps21
  go_wp2_with fail
  refine Calls.mono HC.out ?_
  rintro e w1 ⟨hb1, ⟨hs, rfl⟩ | ⟨hs, u, rfl, htr⟩⟩
  · have HR : Hid ((schOk ts && b) = false) := by show _ = _; rw [hs]; rfl
    obtain ⟨e1, T, z, e2⟩ := ET.below (B := 0) HE.out hb1
    clear hs
    go_wp2_with fail
    go_region
    all_goals
      go_wp2_with fail
      go_ret2
      exact ⟨by first | exact hb1 | exact hb1.drew, .inl ⟨HR.out, T, z, rfl⟩⟩
  · have HB1 : Hid (Below w.heap.size w w1) := hb1
    have HT : Hid (TreeAt ts 7 w1 (fun b => w.heap.size ≤ b ∧ b < w1.heap.size) u 0) := htr
    have HS : Hid (schOk ts = true) := hs
    clear hs htr hb1
    go_wp2_with fail
    refine (HA.out HS.out u _ _ HT.out (fun c hc => hc.2)).mono ?_
    rintro e w2 ⟨rfl, hb2⟩
    have HB2 : Hid (Below w.heap.size w w2) := HB1.out.trans (hb2.mono HB1.out.size)
    have HT2 : Hid (TreeAt ts 7 w2 (fun b => w.heap.size ≤ b ∧ b < w2.heap.size) u 0) := (HT.out.belP (fun c hc => hc.2) hb2).keep (fun c hc => ⟨hc.1, by have := hb2.size; omega⟩) (fun _ _ => rfl)
    obtain ⟨e1, T, z, e2⟩ := ET.below (B := 0) HE.out HB2.out
    clear hb2
    cases b with
    | true =>
      have HR : Hid ((schOk ts && true) = true) := by show _ = _; rw [HS.out]; rfl
      clear e1 e2
      go_wp2_with fail
      go_ret2
      exact ⟨HB2.out, .inr ⟨HR.out, u, rfl, HT2.out⟩⟩
    | false =>
      have HR : Hid ((schOk ts && false) = false) := by show _ = _; rw [HS.out]; rfl
      go_wp2_with fail
      go_region
      all_goals
        go_wp2_with fail
        go_ret2
        exact ⟨by first | exact HB2.out | exact HB2.out.drew, .inl ⟨HR.out, T, z, rfl⟩⟩
set_option maxHeartbeats 2000000 in
theorem schemaFor_sc (b : Bool) (ts : List (Int × Int)) (v : Value) (w : World) (hv : IsTyps w.heap.size w v ts) (hw : KR w) (he : ET w)
    (hA : schOk ts = true → ∀ (u : Nat) (w : World) (S : Nat → Prop), TreeAt ts 7 w S u 0 → (∀ c, S c → c < w.heap.size) → Calls Tryd.prog 82 #[.agg #[], .pointer (some ⟨u, 0, none⟩)] w fun e w' => e = .returned (.bool b) ∧ Below w.heap.size w w') :
    Calls Tryd.prog 21 #[.iface 57 (.agg #[.func (.func 26) #[] #[], .func (.func 27) #[] #[]]), v] w fun e w' => SfPost ts (schOk ts && b) w e w' := by
  have HC : Hid (Calls Tryd.prog 30 #[v] w fun e w' => PsPost ts w e w') := parseSchema_any ts v w hv hw
  have HE : Hid (ET w) := he
  have HA : Hid (schOk ts = true → ∀ (u : Nat) (w : World) (S : Nat → Prop), TreeAt ts 7 w S u 0 → (∀ c, S c → c < w.heap.size) → Calls Tryd.prog 82 #[.agg #[], .pointer (some ⟨u, 0, none⟩)] w fun e w' => e = .returned (.bool b) ∧ Below w.heap.size w w') := hA
  clear hv hw he hA
  go_enter Tryd.func21, Tryd.ntmps21
  go_wp2_with fail
  refine Calls.mono HC.out ?_
  rintro e w1 ⟨hb1, ⟨hs, rfl⟩ | ⟨hs, u, rfl, htr⟩⟩
  · have HR : Hid ((schOk ts && b) = false) := by show _ = _; rw [hs]; rfl
    obtain ⟨e1, T, z, e2⟩ := ET.below (B := 0) HE.out hb1
    clear hs
    go_wp2_with fail
    go_region
    all_goals
      go_wp2_with fail
      go_ret2
      exact ⟨by first | exact hb1 | exact hb1.drew, .inl ⟨HR.out, T, z, rfl⟩⟩
  · have HB1 : Hid (Below w.heap.size w w1) := hb1
    have HT : Hid (TreeAt ts 7 w1 (fun b => w.heap.size ≤ b ∧ b < w1.heap.size) u 0) := htr
    have HS : Hid (schOk ts = true) := hs
    clear hs htr hb1
    go_wp2_with fail
    refine (HA.out HS.out u _ _ HT.out (fun c hc => hc.2)).mono ?_
    rintro e w2 ⟨rfl, hb2⟩
    have HB2 : Hid (Below w.heap.size w w2) := HB1.out.trans (hb2.mono HB1.out.size)
    have HT2 : Hid (TreeAt ts 7 w2 (fun b => w.heap.size ≤ b ∧ b < w2.heap.size) u 0) := (HT.out.belP (fun c hc => hc.2) hb2).keep (fun c hc => ⟨hc.1, by have := hb2.size; omega⟩) (fun _ _ => rfl)
    obtain ⟨e1, T, z, e2⟩ := ET.below (B := 0) HE.out HB2.out
    clear hb2
    cases b with
    | true =>
      have HR : Hid ((schOk ts && true) = true) := by show _ = _; rw [HS.out]; rfl
      clear e1 e2
      go_wp2_with fail
      go_ret2
      exact ⟨HB2.out, .inr ⟨HR.out, u, rfl, HT2.out⟩⟩
    | false =>
      have HR : Hid ((schOk ts && false) = false) := by show _ = _; rw [HS.out]; rfl
      go_wp2_with fail
      go_region
      all_goals
        go_wp2_with fail
        go_ret2
        exact ⟨by first | exact HB2.out | exact HB2.out.drew, .inl ⟨HR.out, T, z, rfl⟩⟩
set_option maxHeartbeats 2000000 in
theorem schemaFor_bc (b : Bool) (ts : List (Int × Int)) (v : Value) (w : World) (hv : IsTyps w.heap.size w v ts) (hw : KR w) (he : ET w)
    (hA : schOk ts = true → ∀ (u : Nat) (w : World) (S : Nat → Prop), TreeAt ts 7 w S u 0 → (∀ c, S c → c < w.heap.size) → Calls Tryd.prog 93 #[.agg #[.func (.func 28) #[] #[], .func (.func 29) #[] #[]], .pointer (some ⟨u, 0, none⟩)] w fun e w' => e = .returned (.bool b) ∧ Below w.heap.size w w') :
    Calls Tryd.prog 21 #[.iface 61 (.agg #[.func (.func 28) #[] #[], .func (.func 29) #[] #[]]), v] w fun e w' => SfPost ts (schOk ts && b) w e w' := by
  have HC : Hid (Calls Tryd.prog 30 #[v] w fun e w' => PsPost ts w e w') := parseSchema_any ts v w hv hw
  have HE : Hid (ET w) := he
  have HA : Hid (schOk ts = true → ∀ (u : Nat) (w : World) (S : Nat → Prop), TreeAt ts 7 w S u 0 → (∀ c, S c → c < w.heap.size) → Calls Tryd.prog 93 #[.agg #[.func (.func 28) #[] #[], .func (.func 29) #[] #[]], .pointer (some ⟨u, 0, none⟩)] w fun e w' => e = .returned (.bool b) ∧ Below w.heap.size w w') := hA
  clear hv hw he hA
  go_enter Tryd.func21, Tryd.ntmps21
  go_wp2_with fail
  refine Calls.mono HC.out ?_
  rintro e w1 ⟨hb1, ⟨hs, rfl⟩ | ⟨hs, u, rfl, htr⟩⟩
  · have HR : Hid ((schOk ts && b) = false) := by show _ = _; rw [hs]; rfl
    obtain ⟨e1, T, z, e2⟩ := ET.below (B := 0) HE.out hb1
    clear hs
    go_wp2_with fail
    go_region
    all_goals
      go_wp2_with fail
      go_ret2
      exact ⟨by first | exact hb1 | exact hb1.drew, .inl ⟨HR.out, T, z, rfl⟩⟩
  · have HB1 : Hid (Below w.heap.size w w1) := hb1
    have HT : Hid (TreeAt ts 7 w1 (fun b => w.heap.size ≤ b ∧ b < w1.heap.size) u 0) := htr
    have HS : Hid (schOk ts = true) := hs
    clear hs htr hb1
    go_wp2_with fail
    refine (HA.out HS.out u _ _ HT.out (fun c hc => hc.2)).mono ?_
    rintro e w2 ⟨rfl, hb2⟩
    have HB2 : Hid (Below w.heap.size w w2) := HB1.out.trans (hb2.mono HB1.out.size)
    have HT2 : Hid (TreeAt ts 7 w2 (fun b => w.heap.size ≤ b ∧ b < w2.heap.size) u 0) := (HT.out.belP (fun c hc => hc.2) hb2).keep (fun c hc => ⟨hc.1, by have := hb2.size; omega⟩) (fun _ _ => rfl)
    obtain ⟨e1, T, z, e2⟩ := ET.below (B := 0) HE.out HB2.out
    clear hb2
    cases b with
    | true =>
      have HR : Hid ((schOk ts && true) = true) := by show _ = _; rw [HS.out]; rfl
      clear e1 e2
      go_wp2_with fail
      go_ret2
      exact ⟨HB2.out, .inr ⟨HR.out, u, rfl, HT2.out⟩⟩
    | false =>
      have HR : Hid ((schOk ts && false) = false) := by show _ = _; rw [HS.out]; rfl
      go_wp2_with fail
      go_region
      all_goals
        go_wp2_with fail
        go_ret2
        exact ⟨by first | exact HB2.out | exact HB2.out.drew, .inl ⟨HR.out, T, z, rfl⟩⟩
set_option maxHeartbeats 1000000 in
theorem admitsBy_rl (ts : List (Int × Int)) (v : Value) (w : World) (hv : IsTyps w.heap.size w v ts) (hw : KR w) (he : ET w) : Calls Tryd.prog 15 #[.iface 48 (.agg #[]), v] w fun e w' => e = .returned (.bool (schOk ts && true)) ∧ Below w.heap.size w w' := by
  have HC : Hid (Calls Tryd.prog 21 #[.iface 48 (.agg #[]), v] w fun e w' => SfPost ts (schOk ts && true) w e w') := schemaFor_rl true ts v w hv hw he (fun _ u w S _ _ => anyAdmits _ w)
  clear hv hw he
  generalize (schOk ts && true) = o at HC ⊢
  go_enter Tryd.func15, Tryd.ntmps15
  go_wp2_with fail
  refine Calls.mono HC.out ?_
  rintro e w1 ⟨hb1, ⟨rfl, T, z, rfl⟩ | ⟨rfl, u, rfl, htr⟩⟩
  · go_wp2_with fail
    go_ret
    exact ⟨rfl, hb1⟩
  · clear htr
    go_wp2_with fail
    go_ret
    exact ⟨rfl, hb1⟩
set_option maxHeartbeats 1000000 in
theorem admitsBy_ss (ts : List (Int × Int)) (v : Value) (w : World) (hv : IsTyps w.heap.size w v ts) (hw : KR w) (he : ET w) : Calls Tryd.prog 15 #[.iface 51 (.agg #[]), v] w fun e w' => e = .returned (.bool (schOk ts && true)) ∧ Below w.heap.size w w' := by
  have HC : Hid (Calls Tryd.prog 21 #[.iface 51 (.agg #[]), v] w fun e w' => SfPost ts (schOk ts && true) w e w') := schemaFor_ss true ts v w hv hw he (fun _ u w S _ _ => anyAdmits _ w)
  clear hv hw he
  generalize (schOk ts && true) = o at HC ⊢
  go_enter Tryd.func15, Tryd.ntmps15
  go_wp2_with fail
  refine Calls.mono HC.out ?_
  rintro e w1 ⟨hb1, ⟨rfl, T, z, rfl⟩ | ⟨rfl, u, rfl, htr⟩⟩
  · go_wp2_with fail
    go_ret
    exact ⟨rfl, hb1⟩
  · clear htr
    go_wp2_with fail
    go_ret
    exact ⟨rfl, hb1⟩
set_option maxHeartbeats 1000000 in
theorem admitsBy_sc (ts : List (Int × Int)) (v : Value) (w : World) (hv : IsTyps w.heap.size w v ts) (hw : KR w) (he : ET w) : Calls Tryd.prog 15 #[.iface 57 (.agg #[.func (.func 26) #[] #[], .func (.func 27) #[] #[]]), v] w fun e w' => e = .returned (.bool (schOk ts && true)) ∧ Below w.heap.size w w' := by
  have HC : Hid (Calls Tryd.prog 21 #[.iface 57 (.agg #[.func (.func 26) #[] #[], .func (.func 27) #[] #[]]), v] w fun e w' => SfPost ts (schOk ts && true) w e w') := schemaFor_sc true ts v w hv hw he (fun _ u w S _ _ => anyAdmits _ w)
  clear hv hw he
  generalize (schOk ts && true) = o at HC ⊢
  go_enter Tryd.func15, Tryd.ntmps15
  go_wp2_with fail
  refine Calls.mono HC.out ?_
  rintro e w1 ⟨hb1, ⟨rfl, T, z, rfl⟩ | ⟨rfl, u, rfl, htr⟩⟩
  · go_wp2_with fail
    go_ret
    exact ⟨rfl, hb1⟩
  · clear htr
    go_wp2_with fail
    go_ret
    exact ⟨rfl, hb1⟩
set_option maxHeartbeats 1000000 in
theorem admitsBy_bc (ts : List (Int × Int)) (v : Value) (w : World) (hv : IsTyps w.heap.size w v ts) (hw : KR w) (he : ET w) : Calls Tryd.prog 15 #[.iface 61 (.agg #[.func (.func 28) #[] #[], .func (.func 29) #[] #[]]), v] w fun e w' => e = .returned (.bool (schOk ts && btOk ts)) ∧ Below w.heap.size w w' := by
  have HC : Hid (Calls Tryd.prog 21 #[.iface 61 (.agg #[.func (.func 28) #[] #[], .func (.func 29) #[] #[]]), v] w fun e w' => SfPost ts (schOk ts && btOk ts) w e w') := schemaFor_bc (btOk ts) ts v w hv hw he (fun hs u w S h hS => by have h1 := btAdmits ts 7 u 0 w S h hS; rw [bt_all hs] at h1; exact h1)
  clear hv hw he
  generalize (schOk ts && btOk ts) = o at HC ⊢
  go_enter Tryd.func15, Tryd.ntmps15
  go_wp2_with fail
  refine Calls.mono HC.out ?_
  rintro e w1 ⟨hb1, ⟨rfl, T, z, rfl⟩ | ⟨rfl, u, rfl, htr⟩⟩
  · go_wp2_with fail
    go_ret
    exact ⟨rfl, hb1⟩
  · clear htr
    go_wp2_with fail
    go_ret
    exact ⟨rfl, hb1⟩
set_option maxHeartbeats 1000000 in
theorem admitsBy_pr (ts : List (Int × Int)) (v : Value) (w : World) (hv : IsTyps w.heap.size w v ts) (hw : KR w) (he : ET w) : Calls Tryd.prog 15 #[.iface 59 (.agg #[]), v] w fun e w' => e = .returned (.bool (schOk ts && pm ts 7 0)) ∧ Below w.heap.size w w' := by
  have HC : Hid (Calls Tryd.prog 21 #[.iface 59 (.agg #[]), v] w fun e w' => SfPost ts (schOk ts && pm ts 7 0) w e w') := schemaFor_pr (pm ts 7 0) ts v w hv hw he (fun hs u w S h hS => prAdmits ts 7 7 (Nat.le_refl _) u 0 w S h hS)
  clear hv hw he
  generalize (schOk ts && pm ts 7 0) = o at HC ⊢
  go_enter Tryd.func15, Tryd.ntmps15
  go_wp2_with fail
  refine Calls.mono HC.out ?_
  rintro e w1 ⟨hb1, ⟨rfl, T, z, rfl⟩ | ⟨rfl, u, rfl, htr⟩⟩
  · go_wp2_with fail
    go_ret
    exact ⟨rfl, hb1⟩
  · clear htr
    go_wp2_with fail
    go_ret
    exact ⟨rfl, hb1⟩
end Go.Proofs.YtdnonmfjjejepaaDoor
