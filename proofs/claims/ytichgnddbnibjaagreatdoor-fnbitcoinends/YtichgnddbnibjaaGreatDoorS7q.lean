/- What a codec admits; the tree of a schema for a codec: contracts. -/
import Derived.Test.YtichgnddbnibjaaGreatDoorS7p
import Derived.Test.YtichgnddbnibjaaGreatDoorS3j
import Derived.Test.YtichgnddbnibjaaGreatDoorS7b
import Derived.Test.YtichgnddbnibjaaGreatDoorS7t
namespace Go.Proofs.YtichgnddbnibjaaGreatDoor
open Go.RowKit Go.Sort
set_option linter.unusedVariables false
theorem cell_1 {w : World} {u i : Nat} {v : Value} (h : w.cell? ⟨u, i, none⟩ = some v) (hu : u < w.heap.size) (o : Obj) : (w.alloc o).cell? ⟨u, i, none⟩ = some v := by
  rw [(bel1 w o).cell (p := ⟨u, i, none⟩) hu]; exact h
theorem ba_size (l : List UInt8) : ByteArray.size ⟨l.toArray⟩ = l.length := by show l.toArray.size = _; simp
theorem typed_ve {ts : List (Int × Int)} {vs : List It} (h : typedB ts vs = true) : schOk ts = true ∧ vs.length ≤ 200 ∧ ve ts vs 7 0 0 = some vs.length := by
  unfold typedB at h
  simp only [Bool.and_eq_true, decide_eq_true_eq, beq_iff_eq] at h
  exact ⟨h.1, h.2.1, h.2.2⟩
theorem items_wf {B : Nat} {w : World} {v : Value} {vs : List It} (h : IsItems B w v vs) : ∀ x ∈ vs, x.n < 18446744073709551616 ∧ x.s.size ≤ 1048577 := by
  obtain ⟨b, o, C, h1, _⟩ := h
  exact fun x hx => (h1.wf x hx).2
/-- What an encoding answers: the bytes, if it is a value that the format has. -/
def encB (ok : Bool) (l : List UInt8) : ByteArray := if ok then ⟨l.toArray⟩ else ⟨#[]⟩
/-- What encodeBy leaves. -/
def EncPost (ok : Bool) (l : List UInt8) (w : World) (e : Ending) (w' : World) : Prop :=
  (∃ x, e = .returned (.tuple #[.string (encB ok l), x]) ∧ ((ok = true ∧ x = .nilIface) ∨ (ok = false ∧ ∃ T z, x = .iface T z))) ∧ Below w.heap.size w w'
/-- Neither options nor unions, in the type at place a and behind it. -/
def bt (ts : List (Int × Int)) : Nat → Nat → Bool
  | 0, _ => false
  | f + 1, a => match ts[a]? with
    | none => false
    | some t => (!(decide (t.1 = 8 ∨ t.1 = 9))) && allTo (en ts f) (bt ts f) (a + 1) (kids t.1 t.2)
theorem bt_ok {ts : List (Int × Int)} {f a : Nat} (ha : a < ts.length) : bt ts (f + 1) a = ((!(decide (ts[a].1 = 8 ∨ ts[a].1 = 9))) && allTo (en ts f) (bt ts f) (a + 1) (kids ts[a].1 ts[a].2)) := by
  simp [bt, List.getElem?_eq_getElem ha]
/-- Neither options nor unions. -/
def btOk (ts : List (Int × Int)) : Bool := ts.all fun t => !(decide (t.1 = 8 ∨ t.1 = 9))
theorem bt_flat {ts : List (Int × Int)} : ∀ {f a e : Nat}, en ts f a = some e → (bt ts f a = true ↔ ∀ i (h : i < ts.length), a ≤ i → i < e → ¬ (ts[i].1 = 8 ∨ ts[i].1 = 9)) := by
  intro f
  induction f with
  | zero => intro a e h; cases h
  | succ f ih =>
    intro a e he
    obtain ⟨ha, hok, hit⟩ := en_inv he
    have key : ∀ j x, iter (en ts f) (a + 1) j = some x → (allTo (en ts f) (bt ts f) (a + 1) j = true ↔ ∀ i (h : i < ts.length), a + 1 ≤ i → i < x → ¬ (ts[i].1 = 8 ∨ ts[i].1 = 9)) := by
      intro j
      induction j with
      | zero =>
        intro x hx
        cases hx
        simp only [allTo, true_iff]
        intro i h h1 h2
        omega
      | succ j ihj =>
        intro x hx
        obtain ⟨y, hy⟩ := iter_part hx (Nat.le_succ j)
        rw [allTo_succ hy, Bool.and_eq_true, ihj y hy]
        rw [iter_succ, hy] at hx
        have hyx : y < x := (en_lt (show en ts f y = some x from hx)).1
        have hay : a + 1 ≤ y := iter_up (fun a e h => (en_lt h).1) hy (Nat.zero_le j) (iter_zero _ _)
        rw [ih (show en ts f y = some x from hx)]
        constructor
        · rintro ⟨h1, h2⟩ i hi h3 h4
          by_cases h5 : i < y
          · exact h1 i hi h3 h5
          · exact h2 i hi (by omega) h4
        · intro h1
          exact ⟨fun i hi h3 h4 => h1 i hi h3 (by omega), fun i hi h3 h4 => h1 i hi (by omega) h4⟩
    have hae : a < e := (en_lt he).1
    rw [bt_ok ha, Bool.and_eq_true, key _ _ hit]
    constructor
    · rintro ⟨h1, h2⟩ i hi h3 h4
      by_cases h5 : i = a
      · subst h5; simpa using h1
      · exact h2 i hi (by omega) h4
    · intro h1
      exact ⟨by simpa using h1 a ha (Nat.le_refl _) hae, fun i hi h3 h4 => h1 i hi (by omega) h4⟩
theorem bt_all {ts : List (Int × Int)} (hs : schOk ts = true) : bt ts 7 0 = btOk ts := by
  have h7 := (schOk_iff.1 hs).2
  rw [Bool.eq_iff_iff, bt_flat h7]
  unfold btOk
  rw [List.all_eq_true]
  constructor
  · intro h t ht
    obtain ⟨i, hi, rfl⟩ := List.getElem_of_mem ht
    simpa using h i hi (Nat.zero_le _) hi
  · intro h i hi _ _
    simpa using h ts[i] (List.getElem_mem hi)
set_option maxHeartbeats 2000000 in
theorem btAdmits (ts : List (Int × Int)) : ∀ (f u a : Nat) (w : World) (S : Nat → Prop), TreeAt ts f w S u a → (∀ c, S c → c < w.heap.size) →
    Calls Tryz.prog 145 #[.agg #[.func (.func 45) #[] #[], .func (.func 46) #[] #[]], .pointer (some ⟨u, 0, none⟩)] w fun e w' => e = .returned (.bool (bt ts f a)) ∧ Below w.heap.size w w' := by
  intro f
  induction f with
  | zero => intro u a w S h; exact h.elim
  | succ f ih =>
    intro u a w S h hS
    obtain ⟨ha, e, ad, cap, hok, hit, hu, c0, c1, c5, h3, h4, h5⟩ := h.openT
    have hul := hS u hu
    have hK6 := kids_le hok
    have HI : Hid (∀ (u a : Nat) (w : World) (S : Nat → Prop), TreeAt ts f w S u a → (∀ c, S c → c < w.heap.size) → Calls Tryz.prog 145 #[.agg #[.func (.func 45) #[] #[], .func (.func 46) #[] #[]], .pointer (some ⟨u, 0, none⟩)] w fun e w' => e = .returned (.bool (bt ts f a)) ∧ Below w.heap.size w w') := ih
    have HD : Hid (bt ts (f + 1) a = ((!(decide (ts[a].1 = 8 ∨ ts[a].1 = 9))) && allTo (en ts f) (bt ts f) (a + 1) (kids ts[a].1 ts[a].2))) := bt_ok ha
    obtain ⟨K, hK⟩ : ∃ K, kids ts[a].1 ts[a].2 = K := ⟨_, rfl⟩
    obtain ⟨k, hk⟩ : ∃ k, ts[a].1 = k := ⟨_, rfl⟩
    rw [hK] at c5 h3 h5 hit hK6 HD
    rw [hk] at c0 HD
    have HS : Hid (∀ c, S c → c < w.heap.size) := hS
    have HH : Hid (K = 0 ∨ ∃ g, ad = some ⟨g, 0, none⟩ ∧ g < w.heap.size ∧ ∀ j, j < K → ∃ c p, iter (en ts f) (a + 1) j = some p ∧ w.cell? ⟨g, j, none⟩ = some (.pointer (some ⟨c, 0, none⟩)) ∧ TreeAt ts f w S c p) := by
      rcases h5 with h5 | ⟨g, hg, hp⟩
      · exact .inl h5
      · rcases Nat.eq_zero_or_pos K with h0 | h0
        · exact .inl h0
        · obtain ⟨c, p, _, hc, _⟩ := hp 0 h0
          exact .inr ⟨g, hg, block_lt_of_cell hc, hp⟩
    clear ih h h5 hok hit hK hk hS c1
    by_cases h8 : k = 8
    · subst h8
      have HR : Hid (bt ts (f + 1) a = false) := by show _ = _; rw [HD.out]; rfl
      have r0 := cell_1 c0 hul (.cells #[.func (.func 45) #[] #[], .func (.func 46) #[] #[]] 56)
      go_enter Tryz.func145, Tryz.ntmps145
      go_wp2_with fail
      go_ret
      exact ⟨by rw [HR.out]; try rfl, by first | exact bel1 _ _ | exact Below.refl _ _⟩
    · by_cases h9 : k = 9
      · subst h9
        have HR : Hid (bt ts (f + 1) a = false) := by show _ = _; rw [HD.out]; rfl
        have r0 := cell_1 c0 hul (.cells #[.func (.func 45) #[] #[], .func (.func 46) #[] #[]] 56)
        go_enter Tryz.func145, Tryz.ntmps145
        go_wp2_with fail
        go_ret
        exact ⟨by rw [HR.out]; try rfl, by first | exact bel1 _ _ | exact Below.refl _ _⟩
      · have HD2 : Hid (bt ts (f + 1) a = allTo (en ts f) (bt ts f) (a + 1) K) := by show _ = _; rw [HD.out]; simp [h8, h9]
        have e8 := beqF h8
        have e9 := beqF h9
        have r0 := cell_1 c0 hul (.cells #[.func (.func 45) #[] #[], .func (.func 46) #[] #[]] 56)
        have r5 := cell_1 c5 hul (.cells #[.func (.func 45) #[] #[], .func (.func 46) #[] #[]] 56)
        clear h8 h9 HD
        go_enter Tryz.func145, Tryz.ntmps145
        go_wp2_with fail
        go_loopg [26] K (fun gk i wr => ∃ j : Nat, j + gk = K ∧ i = .int .i64 j ∧ allTo (en ts f) (bt ts f) (a + 1) j = true ∧ Below (w.heap.size + 1) (w.alloc (.cells #[.func (.func 45) #[] #[], .func (.func 46) #[] #[]] 56)) wr)
        case atStart => exact ⟨0, by omega, rfl, rfl, Below.refl _ _⟩
        case round =>
          obtain ⟨j, hj', rfl, hall, hbel⟩ := hrel
          have HJ : Hid (j + gk = K) := hj'
          have hj : j ≤ K := by omega
          have HALL : Hid (allTo (en ts f) (bt ts f) (a + 1) j = true) := hall
          have HB : Hid (Below (w.heap.size + 1) (w.alloc (.cells #[.func (.func 45) #[] #[], .func (.func 46) #[] #[]] 56)) wr) := hbel
          have x0 : wr.cell? ⟨w.heap.size, 0, none⟩ = some (.func (.func 45) #[] #[]) := by rw [hbel.cell (p := ⟨w.heap.size, 0, none⟩) (by simp)]; simp [go_sem]
          have x1 : wr.cell? ⟨w.heap.size, 1, none⟩ = some (.func (.func 46) #[] #[]) := by rw [hbel.cell (p := ⟨w.heap.size, 1, none⟩) (by simp)]; simp [go_sem]
          have HBW : Hid (Below w.heap.size w wr) := (bel1 _ _).trans (hbel.mono (by omega))
          clear hj' hall
          by_cases hjk : j < K
          · obtain ⟨g, rfl, hg, hk⟩ := HH.out.resolve_left (by omega)
            obtain ⟨c, p, hp, hcell, htr⟩ := hk j hjk
            have cj : wr.cell? ⟨g, j, none⟩ = some (.pointer (some ⟨c, 0, none⟩)) := by rw [HBW.out.cell (p := ⟨g, j, none⟩) hg]; exact hcell
            have HT : Hid (TreeAt ts f wr S c p) := htr.bel HS.out HBW.out
            have HN : Hid (allTo (en ts f) (bt ts f) (a + 1) (j + 1) = bt ts f p) := by show _ = _; rw [allTo_succ hp, HALL.out]; rfl
            have HSw : Hid (∀ c, S c → c < wr.heap.size) := fun c hc => by have := HS.out c hc; have := HBW.out.size; omega
            clear hk hp hcell htr hbel
            go_wp2_with fail
            refine (HI.out c p _ S HT.out HSw.out).mono ?_
            rintro e w2 ⟨rfl, hb2⟩
            have HB2 : Hid (Below (w.heap.size + 1) (w.alloc (.cells #[.func (.func 45) #[] #[], .func (.func 46) #[] #[]] 56)) w2) := HB.out.trans (hb2.mono (by have := HB.out.size; simpa using this))
            have HBW2 : Hid (Below w.heap.size w w2) := HBW.out.trans (hb2.mono HBW.out.size)
            clear hb2 x0 x1 cj
            cases hb : bt ts f p with
            | true =>
              have HN2 : Hid (allTo (en ts f) (bt ts f) (a + 1) (j + 1) = true) := HN.out.trans hb
              clear hb
              go_wp2_with fail
              go_roundg (gk - 1)
              case rel => exact ⟨j + 1, by have := HJ.out; omega, by go_num, HN2.out, HB2.out⟩
              case measure => have := HJ.out; omega
            | false =>
              have HR : Hid (bt ts (f + 1) a = false) := by show _ = _; rw [HD2.out]; exact allTo_false (HN.out.trans hb) K (by omega)
              clear hb
              go_wp2_with fail
              go_ret
              exact ⟨by rw [HR.out]; try rfl, HBW2.out⟩
          · have e1 : j = K := by omega
            have HR : Hid (bt ts (f + 1) a = true) := by show _ = _; rw [HD2.out, ← e1]; exact HALL.out
            clear e1 hbel x0 x1
            go_wp2_with fail
            go_ret
            exact ⟨by rw [HR.out]; try rfl, HBW.out⟩
end Go.Proofs.YtichgnddbnibjaaGreatDoor
