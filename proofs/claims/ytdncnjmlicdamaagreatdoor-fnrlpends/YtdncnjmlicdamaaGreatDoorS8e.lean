/- S7p, S7q, S8e: one text. -/
import Derived.Test.YtdncnjmlicdamaaGreatDoorS2h
import Derived.Test.YtdncnjmlicdamaaGreatDoorS3f
import Derived.Test.YtdncnjmlicdamaaGreatDoorS3j
import Derived.Test.YtdncnjmlicdamaaGreatDoorS7b
import Derived.Test.YtdncnjmlicdamaaGreatDoorSBq
import Derived.Test.YtdncnjmlicdamaaGreatDoorS8d
namespace Go.Proofs.YtdncnjmlicdamaaGreatDoor
open Go.RowKit Go.Sort
set_option linter.unusedVariables false
/-- All of the first j parts do. -/
def allTo (g : Nat → Option Nat) (h : Nat → Bool) (a : Nat) : Nat → Bool
  | 0 => true
  | j + 1 => allTo g h a j && h ((iter g a j).getD 0)
theorem allTo_succ {g : Nat → Option Nat} {h : Nat → Bool} {a j b : Nat} (hb : iter g a j = some b) : allTo g h a (j + 1) = (allTo g h a j && h b) := by simp [allTo, hb]
theorem allTo_false {g : Nat → Option Nat} {h : Nat → Bool} {a j : Nat} (hf : allTo g h a j = false) : ∀ m, j ≤ m → allTo g h a m = false := by
  intro m hm
  induction m with
  | zero => have : j = 0 := by omega
            subst this; exact hf
  | succ m ih =>
    by_cases hj : j = m + 1
    · subst hj; exact hf
    · have := ih (by omega)
      simp [allTo, this]
/-- The variable that says what is wrong with a schema or a value holds an error. -/
def ET (w : World) : Prop := 0 < w.heap.size ∧ ∃ T z, w.cell? ⟨0, 0, none⟩ = some (.iface T z)
theorem ET.below {w w' : World} {B : Nat} (h : ET w) (hb : Below w.heap.size w w') : ET w' := by
  obtain ⟨h1, T, z, h2⟩ := h
  exact ⟨by have := hb.size; omega, T, z, by rw [hb.cell (p := ⟨0, 0, none⟩) h1]; exact h2⟩
/-- What schemaFor leaves. -/
def SfPost (ts : List (Int × Int)) (ok : Bool) (w : World) (e : Ending) (w' : World) : Prop :=
  Below w.heap.size w w' ∧ ((ok = false ∧ ∃ T z, e = .returned (.tuple #[.pointer none, .iface T z])) ∨ (ok = true ∧ ∃ u, e = .returned (.tuple #[.pointer (some ⟨u, 0, none⟩), .nilIface]) ∧ TreeAt ts 7 w' (fun b => w.heap.size ≤ b ∧ b < w'.heap.size) u 0))
end Go.Proofs.YtdncnjmlicdamaaGreatDoor
namespace Go.Proofs.YtdncnjmlicdamaaGreatDoor
open Go.RowKit Go.Sort
set_option linter.unusedVariables false
theorem cell_1 {w : World} {u i : Nat} {v : Value} (h : w.cell? ⟨u, i, none⟩ = some v) (hu : u < w.heap.size) (o : Obj) : (w.alloc o).cell? ⟨u, i, none⟩ = some v := by
  rw [(bel1 w o).cell (p := ⟨u, i, none⟩) hu]; exact h
theorem ba_size (l : List UInt8) : ByteArray.size ⟨l.toArray⟩ = l.length := by show l.toArray.size = _; simp
theorem typed_ve {ts : List (Int × Int)} {vs : List It} (h : typedB ts vs = true) : schOk ts = true ∧ vs.length ≤ 200 ∧ ve ts vs 7 0 0 = some vs.length := by
  unfold typedB at h
  simp only [Bool.and_eq_true, decide_eq_true_eq, beq_iff_eq] at h
  exact ⟨h.1, h.2.1, h.2.2⟩
theorem items_wf {B : Nat} {w : World} {v : Value} {vs : List It} (h : IsItems B w v vs) : ∀ x ∈ vs, x.n < 18446744073709551616 ∧ x.s.size ≤ 1048577 := by
  obtain ⟨b, o, C, h1, _⟩ := h
  exact fun x hx => (h1.wf x hx).2
/-- What an encoding answers: the bytes, if it is a value that the format has. -/
def encB (ok : Bool) (l : List UInt8) : ByteArray := if ok then ⟨l.toArray⟩ else ⟨#[]⟩
/-- What encodeBy leaves. -/
def EncPost (ok : Bool) (l : List UInt8) (w : World) (e : Ending) (w' : World) : Prop :=
  (∃ x, e = .returned (.tuple #[.string (encB ok l), x]) ∧ ((ok = true ∧ x = .nilIface) ∨ (ok = false ∧ ∃ T z, x = .iface T z))) ∧ Below w.heap.size w w'
theorem anyAdmits (v : Value) (w : World) : Calls Tryz.prog 95 #[.agg #[], v] w fun e w' => e = .returned (.bool true) ∧ Below w.heap.size w w' := by
  go_enter Tryz.func95, Tryz.ntmps95
  go_wp2_with fail
  go_ret
  exact ⟨rfl, by first | exact Below.refl _ _ | exact bel1 _ _⟩
/-- Neither options nor unions, in the type at place a and behind it. -/
def bt (ts : List (Int × Int)) : Nat → Nat → Bool
  | 0, _ => false
  | f + 1, a => match ts[a]? with
    | none => false
    | some t => (!(decide (t.1 = 8 ∨ t.1 = 9))) && allTo (en ts f) (bt ts f) (a + 1) (kids t.1 t.2)
theorem bt_ok {ts : List (Int × Int)} {f a : Nat} (ha : a < ts.length) : bt ts (f + 1) a = ((!(decide (ts[a].1 = 8 ∨ ts[a].1 = 9))) && allTo (en ts f) (bt ts f) (a + 1) (kids ts[a].1 ts[a].2)) := by
  simp [bt, List.getElem?_eq_getElem ha]
/-- Neither options nor unions. -/
def btOk (ts : List (Int × Int)) : Bool := ts.all fun t => !(decide (t.1 = 8 ∨ t.1 = 9))
theorem bt_flat {ts : List (Int × Int)} : ∀ {f a e : Nat}, en ts f a = some e → (bt ts f a = true ↔ ∀ i (h : i < ts.length), a ≤ i → i < e → ¬ (ts[i].1 = 8 ∨ ts[i].1 = 9)) := by
  intro f
  induction f with
  | zero => intro a e h; cases h
  | succ f ih =>
    intro a e he
    obtain ⟨ha, hok, hit⟩ := en_inv he
    have key : ∀ j x, iter (en ts f) (a + 1) j = some x → (allTo (en ts f) (bt ts f) (a + 1) j = true ↔ ∀ i (h : i < ts.length), a + 1 ≤ i → i < x → ¬ (ts[i].1 = 8 ∨ ts[i].1 = 9)) := by
      intro j
      induction j with
      | zero =>
        intro x hx
        cases hx
        simp only [allTo, true_iff]
        intro i h h1 h2
        omega
      | succ j ihj =>
        intro x hx
        obtain ⟨y, hy⟩ := iter_part hx (Nat.le_succ j)
        rw [allTo_succ hy, Bool.and_eq_true, ihj y hy]
        rw [iter_succ, hy] at hx
        have hyx : y < x := (en_lt (show en ts f y = some x from hx)).1
        have hay : a + 1 ≤ y := iter_up (fun a e h => (en_lt h).1) hy (Nat.zero_le j) (iter_zero _ _)
        rw [ih (show en ts f y = some x from hx)]
        constructor
        · rintro ⟨h1, h2⟩ i hi h3 h4
          by_cases h5 : i < y
          · exact h1 i hi h3 h5
          · exact h2 i hi (by omega) h4
        · intro h1
          exact ⟨fun i hi h3 h4 => h1 i hi h3 (by omega), fun i hi h3 h4 => h1 i hi (by omega) h4⟩
    have hae : a < e := (en_lt he).1
    rw [bt_ok ha, Bool.and_eq_true, key _ _ hit]
    constructor
    · rintro ⟨h1, h2⟩ i hi h3 h4
      by_cases h5 : i = a
      · subst h5; simpa using h1
      · exact h2 i hi (by omega) h4
    · intro h1
      exact ⟨by simpa using h1 a ha (Nat.le_refl _) hae, fun i hi h3 h4 => h1 i hi (by omega) h4⟩
theorem bt_all {ts : List (Int × Int)} (hs : schOk ts = true) : bt ts 7 0 = btOk ts := by
  have h7 := (schOk_iff.1 hs).2
  rw [Bool.eq_iff_iff, bt_flat h7]
  unfold btOk
  rw [List.all_eq_true]
  constructor
  · intro h t ht
    obtain ⟨i, hi, rfl⟩ := List.getElem_of_mem ht
    simpa using h i hi (Nat.zero_le _) hi
  · intro h i hi _ _
    simpa using h ts[i] (List.getElem_mem hi)
end Go.Proofs.YtdncnjmlicdamaaGreatDoor
namespace Go.Proofs.YtdncnjmlicdamaaGreatDoor
open Go.RowKit Go.Sort
set_option linter.unusedVariables false
def rlpL (ts : List (Int × Int)) (vs : List It) : List UInt8 := rlE ts vs 7 0 0
set_option maxHeartbeats 1000000 in
theorem specRlpEnc_any (ts : List (Int × Int)) (vs : List It) (v v' : Value) (w : World) (hv : IsTyps w.heap.size w v ts) (hv' : IsItems w.heap.size w v' vs) :
    Calls Tryz.prog 9 #[v, v'] w fun e w' => e = .returned (.tuple #[.string (encB (typedB ts vs) (rlpL ts vs)), .bool (typedB ts vs)]) ∧ Below w.heap.size w w' := by
  have HC : Hid (Calls Tryz.prog 19 #[v, v'] w fun e w' => e = .returned (.bool (typedB ts vs)) ∧ Below w.heap.size w w') := specTyped_any ts vs v v' w hv hv'
  cases ht : typedB ts vs with
  | false =>
    have HR : Hid (encB false (rlpL ts vs) = ⟨#[]⟩) := rfl
    rw [ht] at HC
    clear hv hv' ht
    go_enter Tryz.func9, Tryz.ntmps9
    go_wp2_with fail
    refine Calls.mono HC.out ?_
    rintro e w1 ⟨rfl, hb1⟩
    go_wp2_with fail
    go_ret2
    exact ⟨by rw [HR.out]; try rfl, hb1⟩
  | true =>
    obtain ⟨hs, hl, hve⟩ := typed_ve ht
    have HE : Hid (∀ w', Below w.heap.size w w' → Calls Tryz.prog 20 #[v, .int .i64 0, v', .int .i64 0] w' fun e w'' => e = .returned (.tuple #[.string ⟨(rlpL ts vs).toArray⟩, .int .i64 vs.length]) ∧ Below w'.heap.size w' w'') := fun w' hb =>
      l4Enc_all ts vs hl 7 0 0 vs.length ts.length v v' w' (Nat.le_refl _) (schOk_iff.1 hs).2 hve ((hv.below hb).up hb.size) ((hv'.below hb).up hb.size)
    have HR : Hid (encB true (rlpL ts vs) = ⟨(rlpL ts vs).toArray⟩) := rfl
    rw [ht] at HC
    clear hv hv' ht hs hl hve
    go_enter Tryz.func9, Tryz.ntmps9
    go_wp2_with fail
    refine Calls.mono HC.out ?_
    rintro e w1 ⟨rfl, hb1⟩
    have HB1 : Hid (Below w.heap.size w w1) := hb1
    clear hb1
    go_wp2_with fail
    refine (HE.out w1 HB1.out).mono ?_
    rintro e w2 ⟨rfl, hb2⟩
    have HB2 : Hid (Below w.heap.size w w2) := HB1.out.trans (hb2.mono HB1.out.size)
    clear hb2
    go_wp2_with fail
    go_ret2
    exact ⟨by rw [HR.out]; try rfl, HB2.out⟩
set_option maxHeartbeats 2000000 in
theorem schemaFor_rlp (b : Bool) (ts : List (Int × Int)) (v : Value) (w : World) (hv : IsTyps w.heap.size w v ts) (hw : KR w) (he : ET w)
    (hA : schOk ts = true → ∀ (u : Nat) (w : World) (S : Nat → Prop), TreeAt ts 7 w S u 0 → (∀ c, S c → c < w.heap.size) → Calls Tryz.prog 95 #[.agg #[], .pointer (some ⟨u, 0, none⟩)] w fun e w' => e = .returned (.bool b) ∧ Below w.heap.size w w') :
    Calls Tryz.prog 32 #[.iface 45 (.agg #[]), v] w fun e w' => SfPost ts (schOk ts && b) w e w' := by
  have HC : Hid (Calls Tryz.prog 28 #[v] w fun e w' => PsPost ts w e w') := parseSchema_any ts v w hv hw
  have HE : Hid (ET w) := he
  have HA : Hid (schOk ts = true → ∀ (u : Nat) (w : World) (S : Nat → Prop), TreeAt ts 7 w S u 0 → (∀ c, S c → c < w.heap.size) → Calls Tryz.prog 95 #[.agg #[], .pointer (some ⟨u, 0, none⟩)] w fun e w' => e = .returned (.bool b) ∧ Below w.heap.size w w') := hA
  clear hv hw he hA
  go_enter Tryz.func32, Tryz.ntmps32
  go_wp2_with fail
  refine Calls.mono HC.out ?_
  rintro e w1 ⟨hb1, ⟨hs, rfl⟩ | ⟨hs, u, rfl, htr⟩⟩
  · have HR : Hid ((schOk ts && b) = false) := by show _ = _; rw [hs]; rfl
    obtain ⟨e1, T, z, e2⟩ := ET.below (B := 0) HE.out hb1
    clear hs
    go_wp2_with fail
    go_region
    all_goals
      go_wp2_with fail
      go_ret2
      exact ⟨by first | exact hb1 | exact hb1.drew, .inl ⟨HR.out, T, z, rfl⟩⟩
  · have HB1 : Hid (Below w.heap.size w w1) := hb1
    have HT : Hid (TreeAt ts 7 w1 (fun b => w.heap.size ≤ b ∧ b < w1.heap.size) u 0) := htr
    have HS : Hid (schOk ts = true) := hs
    clear hs htr hb1
    go_wp2_with fail
    refine (HA.out HS.out u _ _ HT.out (fun c hc => hc.2)).mono ?_
    rintro e w2 ⟨rfl, hb2⟩
    have HB2 : Hid (Below w.heap.size w w2) := HB1.out.trans (hb2.mono HB1.out.size)
    have HT2 : Hid (TreeAt ts 7 w2 (fun b => w.heap.size ≤ b ∧ b < w2.heap.size) u 0) := (HT.out.bel (fun c hc => hc.2) hb2).keep (fun c hc => ⟨hc.1, by have := hb2.size; omega⟩) (fun _ _ => rfl)
    obtain ⟨e1, T, z, e2⟩ := ET.below (B := 0) HE.out HB2.out
    clear hb2
    cases b with
    | true =>
      have HR : Hid ((schOk ts && true) = true) := by show _ = _; rw [HS.out]; rfl
      clear e1 e2
      go_wp2_with fail
      go_ret2
      exact ⟨HB2.out, .inr ⟨HR.out, u, rfl, HT2.out⟩⟩
    | false =>
      have HR : Hid ((schOk ts && false) = false) := by show _ = _; rw [HS.out]; rfl
      go_wp2_with fail
      go_region
      all_goals
        go_wp2_with fail
        go_ret2
        exact ⟨by first | exact HB2.out | exact HB2.out.drew, .inl ⟨HR.out, T, z, rfl⟩⟩
set_option maxHeartbeats 2000000 in
theorem encodeBy_rlp (b : Bool) (ts : List (Int × Int)) (vs : List It) (v v' : Value) (w : World) (hv : IsTyps w.heap.size w v ts) (hv' : IsItems w.heap.size w v' vs) (hw : KR w) (he : ET w)
    (hA : schOk ts = true → ∀ (u : Nat) (w : World) (S : Nat → Prop), TreeAt ts 7 w S u 0 → (∀ c, S c → c < w.heap.size) → Calls Tryz.prog 95 #[.agg #[], .pointer (some ⟨u, 0, none⟩)] w fun e w' => e = .returned (.bool b) ∧ Below w.heap.size w w') :
    Calls Tryz.prog 18 #[.iface 45 (.agg #[]), v, v'] w fun e w' => EncPost (b && typedB ts vs) (rlpL ts vs) w e w' := by
  have HC : Hid (Calls Tryz.prog 32 #[.iface 45 (.agg #[]), v] w fun e w' => SfPost ts (schOk ts && b) w e w') := schemaFor_rlp b ts v w hv hw he hA
  have HE : Hid (ET w) := he
  have HI : Hid (IsItems w.heap.size w v' vs) := hv'
  have hvs := items_wf hv'
  clear hv hv' hw he hA
  obtain ⟨o, ho⟩ : ∃ o, (b && typedB ts vs) = o := ⟨_, rfl⟩
  have HOE : Hid ((b && typedB ts vs) = o) := ho
  rw [ho]
  clear ho
  go_enter Tryz.func18, Tryz.ntmps18
  go_wp2_with fail
  refine Calls.mono HC.out ?_
  rintro e w1 ⟨hb1, ⟨hs, T0, z0, rfl⟩ | ⟨hs, u, rfl, htr⟩⟩
  · have HO : Hid (o = false) := by
      show _ = _
      rw [← HOE.out]
      cases ht : typedB ts vs with
      | false => simp
      | true => rw [(typed_ve ht).1] at hs; simpa using hs
    clear hs hvs
    go_wp2_with fail
    go_ret2
    exact ⟨⟨_, by rw [HO.out]; try rfl, .inr ⟨HO.out, T0, z0, rfl⟩⟩, hb1⟩
  · have hs' : schOk ts = true ∧ b = true := by simpa using hs
    obtain ⟨hsch, rfl⟩ := hs'
    have HV : Hid (Calls Tryz.prog 29 #[.pointer (some ⟨u, 0, none⟩), v'] w1 fun e w' => VoPost ts vs (fun b => w.heap.size ≤ b ∧ b < w1.heap.size) w1 e w') := valueOf_any ts vs u _ v' w1 hsch htr (fun c hc => hc.2) ((HI.out.below hb1).up hb1.size)
    have HB1 : Hid (Below w.heap.size w w1) := hb1
    clear hs htr hb1
    rcases Bool.eq_false_or_eq_true (typedB ts vs) with ht | ht
    · obtain ⟨hs, hl, hve⟩ := typed_ve ht
      have HO : Hid (o = true) := by show _ = _; rw [← HOE.out, ht]; rfl
      have hsz : (rlpL ts vs).length ≤ 1000000000 := Nat.le_trans (rlE_le (fun x h => (hvs x h).1) hl (schOk_iff.1 hs).2 hve) (by decide)
      have hsz2 : ByteArray.size ⟨(rlpL ts vs).toArray⟩ ≤ 1000000000 := by rw [ba_size]; exact hsz
      have HCL : Hid (∀ w, Calls Tryz.prog 33 #[.string ⟨(rlpL ts vs).toArray⟩] w fun e w' => e = .returned (.string ⟨(rlpL ts vs).toArray⟩) ∧ Below w.heap.size w w') := fun w => clone_any _ w (by omega)
      have HW : Hid (∀ x (S : Nat → Prop) w'', (∀ c, S c → c < w''.heap.size) → VAt ts vs 7 w'' S x 0 0 → Calls Tryz.prog 97 #[.agg #[], x] w'' fun e w3 => e = .returned (.string ⟨(rlpL ts vs).toArray⟩) ∧ Below w''.heap.size w'' w3) := fun x S w'' hS hx => write_rlp ts vs hvs hl 7 0 0 vs.length _ x w'' hve hx hS
      have HTB : Hid (typedB ts vs = true) := ht
      clear hsz hsz2 hs hl hve hvs ht hsch
      go_wp2_with fail
      refine Calls.mono HV.out ?_
      rintro e w2 ⟨hb2, x, rfl, hx⟩
      obtain ⟨⟨T, z, rfl⟩, hva⟩ := hx HTB.out
      rw [HTB.out]
      have HB2 : Hid (Below w.heap.size w w2) := HB1.out.trans (hb2.mono HB1.out.size)
      have HSS : Hid (∀ c, ((w.heap.size ≤ c ∧ c < w1.heap.size) ∨ (w1.heap.size ≤ c ∧ c < w2.heap.size)) → c < w2.heap.size) := fun c hc => by have := hb2.size; omega
      have HX : Hid (VAt ts vs 7 w2 (fun c => (w.heap.size ≤ c ∧ c < w1.heap.size) ∨ (w1.heap.size ≤ c ∧ c < w2.heap.size)) (.iface T z) 0 0) := hva
      clear hb2 hva hx
      go_wp2_with fail
      refine (HW.out _ _ w2 HSS.out HX.out).mono ?_
      rintro e w3 ⟨rfl, hb3⟩
      have HB3 : Hid (Below w.heap.size w w3) := HB2.out.trans (hb3.mono HB2.out.size)
      clear hb3
      go_wp2_with fail
      refine (HCL.out _).mono ?_
      rintro e w4 ⟨rfl, hb4⟩
      have HB4 : Hid (Below w.heap.size w w4) := HB3.out.trans (hb4.mono HB3.out.size)
      clear hb4
      go_wp2_with fail
      go_ret2
      exact ⟨⟨_, by rw [HO.out]; rfl, .inl ⟨HO.out, rfl⟩⟩, HB4.out⟩
    · have HO : Hid (o = false) := by show _ = _; rw [← HOE.out, ht]; rfl
      have HTB : Hid (typedB ts vs = false) := ht
      clear hvs ht hsch
      go_wp2_with fail
      refine Calls.mono HV.out ?_
      rintro e w2 ⟨hb2, x, rfl, _⟩
      rw [HTB.out]
      have HB2 : Hid (Below w.heap.size w w2) := HB1.out.trans (hb2.mono HB1.out.size)
      obtain ⟨e1, T, z, e2⟩ := ET.below (B := 0) HE.out HB2.out
      clear hb2
      go_wp2_with fail
      go_region
      all_goals
        go_wp2_with fail
        go_ret2
        exact ⟨⟨_, by rw [HO.out]; try rfl, .inr ⟨HO.out, T, z, rfl⟩⟩, by first | exact HB2.out | exact HB2.out.drew⟩
set_option maxHeartbeats 2000000 in
theorem implRlpEnc_any (ts : List (Int × Int)) (vs : List It) (v v' : Value) (w : World) (hv : IsTyps w.heap.size w v ts) (hv' : IsItems w.heap.size w v' vs) (hw : KR w) (he : ET w) :
    Calls Tryz.prog 8 #[v, v'] w fun e w' => e = .returned (.tuple #[.string (encB (typedB ts vs) (rlpL ts vs)), .bool (typedB ts vs)]) ∧ Below w.heap.size w w' := by
  have HC : Hid (∀ w', Below w.heap.size w w' → Calls Tryz.prog 18 #[.iface 45 (.agg #[]), v, v'] w' fun e w'' => EncPost (typedB ts vs) (rlpL ts vs) w' e w'') := fun w' hb => encodeBy_rlp (true) ts vs v v' w' ((hv.below hb).up hb.size) ((hv'.below hb).up hb.size) (hw.below hb) (ET.below (B := 0) he hb) (fun _ u w S _ _ => anyAdmits _ w)
  clear hv hv' hw he
  generalize (typedB ts vs) = o at HC ⊢
  go_enter Tryz.func8, Tryz.ntmps8
  go_wp2_with fail
  have HB1 : Hid (Below w.heap.size w w) := Below.refl _ _
  refine (HC.out w HB1.out).mono ?_
  rintro e w2 ⟨⟨x, rfl, hx⟩, hb2⟩
  have HB2 : Hid (Below w.heap.size w w2) := HB1.out.trans (hb2.mono HB1.out.size)
  clear hb2
  rcases hx with ⟨rfl, rfl⟩ | ⟨rfl, T, z, rfl⟩
  all_goals
    go_wp2_with fail
    go_region
    all_goals
      go_wp2_with fail
      go_ret2
      exact ⟨rfl, by first | exact HB2.out | exact HB2.out.drew⟩
end Go.Proofs.YtdncnjmlicdamaaGreatDoor
