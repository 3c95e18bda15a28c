/- SCALE and Bitcoin's bytes read, both sides: contracts. -/
import Derived.Test.YtichgnddbnibjaaGreatDoorSBh
import Derived.Test.YtichgnddbnibjaaGreatDoorSBs
import Derived.Test.YtichgnddbnibjaaGreatDoorSAb
import Derived.Test.YtichgnddbnibjaaGreatDoorS7i
namespace Go.Proofs.YtichgnddbnibjaaGreatDoor
open Go.RowKit Go.Sort
set_option linter.unusedVariables false
/-- What is read of b: the value of the schema, where b is one. -/
def decR (get : List UInt8 → Nat × Nat × Bool) (ok : Bool) (ts : List (Int × Int)) (b : ByteArray) : Option (List It) :=
  if ok = true then (match scD get ts 7 0 b.data.toList with | some (l, m) => if m = b.size ∧ l.length ≤ 200 then some l else none | none => none) else none
theorem decR_no {get : List UInt8 → Nat × Nat × Bool} {ts : List (Int × Int)} {b : ByteArray} : decR get false ts b = none := rfl
theorem decR_none {get : List UInt8 → Nat × Nat × Bool} {ok : Bool} {ts : List (Int × Int)} {b : ByteArray} (h : scD get ts 7 0 b.data.toList = none) : decR get ok ts b = none := by
  unfold decR; rw [h]; simp
theorem decR_bad {get : List UInt8 → Nat × Nat × Bool} {ok : Bool} {ts : List (Int × Int)} {b : ByteArray} {l : List It} {m : Nat} (h : scD get ts 7 0 b.data.toList = some (l, m)) (hn : ¬ (m = b.size ∧ l.length ≤ 200)) : decR get ok ts b = none := by
  unfold decR; rw [h]; simp only [if_neg hn]; simp
theorem decR_yes {get : List UInt8 → Nat × Nat × Bool} {ts : List (Int × Int)} {b : ByteArray} {l : List It} (h : scD get ts 7 0 b.data.toList = some (l, b.size)) (hn : l.length ≤ 200) : decR get true ts b = some l := by
  unfold decR; rw [h]; simp [hn]
theorem decR_inv {get : List UInt8 → Nat × Nat × Bool} {ok : Bool} {ts : List (Int × Int)} {b : ByteArray} {l : List It} (h : decR get ok ts b = some l) : ok = true ∧ scD get ts 7 0 b.data.toList = some (l, b.size) ∧ l.length ≤ 200 := by
  unfold decR at h
  cases ok with
  | false => simp at h
  | true =>
    simp only [if_true] at h
    split at h
    · rename_i l' m hs
      split at h
      · rename_i hc
        simp only [Option.some.injEq] at h
        subst h
        rw [← hc.1]
        exact ⟨rfl, hs, hc.2⟩
      · cases h
    · cases h
theorem decR_wf {cnt : Nat → List UInt8} {get : List UInt8 → Nat × Nat × Bool} (hc : CntGet cnt get) {ok : Bool} {ts : List (Int × Int)} {b : ByteArray} (hs : ok = true → schOk ts = true) : ((decR get ok ts b).getD []).length ≤ 200 ∧ ∀ x ∈ (decR get ok ts b).getD [], inI x.k ∧ x.n < 18446744073709551616 ∧ x.s.size ≤ 1048577 := by
  cases h : decR get ok ts b with
  | none => exact ⟨by simp, by simp⟩
  | some l =>
    obtain ⟨h1, h2, h3⟩ := decR_inv h
    have q := (scD_back hc (schOk_iff.1 (hs h1)).2 h2).2.1
    refine ⟨h3, fun x hx => ?_⟩
    have q2 := q x hx
    exact ⟨⟨by omega, by omega⟩, q2.2.1, by omega⟩
theorem grew_below {w w' : World} {v' : Value} (h : Grew w w' (.slice none 0 0) v') : Below w.heap.size w w' :=
  ⟨h.1.os, h.1.tape, h.1.output, h.1.size, fun k hk => h.1.block k hk (by simp [Value.ownBlock])⟩
/-- What a reading of a format leaves: the value, owned. -/
def DecV (R : Option (List It)) (w : World) (e : Ending) (w' : World) : Prop :=
  (∃ v, e = .returned (.tuple #[v, .bool R.isSome]) ∧ OwnIt w.heap.size w' v (R.getD [])) ∧ Below w.heap.size w w'
/-- The same, with an error in the place of a truth. -/
def DecE (R : Option (List It)) (w : World) (e : Ending) (w' : World) : Prop :=
  ((R = none ∧ ∃ T z, e = .returned (.tuple #[.slice none 0 0, .iface T z])) ∨ ∃ l v, R = some l ∧ e = .returned (.tuple #[v, .nilIface]) ∧ OwnIt w.heap.size w' v l) ∧ Below w.heap.size w w'
/-- What takeWhole leaves. -/
def TwPost (get : List UInt8 → Nat × Nat × Bool) (T : TypeId) (z : Value) (ts : List (Int × Int)) (f a : Nat) (S0 : Nat → Prop) (b : ByteArray) (w : World) (e : Ending) (w' : World) : Prop :=
  Below w.heap.size w w' ∧
  (((∀ l, scD get ts f a b.data.toList ≠ some (l, b.size)) ∧ e = .returned (.tuple #[.nilIface, .iface T z])) ∨
   (∃ l T' y, scD get ts f a b.data.toList = some (l, b.size) ∧ e = .returned (.tuple #[.iface T' y, .nilIface]) ∧ DAt ts f w' (fun c => S0 c ∨ (w.heap.size ≤ c ∧ c < w'.heap.size)) (.iface T' y) a l))
set_option maxRecDepth 100000 in
set_option maxHeartbeats 2000000 in
theorem takeWhole_bc (T : TypeId) (z : Value) (ts : List (Int × Int)) (f a u : Nat) (S0 : Nat → Prop) (b : ByteArray) (w : World) (ht : TreeAt ts f w S0 u a) (hS0 : ∀ c, S0 c → c < w.heap.size) (hb : b.size ≤ 1048576) (he : EFv T z w) :
    Calls Tryz.prog 128 #[.iface 54 (.agg #[.func (.func 45) #[] #[], .func (.func 46) #[] #[]]), .pointer (some ⟨u, 0, none⟩), .string b] w fun e w' => TwPost getSize T z ts f a S0 b w e w' := by
  have HC : Hid (Calls Tryz.prog 138 #[.agg #[.func (.func 45) #[] #[], .func (.func 46) #[] #[]], .pointer (some ⟨u, 0, none⟩), .string b] w fun e w' => TkPost getSize T z ts f a S0 b w e w') := take_bc T z ts f a u S0 b w ht hS0 hb he
  have HE : Hid (EFv T z w) := he
  clear ht hS0 he
  go_enter Tryz.func128, Tryz.ntmps128
  go_wp2_with fail
  refine Calls.mono HC.out ?_
  rintro e w1 ⟨hb1, ⟨hno, x, y, hx, rfl⟩ | ⟨l, m, T', y, hsd, hm, rfl, hd⟩⟩
  · have HN : Hid (∀ l, scD getSize ts f a b.data.toList ≠ some (l, b.size)) := fun l h => by rw [hno] at h; cases h
    clear hno hx
    go_wp2_with fail
    go_ret2
    exact ⟨hb1, .inl ⟨HN.out, rfl⟩⟩
  · have HB1 : Hid (Below w.heap.size w w1) := hb1
    have HD : Hid (DAt ts f w1 (fun c => S0 c ∨ (w.heap.size ≤ c ∧ c < w1.heap.size)) (.iface T' y) a l) := hd
    have hemp : (b.extract m b.size).toList.isEmpty = decide (b.size - m = 0) := by rw [str_empty, ex_sz]
    by_cases hmb : m = b.size
    · have HS : Hid (scD getSize ts f a b.data.toList = some (l, b.size)) := by show _ = _; rw [← hmb]; exact hsd
      have hemp2 : (b.extract m b.size).toList.isEmpty = true := by rw [hemp]; simp; omega
      obtain ⟨R, hR⟩ : ∃ R, b.extract m b.size = R := ⟨_, rfl⟩
      rw [hR] at hemp2 ⊢
      clear hsd hd hemp hR hb1
      go_wp2_with fail
      go_ret2
      exact ⟨HB1.out, .inr ⟨l, _, _, HS.out, rfl, HD.out⟩⟩
    · have HN : Hid (∀ l, scD getSize ts f a b.data.toList ≠ some (l, b.size)) := fun l' h => by
        rw [hsd] at h
        simp only [Option.some.injEq, Prod.mk.injEq] at h
        exact hmb h.2
      have hemp2 : (b.extract m b.size).toList.isEmpty = false := by rw [hemp]; simp; omega
      obtain ⟨R, hR⟩ : ∃ R, b.extract m b.size = R := ⟨_, rfl⟩
      rw [hR] at hemp2 ⊢
      obtain ⟨e1, e2⟩ := EFv.below HE.out HB1.out
      clear hsd hd hemp hR hb1
      go_wp2_with fail
      go_region
      all_goals
        go_wp2_with fail
        go_ret2
        exact ⟨by first | exact HB1.out | exact HB1.out.drew, .inl ⟨HN.out, rfl⟩⟩
set_option maxRecDepth 100000 in
set_option maxHeartbeats 2000000 in
theorem read_bc (T : TypeId) (z : Value) (ts : List (Int × Int)) (f a u : Nat) (S0 : Nat → Prop) (b : ByteArray) (w : World) (ht : TreeAt ts f w S0 u a) (hS0 : ∀ c, S0 c → c < w.heap.size) (hb : b.size ≤ 1048576) (he : EFv T z w) :
    Calls Tryz.prog 126 #[.agg #[.func (.func 45) #[] #[], .func (.func 46) #[] #[]], .pointer (some ⟨u, 0, none⟩), .string b] w fun e w' => TwPost getSize T z ts f a S0 b w e w' := by
  have HB0 : Hid (Below w.heap.size w (w.alloc (.cells #[.func (.func 45) #[] #[], .func (.func 46) #[] #[]] 54))) := bel1 _ _
  have HC : Hid (Calls Tryz.prog 128 #[.iface 54 (.agg #[.func (.func 45) #[] #[], .func (.func 46) #[] #[]]), .pointer (some ⟨u, 0, none⟩), .string b] (w.alloc (.cells #[.func (.func 45) #[] #[], .func (.func 46) #[] #[]] 54)) fun e w' => TwPost getSize T z ts f a S0 b (w.alloc (.cells #[.func (.func 45) #[] #[], .func (.func 46) #[] #[]] 54)) e w') :=
    takeWhole_bc T z ts f a u S0 b _ (ht.bel hS0 HB0.out) (fun c hc => Nat.lt_of_lt_of_le (hS0 c hc) HB0.out.size) hb (he.below HB0.out)
  clear ht hS0 he
  go_enter Tryz.func126, Tryz.ntmps126
  go_wp2_with fail
  refine Calls.mono HC.out ?_
  rintro e w1 ⟨hb1, ⟨hno, rfl⟩ | ⟨l, T', y, hsd, rfl, hd⟩⟩
  · have HB1 : Hid (Below w.heap.size w w1) := HB0.out.trans (hb1.mono HB0.out.size)
    have HN : Hid (∀ l, scD getSize ts f a b.data.toList ≠ some (l, b.size)) := hno
    clear hno hb1
    go_wp2_with fail
    go_ret2
    exact ⟨HB1.out, .inl ⟨HN.out, rfl⟩⟩
  · have HB1 : Hid (Below w.heap.size w w1) := HB0.out.trans (hb1.mono HB0.out.size)
    have HS : Hid (scD getSize ts f a b.data.toList = some (l, b.size)) := hsd
    have HD : Hid (DAt ts f w1 (fun c => S0 c ∨ (w.heap.size ≤ c ∧ c < w1.heap.size)) (.iface T' y) a l) := hd.keep (fun c hc => hc.imp id (fun h => ⟨by have := HB0.out.size; omega, h.2⟩)) (fun _ _ => rfl)
    clear hsd hd hb1
    go_wp2_with fail
    go_ret2
    exact ⟨HB1.out, .inr ⟨l, _, _, HS.out, rfl, HD.out⟩⟩
set_option maxRecDepth 100000 in
set_option maxHeartbeats 4000000 in
theorem decodeBy_bc (bb : Bool) (ts : List (Int × Int)) (v : Value) (b : ByteArray) (w : World) (hv : IsTyps w.heap.size w v ts) (hb : b.size ≤ 1048576) (hw : KR w) (he : ET w) (hf : EF w)
    (hA : schOk ts = true → ∀ (u : Nat) (w : World) (S : Nat → Prop), TreeAt ts 7 w S u 0 → (∀ c, S c → c < w.heap.size) → Calls Tryz.prog 145 #[.agg #[.func (.func 45) #[] #[], .func (.func 46) #[] #[]], .pointer (some ⟨u, 0, none⟩)] w fun e w' => e = .returned (.bool bb) ∧ Below w.heap.size w w') :
    Calls Tryz.prog 28 #[.iface 56 (.agg #[.func (.func 45) #[] #[], .func (.func 46) #[] #[]]), v, .string b] w fun e w' => DecE (decR getSize (schOk ts && bb) ts b) w e w' := by
  have HC : Hid (Calls Tryz.prog 43 #[.iface 56 (.agg #[.func (.func 45) #[] #[], .func (.func 46) #[] #[]]), v] w fun e w' => SfPost ts (schOk ts && bb) w e w') := schemaFor_bc bb ts v w hv hw he hA
  obtain ⟨T, z, hef⟩ := hf
  have HE : Hid (EFv T z w) := hef
  obtain ⟨o, ho⟩ : ∃ o, (schOk ts && bb) = o := ⟨_, rfl⟩
  have HOE : Hid ((schOk ts && bb) = o) := ho
  rw [ho] at HC ⊢
  clear hv hw he hA ho hef
  go_enter Tryz.func28, Tryz.ntmps28
  go_wp2_with fail
  refine Calls.mono HC.out ?_
  rintro e w1 ⟨hb1, ⟨rfl, T0, z0, rfl⟩ | ⟨rfl, u, rfl, htr⟩⟩
  · go_wp2_with fail
    go_ret2
    exact ⟨.inl ⟨decR_no, T0, z0, rfl⟩, hb1⟩
  · have HB1 : Hid (Below w.heap.size w w1) := hb1
    have h7 : schOk ts = true := by have := HOE.out; simp at this; exact this.1
    have he7 := (schOk_iff.1 h7).2
    have HR : Hid (Calls Tryz.prog 126 #[.agg #[.func (.func 45) #[] #[], .func (.func 46) #[] #[]], .pointer (some ⟨u, 0, none⟩), .string b] w1 fun e w' => TwPost getSize T z ts 7 0 (fun c => w.heap.size ≤ c ∧ c < w1.heap.size) b w1 e w') := read_bc T z ts 7 0 u _ b w1 htr (fun c hc => hc.2) hb (HE.out.below hb1)
    clear htr hb1
    go_wp2_with fail
    refine Calls.mono HR.out ?_
    rintro e w2 ⟨hb2, ⟨hno, rfl⟩ | ⟨l, T', y, hsd, rfl, hd⟩⟩
    · have HB2 : Hid (Below w.heap.size w w2) := HB1.out.trans (hb2.mono HB1.out.size)
      have HN : Hid (decR getSize true ts b = none) := by
        show _ = _
        cases hs : scD getSize ts 7 0 b.data.toList with
        | none => exact decR_none hs
        | some lm =>
          obtain ⟨l, m⟩ := lm
          exact decR_bad hs (fun h => hno l (by rw [hs, h.1]))
      clear hno hb2
      go_wp2_with fail
      go_ret2
      exact ⟨.inl ⟨HN.out, T, z, rfl⟩, HB2.out⟩
    · have HB2 : Hid (Below w.heap.size w w2) := HB1.out.trans (hb2.mono HB1.out.size)
      have hll := (scD_many he7 hsd).2
      have hll2 : l.length ≤ 1801088541 := by simpa using hll
      have HIO : Hid (Calls Tryz.prog 50 #[.iface T' y, .slice none 0 0] w2 fun e w' => IoPost w.heap.size w2 (.slice none 0 0) ([] ++ l) e w') :=
        itemsOf_all ts 7 _ 0 l [] _ (.slice none 0 0) w.heap.size w2 hd (fun c hc => by have := hb2.size; rcases hc with h | h <;> omega) (fun c hc => by simp [Value.ownBlock]) (OwnIt.nil _ _) HB2.out.size (by simp; omega)
      rw [List.nil_append] at HIO
      have HSD : Hid (scD getSize ts 7 0 b.data.toList = some (l, b.size)) := hsd
      clear hsd hd hb2 hll
      go_wp2_with fail
      refine Calls.mono HIO.out ?_
      rintro e w3 ⟨v3, rfl, hown, hgr⟩
      have HB3 : Hid (Below w.heap.size w w3) := HB2.out.trans ((grew_below hgr).mono HB2.out.size)
      have HOW : Hid (OwnIt w.heap.size w3 v3 l) := hown
      obtain ⟨ad, cap, rfl, q1, q2, _⟩ := hown.form
      unfold maxLen at q2
      clear hown hgr
      by_cases h200 : l.length ≤ 200
      · have HY : Hid (decR getSize true ts b = some l) := decR_yes HSD.out h200
        have i1 : decide ((200 : Int) < (l.length : Int)) = false := by simp; omega
        go_wp2_with fail
        go_ret2
        exact ⟨.inr ⟨l, _, HY.out, rfl, HOW.out⟩, HB3.out⟩
      · have HY : Hid (decR getSize true ts b = none) := decR_bad HSD.out (fun h => h200 h.2)
        have i1 : decide ((200 : Int) < (l.length : Int)) = true := by simp; omega
        obtain ⟨e1, e2⟩ := EFv.below HE.out HB3.out
        go_wp2_with fail
        go_region
        all_goals
          go_wp2_with fail
          go_ret2
          exact ⟨.inl ⟨HY.out, T, z, rfl⟩, by first | exact HB3.out | exact HB3.out.drew⟩
set_option maxRecDepth 100000 in
set_option maxHeartbeats 4000000 in
theorem implDec0_bc (bb : Bool) (ts : List (Int × Int)) (v : Value) (b : ByteArray) (w : World) (hv : IsTyps w.heap.size w v ts) (hb : b.size ≤ 1048576) (hw : KR w) (he : ET w) (hf : EF w)
    (hA : schOk ts = true → ∀ (u : Nat) (w : World) (S : Nat → Prop), TreeAt ts 7 w S u 0 → (∀ c, S c → c < w.heap.size) → Calls Tryz.prog 145 #[.agg #[.func (.func 45) #[] #[], .func (.func 46) #[] #[]], .pointer (some ⟨u, 0, none⟩)] w fun e w' => e = .returned (.bool bb) ∧ Below w.heap.size w w') :
    Calls Tryz.prog 10 #[v, .string b] w fun e w' => DecV (decR getSize (schOk ts && bb) ts b) w e w' := by
  have HN : Hid (∀ w, Calls Tryz.prog 25 #[] w fun e w' => e = .returned (.agg #[.func (.func 45) #[] #[], .func (.func 46) #[] #[]]) ∧ Below w.heap.size w w') := fun w => newBitcoin_any w
  have HC : Hid (∀ w', Below w.heap.size w w' → Calls Tryz.prog 28 #[.iface 56 (.agg #[.func (.func 45) #[] #[], .func (.func 46) #[] #[]]), v, .string b] w' fun e w'' => DecE (decR getSize (schOk ts && bb) ts b) w' e w'') := fun w' hb' => decodeBy_bc bb ts v b w' ((hv.below hb').up hb'.size) hb (hw.below hb') (ET.below (B := 0) he hb') (EF.below hf hb') hA
  clear hv hw he hf hA
  generalize (decR getSize (schOk ts && bb) ts b) = R at HC ⊢
  go_enter Tryz.func10, Tryz.ntmps10
  go_wp2_with fail
  refine (HN.out _).mono ?_
  rintro e w1 ⟨rfl, hb1⟩
  have HB1 : Hid (Below w.heap.size w w1) := hb1
  clear hb1
  go_wp2_with fail
  refine (HC.out w1 HB1.out).mono ?_
  rintro e w2 ⟨⟨rfl, T, z, rfl⟩ | ⟨l, v2, rfl, rfl, hown⟩, hb2⟩
  · have HB2 : Hid (Below w.heap.size w w2) := HB1.out.trans (hb2.mono HB1.out.size)
    clear hb2
    go_wp2_with fail
    go_region
    all_goals
      go_wp2_with fail
      go_ret2
      exact ⟨⟨_, rfl, OwnIt.nil _ _⟩, by first | exact HB2.out | exact HB2.out.drew⟩
  · have HB2 : Hid (Below w.heap.size w w2) := HB1.out.trans (hb2.mono HB1.out.size)
    have HOW : Hid (OwnIt w.heap.size w2 v2 l) := own_b hown HB1.out.size
    have HOD : Hid (OwnIt w.heap.size w2.drew v2 l) := HOW.out.kept (Below.drew (Below.refl _ _))
    clear hb2 hown
    go_wp2_with fail
    go_region
    all_goals
      go_wp2_with fail
      go_ret2
      exact ⟨⟨_, rfl, by first | exact HOW.out | exact HOD.out⟩, by first | exact HB2.out | exact HB2.out.drew⟩
theorem implBitcoinDec_any (ts : List (Int × Int)) (v : Value) (b : ByteArray) (w : World) (hv : IsTyps w.heap.size w v ts) (hb : b.size ≤ 1048576) (hw : KR w) (he : ET w) (hf : EF w) :
    Calls Tryz.prog 10 #[v, .string b] w fun e w' => DecV (decR getSize (schOk ts && btOk ts) ts b) w e w' :=
  implDec0_bc (btOk ts) ts v b w hv hb hw he hf (fun hs u w S ht hS => by rw [← bt_all hs]; exact btAdmits ts 7 u 0 w S ht hS)
/-- Too many items are no value. -/
theorem specTyped_long_bc (ts : List (Int × Int)) (n cap : Nat) (ad : Option Addr) (v : Value) (w : World) (hv : IsTyps w.heap.size w v ts) (h1 : 200 < n) (h2 : n ≤ cap) (h3 : cap ≤ maxLen) : Calls Tryz.prog 26 #[v, .slice ad n cap] w fun e w' => e = .returned (.bool false) ∧ Below w.heap.size w w' := by
  have HC : Hid (Calls Tryz.prog 32 #[v] w fun e w' => e = .returned (.bool (schOk ts)) ∧ Below w.heap.size w w') := specSchemaOk_any ts v w hv
  unfold maxLen at h3
  have hd : decide ((n : Int) ≤ 200) = false := by simp; omega
  generalize schOk ts = o at HC
  clear hv
  cases o with
  | false =>
    go_enter Tryz.func26, Tryz.ntmps26
    go_wp2_with fail
    refine Calls.mono HC.out ?_
    rintro e w1 ⟨rfl, hb1⟩
    go_wp2_with fail
    go_ret
    exact ⟨rfl, hb1⟩
  | true =>
    go_enter Tryz.func26, Tryz.ntmps26
    go_wp2_with fail
    refine Calls.mono HC.out ?_
    rintro e w1 ⟨rfl, hb1⟩
    go_wp2_with fail
    go_ret
    exact ⟨rfl, hb1⟩
set_option maxRecDepth 100000 in
set_option maxHeartbeats 4000000 in
theorem specDec_bc (ts : List (Int × Int)) (v : Value) (b : ByteArray) (w : World) (hv : IsTyps w.heap.size w v ts) (hb : b.size ≤ 1048576) :
    Calls Tryz.prog 13 #[v, .string b] w fun e w' => DecV (decR getSize (schOk ts && btOk ts) ts b) w e w' := by
  have HC : Hid (Calls Tryz.prog 15 #[v] w fun e w' => e = .returned (.bool (schOk ts && btOk ts)) ∧ Below w.heap.size w w') := specBitcoinOk_any ts v w hv
  have HV : Hid (IsTyps w.heap.size w v ts) := hv
  obtain ⟨o, ho⟩ : ∃ o, (schOk ts && btOk ts) = o := ⟨_, rfl⟩
  have HOE : Hid (o = true → schOk ts = true) := fun h => by rw [← ho] at h; exact And.left (by first | exact h | simpa using h)
  rw [ho] at HC ⊢
  clear hv ho
  cases o with
  | false =>
    go_enter Tryz.func13, Tryz.ntmps13
    go_wp2_with fail
    refine Calls.mono HC.out ?_
    rintro e w1 ⟨rfl, hb1⟩
    go_wp2_with fail
    go_ret2
    exact ⟨⟨_, rfl, OwnIt.nil _ _⟩, hb1⟩
  | true =>
    have hs := HOE.out rfl
    have he7 := (schOk_iff.1 hs).2
    have HD : Hid (∀ w', Below w.heap.size w w' → Calls Tryz.prog 30 #[v, .int .i64 0, .string b, .bool true] w' fun e w'' => D6Post getSize ts 7 0 b w' e w'') := fun w' hb' => l6Dec_bc ts 7 0 _ v b w' (Nat.le_refl _) he7 ((HV.out.below hb').up hb'.size) hb
    have HMN : Hid (∀ l m, scD getSize ts 7 0 b.data.toList = some (l, m) → l.length ≤ 1801088541 ∧ m ≤ b.size ∧ ∀ x ∈ l, inI x.k ∧ x.n < 18446744073709551616 ∧ x.s.size ≤ 1048577) := fun l m h => by
      have q := scD_back cntGet_bc he7 h
      refine ⟨by have := (scD_many he7 h).2; simpa using this, by have := q.1; rwa [lst_len] at this, fun x hx => ?_⟩
      have q2 := q.2.1 x hx
      exact ⟨⟨by omega, by omega⟩, q2.2.1, by omega⟩
    have HTY : Hid (∀ l m, scD getSize ts 7 0 b.data.toList = some (l, m) → typedB ts l = decide (l.length ≤ 200)) := fun l m h => scD_typed hs h
    clear hs he7
    go_enter Tryz.func13, Tryz.ntmps13
    go_wp2_with fail
    refine Calls.mono HC.out ?_
    rintro e w1 ⟨rfl, hb1⟩
    have HB1 : Hid (Below w.heap.size w w1) := hb1
    clear hb1
    go_wp2_with fail
    refine (HD.out _ HB1.out).mono ?_
    rintro e w2 ⟨⟨hno, rfl⟩ | ⟨l, m, v2, hsd, rfl, hown⟩, hb2⟩
    · have HB2 : Hid (Below w.heap.size w w2) := HB1.out.trans (hb2.mono HB1.out.size)
      have HN : Hid (decR getSize true ts b = none) := decR_none hno
      clear hno hb2
      go_wp2_with fail
      go_ret2
      rw [HN.out]
      exact ⟨⟨_, rfl, OwnIt.nil _ _⟩, HB2.out⟩
    · have HB2 : Hid (Below w.heap.size w w2) := HB1.out.trans (hb2.mono HB1.out.size)
      have HOW : Hid (OwnIt w.heap.size w2 v2 l) := own_b hown HB1.out.size
      obtain ⟨hll, hmb, hwf⟩ := HMN.out l m hsd
      have HT : Hid (typedB ts l = decide (l.length ≤ 200)) := HTY.out l m hsd
      have HWF : Hid (∀ x ∈ l, inI x.k ∧ x.n < 18446744073709551616 ∧ x.s.size ≤ 1048577) := hwf
      have HSD : Hid (scD getSize ts 7 0 b.data.toList = some (l, m)) := hsd
      obtain ⟨ad, cap, rfl, q1, q2, _⟩ := hown.form
      clear hown hb2 hwf hsd
      by_cases hme : m = b.size
      · have HTC : Hid (Calls Tryz.prog 26 #[v, .slice ad l.length cap] w2 fun e w' => e = .returned (.bool (decide (l.length ≤ 200))) ∧ Below w2.heap.size w2 w') := by
          have hv2 := (HV.out.below HB2.out).up HB2.out.size
          by_cases h200 : l.length ≤ 200
          · rw [← HT.out]
            exact specTyped_any ts l v _ w2 hv2 (HOW.out.items (by omega) HWF.out)
          · rw [decide_eq_false h200]
            exact specTyped_long_bc ts l.length cap ad v w2 hv2 (by omega) q1 q2
        have HR : Hid (decR getSize true ts b = if l.length ≤ 200 then some l else none) := by
          show _ = _
          by_cases h200 : l.length ≤ 200
          · rw [if_pos h200]
            exact decR_yes (by rw [← hme]; exact HSD.out) h200
          · rw [if_neg h200]
            exact decR_bad HSD.out (fun h => h200 h.2)
        unfold maxLen at q2
        have i1 : ((m : Int) != (b.size : Int)) = false := by simp [hme]
        have i2 : ((m : Int) == (b.size : Int)) = true := by simp [hme]
        by_cases h200 : l.length ≤ 200
        · rw [decide_eq_true h200] at HTC
          rw [if_pos h200] at HR
          go_wp2_with fail
          refine Calls.mono HTC.out ?_
          rintro e w3 ⟨rfl, hb3⟩
          have HB3 : Hid (Below w.heap.size w w3) := HB2.out.trans (hb3.mono HB2.out.size)
          have HO3 : Hid (OwnIt w.heap.size w3 (.slice ad l.length cap) l) := HOW.out.kept hb3
          clear hb3
          go_wp2_with fail
          go_ret2
          rw [HR.out]
          exact ⟨⟨_, rfl, HO3.out⟩, HB3.out⟩
        · rw [decide_eq_false h200] at HTC
          rw [if_neg h200] at HR
          go_wp2_with fail
          refine Calls.mono HTC.out ?_
          rintro e w3 ⟨rfl, hb3⟩
          have HB3 : Hid (Below w.heap.size w w3) := HB2.out.trans (hb3.mono HB2.out.size)
          clear hb3
          go_wp2_with fail
          go_ret2
          rw [HR.out]
          exact ⟨⟨_, rfl, OwnIt.nil _ _⟩, HB3.out⟩
      · have HR : Hid (decR getSize true ts b = none) := decR_bad HSD.out (fun h => hme h.1)
        unfold maxLen at q2
        have i1 : ((m : Int) != (b.size : Int)) = true := by simp; omega
        have i2 : ((m : Int) == (b.size : Int)) = false := by simp; omega
        go_wp2_with fail
        go_ret2
        rw [HR.out]
        exact ⟨⟨_, rfl, OwnIt.nil _ _⟩, HB2.out⟩
end Go.Proofs.YtichgnddbnibjaaGreatDoor
