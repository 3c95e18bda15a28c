/- RDe, RDf: one text. -/
import Derived.Test.YtdncnjmlicdamaaGreatDoorRDl
import Derived.Test.YtdncnjmlicdamaaGreatDoorS3f
import Derived.Test.YtdncnjmlicdamaaGreatDoorSBq
import Derived.Deep.RegionHeld3
namespace Go.Proofs.YtdncnjmlicdamaaGreatDoor
open Go.RowKit Go.Sort
set_option linter.unusedVariables false
/-- What take leaves: an error is that of T and z. -/
def RkPost (T : TypeId) (z : Value) (ts : List (Int × Int)) (f a : Nat) (S0 : Nat → Prop) (b : ByteArray) (w : World) (e : Ending) (w' : World) : Prop :=
  Below w.heap.size w w' ∧
  ((rlD true ts f a b.data.toList = none ∧ ∃ x y, (x = .nilIface ∨ ∃ T z, x = .iface T z) ∧ e = .returned (.tuple #[x, .string y, .iface T z])) ∨
   (∃ l R T' y, rlD true ts f a b.data.toList = some (l, R.data.toList) ∧ e = .returned (.tuple #[.iface T' y, .string R, .nilIface]) ∧ DAt ts f w' (fun c => S0 c ∨ (w.heap.size ≤ c ∧ c < w'.heap.size)) (.iface T' y) a l))
/-- What read leaves: a value that all of b is. -/
def RrPost (T : TypeId) (z : Value) (o : Option (List It)) (ts : List (Int × Int)) (f a : Nat) (S0 : Nat → Prop) (w : World) (e : Ending) (w' : World) : Prop :=
  Below w.heap.size w w' ∧
  ((o = none ∧ ∃ x, (x = .nilIface ∨ ∃ T z, x = .iface T z) ∧ e = .returned (.tuple #[x, .iface T z])) ∨
   (∃ l T' y, o = some l ∧ e = .returned (.tuple #[.iface T' y, .nilIface]) ∧ DAt ts f w' (fun c => S0 c ∨ (w.heap.size ≤ c ∧ c < w'.heap.size)) (.iface T' y) a l))
theorem RrPost.form {T : TypeId} {z : Value} {o : Option (List It)} {ts : List (Int × Int)} {f a : Nat} {S0 : Nat → Prop} {w : World} {e : Ending} {w' : World} (h : RrPost T z o ts f a S0 w e w') : ∃ x er, e = .returned (.tuple #[x, er]) := by
  obtain ⟨_, ⟨_, x, _, h⟩ | ⟨l, T', y, _, h, _⟩⟩ := h
  · exact ⟨_, _, h⟩
  · exact ⟨_, _, h⟩
theorem RrPost.up {T : TypeId} {z : Value} {o : Option (List It)} {ts : List (Int × Int)} {f a : Nat} {S0 : Nat → Prop} {w w1 : World} {e : Ending} {w' : World} (hb : Below w.heap.size w w1) (h : RrPost T z o ts f a S0 w1 e w') : RrPost T z o ts f a S0 w e w' := by
  obtain ⟨h1, h2⟩ := h
  refine ⟨hb.trans (h1.mono hb.size), h2.imp id ?_⟩
  rintro ⟨l, T', y, q1, q3, q4⟩
  exact ⟨l, T', y, q1, q3, q4.keep (fun c hc => hc.imp id (fun h => ⟨by have := hb.size; omega, h.2⟩)) (fun _ _ => rfl)⟩
theorem RkPost.form {T : TypeId} {z : Value} {ts : List (Int × Int)} {f a : Nat} {S0 : Nat → Prop} {b : ByteArray} {w : World} {e : Ending} {w' : World} (h : RkPost T z ts f a S0 b w e w') : ∃ x y er, e = .returned (.tuple #[x, .string y, er]) := by
  obtain ⟨_, ⟨_, x, y, _, h⟩ | ⟨l, R, T', y, _, h, _⟩⟩ := h
  · exact ⟨_, _, _, h⟩
  · exact ⟨_, _, _, h⟩
/-- The contract of take, f levels being left. -/
def RkHyp (T : TypeId) (z : Value) (ts : List (Int × Int)) (f : Nat) : Prop :=
  ∀ (a u : Nat) (S0 : Nat → Prop) (b : ByteArray) (w : World), TreeAt ts f w S0 u a → (∀ c, S0 c → c < w.heap.size) → b.size ≤ 1048576 → EFv T z w →
    Calls Tryz.prog 128 #[.agg #[], .pointer (some ⟨u, 0, none⟩), .string b] w fun e w' => RkPost T z ts f a S0 b w e w'
def RrHyp (T : TypeId) (z : Value) (ts : List (Int × Int)) (f : Nat) : Prop :=
  ∀ (a u : Nat) (S0 : Nat → Prop) (b : ByteArray) (w : World), TreeAt ts f w S0 u a → (∀ c, S0 c → c < w.heap.size) → b.size ≤ 1048576 → EFv T z w →
    Calls Tryz.prog 96 #[.agg #[], .pointer (some ⟨u, 0, none⟩), .string b] w fun e w' => RrPost T z (whole (rlD true ts f a b.data.toList)) ts f a S0 w e w'
set_option maxRecDepth 100000 in
set_option maxHeartbeats 4000000 in
theorem takeWhole_rl (T : TypeId) (z : Value) (ts : List (Int × Int)) (f : Nat) (hp : RkHyp T z ts f) (a u : Nat) (S0 : Nat → Prop) (b : ByteArray) (w : World) (ht : TreeAt ts f w S0 u a) (hS0 : ∀ c, S0 c → c < w.heap.size) (hb : b.size ≤ 1048576) (he : EFv T z w) :
    Calls Tryz.prog 98 #[.iface 45 (.agg #[]), .pointer (some ⟨u, 0, none⟩), .string b] w fun e w' => RrPost T z (whole (rlD true ts f a b.data.toList)) ts f a S0 w e w' := by
  have HP : Hid (Calls Tryz.prog 128 #[.agg #[], .pointer (some ⟨u, 0, none⟩), .string b] w fun e w' => RkPost T z ts f a S0 b w e w') := hp a u S0 b w ht hS0 hb he
  have HE : Hid (EFv T z w) := he
  clear ht hS0 hp he hb
  go_enter Tryz.func98, Tryz.ntmps98
  go_wp2_with fail
  refine Calls.mono HP.out ?_
  rintro e w1 ⟨hb1, ⟨hno, x, y, hx, rfl⟩ | ⟨l, R, T', y, hsd, rfl, hd⟩⟩
  · have HN : Hid (whole (rlD true ts f a b.data.toList) = none) := by show _ = _; rw [hno]; rfl
    clear hno
    rcases hx with rfl | ⟨T1, z1, rfl⟩
    all_goals
      go_wp2_with fail
      go_ret2
      exact ⟨hb1, .inl ⟨HN.out, _, .inl rfl, rfl⟩⟩
  · have HB1 : Hid (Below w.heap.size w w1) := hb1
    have HD : Hid (DAt ts f w1 (fun c => S0 c ∨ (w.heap.size ≤ c ∧ c < w1.heap.size)) (.iface T' y) a l) := hd
    have hemp : R.toList.isEmpty = decide (R.size = 0) := str_empty R
    by_cases hmb : R.size = 0
    · have HS : Hid (whole (rlD true ts f a b.data.toList) = some l) := by
        show _ = _
        rw [hsd, List.eq_nil_of_length_eq_zero (show R.data.toList.length = 0 by rw [lst_len]; exact hmb)]
        rfl
      have hemp2 : R.toList.isEmpty = true := by rw [hemp]; exact decide_eq_true hmb
      clear hsd hd hemp hb1
      go_wp2_with fail
      go_ret2
      exact ⟨HB1.out, .inr ⟨l, _, _, HS.out, rfl, HD.out⟩⟩
    · have HN : Hid (whole (rlD true ts f a b.data.toList) = none) := by
        show _ = _
        rw [hsd]
        have hl : R.data.toList.length ≠ 0 := by rw [lst_len]; exact hmb
        cases hR : R.data.toList with
        | nil => rw [hR] at hl; exact absurd rfl hl
        | cons c r => rfl
      have hemp2 : R.toList.isEmpty = false := by rw [hemp]; exact decide_eq_false hmb
      obtain ⟨e1, e2⟩ := EFv.below HE.out HB1.out
      clear hsd hd hemp hb1
      go_wp2_with fail
      go_region
      all_goals
        go_wp2_with fail
        go_ret2
        exact ⟨by first | exact HB1.out | exact HB1.out.drew, .inl ⟨HN.out, _, .inl rfl, rfl⟩⟩
set_option maxRecDepth 100000 in
set_option maxHeartbeats 4000000 in
theorem read_step (T : TypeId) (z : Value) (ts : List (Int × Int)) (f : Nat) (hp : RkHyp T z ts f) : RrHyp T z ts f := by
  intro a u S0 b w ht hS0 hb he
  have HB0 : Hid (Below w.heap.size w (w.alloc (.cells #[] 45))) := bel1 _ _
  have HW : Hid (Calls Tryz.prog 98 #[.iface 45 (.agg #[]), .pointer (some ⟨u, 0, none⟩), .string b] (w.alloc (.cells #[] 45)) fun e w' => RrPost T z (whole (rlD true ts f a b.data.toList)) ts f a S0 (w.alloc (.cells #[] 45)) e w') := takeWhole_rl T z ts f hp a u S0 b _ (ht.bel hS0 HB0.out) (fun c hc => Nat.lt_of_lt_of_le (hS0 c hc) HB0.out.size) hb (he.below HB0.out)
  clear ht hS0 hp he hb
  go_enter Tryz.func96, Tryz.ntmps96
  go_wp2_with fail
  refine Calls.mono HW.out ?_
  intro e w1 hpo
  obtain ⟨x, er, rfl⟩ := hpo.form
  have HPO : Hid (RrPost T z (whole (rlD true ts f a b.data.toList)) ts f a S0 w (.returned (.tuple #[x, er])) w1) := hpo.up HB0.out
  clear hpo
  go_wp2_with fail
  go_ret2
  exact HPO.out
end Go.Proofs.YtdncnjmlicdamaaGreatDoor
namespace Go.Proofs.YtdncnjmlicdamaaGreatDoor
open Go.RowKit Go.Sort
set_option linter.unusedVariables false
set_option maxRecDepth 100000 in
set_option maxHeartbeats 4000000 in
theorem readOption_no (T : TypeId) (z : Value) (ts : List (Int × Int)) (f a u : Nat) (S0 : Nat → Prop) (b : ByteArray) (w : World) (ht : TreeAt ts (f + 1) w S0 u a) (hS0 : ∀ c, S0 c → c < w.heap.size) (ha : a < ts.length) (hk : ts[a].1 = 8) (hb : b.size = 0) :
    Calls Tryz.prog 134 #[.agg #[], .pointer (some ⟨u, 0, none⟩), .string b] w fun e w' => RrPost T z (some [⟨ts[a].1, 0, ⟨#[]⟩⟩]) ts (f + 1) a S0 w e w' := by
  have hfn : fitsN ts[a].1 ts[a].2 0 = true := by unfold fitsN; rw [if_neg (by omega), if_pos (by omega)]; rfl
  have HFI : Hid (fitsI ts[a].1 ts[a].2 ⟨ts[a].1, 0, ⟨#[]⟩⟩ = true) := by rw [Hid, fitsI_num (by omega) (by omega)]; exact hfn
  have HNP : Hid (np ts[a].1 0 = 0) := by show np _ 0 = 0; unfold np; rw [if_pos (by omega)]
  have HKK : Hid (ts[a].1 = 8 ∨ ts[a].1 = 9) := .inl hk
  have HB0 : Hid (Below w.heap.size w (w.alloc (.cells #[] 45))) := bel1 _ _
  have HT : Hid (TreeAt ts (f + 1) w S0 u a) := ht
  have HS : Hid (∀ c, S0 c → c < w.heap.size) := hS0
  have hemp : b.toList.isEmpty = true := by rw [str_empty]; exact decide_eq_true hb
  clear ht hS0 hk hfn hb
  go_enter Tryz.func134, Tryz.ntmps134
  go_wp2_with fail
  go_ret2
  exact ⟨by first | exact HB0.out | exact Below.refl _ _, .inr ⟨_, _, _, rfl, rfl, u, ⟨_, 0, ⟨#[]⟩⟩, ha, by first | exact (HT.out.bel HS.out HB0.out).keep (fun c hc => .inl hc) (fun _ _ => rfl) | exact HT.out.keep (fun c hc => .inl hc) (fun _ _ => rfl), HFI.out, by show (0 : Nat) < _; omega, .inr (.inr (.inr ⟨HKK.out, .nilIface, [], rfl, rfl, .inl ⟨HNP.out, rfl, rfl⟩⟩))⟩⟩
set_option maxRecDepth 100000 in
set_option maxHeartbeats 4000000 in
theorem readOption_some (T : TypeId) (z : Value) (ts : List (Int × Int)) (f : Nat) (hp : RrHyp T z ts f) (a u : Nat) (S0 : Nat → Prop) (b : ByteArray) (w : World) (ht : TreeAt ts (f + 1) w S0 u a) (hS0 : ∀ c, S0 c → c < w.heap.size) (ha : a < ts.length) (hk : ts[a].1 = 8) (hb0 : b.size ≠ 0) (hb : b.size ≤ 1048576) (he : EFv T z w) :
    Calls Tryz.prog 134 #[.agg #[], .pointer (some ⟨u, 0, none⟩), .string b] w fun e w' => RrPost T z ((whole (rlD true ts f (pl ts f a ts[a].1 1 0) b.data.toList)).map fun l => ⟨ts[a].1, 1, ⟨#[]⟩⟩ :: l) ts (f + 1) a S0 w e w' := by
  have hfn : fitsN ts[a].1 ts[a].2 1 = true := by unfold fitsN; rw [if_neg (by omega), if_pos (by omega)]; rfl
  have HFI : Hid (fitsI ts[a].1 ts[a].2 ⟨ts[a].1, 1, ⟨#[]⟩⟩ = true) := by rw [Hid, fitsI_num (by omega) (by omega)]; exact hfn
  have hnp : np ts[a].1 1 = 1 := by unfold np; rw [if_pos (by omega)]
  have HNP : Hid (np ts[a].1 1 = 1) := hnp
  have HKK : Hid (ts[a].1 = 8 ∨ ts[a].1 = 9) := .inl hk
  have HB0 : Hid (Below w.heap.size w (w.alloc (.cells #[] 45))) := bel1 _ _
  have HT : Hid (TreeAt ts (f + 1) w S0 u a) := ht
  have HS : Hid (∀ c, S0 c → c < w.heap.size) := hS0
  have HP : Hid (RrHyp T z ts f) := hp
  have HE : Hid (EFv T z w) := he
  have HPT : Hid (∀ w', Below w.heap.size w w' → Calls Tryz.prog 77 #[.pointer (some ⟨u, 0, none⟩), .int .u64 1] w' fun e w'' => (∃ c, e = .returned (.pointer (some ⟨c, 0, none⟩)) ∧ TreeAt ts f w' S0 c (pl ts f a ts[a].1 1 0)) ∧ w'' = w') := fun w' hbw =>
    part_any ts f u a w' S0 1 1 0 (ht.bel hS0 hbw) ha hfn (by omega) ⟨fun h => by omega, fun h => by omega⟩ (by omega)
  have hemp : b.toList.isEmpty = false := by rw [str_empty]; exact decide_eq_false hb0
  clear ht hS0 hk hfn hp he
  cases hw : whole (rlD true ts f (pl ts f a ts[a].1 1 0) b.data.toList) with
  | none =>
    have HTK : Hid (∀ c w', Below w.heap.size w w' → TreeAt ts f w' S0 c (pl ts f a ts[a].1 1 0) → Calls Tryz.prog 96 #[.agg #[], .pointer (some ⟨c, 0, none⟩), .string b] w' fun e w'' => (∃ x, e = .returned (.tuple #[x, .iface T z]) ∧ (x = .nilIface ∨ ∃ T z, x = .iface T z)) ∧ Below w'.heap.size w' w'') := fun c w' hbw htc => by
      refine (HP.out _ c S0 b w' htc (fun c hc => Nat.lt_of_lt_of_le (HS.out c hc) hbw.size) hb (HE.out.below hbw)).mono ?_
      rintro e w3 ⟨hb3, ⟨_, x, hx, rfl⟩ | ⟨l, T', y, hsd, _⟩⟩
      · exact ⟨⟨x, rfl, hx⟩, hb3⟩
      · rw [hw] at hsd; cases hsd
    clear hw
    go_enter Tryz.func134, Tryz.ntmps134
    go_wp2_with fail
    go_region_held3 (fun _ => True) (exact trivial) (first
      | (go_at_call 77; refine (HPT.out _ HB0.out.drew).mono ?_; rintro e w3 ⟨⟨c, rfl, htc⟩, rfl⟩; have HTC3 : Hid _ := htc; clear htc)
      | (go_at_call 96; refine (HTK.out c _ HB0.out.drew HTC3.out).mono ?_; rintro e w4 ⟨⟨x, rfl, hx⟩, hb4⟩; have HX : Hid (x = .nilIface ∨ ∃ T z, x = .iface T z) := hx; clear hx; have HB4 : Hid (Below w.heap.size w w4) := HB0.out.drew.trans (hb4.mono HB0.out.drew.size); clear hb4))
    all_goals
      rcases HX.out with rfl | ⟨T1, z1, rfl⟩
      all_goals
        clear HX
        go_wp2_with fail
        go_ret2
        exact ⟨by first | exact HB4.out | exact HB4.out.drew, .inl ⟨rfl, _, .inr ⟨_, _, rfl⟩, rfl⟩⟩
  | some l =>
    have HTK : Hid (∀ c w', Below w.heap.size w w' → TreeAt ts f w' S0 c (pl ts f a ts[a].1 1 0) → Calls Tryz.prog 96 #[.agg #[], .pointer (some ⟨c, 0, none⟩), .string b] w' fun e w'' => (∃ T' y, e = .returned (.tuple #[.iface T' y, .nilIface]) ∧ DAt ts f w'' (fun c => S0 c ∨ (w.heap.size ≤ c ∧ c < w''.heap.size)) (.iface T' y) (pl ts f a ts[a].1 1 0) l) ∧ Below w'.heap.size w' w'') := fun c w' hbw htc => by
      refine (HP.out _ c S0 b w' htc (fun c hc => Nat.lt_of_lt_of_le (HS.out c hc) hbw.size) hb (HE.out.below hbw)).mono ?_
      rintro e w3 ⟨hb3, ⟨hno, _⟩ | ⟨l1, T', y, hsd, rfl, hd⟩⟩
      · rw [hw] at hno; cases hno
      · rw [hw] at hsd
        simp only [Option.some.injEq] at hsd
        subst hsd
        exact ⟨⟨T', y, rfl, hd.keep (fun c hc => hc.imp id (fun h => ⟨by have := hbw.size; omega, h.2⟩)) (fun _ _ => rfl)⟩, hb3⟩
    clear hw
    go_enter Tryz.func134, Tryz.ntmps134
    go_wp2_with fail
    go_region_held3 (fun _ => True) (exact trivial) (first
      | (go_at_call 77; refine (HPT.out _ HB0.out.drew).mono ?_; rintro e w3 ⟨⟨c, rfl, htc⟩, rfl⟩; have HTC3 : Hid _ := htc; clear htc)
      | (go_at_call 96; refine (HTK.out c _ HB0.out.drew HTC3.out).mono ?_; rintro e w4 ⟨⟨T', y, rfl, hd⟩, hb4⟩; have HD4 : Hid _ := hd; have HB4 : Hid (Below w.heap.size w w4) := HB0.out.drew.trans (hb4.mono HB0.out.drew.size); clear hb4 hd))
    all_goals
      have HVA : Hid (DAt ts f w4 (fun c => S0 c ∨ (w.heap.size ≤ c ∧ c < w4.heap.size)) (.iface T' y) (pl ts f a ts[a].1 1 0) l) := HD4.out
      have HFIN : Hid (DAt ts (f + 1) w4 (fun c => S0 c ∨ (w.heap.size ≤ c ∧ c < w4.heap.size)) (.iface 133 (.agg #[.pointer (some ⟨u, 0, none⟩), .int .u64 1, .iface T' y])) a (⟨ts[a].1, 1, ⟨#[]⟩⟩ :: l)) := ⟨u, ⟨_, 1, ⟨#[]⟩⟩, ha, (HT.out.bel HS.out HB4.out).keep (fun c hc => .inl hc) (fun _ _ => rfl), HFI.out, by show (1 : Nat) < _; omega, .inr (.inr (.inr ⟨HKK.out, .iface T' y, l, rfl, rfl, .inr ⟨by show 0 < np _ 1; rw [HNP.out]; omega, HVA.out⟩⟩))⟩
      go_wp2_with fail
      go_ret2
      first
        | exact ⟨HB4.out, .inr ⟨_, _, _, rfl, rfl, HFIN.out⟩⟩
        | exact ⟨HB4.out.drew, .inr ⟨_, _, _, rfl, rfl, HFIN.out.keep (fun _ hc => hc) (fun _ _ => rfl)⟩⟩
set_option maxRecDepth 100000 in
set_option maxHeartbeats 4000000 in
theorem readUnion_no (T : TypeId) (z : Value) (ts : List (Int × Int)) (f a u : Nat) (S0 : Nat → Prop) (b : ByteArray) (w : World) (hb : b.size ≤ 1048576) (he : EFv T z w) (h : tk true b.data.toList = none) :
    Calls Tryz.prog 135 #[.agg #[], .pointer (some ⟨u, 0, none⟩), .string b] w fun e w' => RrPost T z none ts (f + 1) a S0 w e w' := by
  have HB0 : Hid (Below w.heap.size w (w.alloc (.cells #[] 45))) := bel1 _ _
  have HE : Hid (EFv T z w) := he
  have HSP : Hid (∀ w', Below w.heap.size w w' → Calls Tryz.prog 129 #[.string b] w' fun e w'' => e = .returned (.tuple #[.bool false, .string ⟨#[]⟩, .string ⟨#[]⟩, .iface T z]) ∧ Below w'.heap.size w' w'') := fun w' hbw => rlpSplit_no b w' hb h T z (he.below hbw)
  clear he h hb
  go_enter Tryz.func135, Tryz.ntmps135
  go_wp2_with fail
  refine (HSP.out _ HB0.out).mono ?_
  rintro e w1 ⟨rfl, hb1⟩
  have HB1 : Hid (Below w.heap.size w w1) := HB0.out.trans (hb1.mono HB0.out.size)
  obtain ⟨e1, e2⟩ := EFv.below HE.out HB1.out
  clear hb1
  go_wp2_with fail
  go_region
  all_goals
    go_wp2_with fail
    go_ret2
    exact ⟨by first | exact HB1.out | exact HB1.out.drew, .inl ⟨rfl, _, .inl rfl, rfl⟩⟩
set_option maxRecDepth 100000 in
set_option maxHeartbeats 4000000 in
theorem readUnion_list (T : TypeId) (z : Value) (ts : List (Int × Int)) (f a u : Nat) (S0 : Nat → Prop) (b B R : ByteArray) (w : World) (hb : b.size ≤ 1048576) (he : EFv T z w) (h : tk true b.data.toList = some (true, B.data.toList, R.data.toList)) :
    Calls Tryz.prog 135 #[.agg #[], .pointer (some ⟨u, 0, none⟩), .string b] w fun e w' => RrPost T z none ts (f + 1) a S0 w e w' := by
  have HB0 : Hid (Below w.heap.size w (w.alloc (.cells #[] 45))) := bel1 _ _
  have HE : Hid (EFv T z w) := he
  have HSP : Hid (∀ w', Below w.heap.size w w' → Calls Tryz.prog 129 #[.string b] w' fun e w'' => e = .returned (.tuple #[.bool true, .string B, .string R, .nilIface]) ∧ Below w'.heap.size w' w'') := fun w' hbw => rlpSplit_yes b B R true w' hb h
  clear he h hb
  go_enter Tryz.func135, Tryz.ntmps135
  go_wp2_with fail
  refine (HSP.out _ HB0.out).mono ?_
  rintro e w1 ⟨rfl, hb1⟩
  have HB1 : Hid (Below w.heap.size w w1) := HB0.out.trans (hb1.mono HB0.out.size)
  obtain ⟨e1, e2⟩ := EFv.below HE.out HB1.out
  clear hb1
  go_wp2_with fail
  go_region
  all_goals
    go_wp2_with fail
    go_ret2
    exact ⟨by first | exact HB1.out | exact HB1.out.drew, .inl ⟨rfl, _, .inl rfl, rfl⟩⟩
set_option maxRecDepth 100000 in
set_option maxHeartbeats 4000000 in
theorem readUnion_num (T : TypeId) (z : Value) (ts : List (Int × Int)) (f a u : Nat) (k n : Int) (S0 : Nat → Prop) (b B R : ByteArray) (w : World) (hb : b.size ≤ 1048576) (he : EFv T z w) (hB : B.size ≤ 1048576) (hok : tyOk k n = true) (c0 : w.cell? ⟨u, 0, none⟩ = some (.int .i64 k)) (c1 : w.cell? ⟨u, 1, none⟩ = some (.int .i64 n)) (hul : u < w.heap.size) (h : tk true b.data.toList = some (false, B.data.toList, R.data.toList)) (hn : numD k n B.data.toList true = none) :
    Calls Tryz.prog 135 #[.agg #[], .pointer (some ⟨u, 0, none⟩), .string b] w fun e w' => RrPost T z none ts (f + 1) a S0 w e w' := by
  have HB0 : Hid (Below w.heap.size w (w.alloc (.cells #[] 45))) := bel1 _ _
  have HE : Hid (EFv T z w) := he
  have HSP : Hid (∀ w', Below w.heap.size w w' → Calls Tryz.prog 129 #[.string b] w' fun e w'' => e = .returned (.tuple #[.bool false, .string B, .string R, .nilIface]) ∧ Below w'.heap.size w' w'') := fun w' hbw => rlpSplit_yes b B R false w' hb h
  have HN : Hid (∀ w', Below w.heap.size w w' → Calls Tryz.prog 132 #[.agg #[.int .i64 k, .int .i64 n], .string B] w' fun e w'' => e = .returned (.tuple #[.int .u64 0, .iface T z]) ∧ Below w'.heap.size w' w'') := fun w' hbw => numberOf_none k n B w' hok hB hn T z (he.below hbw)
  clear he h hb hok hn
  go_enter Tryz.func135, Tryz.ntmps135
  go_wp2_with fail
  refine (HSP.out _ HB0.out).mono ?_
  rintro e w1 ⟨rfl, hb1⟩
  have HB1 : Hid (Below w.heap.size w w1) := HB0.out.trans (hb1.mono HB0.out.size)
  have x0 : w1.cell? ⟨u, 0, none⟩ = some (.int .i64 k) := (HB1.out.cell (p := ⟨u, 0, none⟩) hul).trans c0
  have x1 : w1.cell? ⟨u, 1, none⟩ = some (.int .i64 n) := (HB1.out.cell (p := ⟨u, 1, none⟩) hul).trans c1
  clear hb1 c0 c1
  go_wp2_with fail
  refine (HN.out _ HB1.out).mono ?_
  rintro e w2 ⟨rfl, hb2⟩
  have HB2 : Hid (Below w.heap.size w w2) := HB1.out.trans (hb2.mono HB1.out.size)
  clear hb2 x0 x1
  go_wp2_with fail
  go_ret2
  exact ⟨HB2.out, .inl ⟨rfl, _, .inl rfl, rfl⟩⟩
set_option maxRecDepth 100000 in
set_option maxHeartbeats 4000000 in
theorem readUnion_part (T : TypeId) (z : Value) (ts : List (Int × Int)) (f : Nat) (hp : RrHyp T z ts f) (a u m : Nat) (S0 : Nat → Prop) (b B R : ByteArray) (w : World) (ht : TreeAt ts (f + 1) w S0 u a) (hS0 : ∀ c, S0 c → c < w.heap.size) (ha : a < ts.length) (hk : ts[a].1 = 9) (hts : tk true b.data.toList = some (false, B.data.toList, R.data.toList)) (hn : numD ts[a].1 ts[a].2 B.data.toList true = some m) (hR : R.size ≤ 1048576) (hb : b.size ≤ 1048576) (he : EFv T z w) :
    Calls Tryz.prog 135 #[.agg #[], .pointer (some ⟨u, 0, none⟩), .string b] w fun e w' => RrPost T z ((whole (rlD true ts f (pl ts f a ts[a].1 m 0) R.data.toList)).map fun l => ⟨ts[a].1, m, ⟨#[]⟩⟩ :: l) ts (f + 1) a S0 w e w' := by
  have hfn : fitsN ts[a].1 ts[a].2 m = true := (numD_back hn).2.2 rfl
  have hm8 : m < 18446744073709551616 := (numD_back hn).2.1
  have HFI : Hid (fitsI ts[a].1 ts[a].2 ⟨ts[a].1, m, ⟨#[]⟩⟩ = true) := by rw [Hid, fitsI_num (by omega) (by omega)]; exact hfn
  have hnp : np ts[a].1 m = 1 := by unfold np; rw [if_neg (by omega), if_pos hk]
  have HNP : Hid (np ts[a].1 m = 1) := hnp
  have HKK : Hid (ts[a].1 = 8 ∨ ts[a].1 = 9) := .inr hk
  have HB0 : Hid (Below w.heap.size w (w.alloc (.cells #[] 45))) := bel1 _ _
  have HT : Hid (TreeAt ts (f + 1) w S0 u a) := ht
  have HS : Hid (∀ c, S0 c → c < w.heap.size) := hS0
  have HP : Hid (RrHyp T z ts f) := hp
  have HE : Hid (EFv T z w) := he
  have HPT : Hid (∀ w', Below w.heap.size w w' → Calls Tryz.prog 77 #[.pointer (some ⟨u, 0, none⟩), .int .u64 m] w' fun e w'' => (∃ c, e = .returned (.pointer (some ⟨c, 0, none⟩)) ∧ TreeAt ts f w' S0 c (pl ts f a ts[a].1 m 0)) ∧ w'' = w') := fun w' hbw =>
    part_any ts f u a w' S0 m m 0 (ht.bel hS0 hbw) ha hfn (by rw [hnp]; omega) ⟨fun _ => rfl, fun h => by omega⟩ hm8
  obtain ⟨_, e0, ad0, cap0, hok, hit, hu, c0, c1, _⟩ := ht.openT
  have hul := hS0 u hu
  have HSP : Hid (∀ w', Below w.heap.size w w' → Calls Tryz.prog 129 #[.string b] w' fun e w'' => e = .returned (.tuple #[.bool false, .string B, .string R, .nilIface]) ∧ Below w'.heap.size w' w'') := fun w' hbw => rlpSplit_yes b B R false w' hb hts
  have HN : Hid (∀ w', Below w.heap.size w w' → Calls Tryz.prog 132 #[.agg #[.int .i64 ts[a].1, .int .i64 ts[a].2], .string B] w' fun e w'' => e = .returned (.tuple #[.int .u64 m, .nilIface]) ∧ Below w'.heap.size w' w'') := fun w' hbw => numberOf_some _ _ B m w' hok hn
  have HM8 : Hid (m < 18446744073709551616) := hm8
  have hmi : (m : Int) < 18446744073709551616 := by omega
  clear ht hS0 hk hfn hp he hok hit hu hts hn hb hnp
  cases hw : whole (rlD true ts f (pl ts f a ts[a].1 m 0) R.data.toList) with
  | none =>
    have HTK : Hid (∀ c w', Below w.heap.size w w' → TreeAt ts f w' S0 c (pl ts f a ts[a].1 m 0) → Calls Tryz.prog 96 #[.agg #[], .pointer (some ⟨c, 0, none⟩), .string R] w' fun e w'' => (∃ x, e = .returned (.tuple #[x, .iface T z]) ∧ (x = .nilIface ∨ ∃ T z, x = .iface T z)) ∧ Below w'.heap.size w' w'') := fun c w' hbw htc => by
      refine (HP.out _ c S0 R w' htc (fun c hc => Nat.lt_of_lt_of_le (HS.out c hc) hbw.size) hR (HE.out.below hbw)).mono ?_
      rintro e w3 ⟨hb3, ⟨_, x, hx, rfl⟩ | ⟨l, T', y, hsd, _⟩⟩
      · exact ⟨⟨x, rfl, hx⟩, hb3⟩
      · rw [hw] at hsd; cases hsd
    clear hw
    go_enter Tryz.func135, Tryz.ntmps135
    go_wp2_with fail
    refine (HSP.out _ HB0.out).mono ?_
    rintro e w1 ⟨rfl, hb1⟩
    have HB1 : Hid (Below w.heap.size w w1) := HB0.out.trans (hb1.mono HB0.out.size)
    have x0 : w1.cell? ⟨u, 0, none⟩ = some (.int .i64 ts[a].1) := (HB1.out.cell (p := ⟨u, 0, none⟩) hul).trans c0
    have x1 : w1.cell? ⟨u, 1, none⟩ = some (.int .i64 ts[a].2) := (HB1.out.cell (p := ⟨u, 1, none⟩) hul).trans c1
    clear hb1 c0 c1
    go_wp2_with fail
    refine (HN.out _ HB1.out).mono ?_
    rintro e w2 ⟨rfl, hb2⟩
    have HB2 : Hid (Below w.heap.size w w2) := HB1.out.trans (hb2.mono HB1.out.size)
    clear hb2 x0 x1
    go_wp2_with fail
    go_region_held3 (fun _ => True) (exact trivial) (first
      | (go_at_call 77; refine (HPT.out _ HB2.out.drew).mono ?_; rintro e w3 ⟨⟨c, rfl, htc⟩, rfl⟩; have HTC3 : Hid _ := htc; clear htc)
      | (go_at_call 96; refine (HTK.out c _ HB2.out.drew HTC3.out).mono ?_; rintro e w4 ⟨⟨x, rfl, hx⟩, hb4⟩; have HX : Hid (x = .nilIface ∨ ∃ T z, x = .iface T z) := hx; clear hx; have HB4 : Hid (Below w.heap.size w w4) := HB2.out.drew.trans (hb4.mono HB2.out.drew.size); clear hb4))
    all_goals
      rcases HX.out with rfl | ⟨T1, z1, rfl⟩
      all_goals
        clear HX
        go_wp2_with fail
        go_ret2
        exact ⟨by first | exact HB4.out | exact HB4.out.drew, .inl ⟨rfl, _, .inr ⟨_, _, rfl⟩, rfl⟩⟩
  | some l =>
    have HTK : Hid (∀ c w', Below w.heap.size w w' → TreeAt ts f w' S0 c (pl ts f a ts[a].1 m 0) → Calls Tryz.prog 96 #[.agg #[], .pointer (some ⟨c, 0, none⟩), .string R] w' fun e w'' => (∃ T' y, e = .returned (.tuple #[.iface T' y, .nilIface]) ∧ DAt ts f w'' (fun c => S0 c ∨ (w.heap.size ≤ c ∧ c < w''.heap.size)) (.iface T' y) (pl ts f a ts[a].1 m 0) l) ∧ Below w'.heap.size w' w'') := fun c w' hbw htc => by
      refine (HP.out _ c S0 R w' htc (fun c hc => Nat.lt_of_lt_of_le (HS.out c hc) hbw.size) hR (HE.out.below hbw)).mono ?_
      rintro e w3 ⟨hb3, ⟨hno, _⟩ | ⟨l1, T', y, hsd, rfl, hd⟩⟩
      · rw [hw] at hno; cases hno
      · rw [hw] at hsd
        simp only [Option.some.injEq] at hsd
        subst hsd
        exact ⟨⟨T', y, rfl, hd.keep (fun c hc => hc.imp id (fun h => ⟨by have := hbw.size; omega, h.2⟩)) (fun _ _ => rfl)⟩, hb3⟩
    clear hw
    go_enter Tryz.func135, Tryz.ntmps135
    go_wp2_with fail
    refine (HSP.out _ HB0.out).mono ?_
    rintro e w1 ⟨rfl, hb1⟩
    have HB1 : Hid (Below w.heap.size w w1) := HB0.out.trans (hb1.mono HB0.out.size)
    have x0 : w1.cell? ⟨u, 0, none⟩ = some (.int .i64 ts[a].1) := (HB1.out.cell (p := ⟨u, 0, none⟩) hul).trans c0
    have x1 : w1.cell? ⟨u, 1, none⟩ = some (.int .i64 ts[a].2) := (HB1.out.cell (p := ⟨u, 1, none⟩) hul).trans c1
    clear hb1 c0 c1
    go_wp2_with fail
    refine (HN.out _ HB1.out).mono ?_
    rintro e w2 ⟨rfl, hb2⟩
    have HB2 : Hid (Below w.heap.size w w2) := HB1.out.trans (hb2.mono HB1.out.size)
    clear hb2 x0 x1
    go_wp2_with fail
    go_region_held3 (fun _ => True) (exact trivial) (first
      | (go_at_call 77; refine (HPT.out _ HB2.out.drew).mono ?_; rintro e w3 ⟨⟨c, rfl, htc⟩, rfl⟩; have HTC3 : Hid _ := htc; clear htc)
      | (go_at_call 96; refine (HTK.out c _ HB2.out.drew HTC3.out).mono ?_; rintro e w4 ⟨⟨T', y, rfl, hd⟩, hb4⟩; have HD4 : Hid _ := hd; have HB4 : Hid (Below w.heap.size w w4) := HB2.out.drew.trans (hb4.mono HB2.out.drew.size); clear hb4 hd))
    all_goals
      have HVA : Hid (DAt ts f w4 (fun c => S0 c ∨ (w.heap.size ≤ c ∧ c < w4.heap.size)) (.iface T' y) (pl ts f a ts[a].1 m 0) l) := HD4.out
      have HFIN : Hid (DAt ts (f + 1) w4 (fun c => S0 c ∨ (w.heap.size ≤ c ∧ c < w4.heap.size)) (.iface 133 (.agg #[.pointer (some ⟨u, 0, none⟩), .int .u64 m, .iface T' y])) a (⟨ts[a].1, m, ⟨#[]⟩⟩ :: l)) := ⟨u, ⟨_, m, ⟨#[]⟩⟩, ha, (HT.out.bel HS.out HB4.out).keep (fun c hc => .inl hc) (fun _ _ => rfl), HFI.out, HM8.out, .inr (.inr (.inr ⟨HKK.out, .iface T' y, l, rfl, rfl, .inr ⟨by show 0 < np _ m; rw [HNP.out]; omega, HVA.out⟩⟩))⟩
      go_wp2_with fail
      go_ret2
      first
        | exact ⟨HB4.out, .inr ⟨_, _, _, rfl, rfl, HFIN.out⟩⟩
        | exact ⟨HB4.out.drew, .inr ⟨_, _, _, rfl, rfl, HFIN.out.keep (fun _ hc => hc) (fun _ _ => rfl)⟩⟩
end Go.Proofs.YtdncnjmlicdamaaGreatDoor
