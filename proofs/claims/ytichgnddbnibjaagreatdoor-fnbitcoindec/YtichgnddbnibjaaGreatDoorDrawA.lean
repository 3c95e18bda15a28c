/- Bytes that are drawn of a value's: contracts. -/
import Derived.Test.YtichgnddbnibjaaGreatDoorDrawY
import Derived.Test.YtichgnddbnibjaaGreatDoorDrawEx
import Derived.Test.YtichgnddbnibjaaGreatDoorPDa
import Derived.Test.YtichgnddbnibjaaGreatDoorDrawBi
namespace Go.Proofs.YtichgnddbnibjaaGreatDoor
open Go.RowKit
set_option linter.unusedVariables false
set_option maxRecDepth 100000 in
set_option maxHeartbeats 1000000 in
theorem wire_any (B0 B : Nat) (a : Option Addr) (len cap : Nat) (s : ByteArray) (w : World) (h : RdAt B0 B a len cap w) (hs : s.size ≤ 1000000) : Calls Tryz.prog 29 #[.pointer (some ⟨B, 0, none⟩), .string s] w fun e w' => (∃ t : ByteArray, t.size ≤ s.size + 1 ∧ e = .returned (.string t)) ∧ RdAt B0 B a len cap w' ∧ w.grownBy w' (some B) := by
  have hsi : (s.size : Int) ≤ 1000000 := by omega
  go_enter Tryz.func29, Tryz.ntmps29
  go_wp2_with fail
  refine (below_any B0 B a len cap 8 _ h (by decide) (by decide)).mono ?_
  rintro e w1 ⟨⟨m, hm, rfl⟩, hr1, hb1⟩
  have HR1 : Hid (RdAt B0 B a len cap w1) := hr1
  have HB1 : Hid (w.grownBy w1 (some B)) := hb1
  clear hr1 hb1 h
  by_cases m0 : m = 0
  · subst m0
    go_wp2_with fail
    refine (hurt_any B0 B a len cap s _ HR1.out hs).mono ?_
    rintro e w2 ⟨⟨t, ht, rfl⟩, hr2, hb2⟩
    go_wp2_with fail
    go_ret
    exact ⟨⟨t, ht, rfl⟩, hr2, gb_trans HB1.out hb2⟩
  · have i0 : ((m : Int) == 0) = false := by rw [beq_eq_false_iff_ne]; omega
    by_cases m1 : m = 1
    · subst m1
      go_wp2_with fail
      refine (below_any B0 B a len cap _ _ HR1.out (by omega) (by omega)).mono ?_
      rintro e w2 ⟨⟨v, hv, rfl⟩, hr2, hb2⟩
      have hvi : (v : Int) ≤ (s.size : Int) := by omega
      go_wp2_with fail
      go_ret
      exact ⟨⟨s.extract 0 v, by simp; omega, rfl⟩, hr2, gb_trans HB1.out hb2⟩
    · have i1 : ((m : Int) == 1) = false := by rw [beq_eq_false_iff_ne]; omega
      by_cases m2 : m = 2
      · subst m2
        have hsz : ¬ (9223372036854775807 < s.size + ByteArray.size ⟨#[0]⟩) := by show ¬ (9223372036854775807 < s.size + 1); omega
        go_wp2_with fail
        go_ret
        exact ⟨⟨s ++ ⟨#[0]⟩, by rw [ByteArray.size_append]; exact Nat.le_refl _, rfl⟩, HR1.out, HB1.out⟩
      · have i2 : ((m : Int) == 2) = false := by rw [beq_eq_false_iff_ne]; omega
        go_wp2_with fail
        go_ret
        exact ⟨⟨s, by omega, rfl⟩, HR1.out, HB1.out⟩
/-- What a draw of a schema and bytes leaves. -/
def DrawSPost (w : World) (e : Ending) (w' : World) : Prop := ∃ (v : Value) (ts : List (Int × Int)) (t : ByteArray), e = .returned (.tuple #[v, .string t]) ∧ w'.ownsRow w.heap.size 70 2 v ts.length (flatT ts) ∧ ts.length ≤ 24 ∧ wfT ts ∧ schOk ts = true ∧ t.size ≤ 1000000 ∧ Below w.heap.size w w'
theorem wfI_it {vs : List It} (h : wfI vs) : ∀ x ∈ vs, inI x.k ∧ x.n < 18446744073709551616 ∧ x.s.size ≤ 1048577 := fun x hx => by
  obtain ⟨h1, h2, h3⟩ := h x hx
  exact ⟨h1, h2, by omega⟩
set_option maxRecDepth 100000 in
set_option maxHeartbeats 2000000 in
theorem DrawBitcoinDec_any (B0 : Nat) (a : Option Addr) (len cap : Nat) (w : World) (hB : B0 ≤ w.heap.size) (hc : CodeAt B0 a len w) (hl : len ≤ 1048576) : Calls Tryz.prog 12 #[.slice a len cap] w fun e w' => DrawSPost w e w' := by
  go_enter Tryz.func12, Tryz.ntmps12
  go_wp2_with fail
  refine (l1Open_any B0 a len cap _ hB hc hl).mono ?_
  rintro e w1 ⟨rfl, hr1, hb1⟩
  have hs1 := hr1.size
  go_wp2_with fail
  refine (bits_any B0 _ a len cap _ hr1).mono ?_
  rintro e w2 ⟨⟨v, ts, rfl, hown, h0, h24, hwf, hsch⟩, hr2, hg2⟩
  have HO2 : Hid (w2.ownsRow w1.heap.size 70 2 v ts.length (flatT ts)) := hown
  have HV : Hid (Calls Tryz.prog 22 #[.pointer (some ⟨w.heap.size, 0, none⟩), v, .int .i64 0] w2 fun e w' => VaPost B0 w.heap.size a len cap 7 w2 e w') :=
    value_any B0 w.heap.size a len cap ts 7 0 ts.length v w2 (Nat.le_refl _) (schOk_iff.1 hsch).2 hr2 (fun w' hg => own_typs (World.ownsRow.kept hown hg (own_ne2 hown hs1)) (by omega) hwf)
  have HWT : Hid (wfT ts ∧ schOk ts = true) := ⟨hwf, hsch⟩
  have HB2 : Hid (Below w.heap.size w w2) := hb1.trans (gb_below hg2 (Nat.le_refl _) hs1)
  have hs2 : w1.heap.size ≤ w2.heap.size := hg2.size
  clear hown hwf hr1 hr2 hg2 hb1 hsch
  go_wp2_with fail
  refine Calls.mono HV.out ?_
  rintro e w3 ⟨⟨v3, vs, rfl, hown3, h3, h3', hwf3⟩, hr3, hg3⟩
  have HO3 : Hid (w3.ownsRow w1.heap.size 70 2 v ts.length (flatT ts)) := World.ownsRow.kept HO2.out hg3 (own_ne2 HO2.out hs1)
  have HT3 : Hid (IsTyps w3.heap.size w3 v ts) := own_typs HO3.out (by omega) HWT.out.1
  have HI3 : Hid (IsItems w3.heap.size w3 v3 vs) := OwnIt.items hown3 (by omega) (wfI_it hwf3)
  have HR3 : Hid (RdAt B0 w.heap.size a len cap w3) := hr3
  have HB3 : Hid (Below w.heap.size w w3) := HB2.out.trans (gb_below hg3 (Nat.le_refl _) (by omega))
  have HEN : Hid (Calls Tryz.prog 9 #[v, v3] w3 fun e w' => e = .returned (.tuple #[.string (encB (btOk ts && typedB ts vs) (bitL ts vs)), .bool (btOk ts && typedB ts vs)]) ∧ Below w3.heap.size w3 w') := specBitcoinEnc_any ts vs v v3 w3 HT3.out HI3.out
  have hD : ((encB (btOk ts && typedB ts vs) (bitL ts vs))).size ≤ 204000 := by
    cases ho : (btOk ts && typedB ts vs) with
    | false => simp [encB, ByteArray.size]
    | true =>
      have hh : typedB ts vs = true := by first | exact ho | (simp only [Bool.and_eq_true] at ho; exact ho.2)
      show (⟨(scE _ ts vs 7 0 0).toArray⟩ : ByteArray).size ≤ 204000
      rw [ba_len]
      exact enc_small cb_len_bc (fun x hx => (hwf3 x hx).2.2) hh
  have hs3 : w2.heap.size ≤ w3.heap.size := hg3.size
  obtain ⟨D, hDE⟩ : ∃ D, (encB (btOk ts && typedB ts vs) (bitL ts vs)) = D := ⟨_, rfl⟩
  obtain ⟨o, hoE⟩ : ∃ o, (btOk ts && typedB ts vs) = o := ⟨_, rfl⟩
  rw [hDE] at HEN hD
  rw [hoE] at HEN
  clear hown3 hr3 hg3 hwf3 HV hDE hoE
  go_wp2_with fail
  refine Calls.mono HEN.out ?_
  rintro e w4 ⟨rfl, hb4⟩
  have HO4 : Hid (w4.ownsRow w1.heap.size 70 2 v ts.length (flatT ts)) := World.ownsRow.kept HO3.out (gb_bel hb4) (by cases v.ownBlock <;> simp)
  have HR4 : Hid (RdAt B0 w.heap.size a len cap w4) := HR3.out.full hb4
  have HB4 : Hid (Below w.heap.size w w4) := HB3.out.trans (hb4.mono HB3.out.size)
  have hs4 : w3.heap.size ≤ w4.heap.size := hb4.size
  clear hb4
  go_wp2_with fail
  refine (wire_any B0 w.heap.size a len cap D _ HR4.out (by omega)).mono ?_
  rintro e w5 ⟨⟨t, ht, rfl⟩, hr5, hg5⟩
  have HO5 : Hid (w5.ownsRow w.heap.size 70 2 v ts.length (flatT ts)) := own_base (World.ownsRow.kept HO4.out hg5 (own_ne2 HO4.out hs1)) (by omega)
  have HB5 : Hid (Below w.heap.size w w5) := HB4.out.trans (gb_below hg5 (Nat.le_refl _) (by omega))
  clear hr5 hg5
  go_wp2_with fail
  go_ret2
  exact ⟨v, ts, t, rfl, HO5.out, h24, HWT.out.1, HWT.out.2, by omega, HB5.out⟩
end Go.Proofs.YtichgnddbnibjaaGreatDoor
