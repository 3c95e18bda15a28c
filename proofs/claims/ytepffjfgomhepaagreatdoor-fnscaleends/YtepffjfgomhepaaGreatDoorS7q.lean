/- What a codec admits; the tree of a schema for a codec: contracts. -/
import Derived.Test.YtepffjfgomhepaaGreatDoorS7p
import Derived.Test.YtepffjfgomhepaaGreatDoorS3j
import Derived.Test.YtepffjfgomhepaaGreatDoorS7b
import Derived.Test.YtepffjfgomhepaaGreatDoorS7t
namespace Go.Proofs.YtepffjfgomhepaaGreatDoor
open Go.RowKit Go.Sort
set_option linter.unusedVariables false
theorem cell_1 {w : World} {u i : Nat} {v : Value} (h : w.cell? ⟨u, i, none⟩ = some v) (hu : u < w.heap.size) (o : Obj) : (w.alloc o).cell? ⟨u, i, none⟩ = some v := by
  rw [(bel1 w o).cell (p := ⟨u, i, none⟩) hu]; exact h
theorem ba_size (l : List UInt8) : ByteArray.size ⟨l.toArray⟩ = l.length := by show l.toArray.size = _; simp
theorem typed_ve {ts : List (Int × Int)} {vs : List It} (h : typedB ts vs = true) : schOk ts = true ∧ vs.length ≤ 200 ∧ ve ts vs 7 0 0 = some vs.length := by
  unfold typedB at h
  simp only [Bool.and_eq_true, decide_eq_true_eq, beq_iff_eq] at h
  exact ⟨h.1, h.2.1, h.2.2⟩
theorem items_wf {B : Nat} {w : World} {v : Value} {vs : List It} (h : IsItems B w v vs) : ∀ x ∈ vs, x.n < 18446744073709551616 ∧ x.s.size ≤ 1048577 := by
  obtain ⟨b, o, C, h1, _⟩ := h
  exact fun x hx => (h1.wf x hx).2
/-- What an encoding answers: the bytes, if it is a value that the format has. -/
def encB (ok : Bool) (l : List UInt8) : ByteArray := if ok then ⟨l.toArray⟩ else ⟨#[]⟩
/-- What encodeBy leaves. -/
def EncPost (ok : Bool) (l : List UInt8) (w : World) (e : Ending) (w' : World) : Prop :=
  (∃ x, e = .returned (.tuple #[.string (encB ok l), x]) ∧ ((ok = true ∧ x = .nilIface) ∨ (ok = false ∧ ∃ T z, x = .iface T z))) ∧ Below w.heap.size w w'
theorem anyAdmits (v : Value) (w : World) : Calls Tryz.prog 122 #[.agg #[], v] w fun e w' => e = .returned (.bool true) ∧ Below w.heap.size w w' := by
  go_enter Tryz.func122, Tryz.ntmps122
  go_wp2_with fail
  go_ret
  exact ⟨rfl, by first | exact Below.refl _ _ | exact bel1 _ _⟩
/-- Neither options nor unions, in the type at place a and behind it. -/
def bt (ts : List (Int × Int)) : Nat → Nat → Bool
  | 0, _ => false
  | f + 1, a => match ts[a]? with
    | none => false
    | some t => (!(decide (t.1 = 8 ∨ t.1 = 9))) && allTo (en ts f) (bt ts f) (a + 1) (kids t.1 t.2)
theorem bt_ok {ts : List (Int × Int)} {f a : Nat} (ha : a < ts.length) : bt ts (f + 1) a = ((!(decide (ts[a].1 = 8 ∨ ts[a].1 = 9))) && allTo (en ts f) (bt ts f) (a + 1) (kids ts[a].1 ts[a].2)) := by
  simp [bt, List.getElem?_eq_getElem ha]
/-- Neither options nor unions. -/
def btOk (ts : List (Int × Int)) : Bool := ts.all fun t => !(decide (t.1 = 8 ∨ t.1 = 9))
theorem bt_flat {ts : List (Int × Int)} : ∀ {f a e : Nat}, en ts f a = some e → (bt ts f a = true ↔ ∀ i (h : i < ts.length), a ≤ i → i < e → ¬ (ts[i].1 = 8 ∨ ts[i].1 = 9)) := by
  intro f
  induction f with
  | zero => intro a e h; cases h
  | succ f ih =>
    intro a e he
    obtain ⟨ha, hok, hit⟩ := en_inv he
    have key : ∀ j x, iter (en ts f) (a + 1) j = some x → (allTo (en ts f) (bt ts f) (a + 1) j = true ↔ ∀ i (h : i < ts.length), a + 1 ≤ i → i < x → ¬ (ts[i].1 = 8 ∨ ts[i].1 = 9)) := by
      intro j
      induction j with
      | zero =>
        intro x hx
        cases hx
        simp only [allTo, true_iff]
        intro i h h1 h2
        omega
      | succ j ihj =>
        intro x hx
        obtain ⟨y, hy⟩ := iter_part hx (Nat.le_succ j)
        rw [allTo_succ hy, Bool.and_eq_true, ihj y hy]
        rw [iter_succ, hy] at hx
        have hyx : y < x := (en_lt (show en ts f y = some x from hx)).1
        have hay : a + 1 ≤ y := iter_up (fun a e h => (en_lt h).1) hy (Nat.zero_le j) (iter_zero _ _)
        rw [ih (show en ts f y = some x from hx)]
        constructor
        · rintro ⟨h1, h2⟩ i hi h3 h4
          by_cases h5 : i < y
          · exact h1 i hi h3 h5
          · exact h2 i hi (by omega) h4
        · intro h1
          exact ⟨fun i hi h3 h4 => h1 i hi h3 (by omega), fun i hi h3 h4 => h1 i hi (by omega) h4⟩
    have hae : a < e := (en_lt he).1
    rw [bt_ok ha, Bool.and_eq_true, key _ _ hit]
    constructor
    · rintro ⟨h1, h2⟩ i hi h3 h4
      by_cases h5 : i = a
      · subst h5; simpa using h1
      · exact h2 i hi (by omega) h4
    · intro h1
      exact ⟨by simpa using h1 a ha (Nat.le_refl _) hae, fun i hi h3 h4 => h1 i hi (by omega) h4⟩
theorem bt_all {ts : List (Int × Int)} (hs : schOk ts = true) : bt ts 7 0 = btOk ts := by
  have h7 := (schOk_iff.1 hs).2
  rw [Bool.eq_iff_iff, bt_flat h7]
  unfold btOk
  rw [List.all_eq_true]
  constructor
  · intro h t ht
    obtain ⟨i, hi, rfl⟩ := List.getElem_of_mem ht
    simpa using h i hi (Nat.zero_le _) hi
  · intro h i hi _ _
    simpa using h ts[i] (List.getElem_mem hi)
end Go.Proofs.YtepffjfgomhepaaGreatDoor
