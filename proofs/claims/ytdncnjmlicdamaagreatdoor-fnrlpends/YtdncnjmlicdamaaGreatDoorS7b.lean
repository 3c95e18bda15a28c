/- What the formats with whole numbers share: a number's width, its bytes; a count: contracts. -/
import Derived.Test.YtdncnjmlicdamaaGreatDoorS3f
import Derived.Test.YtdncnjmlicdamaaGreatDoorS7a
import Derived.Test.YtdncnjmlicdamaaGreatDoorL1e
import Derived.Test.YtdncnjmlicdamaaGreatDoorSh
import Derived.Laws.EntriesVeiled
namespace Go.Proofs.YtdncnjmlicdamaaGreatDoor
open Go.RowKit Go.Sort
set_option linter.unusedVariables false
theorem bel2 (w : World) (o o' : Obj) : Below w.heap.size w ((w.alloc o).alloc o') := (bel1 w o).alloc (by simp) _
theorem bel3 (w : World) (o o' o'' : Obj) : Below w.heap.size w (((w.alloc o).alloc o').alloc o'') := (bel2 w o o').alloc (by simp; omega) _
/-- How many bytes a number of that type has. -/
def wid (k n : Int) : Nat := if k = 1 then (n / 8).toNat else 1
theorem wid_le {k n : Int} (hok : tyOk k n = true) : wid k n ≤ 8 := by
  simp only [tyOk, decide_eq_true_eq] at hok
  unfold wid
  split <;> omega
theorem clone_any (s : ByteArray) (w : World) (hs : s.size ≤ 281474976710656) : Calls Tryz.prog 33 #[.string s] w fun e w' => e = .returned (.string s) ∧ Below w.heap.size w w' := by
  have HC : Hid (∀ w, Calls Tryz.prog 52 #[.string s] w fun e w' => e = .returned (.string s) ∧ Below w.heap.size w w') := fun w => Tryz.stringslite_Clone s w hs
  clear hs
  go_enter Tryz.func33, Tryz.ntmps33
  go_wp2_with fail
  refine (HC.out _).mono ?_
  rintro e w1 ⟨rfl, hb1⟩
  go_wp2_with fail
  go_ret
  exact ⟨rfl, hb1⟩
/-- The bytes of the first j parts. -/
def catE (E : Nat → List UInt8) : Nat → List UInt8
  | 0 => []
  | j + 1 => catE E j ++ E j
theorem catE_len {E : Nat → List UInt8} {L : Nat} {n : Nat} (h : ∀ j, j < n → (E j).length ≤ L) : ∀ j, j ≤ n → (catE E j).length ≤ j * L := by
  intro j
  induction j with
  | zero => intro _; simp [catE]
  | succ j ih =>
    intro hj
    simp only [catE, List.length_append]
    have h1 := ih (by omega)
    have h2 := h j (by omega)
    have h3 : (j + 1) * L = j * L + L := Nat.succ_mul j L
    omega
theorem cat_catE (e : Nat → Nat → List UInt8) (g : Nat → Nat → Option Nat) (ps : Nat → Nat) (q : Nat) : ∀ j, cat e g ps q j = catE (fun j => e (ps j) ((vit g ps q j).getD 0)) j
  | 0 => rfl
  | j + 1 => by simp only [cat, catE]; rw [cat_catE e g ps q j]
theorem catE_congr {E E' : Nat → List UInt8} : ∀ {n : Nat}, (∀ j, j < n → E j = E' j) → catE E n = catE E' n
  | 0, _ => rfl
  | n + 1, h => by simp only [catE]; rw [catE_congr (fun j hj => h j (by omega)), h n (by omega)]
theorem isB_below {T e : TypeId} {B b : Nat} {bs : List Value} {W W' : World} (h : Lib.IsBuilder T e B b bs W) (hb : Below W.heap.size W W') : Lib.IsBuilder T e B b bs W' := by
  have one : ∀ p, Lib.BuilderAt T e B b p bs W → Lib.BuilderAt T e B b p bs W' := fun p h => by
    have hlt := h.lt
    obtain ⟨hB, v, hv, hown, hne⟩ := h
    exact ⟨hB, v, (hb.block b hlt).trans hv, hown.kept (gb_bel hb) (by cases v.ownBlock <;> simp), hne⟩
  exact h.elim (fun x => .inl (one _ x)) (fun x => .inr (one _ x))
theorem isB_new (w : World) : Lib.IsBuilder 169 5 w.heap.size w.heap.size (Lib.byteCells []) (w.alloc (.cells #[.pointer none, .slice none 0 0] 169)) :=
  .inl ⟨Nat.le_refl _, .slice none 0 0, heap_alloc_new w _, World.ownsRow_nil _ _ _ _, by simp [Value.ownBlock]⟩
theorem byteCells_cat (a b : List UInt8) : Lib.byteCells a ++ Lib.strCells ⟨b.toArray⟩ = Lib.byteCells (a ++ b) := by simp [Lib.byteCells, Lib.strCells]
theorem byteCells_len (a : List UInt8) : (Lib.byteCells a).length = a.length := by simp [Lib.byteCells]
/-- What is asked of the parts: each writes its bytes, whatever has been laid since. -/
def WrHyp_rlp (ys : Nat → Value) (E : Nat → List UInt8) (n : Nat) (w : World) : Prop :=
  ∀ j, j < n → ∀ w', Below w.heap.size w w' → Calls Tryz.prog 97 #[.agg #[], ys j] w' fun e w'' => e = .returned (.string ⟨(E j).toArray⟩) ∧ Below w'.heap.size w' w''
set_option maxHeartbeats 2000000 in
theorem writeAll_rlp (n cap : Nat) (ad : Option Addr) (ys : Nat → Value) (E : Nat → List UInt8) (w : World) (hn : n ≤ 20) (h1 : n ≤ cap) (h2 : cap ≤ maxLen) (hcell : n = 0 ∨ ∃ g, ad = some ⟨g, 0, none⟩ ∧ g < w.heap.size ∧ ∀ j, j < n → w.cell? ⟨g, j, none⟩ = some (ys j))
    (hE : ∀ j, j < n → (E j).length ≤ 1000000000000) (hw : WrHyp_rlp ys E n w) :
    Calls Tryz.prog 102 #[.iface 45 (.agg #[]), .slice ad n cap] w fun e w' => e = .returned (.string ⟨(catE E n).toArray⟩) ∧ Below w.heap.size w w' := by
  have HW : Hid (WrHyp_rlp ys E n w) := hw
  have HC : Hid (n = 0 ∨ ∃ g, ad = some ⟨g, 0, none⟩ ∧ g < w.heap.size ∧ ∀ j, j < n → w.cell? ⟨g, j, none⟩ = some (ys j)) := hcell
  have HE : Hid (∀ j, j < n → (E j).length ≤ 1000000000000) := hE
  have HS : Hid (∀ (bs : List Value) (s : ByteArray) (w' : World), Lib.IsBuilder 169 5 w.heap.size w.heap.size bs w' → bs.length + s.size ≤ 140737488355328 → w.heap.size ≤ w'.heap.size →
      Calls Tryz.prog 108 #[.pointer (some ⟨w.heap.size, 0, none⟩), .string s] w' fun e w'' => e = .returned (.tuple #[.int .i64 s.size, .nilIface]) ∧ (Lib.BuilderAt 169 5 w.heap.size w.heap.size (.pointer (some ⟨w.heap.size, 0, none⟩)) (bs ++ Lib.strCells s) w'' ∧ Below w.heap.size w' w'')) := fun bs s w' h hl hB => Tryz.Builder_WriteString _ _ bs s w' h hl hB
  clear hw hcell hE
  go_enter Tryz.func102, Tryz.ntmps102
  go_wp2_with fail
  go_loopg [10] n (fun gk i wr => ∃ j : Nat, j + gk = n ∧ i = .int .i64 j ∧ Lib.IsBuilder 169 5 w.heap.size w.heap.size (Lib.byteCells (catE E j)) wr ∧ Below w.heap.size w wr)
  case atStart => exact ⟨0, by omega, rfl, isB_new w, bel1 _ _⟩
  case round =>
    obtain ⟨j, hj', rfl, hib, hbel⟩ := hrel
    have HJ : Hid (j + gk = n) := hj'
    have hj : j ≤ n := by omega
    have HIB : Hid (Lib.IsBuilder 169 5 w.heap.size w.heap.size (Lib.byteCells (catE E j)) wr) := hib
    have HB : Hid (Below w.heap.size w wr) := hbel
    clear hj' hib
    by_cases hjn : j < n
    · obtain ⟨g, rfl, hg, hc⟩ := HC.out.resolve_left (by omega)
      have c0 : wr.cell? ⟨g, j, none⟩ = some (ys j) := by rw [hbel.cell (p := ⟨g, j, none⟩) hg]; exact hc j hjn
      have hgr : g < wr.heap.size := by have := hbel.size; omega
      have HWj : Hid (Calls Tryz.prog 97 #[.agg #[], ys j] wr fun e w'' => e = .returned (.string ⟨(E j).toArray⟩) ∧ Below wr.heap.size wr w'') := HW.out j hjn wr hbel
      clear hc hbel
      obtain ⟨y, hy⟩ : ∃ y, ys j = y := ⟨_, rfl⟩
      rw [hy] at c0 HWj
      clear hy
      go_wp2_with fail
      refine Calls.mono HWj.out ?_
      rintro e w2 ⟨rfl, hb2⟩
      have HIB2 : Hid (Lib.IsBuilder 169 5 w.heap.size w.heap.size (Lib.byteCells (catE E j)) w2) := isB_below HIB.out hb2
      have HB2 : Hid (Below w.heap.size w w2) := HB.out.trans (hb2.mono HB.out.size)
      clear hb2
      go_wp2_with fail
      refine (HS.out (Lib.byteCells (catE E j)) _ w2 HIB2.out (by
        rw [byteCells_len]
        have e1 := catE_len HE.out j hj
        have e2 := HE.out j hjn
        have e3 : ByteArray.size ⟨(E j).toArray⟩ = (E j).length := by simp [ByteArray.size]
        have e4 : j * 1000000000000 ≤ 20 * 1000000000000 := Nat.mul_le_mul_right _ (by omega)
        omega) HB2.out.size).mono ?_
      rintro e w3 ⟨rfl, hba, hb3⟩
      have HIB3 : Hid (Lib.IsBuilder 169 5 w.heap.size w.heap.size (Lib.byteCells (catE E (j + 1))) w3) := by
        show Lib.IsBuilder _ _ _ _ _ _
        rw [byteCells_cat] at hba
        exact .inr hba
      have HB3 : Hid (Below w.heap.size w w3) := HB2.out.trans hb3
      clear hba hb3
      go_wp2_with fail
      go_roundg (gk - 1)
      case rel => exact ⟨j + 1, by have := HJ.out; omega, by go_num, HIB3.out, HB3.out⟩
      case measure => have := HJ.out; omega
    · have e1 : j = n := by omega
      subst e1
      go_wp2_with fail
      refine (Tryz.Builder_String_any w.heap.size w.heap.size (catE E j) wr HIB.out HB.out.size).mono ?_
      rintro e w4 ⟨rfl, hb4⟩
      have HB4 : Hid (Below w.heap.size w w4) := HB.out.trans hb4
      clear hb4
      go_wp2_with fail
      go_ret
      exact ⟨rfl, HB4.out⟩
end Go.Proofs.YtdncnjmlicdamaaGreatDoor
