/- What the formats with whole numbers share: a number's width, its bytes; a count: contracts. -/
import Derived.Test.YtichgnddbnibjaaGreatDoorS3f
import Derived.Test.YtichgnddbnibjaaGreatDoorS7a
import Derived.Test.YtichgnddbnibjaaGreatDoorL1e
import Derived.Test.YtichgnddbnibjaaGreatDoorSh
import Derived.Laws.EntriesVeiled
namespace Go.Proofs.YtichgnddbnibjaaGreatDoor
open Go.RowKit Go.Sort
set_option linter.unusedVariables false
theorem bel2 (w : World) (o o' : Obj) : Below w.heap.size w ((w.alloc o).alloc o') := (bel1 w o).alloc (by simp) _
theorem bel3 (w : World) (o o' o'' : Obj) : Below w.heap.size w (((w.alloc o).alloc o').alloc o'') := (bel2 w o o').alloc (by simp; omega) _
/-- How many bytes a number of that type has. -/
def wid (k n : Int) : Nat := if k = 1 then (n / 8).toNat else 1
theorem wid_le {k n : Int} (hok : tyOk k n = true) : wid k n ≤ 8 := by
  simp only [tyOk, decide_eq_true_eq] at hok
  unfold wid
  split <;> omega
set_option maxHeartbeats 1000000 in
theorem width_any (k n : Int) (w : World) (hok : tyOk k n = true) : Calls Tryz.prog 125 #[.agg #[], .agg #[.int .i64 k, .int .i64 n]] w fun e w' => e = .returned (.int .i64 (wid k n)) ∧ Below w.heap.size w w' := by
  simp only [tyOk, decide_eq_true_eq] at hok
  by_cases h1 : k = 1
  · subst h1
    have hn : n = 8 ∨ n = 16 ∨ n = 32 ∨ n = 64 := by omega
    rcases hn with rfl | rfl | rfl | rfl
    all_goals
      go_enter Tryz.func125, Tryz.ntmps125
      go_wp2_with fail
      go_ret
      exact ⟨by simp [wid], bel2 _ _ _⟩
  · have hk := beqF h1
    have HW : Hid (wid k n = 1) := if_neg h1
    clear hok h1
    go_enter Tryz.func125, Tryz.ntmps125
    go_wp2_with fail
    go_ret
    exact ⟨by rw [HW.out]; rfl, bel2 _ _ _⟩
set_option maxHeartbeats 1000000 in
theorem writeNumber_any (k n : Int) (m : Nat) (w : World) (hok : tyOk k n = true) (hm : m < 18446744073709551616) : Calls Tryz.prog 129 #[.agg #[], .agg #[.int .i64 k, .int .i64 n], .int .u64 m] w fun e w' => e = .returned (.string ⟨(leL m (wid k n)).toArray⟩) ∧ Below w.heap.size w w' := by
  have HC : Hid (∀ w, Calls Tryz.prog 125 #[.agg #[], .agg #[.int .i64 k, .int .i64 n]] w fun e w' => e = .returned (.int .i64 (wid k n)) ∧ Below w.heap.size w w') := fun w => width_any k n w hok
  have HL : Hid (∀ w, Calls Tryz.prog 92 #[.int .u64 m, .int .i64 (wid k n)] w fun e w' => e = .returned (.string ⟨(leL m (wid k n)).toArray⟩) ∧ Below w.heap.size w w') := fun w => lowFirst_u64_any m (wid k n) w hm (wid_le hok)
  clear hok
  go_enter Tryz.func129, Tryz.ntmps129
  go_wp2_with fail
  refine (HC.out _).mono ?_
  rintro e w1 ⟨rfl, hb1⟩
  go_wp2_with fail
  refine (HL.out _).mono ?_
  rintro e w2 ⟨rfl, hb2⟩
  have HB : Hid (Below w.heap.size w w2) := ((bel2 _ _ _).trans (hb1.mono (by simp; omega))).trans (hb2.mono (by have := hb1.size; simp at this; omega))
  clear hb1 hb2
  go_wp2_with fail
  go_ret
  exact ⟨rfl, HB.out⟩
set_option maxHeartbeats 1000000 in
theorem isCounted_any (k n : Int) (w : World) : Calls Tryz.prog 133 #[.agg #[.int .i64 k, .int .i64 n]] w fun e w' => e = .returned (.bool (decide (k = 3 ∨ k = 5))) ∧ Below w.heap.size w w' := by
  by_cases h3 : k = 3
  · subst h3
    go_enter Tryz.func133, Tryz.ntmps133
    go_wp2_with fail
    go_ret
    exact ⟨rfl, bel1 _ _⟩
  · by_cases h5 : k = 5
    · subst h5
      go_enter Tryz.func133, Tryz.ntmps133
      go_wp2_with fail
      go_ret
      exact ⟨rfl, bel1 _ _⟩
    · have HR : Hid (decide (k = 3 ∨ k = 5) = false) := by show _ = _; simp [h3, h5]
      have e3 := beqF h3
      have e5 := beqF h5
      clear h3 h5
      go_enter Tryz.func133, Tryz.ntmps133
      go_wp2_with fail
      go_ret
      exact ⟨by rw [HR.out]; try rfl, bel1 _ _⟩
theorem clone_any (s : ByteArray) (w : World) (hs : s.size ≤ 281474976710656) : Calls Tryz.prog 44 #[.string s] w fun e w' => e = .returned (.string s) ∧ Below w.heap.size w w' := by
  have HC : Hid (∀ w, Calls Tryz.prog 64 #[.string s] w fun e w' => e = .returned (.string s) ∧ Below w.heap.size w w') := fun w => Tryz.stringslite_Clone s w hs
  clear hs
  go_enter Tryz.func44, Tryz.ntmps44
  go_wp2_with fail
  refine (HC.out _).mono ?_
  rintro e w1 ⟨rfl, hb1⟩
  go_wp2_with fail
  go_ret
  exact ⟨rfl, hb1⟩
/-- The address of a part without bytes at the head of a codec is the codec's. -/
theorem part00 {W : World} {b : Nat} {cs : Array Value} (h : W.heap[b]? = some (.cells cs 54 (0, 0))) : (partAt ⟨b, 0, none⟩ 0 0).run Tryz.prog W = .ok ⟨b, 0, none⟩ W := by
  have e0 : Tryz.prog.cellsOf 54 = 2 := by kernel_rfl
  have e1 : byteOfCell Tryz.prog Tryz.prog.depth 54 0 = some 0 := by kernel_rfl
  have e2 : W.shape? b = some (54, cs.size) := by simp [World.shape?, h]
  have hv : (viewAt b).run Tryz.prog W = .ok none W := by simp [viewAt, go_sem, e2]
  simp [partAt, byteOf, noView, go_sem, e0, e1, e2, hv]
theorem part00_re {W : World} {b : Nat} {cs : Array Value} (h : W.heap[b]? = some (.cells cs 54 (0, 0))) (d : Nat) (os : Array Obj) : (partAt ⟨b, 0, none⟩ 0 0).run Tryz.prog (grow (redrawn W d) os) = .ok ⟨b, 0, none⟩ (grow (redrawn W d) os) :=
  part00 (cs := cs) (by rw [(below_regrown W d os).block b (blk_lt h)]; exact h)
theorem newBitcoin_any (w : World) : Calls Tryz.prog 25 #[] w fun e w' => e = .returned (.agg #[.func (.func 45) #[] #[], .func (.func 46) #[] #[]]) ∧ Below w.heap.size w w' := by
  go_enter Tryz.func25, Tryz.ntmps25
  go_wp2_with fail
  refine bodyPost_ret (v := .agg #[.func (.func 45) #[] #[], .func (.func 46) #[] #[]]) (by simp [results, Tryz.results25, go_sem]) rfl ?_
  exact ⟨rfl, bel1 _ _⟩
/-- What stands ahead, as a count. -/
def cnt_bc (k : Int) (m : Nat) : List UInt8 := if k = 3 ∨ k = 5 then putSize m else []
set_option maxHeartbeats 1000000 in
theorem writeCount_bc (k n : Int) (m : Nat) (w : World) (hm : m ≤ 4611686018427387904) : Calls Tryz.prog 130 #[.agg #[.func (.func 45) #[] #[], .func (.func 46) #[] #[]], .agg #[.int .i64 k, .int .i64 n], .int .i64 m] w fun e w' => e = .returned (.string ⟨(cnt_bc k m).toArray⟩) ∧ Below w.heap.size w w' := by
  have HC : Hid (∀ w, Calls Tryz.prog 133 #[.agg #[.int .i64 k, .int .i64 n]] w fun e w' => e = .returned (.bool (decide (k = 3 ∨ k = 5))) ∧ Below w.heap.size w w') := fun w => isCounted_any k n w
  have HP : Hid (∀ w, Calls Tryz.prog 45 #[.int .u64 m] w fun e w' => e = .returned (.string ⟨(putSize m).toArray⟩) ∧ Below w.heap.size w w') := fun w => implPutSize_any m w (by omega)
  by_cases h : k = 3 ∨ k = 5
  · have HR : Hid (cnt_bc k m = putSize m) := if_pos h
    rw [decide_eq_true h] at HC
    clear h
    go_enter Tryz.func130, Tryz.ntmps130
    go_wp2_with fail
    refine (HC.out _).mono ?_
    rintro e w1 ⟨rfl, hb1⟩
    have hB : Below w.heap.size w w1 := (bel2 _ _ _).trans (hb1.mono (by simp; omega))
    have HB : Hid (Below w.heap.size w w1) := hB
    have c0 : w1.cell? ⟨w.heap.size, 0, none⟩ = some (.func (.func 45) #[] #[]) := by rw [hb1.cell (p := ⟨w.heap.size, 0, none⟩) (by simp; omega)]; simp [go_sem]
    clear hb1 hB
    go_wp2_with fail
    refine (HP.out _).mono ?_
    rintro e w2 ⟨rfl, hb2⟩
    have HB2 : Hid (Below w.heap.size w w2) := HB.out.trans (hb2.mono HB.out.size)
    clear hb2
    go_wp2_with fail
    go_ret
    exact ⟨by rw [HR.out]; try rfl, HB2.out⟩
  · have HR : Hid (cnt_bc k m = []) := if_neg h
    rw [decide_eq_false h] at HC
    clear h
    go_enter Tryz.func130, Tryz.ntmps130
    go_wp2_with fail
    refine (HC.out _).mono ?_
    rintro e w1 ⟨rfl, hb1⟩
    have HB : Hid (Below w.heap.size w w1) := (bel2 _ _ _).trans (hb1.mono (by simp; omega))
    clear hb1
    go_wp2_with fail
    go_ret
    exact ⟨by rw [HR.out]; try rfl, HB.out⟩
/-- The bytes of the first j parts. -/
def catE (E : Nat → List UInt8) : Nat → List UInt8
  | 0 => []
  | j + 1 => catE E j ++ E j
theorem catE_len {E : Nat → List UInt8} {L : Nat} {n : Nat} (h : ∀ j, j < n → (E j).length ≤ L) : ∀ j, j ≤ n → (catE E j).length ≤ j * L := by
  intro j
  induction j with
  | zero => intro _; simp [catE]
  | succ j ih =>
    intro hj
    simp only [catE, List.length_append]
    have h1 := ih (by omega)
    have h2 := h j (by omega)
    have h3 : (j + 1) * L = j * L + L := Nat.succ_mul j L
    omega
theorem cat_catE (e : Nat → Nat → List UInt8) (g : Nat → Nat → Option Nat) (ps : Nat → Nat) (q : Nat) : ∀ j, cat e g ps q j = catE (fun j => e (ps j) ((vit g ps q j).getD 0)) j
  | 0 => rfl
  | j + 1 => by simp only [cat, catE]; rw [cat_catE e g ps q j]
theorem catE_congr {E E' : Nat → List UInt8} : ∀ {n : Nat}, (∀ j, j < n → E j = E' j) → catE E n = catE E' n
  | 0, _ => rfl
  | n + 1, h => by simp only [catE]; rw [catE_congr (fun j hj => h j (by omega)), h n (by omega)]
theorem isB_below {T e : TypeId} {B b : Nat} {bs : List Value} {W W' : World} (h : Lib.IsBuilder T e B b bs W) (hb : Below W.heap.size W W') : Lib.IsBuilder T e B b bs W' := by
  have one : ∀ p, Lib.BuilderAt T e B b p bs W → Lib.BuilderAt T e B b p bs W' := fun p h => by
    have hlt := h.lt
    obtain ⟨hB, v, hv, hown, hne⟩ := h
    exact ⟨hB, v, (hb.block b hlt).trans hv, hown.kept (gb_bel hb) (by cases v.ownBlock <;> simp), hne⟩
  exact h.elim (fun x => .inl (one _ x)) (fun x => .inr (one _ x))
theorem isB_new (w : World) : Lib.IsBuilder 193 5 w.heap.size w.heap.size (Lib.byteCells []) (w.alloc (.cells #[.pointer none, .slice none 0 0] 193)) :=
  .inl ⟨Nat.le_refl _, .slice none 0 0, heap_alloc_new w _, World.ownsRow_nil _ _ _ _, by simp [Value.ownBlock]⟩
theorem byteCells_cat (a b : List UInt8) : Lib.byteCells a ++ Lib.strCells ⟨b.toArray⟩ = Lib.byteCells (a ++ b) := by simp [Lib.byteCells, Lib.strCells]
theorem byteCells_len (a : List UInt8) : (Lib.byteCells a).length = a.length := by simp [Lib.byteCells]
/-- What is asked of the parts: each writes its bytes, whatever has been laid since. -/
def WrHyp_bc (ys : Nat → Value) (E : Nat → List UInt8) (n : Nat) (w : World) : Prop :=
  ∀ j, j < n → ∀ w', Below w.heap.size w w' → Calls Tryz.prog 127 #[.agg #[.func (.func 45) #[] #[], .func (.func 46) #[] #[]], ys j] w' fun e w'' => e = .returned (.string ⟨(E j).toArray⟩) ∧ Below w'.heap.size w' w''
set_option maxHeartbeats 2000000 in
theorem writeAll_bc (n cap : Nat) (ad : Option Addr) (ys : Nat → Value) (E : Nat → List UInt8) (w : World) (hn : n ≤ 20) (h1 : n ≤ cap) (h2 : cap ≤ maxLen) (hcell : n = 0 ∨ ∃ g, ad = some ⟨g, 0, none⟩ ∧ g < w.heap.size ∧ ∀ j, j < n → w.cell? ⟨g, j, none⟩ = some (ys j))
    (hE : ∀ j, j < n → (E j).length ≤ 1000000000000) (hw : WrHyp_bc ys E n w) :
    Calls Tryz.prog 131 #[.iface 54 (.agg #[.func (.func 45) #[] #[], .func (.func 46) #[] #[]]), .slice ad n cap] w fun e w' => e = .returned (.string ⟨(catE E n).toArray⟩) ∧ Below w.heap.size w w' := by
  have HW : Hid (WrHyp_bc ys E n w) := hw
  have HC : Hid (n = 0 ∨ ∃ g, ad = some ⟨g, 0, none⟩ ∧ g < w.heap.size ∧ ∀ j, j < n → w.cell? ⟨g, j, none⟩ = some (ys j)) := hcell
  have HE : Hid (∀ j, j < n → (E j).length ≤ 1000000000000) := hE
  have HS : Hid (∀ (bs : List Value) (s : ByteArray) (w' : World), Lib.IsBuilder 193 5 w.heap.size w.heap.size bs w' → bs.length + s.size ≤ 140737488355328 → w.heap.size ≤ w'.heap.size →
      Calls Tryz.prog 134 #[.pointer (some ⟨w.heap.size, 0, none⟩), .string s] w' fun e w'' => e = .returned (.tuple #[.int .i64 s.size, .nilIface]) ∧ (Lib.BuilderAt 193 5 w.heap.size w.heap.size (.pointer (some ⟨w.heap.size, 0, none⟩)) (bs ++ Lib.strCells s) w'' ∧ Below w.heap.size w' w'')) := fun bs s w' h hl hB => Tryz.Builder_WriteString _ _ bs s w' h hl hB
  clear hw hcell hE
  go_enter Tryz.func131, Tryz.ntmps131
  go_wp2_with fail
  go_loopg [10] n (fun gk i wr => ∃ j : Nat, j + gk = n ∧ i = .int .i64 j ∧ Lib.IsBuilder 193 5 w.heap.size w.heap.size (Lib.byteCells (catE E j)) wr ∧ Below w.heap.size w wr)
  case atStart => exact ⟨0, by omega, rfl, isB_new w, bel1 _ _⟩
  case round =>
    obtain ⟨j, hj', rfl, hib, hbel⟩ := hrel
    have HJ : Hid (j + gk = n) := hj'
    have hj : j ≤ n := by omega
    have HIB : Hid (Lib.IsBuilder 193 5 w.heap.size w.heap.size (Lib.byteCells (catE E j)) wr) := hib
    have HB : Hid (Below w.heap.size w wr) := hbel
    clear hj' hib
    by_cases hjn : j < n
    · obtain ⟨g, rfl, hg, hc⟩ := HC.out.resolve_left (by omega)
      have c0 : wr.cell? ⟨g, j, none⟩ = some (ys j) := by rw [hbel.cell (p := ⟨g, j, none⟩) hg]; exact hc j hjn
      have hgr : g < wr.heap.size := by have := hbel.size; omega
      have HWj : Hid (Calls Tryz.prog 127 #[.agg #[.func (.func 45) #[] #[], .func (.func 46) #[] #[]], ys j] wr fun e w'' => e = .returned (.string ⟨(E j).toArray⟩) ∧ Below wr.heap.size wr w'') := HW.out j hjn wr hbel
      clear hc hbel
      obtain ⟨y, hy⟩ : ∃ y, ys j = y := ⟨_, rfl⟩
      rw [hy] at c0 HWj
      clear hy
      go_wp2_with fail
      refine Calls.mono HWj.out ?_
      rintro e w2 ⟨rfl, hb2⟩
      have HIB2 : Hid (Lib.IsBuilder 193 5 w.heap.size w.heap.size (Lib.byteCells (catE E j)) w2) := isB_below HIB.out hb2
      have HB2 : Hid (Below w.heap.size w w2) := HB.out.trans (hb2.mono HB.out.size)
      clear hb2
      go_wp2_with fail
      refine (HS.out (Lib.byteCells (catE E j)) _ w2 HIB2.out (by
        rw [byteCells_len]
        have e1 := catE_len HE.out j hj
        have e2 := HE.out j hjn
        have e3 : ByteArray.size ⟨(E j).toArray⟩ = (E j).length := by simp [ByteArray.size]
        have e4 : j * 1000000000000 ≤ 20 * 1000000000000 := Nat.mul_le_mul_right _ (by omega)
        omega) HB2.out.size).mono ?_
      rintro e w3 ⟨rfl, hba, hb3⟩
      have HIB3 : Hid (Lib.IsBuilder 193 5 w.heap.size w.heap.size (Lib.byteCells (catE E (j + 1))) w3) := by
        show Lib.IsBuilder _ _ _ _ _ _
        rw [byteCells_cat] at hba
        exact .inr hba
      have HB3 : Hid (Below w.heap.size w w3) := HB2.out.trans hb3
      clear hba hb3
      go_wp2_with fail
      go_roundg (gk - 1)
      case rel => exact ⟨j + 1, by have := HJ.out; omega, by go_num, HIB3.out, HB3.out⟩
      case measure => have := HJ.out; omega
    · have e1 : j = n := by omega
      subst e1
      go_wp2_with fail
      refine (Tryz.Builder_String_any w.heap.size w.heap.size (catE E j) wr HIB.out HB.out.size).mono ?_
      rintro e w4 ⟨rfl, hb4⟩
      have HB4 : Hid (Below w.heap.size w w4) := HB.out.trans hb4
      clear hb4
      go_wp2_with fail
      go_ret
      exact ⟨rfl, HB4.out⟩
end Go.Proofs.YtichgnddbnibjaaGreatDoor
