/- The program's table of kinds, and what it says of a type. -/
import Derived.Test.YtepffjfgomhepaaGreatDoorS2c
namespace Go.Proofs.YtepffjfgomhepaaGreatDoor
open Go.RowKit
set_option linter.unusedVariables false
/-- The cells of the table of kinds. -/
def kc : Array Value := #[.int .i64 1, .string ⟨#[117]⟩, .bool true, .int .i64 8, .int .i64 64, .int .i64 2, .string ⟨#[98, 111, 111, 108]⟩, .bool false, .int .i64 0, .int .i64 0, .int .i64 3, .string ⟨#[98, 121, 116, 101, 115]⟩, .bool true, .int .i64 0, .int .i64 200, .int .i64 4, .string ⟨#[102, 105, 120, 101, 100]⟩, .bool true, .int .i64 1, .int .i64 64, .int .i64 5, .string ⟨#[108, 105, 115, 116]⟩, .bool true, .int .i64 1, .int .i64 20, .int .i64 6, .string ⟨#[118, 101, 99, 116, 111, 114]⟩, .bool true, .int .i64 1, .int .i64 8, .int .i64 7, .string ⟨#[115, 116, 114, 117, 99, 116]⟩, .bool true, .int .i64 1, .int .i64 6, .int .i64 8, .string ⟨#[111, 112, 116, 105, 111, 110]⟩, .bool false, .int .i64 0, .int .i64 0, .int .i64 9, .string ⟨#[117, 110, 105, 111, 110]⟩, .bool true, .int .i64 1, .int .i64 4]
def kWords : List ByteArray := [⟨#[117]⟩, ⟨#[98, 111, 111, 108]⟩, ⟨#[98, 121, 116, 101, 115]⟩, ⟨#[102, 105, 120, 101, 100]⟩, ⟨#[108, 105, 115, 116]⟩, ⟨#[118, 101, 99, 116, 111, 114]⟩, ⟨#[115, 116, 114, 117, 99, 116]⟩, ⟨#[111, 112, 116, 105, 111, 110]⟩, ⟨#[117, 110, 105, 111, 110]⟩]
def kNums : List Bool := [true, false, true, true, true, true, true, false, true]
def kLo : List Int := [8, 0, 0, 1, 1, 1, 1, 0, 1]
def kHi : List Int := [64, 0, 200, 64, 20, 8, 6, 0, 4]
def rs (j : Nat) : ByteArray := kWords.getD j ByteArray.empty
def rb (j : Nat) : Bool := kNums.getD j false
def rlo (j : Nat) : Int := kLo.getD j 0
def rhi (j : Nat) : Int := kHi.getD j 0
/-- The table lies in memory as its text lays it. -/
def KR (w : World) : Prop := 2 < w.heap.size ∧ ∃ t fr, w.heap[2]? = some (.cells kc t fr)
theorem KR.below {w w' : World} (h : KR w) (hb : Below w.heap.size w w') : KR w' := by
  obtain ⟨h0, t, fr, hh⟩ := h
  exact ⟨by have := hb.size; omega, t, fr, by rw [hb.block 2 h0]; exact hh⟩
theorem Tryz.infoKR : (Tryz.prog.info? 161).map (·.size) = some kc.size := by kernel_rfl
set_option maxRecDepth 100000 in
theorem kr_at : ∀ (j : Nat), j < 9 → ∀ w, (Instr.index 161 (.agg kc) (.int .i64 j)).run Tryz.prog w = .ok (.agg #[.int .i64 ((j : Int) + 1), .string (rs j), .bool (rb j), .int .i64 (rlo j), .int .i64 (rhi j)]) w
  | 0, _, _ => by kernel_rfl
  | 1, _, _ => by kernel_rfl
  | 2, _, _ => by kernel_rfl
  | 3, _, _ => by kernel_rfl
  | 4, _, _ => by kernel_rfl
  | 5, _, _ => by kernel_rfl
  | 6, _, _ => by kernel_rfl
  | 7, _, _ => by kernel_rfl
  | 8, _, _ => by kernel_rfl
theorem tyOk_row : ∀ (j : Nat), 0 < j → j < 9 → ∀ n : Int, tyOk ((j : Int) + 1) n = (decide (rlo j ≤ n) && decide (n ≤ rhi j))
  | 1, _, _, n => by simp [tyOk, rlo, rhi, kLo, kHi]; rw [Bool.eq_iff_iff]; simp; omega
  | 2, _, _, n => by simp [tyOk, rlo, rhi, kLo, kHi]
  | 3, _, _, n => by simp [tyOk, rlo, rhi, kLo, kHi]
  | 4, _, _, n => by simp [tyOk, rlo, rhi, kLo, kHi]
  | 5, _, _, n => by simp [tyOk, rlo, rhi, kLo, kHi]
  | 6, _, _, n => by simp [tyOk, rlo, rhi, kLo, kHi]
  | 7, _, _, n => by simp [tyOk, rlo, rhi, kLo, kHi]; rw [Bool.eq_iff_iff]; simp; omega
  | 8, _, _, n => by simp [tyOk, rlo, rhi, kLo, kHi]
set_option maxHeartbeats 1000000 in
theorem typOk_any (k n : Int) (w : World) (hw : KR w) : Calls Tryz.prog 78 #[.agg #[.int .i64 k, .int .i64 n]] w fun e w' => e = .returned (.bool (tyOk k n)) ∧ Below w.heap.size w w' := by
  by_cases hk : k = 1
  · subst hk
    clear hw
    by_cases h1 : n = 8
    · subst h1
      go_enter Tryz.func78, Tryz.ntmps78
      go_wp2
      go_ret
      exact ⟨rfl, bel1 _ _⟩
    by_cases h2 : n = 16
    · subst h2
      go_enter Tryz.func78, Tryz.ntmps78
      go_wp2
      go_ret
      exact ⟨rfl, bel1 _ _⟩
    by_cases h3 : n = 32
    · subst h3
      go_enter Tryz.func78, Tryz.ntmps78
      go_wp2
      go_ret
      exact ⟨rfl, bel1 _ _⟩
    have h1 := beqF h1
    have h2 := beqF h2
    have h3 := beqF h3
    go_enter Tryz.func78, Tryz.ntmps78
    go_wp2
    go_ret
    exact ⟨ret_b (by simp at h1 h2 h3; simp [tyOk, h1, h2, h3, beq_dec]), bel1 _ _⟩
  · have k1 := beqF hk
    obtain ⟨h0, t, fr, hg⟩ := hw
    have hg1 : (w.alloc (.cells #[.int .i64 k, .int .i64 n] 83)).heap[2]? = some (.cells kc t fr) := by rw [Below.heap_alloc _ _ _ h0]; exact hg
    have HG : Hid (w.heap[2]? = some (.cells kc t fr)) := hg
    clear hg
    go_enter Tryz.func78, Tryz.ntmps78
    go_wp2_with (refine wpList_load_row rfl 161 _ rfl 2 rfl t kc fr _ hg1 Tryz.underlying161 rfl Tryz.infoKR ?_)
    have hbB : Below w.heap.size w (w.alloc (.cells #[.int .i64 k, .int .i64 n] 83)) := bel1 _ _
    go_loopg [27] 9 (fun gk i wr => ∃ j : Nat, j + gk = 9 ∧ i = .int .i64 j ∧ ¬ (1 ≤ k ∧ k ≤ j) ∧ Below (w.heap.size + 1) (w.alloc (.cells #[.int .i64 k, .int .i64 n] 83)) wr)
    case atStart => exact ⟨0, rfl, rfl, by omega, Below.refl _ _⟩
    case round =>
      obtain ⟨j, hj', rfl, hno, hb⟩ := hrel
      have HJ : Hid (j + gk = 9) := hj'
      have c0 : wr.cell? ⟨w.heap.size, 0, none⟩ = some (.int .i64 k) := by rw [hb.cell (p := ⟨w.heap.size, 0, none⟩) (by simp)]; simp [go_sem]
      have c1 : wr.cell? ⟨w.heap.size, 1, none⟩ = some (.int .i64 n) := by rw [hb.cell (p := ⟨w.heap.size, 1, none⟩) (by simp)]; simp [go_sem]
      have hsz : w.heap.size < wr.heap.size := by have := hb.size; simp at this; omega
      have hbw : Below w.heap.size w wr := hbB.trans (hb.mono (by omega))
      by_cases hlt : j < 9
      · have hix := kr_at j hlt
        by_cases hkj : (j : Int) + 1 = k
        · have HT : Hid (tyOk k n = (decide (rlo j ≤ n) && decide (n ≤ rhi j))) := by show _ = _; rw [← hkj]; exact tyOk_row j (by omega) hlt n
          have hq : ((j : Int) + 1 == k) = true := by simp [hkj]
          clear hkj hno hj' hbB hb
          generalize rlo j = lo at *
          generalize rhi j = hi at *
          generalize rs j = ss at *
          generalize rb j = sb at *
          by_cases hlo : lo ≤ n
          · have hd : decide (lo ≤ n) = true := by simpa using hlo
            go_wp2_with fail
            go_ret
            exact ⟨by rw [HT.out, hd]; exact ret_b (by simp), hbw.alloc (by omega) _⟩
          · have hd : decide (lo ≤ n) = false := by simpa using hlo
            go_wp2_with fail
            go_ret
            exact ⟨by rw [HT.out, hd]; exact ret_b (by simp), hbw.alloc (by omega) _⟩
        · have hq : ((j : Int) + 1 == k) = false := beqF hkj
          have hno' : ¬ (1 ≤ k ∧ k ≤ ((j + 1 : Nat) : Int)) := by omega
          have HN : Hid (¬ (1 ≤ k ∧ k ≤ ((j + 1 : Nat) : Int))) := hno'
          clear hkj hno hj' hbB hno'
          generalize rlo j = lo at *
          generalize rhi j = hi at *
          generalize rs j = ss at *
          generalize rb j = sb at *
          go_wp2_with fail
          go_roundg (gk - 1)
          case rel => exact ⟨j + 1, by have := HJ.out; omega, by go_num, HN.out, hb.alloc (by omega) _⟩
          case measure => have := HJ.out; omega
      · have HT : Hid (tyOk k n = false) := tyOk_other (by omega)
        have e9 : j = 9 := by omega
        subst e9
        clear hno hj' hbB hb
        go_wp2_with fail
        go_ret
        exact ⟨by rw [HT.out]; try rfl, hbw⟩
end Go.Proofs.YtepffjfgomhepaaGreatDoor
