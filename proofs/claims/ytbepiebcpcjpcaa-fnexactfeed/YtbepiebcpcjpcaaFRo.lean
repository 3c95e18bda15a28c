/- Rows of frames that are the same: contracts. -/
import Derived.Test.YtbepiebcpcjpcaaFRm
namespace Go.Proofs.Ytbepiebcpcjpcaa
open Go.RowKit Go.Sort
set_option linter.unusedVariables false
theorem OwnF.at {B : Nat} {w : World} {ad : Option Addr} {n cap : Nat} {l : List Fr} (h : OwnF B w (.slice ad n cap) l) {j : Nat} (hj : j < l.length) : ∃ g, ad = some ⟨g, 0, none⟩ ∧ g < w.heap.size ∧ w.cell? ⟨g, j * 3, none⟩ = some (.int .i64 l[j].f) ∧ w.cell? ⟨g, j * 3 + 1, none⟩ = some (.int .i64 l[j].k) ∧ w.cell? ⟨g, j * 3 + 2, none⟩ = some (.string l[j].d) := by
  rcases h.2 with ⟨_, h0⟩ | ⟨g, cap', cur, hv, hg, hh, _⟩
  · omega
  · cases hv
    obtain ⟨a, b, c⟩ := flatF_at hj
    refine ⟨g, rfl, blk_lt hh, ?_, ?_, ?_⟩
    · rw [World.ownsRow.cellAt h (j * 3) (by omega)]; exact a
    · rw [World.ownsRow.cellAt h (j * 3 + 1) (by omega)]; exact b
    · rw [World.ownsRow.cellAt h (j * 3 + 2) (by omega)]; exact c
set_option maxHeartbeats 400000 in
theorem eqFrame_same (f k : Int) (s : ByteArray) (w : World) : Calls Try.prog 33 #[.agg #[.int .i64 f, .int .i64 k, .string s], .agg #[.int .i64 f, .int .i64 k, .string s]] w fun e w' => e = .returned (.bool true) ∧ Below w.heap.size w w' := by
  have hs : (s.toList == s.toList) = true := by simp
  go_enter Try.func33, Try.ntmps33
  go_wp2
  go_ret
  exact ⟨rfl, bel2 _ _ _⟩
set_option maxRecDepth 100000 in
set_option maxHeartbeats 1000000 in
theorem eqFrameS_same (l : List Fr) (B B' : Nat) (v v' : Value) (w : World) (hv : OwnF B w v l) (hv' : OwnF B' w v' l) : Calls Try.prog 18 #[v, v'] w fun e w' => e = .returned (.bool true) ∧ Below w.heap.size w w' := by
  have HV : Hid (OwnF B w v l) := hv
  have HV' : Hid (OwnF B' w v' l) := hv'
  obtain ⟨ad, cap, rfl, h1, h2, _⟩ := hv.form
  obtain ⟨ad', cap', rfl, h1', h2', _⟩ := hv'.form
  unfold maxLen at h2 h2'
  clear hv hv'
  go_enter Try.func18, Try.ntmps18
  go_wp2_with fail
  go_loopg [5] l.length (fun gk i wr => ∃ j : Nat, j + gk = l.length ∧ i = .int .i64 j ∧ Below w.heap.size w wr)
  case atStart => exact ⟨0, by omega, rfl, Below.refl _ _⟩
  case round =>
    obtain ⟨j, hj', rfl, hb⟩ := hrel
    have HJ : Hid (j + gk = l.length) := hj'
    have hj : j ≤ l.length := by omega
    clear hj'
    by_cases hlt : j < l.length
    · have HB : Hid (Below w.heap.size w wr) := hb
      obtain ⟨g, rfl, hg, c0, c1, c2⟩ := (HV.out.kept hb).at hlt
      obtain ⟨g', rfl, hg', c0', c1', c2'⟩ := (HV'.out.kept hb).at hlt
      generalize l[j] = it at c0 c1 c2 c0' c1' c2'
      obtain ⟨ik, im, is⟩ := it
      simp only at c0 c1 c2 c0' c1' c2'
      have r0 := cells_re c0
      have r1 := cells_re c1
      have r2 := cells_re c2
      have r0' := cells_re c0'
      have r1' := cells_re c1'
      have r2' := cells_re c2'
      have HC : Hid (∀ w, Calls Try.prog 33 #[.agg #[.int .i64 (ik : Nat), .int .i64 (im : Nat), .string is], .agg #[.int .i64 (ik : Nat), .int .i64 (im : Nat), .string is]] w fun e w' => e = .returned (.bool true) ∧ Below w.heap.size w w') := fun w => eqFrame_same ik im is w
      clear c0 c1 c2 c0' c1' c2' hb
      go_wp2_with fail
      refine wp_region_quiet_below (by kernel_rfl) (by kernel_rfl) ?_
      repeat (go_big_quiet_step (exact Calls.regrown_of (HC.out _)))
      refine wpQuiet_nil ?_
      intro w6 hw'
      obtain ⟨⟨dq, osq⟩, hw''⟩ := hw'
      have HB2 : Hid (Below w.heap.size w w6) := by show Below _ _ _; rw [hw'']; exact HB.out.trans ((below_regrown _ dq osq).mono HB.out.size)
      clear hw'' r0 r1 r2 r0' r1' r2'
      go_wp2_with fail
      go_roundg (gk - 1)
      case rel => exact ⟨j + 1, by have := HJ.out; omega, by go_num, HB2.out⟩
      case measure => have := HJ.out; omega
    · have e1 : j = l.length := by omega
      subst e1
      go_wp2_with fail
      go_ret
      exact ⟨rfl, hb⟩
theorem toFrame_any (f k : Int) (s : ByteArray) (w : World) : Calls Try.prog 9 #[.agg #[.int .i64 f, .int .i64 k, .string s]] w fun e w' => e = .returned (.agg #[.int .i64 f, .int .i64 k, .string s]) ∧ Below w.heap.size w w' := by
  go_enter Try.func9, Try.ntmps9
  go_wp2
  exact bodyPost_ret (v := .agg #[.int .i64 f, .int .i64 k, .string s]) (by simp [results, Try.results9, go_sem]) rfl ⟨rfl, (((Below.refl _ _).alloc (Nat.le_refl _) _).alloc (by simp) _).alloc (by simp; omega) _⟩
theorem szFrame_any (f k : Int) (s : ByteArray) (n : Int) (w : World) (hn : 0 ≤ n) (hn2 : n ≤ 1048576) (hs : s.size ≤ maxLen) : Calls Try.prog 7 #[.agg #[.int .i64 f, .int .i64 k, .string s], .int .i64 n] w fun e w' => e = .returned (.int .i64 (if n < s.size then -1 else n - s.size)) ∧ Below w.heap.size w w' := by
  unfold maxLen at hs
  by_cases h : n - s.size < 0
  · rw [if_pos (by omega)]
    go_enter Try.func7, Try.ntmps7
    go_wp2
    go_ret
    exact ⟨rfl, bel1 _ _⟩
  · rw [if_neg (by omega)]
    go_enter Try.func7, Try.ntmps7
    go_wp2
    go_ret
    exact ⟨rfl, bel1 _ _⟩
theorem toFramer_any (s : ByteArray) (n : Int) (b : Bool) (w : World) : Calls Try.prog 13 #[.agg #[.string s, .int .i64 n, .bool b]] w fun e w' => e = .returned (.agg #[.string s, .int .i64 n, .bool b]) ∧ Below w.heap.size w w' := by
  go_enter Try.func13, Try.ntmps13
  go_wp2
  exact bodyPost_ret (v := .agg #[.string s, .int .i64 n, .bool b]) (by simp [results, Try.results13, go_sem]) rfl ⟨rfl, (((Below.refl _ _).alloc (Nat.le_refl _) _).alloc (by simp) _).alloc (by simp; omega) _⟩
theorem szFramer_any (s : ByteArray) (k : Int) (b : Bool) (n : Int) (w : World) (hn : 0 ≤ n) (hn2 : n ≤ 1048576) (hs : s.size ≤ maxLen) : Calls Try.prog 11 #[.agg #[.string s, .int .i64 k, .bool b], .int .i64 n] w fun e w' => e = .returned (.int .i64 (if n < s.size then -1 else n - s.size)) ∧ Below w.heap.size w w' := by
  unfold maxLen at hs
  by_cases h : n - s.size < 0
  · rw [if_pos (by omega)]
    go_enter Try.func11, Try.ntmps11
    go_wp2
    go_ret
    exact ⟨rfl, bel1 _ _⟩
  · rw [if_neg (by omega)]
    go_enter Try.func11, Try.ntmps11
    go_wp2
    go_ret
    exact ⟨rfl, bel1 _ _⟩
theorem eqFramer_same (s : ByteArray) (n : Int) (b : Bool) (w : World) : Calls Try.prog 17 #[.agg #[.string s, .int .i64 n, .bool b], .agg #[.string s, .int .i64 n, .bool b]] w fun e w' => e = .returned (.bool true) ∧ Below w.heap.size w w' := by
  have hs : (s.toList == s.toList) = true := by simp
  cases b
  all_goals
    go_enter Try.func17, Try.ntmps17
    go_wp2
    go_ret
    exact ⟨rfl, bel2 _ _ _⟩
end Go.Proofs.Ytbepiebcpcjpcaa
