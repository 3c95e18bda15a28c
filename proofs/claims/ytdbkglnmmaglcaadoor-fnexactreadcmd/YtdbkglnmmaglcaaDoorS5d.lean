/- The program's two digits for each byte: contract. -/
import Derived.Test.YtdbkglnmmaglcaaDoorS5c
namespace Go.Proofs.YtdbkglnmmaglcaaDoor
open Go.RowKit Go.Sort
set_option linter.unusedVariables false
set_option maxRecDepth 100000 in
set_option maxHeartbeats 2000000 in
theorem digitsOf_any (s : ByteArray) (w : World) (hs : s.size ≤ 1048577) : Calls Tryd.prog 25 #[.string s] w fun e w' => e = .returned (.string ⟨(hexL s.data.toList).toArray⟩) ∧ Below w.heap.size w w' := by
  obtain ⟨i0, hi, hz0, hz1, hz2⟩ := info_parts Tryd.infoB8
  go_enter Tryd.func25, Tryd.ntmps25
  go_wp2_with (at_make; refine wpList_make_own _ rfl _ _ 48 rfl w.heap.size 5 i0 (.int .u8 0) 1 Tryd.underlying48 hi hz0 hz1 _ _ _ (2 * s.size) rfl rfl ?e1 ?b2 ?b3 (Nat.le_refl _) ?_)
  case e1 => omega
  case b2 => rw [hz2]; omega
  case b3 => unfold maxLen; omega
  intro w1 hown0 hgrow
  have HO0 : Hid (w1.ownsRow w.heap.size 5 1 (.slice (some ⟨w.heap.size, 0, none⟩) 0 (2 * s.size)) 0 []) := hown0
  have HB0 : Hid (Below w.heap.size w w1) := (Below.refl _ _).grown hgrow (Nat.le_refl _) (by simp)
  clear hown0 hgrow
  go_wp2_with fail
  go_loopg [3, 11] s.size (fun gk v i wr => ∃ j : Nat, j + gk = s.size ∧ i = .int .i64 j ∧ wr.ownsRow w.heap.size 5 1 v (2 * j) ((hexL (s.data.toList.take j)).map bv) ∧ Below w.heap.size w wr)
  case atStart => exact ⟨0, by omega, rfl, by simpa [hexL] using HO0.out, HB0.out⟩
  case round =>
    obtain ⟨j, hj', rfl, hown, hbel⟩ := hrel
    have HJ : Hid (j + gk = s.size) := hj'
    have hj : j ≤ s.size := by omega
    have HO : Hid (wr.ownsRow w.heap.size 5 1 u3 (2 * j) ((hexL (s.data.toList.take j)).map bv)) := hown
    have HB : Hid (Below w.heap.size w wr) := hbel
    have hsr := hbel.size
    clear hj' hbel
    by_cases hlt : j < s.size
    · clear hown
      have hb1 : s[j].toNat < 256 := s[j].toNat_lt
      have HS : Hid (hexL (s.data.toList.take (j + 1)) = hexL (s.data.toList.take j) ++ [hx (s[j].toNat / 16), hx (s[j].toNat % 16)]) := hexL_snoc s j hlt
      have x1 := hex_at (s[j].toNat / 16) (by omega) ((s[j].toNat : Int) / 16) (by omega)
      have x2 := hex_at (s[j].toNat % 16) (by omega) (bits BinOp.and IntKind.u8 (s[j].toNat : Int) 15) (and15 _)
      generalize hx (s[j].toNat / 16) = d1 at x1 HS
      generalize hx (s[j].toNat % 16) = d2 at x2 HS
      go_wp2_with fail
      go_region_law (refine step_append_lies _ rfl (.tmp 14) (.tmp 25) 48 rfl w.heap.size 5 i0 (.int .u8 0) 1 1 Tryd.underlying48 hi hz0 hz1 hz2 rfl (by decide) u3 (2 * j) ((hexL (s.data.toList.take j)).map bv) (by simp [Act.eval]) ((show wr.drew.ownsRow w.heap.size 5 1 u3 (2 * j) ((hexL (s.data.toList.take j)).map bv) from HO.out).alloc _) ⟨wr.heap.size, 0, none⟩ 2 2 [bv d1, bv d2] (by simp [Act.eval]) rfl (fun i u hu => by match i, hu with | 0, hu => (simp at hu; subst hu; simp [Addr.add, bv]) | 1, hu => (simp at hu; subst hu; simp [Addr.add, bv])) (fun u hu => by simp at hu; rcases hu with rfl | rfl <;> rfl) (by omega) (by unfold maxLen; omega) (by omega) (by simp; omega) (wr.heap.size + 1) (by simp) ?_; intro g cap2 w4 hown' hgrow hat hlt')
      all_goals
        have HX : Hid (w4.ownsRow w.heap.size 5 1 (.slice (some ⟨g, 0, none⟩) (2 * j + 2) cap2) (2 * (j + 1)) ((hexL (s.data.toList.take (j + 1))).map bv) ∧ Below w.heap.size w w4) := by
          refine ⟨by rw [HS.out, List.map_append]; exact hown', ((HB.out.drew).alloc hsr _).grown hgrow (by simp; omega) (fun q hq => (HO.out.lt q hq).1)⟩
        clear hown' hgrow hat hlt'
        go_wp2_with fail
        go_roundg (gk - 1)
        case rel => exact ⟨j + 1, by have := HJ.out; omega, by go_num, HX.out.1, HX.out.2⟩
        case measure => have := HJ.out; omega
    · have ej : j = s.size := by omega
      subst ej
      have hc := conv_own (P := Tryd.prog) 48 9 Tryd.underlying48 Tryd.underlying5 Tryd.underlying9 hown
      clear hown
      have HE : Hid (hexL (s.data.toList.take s.size) = hexL s.data.toList) := by show _ = _; rw [List.take_of_length_le (by rw [Array.length_toList]; exact Nat.le_refl _)]
      go_wp2_with fail
      go_ret
      exact ⟨by rw [← HE.out]; try rfl, HB.out⟩
end Go.Proofs.YtdbkglnmmaglcaaDoor
