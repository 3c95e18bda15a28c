/- A header's size and copy; marks on rows of items that a call owns: contracts. -/
import Derived.Test.YtipmckdlnipgkaaGreatDoorHVd
import Derived.Test.YtipmckdlnipgkaaGreatDoorSNn
namespace Go.Proofs.YtipmckdlnipgkaaGreatDoor
open Go.RowKit Go.Sort
set_option linter.unusedVariables false
theorem MkS.ofOwn {l : List It} {w : World} {B : Nat} {v : Value} (h : OwnIt B w v l) : MkS 1 l.length 0 B w v := by
  obtain ⟨ad, cap, rfl, h1, h2, h3⟩ := h.form
  refine ⟨ad, cap, rfl, h1, h2, ?_⟩
  rcases h.2 with ⟨hv, h0⟩ | ⟨g, cap', cur, hv, hg, hh, _, _, h6, h7⟩
  · exact .inl h0
  · cases hv
    refine .inr ⟨g, rfl, hg, blk_lt hh, cur, hh, by omega, fun i hi => by omega, fun i hi => ?_⟩
    obtain ⟨e0, e1, e2⟩ := flatI_at hi
    have hc : ∀ m, m < l.length * 3 → cur[m]? = (flatI l)[m]? := fun m hm => by
      rw [← h7, List.getElem?_take, if_pos hm]; simp
    rw [hc _ (by omega), hc _ (by omega), hc _ (by omega), e0, e1, e2]
    exact ⟨⟨_, rfl⟩, ⟨_, rfl⟩, ⟨_, rfl⟩⟩
theorem hdV_wf (a c : Nat) (d f g : ByteArray) (ha : a < 18446744073709551616) (hc : c < 18446744073709551616) (hd : d.size ≤ 1048577) (hf : f.size ≤ 1048577) (hg : g.size ≤ 1048577) : ∀ x ∈ vlR 1 (hdVs a c d f g), inI x.k ∧ x.n < 18446744073709551616 ∧ x.s.size ≤ 1048577 := by
  intro x hx
  unfold vlR at hx
  split at hx
  · simp only [hdVs, List.mem_cons, List.not_mem_nil, or_false] at hx
    rcases hx with rfl | rfl | rfl | rfl | rfl | rfl <;> (refine ⟨?_, ?_, ?_⟩ <;> first | (unfold inI; simp; done) | (unfold inI; decide) | assumption | (simp; done) | exact Nat.zero_le _ | decide)
  · simp at hx
set_option maxHeartbeats 1000000 in
/-- A header's size is told: none, or all of its texts are short. -/
theorem szHeader_any (a c : Nat) (d f g : ByteArray) (w : World) (hd : d.size ≤ maxLen) (hf : f.size ≤ maxLen) (hg : g.size ≤ maxLen) : Calls Tryz.prog 7 #[.agg #[.int .u64 a, .int .u64 c, .string d, .string f, .string g], .int .i64 1048576] w fun e w' => (∃ r : Int, e = .returned (.int .i64 r) ∧ (r = -1 ∨ (0 ≤ r ∧ d.size ≤ 1048576 ∧ f.size ≤ 1048576 ∧ g.size ≤ 1048576))) ∧ Below w.heap.size w w' := by
  unfold maxLen at hd hf hg
  obtain ⟨W, hW⟩ : ∃ W, w.alloc (.cells #[.int .u64 a, .int .u64 c, .string d, .string f, .string g] 24) = W := ⟨_, rfl⟩
  have HB : Hid (Below w.heap.size w W) := by show Below _ _ _; rw [← hW]; exact belA _ _
  obtain ⟨c0, c1, c2, c3, c4⟩ := cells5 (W := W) (b := w.heap.size) (by rw [← hW]; exact heap_alloc_new w _)
  obtain ⟨x, hx⟩ : ∃ x, d.size = x := ⟨_, rfl⟩
  obtain ⟨y, hy⟩ : ∃ x, f.size = x := ⟨_, rfl⟩
  obtain ⟨z, hz⟩ : ∃ x, g.size = x := ⟨_, rfl⟩
  by_cases h1 : (1048576 : Int) - x < 0
  · go_enter Tryz.func7, Tryz.ntmps7
    go_wp2
    go_ret
    exact ⟨⟨_, rfl, .inl rfl⟩, HB.out⟩
  · by_cases h2 : (1048576 : Int) - x - y < 0
    · go_enter Tryz.func7, Tryz.ntmps7
      go_wp2
      go_ret
      exact ⟨⟨_, rfl, .inl rfl⟩, HB.out⟩
    · by_cases h3 : (1048576 : Int) - x - y - z < 0
      · go_enter Tryz.func7, Tryz.ntmps7
        go_wp2
        go_ret
        exact ⟨⟨_, rfl, .inl rfl⟩, HB.out⟩
      · go_enter Tryz.func7, Tryz.ntmps7
        go_wp2
        go_ret
        exact ⟨⟨_, rfl, .inr ⟨by omega, by omega, by omega, by omega⟩⟩, HB.out⟩
set_option maxRecDepth 100000 in
set_option maxHeartbeats 1000000 in
theorem toHeader_any (a c : Nat) (d f g : ByteArray) (w : World) : Calls Tryz.prog 9 #[.agg #[.int .u64 a, .int .u64 c, .string d, .string f, .string g]] w fun e w' => e = .returned (.agg #[.int .u64 a, .int .u64 c, .string d, .string f, .string g]) ∧ Below w.heap.size w w' := by
  go_enter Tryz.func9, Tryz.ntmps9
  go_wp2
  exact bodyPost_ret (v := .agg #[.int .u64 a, .int .u64 c, .string d, .string f, .string g]) (by simp [results, Tryz.results9, go_sem]) rfl ⟨rfl, by repeat (first | exact Below.refl _ _ | refine Below.drew ?_ | refine Below.setCell ?_ (by simp <;> omega) _ | refine Below.alloc ?_ (by simp <;> omega) _)⟩
end Go.Proofs.YtipmckdlnipgkaaGreatDoor
