/- Two builders at once. -/
import Derived.Test.YtlhojfimdignoaaDoorS9b
namespace Go.Proofs.YtlhojfimdignoaaDoor
open Go.RowKit Go.Sort Go.Shelf
set_option linter.unusedVariables false
def Tryd.lays170_ren : Go.Shelf.Ren := ⟨fun | 170 => 75 | n => n, fun | 3 => 3 | 5 => 5 | 37 => 80 | 70 => 131 | 72 => 133 | n => n, fun | n => n⟩
theorem Tryd.lays170 : Go.Proofs.Lays.n170 Tryd.prog Tryd.lays170_ren := { mixed := by kernel_rfl, f170 := Tryd.func75.trans (congrArg some (by kernel_rfl)), t0 := Tryd.underlying0, a0 := Tryd.isAgg0, z0 := Tryd.sizeOf0, v0 := Tryd.zeroValue0, t3 := Tryd.underlying3, a3 := Tryd.isAgg3, z3 := Tryd.sizeOf3, v3 := Tryd.zeroValue3, t37 := Tryd.underlying80, a37 := Tryd.isAgg80, z37 := Tryd.sizeOf80, v37 := Tryd.zeroValue80, t70 := Tryd.underlying131, a70 := Tryd.isAgg131, z70 := Tryd.sizeOf131, v70 := Tryd.zeroValue131, t72 := Tryd.underlying133, a72 := Tryd.isAgg133, z72 := Tryd.sizeOf133, v72 := Tryd.zeroValue133 }
theorem len_at {B b : Nat} {p v : Value} {l : List UInt8} {w : World} (h : BAt B b p v l w) : Calls Tryd.prog 75 #[.pointer (some ⟨b, 0, none⟩)] w fun e w' => e = .returned (.int .i64 l.length) ∧ w' = w := by
  have := Any.Builder_Len Tryd.lays170 B b (Lib.byteCells l) w h.isB
  rw [byteCells_len] at this
  exact this
set_option maxRecDepth 100000 in
set_option maxHeartbeats 2000000 in
/-- String: only what the builder owns changes (it is frozen). -/
theorem str_at {B b : Nat} {p v : Value} {l : List UInt8} {w : World} (h : BAt B b p v l w) :
    Calls Tryd.prog 76 #[.pointer (some ⟨b, 0, none⟩)] w fun e w' => e = .returned (.string ⟨l.toArray⟩) ∧ w.grownBy w' v.ownBlock ∧ Below B w w' := by
  by_cases h0 : l = []
  · have hv := h.nil.2 h0
    subst hv h0
    refine (Any.Builder_String_nil Tryd.lays169 Tryd.Builder_Extra_169 w.heap.size b p w h.blk).mono ?_
    rintro e w' ⟨rfl, hb⟩
    exact ⟨rfl, ⟨hb.os, hb.tape, hb.output, hb.size, fun k hk _ => hb.block k hk⟩, hb.mono (Nat.le_trans h.low (Nat.le_of_lt (blk_lt h.blk)))⟩
  · have hl0 : l.length ≠ 0 := by simpa using h0
    have hown := h.own
    have hbk := h.blk
    obtain ⟨g, cap, cur, rfl, hbg, hg, hnc, hcm, hcs, htake⟩ : ∃ g cap cur, v = .slice (some ⟨g, 0, none⟩) l.length cap ∧ B ≤ g ∧ w.heap[g]? = some (.cells cur 5 (0, 0)) ∧ l.length ≤ cap ∧ cap ≤ maxLen ∧ cur.size = cap * 1 ∧ cur.toList.take (l.length * 1) = Lib.byteCells l := by
      rcases hown.2 with ⟨_, hz⟩ | ⟨g, cap, cur, hv, r⟩
      · exact absurd hz hl0
      · exact ⟨g, cap, cur, hv, r⟩
    have c1 : w.drew.cell? ⟨b, 1, none⟩ = some (.slice (some ⟨g, 0, none⟩) l.length cap) := by
      have h' : w.drew.heap[b]? = some (.cells #[p, .slice (some ⟨g, 0, none⟩) l.length cap] 133 (0, 0)) := hbk
      rw [Lib.cell_of_heap h']; rfl
    have hSD : (Builtin.unsafeSliceData_ #[80] 100 #[.slice (some ⟨g, 0, none⟩) l.length cap]).run Tryd.prog w.drew = .ok (.pointer (some ⟨g, 0, none⟩)) w.drew := Lib.run_unsafeSliceData_row _ _ _ _ _ _ (by omega)
    have hUS : (Builtin.unsafeString_ #[100, 3] 9 #[.pointer (some ⟨g, 0, none⟩), .int .i64 l.length]).run Tryd.prog w.drew = .ok (.string ⟨l.toArray⟩) (w.drew.freeze ⟨g, 0, none⟩ l.length) := by
      refine Lib.run_unsafeString_row w.drew 100 3 9 5 Tryd.underlying100 (by kernel_rfl) g cur.size (by have hg' : w.drew.heap[g]? = some (.cells cur 5 (0, 0)) := hg; simp [World.shape?, hg']) l h0 (by omega) (by unfold maxLen at hcm; omega) ?_
      intro j x hx
      exact hown.cells (g := g) rfl j (.int .u8 x.toNat) (by simp [Lib.byteCells, hx])
    have HF : Hid (w.grownBy (w.drew.freeze ⟨g, 0, none⟩ l.length) (some g) ∧ Below B w (w.drew.freeze ⟨g, 0, none⟩ l.length)) := by
      refine ⟨?_, Lib.below_freeze (Below.drew (Below.refl B w)) (p := ⟨g, 0, none⟩) hbg _⟩
      unfold World.freeze
      rw [if_neg hl0]
      exact ⟨rfl, rfl, rfl, by simp, fun k hk hne => by
        simp only [Array.getElem?_modify]
        rw [if_neg (fun e => hne (by rw [e]))]
        rfl⟩
    have mixed := Tryd.lays169.mixed
    have HQ : Hid ((Value.slice (some ⟨g, 0, none⟩) l.length cap).ownBlock = some g) := rfl
    clear h hown hbk htake hcs hg
    go_enter Tryd.func76, Tryd.ntmps76
    go_wp2
    go_region_o
    all_goals (go_wp2; go_ret; exact ⟨rfl, by rw [HQ.out]; exact HF.out.1, HF.out.2⟩)
/-- Two builders that share no memory. -/
def TwoB (B b1 b2 : Nat) (l1 l2 : List UInt8) (w : World) : Prop := ∃ p1 v1 p2 v2, BAt B b1 p1 v1 l1 w ∧ BAt B b2 p2 v2 l2 w ∧ b1 ≠ b2 ∧ v1.ownBlock ≠ some b2 ∧ v2.ownBlock ≠ some b1 ∧ ∀ g, v1.ownBlock = some g → v2.ownBlock ≠ some g
theorem TwoB.swap {B b1 b2 : Nat} {l1 l2 : List UInt8} {w : World} (h : TwoB B b1 b2 l1 l2 w) : TwoB B b2 b1 l2 l1 w := by
  obtain ⟨p1, v1, p2, v2, h1, h2, h3, h4, h5, h6⟩ := h
  exact ⟨p2, v2, p1, v1, h2, h1, fun e => h3 e.symm, h5, h4, fun g hg e => h6 g e hg⟩
theorem TwoB.below {B b1 b2 : Nat} {l1 l2 : List UInt8} {w w' : World} (h : TwoB B b1 b2 l1 l2 w) (hb : Below w.heap.size w w') : TwoB B b1 b2 l1 l2 w' := by
  obtain ⟨p1, v1, p2, v2, h1, h2, h3⟩ := h
  exact ⟨p1, v1, p2, v2, h1.keep (gb_bel hb) (by simp) (by cases v1.ownBlock <;> simp), h2.keep (gb_bel hb) (by simp) (by cases v2.ownBlock <;> simp), h3⟩
theorem TwoB.new (w : World) : TwoB w.heap.size w.heap.size (w.heap.size + 1) [] [] ((w.alloc (.cells #[.pointer none, .slice none 0 0] 133)).alloc (.cells #[.pointer none, .slice none 0 0] 133)) := by
  have h1 := BAt.new w w.heap.size (Nat.le_refl _)
  have h2 := BAt.new (w.alloc (.cells #[.pointer none, .slice none 0 0] 133)) w.heap.size (by simp)
  have e : (w.alloc (.cells #[.pointer none, .slice none 0 0] 133)).heap.size = w.heap.size + 1 := by simp
  rw [e] at h2
  exact ⟨_, _, _, _, h1.keep (gb_bel (bel1 _ _)) (by simp) (.inl rfl), h2, by omega, by simp [Value.ownBlock], by simp [Value.ownBlock], fun g hg => by simp [Value.ownBlock] at hg⟩
theorem two_write {B b1 b2 : Nat} {l1 l2 : List UInt8} (x : List UInt8) {w : World} (h : TwoB B b1 b2 l1 l2 w) (hB : B ≤ w.heap.size) (hl : l1.length + x.length ≤ 1000000000000) :
    Calls Tryd.prog 73 #[.pointer (some ⟨b1, 0, none⟩), .string ⟨x.toArray⟩] w fun e w' => e = .returned (.tuple #[.int .i64 x.length, .nilIface]) ∧ TwoB B b1 b2 (l1 ++ x) l2 w' ∧ Below B w w' := by
  obtain ⟨p1, v1, p2, v2, h1, h2, h3, h4, h5, h6⟩ := h
  refine (write_at x h1 hB hl).mono ?_
  rintro e w' ⟨rfl, ⟨v', hb', hloc⟩, hfr, hbel, hsz⟩
  have hlt2 := blk_lt h2.blk
  have hlt1 := blk_lt h1.blk
  refine ⟨rfl, ⟨_, v', p2, v2, hb', ?_, h3, fun e => ?_, h5, fun g hg e => ?_⟩, hbel⟩
  · refine ⟨h2.low, (hfr b2 hlt2 (fun e => h3 e.symm) (fun e => h4 e.symm)).trans h2.blk, ⟨h2.own.1, ?_⟩, h2.ne, h2.at0, h2.nil⟩
    rcases h2.own.2 with hn | ⟨g, cap, cur, hv, hbg, hgg, rest⟩
    · exact .inl hn
    · have e1 : v2.ownBlock = some g := by rw [hv]; rfl
      exact .inr ⟨g, cap, cur, hv, hbg, (hfr g (blk_lt hgg) (fun e => h5 (by rw [e1, e])) (fun e => h6 g e.symm e1)).trans hgg, rest⟩
  · rcases hloc b2 e with h | h
    · exact h4 h
    · omega
  · rcases hloc g hg with h | h
    · exact h6 g h e
    · have := (h2.own.lt g e).2; omega
end Go.Proofs.YtlhojfimdignoaaDoor
