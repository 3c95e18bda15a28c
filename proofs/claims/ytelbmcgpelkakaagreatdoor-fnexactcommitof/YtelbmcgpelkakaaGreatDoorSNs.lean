/- A proof of items, the program's: contract. -/
import Derived.Test.YtelbmcgpelkakaaGreatDoorSNr
import Derived.Test.YtelbmcgpelkakaaGreatDoorSNe
namespace Go.Proofs.YtelbmcgpelkakaaGreatDoor
open Go.RowKit Go.Sort
set_option linter.unusedVariables false
theorem PrE.set4 {vs : List It} {B : Nat} {w' : World} {e : Ending} (h : PrE vs (B + 2) w' e) (a b c d : Value) : PrE vs B ((((w'.setCell ⟨B, 0, none⟩ a).setCell ⟨B, 1, none⟩ b).setCell ⟨B, 2, none⟩ c).setCell ⟨B, 3, none⟩ d) e := by
  unfold PrE at h ⊢
  split
  · rename_i ht
    rw [if_pos ht] at h
    obtain ⟨ad, cp, h1, h2⟩ := h
    have hlt : B < B + 2 := by omega
    exact ⟨ad, cp, h1, own_down (ownsRow_setCell_below (ownsRow_setCell_below (ownsRow_setCell_below (ownsRow_setCell_below h2 (a := ⟨B, 0, none⟩) hlt _) (a := ⟨B, 1, none⟩) hlt _) (a := ⟨B, 2, none⟩) hlt _) (a := ⟨B, 3, none⟩) hlt _) (by omega)⟩
  · rename_i ht
    rw [if_neg ht] at h
    exact h
set_option maxRecDepth 100000 in
set_option maxHeartbeats 2000000 in
theorem implProofOf_any (vs : List It) (v : Value) (w : World) (hv : IsItems w.heap.size w v vs) (hw : EV w) : Calls Tryz.prog 25 #[v] w fun e w' => PrE vs w.heap.size w' e ∧ Below w.heap.size w w' := by
  obtain ⟨b, o, C, hi, ad, rfl, had⟩ := hv
  simp only [Nat.sub_zero] at had ⊢
  obtain ⟨Z, hZ⟩ : ∃ Z : Obj, .cells #[.int .u64 0, .int .u64 0, .string ⟨#[]⟩, .slice none 0 0] 51 = Z := ⟨_, rfl⟩
  have hb0 : Below w.heap.size w ((w.alloc Z).alloc (.cells #[.slice ad vs.length C] 65)) := ((Below.refl _ _).alloc (Nat.le_refl _) _).alloc (by simp) _
  have HB0 : Hid (Below w.heap.size w ((w.alloc Z).alloc (.cells #[.slice ad vs.length C] 65))) := hb0
  have HZ : Hid (((w.alloc Z).alloc (.cells #[.slice ad vs.length C] 65)).heap[w.heap.size]? = some Z) := by show _ = _; rw [Below.heap_alloc _ _ _ (by simp)]; exact heap_alloc_new w Z
  have HR : Hid (RdR (w.heap.size + 1) b o C vs 0 ((w.alloc Z).alloc (.cells #[.slice ad vs.length C] 65))) := ⟨⟨.slice ad vs.length C, heap_alloc2_new w _ _, ad, by simp, by simpa using had⟩, (hi.below hb0).up (by omega)⟩
  have HE : Hid (EV ((w.alloc Z).alloc (.cells #[.slice ad vs.length C] 65))) := hw.below hb0
  subst hZ
  have hsz : ((w.alloc (.cells #[.int .u64 0, .int .u64 0, .string ⟨#[]⟩, .slice none 0 0] 51)).alloc (.cells #[.slice ad vs.length C] 65)).heap.size = w.heap.size + 2 := by simp
  have HSZ : Hid (((w.alloc (.cells #[.int .u64 0, .int .u64 0, .string ⟨#[]⟩, .slice none 0 0] 51)).alloc (.cells #[.slice ad vs.length C] 65)).heap.size = w.heap.size + 2) := hsz
  have HTD : Hid (Calls Tryz.prog 47 #[.pointer (some ⟨w.heap.size + 1, 0, none⟩), .int .i64 4, .func (.func 48) #[.pointer (some ⟨w.heap.size + 1, 0, none⟩)] #[]] ((w.alloc (.cells #[.int .u64 0, .int .u64 0, .string ⟨#[]⟩, .slice none 0 0] 51)).alloc (.cells #[.slice ad vs.length C] 65)) fun e w' => (∃ (a c : Nat) (d : ByteArray) (pd : Option Addr) (pl pc : Nat) (q : Bool), e = .returned (.tuple #[.agg #[.int .u64 a, .int .u64 c, .string d, .slice pd pl pc], .bool q]) ∧ PrE vs (w.heap.size + 2) w' e) ∧ ((w.alloc (.cells #[.int .u64 0, .int .u64 0, .string ⟨#[]⟩, .slice none 0 0] 51)).alloc (.cells #[.slice ad vs.length C] 65)).grownBy w' (some (w.heap.size + 1))) := by
    refine (toldProof_any _ b o C vs _ HR.out HE.out).mono ?_
    rintro e w' ⟨he, hg⟩
    rw [HSZ.out] at he
    refine ⟨?_, hg⟩
    have hp := he
    unfold PrE at he
    split at he
    · obtain ⟨ad', cp', rfl, _⟩ := he
      exact ⟨_, _, _, _, _, _, _, rfl, hp⟩
    · subst he
      exact ⟨_, _, _, _, _, _, _, rfl, hp⟩
  clear hb0 hw hi had hsz
  go_enter Tryz.func25, Tryz.ntmps25
  go_wp2_with fail
  refine Calls.mono HTD.out ?_
  rintro e w3 ⟨⟨a, c, d, pd, pl, pc, q, rfl, hq⟩, hg⟩
  have HQ : Hid (PrE vs (w.heap.size + 2) w3 (.returned (.tuple #[.agg #[.int .u64 a, .int .u64 c, .string d, .slice pd pl pc], .bool q]))) := hq
  have HZ3 : Hid (w3.heap[w.heap.size]? = some (.cells #[.int .u64 0, .int .u64 0, .string ⟨#[]⟩, .slice none 0 0] 51 (0, 0))) := (hg.block w.heap.size (by rw [HSZ.out]; omega) (by simp)).trans HZ.out
  have HB3 : Hid (Below w.heap.size w w3) := HB0.out.trans (bel_gb hg (by omega) (by rw [HSZ.out]; omega))
  have z0 : w3.cell? ⟨w.heap.size, 0, none⟩ = some (.int .u64 0) := by rw [cell_of_row _ w.heap.size 0 _ _ _ HZ3.out]; rfl
  have y0 : w3.frozen? ⟨w.heap.size, 0, none⟩ = false := by simp only [World.frozen?, HZ3.out]; rfl
  have z1 : w3.cell? ⟨w.heap.size, 1, none⟩ = some (.int .u64 0) := by rw [cell_of_row _ w.heap.size 1 _ _ _ HZ3.out]; rfl
  have y1 : w3.frozen? ⟨w.heap.size, 1, none⟩ = false := by simp only [World.frozen?, HZ3.out]; rfl
  have z2 : w3.cell? ⟨w.heap.size, 2, none⟩ = some (.string ⟨#[]⟩) := by rw [cell_of_row _ w.heap.size 2 _ _ _ HZ3.out]; rfl
  have y2 : w3.frozen? ⟨w.heap.size, 2, none⟩ = false := by simp only [World.frozen?, HZ3.out]; rfl
  have z3 : w3.cell? ⟨w.heap.size, 3, none⟩ = some (.slice none 0 0) := by rw [cell_of_row _ w.heap.size 3 _ _ _ HZ3.out]; rfl
  have y3 : w3.frozen? ⟨w.heap.size, 3, none⟩ = false := by simp only [World.frozen?, HZ3.out]; rfl
  clear hg hq
  go_wp2_with fail
  exact bodyPost_ret (v := .tuple #[.agg #[.int .u64 a, .int .u64 c, .string d, .slice pd pl pc], .bool q]) (results_cell_row2 Tryz.results25 _ _ w.heap.size _ _ _ _ rfl (set4 HZ3.out) Tryz.underlying51 rfl Tryz.szPrf) rfl ⟨(HQ.out.set4 _ _ _ _), (((HB3.out.setCell (p := ⟨w.heap.size, 0, none⟩) (Nat.le_refl _) _).setCell (p := ⟨w.heap.size, 1, none⟩) (Nat.le_refl _) _).setCell (p := ⟨w.heap.size, 2, none⟩) (Nat.le_refl _) _).setCell (p := ⟨w.heap.size, 3, none⟩) (Nat.le_refl _) _⟩
end Go.Proofs.YtelbmcgpelkakaaGreatDoor
