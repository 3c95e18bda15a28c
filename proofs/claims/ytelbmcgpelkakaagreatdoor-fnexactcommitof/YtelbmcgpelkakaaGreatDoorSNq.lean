/- A proof read: contract. -/
import Derived.Test.YtelbmcgpelkakaaGreatDoorSNo
import Derived.Test.YtelbmcgpelkakaaGreatDoorSNp
namespace Go.Proofs.YtelbmcgpelkakaaGreatDoor
open Go.RowKit Go.Sort
set_option linter.unusedVariables false
theorem Tryz.szPrf : (Tryz.prog.info? 51).map (·.size) = some 4 := by kernel_rfl
theorem set4 {w : World} {N : Nat} {a b c d u0 u1 u2 u3 : Value} {T : TypeId} (hN : w.heap[N]? = some (.cells #[u0, u1, u2, u3] T (0, 0))) : ((((w.setCell ⟨N, 0, none⟩ a).setCell ⟨N, 1, none⟩ b).setCell ⟨N, 2, none⟩ c).setCell ⟨N, 3, none⟩ d).heap[N]? = some (.cells #[a, b, c, d] T (0, 0)) := by
  have e1 := set_block (i := 0) hN a
  have e2 := set_block (i := 1) e1 b
  have e3 := set_block (i := 2) e2 c
  have e4 := set_block (i := 3) e3 d
  rw [e4]; simp
theorem own_down {w : World} {base base' e sz n : Nat} {v : Value} {xs : List Value} (h : w.ownsRow base e sz v n xs) (hb : base' ≤ base) : w.ownsRow base' e sz v n xs := by
  refine ⟨h.1, ?_⟩
  rcases h.2 with h | ⟨g, cap, cur, a1, a2, a3⟩
  · exact .inl h
  · exact .inr ⟨g, cap, cur, a1, by omega, a3⟩
set_option maxRecDepth 100000 in
set_option maxHeartbeats 4000000 in
theorem proofR_any (R b o C m : Nat) (vs : List It) (w : World) (h : RdR R b o C vs 0 w) (h5 : 4 < vs.length) (hm : vs[4].n = m) (hm16 : m ≤ 16) (hl : vs.length = 5 + m) : Calls Tryz.prog 48 #[.pointer (some ⟨R, 0, none⟩)] w fun e w' => (∃ ad cp, e = .returned (.agg #[.int .u64 vs[1].n, .int .u64 vs[2].n, .string vs[3].s, .slice ad m cp]) ∧ w'.ownsRow w.heap.size 9 1 (.slice ad m cp) m (strv (txS vs 5 m))) ∧ w.grownBy w' (some R) := by
  obtain ⟨x1, h1⟩ : ∃ x, vs[1].n = x := ⟨_, rfl⟩
  obtain ⟨x2, h2⟩ : ∃ x, vs[2].n = x := ⟨_, rfl⟩
  obtain ⟨x3, h3⟩ : ∃ x, vs[3].s = x := ⟨_, rfl⟩
  have HN0 : Hid (∀ w, RdR R b o C vs 0 w → Calls Tryz.prog 58 #[.pointer (some ⟨R, 0, none⟩)] w fun e w' => e = .returned (.tuple #[]) ∧ RdR R b o C vs 1 w' ∧ w.grownBy w' (some R)) := fun w h => fieldsR_any R b o C 0 vs w h (by omega)
  have HN1 : Hid (∀ w, RdR R b o C vs 1 w → Calls Tryz.prog 59 #[.pointer (some ⟨R, 0, none⟩)] w fun e w' => e = .returned (.int .u64 x1) ∧ RdR R b o C vs 2 w' ∧ w.grownBy w' (some R)) := fun w h => by have := numberR_any R b o C 1 vs w h (by omega); rw [h1] at this; exact this
  have HN2 : Hid (∀ w, RdR R b o C vs 2 w → Calls Tryz.prog 59 #[.pointer (some ⟨R, 0, none⟩)] w fun e w' => e = .returned (.int .u64 x2) ∧ RdR R b o C vs 3 w' ∧ w.grownBy w' (some R)) := fun w h => by have := numberR_any R b o C 2 vs w h (by omega); rw [h2] at this; exact this
  have HN3 : Hid (∀ w, RdR R b o C vs 3 w → Calls Tryz.prog 60 #[.pointer (some ⟨R, 0, none⟩)] w fun e w' => e = .returned (.string x3) ∧ RdR R b o C vs 4 w' ∧ w.grownBy w' (some R)) := fun w h => by have := textR_any R b o C 3 vs w h (by omega); rw [h3] at this; exact this
  have HN4 : Hid (∀ w, RdR R b o C vs 4 w → Calls Tryz.prog 67 #[.pointer (some ⟨R, 0, none⟩), .func (.func 60) #[.pointer (some ⟨R, 0, none⟩)] #[]] w fun e w' => (∃ v, e = .returned v ∧ w'.ownsRow w.heap.size 9 1 v m (strv (txS vs 5 m))) ∧ RdR R b o C vs (5 + m) w' ∧ w.grownBy w' (some R)) := fun w h => readListS_any R b o C 4 m vs w h h5 hm (by omega) (by omega)
  rw [h1, h2, h3]
  obtain ⟨v, hv, _⟩ := h.cell
  have hR : R < w.heap.size := blk_lt hv
  obtain ⟨Z, hZ⟩ : ∃ Z : Obj, .cells #[.int .u64 0, .int .u64 0, .string ⟨#[]⟩, .slice none 0 0] 51 = Z := ⟨_, rfl⟩
  have hb0 : Below w.heap.size w ((w.alloc Z).alloc Z) := ((Below.refl _ _).alloc (Nat.le_refl _) _).alloc (by simp) _
  have HR : Hid (RdR R b o C vs 0 ((w.alloc Z).alloc Z)) := h.grown (gb_bel hb0)
  have HG : Hid (w.grownBy ((w.alloc Z).alloc Z) (some R)) := gb_any (gb_bel hb0)
  have HB : Hid (((w.alloc Z).alloc Z).heap[w.heap.size + 1]? = some Z) := heap_alloc2_new w Z Z
  have HZ : Hid (((w.alloc Z).alloc Z).heap[w.heap.size]? = some Z) := by show _ = _; rw [Below.heap_alloc _ _ _ (by simp)]; exact heap_alloc_new w Z
  have hZs : w.heap.size < ((w.alloc Z).alloc Z).heap.size := by simp; omega
  have hHs : w.heap.size + 1 < ((w.alloc Z).alloc Z).heap.size := by simp
  subst hZ
  clear h hv h1 h2 h3 hl hm hb0
  go_enter Tryz.func48, Tryz.ntmps48
  go_wp2_with fail
  obtain ⟨W, hW⟩ : ∃ W, (w.alloc (.cells #[.int .u64 0, .int .u64 0, .string ⟨#[]⟩, .slice none 0 0] 51)).alloc (.cells #[.int .u64 0, .int .u64 0, .string ⟨#[]⟩, .slice none 0 0] 51) = W := ⟨_, rfl⟩
  rw [hW] at HR HG HB HZ hZs hHs
  rw [hW]
  obtain ⟨H, hH⟩ : ∃ H, w.heap.size + 1 = H := ⟨_, rfl⟩
  rw [hH] at HB hHs
  rw [hH]
  have hH1 : w.heap.size < H := by omega
  clear hW hH
  refine (HN0.out _ HR.out).mono ?_
  rintro e w1 ⟨rfl, hr, hg⟩
  have HR1 : Hid (RdR R b o C vs 1 w1) := hr
  have HG1 : Hid (w.grownBy w1 (some R)) := gb_trR HG.out hg
  have HB1 : Hid (w1.heap[H]? = some (.cells #[.int .u64 0, .int .u64 0, .string ⟨#[]⟩, .slice none 0 0] 51 (0, 0))) := (hg.block H hHs (by simp; omega)).trans HB.out
  have HZ1 : Hid (w1.heap[w.heap.size]? = some (.cells #[.int .u64 0, .int .u64 0, .string ⟨#[]⟩, .slice none 0 0] 51 (0, 0))) := (hg.block w.heap.size hZs (by simp; omega)).trans HZ.out
  have hs1 : W.heap.size ≤ w1.heap.size := hg.size
  clear hr hg
  go_wp2_with fail
  refine (HN1.out _ HR1.out).mono ?_
  rintro e w2a ⟨rfl, hr, hg⟩
  have hb : w2a.heap[H]? = some (.cells #[.int .u64 0, .int .u64 0, .string ⟨#[]⟩, .slice none 0 0] 51 (0, 0)) := (hg.block H (by omega) (by simp; omega)).trans HB1.out
  have c0 : w2a.cell? ⟨H, 0, none⟩ = some (.int .u64 0) := by rw [cell_of_row w2a H 0 _ _ _ hb]; rfl
  have f0 : w2a.frozen? ⟨H, 0, none⟩ = false := by simp [World.frozen?, hb]
  have HRa : Hid (RdR R b o C vs 2 (w2a.setCell ⟨H, 0, none⟩ (.int .u64 x1))) := hr.set (by omega) _
  have HGa : Hid (w.grownBy (w2a.setCell ⟨H, 0, none⟩ (.int .u64 x1)) (some R)) := gb_new (gb_trR HG1.out hg) (by omega) _
  have HBa : Hid ((w2a.setCell ⟨H, 0, none⟩ (.int .u64 x1)).heap[H]? = some (.cells #[.int .u64 x1, .int .u64 0, .string ⟨#[]⟩, .slice none 0 0] 51 (0, 0))) := by rw [set_block (i := 0) hb]; rfl
  have HZa : Hid ((w2a.setCell ⟨H, 0, none⟩ (.int .u64 x1)).heap[w.heap.size]? = some (.cells #[.int .u64 0, .int .u64 0, .string ⟨#[]⟩, .slice none 0 0] 51 (0, 0))) := by rw [Below.heap_setCell _ _ _ _ (by simp; omega)]; exact (hg.block w.heap.size (by omega) (by simp; omega)).trans HZ1.out
  have hsa : W.heap.size ≤ (w2a.setCell ⟨H, 0, none⟩ (.int .u64 x1)).heap.size := by have := hg.size; simp [World.setCell]; omega
  clear hr hg hb
  go_wp2_with fail
  obtain ⟨w2, hw'⟩ : ∃ W, w2a.setCell ⟨H, 0, none⟩ (.int .u64 x1) = W := ⟨_, rfl⟩
  rw [hw'] at HRa HGa HBa HZa hsa
  rw [hw']
  have HR2 := HRa
  have HG2 := HGa
  have HB2 := HBa
  have HZ2 := HZa
  have hs2 := hsa
  clear HRa HGa HBa HZa hsa hw' c0 f0
  refine (HN2.out _ HR2.out).mono ?_
  rintro e w3a ⟨rfl, hr, hg⟩
  have hb : w3a.heap[H]? = some (.cells #[.int .u64 x1, .int .u64 0, .string ⟨#[]⟩, .slice none 0 0] 51 (0, 0)) := (hg.block H (by omega) (by simp; omega)).trans HB2.out
  have c0 : w3a.cell? ⟨H, 1, none⟩ = some (.int .u64 0) := by rw [cell_of_row w3a H 1 _ _ _ hb]; rfl
  have f0 : w3a.frozen? ⟨H, 1, none⟩ = false := by simp [World.frozen?, hb]
  have HRa : Hid (RdR R b o C vs 3 (w3a.setCell ⟨H, 1, none⟩ (.int .u64 x2))) := hr.set (by omega) _
  have HGa : Hid (w.grownBy (w3a.setCell ⟨H, 1, none⟩ (.int .u64 x2)) (some R)) := gb_new (gb_trR HG2.out hg) (by omega) _
  have HBa : Hid ((w3a.setCell ⟨H, 1, none⟩ (.int .u64 x2)).heap[H]? = some (.cells #[.int .u64 x1, .int .u64 x2, .string ⟨#[]⟩, .slice none 0 0] 51 (0, 0))) := by rw [set_block (i := 1) hb]; rfl
  have HZa : Hid ((w3a.setCell ⟨H, 1, none⟩ (.int .u64 x2)).heap[w.heap.size]? = some (.cells #[.int .u64 0, .int .u64 0, .string ⟨#[]⟩, .slice none 0 0] 51 (0, 0))) := by rw [Below.heap_setCell _ _ _ _ (by simp; omega)]; exact (hg.block w.heap.size (by omega) (by simp; omega)).trans HZ2.out
  have hsa : W.heap.size ≤ (w3a.setCell ⟨H, 1, none⟩ (.int .u64 x2)).heap.size := by have := hg.size; simp [World.setCell]; omega
  clear hr hg hb
  go_wp2_with fail
  obtain ⟨w3, hw'⟩ : ∃ W, w3a.setCell ⟨H, 1, none⟩ (.int .u64 x2) = W := ⟨_, rfl⟩
  rw [hw'] at HRa HGa HBa HZa hsa
  rw [hw']
  have HR3 := HRa
  have HG3 := HGa
  have HB3 := HBa
  have HZ3 := HZa
  have hs3 := hsa
  clear HRa HGa HBa HZa hsa hw' c0 f0
  refine (HN3.out _ HR3.out).mono ?_
  rintro e w4a ⟨rfl, hr, hg⟩
  have hb : w4a.heap[H]? = some (.cells #[.int .u64 x1, .int .u64 x2, .string ⟨#[]⟩, .slice none 0 0] 51 (0, 0)) := (hg.block H (by omega) (by simp; omega)).trans HB3.out
  have c0 : w4a.cell? ⟨H, 2, none⟩ = some (.string ⟨#[]⟩) := by rw [cell_of_row w4a H 2 _ _ _ hb]; rfl
  have f0 : w4a.frozen? ⟨H, 2, none⟩ = false := by simp [World.frozen?, hb]
  have HRa : Hid (RdR R b o C vs 4 (w4a.setCell ⟨H, 2, none⟩ (.string x3))) := hr.set (by omega) _
  have HGa : Hid (w.grownBy (w4a.setCell ⟨H, 2, none⟩ (.string x3)) (some R)) := gb_new (gb_trR HG3.out hg) (by omega) _
  have HBa : Hid ((w4a.setCell ⟨H, 2, none⟩ (.string x3)).heap[H]? = some (.cells #[.int .u64 x1, .int .u64 x2, .string x3, .slice none 0 0] 51 (0, 0))) := by rw [set_block (i := 2) hb]; rfl
  have HZa : Hid ((w4a.setCell ⟨H, 2, none⟩ (.string x3)).heap[w.heap.size]? = some (.cells #[.int .u64 0, .int .u64 0, .string ⟨#[]⟩, .slice none 0 0] 51 (0, 0))) := by rw [Below.heap_setCell _ _ _ _ (by simp; omega)]; exact (hg.block w.heap.size (by omega) (by simp; omega)).trans HZ3.out
  have hsa : W.heap.size ≤ (w4a.setCell ⟨H, 2, none⟩ (.string x3)).heap.size := by have := hg.size; simp [World.setCell]; omega
  clear hr hg hb
  go_wp2_with fail
  obtain ⟨w4, hw'⟩ : ∃ W, w4a.setCell ⟨H, 2, none⟩ (.string x3) = W := ⟨_, rfl⟩
  rw [hw'] at HRa HGa HBa HZa hsa
  rw [hw']
  have HR4 := HRa
  have HG4 := HGa
  have HB4 := HBa
  have HZ4 := HZa
  have hs4 := hsa
  clear HRa HGa HBa HZa hsa hw' c0 f0
  refine (HN4.out _ HR4.out).mono ?_
  rintro e w5a ⟨⟨v, rfl, ho⟩, hr, hg⟩
  obtain ⟨ad, cp, rfl⟩ : ∃ ad cp, v = .slice ad m cp := by
    rcases ho.2 with ⟨e1, e2⟩ | ⟨g, cap, cu, e1, _⟩
    · exact ⟨none, 0, by rw [e1, e2]⟩
    · exact ⟨_, cap, e1⟩
  have hb : w5a.heap[H]? = some (.cells #[.int .u64 x1, .int .u64 x2, .string x3, .slice none 0 0] 51 (0, 0)) := (hg.block H (by omega) (by simp; omega)).trans HB4.out
  have c0 : w5a.cell? ⟨H, 3, none⟩ = some (.slice none 0 0) := by rw [cell_of_row w5a H 3 _ _ _ hb]; rfl
  have f0 : w5a.frozen? ⟨H, 3, none⟩ = false := by simp [World.frozen?, hb]
  have HGa : Hid (w.grownBy (w5a.setCell ⟨H, 3, none⟩ (.slice ad m cp)) (some R)) := gb_new (gb_trR HG4.out hg) (by omega) _
  have HBa : Hid ((w5a.setCell ⟨H, 3, none⟩ (.slice ad m cp)).heap[H]? = some (.cells #[.int .u64 x1, .int .u64 x2, .string x3, .slice ad m cp] 51 (0, 0))) := by rw [set_block (i := 3) hb]; rfl
  have HZa : Hid ((w5a.setCell ⟨H, 3, none⟩ (.slice ad m cp)).heap[w.heap.size]? = some (.cells #[.int .u64 0, .int .u64 0, .string ⟨#[]⟩, .slice none 0 0] 51 (0, 0))) := by rw [Below.heap_setCell _ _ _ _ (by simp; omega)]; exact (hg.block w.heap.size (by omega) (by simp; omega)).trans HZ4.out
  have HOa : Hid ((w5a.setCell ⟨H, 3, none⟩ (.slice ad m cp)).ownsRow w4.heap.size 9 1 (.slice ad m cp) m (strv (txS vs 5 m))) := ownsRow_setCell_below ho (a := ⟨H, 3, none⟩) (by simp; omega) _
  have hw4 : w.heap.size < w4.heap.size := by omega
  clear hr hg hb ho
  have z0 : (w5a.setCell ⟨H, 3, none⟩ (.slice ad m cp)).cell? ⟨w.heap.size, 0, none⟩ = some (.int .u64 0) := by rw [cell_of_row _ w.heap.size 0 _ _ _ HZa.out]; rfl
  have y0 : (w5a.setCell ⟨H, 3, none⟩ (.slice ad m cp)).frozen? ⟨w.heap.size, 0, none⟩ = false := by simp only [World.frozen?, HZa.out]; rfl
  have z1 : (w5a.setCell ⟨H, 3, none⟩ (.slice ad m cp)).cell? ⟨w.heap.size, 1, none⟩ = some (.int .u64 0) := by rw [cell_of_row _ w.heap.size 1 _ _ _ HZa.out]; rfl
  have y1 : (w5a.setCell ⟨H, 3, none⟩ (.slice ad m cp)).frozen? ⟨w.heap.size, 1, none⟩ = false := by simp only [World.frozen?, HZa.out]; rfl
  have z2 : (w5a.setCell ⟨H, 3, none⟩ (.slice ad m cp)).cell? ⟨w.heap.size, 2, none⟩ = some (.string ⟨#[]⟩) := by rw [cell_of_row _ w.heap.size 2 _ _ _ HZa.out]; rfl
  have y2 : (w5a.setCell ⟨H, 3, none⟩ (.slice ad m cp)).frozen? ⟨w.heap.size, 2, none⟩ = false := by simp only [World.frozen?, HZa.out]; rfl
  have z3 : (w5a.setCell ⟨H, 3, none⟩ (.slice ad m cp)).cell? ⟨w.heap.size, 3, none⟩ = some (.slice none 0 0) := by rw [cell_of_row _ w.heap.size 3 _ _ _ HZa.out]; rfl
  have y3 : (w5a.setCell ⟨H, 3, none⟩ (.slice ad m cp)).frozen? ⟨w.heap.size, 3, none⟩ = false := by simp only [World.frozen?, HZa.out]; rfl
  go_wp2_with (refine wpList_load_row rfl 51 _ rfl H rfl _ _ _ _ HBa.out Tryz.underlying51 rfl Tryz.szPrf ?_)
  exact bodyPost_ret (v := .agg #[.int .u64 x1, .int .u64 x2, .string x3, .slice ad m cp]) (results_cell_row Tryz.results48 _ _ w.heap.size _ _ _ _ rfl (set4 HZa.out) Tryz.underlying51 rfl Tryz.szPrf) rfl ⟨⟨ad, cp, rfl, own_down (ownsRow_setCell_below (ownsRow_setCell_below (ownsRow_setCell_below (ownsRow_setCell_below HOa.out (a := ⟨w.heap.size, 0, none⟩) hw4 _) (a := ⟨w.heap.size, 1, none⟩) hw4 _) (a := ⟨w.heap.size, 2, none⟩) hw4 _) (a := ⟨w.heap.size, 3, none⟩) hw4 _) (Nat.le_of_lt hw4)⟩, gb_new (gb_new (gb_new (gb_new HGa.out (Nat.le_refl _) _) (Nat.le_refl _) _) (Nat.le_refl _) _) (Nat.le_refl _) _⟩
end Go.Proofs.YtelbmcgpelkakaaGreatDoor
