/- A header read: contracts. -/
import Derived.Test.YtelbmcgpelkakaaGreatDoorSNb
import Derived.Deep.RegionWith
namespace Go.Proofs.YtelbmcgpelkakaaGreatDoor
open Go.RowKit Go.Sort
set_option linter.unusedVariables false
theorem RdR.set {R b o C q H i : Nat} {vs : List It} {w : World} (h : RdR R b o C vs q w) (hH : R < H) (v : Value) : RdR R b o C vs q (w.setCell ⟨H, i, none⟩ v) := by
  obtain ⟨⟨v0, hv, hf⟩, hi⟩ := h
  exact ⟨⟨v0, by rw [Below.heap_setCell _ _ _ _ (by simp; omega)]; exact hv, hf⟩, hi.below ((Below.refl _ _).setCell (p := ⟨H, i, none⟩) (by simp; omega) _)⟩
theorem gb_new {w w1 : World} {r : Option Nat} {H i : Nat} (h : w.grownBy w1 r) (hH : w.heap.size ≤ H) (v : Value) : w.grownBy (w1.setCell ⟨H, i, none⟩ v) r :=
  ⟨h.os, h.tape, h.output, by have := h.size; simp [World.setCell]; exact this, fun k hk hne => (Below.heap_setCell _ _ _ _ (by simp; omega)).trans (h.block k hk hne)⟩
def hdA (a b : Nat) (c d e : ByteArray) : Value := .agg #[.int .u64 a, .int .u64 b, .string c, .string d, .string e]
theorem Tryz.szHdr : (Tryz.prog.info? 26).map (·.size) = some 5 := by kernel_rfl
theorem set5 {w : World} {N : Nat} {a b c d e u0 u1 u2 u3 u4 : Value} {T : TypeId} (hN : w.heap[N]? = some (.cells #[u0, u1, u2, u3, u4] T (0, 0))) : (((((w.setCell ⟨N, 0, none⟩ a).setCell ⟨N, 1, none⟩ b).setCell ⟨N, 2, none⟩ c).setCell ⟨N, 3, none⟩ d).setCell ⟨N, 4, none⟩ e).heap[N]? = some (.cells #[a, b, c, d, e] T (0, 0)) := by
  have e1 := set_block (i := 0) hN a
  have e2 := set_block (i := 1) e1 b
  have e3 := set_block (i := 2) e2 c
  have e4 := set_block (i := 3) e3 d
  have e5 := set_block (i := 4) e4 e
  rw [e5]; simp
set_option maxRecDepth 100000 in
set_option maxHeartbeats 4000000 in
theorem headerR_any (R b o C : Nat) (vs : List It) (w : World) (h : RdR R b o C vs 0 w) (hl : vs.length = 6) : Calls Tryz.prog 34 #[.pointer (some ⟨R, 0, none⟩)] w fun e w' => e = .returned (hdA vs[1].n vs[2].n vs[3].s vs[4].s vs[5].s) ∧ w.grownBy w' (some R) := by
  obtain ⟨x1, h1⟩ : ∃ x, vs[1].n = x := ⟨_, rfl⟩
  obtain ⟨x2, h2⟩ : ∃ x, vs[2].n = x := ⟨_, rfl⟩
  obtain ⟨x3, h3⟩ : ∃ x, vs[3].s = x := ⟨_, rfl⟩
  obtain ⟨x4, h4⟩ : ∃ x, vs[4].s = x := ⟨_, rfl⟩
  obtain ⟨x5, h5⟩ : ∃ x, vs[5].s = x := ⟨_, rfl⟩
  have HN0 : Hid (∀ w, RdR R b o C vs 0 w → Calls Tryz.prog 58 #[.pointer (some ⟨R, 0, none⟩)] w fun e w' => e = .returned (.tuple #[]) ∧ RdR R b o C vs 1 w' ∧ w.grownBy w' (some R)) := fun w h => fieldsR_any R b o C 0 vs w h (by omega)
  have HN1 : Hid (∀ w, RdR R b o C vs 1 w → Calls Tryz.prog 59 #[.pointer (some ⟨R, 0, none⟩)] w fun e w' => e = .returned (.int .u64 x1) ∧ RdR R b o C vs 2 w' ∧ w.grownBy w' (some R)) := fun w h => by have := numberR_any R b o C 1 vs w h (by omega); rw [h1] at this; exact this
  have HN2 : Hid (∀ w, RdR R b o C vs 2 w → Calls Tryz.prog 59 #[.pointer (some ⟨R, 0, none⟩)] w fun e w' => e = .returned (.int .u64 x2) ∧ RdR R b o C vs 3 w' ∧ w.grownBy w' (some R)) := fun w h => by have := numberR_any R b o C 2 vs w h (by omega); rw [h2] at this; exact this
  have HN3 : Hid (∀ w, RdR R b o C vs 3 w → Calls Tryz.prog 60 #[.pointer (some ⟨R, 0, none⟩)] w fun e w' => e = .returned (.string x3) ∧ RdR R b o C vs 4 w' ∧ w.grownBy w' (some R)) := fun w h => by have := textR_any R b o C 3 vs w h (by omega); rw [h3] at this; exact this
  have HN4 : Hid (∀ w, RdR R b o C vs 4 w → Calls Tryz.prog 60 #[.pointer (some ⟨R, 0, none⟩)] w fun e w' => e = .returned (.string x4) ∧ RdR R b o C vs 5 w' ∧ w.grownBy w' (some R)) := fun w h => by have := textR_any R b o C 4 vs w h (by omega); rw [h4] at this; exact this
  have HN5 : Hid (∀ w, RdR R b o C vs 5 w → Calls Tryz.prog 60 #[.pointer (some ⟨R, 0, none⟩)] w fun e w' => e = .returned (.string x5) ∧ RdR R b o C vs 6 w' ∧ w.grownBy w' (some R)) := fun w h => by have := textR_any R b o C 5 vs w h (by omega); rw [h5] at this; exact this
  rw [h1, h2, h3, h4, h5]
  obtain ⟨v, hv, _⟩ := h.cell
  have hR : R < w.heap.size := blk_lt hv
  obtain ⟨Z, hZ⟩ : ∃ Z : Obj, .cells #[.int .u64 0, .int .u64 0, .string ⟨#[]⟩, .string ⟨#[]⟩, .string ⟨#[]⟩] 26 = Z := ⟨_, rfl⟩
  have hb0 : Below w.heap.size w ((w.alloc Z).alloc Z) := ((Below.refl _ _).alloc (Nat.le_refl _) _).alloc (by simp) _
  have HR : Hid (RdR R b o C vs 0 ((w.alloc Z).alloc Z)) := h.grown (gb_bel hb0)
  have HG : Hid (w.grownBy ((w.alloc Z).alloc Z) (some R)) := gb_any (gb_bel hb0)
  have HB : Hid (((w.alloc Z).alloc Z).heap[w.heap.size + 1]? = some Z) := heap_alloc2_new w Z Z
  have HZ : Hid (((w.alloc Z).alloc Z).heap[w.heap.size]? = some Z) := by show _ = _; rw [Below.heap_alloc _ _ _ (by simp)]; exact heap_alloc_new w Z
  have hZs : w.heap.size < ((w.alloc Z).alloc Z).heap.size := by simp; omega
  have hHs : w.heap.size + 1 < ((w.alloc Z).alloc Z).heap.size := by simp
  subst hZ
  clear h hv h1 h2 h3 h4 h5 hl hb0
  go_enter Tryz.func34, Tryz.ntmps34
  go_wp2_with fail
  obtain ⟨W, hW⟩ : ∃ W, (w.alloc (.cells #[.int .u64 0, .int .u64 0, .string ⟨#[]⟩, .string ⟨#[]⟩, .string ⟨#[]⟩] 26)).alloc (.cells #[.int .u64 0, .int .u64 0, .string ⟨#[]⟩, .string ⟨#[]⟩, .string ⟨#[]⟩] 26) = W := ⟨_, rfl⟩
  rw [hW] at HR HG HB HZ hZs hHs
  rw [hW]
  obtain ⟨H, hH⟩ : ∃ H, w.heap.size + 1 = H := ⟨_, rfl⟩
  rw [hH] at HB hHs
  rw [hH]
  have hH1 : w.heap.size < H := by omega
  clear hW hH
  refine (HN0.out _ HR.out).mono ?_
  rintro e w1 ⟨rfl, hr, hg⟩
  have HR1 : Hid (RdR R b o C vs 1 w1) := hr
  have HG1 : Hid (w.grownBy w1 (some R)) := gb_trR HG.out hg
  have HB1 : Hid (w1.heap[H]? = some (.cells #[.int .u64 0, .int .u64 0, .string ⟨#[]⟩, .string ⟨#[]⟩, .string ⟨#[]⟩] 26 (0, 0))) := (hg.block H hHs (by simp; omega)).trans HB.out
  have HZ1 : Hid (w1.heap[w.heap.size]? = some (.cells #[.int .u64 0, .int .u64 0, .string ⟨#[]⟩, .string ⟨#[]⟩, .string ⟨#[]⟩] 26 (0, 0))) := (hg.block w.heap.size hZs (by simp; omega)).trans HZ.out
  have hs1 : W.heap.size ≤ w1.heap.size := hg.size
  clear hr hg
  go_wp2_with fail
  refine (HN1.out _ HR1.out).mono ?_
  rintro e w2a ⟨rfl, hr, hg⟩
  have hb : w2a.heap[H]? = some (.cells #[.int .u64 0, .int .u64 0, .string ⟨#[]⟩, .string ⟨#[]⟩, .string ⟨#[]⟩] 26 (0, 0)) := (hg.block H (by omega) (by simp; omega)).trans HB1.out
  have c0 : w2a.cell? ⟨H, 0, none⟩ = some (.int .u64 0) := by rw [cell_of_row w2a H 0 _ _ _ hb]; rfl
  have f0 : w2a.frozen? ⟨H, 0, none⟩ = false := by simp [World.frozen?, hb]
  have HRa : Hid (RdR R b o C vs 2 (w2a.setCell ⟨H, 0, none⟩ (.int .u64 x1))) := hr.set (by omega) _
  have HGa : Hid (w.grownBy (w2a.setCell ⟨H, 0, none⟩ (.int .u64 x1)) (some R)) := gb_new (gb_trR HG1.out hg) (by omega) _
  have HBa : Hid ((w2a.setCell ⟨H, 0, none⟩ (.int .u64 x1)).heap[H]? = some (.cells #[.int .u64 x1, .int .u64 0, .string ⟨#[]⟩, .string ⟨#[]⟩, .string ⟨#[]⟩] 26 (0, 0))) := by rw [set_block (i := 0) hb]; rfl
  have HZa : Hid ((w2a.setCell ⟨H, 0, none⟩ (.int .u64 x1)).heap[w.heap.size]? = some (.cells #[.int .u64 0, .int .u64 0, .string ⟨#[]⟩, .string ⟨#[]⟩, .string ⟨#[]⟩] 26 (0, 0))) := by rw [Below.heap_setCell _ _ _ _ (by simp; omega)]; exact (hg.block w.heap.size (by omega) (by simp; omega)).trans HZ1.out
  have hsa : W.heap.size ≤ (w2a.setCell ⟨H, 0, none⟩ (.int .u64 x1)).heap.size := by have := hg.size; simp [World.setCell]; omega
  clear hr hg hb
  go_wp2_with fail
  obtain ⟨w2, hw'⟩ : ∃ W, w2a.setCell ⟨H, 0, none⟩ (.int .u64 x1) = W := ⟨_, rfl⟩
  rw [hw'] at HRa HGa HBa HZa hsa
  rw [hw']
  have HR2 := HRa
  have HG2 := HGa
  have HB2 := HBa
  have HZ2 := HZa
  have hs2 := hsa
  clear HRa HGa HBa HZa hsa hw' c0 f0
  refine (HN2.out _ HR2.out).mono ?_
  rintro e w3a ⟨rfl, hr, hg⟩
  have hb : w3a.heap[H]? = some (.cells #[.int .u64 x1, .int .u64 0, .string ⟨#[]⟩, .string ⟨#[]⟩, .string ⟨#[]⟩] 26 (0, 0)) := (hg.block H (by omega) (by simp; omega)).trans HB2.out
  have c0 : w3a.cell? ⟨H, 1, none⟩ = some (.int .u64 0) := by rw [cell_of_row w3a H 1 _ _ _ hb]; rfl
  have f0 : w3a.frozen? ⟨H, 1, none⟩ = false := by simp [World.frozen?, hb]
  have HRa : Hid (RdR R b o C vs 3 (w3a.setCell ⟨H, 1, none⟩ (.int .u64 x2))) := hr.set (by omega) _
  have HGa : Hid (w.grownBy (w3a.setCell ⟨H, 1, none⟩ (.int .u64 x2)) (some R)) := gb_new (gb_trR HG2.out hg) (by omega) _
  have HBa : Hid ((w3a.setCell ⟨H, 1, none⟩ (.int .u64 x2)).heap[H]? = some (.cells #[.int .u64 x1, .int .u64 x2, .string ⟨#[]⟩, .string ⟨#[]⟩, .string ⟨#[]⟩] 26 (0, 0))) := by rw [set_block (i := 1) hb]; rfl
  have HZa : Hid ((w3a.setCell ⟨H, 1, none⟩ (.int .u64 x2)).heap[w.heap.size]? = some (.cells #[.int .u64 0, .int .u64 0, .string ⟨#[]⟩, .string ⟨#[]⟩, .string ⟨#[]⟩] 26 (0, 0))) := by rw [Below.heap_setCell _ _ _ _ (by simp; omega)]; exact (hg.block w.heap.size (by omega) (by simp; omega)).trans HZ2.out
  have hsa : W.heap.size ≤ (w3a.setCell ⟨H, 1, none⟩ (.int .u64 x2)).heap.size := by have := hg.size; simp [World.setCell]; omega
  clear hr hg hb
  go_wp2_with fail
  obtain ⟨w3, hw'⟩ : ∃ W, w3a.setCell ⟨H, 1, none⟩ (.int .u64 x2) = W := ⟨_, rfl⟩
  rw [hw'] at HRa HGa HBa HZa hsa
  rw [hw']
  have HR3 := HRa
  have HG3 := HGa
  have HB3 := HBa
  have HZ3 := HZa
  have hs3 := hsa
  clear HRa HGa HBa HZa hsa hw' c0 f0
  refine (HN3.out _ HR3.out).mono ?_
  rintro e w4a ⟨rfl, hr, hg⟩
  have hb : w4a.heap[H]? = some (.cells #[.int .u64 x1, .int .u64 x2, .string ⟨#[]⟩, .string ⟨#[]⟩, .string ⟨#[]⟩] 26 (0, 0)) := (hg.block H (by omega) (by simp; omega)).trans HB3.out
  have c0 : w4a.cell? ⟨H, 2, none⟩ = some (.string ⟨#[]⟩) := by rw [cell_of_row w4a H 2 _ _ _ hb]; rfl
  have f0 : w4a.frozen? ⟨H, 2, none⟩ = false := by simp [World.frozen?, hb]
  have HRa : Hid (RdR R b o C vs 4 (w4a.setCell ⟨H, 2, none⟩ (.string x3))) := hr.set (by omega) _
  have HGa : Hid (w.grownBy (w4a.setCell ⟨H, 2, none⟩ (.string x3)) (some R)) := gb_new (gb_trR HG3.out hg) (by omega) _
  have HBa : Hid ((w4a.setCell ⟨H, 2, none⟩ (.string x3)).heap[H]? = some (.cells #[.int .u64 x1, .int .u64 x2, .string x3, .string ⟨#[]⟩, .string ⟨#[]⟩] 26 (0, 0))) := by rw [set_block (i := 2) hb]; rfl
  have HZa : Hid ((w4a.setCell ⟨H, 2, none⟩ (.string x3)).heap[w.heap.size]? = some (.cells #[.int .u64 0, .int .u64 0, .string ⟨#[]⟩, .string ⟨#[]⟩, .string ⟨#[]⟩] 26 (0, 0))) := by rw [Below.heap_setCell _ _ _ _ (by simp; omega)]; exact (hg.block w.heap.size (by omega) (by simp; omega)).trans HZ3.out
  have hsa : W.heap.size ≤ (w4a.setCell ⟨H, 2, none⟩ (.string x3)).heap.size := by have := hg.size; simp [World.setCell]; omega
  clear hr hg hb
  go_wp2_with fail
  obtain ⟨w4, hw'⟩ : ∃ W, w4a.setCell ⟨H, 2, none⟩ (.string x3) = W := ⟨_, rfl⟩
  rw [hw'] at HRa HGa HBa HZa hsa
  rw [hw']
  have HR4 := HRa
  have HG4 := HGa
  have HB4 := HBa
  have HZ4 := HZa
  have hs4 := hsa
  clear HRa HGa HBa HZa hsa hw' c0 f0
  refine (HN4.out _ HR4.out).mono ?_
  rintro e w5a ⟨rfl, hr, hg⟩
  have hb : w5a.heap[H]? = some (.cells #[.int .u64 x1, .int .u64 x2, .string x3, .string ⟨#[]⟩, .string ⟨#[]⟩] 26 (0, 0)) := (hg.block H (by omega) (by simp; omega)).trans HB4.out
  have c0 : w5a.cell? ⟨H, 3, none⟩ = some (.string ⟨#[]⟩) := by rw [cell_of_row w5a H 3 _ _ _ hb]; rfl
  have f0 : w5a.frozen? ⟨H, 3, none⟩ = false := by simp [World.frozen?, hb]
  have HRa : Hid (RdR R b o C vs 5 (w5a.setCell ⟨H, 3, none⟩ (.string x4))) := hr.set (by omega) _
  have HGa : Hid (w.grownBy (w5a.setCell ⟨H, 3, none⟩ (.string x4)) (some R)) := gb_new (gb_trR HG4.out hg) (by omega) _
  have HBa : Hid ((w5a.setCell ⟨H, 3, none⟩ (.string x4)).heap[H]? = some (.cells #[.int .u64 x1, .int .u64 x2, .string x3, .string x4, .string ⟨#[]⟩] 26 (0, 0))) := by rw [set_block (i := 3) hb]; rfl
  have HZa : Hid ((w5a.setCell ⟨H, 3, none⟩ (.string x4)).heap[w.heap.size]? = some (.cells #[.int .u64 0, .int .u64 0, .string ⟨#[]⟩, .string ⟨#[]⟩, .string ⟨#[]⟩] 26 (0, 0))) := by rw [Below.heap_setCell _ _ _ _ (by simp; omega)]; exact (hg.block w.heap.size (by omega) (by simp; omega)).trans HZ4.out
  have hsa : W.heap.size ≤ (w5a.setCell ⟨H, 3, none⟩ (.string x4)).heap.size := by have := hg.size; simp [World.setCell]; omega
  clear hr hg hb
  go_wp2_with fail
  obtain ⟨w5, hw'⟩ : ∃ W, w5a.setCell ⟨H, 3, none⟩ (.string x4) = W := ⟨_, rfl⟩
  rw [hw'] at HRa HGa HBa HZa hsa
  rw [hw']
  have HR5 := HRa
  have HG5 := HGa
  have HB5 := HBa
  have HZ5 := HZa
  have hs5 := hsa
  clear HRa HGa HBa HZa hsa hw' c0 f0
  refine (HN5.out _ HR5.out).mono ?_
  rintro e w6a ⟨rfl, hr, hg⟩
  have hb : w6a.heap[H]? = some (.cells #[.int .u64 x1, .int .u64 x2, .string x3, .string x4, .string ⟨#[]⟩] 26 (0, 0)) := (hg.block H (by omega) (by simp; omega)).trans HB5.out
  have c0 : w6a.cell? ⟨H, 4, none⟩ = some (.string ⟨#[]⟩) := by rw [cell_of_row w6a H 4 _ _ _ hb]; rfl
  have f0 : w6a.frozen? ⟨H, 4, none⟩ = false := by simp [World.frozen?, hb]
  have HRa : Hid (RdR R b o C vs 6 (w6a.setCell ⟨H, 4, none⟩ (.string x5))) := hr.set (by omega) _
  have HGa : Hid (w.grownBy (w6a.setCell ⟨H, 4, none⟩ (.string x5)) (some R)) := gb_new (gb_trR HG5.out hg) (by omega) _
  have HBa : Hid ((w6a.setCell ⟨H, 4, none⟩ (.string x5)).heap[H]? = some (.cells #[.int .u64 x1, .int .u64 x2, .string x3, .string x4, .string x5] 26 (0, 0))) := by rw [set_block (i := 4) hb]; rfl
  have HZa : Hid ((w6a.setCell ⟨H, 4, none⟩ (.string x5)).heap[w.heap.size]? = some (.cells #[.int .u64 0, .int .u64 0, .string ⟨#[]⟩, .string ⟨#[]⟩, .string ⟨#[]⟩] 26 (0, 0))) := by rw [Below.heap_setCell _ _ _ _ (by simp; omega)]; exact (hg.block w.heap.size (by omega) (by simp; omega)).trans HZ5.out
  have hsa : W.heap.size ≤ (w6a.setCell ⟨H, 4, none⟩ (.string x5)).heap.size := by have := hg.size; simp [World.setCell]; omega
  clear hr hg hb
  have z0 : (w6a.setCell ⟨H, 4, none⟩ (.string x5)).cell? ⟨w.heap.size, 0, none⟩ = some (.int .u64 0) := by rw [cell_of_row _ w.heap.size 0 _ _ _ HZa.out]; rfl
  have y0 : (w6a.setCell ⟨H, 4, none⟩ (.string x5)).frozen? ⟨w.heap.size, 0, none⟩ = false := by simp only [World.frozen?, HZa.out]; rfl
  have z1 : (w6a.setCell ⟨H, 4, none⟩ (.string x5)).cell? ⟨w.heap.size, 1, none⟩ = some (.int .u64 0) := by rw [cell_of_row _ w.heap.size 1 _ _ _ HZa.out]; rfl
  have y1 : (w6a.setCell ⟨H, 4, none⟩ (.string x5)).frozen? ⟨w.heap.size, 1, none⟩ = false := by simp only [World.frozen?, HZa.out]; rfl
  have z2 : (w6a.setCell ⟨H, 4, none⟩ (.string x5)).cell? ⟨w.heap.size, 2, none⟩ = some (.string ⟨#[]⟩) := by rw [cell_of_row _ w.heap.size 2 _ _ _ HZa.out]; rfl
  have y2 : (w6a.setCell ⟨H, 4, none⟩ (.string x5)).frozen? ⟨w.heap.size, 2, none⟩ = false := by simp only [World.frozen?, HZa.out]; rfl
  have z3 : (w6a.setCell ⟨H, 4, none⟩ (.string x5)).cell? ⟨w.heap.size, 3, none⟩ = some (.string ⟨#[]⟩) := by rw [cell_of_row _ w.heap.size 3 _ _ _ HZa.out]; rfl
  have y3 : (w6a.setCell ⟨H, 4, none⟩ (.string x5)).frozen? ⟨w.heap.size, 3, none⟩ = false := by simp only [World.frozen?, HZa.out]; rfl
  have z4 : (w6a.setCell ⟨H, 4, none⟩ (.string x5)).cell? ⟨w.heap.size, 4, none⟩ = some (.string ⟨#[]⟩) := by rw [cell_of_row _ w.heap.size 4 _ _ _ HZa.out]; rfl
  have y4 : (w6a.setCell ⟨H, 4, none⟩ (.string x5)).frozen? ⟨w.heap.size, 4, none⟩ = false := by simp only [World.frozen?, HZa.out]; rfl
  go_wp2_with (refine wpList_load_row rfl 26 _ rfl H rfl _ _ _ _ HBa.out Tryz.underlying26 rfl Tryz.szHdr ?_)
  exact bodyPost_ret (v := hdA x1 x2 x3 x4 x5) (results_cell_row Tryz.results34 _ _ w.heap.size _ _ _ _ rfl (set5 HZa.out) Tryz.underlying26 rfl Tryz.szHdr) rfl ⟨rfl, gb_new (gb_new (gb_new (gb_new (gb_new HGa.out (Nat.le_refl _) _) (Nat.le_refl _) _) (Nat.le_refl _) _) (Nat.le_refl _) _) (Nat.le_refl _) _⟩
end Go.Proofs.YtelbmcgpelkakaaGreatDoor
