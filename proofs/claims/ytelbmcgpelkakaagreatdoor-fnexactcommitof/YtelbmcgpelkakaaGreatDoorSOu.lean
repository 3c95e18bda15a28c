/- SOo, SOq, SOr, SOs, SOt, SOu: one text. -/
import Derived.Test.YtelbmcgpelkakaaGreatDoorSNo
import Derived.Test.YtelbmcgpelkakaaGreatDoorSNd
import Derived.Test.YtelbmcgpelkakaaGreatDoorSNq
import Derived.Test.YtelbmcgpelkakaaGreatDoorSNr
import Derived.Test.YtelbmcgpelkakaaGreatDoorSNs
import Derived.Test.YtelbmcgpelkakaaGreatDoorSNt
import Derived.Test.YtelbmcgpelkakaaGreatDoorSNv
namespace Go.Proofs.YtelbmcgpelkakaaGreatDoor
open Go.RowKit Go.Sort
set_option linter.unusedVariables false
/-- The parts of m from place q on, as cells. -/
def paC (vs : List It) (q m : Nat) : List Value := (List.range m).flatMap fun j => [.int .u64 (itN vs (q + 3 * j + 1)), .string (itS vs (q + 3 * j + 2))]
theorem paC_succ (vs : List It) (q m : Nat) : paC vs q (m + 1) = paC vs q m ++ [.int .u64 (itN vs (q + 3 * m + 1)), .string (itS vs (q + 3 * m + 2))] := by simp [paC, List.range_succ]
theorem paC_len (vs : List It) (q m : Nat) : (paC vs q m).length = m * 2 := by
  induction m with
  | zero => rfl
  | succ m ih => rw [paC_succ, List.length_append, ih]; simp; omega
theorem Tryz.szSig : (Tryz.prog.info? 71).map (·.size) = some 2 := by kernel_rfl
theorem Tryz.infoSig : (Tryz.prog.info? 71).map (fun i => (i.zero, i.size, i.bytes)) = some (some (.agg #[.int .u64 0, .string ByteArray.empty]), 2, 24) := by kernel_rfl
theorem set2 {w : World} {N : Nat} {a b u0 u1 : Value} {T : TypeId} (hN : w.heap[N]? = some (.cells #[u0, u1] T (0, 0))) : ((w.setCell ⟨N, 0, none⟩ a).setCell ⟨N, 1, none⟩ b).heap[N]? = some (.cells #[a, b] T (0, 0)) := by
  have e1 := set_block (i := 0) hN a
  have e2 := set_block (i := 1) e1 b
  rw [e2]; simp
set_option maxRecDepth 100000 in
set_option maxHeartbeats 4000000 in
theorem partSig_any (R b o C q : Nat) (vs : List It) (w : World) (h : RdR R b o C vs q w) (hl : q + 3 ≤ vs.length) : Calls Tryz.prog 62 #[.pointer (some ⟨R, 0, none⟩)] w fun e w' => e = .returned (.agg #[.int .u64 (itN vs (q + 1)), .string (itS vs (q + 2))]) ∧ RdR R b o C vs (q + 3) w' ∧ w.grownBy w' (some R) := by
  rw [itN_at (by omega), itS_at (by omega)]
  obtain ⟨x1, h1⟩ : ∃ x, (vs[q + 1]'(by omega)).n = x := ⟨_, rfl⟩
  obtain ⟨x2, h2⟩ : ∃ x, (vs[q + 2]'(by omega)).s = x := ⟨_, rfl⟩
  have HN0 : Hid (∀ w, RdR R b o C vs q w → Calls Tryz.prog 58 #[.pointer (some ⟨R, 0, none⟩)] w fun e w' => e = .returned (.tuple #[]) ∧ RdR R b o C vs (q + 1) w' ∧ w.grownBy w' (some R)) := fun w h => fieldsR_any R b o C q vs w h (by omega)
  have HN1 : Hid (∀ w, RdR R b o C vs (q + 1) w → Calls Tryz.prog 59 #[.pointer (some ⟨R, 0, none⟩)] w fun e w' => e = .returned (.int .u64 x1) ∧ RdR R b o C vs (q + 2) w' ∧ w.grownBy w' (some R)) := fun w h => by have := numberR_any R b o C (q + 1) vs w h (by omega); rw [h1] at this; exact this
  have HN2 : Hid (∀ w, RdR R b o C vs (q + 2) w → Calls Tryz.prog 60 #[.pointer (some ⟨R, 0, none⟩)] w fun e w' => e = .returned (.string x2) ∧ RdR R b o C vs (q + 3) w' ∧ w.grownBy w' (some R)) := fun w h => by have := textR_any R b o C (q + 2) vs w h (by omega); rw [h2] at this; exact this
  rw [h1, h2]
  obtain ⟨v, hv, _⟩ := h.cell
  have hR : R < w.heap.size := blk_lt hv
  obtain ⟨Z, hZ⟩ : ∃ Z : Obj, .cells #[.int .u64 0, .string ⟨#[]⟩] 71 = Z := ⟨_, rfl⟩
  have hb0 : Below w.heap.size w ((w.alloc Z).alloc Z) := ((Below.refl _ _).alloc (Nat.le_refl _) _).alloc (by simp) _
  have HR : Hid (RdR R b o C vs q ((w.alloc Z).alloc Z)) := h.grown (gb_bel hb0)
  have HG : Hid (w.grownBy ((w.alloc Z).alloc Z) (some R)) := gb_any (gb_bel hb0)
  have HB : Hid (((w.alloc Z).alloc Z).heap[w.heap.size + 1]? = some Z) := heap_alloc2_new w Z Z
  have HZ : Hid (((w.alloc Z).alloc Z).heap[w.heap.size]? = some Z) := by show _ = _; rw [Below.heap_alloc _ _ _ (by simp)]; exact heap_alloc_new w Z
  have hZs : w.heap.size < ((w.alloc Z).alloc Z).heap.size := by simp; omega
  have hHs : w.heap.size + 1 < ((w.alloc Z).alloc Z).heap.size := by simp
  subst hZ
  clear h hv h1 h2 hl hb0
  go_enter Tryz.func62, Tryz.ntmps62
  go_wp2_with fail
  obtain ⟨W, hW⟩ : ∃ W, (w.alloc (.cells #[.int .u64 0, .string ⟨#[]⟩] 71)).alloc (.cells #[.int .u64 0, .string ⟨#[]⟩] 71) = W := ⟨_, rfl⟩
  rw [hW] at HR HG HB HZ hZs hHs
  rw [hW]
  obtain ⟨H, hH⟩ : ∃ H, w.heap.size + 1 = H := ⟨_, rfl⟩
  rw [hH] at HB hHs
  rw [hH]
  have hH1 : w.heap.size < H := by omega
  clear hW hH
  refine (HN0.out _ HR.out).mono ?_
  rintro e w1 ⟨rfl, hr, hg⟩
  have HR1 : Hid (RdR R b o C vs (q + 1) w1) := hr
  have HG1 : Hid (w.grownBy w1 (some R)) := gb_trR HG.out hg
  have HB1 : Hid (w1.heap[H]? = some (.cells #[.int .u64 0, .string ⟨#[]⟩] 71 (0, 0))) := (hg.block H hHs (by simp; omega)).trans HB.out
  have HZ1 : Hid (w1.heap[w.heap.size]? = some (.cells #[.int .u64 0, .string ⟨#[]⟩] 71 (0, 0))) := (hg.block w.heap.size hZs (by simp; omega)).trans HZ.out
  have hs1 : W.heap.size ≤ w1.heap.size := hg.size
  clear hr hg
  go_wp2_with fail
  refine (HN1.out _ HR1.out).mono ?_
  rintro e w2a ⟨rfl, hr, hg⟩
  have hb : w2a.heap[H]? = some (.cells #[.int .u64 0, .string ⟨#[]⟩] 71 (0, 0)) := (hg.block H (by omega) (by simp; omega)).trans HB1.out
  have c0 : w2a.cell? ⟨H, 0, none⟩ = some (.int .u64 0) := by rw [cell_of_row w2a H 0 _ _ _ hb]; rfl
  have f0 : w2a.frozen? ⟨H, 0, none⟩ = false := by simp [World.frozen?, hb]
  have HRa : Hid (RdR R b o C vs (q + 2) (w2a.setCell ⟨H, 0, none⟩ (.int .u64 x1))) := hr.set (by omega) _
  have HGa : Hid (w.grownBy (w2a.setCell ⟨H, 0, none⟩ (.int .u64 x1)) (some R)) := gb_new (gb_trR HG1.out hg) (by omega) _
  have HBa : Hid ((w2a.setCell ⟨H, 0, none⟩ (.int .u64 x1)).heap[H]? = some (.cells #[.int .u64 x1, .string ⟨#[]⟩] 71 (0, 0))) := by rw [set_block (i := 0) hb]; rfl
  have HZa : Hid ((w2a.setCell ⟨H, 0, none⟩ (.int .u64 x1)).heap[w.heap.size]? = some (.cells #[.int .u64 0, .string ⟨#[]⟩] 71 (0, 0))) := by rw [Below.heap_setCell _ _ _ _ (by simp; omega)]; exact (hg.block w.heap.size (by omega) (by simp; omega)).trans HZ1.out
  have hsa : W.heap.size ≤ (w2a.setCell ⟨H, 0, none⟩ (.int .u64 x1)).heap.size := by have := hg.size; simp [World.setCell]; omega
  clear hr hg hb
  go_wp2_with fail
  obtain ⟨w2, hw'⟩ : ∃ W, w2a.setCell ⟨H, 0, none⟩ (.int .u64 x1) = W := ⟨_, rfl⟩
  rw [hw'] at HRa HGa HBa HZa hsa
  rw [hw']
  have HR2 := HRa
  have HG2 := HGa
  have HB2 := HBa
  have HZ2 := HZa
  have hs2 := hsa
  clear HRa HGa HBa HZa hsa hw' c0 f0
  refine (HN2.out _ HR2.out).mono ?_
  rintro e w3a ⟨rfl, hr, hg⟩
  have hb : w3a.heap[H]? = some (.cells #[.int .u64 x1, .string ⟨#[]⟩] 71 (0, 0)) := (hg.block H (by omega) (by simp; omega)).trans HB2.out
  have c0 : w3a.cell? ⟨H, 1, none⟩ = some (.string ⟨#[]⟩) := by rw [cell_of_row w3a H 1 _ _ _ hb]; rfl
  have f0 : w3a.frozen? ⟨H, 1, none⟩ = false := by simp [World.frozen?, hb]
  have HRa : Hid (RdR R b o C vs (q + 3) (w3a.setCell ⟨H, 1, none⟩ (.string x2))) := hr.set (by omega) _
  have HGa : Hid (w.grownBy (w3a.setCell ⟨H, 1, none⟩ (.string x2)) (some R)) := gb_new (gb_trR HG2.out hg) (by omega) _
  have HBa : Hid ((w3a.setCell ⟨H, 1, none⟩ (.string x2)).heap[H]? = some (.cells #[.int .u64 x1, .string x2] 71 (0, 0))) := by rw [set_block (i := 1) hb]; rfl
  have HZa : Hid ((w3a.setCell ⟨H, 1, none⟩ (.string x2)).heap[w.heap.size]? = some (.cells #[.int .u64 0, .string ⟨#[]⟩] 71 (0, 0))) := by rw [Below.heap_setCell _ _ _ _ (by simp; omega)]; exact (hg.block w.heap.size (by omega) (by simp; omega)).trans HZ2.out
  have hsa : W.heap.size ≤ (w3a.setCell ⟨H, 1, none⟩ (.string x2)).heap.size := by have := hg.size; simp [World.setCell]; omega
  clear hr hg hb
  have z0 : (w3a.setCell ⟨H, 1, none⟩ (.string x2)).cell? ⟨w.heap.size, 0, none⟩ = some (.int .u64 0) := by rw [cell_of_row _ w.heap.size 0 _ _ _ HZa.out]; rfl
  have y0 : (w3a.setCell ⟨H, 1, none⟩ (.string x2)).frozen? ⟨w.heap.size, 0, none⟩ = false := by simp only [World.frozen?, HZa.out]; rfl
  have z1 : (w3a.setCell ⟨H, 1, none⟩ (.string x2)).cell? ⟨w.heap.size, 1, none⟩ = some (.string ⟨#[]⟩) := by rw [cell_of_row _ w.heap.size 1 _ _ _ HZa.out]; rfl
  have y1 : (w3a.setCell ⟨H, 1, none⟩ (.string x2)).frozen? ⟨w.heap.size, 1, none⟩ = false := by simp only [World.frozen?, HZa.out]; rfl
  go_wp2_with (refine wpList_load_row rfl 71 _ rfl H rfl _ _ _ _ HBa.out Tryz.underlying71 rfl Tryz.szSig ?_)
  exact bodyPost_ret (v := .agg #[.int .u64 x1, .string x2]) (results_cell_row Tryz.results62 _ _ w.heap.size _ _ _ _ rfl (set2 HZa.out) Tryz.underlying71 rfl Tryz.szSig) rfl ⟨rfl, (HRa.out.set (by omega) _).set (by omega) _, gb_new (gb_new HGa.out (Nat.le_refl _) _) (Nat.le_refl _) _⟩
set_option maxRecDepth 100000 in
set_option maxHeartbeats 2000000 in
theorem readListSig_any (R b o C q m : Nat) (vs : List It) (w : World) (h : RdR R b o C vs q w) (hq : q < vs.length) (hm : vs[q].n = m) (hl : q + 1 + 3 * m ≤ vs.length) (hm2 : m ≤ 1000) : Calls Tryz.prog 61 #[.pointer (some ⟨R, 0, none⟩), .func (.func 62) #[.pointer (some ⟨R, 0, none⟩)] #[]] w fun e w' => (∃ v, e = .returned v ∧ w'.ownsRow w.heap.size 71 2 v m (paC vs (q + 1) m)) ∧ RdR R b o C vs (q + 1 + 3 * m) w' ∧ w.grownBy w' (some R) := by
  obtain ⟨i0, hi, hz0, hz1, hz2⟩ := info_parts Tryz.infoSig
  have HN : Hid (Calls Tryz.prog 59 #[.pointer (some ⟨R, 0, none⟩)] w fun e w' => e = .returned (.int .u64 (m : Nat)) ∧ RdR R b o C vs (q + 1) w' ∧ w.grownBy w' (some R)) := by have := numberR_any R b o C q vs w h hq; rw [hm] at this; exact this
  have HT : Hid (∀ (j : Nat) (hj : q + 1 + 3 * j + 3 ≤ vs.length) (w : World), RdR R b o C vs (q + 1 + 3 * j) w → Calls Tryz.prog 62 #[.pointer (some ⟨R, 0, none⟩)] w fun e w' => e = .returned (.agg #[.int .u64 (itN vs (q + 1 + 3 * j + 1)), .string (itS vs (q + 1 + 3 * j + 2))]) ∧ RdR R b o C vs (q + 1 + 3 * j + 3) w' ∧ w.grownBy w' (some R)) := fun j hj w h => partSig_any R b o C (q + 1 + 3 * j) vs w h hj
  obtain ⟨v0, hv0, _⟩ := h.cell
  have hR : R < w.heap.size := blk_lt hv0
  clear h hv0 hm
  go_enter Tryz.func61, Tryz.ntmps61
  go_wp2_with fail
  refine Calls.mono HN.out ?_
  rintro e w1 ⟨rfl, hr1, hg1⟩
  have HR1 : Hid (RdR R b o C vs (q + 1) w1) := hr1
  have HG1 : Hid (w.grownBy w1 (some R)) := hg1
  clear hr1 hg1
  go_wp2_with fail
  go_loopg [5, 8] m (fun gk v i wr => ∃ j : Nat, j + gk = m ∧ i = .int .u64 j ∧ wr.ownsRow w.heap.size 71 2 v j (paC vs (q + 1) j) ∧ RdR R b o C vs (q + 1 + 3 * j) wr ∧ w.grownBy wr (some R))
  case atStart => exact ⟨0, by omega, rfl, World.ownsRow_nil _ _ _ _, HR1.out, HG1.out⟩
  case round =>
    obtain ⟨j, hj', rfl, hown, hr, hg⟩ := hrel
    have HJ : Hid (j + gk = m) := hj'
    have HO : Hid (wr.ownsRow w.heap.size 71 2 u5 j (paC vs (q + 1) j)) := hown
    have HR : Hid (RdR R b o C vs (q + 1 + 3 * j) wr) := hr
    have HG : Hid (w.grownBy wr (some R)) := hg
    have hj : j ≤ m := by omega
    have hsr : w.heap.size ≤ wr.heap.size := hg.size
    clear hj' hown hr hg
    by_cases hlt : j < m
    · obtain ⟨x1, hx1⟩ : ∃ x, (itN vs (q + 1 + 3 * j + 1)) = x := ⟨_, rfl⟩
      obtain ⟨x2, hx2⟩ : ∃ x, (itS vs (q + 1 + 3 * j + 2)) = x := ⟨_, rfl⟩
      have HC : Hid (Calls Tryz.prog 62 #[.pointer (some ⟨R, 0, none⟩)] wr fun e w' => e = .returned (.agg #[.int .u64 x1, .string x2]) ∧ RdR R b o C vs (q + 1 + 3 * j + 3) w' ∧ wr.grownBy w' (some R)) := by have := HT.out j (by omega) wr HR.out; rw [hx1, hx2] at this; exact this
      have HXS : Hid (paC vs (q + 1) (j + 1) = paC vs (q + 1) j ++ [.int .u64 x1, .string x2]) := by show _ = _; rw [paC_succ, hx1, hx2]
      clear hx1 hx2
      go_wp2_with fail
      refine Calls.mono HC.out ?_
      rintro e w3 ⟨rfl, hr3, hg3⟩
      have HR3 : Hid (RdR R b o C vs (q + 1 + 3 * j + 3) w3) := hr3
      have HG3 : Hid (w.grownBy w3 (some R)) := gb_trR HG.out hg3
      have HO3 : Hid (w3.ownsRow w.heap.size 71 2 u5 j (paC vs (q + 1) j)) := HO.out.kept hg3 (by
        cases hv : u5.ownBlock with
        | none => exact .inl rfl
        | some k => exact .inr (fun e => by cases e; have := (HO.out.lt R hv).1; omega))
      have hs3 : w.heap.size ≤ w3.heap.size := HG3.out.size
      clear hr3 hg3
      go_wp2_with (at_builtin; refine wpList_append_lies _ rfl _ _ 34 rfl w.heap.size 71 i0 (.agg #[.int .u64 0, .string ByteArray.empty]) 2 24 Tryz.underlying34 hi hz0 hz1 hz2 rfl (by decide) u5 j _ rfl (HO3.out.alloc _) ⟨w3.heap.size, 0, none⟩ 1 1 [.int .u64 x1, .string x2] rfl rfl ?c1 ?c2 (by omega) ?c3 ?c4 ?c5 (w3.heap.size + 1) (by simp) ?_)
      case c1 =>
        intro i u hi
        match i, hi with
        | 0, hi => simp at hi; subst hi; simp [Addr.add]
        | 1, hi => simp at hi; subst hi; simp [Addr.add]
      case c2 => intro u hu; simp at hu; rcases hu with rfl | rfl <;> rfl
      case c3 => unfold maxLen; omega
      case c4 => omega
      case c5 => simp; omega
      intro g cap2 w4 hown' hgrow hat hlt'
      have hbw : w3.grownBy (w3.alloc (.cells #[.int .u64 x1, .string x2] 71)) (some R) := gb_any (gb_bel (bel1 _ _))
      have HG4 : Hid (w.grownBy w4 (some R)) := by
        refine ⟨hgrow.os.trans (hbw.os.trans HG3.out.os), hgrow.tape.trans (hbw.tape.trans HG3.out.tape), hgrow.output.trans (hbw.output.trans HG3.out.output), Nat.le_trans HG3.out.size (Nat.le_trans hbw.size hgrow.size), fun k hk hne => ?_⟩
        refine (hgrow.block k (by simp; omega) (fun e => ?_)).trans ((hbw.block k (by omega) hne).trans (HG3.out.block k hk hne))
        have := (HO3.out.lt k e.symm).1
        omega
      have HR4 : Hid (RdR R b o C vs (q + 1 + 3 * j + 3) w4) := by
        have hRa := HR3.out.grown (gb_bel (bel1 w3 (.cells #[.int .u64 x1, .string x2] 71)))
        obtain ⟨⟨vv, hvv, hff⟩, hii⟩ := hRa
        have far : ∀ k, k < w.heap.size → w4.heap[k]? = (w3.alloc (.cells #[.int .u64 x1, .string x2] 71)).heap[k]? := fun k hk => hgrow.block k (by simp; omega) (fun e => by have := (HO3.out.lt k e.symm).1; omega)
        refine ⟨⟨vv, (far R hR).trans hvv, hff⟩, ⟨hii.small, hii.room, hii.most, hii.wf, hii.low, fun i hl => ?_⟩⟩
        have hbb : b < R := hii.low.resolve_left (by omega)
        have e : ∀ z, w4.cell? ⟨b, z, none⟩ = (w3.alloc (.cells #[.int .u64 x1, .string x2] 71)).cell? ⟨b, z, none⟩ := fun z => World.cell?_of_block (a := ⟨b, z, none⟩) (far b (by omega))
        rw [e, e, e]
        exact hii.cells i hl
      have HX : Hid (w4.ownsRow w.heap.size 71 2 (.slice (some ⟨g, 0, none⟩) (j + 1) cap2) (j + 1) (paC vs (q + 1) (j + 1))) := by show World.ownsRow _ _ _ _ _ _ _; rw [HXS.out]; exact hown'
      clear hown' hgrow hat hlt' hbw
      go_wp2_with fail
      go_roundg (gk - 1)
      case rel => exact ⟨j + 1, by have := HJ.out; omega, by go_num, HX.out, (by rw [show q + 1 + 3 * (j + 1) = q + 1 + 3 * j + 3 by omega]; exact HR4.out), HG4.out⟩
      case measure => have := HJ.out; omega
    · have ej : j = m := by omega
      clear hlt
      subst ej
      go_wp2_with fail
      go_ret
      exact ⟨⟨_, rfl, HO.out⟩, HR.out, HG.out⟩
end Go.Proofs.YtelbmcgpelkakaaGreatDoor
namespace Go.Proofs.YtelbmcgpelkakaaGreatDoor
open Go.RowKit Go.Sort
set_option linter.unusedVariables false
theorem Tryz.szCmt : (Tryz.prog.info? 36).map (·.size) = some 4 := by kernel_rfl
set_option maxRecDepth 100000 in
set_option maxHeartbeats 4000000 in
theorem commitR_any (R b o C m : Nat) (vs : List It) (w : World) (h : RdR R b o C vs 0 w) (h5 : 4 < vs.length) (hm : vs[4].n = m) (hm16 : m ≤ 8) (hl : vs.length = 5 + 3 * m) : Calls Tryz.prog 37 #[.pointer (some ⟨R, 0, none⟩)] w fun e w' => (∃ ad cp, e = .returned (.agg #[.int .u64 vs[1].n, .int .u64 vs[2].n, .string vs[3].s, .slice ad m cp]) ∧ w'.ownsRow w.heap.size 71 2 (.slice ad m cp) m (paC vs 5 m)) ∧ w.grownBy w' (some R) := by
  obtain ⟨x1, h1⟩ : ∃ x, vs[1].n = x := ⟨_, rfl⟩
  obtain ⟨x2, h2⟩ : ∃ x, vs[2].n = x := ⟨_, rfl⟩
  obtain ⟨x3, h3⟩ : ∃ x, vs[3].s = x := ⟨_, rfl⟩
  have HN0 : Hid (∀ w, RdR R b o C vs 0 w → Calls Tryz.prog 58 #[.pointer (some ⟨R, 0, none⟩)] w fun e w' => e = .returned (.tuple #[]) ∧ RdR R b o C vs 1 w' ∧ w.grownBy w' (some R)) := fun w h => fieldsR_any R b o C 0 vs w h (by omega)
  have HN1 : Hid (∀ w, RdR R b o C vs 1 w → Calls Tryz.prog 59 #[.pointer (some ⟨R, 0, none⟩)] w fun e w' => e = .returned (.int .u64 x1) ∧ RdR R b o C vs 2 w' ∧ w.grownBy w' (some R)) := fun w h => by have := numberR_any R b o C 1 vs w h (by omega); rw [h1] at this; exact this
  have HN2 : Hid (∀ w, RdR R b o C vs 2 w → Calls Tryz.prog 59 #[.pointer (some ⟨R, 0, none⟩)] w fun e w' => e = .returned (.int .u64 x2) ∧ RdR R b o C vs 3 w' ∧ w.grownBy w' (some R)) := fun w h => by have := numberR_any R b o C 2 vs w h (by omega); rw [h2] at this; exact this
  have HN3 : Hid (∀ w, RdR R b o C vs 3 w → Calls Tryz.prog 60 #[.pointer (some ⟨R, 0, none⟩)] w fun e w' => e = .returned (.string x3) ∧ RdR R b o C vs 4 w' ∧ w.grownBy w' (some R)) := fun w h => by have := textR_any R b o C 3 vs w h (by omega); rw [h3] at this; exact this
  have HN4 : Hid (∀ w, RdR R b o C vs 4 w → Calls Tryz.prog 61 #[.pointer (some ⟨R, 0, none⟩), .func (.func 62) #[.pointer (some ⟨R, 0, none⟩)] #[]] w fun e w' => (∃ v, e = .returned v ∧ w'.ownsRow w.heap.size 71 2 v m (paC vs 5 m)) ∧ RdR R b o C vs (5 + 3 * m) w' ∧ w.grownBy w' (some R)) := fun w h => readListSig_any R b o C 4 m vs w h h5 hm (by omega) (by omega)
  rw [h1, h2, h3]
  obtain ⟨v, hv, _⟩ := h.cell
  have hR : R < w.heap.size := blk_lt hv
  obtain ⟨Z, hZ⟩ : ∃ Z : Obj, .cells #[.int .u64 0, .int .u64 0, .string ⟨#[]⟩, .slice none 0 0] 36 = Z := ⟨_, rfl⟩
  have hb0 : Below w.heap.size w ((w.alloc Z).alloc Z) := ((Below.refl _ _).alloc (Nat.le_refl _) _).alloc (by simp) _
  have HR : Hid (RdR R b o C vs 0 ((w.alloc Z).alloc Z)) := h.grown (gb_bel hb0)
  have HG : Hid (w.grownBy ((w.alloc Z).alloc Z) (some R)) := gb_any (gb_bel hb0)
  have HB : Hid (((w.alloc Z).alloc Z).heap[w.heap.size + 1]? = some Z) := heap_alloc2_new w Z Z
  have HZ : Hid (((w.alloc Z).alloc Z).heap[w.heap.size]? = some Z) := by show _ = _; rw [Below.heap_alloc _ _ _ (by simp)]; exact heap_alloc_new w Z
  have hZs : w.heap.size < ((w.alloc Z).alloc Z).heap.size := by simp; omega
  have hHs : w.heap.size + 1 < ((w.alloc Z).alloc Z).heap.size := by simp
  subst hZ
  clear h hv h1 h2 h3 hl hm hb0
  go_enter Tryz.func37, Tryz.ntmps37
  go_wp2_with fail
  obtain ⟨W, hW⟩ : ∃ W, (w.alloc (.cells #[.int .u64 0, .int .u64 0, .string ⟨#[]⟩, .slice none 0 0] 36)).alloc (.cells #[.int .u64 0, .int .u64 0, .string ⟨#[]⟩, .slice none 0 0] 36) = W := ⟨_, rfl⟩
  rw [hW] at HR HG HB HZ hZs hHs
  rw [hW]
  obtain ⟨H, hH⟩ : ∃ H, w.heap.size + 1 = H := ⟨_, rfl⟩
  rw [hH] at HB hHs
  rw [hH]
  have hH1 : w.heap.size < H := by omega
  clear hW hH
  refine (HN0.out _ HR.out).mono ?_
  rintro e w1 ⟨rfl, hr, hg⟩
  have HR1 : Hid (RdR R b o C vs 1 w1) := hr
  have HG1 : Hid (w.grownBy w1 (some R)) := gb_trR HG.out hg
  have HB1 : Hid (w1.heap[H]? = some (.cells #[.int .u64 0, .int .u64 0, .string ⟨#[]⟩, .slice none 0 0] 36 (0, 0))) := (hg.block H hHs (by simp; omega)).trans HB.out
  have HZ1 : Hid (w1.heap[w.heap.size]? = some (.cells #[.int .u64 0, .int .u64 0, .string ⟨#[]⟩, .slice none 0 0] 36 (0, 0))) := (hg.block w.heap.size hZs (by simp; omega)).trans HZ.out
  have hs1 : W.heap.size ≤ w1.heap.size := hg.size
  clear hr hg
  go_wp2_with fail
  refine (HN1.out _ HR1.out).mono ?_
  rintro e w2a ⟨rfl, hr, hg⟩
  have hb : w2a.heap[H]? = some (.cells #[.int .u64 0, .int .u64 0, .string ⟨#[]⟩, .slice none 0 0] 36 (0, 0)) := (hg.block H (by omega) (by simp; omega)).trans HB1.out
  have c0 : w2a.cell? ⟨H, 0, none⟩ = some (.int .u64 0) := by rw [cell_of_row w2a H 0 _ _ _ hb]; rfl
  have f0 : w2a.frozen? ⟨H, 0, none⟩ = false := by simp [World.frozen?, hb]
  have HRa : Hid (RdR R b o C vs 2 (w2a.setCell ⟨H, 0, none⟩ (.int .u64 x1))) := hr.set (by omega) _
  have HGa : Hid (w.grownBy (w2a.setCell ⟨H, 0, none⟩ (.int .u64 x1)) (some R)) := gb_new (gb_trR HG1.out hg) (by omega) _
  have HBa : Hid ((w2a.setCell ⟨H, 0, none⟩ (.int .u64 x1)).heap[H]? = some (.cells #[.int .u64 x1, .int .u64 0, .string ⟨#[]⟩, .slice none 0 0] 36 (0, 0))) := by rw [set_block (i := 0) hb]; rfl
  have HZa : Hid ((w2a.setCell ⟨H, 0, none⟩ (.int .u64 x1)).heap[w.heap.size]? = some (.cells #[.int .u64 0, .int .u64 0, .string ⟨#[]⟩, .slice none 0 0] 36 (0, 0))) := by rw [Below.heap_setCell _ _ _ _ (by simp; omega)]; exact (hg.block w.heap.size (by omega) (by simp; omega)).trans HZ1.out
  have hsa : W.heap.size ≤ (w2a.setCell ⟨H, 0, none⟩ (.int .u64 x1)).heap.size := by have := hg.size; simp [World.setCell]; omega
  clear hr hg hb
  go_wp2_with fail
  obtain ⟨w2, hw'⟩ : ∃ W, w2a.setCell ⟨H, 0, none⟩ (.int .u64 x1) = W := ⟨_, rfl⟩
  rw [hw'] at HRa HGa HBa HZa hsa
  rw [hw']
  have HR2 := HRa
  have HG2 := HGa
  have HB2 := HBa
  have HZ2 := HZa
  have hs2 := hsa
  clear HRa HGa HBa HZa hsa hw' c0 f0
  refine (HN2.out _ HR2.out).mono ?_
  rintro e w3a ⟨rfl, hr, hg⟩
  have hb : w3a.heap[H]? = some (.cells #[.int .u64 x1, .int .u64 0, .string ⟨#[]⟩, .slice none 0 0] 36 (0, 0)) := (hg.block H (by omega) (by simp; omega)).trans HB2.out
  have c0 : w3a.cell? ⟨H, 1, none⟩ = some (.int .u64 0) := by rw [cell_of_row w3a H 1 _ _ _ hb]; rfl
  have f0 : w3a.frozen? ⟨H, 1, none⟩ = false := by simp [World.frozen?, hb]
  have HRa : Hid (RdR R b o C vs 3 (w3a.setCell ⟨H, 1, none⟩ (.int .u64 x2))) := hr.set (by omega) _
  have HGa : Hid (w.grownBy (w3a.setCell ⟨H, 1, none⟩ (.int .u64 x2)) (some R)) := gb_new (gb_trR HG2.out hg) (by omega) _
  have HBa : Hid ((w3a.setCell ⟨H, 1, none⟩ (.int .u64 x2)).heap[H]? = some (.cells #[.int .u64 x1, .int .u64 x2, .string ⟨#[]⟩, .slice none 0 0] 36 (0, 0))) := by rw [set_block (i := 1) hb]; rfl
  have HZa : Hid ((w3a.setCell ⟨H, 1, none⟩ (.int .u64 x2)).heap[w.heap.size]? = some (.cells #[.int .u64 0, .int .u64 0, .string ⟨#[]⟩, .slice none 0 0] 36 (0, 0))) := by rw [Below.heap_setCell _ _ _ _ (by simp; omega)]; exact (hg.block w.heap.size (by omega) (by simp; omega)).trans HZ2.out
  have hsa : W.heap.size ≤ (w3a.setCell ⟨H, 1, none⟩ (.int .u64 x2)).heap.size := by have := hg.size; simp [World.setCell]; omega
  clear hr hg hb
  go_wp2_with fail
  obtain ⟨w3, hw'⟩ : ∃ W, w3a.setCell ⟨H, 1, none⟩ (.int .u64 x2) = W := ⟨_, rfl⟩
  rw [hw'] at HRa HGa HBa HZa hsa
  rw [hw']
  have HR3 := HRa
  have HG3 := HGa
  have HB3 := HBa
  have HZ3 := HZa
  have hs3 := hsa
  clear HRa HGa HBa HZa hsa hw' c0 f0
  refine (HN3.out _ HR3.out).mono ?_
  rintro e w4a ⟨rfl, hr, hg⟩
  have hb : w4a.heap[H]? = some (.cells #[.int .u64 x1, .int .u64 x2, .string ⟨#[]⟩, .slice none 0 0] 36 (0, 0)) := (hg.block H (by omega) (by simp; omega)).trans HB3.out
  have c0 : w4a.cell? ⟨H, 2, none⟩ = some (.string ⟨#[]⟩) := by rw [cell_of_row w4a H 2 _ _ _ hb]; rfl
  have f0 : w4a.frozen? ⟨H, 2, none⟩ = false := by simp [World.frozen?, hb]
  have HRa : Hid (RdR R b o C vs 4 (w4a.setCell ⟨H, 2, none⟩ (.string x3))) := hr.set (by omega) _
  have HGa : Hid (w.grownBy (w4a.setCell ⟨H, 2, none⟩ (.string x3)) (some R)) := gb_new (gb_trR HG3.out hg) (by omega) _
  have HBa : Hid ((w4a.setCell ⟨H, 2, none⟩ (.string x3)).heap[H]? = some (.cells #[.int .u64 x1, .int .u64 x2, .string x3, .slice none 0 0] 36 (0, 0))) := by rw [set_block (i := 2) hb]; rfl
  have HZa : Hid ((w4a.setCell ⟨H, 2, none⟩ (.string x3)).heap[w.heap.size]? = some (.cells #[.int .u64 0, .int .u64 0, .string ⟨#[]⟩, .slice none 0 0] 36 (0, 0))) := by rw [Below.heap_setCell _ _ _ _ (by simp; omega)]; exact (hg.block w.heap.size (by omega) (by simp; omega)).trans HZ3.out
  have hsa : W.heap.size ≤ (w4a.setCell ⟨H, 2, none⟩ (.string x3)).heap.size := by have := hg.size; simp [World.setCell]; omega
  clear hr hg hb
  go_wp2_with fail
  obtain ⟨w4, hw'⟩ : ∃ W, w4a.setCell ⟨H, 2, none⟩ (.string x3) = W := ⟨_, rfl⟩
  rw [hw'] at HRa HGa HBa HZa hsa
  rw [hw']
  have HR4 := HRa
  have HG4 := HGa
  have HB4 := HBa
  have HZ4 := HZa
  have hs4 := hsa
  clear HRa HGa HBa HZa hsa hw' c0 f0
  refine (HN4.out _ HR4.out).mono ?_
  rintro e w5a ⟨⟨v, rfl, ho⟩, hr, hg⟩
  obtain ⟨ad, cp, rfl⟩ : ∃ ad cp, v = .slice ad m cp := by
    rcases ho.2 with ⟨e1, e2⟩ | ⟨g, cap, cu, e1, _⟩
    · exact ⟨none, 0, by rw [e1, e2]⟩
    · exact ⟨_, cap, e1⟩
  have hb : w5a.heap[H]? = some (.cells #[.int .u64 x1, .int .u64 x2, .string x3, .slice none 0 0] 36 (0, 0)) := (hg.block H (by omega) (by simp; omega)).trans HB4.out
  have c0 : w5a.cell? ⟨H, 3, none⟩ = some (.slice none 0 0) := by rw [cell_of_row w5a H 3 _ _ _ hb]; rfl
  have f0 : w5a.frozen? ⟨H, 3, none⟩ = false := by simp [World.frozen?, hb]
  have HGa : Hid (w.grownBy (w5a.setCell ⟨H, 3, none⟩ (.slice ad m cp)) (some R)) := gb_new (gb_trR HG4.out hg) (by omega) _
  have HBa : Hid ((w5a.setCell ⟨H, 3, none⟩ (.slice ad m cp)).heap[H]? = some (.cells #[.int .u64 x1, .int .u64 x2, .string x3, .slice ad m cp] 36 (0, 0))) := by rw [set_block (i := 3) hb]; rfl
  have HZa : Hid ((w5a.setCell ⟨H, 3, none⟩ (.slice ad m cp)).heap[w.heap.size]? = some (.cells #[.int .u64 0, .int .u64 0, .string ⟨#[]⟩, .slice none 0 0] 36 (0, 0))) := by rw [Below.heap_setCell _ _ _ _ (by simp; omega)]; exact (hg.block w.heap.size (by omega) (by simp; omega)).trans HZ4.out
  have HOa : Hid ((w5a.setCell ⟨H, 3, none⟩ (.slice ad m cp)).ownsRow w4.heap.size 71 2 (.slice ad m cp) m (paC vs 5 m)) := ownsRow_setCell_below ho (a := ⟨H, 3, none⟩) (by simp; omega) _
  have hw4 : w.heap.size < w4.heap.size := by omega
  clear hr hg hb ho
  have z0 : (w5a.setCell ⟨H, 3, none⟩ (.slice ad m cp)).cell? ⟨w.heap.size, 0, none⟩ = some (.int .u64 0) := by rw [cell_of_row _ w.heap.size 0 _ _ _ HZa.out]; rfl
  have y0 : (w5a.setCell ⟨H, 3, none⟩ (.slice ad m cp)).frozen? ⟨w.heap.size, 0, none⟩ = false := by simp only [World.frozen?, HZa.out]; rfl
  have z1 : (w5a.setCell ⟨H, 3, none⟩ (.slice ad m cp)).cell? ⟨w.heap.size, 1, none⟩ = some (.int .u64 0) := by rw [cell_of_row _ w.heap.size 1 _ _ _ HZa.out]; rfl
  have y1 : (w5a.setCell ⟨H, 3, none⟩ (.slice ad m cp)).frozen? ⟨w.heap.size, 1, none⟩ = false := by simp only [World.frozen?, HZa.out]; rfl
  have z2 : (w5a.setCell ⟨H, 3, none⟩ (.slice ad m cp)).cell? ⟨w.heap.size, 2, none⟩ = some (.string ⟨#[]⟩) := by rw [cell_of_row _ w.heap.size 2 _ _ _ HZa.out]; rfl
  have y2 : (w5a.setCell ⟨H, 3, none⟩ (.slice ad m cp)).frozen? ⟨w.heap.size, 2, none⟩ = false := by simp only [World.frozen?, HZa.out]; rfl
  have z3 : (w5a.setCell ⟨H, 3, none⟩ (.slice ad m cp)).cell? ⟨w.heap.size, 3, none⟩ = some (.slice none 0 0) := by rw [cell_of_row _ w.heap.size 3 _ _ _ HZa.out]; rfl
  have y3 : (w5a.setCell ⟨H, 3, none⟩ (.slice ad m cp)).frozen? ⟨w.heap.size, 3, none⟩ = false := by simp only [World.frozen?, HZa.out]; rfl
  go_wp2_with (refine wpList_load_row rfl 36 _ rfl H rfl _ _ _ _ HBa.out Tryz.underlying36 rfl Tryz.szCmt ?_)
  exact bodyPost_ret (v := .agg #[.int .u64 x1, .int .u64 x2, .string x3, .slice ad m cp]) (results_cell_row Tryz.results37 _ _ w.heap.size _ _ _ _ rfl (set4 HZa.out) Tryz.underlying36 rfl Tryz.szCmt) rfl ⟨⟨ad, cp, rfl, own_down (ownsRow_setCell_below (ownsRow_setCell_below (ownsRow_setCell_below (ownsRow_setCell_below HOa.out (a := ⟨w.heap.size, 0, none⟩) hw4 _) (a := ⟨w.heap.size, 1, none⟩) hw4 _) (a := ⟨w.heap.size, 2, none⟩) hw4 _) (a := ⟨w.heap.size, 3, none⟩) hw4 _) (Nat.le_of_lt hw4)⟩, gb_new (gb_new (gb_new (gb_new HGa.out (Nat.le_refl _) _) (Nat.le_refl _) _) (Nat.le_refl _) _) (Nat.le_refl _) _⟩
end Go.Proofs.YtelbmcgpelkakaaGreatDoor
namespace Go.Proofs.YtelbmcgpelkakaaGreatDoor
open Go.RowKit Go.Sort
set_option linter.unusedVariables false
/-- What a reading of a proof answers. -/
def CmE (vs : List It) (base : Nat) (w' : World) (e : Ending) : Prop := if typedB (msgS 2) vs = true then ∃ ad cp, e = .returned (.tuple #[.agg #[.int .u64 (itN vs 1), .int .u64 (itN vs 2), .string (itS vs 3), .slice ad (itN vs 4) cp], .bool true]) ∧ w'.ownsRow base 71 2 (.slice ad (itN vs 4) cp) (itN vs 4) (paC vs 5 (itN vs 4)) else e = .returned (.tuple #[.agg #[.int .u64 0, .int .u64 0, .string ⟨#[]⟩, .slice none 0 0], .bool false])
set_option maxRecDepth 100000 in
set_option maxHeartbeats 4000000 in
theorem toldCommit_any (R b o C : Nat) (vs : List It) (w : World) (h : RdR R b o C vs 0 w) (hw : EV w) : Calls Tryz.prog 36 #[.pointer (some ⟨R, 0, none⟩), .int .i64 2, .func (.func 37) #[.pointer (some ⟨R, 0, none⟩)] #[]] w fun e w' => CmE vs w.heap.size w' e ∧ w.grownBy w' (some R) := by
  obtain ⟨v, hv, hf⟩ := h.cell
  have hR : R < w.heap.size := blk_lt hv
  obtain ⟨Z, hZ⟩ : ∃ Z : Obj, .cells #[.int .u64 0, .int .u64 0, .string ⟨#[]⟩, .slice none 0 0] 36 = Z := ⟨_, rfl⟩
  have hb0 : Below w.heap.size w (w.alloc Z) := bel1 _ _
  have h0 : RdR R b o C vs 0 (w.alloc Z) := h.grown (gb_bel hb0)
  have HR : Hid (RdR R b o C vs 0 (w.alloc Z)) := h0
  have HG : Hid (w.grownBy (w.alloc Z) (some R)) := gb_any (gb_bel hb0)
  have HZ : Hid ((w.alloc Z).heap[w.heap.size]? = some Z) := heap_alloc_new w Z
  have HE : Hid (EV (w.alloc Z)) := hw.below hb0
  have hZs : w.heap.size < (w.alloc Z).heap.size := by simp
  obtain ⟨ad, hv1, hv2⟩ := hf
  subst hv1
  simp only [Nat.sub_zero] at hv hv2
  have HI : Hid (IsItems (w.alloc Z).heap.size (w.alloc Z) (.slice ad vs.length C) vs) := ⟨b, o, C, h0.its.up (by simp; omega), ad, by simp, by simpa using hv2⟩
  have cR : (w.alloc Z).cell? ⟨R, 0, none⟩ = some (.slice ad vs.length C) := by rw [hb0.cell (p := ⟨R, 0, none⟩) hR, cell_of_row w R 0 _ _ _ hv]; rfl
  subst hZ
  clear h hw hv hv2 hb0 h0
  go_enter Tryz.func36, Tryz.ntmps36
  go_wp2_with fail
  obtain ⟨W, hW⟩ : ∃ W, w.alloc (.cells #[.int .u64 0, .int .u64 0, .string ⟨#[]⟩, .slice none 0 0] 36) = W := ⟨_, rfl⟩
  rw [hW] at HR HG HZ HE HI hZs cR
  rw [hW]
  clear hW
  have HM : Hid (∀ w', Below W.heap.size W w' → Calls Tryz.prog 57 #[.int .i64 2] w' fun e w'' => ∃ v2, e = .returned v2 ∧ IsTyps w''.heap.size w'' v2 (msgS 2) ∧ Below W.heap.size W w'' ∧ w''.cell? ⟨R, 0, none⟩ = some (.slice ad vs.length C)) := fun w' hb => (implMsgSchema_any 2 w' (HE.out.below hb)).mono (by
    rintro e w'' ⟨⟨v2, rfl, _, hi⟩, hb'⟩
    have hB : Below W.heap.size W w'' := hb.trans (hb'.mono hb.size)
    exact ⟨v2, rfl, hi, hB, by rw [hB.cell (p := ⟨R, 0, none⟩) (by simp; omega)]; exact cR⟩)
  have HT : Hid (∀ (w2 w' : World) (v2 : Value), Below W.heap.size W w2 → IsTyps w2.heap.size w2 v2 (msgS 2) → Below w2.heap.size w2 w' → Calls Tryz.prog 56 #[v2, .slice ad vs.length C] w' fun e w'' => e = .returned (.bool (typedB (msgS 2) vs)) ∧ Below W.heap.size W w'') := fun w2 w' v2 hb hi hb' => by
    have hB : Below W.heap.size W w' := hb.trans (hb'.mono hb.size)
    refine (implTyped_any (msgS 2) vs v2 _ w' ((hi.below hb').up hb'.size) ((HI.out.below hB).upB hB.size) (HE.out.below hB).kin).mono ?_
    rintro e w'' ⟨rfl, hb2⟩
    exact ⟨rfl, hB.trans (hb2.mono hB.size)⟩
  cases hty : typedB (msgS 2) vs with
  | false =>
    have HRS : Hid (∀ base w', CmE vs base w' (.returned (.tuple #[.agg #[.int .u64 0, .int .u64 0, .string ⟨#[]⟩, .slice none 0 0], .bool false]))) := fun base w' => by unfold CmE; rw [hty]; rfl
    rw [hty] at HT
    clear hty
    go_region_with (first | (go_at_call 57; refine (HM.out _ (by repeat (first | exact Below.refl _ _ | (refine Below.drew ?_)))).mono ?_; rintro e w2 ⟨v2, rfl, hi2, hb2, cR2⟩) | (go_at_call 56; refine (HT.out _ _ _ hb2 hi2 (by repeat (first | exact Below.refl _ _ | (refine Below.drew ?_)))).mono ?_; rintro e w3 ⟨rfl, hb3⟩))
    all_goals
      have HZ3 : Hid (w3.heap[w.heap.size]? = some (.cells #[.int .u64 0, .int .u64 0, .string ⟨#[]⟩, .slice none 0 0] 36 (0, 0))) := (hb3.block w.heap.size hZs).trans HZ.out
      have HG3 : Hid (w.grownBy w3 (some R)) := gb_trR HG.out (gb_any (gb_bel hb3))
      have hz3 : w.heap.size < w3.heap.size := blk_lt HZ3.out
      have z0 : w3.cell? ⟨w.heap.size, 0, none⟩ = some (.int .u64 0) := by rw [cell_of_row _ w.heap.size 0 _ _ _ HZ3.out]; rfl
      have y0 : w3.frozen? ⟨w.heap.size, 0, none⟩ = false := by simp only [World.frozen?, HZ3.out]; rfl
      have z1 : w3.cell? ⟨w.heap.size, 1, none⟩ = some (.int .u64 0) := by rw [cell_of_row _ w.heap.size 1 _ _ _ HZ3.out]; rfl
      have y1 : w3.frozen? ⟨w.heap.size, 1, none⟩ = false := by simp only [World.frozen?, HZ3.out]; rfl
      have z2 : w3.cell? ⟨w.heap.size, 2, none⟩ = some (.string ⟨#[]⟩) := by rw [cell_of_row _ w.heap.size 2 _ _ _ HZ3.out]; rfl
      have y2 : w3.frozen? ⟨w.heap.size, 2, none⟩ = false := by simp only [World.frozen?, HZ3.out]; rfl
      have z3 : w3.cell? ⟨w.heap.size, 3, none⟩ = some (.slice none 0 0) := by rw [cell_of_row _ w.heap.size 3 _ _ _ HZ3.out]; rfl
      have y3 : w3.frozen? ⟨w.heap.size, 3, none⟩ = false := by simp only [World.frozen?, HZ3.out]; rfl
      clear hb2 hi2 cR2 hb3 cR
      go_wp2_with fail
      exact bodyPost_ret (v := .tuple #[.agg #[.int .u64 0, .int .u64 0, .string ⟨#[]⟩, .slice none 0 0], .bool false]) (results_cell_row2 Tryz.results36 _ _ w.heap.size _ _ _ _ rfl ((Below.heap_alloc _ _ _ (by simp only [World.setCell]; simp; exact hz3)).trans (set4 HZ3.out)) Tryz.underlying36 rfl Tryz.szCmt) rfl ⟨HRS.out _ _, gb_trR (gb_new (gb_new (gb_new (gb_new HG3.out (Nat.le_refl _) _) (Nat.le_refl _) _) (Nat.le_refl _) _) (Nat.le_refl _) _) (gb_any (gb_bel (bel1 _ _)))⟩
  | true =>
    obtain ⟨h5, hm16, hl⟩ := commit_len hty
    obtain ⟨m, hm⟩ : ∃ m, vs[4].n = m := ⟨_, rfl⟩
    rw [hm] at hm16 hl
    obtain ⟨x1, h1⟩ : ∃ x, vs[1].n = x := ⟨_, rfl⟩
    obtain ⟨x2, h2⟩ : ∃ x, vs[2].n = x := ⟨_, rfl⟩
    obtain ⟨x3, h3⟩ : ∃ x, vs[3].s = x := ⟨_, rfl⟩
    have HRS : Hid (∀ base w' ad cp, w'.ownsRow base 71 2 (.slice ad m cp) m (paC vs 5 m) → CmE vs base w' (.returned (.tuple #[.agg #[.int .u64 x1, .int .u64 x2, .string x3, .slice ad m cp], .bool true]))) := fun base w' ad cp ho => by
      unfold CmE
      rw [hty]
      have e4 : itN vs 4 = m := by rw [itN_at h5, hm]
      rw [e4]
      exact ⟨ad, cp, by rw [itN_at (by omega), itN_at (by omega), itS_at (by omega), h1, h2, h3], ho⟩
    have HHR : Hid (∀ w3, RdR R b o C vs 0 w3 → Calls Tryz.prog 37 #[.pointer (some ⟨R, 0, none⟩)] w3 fun e w' => (∃ ad cp, e = .returned (.agg #[.int .u64 x1, .int .u64 x2, .string x3, .slice ad m cp]) ∧ w'.ownsRow w3.heap.size 71 2 (.slice ad m cp) m (paC vs 5 m)) ∧ w3.grownBy w' (some R)) := fun w3 h => by have := commitR_any R b o C m vs w3 h h5 hm hm16 hl; rw [h1, h2, h3] at this; exact this
    rw [hty] at HT
    clear hty h1 h2 h3 hl hm hm16 h5
    go_region_with (first | (go_at_call 57; refine (HM.out _ (by repeat (first | exact Below.refl _ _ | (refine Below.drew ?_)))).mono ?_; rintro e w2 ⟨v2, rfl, hi2, hb2, cR2⟩) | (go_at_call 56; refine (HT.out _ _ _ hb2 hi2 (by repeat (first | exact Below.refl _ _ | (refine Below.drew ?_)))).mono ?_; rintro e w3 ⟨rfl, hb3⟩))
    all_goals
      have HR3 : Hid (RdR R b o C vs 0 w3) := HR.out.grown (gb_bel hb3)
      have HZ3 : Hid (w3.heap[w.heap.size]? = some (.cells #[.int .u64 0, .int .u64 0, .string ⟨#[]⟩, .slice none 0 0] 36 (0, 0))) := (hb3.block w.heap.size hZs).trans HZ.out
      have HG3 : Hid (w.grownBy w3 (some R)) := gb_trR HG.out (gb_any (gb_bel hb3))
      have hz3 : w.heap.size < w3.heap.size := blk_lt HZ3.out
      clear hb2 hi2 cR2 hb3 cR
      go_wp2_with fail
      refine (HHR.out _ HR3.out).mono ?_
      rintro e w4 ⟨⟨ad4, cp4, rfl, ho4⟩, hg4⟩
      have HO4 : Hid (w4.ownsRow w3.heap.size 71 2 (.slice ad4 m cp4) m (paC vs 5 m)) := ho4
      have HZ4 : Hid (w4.heap[w.heap.size]? = some (.cells #[.int .u64 0, .int .u64 0, .string ⟨#[]⟩, .slice none 0 0] 36 (0, 0))) := (hg4.block w.heap.size hz3 (by simp; omega)).trans HZ3.out
      have HG4 : Hid (w.grownBy w4 (some R)) := gb_trR HG3.out hg4
      have z0 : w4.cell? ⟨w.heap.size, 0, none⟩ = some (.int .u64 0) := by rw [cell_of_row _ w.heap.size 0 _ _ _ HZ4.out]; rfl
      have y0 : w4.frozen? ⟨w.heap.size, 0, none⟩ = false := by simp only [World.frozen?, HZ4.out]; rfl
      have z1 : w4.cell? ⟨w.heap.size, 1, none⟩ = some (.int .u64 0) := by rw [cell_of_row _ w.heap.size 1 _ _ _ HZ4.out]; rfl
      have y1 : w4.frozen? ⟨w.heap.size, 1, none⟩ = false := by simp only [World.frozen?, HZ4.out]; rfl
      have z2 : w4.cell? ⟨w.heap.size, 2, none⟩ = some (.string ⟨#[]⟩) := by rw [cell_of_row _ w.heap.size 2 _ _ _ HZ4.out]; rfl
      have y2 : w4.frozen? ⟨w.heap.size, 2, none⟩ = false := by simp only [World.frozen?, HZ4.out]; rfl
      have z3 : w4.cell? ⟨w.heap.size, 3, none⟩ = some (.slice none 0 0) := by rw [cell_of_row _ w.heap.size 3 _ _ _ HZ4.out]; rfl
      have y3 : w4.frozen? ⟨w.heap.size, 3, none⟩ = false := by simp only [World.frozen?, HZ4.out]; rfl
      clear hg4 ho4
      go_wp2_with fail
      exact bodyPost_ret (v := .tuple #[.agg #[.int .u64 x1, .int .u64 x2, .string x3, .slice ad4 m cp4], .bool true]) (results_cell_row2 Tryz.results36 _ _ w.heap.size _ _ _ _ rfl (set4 HZ4.out) Tryz.underlying36 rfl Tryz.szCmt) rfl ⟨HRS.out _ _ _ _ (own_down (ownsRow_setCell_below (ownsRow_setCell_below (ownsRow_setCell_below (ownsRow_setCell_below HO4.out (a := ⟨w.heap.size, 0, none⟩) hz3 _) (a := ⟨w.heap.size, 1, none⟩) hz3 _) (a := ⟨w.heap.size, 2, none⟩) hz3 _) (a := ⟨w.heap.size, 3, none⟩) hz3 _) (Nat.le_of_lt hz3)), gb_new (gb_new (gb_new (gb_new HG4.out (Nat.le_refl _) _) (Nat.le_refl _) _) (Nat.le_refl _) _) (Nat.le_refl _) _⟩
end Go.Proofs.YtelbmcgpelkakaaGreatDoor
namespace Go.Proofs.YtelbmcgpelkakaaGreatDoor
open Go.RowKit Go.Sort
set_option linter.unusedVariables false
theorem CmE.set4 {vs : List It} {B : Nat} {w' : World} {e : Ending} (h : CmE vs (B + 2) w' e) (a b c d : Value) : CmE vs B ((((w'.setCell ⟨B, 0, none⟩ a).setCell ⟨B, 1, none⟩ b).setCell ⟨B, 2, none⟩ c).setCell ⟨B, 3, none⟩ d) e := by
  unfold CmE at h ⊢
  split
  · rename_i ht
    rw [if_pos ht] at h
    obtain ⟨ad, cp, h1, h2⟩ := h
    have hlt : B < B + 2 := by omega
    exact ⟨ad, cp, h1, own_down (ownsRow_setCell_below (ownsRow_setCell_below (ownsRow_setCell_below (ownsRow_setCell_below h2 (a := ⟨B, 0, none⟩) hlt _) (a := ⟨B, 1, none⟩) hlt _) (a := ⟨B, 2, none⟩) hlt _) (a := ⟨B, 3, none⟩) hlt _) (by omega)⟩
  · rename_i ht
    rw [if_neg ht] at h
    exact h
set_option maxRecDepth 100000 in
set_option maxHeartbeats 2000000 in
theorem implCommitOf_any (vs : List It) (v : Value) (w : World) (hv : IsItems w.heap.size w v vs) (hw : EV w) : Calls Tryz.prog 14 #[v] w fun e w' => CmE vs w.heap.size w' e ∧ Below w.heap.size w w' := by
  obtain ⟨b, o, C, hi, ad, rfl, had⟩ := hv
  simp only [Nat.sub_zero] at had ⊢
  obtain ⟨Z, hZ⟩ : ∃ Z : Obj, .cells #[.int .u64 0, .int .u64 0, .string ⟨#[]⟩, .slice none 0 0] 36 = Z := ⟨_, rfl⟩
  have hb0 : Below w.heap.size w ((w.alloc Z).alloc (.cells #[.slice ad vs.length C] 65)) := ((Below.refl _ _).alloc (Nat.le_refl _) _).alloc (by simp) _
  have HB0 : Hid (Below w.heap.size w ((w.alloc Z).alloc (.cells #[.slice ad vs.length C] 65))) := hb0
  have HZ : Hid (((w.alloc Z).alloc (.cells #[.slice ad vs.length C] 65)).heap[w.heap.size]? = some Z) := by show _ = _; rw [Below.heap_alloc _ _ _ (by simp)]; exact heap_alloc_new w Z
  have HR : Hid (RdR (w.heap.size + 1) b o C vs 0 ((w.alloc Z).alloc (.cells #[.slice ad vs.length C] 65))) := ⟨⟨.slice ad vs.length C, heap_alloc2_new w _ _, ad, by simp, by simpa using had⟩, (hi.below hb0).up (by omega)⟩
  have HE : Hid (EV ((w.alloc Z).alloc (.cells #[.slice ad vs.length C] 65))) := hw.below hb0
  subst hZ
  have hsz : ((w.alloc (.cells #[.int .u64 0, .int .u64 0, .string ⟨#[]⟩, .slice none 0 0] 36)).alloc (.cells #[.slice ad vs.length C] 65)).heap.size = w.heap.size + 2 := by simp
  have HSZ : Hid (((w.alloc (.cells #[.int .u64 0, .int .u64 0, .string ⟨#[]⟩, .slice none 0 0] 36)).alloc (.cells #[.slice ad vs.length C] 65)).heap.size = w.heap.size + 2) := hsz
  have HTD : Hid (Calls Tryz.prog 36 #[.pointer (some ⟨w.heap.size + 1, 0, none⟩), .int .i64 2, .func (.func 37) #[.pointer (some ⟨w.heap.size + 1, 0, none⟩)] #[]] ((w.alloc (.cells #[.int .u64 0, .int .u64 0, .string ⟨#[]⟩, .slice none 0 0] 36)).alloc (.cells #[.slice ad vs.length C] 65)) fun e w' => (∃ (a c : Nat) (d : ByteArray) (pd : Option Addr) (pl pc : Nat) (q : Bool), e = .returned (.tuple #[.agg #[.int .u64 a, .int .u64 c, .string d, .slice pd pl pc], .bool q]) ∧ CmE vs (w.heap.size + 2) w' e) ∧ ((w.alloc (.cells #[.int .u64 0, .int .u64 0, .string ⟨#[]⟩, .slice none 0 0] 36)).alloc (.cells #[.slice ad vs.length C] 65)).grownBy w' (some (w.heap.size + 1))) := by
    refine (toldCommit_any _ b o C vs _ HR.out HE.out).mono ?_
    rintro e w' ⟨he, hg⟩
    rw [HSZ.out] at he
    refine ⟨?_, hg⟩
    have hp := he
    unfold CmE at he
    split at he
    · obtain ⟨ad', cp', rfl, _⟩ := he
      exact ⟨_, _, _, _, _, _, _, rfl, hp⟩
    · subst he
      exact ⟨_, _, _, _, _, _, _, rfl, hp⟩
  clear hb0 hw hi had hsz
  go_enter Tryz.func14, Tryz.ntmps14
  go_wp2_with fail
  refine Calls.mono HTD.out ?_
  rintro e w3 ⟨⟨a, c, d, pd, pl, pc, q, rfl, hq⟩, hg⟩
  have HQ : Hid (CmE vs (w.heap.size + 2) w3 (.returned (.tuple #[.agg #[.int .u64 a, .int .u64 c, .string d, .slice pd pl pc], .bool q]))) := hq
  have HZ3 : Hid (w3.heap[w.heap.size]? = some (.cells #[.int .u64 0, .int .u64 0, .string ⟨#[]⟩, .slice none 0 0] 36 (0, 0))) := (hg.block w.heap.size (by rw [HSZ.out]; omega) (by simp)).trans HZ.out
  have HB3 : Hid (Below w.heap.size w w3) := HB0.out.trans (bel_gb hg (by omega) (by rw [HSZ.out]; omega))
  have z0 : w3.cell? ⟨w.heap.size, 0, none⟩ = some (.int .u64 0) := by rw [cell_of_row _ w.heap.size 0 _ _ _ HZ3.out]; rfl
  have y0 : w3.frozen? ⟨w.heap.size, 0, none⟩ = false := by simp only [World.frozen?, HZ3.out]; rfl
  have z1 : w3.cell? ⟨w.heap.size, 1, none⟩ = some (.int .u64 0) := by rw [cell_of_row _ w.heap.size 1 _ _ _ HZ3.out]; rfl
  have y1 : w3.frozen? ⟨w.heap.size, 1, none⟩ = false := by simp only [World.frozen?, HZ3.out]; rfl
  have z2 : w3.cell? ⟨w.heap.size, 2, none⟩ = some (.string ⟨#[]⟩) := by rw [cell_of_row _ w.heap.size 2 _ _ _ HZ3.out]; rfl
  have y2 : w3.frozen? ⟨w.heap.size, 2, none⟩ = false := by simp only [World.frozen?, HZ3.out]; rfl
  have z3 : w3.cell? ⟨w.heap.size, 3, none⟩ = some (.slice none 0 0) := by rw [cell_of_row _ w.heap.size 3 _ _ _ HZ3.out]; rfl
  have y3 : w3.frozen? ⟨w.heap.size, 3, none⟩ = false := by simp only [World.frozen?, HZ3.out]; rfl
  clear hg hq
  go_wp2_with fail
  exact bodyPost_ret (v := .tuple #[.agg #[.int .u64 a, .int .u64 c, .string d, .slice pd pl pc], .bool q]) (results_cell_row2 Tryz.results14 _ _ w.heap.size _ _ _ _ rfl (set4 HZ3.out) Tryz.underlying36 rfl Tryz.szCmt) rfl ⟨(HQ.out.set4 _ _ _ _), (((HB3.out.setCell (p := ⟨w.heap.size, 0, none⟩) (Nat.le_refl _) _).setCell (p := ⟨w.heap.size, 1, none⟩) (Nat.le_refl _) _).setCell (p := ⟨w.heap.size, 2, none⟩) (Nat.le_refl _) _).setCell (p := ⟨w.heap.size, 3, none⟩) (Nat.le_refl _) _⟩
end Go.Proofs.YtelbmcgpelkakaaGreatDoor
namespace Go.Proofs.YtelbmcgpelkakaaGreatDoor
open Go.RowKit Go.Sort
set_option linter.unusedVariables false
set_option maxRecDepth 100000 in
set_option maxHeartbeats 4000000 in
theorem specCommitOf_any (vs : List It) (v : Value) (w : World) (hv : IsItems w.heap.size w v vs) : Calls Tryz.prog 13 #[v] w fun e w' => CmE vs w.heap.size w' e ∧ Below w.heap.size w w' := by
  have HV : Hid (IsItems w.heap.size w v vs) := hv
  obtain ⟨b, o, C, hi, ad, rfl, had⟩ := hv
  simp only [Nat.sub_zero] at had HV ⊢
  obtain ⟨Z, hZ⟩ : ∃ Z : Obj, .cells #[.int .u64 0, .int .u64 0, .string ⟨#[]⟩, .slice none 0 0] 36 = Z := ⟨_, rfl⟩
  have HB0 : Hid (Below w.heap.size w (w.alloc Z)) := bel1 _ _
  have HZ : Hid ((w.alloc Z).heap[w.heap.size]? = some Z) := heap_alloc_new w Z
  have hZs : w.heap.size < (w.alloc Z).heap.size := by simp
  subst hZ
  have hroom := hi.room
  have hmost := hi.most
  unfold maxLen at hmost
  have HIA : Hid (ItemsAt w.heap.size w b o C vs) := hi
  have HAD : Hid (vs.length ≤ 0 ∨ ad = some ⟨b, o + 0 * 3, none⟩) := had
  clear hi had
  go_enter Tryz.func13, Tryz.ntmps13
  go_wp2_with fail
  refine (specMsgSchema_any 2 _).mono ?_
  rintro e w2 ⟨⟨v2, rfl, _, hi2⟩, hb2⟩
  have HB2 : Hid (Below w.heap.size w w2) := HB0.out.trans (hb2.mono (by omega))
  have HI2 : Hid (IsTyps w2.heap.size w2 v2 (msgS 2)) := hi2
  have HZ2 : Hid (w2.heap[w.heap.size]? = some (.cells #[.int .u64 0, .int .u64 0, .string ⟨#[]⟩, .slice none 0 0] 36 (0, 0))) := (hb2.block w.heap.size hZs).trans HZ.out
  clear hb2 hi2
  go_wp2_with fail
  refine (specTyped_any (msgS 2) vs v2 _ w2 HI2.out ((HV.out.below HB2.out).upB HB2.out.size)).mono ?_
  rintro e w3 ⟨rfl, hb3⟩
  have HB3 : Hid (Below w.heap.size w w3) := HB2.out.trans (hb3.mono HB2.out.size)
  have HZ3 : Hid (w3.heap[w.heap.size]? = some (.cells #[.int .u64 0, .int .u64 0, .string ⟨#[]⟩, .slice none 0 0] 36 (0, 0))) := (hb3.block w.heap.size (blk_lt HZ2.out)).trans HZ2.out
  have hz3 : w.heap.size < w3.heap.size := blk_lt HZ3.out
  have z0 : w3.cell? ⟨w.heap.size, 0, none⟩ = some (.int .u64 0) := by rw [cell_of_row _ w.heap.size 0 _ _ _ HZ3.out]; rfl
  have y0 : w3.frozen? ⟨w.heap.size, 0, none⟩ = false := by simp only [World.frozen?, HZ3.out]; rfl
  have z1 : w3.cell? ⟨w.heap.size, 1, none⟩ = some (.int .u64 0) := by rw [cell_of_row _ w.heap.size 1 _ _ _ HZ3.out]; rfl
  have y1 : w3.frozen? ⟨w.heap.size, 1, none⟩ = false := by simp only [World.frozen?, HZ3.out]; rfl
  have z2 : w3.cell? ⟨w.heap.size, 2, none⟩ = some (.string ⟨#[]⟩) := by rw [cell_of_row _ w.heap.size 2 _ _ _ HZ3.out]; rfl
  have y2 : w3.frozen? ⟨w.heap.size, 2, none⟩ = false := by simp only [World.frozen?, HZ3.out]; rfl
  have z3 : w3.cell? ⟨w.heap.size, 3, none⟩ = some (.slice none 0 0) := by rw [cell_of_row _ w.heap.size 3 _ _ _ HZ3.out]; rfl
  have y3 : w3.frozen? ⟨w.heap.size, 3, none⟩ = false := by simp only [World.frozen?, HZ3.out]; rfl
  clear hb3
  cases hty : typedB (msgS 2) vs with
  | false =>
    have HRS : Hid (∀ base w', CmE vs base w' (.returned (.tuple #[.agg #[.int .u64 0, .int .u64 0, .string ⟨#[]⟩, .slice none 0 0], .bool false]))) := fun base w' => by unfold CmE; rw [hty]; rfl
    clear hty
    go_wp2_with fail
    exact bodyPost_ret (v := .tuple #[.agg #[.int .u64 0, .int .u64 0, .string ⟨#[]⟩, .slice none 0 0], .bool false]) (results_cell_row2 Tryz.results13 _ _ w.heap.size _ _ _ _ rfl (set4 HZ3.out) Tryz.underlying36 rfl Tryz.szCmt) rfl ⟨HRS.out _ _, (((HB3.out.setCell (p := ⟨w.heap.size, 0, none⟩) (Nat.le_refl _) _).setCell (p := ⟨w.heap.size, 1, none⟩) (Nat.le_refl _) _).setCell (p := ⟨w.heap.size, 2, none⟩) (Nat.le_refl _) _).setCell (p := ⟨w.heap.size, 3, none⟩) (Nat.le_refl _) _⟩
  | true =>
    obtain ⟨h5, hm16, hl⟩ := commit_len hty
    obtain ⟨m, hm⟩ : ∃ m, vs[4].n = m := ⟨_, rfl⟩
    rw [hm] at hm16 hl
    obtain ⟨i0, hi, hz0, hz1, hz2⟩ := info_parts Tryz.infoSig
    have had := HAD.out.resolve_left (by omega)
    simp only [Nat.zero_mul, Nat.add_zero] at had
    subst had
    have hi3 := HIA.out.below HB3.out
    have hbw0 : b < w.heap.size := hi3.low.resolve_left (by omega)
    have hbw : b < w3.heap.size := by omega
    have p1 := (hi3.cells 1 (by omega)).2.1
    have p2 := (hi3.cells 2 (by omega)).2.1
    have p3 := (hi3.cells 3 (by omega)).2.2
    obtain ⟨x1, h1⟩ : ∃ x, vs[1].n = x := ⟨_, rfl⟩
    obtain ⟨x2, h2⟩ : ∃ x, vs[2].n = x := ⟨_, rfl⟩
    obtain ⟨x3, h3⟩ : ∃ x, vs[3].s = x := ⟨_, rfl⟩
    have HRS : Hid (∀ base w' ad cp, w'.ownsRow base 71 2 (.slice ad m cp) m (paC vs 5 m) → CmE vs base w' (.returned (.tuple #[.agg #[.int .u64 x1, .int .u64 x2, .string x3, .slice ad m cp], .bool true]))) := fun base w' ad cp ho => by
      unfold CmE
      rw [hty]
      have e4 : itN vs 4 = m := by rw [itN_at h5, hm]
      rw [e4]
      exact ⟨ad, cp, by rw [itN_at (by omega), itN_at (by omega), itS_at (by omega), h1, h2, h3], ho⟩
    rw [h1] at p1
    rw [h2] at p2
    rw [h3] at p3
    have hl6 : 5 ≤ vs.length := by omega
    have HL : Hid (vs.length = 5 + 3 * m) := hl
    clear hty h1 h2 h3 hl hi3 hm h5
    go_wp2_with fail
    go_region
    have HPW : Hid (((w3.alloc (.cells #[.int .u64 x1, .int .u64 x2, .string x3, .slice none 0 0] 36)).drew).heap[w3.heap.size]? = some (.cells #[.int .u64 x1, .int .u64 x2, .string x3, .slice none 0 0] 36 (0, 0))) := heap_alloc_new w3 _
    have HZW : Hid (((w3.alloc (.cells #[.int .u64 x1, .int .u64 x2, .string x3, .slice none 0 0] 36)).drew).heap[w.heap.size]? = some (.cells #[.int .u64 0, .int .u64 0, .string ⟨#[]⟩, .slice none 0 0] 36 (0, 0))) := (Below.heap_alloc w3 _ _ hz3).trans HZ3.out
    have HBW : Hid (Below w.heap.size w ((w3.alloc (.cells #[.int .u64 x1, .int .u64 x2, .string x3, .slice none 0 0] 36)).drew)) := (HB3.out.alloc (by omega) _).drew
    obtain ⟨W, hW⟩ : ∃ W, (w3.alloc (.cells #[.int .u64 x1, .int .u64 x2, .string x3, .slice none 0 0] 36)).drew = W := ⟨_, rfl⟩
    rw [hW] at HPW HZW HBW
    rw [hW]
    obtain ⟨P, hP⟩ : ∃ P, w3.heap.size = P := ⟨_, rfl⟩
    rw [hP] at HPW hz3 hbw
    rw [hP]
    clear hW hP p1 p2 p3 z0 z1 z2 z3 y0 y1 y2 y3
    go_wp2_with fail
    go_loopg [5] m (fun gk i wr => ∃ (j : Nat) (v : Value), j + gk = m ∧ i = .int .i64 ((5 + 3 * j : Nat) : Int) ∧ wr.heap[P]? = some (.cells #[.int .u64 x1, .int .u64 x2, .string x3, v] 36 (0, 0)) ∧ wr.heap[w.heap.size]? = some (.cells #[.int .u64 0, .int .u64 0, .string ⟨#[]⟩, .slice none 0 0] 36 (0, 0)) ∧ wr.ownsRow (P + 1) 71 2 v j (paC vs 5 j) ∧ Below w.heap.size w wr)
    case atStart => exact ⟨0, _, by omega, rfl, HPW.out, HZW.out, World.ownsRow_nil _ _ _ _, HBW.out⟩
    case round =>
      obtain ⟨j, v, hj', rfl, hP, hZ, ho, hb⟩ := hrel
      obtain ⟨ad, cp, rfl⟩ : ∃ ad cp, v = .slice ad j cp := by
        rcases ho.2 with ⟨e1, e2⟩ | ⟨g, cap, cu, e1, _⟩
        · exact ⟨none, 0, by rw [e1, e2]⟩
        · exact ⟨_, cap, e1⟩
      have HJ : Hid (j + gk = m) := hj'
      have HP : Hid (wr.heap[P]? = some (.cells #[.int .u64 x1, .int .u64 x2, .string x3, .slice ad j cp] 36 (0, 0))) := hP
      have HZr : Hid (wr.heap[w.heap.size]? = some (.cells #[.int .u64 0, .int .u64 0, .string ⟨#[]⟩, .slice none 0 0] 36 (0, 0))) := hZ
      have HO : Hid (wr.ownsRow (P + 1) 71 2 (.slice ad j cp) j (paC vs 5 j)) := ho
      have HB : Hid (Below w.heap.size w wr) := hb
      have hPr : P < wr.heap.size := blk_lt hP
      have cP : wr.cell? ⟨P, 3, none⟩ = some (.slice ad j cp) := by rw [cell_of_row wr P 3 _ _ _ hP]; rfl
      have hj : j ≤ m := by omega
      have hbr : b < wr.heap.size := by omega
      clear hj' hP hZ ho
      by_cases hlt : j < m
      · have hlen : 5 + 3 * j + 2 < vs.length := by have := HL.out; omega
        have cx1 := ((HIA.out.below hb).cells (5 + 3 * j + 1) (by omega)).2.1
        have cx2 := ((HIA.out.below hb).cells (5 + 3 * j + 2) (by omega)).2.2
        obtain ⟨y1, hy1⟩ : ∃ x, (vs[5 + 3 * j + 1]'(by omega)).n = x := ⟨_, rfl⟩
        obtain ⟨y2, hy2⟩ : ∃ x, (vs[5 + 3 * j + 2]'(by omega)).s = x := ⟨_, rfl⟩
        rw [hy1] at cx1
        rw [hy2] at cx2
        obtain ⟨K, hK⟩ : ∃ K : Nat, 5 + 3 * j = K := ⟨_, rfl⟩
        have HKE : Hid (5 + 3 * j = K) := hK
        have HXS : Hid (paC vs 5 (j + 1) = paC vs 5 j ++ [.int .u64 y1, .string y2]) := by show _ = _; rw [paC_succ, itN_at (by omega), itS_at (by omega), hy1, hy2]
        rw [hK] at cx1 cx2
        rw [hK]
        obtain ⟨K1, hK1⟩ : ∃ K1 : Nat, K + 1 = K1 := ⟨_, rfl⟩
        obtain ⟨K2, hK2⟩ : ∃ K2 : Nat, K + 2 = K2 := ⟨_, rfl⟩
        rw [hK1] at cx1
        rw [hK2] at cx2
        have e1 : (K : Int) + 1 = (K1 : Nat) := by omega
        have e2 : (K : Int) + 2 = (K2 : Nat) := by omega
        have e1w : IntKind.i64.wrap (K1 : Int) = (K1 : Int) := by rw [IntKind.wrap_i64]; omega
        have e2w : IntKind.i64.wrap (K2 : Int) = (K2 : Int) := by rw [IntKind.wrap_i64]; omega
        have hKl : K < vs.length := by omega
        have hKl1 : K1 < vs.length := by omega
        have hKl2 : K2 < vs.length := by omega
        clear hy1 hy2 hb hK hlen hK1 hK2
        go_wp2_with fail
        go_region_law (refine step_append_lies _ rfl (.tmp 31) (.tmp 45) 34 rfl (P + 1) 71 i0 (.agg #[.int .u64 0, .string ByteArray.empty]) 2 24 Tryz.underlying34 hi hz0 hz1 hz2 rfl (by decide) (.slice ad j cp) j (paC vs 5 j) (by simp [Act.eval]) ((show wr.drew.ownsRow (P + 1) 71 2 (.slice ad j cp) j (paC vs 5 j) from HO.out).alloc _) ⟨wr.heap.size, 0, none⟩ 1 1 [.int .u64 y1, .string y2] (by simp [Act.eval]) rfl (fun i u hu => by match i, hu with | 0, hu => (simp at hu; subst hu; simp [Addr.add]) | 1, hu => (simp at hu; subst hu; simp [Addr.add])) (fun u hu => by simp at hu; rcases hu with rfl | rfl <;> rfl) (by omega) (by unfold maxLen; omega) (by omega) (by simp; omega) (wr.heap.size + 1) (by simp) ?_; intro g cap2 w4 hown' hgrow hat hlt'; have cP4 : w4.cell? ⟨P, 3, none⟩ = some (.slice ad j cp) := (by rw [World.cell?_of_block (w := wr.alloc (.cells #[.int .u64 y1, .string y2] 71)) (a := ⟨P, 3, none⟩) (hgrow.block P (by simp; omega) (fun e => by have := (HO.out.lt P e.symm).1; omega)), (bel1 wr _).cell (p := ⟨P, 3, none⟩) hPr]; exact cP); have fP4 : w4.frozen? ⟨P, 3, none⟩ = false := (by have h0 := (hgrow.block P (by simp; omega) (fun e => by have := (HO.out.lt P e.symm).1; omega)).trans ((Below.heap_alloc wr _ _ hPr).trans HP.out); simp [World.frozen?, h0]))
        all_goals
          have hnP : some P ≠ (Value.slice ad j cp).ownBlock := fun e => by have := (HO.out.lt P e.symm).1; omega
          have hnZ : some w.heap.size ≠ (Value.slice ad j cp).ownBlock := fun e => by have := (HO.out.lt w.heap.size e.symm).1; omega
          have hP4 : w4.heap[P]? = some (.cells #[.int .u64 x1, .int .u64 x2, .string x3, .slice ad j cp] 36 (0, 0)) := (hgrow.block P (by simp; omega) hnP).trans ((Below.heap_alloc wr _ _ hPr).trans HP.out)
          have HP5 : Hid ((w4.setCell ⟨P, 3, none⟩ (.slice (some ⟨g, 0, none⟩) (j + 1) cap2)).heap[P]? = some (.cells #[.int .u64 x1, .int .u64 x2, .string x3, (.slice (some ⟨g, 0, none⟩) (j + 1) cap2)] 36 (0, 0))) := by rw [set_block (i := 3) hP4]; rfl
          have HZ5 : Hid ((w4.setCell ⟨P, 3, none⟩ (.slice (some ⟨g, 0, none⟩) (j + 1) cap2)).heap[w.heap.size]? = some (.cells #[.int .u64 0, .int .u64 0, .string ⟨#[]⟩, .slice none 0 0] 36 (0, 0))) := by rw [Below.heap_setCell _ _ _ _ (by simp; omega)]; exact (hgrow.block w.heap.size (by simp; omega) hnZ).trans ((Below.heap_alloc wr _ _ (by omega)).trans HZr.out)
          have HO5 : Hid ((w4.setCell ⟨P, 3, none⟩ (.slice (some ⟨g, 0, none⟩) (j + 1) cap2)).ownsRow (P + 1) 71 2 (.slice (some ⟨g, 0, none⟩) (j + 1) cap2) (j + 1) (paC vs 5 (j + 1))) := ownsRow_setCell_below (by rw [HXS.out]; exact hown') (a := ⟨P, 3, none⟩) (by simp) _
          have HB5 : Hid (Below w.heap.size w (w4.setCell ⟨P, 3, none⟩ (.slice (some ⟨g, 0, none⟩) (j + 1) cap2))) := (((HB.out.drew).alloc (by show w.heap.size ≤ wr.heap.size; omega) _).grown hgrow (by simp; omega) (fun q hq => by have := (HO.out.lt q hq).1; omega)).setCell (p := ⟨P, 3, none⟩) (by simp; omega) _
          clear hown' hgrow hat hlt' hnP hnZ hP4 cP4 fP4 cx1 cx2 cP
          go_wp2_with fail
          go_roundg (gk - 1)
          case rel => exact ⟨j + 1, _, by have := HJ.out; omega, by have := HKE.out; first | go_num | (congr 1; omega), HP5.out, HZ5.out, HO5.out, HB5.out⟩
          case measure => have := HJ.out; omega
      · have ej : j = m := by omega
        have hKl : 5 + 3 * m = vs.length := by have := HL.out; omega
        have z0 : wr.cell? ⟨w.heap.size, 0, none⟩ = some (.int .u64 0) := by rw [cell_of_row _ w.heap.size 0 _ _ _ HZr.out]; rfl
        have y0 : wr.frozen? ⟨w.heap.size, 0, none⟩ = false := by simp only [World.frozen?, HZr.out]; rfl
        have z1 : wr.cell? ⟨w.heap.size, 1, none⟩ = some (.int .u64 0) := by rw [cell_of_row _ w.heap.size 1 _ _ _ HZr.out]; rfl
        have y1 : wr.frozen? ⟨w.heap.size, 1, none⟩ = false := by simp only [World.frozen?, HZr.out]; rfl
        have z2 : wr.cell? ⟨w.heap.size, 2, none⟩ = some (.string ⟨#[]⟩) := by rw [cell_of_row _ w.heap.size 2 _ _ _ HZr.out]; rfl
        have y2 : wr.frozen? ⟨w.heap.size, 2, none⟩ = false := by simp only [World.frozen?, HZr.out]; rfl
        have z3 : wr.cell? ⟨w.heap.size, 3, none⟩ = some (.slice none 0 0) := by rw [cell_of_row _ w.heap.size 3 _ _ _ HZr.out]; rfl
        have y3 : wr.frozen? ⟨w.heap.size, 3, none⟩ = false := by simp only [World.frozen?, HZr.out]; rfl
        clear hlt cP hb
        subst ej
        rw [hKl]
        clear hKl
        go_wp2_with (refine wpList_load_row rfl 36 _ rfl P rfl _ _ _ _ HP.out Tryz.underlying36 rfl Tryz.szCmt ?_)
        have hzP : w.heap.size < P + 1 := by omega
        exact bodyPost_ret (v := .tuple #[.agg #[.int .u64 x1, .int .u64 x2, .string x3, .slice ad j cp], .bool true]) (results_cell_row2 Tryz.results13 _ _ w.heap.size _ _ _ _ rfl (set4 HZr.out) Tryz.underlying36 rfl Tryz.szCmt) rfl ⟨HRS.out _ _ _ _ (own_down (ownsRow_setCell_below (ownsRow_setCell_below (ownsRow_setCell_below (ownsRow_setCell_below HO.out (a := ⟨w.heap.size, 0, none⟩) hzP _) (a := ⟨w.heap.size, 1, none⟩) hzP _) (a := ⟨w.heap.size, 2, none⟩) hzP _) (a := ⟨w.heap.size, 3, none⟩) hzP _) (by omega)), (((HB.out.setCell (p := ⟨w.heap.size, 0, none⟩) (Nat.le_refl _) _).setCell (p := ⟨w.heap.size, 1, none⟩) (Nat.le_refl _) _).setCell (p := ⟨w.heap.size, 2, none⟩) (Nat.le_refl _) _).setCell (p := ⟨w.heap.size, 3, none⟩) (Nat.le_refl _) _⟩
end Go.Proofs.YtelbmcgpelkakaaGreatDoor
namespace Go.Proofs.YtelbmcgpelkakaaGreatDoor
open Go.RowKit Go.Sort
set_option linter.unusedVariables false
theorem paC_at (vs : List It) (q : Nat) : ∀ (m j : Nat), j < m → (paC vs q m)[j * 2]? = some (.int .u64 (itN vs (q + 3 * j + 1))) ∧ (paC vs q m)[j * 2 + 1]? = some (.string (itS vs (q + 3 * j + 2)))
  | 0, j, h => by omega
  | m + 1, j, h => by
    rw [paC_succ]
    by_cases e : j = m
    · subst e
      rw [List.getElem?_append_right (by rw [paC_len]; omega), List.getElem?_append_right (by rw [paC_len]; omega), paC_len]
      exact ⟨by simp, by simp⟩
    · rw [List.getElem?_append_left (by rw [paC_len]; omega), List.getElem?_append_left (by rw [paC_len]; omega)]
      exact paC_at vs q m j (by omega)
/-- A row of signatures of which the first j bear their marks. -/
def MkP (k n : Nat) (w : World) (g j : Nat) : Prop := ∃ cs : Array Value, w.heap[g]? = some (.cells cs 71 (0, 0)) ∧ n * 2 ≤ cs.size ∧
  (∀ i, i < j → cs[i * 2]? = some (.int .u64 ((k + 2 * i : Nat) : Int)) ∧ cs[i * 2 + 1]? = some (.string (mkT (k + 2 * i + 1)))) ∧
  ∀ i, i < n → (∃ z, cs[i * 2]? = some (.int .u64 z)) ∧ ∃ z, cs[i * 2 + 1]? = some (.string z)
theorem MkP.cell {k n g j : Nat} {w : World} (h : MkP k n w g j) {i : Nat} (hi : i < n) : ((∃ z, w.cell? ⟨g, i * 2, none⟩ = some (.int .u64 z)) ∧ ∃ z, w.cell? ⟨g, i * 2 + 1, none⟩ = some (.string z)) ∧ ∀ m, w.frozen? ⟨g, m, none⟩ = false := by
  obtain ⟨cs, h1, h2, h3, h4⟩ := h
  obtain ⟨a, b⟩ := h4 i hi
  refine ⟨⟨?_, ?_⟩, fun m => by simp [World.frozen?, h1]⟩
  · obtain ⟨z, hz⟩ := a; exact ⟨z, by rw [cell_of_row w g _ cs _ _ h1]; exact hz⟩
  · obtain ⟨z, hz⟩ := b; exact ⟨z, by rw [cell_of_row w g _ cs _ _ h1]; exact hz⟩
theorem MkP.keep {k n g j : Nat} {w w' : World} (h : MkP k n w g j) (hb : w'.heap[g]? = w.heap[g]?) : MkP k n w' g j := by
  obtain ⟨cs, h1, h2⟩ := h
  exact ⟨cs, hb.trans h1, h2⟩
theorem MkP.set0 {k n g j : Nat} {w : World} (h : MkP k n w g j) (hj : j < n) (x : Value) (i : Nat) (hi : i = 0 ∧ (∃ z, x = .int .u64 z) ∨ i = 1 ∧ (∃ z, x = .string z)) : MkP k n (w.setCell ⟨g, j * 2 + i, none⟩ x) g j ∧ (w.setCell ⟨g, j * 2 + i, none⟩ x).cell? ⟨g, j * 2 + i, none⟩ = some x := by
  obtain ⟨cs, h1, h2, h3, h4⟩ := h
  have e1 := set_block (i := j * 2 + i) h1 x
  have hlt : j * 2 + i < cs.size := by omega
  refine ⟨⟨_, e1, by simpa using h2, fun q hq => ?_, fun q hq => ?_⟩, ?_⟩
  · rw [Array.getElem?_setIfInBounds_ne (by omega), Array.getElem?_setIfInBounds_ne (by omega)]
    exact h3 q hq
  · obtain ⟨a, b⟩ := h4 q hq
    by_cases e : q = j
    · subst e
      rcases hi with ⟨rfl, z, rfl⟩ | ⟨rfl, z, rfl⟩
      · exact ⟨⟨z, Array.getElem?_setIfInBounds_self_of_lt (by omega)⟩, by rw [Array.getElem?_setIfInBounds_ne (by omega)]; exact b⟩
      · exact ⟨by rw [Array.getElem?_setIfInBounds_ne (by omega)]; exact a, ⟨z, Array.getElem?_setIfInBounds_self_of_lt (by omega)⟩⟩
    · rw [Array.getElem?_setIfInBounds_ne (by omega), Array.getElem?_setIfInBounds_ne (by omega)]
      exact ⟨a, b⟩
  · rw [cell_of_row _ g _ _ _ _ e1, Array.getElem?_setIfInBounds_self_of_lt (by omega)]
theorem MkP.more {k n g j : Nat} {w : World} (h : MkP k n w g j) (c0 : w.cell? ⟨g, j * 2, none⟩ = some (.int .u64 ((k + 2 * j : Nat) : Int))) (c1 : w.cell? ⟨g, j * 2 + 1, none⟩ = some (.string (mkT (k + 2 * j + 1)))) : MkP k n w g (j + 1) := by
  obtain ⟨cs, h1, h2, h3, h4⟩ := h
  rw [cell_of_row w g _ cs _ _ h1] at c0 c1
  refine ⟨cs, h1, h2, fun i hi => ?_, h4⟩
  by_cases e : i = j
  · subst e; exact ⟨c0, c1⟩
  · exact h3 i (by omega)
/-- A slice of signatures, of which the first j bear their marks, in a block from B on. -/
def MkQ (k n j B : Nat) (w : World) (v : Value) : Prop := ∃ (ad : Option Addr) (cap : Nat), v = .slice ad n cap ∧ n ≤ cap ∧ cap ≤ maxLen ∧ (n = 0 ∨ ∃ g, ad = some ⟨g, 0, none⟩ ∧ B ≤ g ∧ g < w.heap.size ∧ MkP k n w g j)
theorem MkQ.below {k n j B : Nat} {w w' : World} {v : Value} (h : MkQ k n j B w v) (hb : Below w.heap.size w w') : MkQ k n j B w' v := by
  obtain ⟨ad, cap, h1, h2, h3, h4⟩ := h
  refine ⟨ad, cap, h1, h2, h3, ?_⟩
  rcases h4 with h4 | ⟨g, a1, a2, a3, a4⟩
  · exact .inl h4
  · exact .inr ⟨g, a1, a2, by have := hb.size; omega, a4.keep (hb.block g a3)⟩
theorem MkQ.start {k B n : Nat} {w : World} {v : Value} {vs : List It} {q : Nat} (h : w.ownsRow B 71 2 v n (paC vs q n)) : MkQ k n 0 B w v := by
  rcases h.2 with ⟨rfl, h0⟩ | ⟨g, cap, cur, rfl, hg, hh, h1, h2, h3, h4⟩
  · exact ⟨none, 0, by rw [h0], by omega, by simp [maxLen], .inl h0⟩
  · have key : ∀ m, m < n * 2 → cur[m]? = (paC vs q n)[m]? := fun m hm => by
      have e : (cur.toList.take (n * 2))[m]? = cur.toList[m]? := by rw [List.getElem?_take, if_pos hm]
      rw [h4] at e
      simpa using e.symm
    refine ⟨_, cap, rfl, h1, h2, .inr ⟨g, rfl, hg, blk_lt hh, cur, hh, by omega, fun i hi => by omega, fun i hi => ?_⟩⟩
    obtain ⟨a, b⟩ := paC_at vs q n i hi
    exact ⟨⟨_, by rw [key _ (by omega)]; exact a⟩, ⟨_, by rw [key _ (by omega)]; exact b⟩⟩
theorem own_atC {B : Nat} {w : World} {ad : Option Addr} {n cap q : Nat} {vs : List It} (h : w.ownsRow B 71 2 (.slice ad n cap) n (paC vs q n)) {j : Nat} (hj : j < n) : ∃ g, ad = some ⟨g, 0, none⟩ ∧ g < w.heap.size ∧ w.cell? ⟨g, j * 2, none⟩ = some (.int .u64 (itN vs (q + 3 * j + 1))) ∧ w.cell? ⟨g, j * 2 + 1, none⟩ = some (.string (itS vs (q + 3 * j + 2))) := by
  rcases h.2 with ⟨_, h0⟩ | ⟨g, cap', cur, hv, hg, hh, _⟩
  · omega
  · cases hv
    obtain ⟨a, b⟩ := paC_at vs q n j hj
    refine ⟨g, rfl, blk_lt hh, ?_, ?_⟩
    · rw [World.ownsRow.cellAt h (j * 2) (by omega)]; exact a
    · rw [World.ownsRow.cellAt h (j * 2 + 1) (by omega)]; exact b
set_option maxHeartbeats 400000 in
theorem eqSig_same (k : Nat) (s : ByteArray) (w : World) : Calls Tryz.prog 63 #[.agg #[.int .u64 k, .string s], .agg #[.int .u64 k, .string s]] w fun e w' => e = .returned (.bool true) ∧ Below w.heap.size w w' := by
  have hs : (s.toList == s.toList) = true := by simp
  go_enter Tryz.func63, Tryz.ntmps63
  go_wp2
  go_ret
  exact ⟨rfl, bel2 _ _ _⟩
set_option maxRecDepth 100000 in
set_option maxHeartbeats 1000000 in
theorem eqSigS_same (n q : Nat) (vs : List It) (B B' : Nat) (ad ad' : Option Addr) (cap cap' : Nat) (w : World) (hl : n ≤ 1000) (hv : w.ownsRow B 71 2 (.slice ad n cap) n (paC vs q n)) (hv' : w.ownsRow B' 71 2 (.slice ad' n cap') n (paC vs q n)) : Calls Tryz.prog 38 #[.slice ad n cap, .slice ad' n cap'] w fun e w' => e = .returned (.bool true) ∧ Below w.heap.size w w' := by
  have HV : Hid (w.ownsRow B 71 2 (.slice ad n cap) n (paC vs q n)) := hv
  have HV' : Hid (w.ownsRow B' 71 2 (.slice ad' n cap') n (paC vs q n)) := hv'
  clear hv hv'
  go_enter Tryz.func38, Tryz.ntmps38
  go_wp2_with fail
  go_loopg [5] n (fun gk i wr => ∃ j : Nat, j + gk = n ∧ i = .int .i64 j ∧ Below w.heap.size w wr)
  case atStart => exact ⟨0, by omega, rfl, Below.refl _ _⟩
  case round =>
    obtain ⟨j, hj', rfl, hb⟩ := hrel
    have HJ : Hid (j + gk = n) := hj'
    have hj : j ≤ n := by omega
    clear hj'
    by_cases hlt : j < n
    · have HB : Hid (Below w.heap.size w wr) := hb
      obtain ⟨g, rfl, hg, c0, c1⟩ := own_atC (World.ownsRow.kept HV.out (gb_bel hb) (by cases (Value.slice ad n cap).ownBlock <;> simp)) hlt
      obtain ⟨g', rfl, hg', c0', c1'⟩ := own_atC (World.ownsRow.kept HV'.out (gb_bel hb) (by cases (Value.slice ad' n cap').ownBlock <;> simp)) hlt
      generalize itN vs (q + 3 * j + 1) = x at c0 c0'
      generalize itS vs (q + 3 * j + 2) = y at c1 c1'
      have r0 := cells_re c0
      have r1 := cells_re c1
      have r0' := cells_re c0'
      have r1' := cells_re c1'
      have HC : Hid (∀ w, Calls Tryz.prog 63 #[.agg #[.int .u64 x, .string y], .agg #[.int .u64 x, .string y]] w fun e w' => e = .returned (.bool true) ∧ Below w.heap.size w w') := fun w => eqSig_same x y w
      clear c0 c0' c1 c1' hb
      go_wp2_with fail
      refine wp_region_quiet_below (by kernel_rfl) (by kernel_rfl) ?_
      repeat (go_big_quiet_step (exact Calls.regrown_of (HC.out _)))
      refine wpQuiet_nil ?_
      intro w6 hw'
      obtain ⟨⟨dq, osq⟩, hw''⟩ := hw'
      have HB2 : Hid (Below w.heap.size w w6) := by show Below _ _ _; rw [hw'']; exact HB.out.trans ((below_regrown _ dq osq).mono HB.out.size)
      clear hw'' r0 r0' r1 r1'
      go_wp2_with fail
      go_roundg (gk - 1)
      case rel => exact ⟨j + 1, by have := HJ.out; omega, by go_num, HB2.out⟩
      case measure => have := HJ.out; omega
    · have e1 : j = n := by omega
      subst e1
      go_wp2_with fail
      go_ret
      exact ⟨rfl, hb⟩
set_option maxRecDepth 100000 in
set_option maxHeartbeats 2000000 in
theorem markSigS_any (k n B : Nat) (v : Value) (w : World) (hk1 : 1 ≤ k) (hk : k ≤ 10000) (hl : n ≤ 1000) (hv : MkQ k n 0 B w v) : Calls Tryz.prog 40 #[v, .int .i64 k] w fun e w' => (e = .returned (.int .i64 ((k + 2 * n : Nat) : Int)) ∧ MkQ k n n B w' v) ∧ w.grownBy w' v.ownBlock := by
  obtain ⟨ad, cap, rfl, h1, h2, h4⟩ := hv
  unfold maxLen at h2
  rcases h4 with h0 | ⟨g, rfl, hg, hgw, hm0⟩
  · subst h0
    have HX : Hid (MkQ k 0 0 B w (.slice ad 0 cap)) := ⟨ad, cap, rfl, h1, by unfold maxLen; exact h2, .inl rfl⟩
    go_enter Tryz.func40, Tryz.ntmps40
    go_wp2_with fail
    go_loopg [1, 5] 1 (fun gk kv i wr => kv = .int .i64 k ∧ i = .int .i64 0 ∧ wr = w)
    case atStart => exact ⟨rfl, rfl, rfl⟩
    case round =>
      obtain ⟨rfl, rfl, hw⟩ := hrel
      subst hw
      go_wp2_with fail
      go_ret
      exact ⟨⟨by simp, HX.out⟩, mk_refl _ _⟩
  · go_enter Tryz.func40, Tryz.ntmps40
    go_wp2_with fail
    go_loopg [1, 5] n (fun gk kv i wr => ∃ j : Nat, j + gk = n ∧ i = .int .i64 j ∧ kv = .int .i64 ((k + 2 * j : Nat) : Int) ∧ MkP k n wr g j ∧ w.grownBy wr (some g) ∧ g < wr.heap.size)
    case atStart => exact ⟨0, by omega, rfl, by simp, hm0, mk_refl _ _, hgw⟩
    case round =>
      obtain ⟨j, hj', rfl, rfl, hm, hb, hgr⟩ := hrel
      have HJ : Hid (j + gk = n) := hj'
      have HM : Hid (MkP k n wr g j) := hm
      have HB : Hid (w.grownBy wr (some g)) := hb
      have hj : j ≤ n := by omega
      clear hj' hb hm0
      by_cases hlt : j < n
      · obtain ⟨K, hK⟩ : ∃ K : Nat, k + 2 * j = K := ⟨_, rfl⟩
        have hK2 : K ≤ 20000 := by omega
        have hK1 : 1 ≤ K := by omega
        have HKE : Hid (k + 2 * j = K) := hK
        obtain ⟨⟨⟨z0, c0⟩, ⟨z1, c1⟩⟩, fz⟩ := hm.cell hlt
        obtain ⟨m1, d0⟩ := hm.set0 hlt (.int .u64 (K : Int)) 0 (.inl ⟨rfl, _, rfl⟩)
        rw [Nat.add_zero] at m1 d0
        have f0 := fz (j * 2)
        obtain ⟨W, hW⟩ : ∃ W, wr.setCell ⟨g, j * 2, none⟩ (.int .u64 (K : Int)) = W := ⟨_, rfl⟩
        rw [hW] at m1 d0
        have HM2 : Hid (MkP k n W g j) := m1
        have HE0 : Hid (W.cell? ⟨g, j * 2, none⟩ = some (.int .u64 (K : Int))) := d0
        have HBW : Hid (w.grownBy W (some g)) := by show World.grownBy _ _ _; rw [← hW]; exact mk_set HB.out _ _
        have hWs : g < W.heap.size := by rw [← hW]; simpa [World.setCell] using hgr
        have HT : Hid (∀ w, Calls Tryz.prog 39 #[.int .i64 ((K : Int) + 1)] w fun e w' => e = .returned (.string (mkT (K + 1))) ∧ Below w.heap.size w w') := fun w => by
          have := markText_any (K + 1) w (by omega) (by omega)
          rwa [show (((K + 1 : Nat) : Int)) = (K : Int) + 1 by omega] at this
        rw [hK]
        clear hm m1 d0 fz hK c1
        go_wp2_with fail
        refine (HT.out _).mono ?_
        rintro e w2 ⟨rfl, hb2⟩
        have hM3 := HM2.out.keep (hb2.block g hWs)
        obtain ⟨⟨_, ⟨y2, c2⟩⟩, f2⟩ := hM3.cell hlt
        have f2' := f2 (j * 2 + 1)
        obtain ⟨m4, d2⟩ := hM3.set0 hlt (.string (mkT (K + 1))) 1 (.inr ⟨rfl, _, rfl⟩)
        have hke := HKE.out
        have HM5 : Hid (MkP k n (w2.setCell ⟨g, j * 2 + 1, none⟩ (.string (mkT (K + 1)))) g (j + 1)) := m4.more (by rw [World.cell?_setCell_other _ _ _ _ (by simp), hb2.cell (p := ⟨g, j * 2, none⟩) hWs, hke]; exact HE0.out) (by rw [hke]; exact d2)
        have HB5 : Hid (w.grownBy (w2.setCell ⟨g, j * 2 + 1, none⟩ (.string (mkT (K + 1)))) (some g)) := mk_set (mk_full HBW.out hb2) _ _
        have HG5 : Hid (g < (w2.setCell ⟨g, j * 2 + 1, none⟩ (.string (mkT (K + 1)))).heap.size) := by have := hb2.size; show _ < _; simp [World.setCell]; omega
        clear hb2 hM3 f2 m4 d2 hke hW c0 f0
        go_wp2_with fail
        go_roundg (gk - 1)
        case rel => exact ⟨j + 1, by have := HJ.out; omega, by go_num, by have := HKE.out; first | go_num | (congr 1; omega), HM5.out, HB5.out, HG5.out⟩
        case measure => have := HJ.out; omega
      · have ej : j = n := by omega
        have HX : Hid (MkQ k n n B wr (.slice (some ⟨g, 0, none⟩) n cap)) := ⟨_, cap, rfl, h1, by unfold maxLen; exact h2, .inr ⟨g, rfl, hg, hgr, by have := HM.out; rw [ej] at this; exact this⟩⟩
        clear hm hlt
        subst ej
        go_wp2_with fail
        go_ret
        exact ⟨⟨rfl, HX.out⟩, HB.out⟩
set_option maxRecDepth 100000 in
set_option maxHeartbeats 2000000 in
theorem heldSigS_any (k n B : Nat) (v : Value) (w : World) (hk1 : 1 ≤ k) (hk : k ≤ 10000) (hl : n ≤ 1000) (hv : MkQ k n n B w v) : Calls Tryz.prog 41 #[v, .int .i64 k] w fun e w' => e = .returned (.int .i64 ((k + 2 * n : Nat) : Int)) ∧ Below w.heap.size w w' := by
  obtain ⟨ad, cap, rfl, h1, h2, h4⟩ := hv
  unfold maxLen at h2
  have HV : Hid (n = 0 ∨ ∃ g, ad = some ⟨g, 0, none⟩ ∧ B ≤ g ∧ g < w.heap.size ∧ MkP k n w g n) := h4
  clear h4
  go_enter Tryz.func41, Tryz.ntmps41
  go_wp2_with fail
  go_loopg [1, 5] n (fun gk kv i wr => ∃ j : Nat, j + gk = n ∧ i = .int .i64 j ∧ kv = .int .i64 ((k + 2 * j : Nat) : Int) ∧ Below w.heap.size w wr)
  case atStart => exact ⟨0, by omega, rfl, by simp, Below.refl _ _⟩
  case round =>
    obtain ⟨j, hj', rfl, rfl, hb⟩ := hrel
    have HJ : Hid (j + gk = n) := hj'
    have HB : Hid (Below w.heap.size w wr) := hb
    have hj : j ≤ n := by omega
    clear hj'
    by_cases hlt : j < n
    · rcases HV.out with h0 | ⟨g, rfl, _, hgw, cs, b1, b2, b3, _⟩
      · omega
      · obtain ⟨K, hK⟩ : ∃ K : Nat, k + 2 * j = K := ⟨_, rfl⟩
        have hK2 : K ≤ 20000 := by omega
        have HKE : Hid (k + 2 * j = K) := hK
        obtain ⟨a0, a1⟩ := b3 j hlt
        rw [hK] at a0 a1 ⊢
        have e : ∀ i, wr.cell? ⟨g, i, none⟩ = cs[i]? := fun i => by rw [hb.cell (p := ⟨g, i, none⟩) hgw]; exact cell_of_row w g i cs _ _ b1
        have c0 : wr.cell? ⟨g, j * 2, none⟩ = some (.int .u64 (K : Int)) := by rw [e]; exact a0
        have c1 : wr.cell? ⟨g, j * 2 + 1, none⟩ = some (.string (mkT (K + 1))) := by rw [e]; exact a1
        have HT : Hid (∀ w, Calls Tryz.prog 39 #[.int .i64 ((K : Int) + 1)] w fun e w' => e = .returned (.string (mkT (K + 1))) ∧ Below w.heap.size w w') := fun w => by
          have := markText_any (K + 1) w (by omega) (by omega)
          rwa [show (((K + 1 : Nat) : Int)) = (K : Int) + 1 by omega] at this
        obtain ⟨M, hM⟩ : ∃ M, mkT (K + 1) = M := ⟨_, rfl⟩
        rw [hM] at c1 HT
        have hMM : (M.toList == M.toList) = true := by simp
        have r2 := cells_re c1
        have hgr : g < wr.heap.size := by have := hb.size; omega
        clear a0 a1 b1 b2 b3 e hK hM hb
        go_wp2_with fail
        refine wp_region_quiet_below (by kernel_rfl) (by kernel_rfl) ?_
        repeat (go_big_quiet_step (exact Calls.regrown_of (HT.out _)))
        refine wpQuiet_nil ?_
        intro w6 hw'
        obtain ⟨⟨dq, osq⟩, hw''⟩ := hw'
        have HB6 : Hid (Below w.heap.size w w6) := by show Below _ _ _; rw [hw'']; exact HB.out.trans ((below_regrown wr dq osq).mono HB.out.size)
        clear hw'' r2
        go_wp2_with fail
        go_roundg (gk - 1)
        case rel => exact ⟨j + 1, by have := HJ.out; omega, by go_num, by have := HKE.out; first | go_num | (congr 1; omega), HB6.out⟩
        case measure => have := HJ.out; omega
    · have ej : j = n := by omega
      clear hlt hb
      subst ej
      go_wp2_with fail
      go_ret
      exact ⟨rfl, HB.out⟩
theorem CmE_form (vs : List It) : ∃ (i t : Nat) (lf : ByteArray) (n : Nat) (ok : Bool), n ≤ 8 ∧ ∀ base w' e, CmE vs base w' e → ∃ ad cp, e = .returned (.tuple #[.agg #[.int .u64 i, .int .u64 t, .string lf, .slice ad n cp], .bool ok]) ∧ w'.ownsRow base 71 2 (.slice ad n cp) n (paC vs 5 n) := by
  by_cases h : typedB (msgS 2) vs = true
  · obtain ⟨h5, hm, hl⟩ := commit_len h
    refine ⟨itN vs 1, itN vs 2, itS vs 3, itN vs 4, true, by rw [itN_at h5]; omega, fun base w' e he => ?_⟩
    unfold CmE at he
    rw [if_pos h] at he
    exact he
  · refine ⟨0, 0, ⟨#[]⟩, 0, false, by omega, fun base w' e he => ?_⟩
    unfold CmE at he
    rw [if_neg h] at he
    exact ⟨none, 0, he, World.ownsRow_nil _ _ _ _⟩
set_option maxRecDepth 100000 in
set_option maxHeartbeats 1000000 in
theorem eqCommit_same (i t : Nat) (lf : ByteArray) (n : Nat) (vs : List It) (B B' : Nat) (ad ad' : Option Addr) (cap cap' : Nat) (w : World) (hl : n ≤ 1000) (hv : w.ownsRow B 71 2 (.slice ad n cap) n (paC vs 5 n)) (hv' : w.ownsRow B' 71 2 (.slice ad' n cap') n (paC vs 5 n)) : Calls Tryz.prog 15 #[.agg #[.int .u64 i, .int .u64 t, .string lf, .slice ad n cap], .agg #[.int .u64 i, .int .u64 t, .string lf, .slice ad' n cap']] w fun e w' => e = .returned (.bool true) ∧ Below w.heap.size w w' := by
  have HB : Hid (Below w.heap.size w ((w.alloc (.cells #[.int .u64 i, .int .u64 t, .string lf, .slice ad n cap] 36)).alloc (.cells #[.int .u64 i, .int .u64 t, .string lf, .slice ad' n cap'] 36))) := bel2 _ _ _
  have HC : Hid (Calls Tryz.prog 38 #[.slice ad n cap, .slice ad' n cap'] ((w.alloc (.cells #[.int .u64 i, .int .u64 t, .string lf, .slice ad n cap] 36)).alloc (.cells #[.int .u64 i, .int .u64 t, .string lf, .slice ad' n cap'] 36)) fun e w' => e = .returned (.bool true) ∧ Below ((w.alloc (.cells #[.int .u64 i, .int .u64 t, .string lf, .slice ad n cap] 36)).alloc (.cells #[.int .u64 i, .int .u64 t, .string lf, .slice ad' n cap'] 36)).heap.size ((w.alloc (.cells #[.int .u64 i, .int .u64 t, .string lf, .slice ad n cap] 36)).alloc (.cells #[.int .u64 i, .int .u64 t, .string lf, .slice ad' n cap'] 36)) w') :=
    eqSigS_same n 5 vs B B' ad ad' cap cap' _ hl (World.ownsRow.kept hv (gb_bel HB.out) (by cases (Value.slice ad n cap).ownBlock <;> simp)) (World.ownsRow.kept hv' (gb_bel HB.out) (by cases (Value.slice ad' n cap').ownBlock <;> simp))
  have hs : (lf.toList == lf.toList) = true := by simp
  clear hv hv'
  go_enter Tryz.func15, Tryz.ntmps15
  go_wp2_with fail
  refine Calls.mono HC.out ?_
  rintro e w1 ⟨rfl, hb1⟩
  have HB1 : Hid (Below w.heap.size w w1) := HB.out.trans (hb1.mono HB.out.size)
  clear hb1
  go_wp2_with fail
  go_ret
  exact ⟨rfl, HB1.out⟩
set_option maxRecDepth 100000 in
set_option maxHeartbeats 1000000 in
theorem markCommit_any (i t : Nat) (lf : ByteArray) (n B : Nat) (ad : Option Addr) (cap : Nat) (w : World) (hl : n ≤ 1000) (hv : MkQ 1 n 0 B w (.slice ad n cap)) : Calls Tryz.prog 17 #[.agg #[.int .u64 i, .int .u64 t, .string lf, .slice ad n cap], .int .i64 1] w fun e w' => (e = .returned (.int .i64 ((1 + 2 * n : Nat) : Int)) ∧ MkQ 1 n n B w' (.slice ad n cap)) ∧ w.grownBy w' (Value.slice ad n cap).ownBlock := by
  obtain ⟨W, hW⟩ : ∃ W, w.alloc (.cells #[.int .u64 i, .int .u64 t, .string lf, .slice ad n cap] 36) = W := ⟨_, rfl⟩
  have HG : Hid (w.grownBy W (Value.slice ad n cap).ownBlock) := by show World.grownBy _ _ _; rw [← hW]; exact mk_alloc _ _ _
  have HC : Hid (Calls Tryz.prog 40 #[.slice ad n cap, .int .i64 1] W fun e w' => (e = .returned (.int .i64 ((1 + 2 * n : Nat) : Int)) ∧ MkQ 1 n n B w' (.slice ad n cap)) ∧ W.grownBy w' (Value.slice ad n cap).ownBlock) := markSigS_any 1 n B _ W (by decide) (by decide) hl (by rw [← hW]; exact hv.below (bel1 _ _))
  have hK : W.heap[w.heap.size]? = some (.cells #[.int .u64 i, .int .u64 t, .string lf, .slice ad n cap] 36 (0, 0)) := by rw [← hW]; exact heap_alloc_new w _
  obtain ⟨c0, c1, c2, c3⟩ := quad_cells hK
  obtain ⟨L, hL⟩ : ∃ L : Nat, 1 + 2 * n = L := ⟨_, rfl⟩
  rw [hL] at HC ⊢
  clear hK hv hL
  go_enter Tryz.func17, Tryz.ntmps17
  go_wp2_with fail
  refine Calls.mono HC.out ?_
  rintro e w1 ⟨⟨rfl, hm⟩, hg⟩
  have HX : Hid (MkQ 1 n n B w1 (.slice ad n cap) ∧ w.grownBy w1 (Value.slice ad n cap).ownBlock) := ⟨hm, mk_trans HG.out hg⟩
  clear hm hg
  go_wp2_with fail
  go_ret
  exact ⟨⟨rfl, HX.out.1⟩, HX.out.2⟩
set_option maxRecDepth 100000 in
set_option maxHeartbeats 1000000 in
theorem heldCommit_any (i t : Nat) (lf : ByteArray) (n B : Nat) (ad : Option Addr) (cap : Nat) (w : World) (hl : n ≤ 1000) (hv : MkQ 1 n n B w (.slice ad n cap)) : Calls Tryz.prog 18 #[.agg #[.int .u64 i, .int .u64 t, .string lf, .slice ad n cap], .int .i64 1] w fun e w' => e = .returned (.int .i64 ((1 + 2 * n : Nat) : Int)) ∧ Below w.heap.size w w' := by
  obtain ⟨W, hW⟩ : ∃ W, w.alloc (.cells #[.int .u64 i, .int .u64 t, .string lf, .slice ad n cap] 36) = W := ⟨_, rfl⟩
  have HB : Hid (Below w.heap.size w W) := by show Below _ _ _; rw [← hW]; exact bel1 _ _
  have HC : Hid (Calls Tryz.prog 41 #[.slice ad n cap, .int .i64 1] W fun e w' => e = .returned (.int .i64 ((1 + 2 * n : Nat) : Int)) ∧ Below W.heap.size W w') := heldSigS_any 1 n B _ W (by decide) (by decide) hl (by rw [← hW]; exact hv.below (bel1 _ _))
  have hK : W.heap[w.heap.size]? = some (.cells #[.int .u64 i, .int .u64 t, .string lf, .slice ad n cap] 36 (0, 0)) := by rw [← hW]; exact heap_alloc_new w _
  obtain ⟨c0, c1, c2, c3⟩ := quad_cells hK
  obtain ⟨L, hL⟩ : ∃ L : Nat, 1 + 2 * n = L := ⟨_, rfl⟩
  have hL0 : ¬ (L : Int) < 0 := by omega
  rw [hL] at HC ⊢
  clear hK hv hL
  go_enter Tryz.func18, Tryz.ntmps18
  go_wp2_with fail
  refine Calls.mono HC.out ?_
  rintro e w1 ⟨rfl, hb1⟩
  have HB1 : Hid (Below w.heap.size w w1) := HB.out.trans (hb1.mono HB.out.size)
  clear hb1
  go_wp2_with fail
  go_ret
  exact ⟨rfl, HB1.out⟩
end Go.Proofs.YtelbmcgpelkakaaGreatDoor
