/- SOo, SVo, SVq, SVr, SVs, SVt, SVu: one text. -/
import Derived.Test.YtelbmcgpelkakaaGreatDoorSNo
import Derived.Test.YtelbmcgpelkakaaGreatDoorSNd
import Derived.Test.YtelbmcgpelkakaaGreatDoorSNq
import Derived.Test.YtelbmcgpelkakaaGreatDoorSNr
import Derived.Test.YtelbmcgpelkakaaGreatDoorSNs
import Derived.Test.YtelbmcgpelkakaaGreatDoorSNt
import Derived.Test.YtelbmcgpelkakaaGreatDoorSNv
namespace Go.Proofs.YtelbmcgpelkakaaGreatDoor
open Go.RowKit Go.Sort
set_option linter.unusedVariables false
/-- The parts of m from place q on, as cells. -/
def paC (vs : List It) (q m : Nat) : List Value := (List.range m).flatMap fun j => [.int .u64 (itN vs (q + 3 * j + 1)), .string (itS vs (q + 3 * j + 2))]
theorem paC_succ (vs : List It) (q m : Nat) : paC vs q (m + 1) = paC vs q m ++ [.int .u64 (itN vs (q + 3 * m + 1)), .string (itS vs (q + 3 * m + 2))] := by simp [paC, List.range_succ]
theorem paC_len (vs : List It) (q m : Nat) : (paC vs q m).length = m * 2 := by
  induction m with
  | zero => rfl
  | succ m ih => rw [paC_succ, List.length_append, ih]; simp; omega
theorem Tryz.szSig : (Tryz.prog.info? 71).map (·.size) = some 2 := by kernel_rfl
theorem Tryz.infoSig : (Tryz.prog.info? 71).map (fun i => (i.zero, i.size, i.bytes)) = some (some (.agg #[.int .u64 0, .string ByteArray.empty]), 2, 24) := by kernel_rfl
theorem set2 {w : World} {N : Nat} {a b u0 u1 : Value} {T : TypeId} (hN : w.heap[N]? = some (.cells #[u0, u1] T (0, 0))) : ((w.setCell ⟨N, 0, none⟩ a).setCell ⟨N, 1, none⟩ b).heap[N]? = some (.cells #[a, b] T (0, 0)) := by
  have e1 := set_block (i := 0) hN a
  have e2 := set_block (i := 1) e1 b
  rw [e2]; simp
set_option maxRecDepth 100000 in
set_option maxHeartbeats 4000000 in
theorem partSig_any (R b o C q : Nat) (vs : List It) (w : World) (h : RdR R b o C vs q w) (hl : q + 3 ≤ vs.length) : Calls Tryz.prog 62 #[.pointer (some ⟨R, 0, none⟩)] w fun e w' => e = .returned (.agg #[.int .u64 (itN vs (q + 1)), .string (itS vs (q + 2))]) ∧ RdR R b o C vs (q + 3) w' ∧ w.grownBy w' (some R) := by
  rw [itN_at (by omega), itS_at (by omega)]
  obtain ⟨x1, h1⟩ : ∃ x, (vs[q + 1]'(by omega)).n = x := ⟨_, rfl⟩
  obtain ⟨x2, h2⟩ : ∃ x, (vs[q + 2]'(by omega)).s = x := ⟨_, rfl⟩
  have HN0 : Hid (∀ w, RdR R b o C vs q w → Calls Tryz.prog 58 #[.pointer (some ⟨R, 0, none⟩)] w fun e w' => e = .returned (.tuple #[]) ∧ RdR R b o C vs (q + 1) w' ∧ w.grownBy w' (some R)) := fun w h => fieldsR_any R b o C q vs w h (by omega)
  have HN1 : Hid (∀ w, RdR R b o C vs (q + 1) w → Calls Tryz.prog 59 #[.pointer (some ⟨R, 0, none⟩)] w fun e w' => e = .returned (.int .u64 x1) ∧ RdR R b o C vs (q + 2) w' ∧ w.grownBy w' (some R)) := fun w h => by have := numberR_any R b o C (q + 1) vs w h (by omega); rw [h1] at this; exact this
  have HN2 : Hid (∀ w, RdR R b o C vs (q + 2) w → Calls Tryz.prog 60 #[.pointer (some ⟨R, 0, none⟩)] w fun e w' => e = .returned (.string x2) ∧ RdR R b o C vs (q + 3) w' ∧ w.grownBy w' (some R)) := fun w h => by have := textR_any R b o C (q + 2) vs w h (by omega); rw [h2] at this; exact this
  rw [h1, h2]
  obtain ⟨v, hv, _⟩ := h.cell
  have hR : R < w.heap.size := blk_lt hv
  obtain ⟨Z, hZ⟩ : ∃ Z : Obj, .cells #[.int .u64 0, .string ⟨#[]⟩] 71 = Z := ⟨_, rfl⟩
  have hb0 : Below w.heap.size w ((w.alloc Z).alloc Z) := ((Below.refl _ _).alloc (Nat.le_refl _) _).alloc (by simp) _
  have HR : Hid (RdR R b o C vs q ((w.alloc Z).alloc Z)) := h.grown (gb_bel hb0)
  have HG : Hid (w.grownBy ((w.alloc Z).alloc Z) (some R)) := gb_any (gb_bel hb0)
  have HB : Hid (((w.alloc Z).alloc Z).heap[w.heap.size + 1]? = some Z) := heap_alloc2_new w Z Z
  have HZ : Hid (((w.alloc Z).alloc Z).heap[w.heap.size]? = some Z) := by show _ = _; rw [Below.heap_alloc _ _ _ (by simp)]; exact heap_alloc_new w Z
  have hZs : w.heap.size < ((w.alloc Z).alloc Z).heap.size := by simp; omega
  have hHs : w.heap.size + 1 < ((w.alloc Z).alloc Z).heap.size := by simp
  subst hZ
  clear h hv h1 h2 hl hb0
  go_enter Tryz.func62, Tryz.ntmps62
  go_wp2_with fail
  obtain ⟨W, hW⟩ : ∃ W, (w.alloc (.cells #[.int .u64 0, .string ⟨#[]⟩] 71)).alloc (.cells #[.int .u64 0, .string ⟨#[]⟩] 71) = W := ⟨_, rfl⟩
  rw [hW] at HR HG HB HZ hZs hHs
  rw [hW]
  obtain ⟨H, hH⟩ : ∃ H, w.heap.size + 1 = H := ⟨_, rfl⟩
  rw [hH] at HB hHs
  rw [hH]
  have hH1 : w.heap.size < H := by omega
  clear hW hH
  refine (HN0.out _ HR.out).mono ?_
  rintro e w1 ⟨rfl, hr, hg⟩
  have HR1 : Hid (RdR R b o C vs (q + 1) w1) := hr
  have HG1 : Hid (w.grownBy w1 (some R)) := gb_trR HG.out hg
  have HB1 : Hid (w1.heap[H]? = some (.cells #[.int .u64 0, .string ⟨#[]⟩] 71 (0, 0))) := (hg.block H hHs (by simp; omega)).trans HB.out
  have HZ1 : Hid (w1.heap[w.heap.size]? = some (.cells #[.int .u64 0, .string ⟨#[]⟩] 71 (0, 0))) := (hg.block w.heap.size hZs (by simp; omega)).trans HZ.out
  have hs1 : W.heap.size ≤ w1.heap.size := hg.size
  clear hr hg
  go_wp2_with fail
  refine (HN1.out _ HR1.out).mono ?_
  rintro e w2a ⟨rfl, hr, hg⟩
  have hb : w2a.heap[H]? = some (.cells #[.int .u64 0, .string ⟨#[]⟩] 71 (0, 0)) := (hg.block H (by omega) (by simp; omega)).trans HB1.out
  have c0 : w2a.cell? ⟨H, 0, none⟩ = some (.int .u64 0) := by rw [cell_of_row w2a H 0 _ _ _ hb]; rfl
  have f0 : w2a.frozen? ⟨H, 0, none⟩ = false := by simp [World.frozen?, hb]
  have HRa : Hid (RdR R b o C vs (q + 2) (w2a.setCell ⟨H, 0, none⟩ (.int .u64 x1))) := hr.set (by omega) _
  have HGa : Hid (w.grownBy (w2a.setCell ⟨H, 0, none⟩ (.int .u64 x1)) (some R)) := gb_new (gb_trR HG1.out hg) (by omega) _
  have HBa : Hid ((w2a.setCell ⟨H, 0, none⟩ (.int .u64 x1)).heap[H]? = some (.cells #[.int .u64 x1, .string ⟨#[]⟩] 71 (0, 0))) := by rw [set_block (i := 0) hb]; rfl
  have HZa : Hid ((w2a.setCell ⟨H, 0, none⟩ (.int .u64 x1)).heap[w.heap.size]? = some (.cells #[.int .u64 0, .string ⟨#[]⟩] 71 (0, 0))) := by rw [Below.heap_setCell _ _ _ _ (by simp; omega)]; exact (hg.block w.heap.size (by omega) (by simp; omega)).trans HZ1.out
  have hsa : W.heap.size ≤ (w2a.setCell ⟨H, 0, none⟩ (.int .u64 x1)).heap.size := by have := hg.size; simp [World.setCell]; omega
  clear hr hg hb
  go_wp2_with fail
  obtain ⟨w2, hw'⟩ : ∃ W, w2a.setCell ⟨H, 0, none⟩ (.int .u64 x1) = W := ⟨_, rfl⟩
  rw [hw'] at HRa HGa HBa HZa hsa
  rw [hw']
  have HR2 := HRa
  have HG2 := HGa
  have HB2 := HBa
  have HZ2 := HZa
  have hs2 := hsa
  clear HRa HGa HBa HZa hsa hw' c0 f0
  refine (HN2.out _ HR2.out).mono ?_
  rintro e w3a ⟨rfl, hr, hg⟩
  have hb : w3a.heap[H]? = some (.cells #[.int .u64 x1, .string ⟨#[]⟩] 71 (0, 0)) := (hg.block H (by omega) (by simp; omega)).trans HB2.out
  have c0 : w3a.cell? ⟨H, 1, none⟩ = some (.string ⟨#[]⟩) := by rw [cell_of_row w3a H 1 _ _ _ hb]; rfl
  have f0 : w3a.frozen? ⟨H, 1, none⟩ = false := by simp [World.frozen?, hb]
  have HRa : Hid (RdR R b o C vs (q + 3) (w3a.setCell ⟨H, 1, none⟩ (.string x2))) := hr.set (by omega) _
  have HGa : Hid (w.grownBy (w3a.setCell ⟨H, 1, none⟩ (.string x2)) (some R)) := gb_new (gb_trR HG2.out hg) (by omega) _
  have HBa : Hid ((w3a.setCell ⟨H, 1, none⟩ (.string x2)).heap[H]? = some (.cells #[.int .u64 x1, .string x2] 71 (0, 0))) := by rw [set_block (i := 1) hb]; rfl
  have HZa : Hid ((w3a.setCell ⟨H, 1, none⟩ (.string x2)).heap[w.heap.size]? = some (.cells #[.int .u64 0, .string ⟨#[]⟩] 71 (0, 0))) := by rw [Below.heap_setCell _ _ _ _ (by simp; omega)]; exact (hg.block w.heap.size (by omega) (by simp; omega)).trans HZ2.out
  have hsa : W.heap.size ≤ (w3a.setCell ⟨H, 1, none⟩ (.string x2)).heap.size := by have := hg.size; simp [World.setCell]; omega
  clear hr hg hb
  have z0 : (w3a.setCell ⟨H, 1, none⟩ (.string x2)).cell? ⟨w.heap.size, 0, none⟩ = some (.int .u64 0) := by rw [cell_of_row _ w.heap.size 0 _ _ _ HZa.out]; rfl
  have y0 : (w3a.setCell ⟨H, 1, none⟩ (.string x2)).frozen? ⟨w.heap.size, 0, none⟩ = false := by simp only [World.frozen?, HZa.out]; rfl
  have z1 : (w3a.setCell ⟨H, 1, none⟩ (.string x2)).cell? ⟨w.heap.size, 1, none⟩ = some (.string ⟨#[]⟩) := by rw [cell_of_row _ w.heap.size 1 _ _ _ HZa.out]; rfl
  have y1 : (w3a.setCell ⟨H, 1, none⟩ (.string x2)).frozen? ⟨w.heap.size, 1, none⟩ = false := by simp only [World.frozen?, HZa.out]; rfl
  go_wp2_with (refine wpList_load_row rfl 71 _ rfl H rfl _ _ _ _ HBa.out Tryz.underlying71 rfl Tryz.szSig ?_)
  exact bodyPost_ret (v := .agg #[.int .u64 x1, .string x2]) (results_cell_row Tryz.results62 _ _ w.heap.size _ _ _ _ rfl (set2 HZa.out) Tryz.underlying71 rfl Tryz.szSig) rfl ⟨rfl, (HRa.out.set (by omega) _).set (by omega) _, gb_new (gb_new HGa.out (Nat.le_refl _) _) (Nat.le_refl _) _⟩
set_option maxRecDepth 100000 in
set_option maxHeartbeats 2000000 in
theorem readListSig_any (R b o C q m : Nat) (vs : List It) (w : World) (h : RdR R b o C vs q w) (hq : q < vs.length) (hm : vs[q].n = m) (hl : q + 1 + 3 * m ≤ vs.length) (hm2 : m ≤ 1000) : Calls Tryz.prog 61 #[.pointer (some ⟨R, 0, none⟩), .func (.func 62) #[.pointer (some ⟨R, 0, none⟩)] #[]] w fun e w' => (∃ v, e = .returned v ∧ w'.ownsRow w.heap.size 71 2 v m (paC vs (q + 1) m)) ∧ RdR R b o C vs (q + 1 + 3 * m) w' ∧ w.grownBy w' (some R) := by
  obtain ⟨i0, hi, hz0, hz1, hz2⟩ := info_parts Tryz.infoSig
  have HN : Hid (Calls Tryz.prog 59 #[.pointer (some ⟨R, 0, none⟩)] w fun e w' => e = .returned (.int .u64 (m : Nat)) ∧ RdR R b o C vs (q + 1) w' ∧ w.grownBy w' (some R)) := by have := numberR_any R b o C q vs w h hq; rw [hm] at this; exact this
  have HT : Hid (∀ (j : Nat) (hj : q + 1 + 3 * j + 3 ≤ vs.length) (w : World), RdR R b o C vs (q + 1 + 3 * j) w → Calls Tryz.prog 62 #[.pointer (some ⟨R, 0, none⟩)] w fun e w' => e = .returned (.agg #[.int .u64 (itN vs (q + 1 + 3 * j + 1)), .string (itS vs (q + 1 + 3 * j + 2))]) ∧ RdR R b o C vs (q + 1 + 3 * j + 3) w' ∧ w.grownBy w' (some R)) := fun j hj w h => partSig_any R b o C (q + 1 + 3 * j) vs w h hj
  obtain ⟨v0, hv0, _⟩ := h.cell
  have hR : R < w.heap.size := blk_lt hv0
  clear h hv0 hm
  go_enter Tryz.func61, Tryz.ntmps61
  go_wp2_with fail
  refine Calls.mono HN.out ?_
  rintro e w1 ⟨rfl, hr1, hg1⟩
  have HR1 : Hid (RdR R b o C vs (q + 1) w1) := hr1
  have HG1 : Hid (w.grownBy w1 (some R)) := hg1
  clear hr1 hg1
  go_wp2_with fail
  go_loopg [5, 8] m (fun gk v i wr => ∃ j : Nat, j + gk = m ∧ i = .int .u64 j ∧ wr.ownsRow w.heap.size 71 2 v j (paC vs (q + 1) j) ∧ RdR R b o C vs (q + 1 + 3 * j) wr ∧ w.grownBy wr (some R))
  case atStart => exact ⟨0, by omega, rfl, World.ownsRow_nil _ _ _ _, HR1.out, HG1.out⟩
  case round =>
    obtain ⟨j, hj', rfl, hown, hr, hg⟩ := hrel
    have HJ : Hid (j + gk = m) := hj'
    have HO : Hid (wr.ownsRow w.heap.size 71 2 u5 j (paC vs (q + 1) j)) := hown
    have HR : Hid (RdR R b o C vs (q + 1 + 3 * j) wr) := hr
    have HG : Hid (w.grownBy wr (some R)) := hg
    have hj : j ≤ m := by omega
    have hsr : w.heap.size ≤ wr.heap.size := hg.size
    clear hj' hown hr hg
    by_cases hlt : j < m
    · obtain ⟨x1, hx1⟩ : ∃ x, (itN vs (q + 1 + 3 * j + 1)) = x := ⟨_, rfl⟩
      obtain ⟨x2, hx2⟩ : ∃ x, (itS vs (q + 1 + 3 * j + 2)) = x := ⟨_, rfl⟩
      have HC : Hid (Calls Tryz.prog 62 #[.pointer (some ⟨R, 0, none⟩)] wr fun e w' => e = .returned (.agg #[.int .u64 x1, .string x2]) ∧ RdR R b o C vs (q + 1 + 3 * j + 3) w' ∧ wr.grownBy w' (some R)) := by have := HT.out j (by omega) wr HR.out; rw [hx1, hx2] at this; exact this
      have HXS : Hid (paC vs (q + 1) (j + 1) = paC vs (q + 1) j ++ [.int .u64 x1, .string x2]) := by show _ = _; rw [paC_succ, hx1, hx2]
      clear hx1 hx2
      go_wp2_with fail
      refine Calls.mono HC.out ?_
      rintro e w3 ⟨rfl, hr3, hg3⟩
      have HR3 : Hid (RdR R b o C vs (q + 1 + 3 * j + 3) w3) := hr3
      have HG3 : Hid (w.grownBy w3 (some R)) := gb_trR HG.out hg3
      have HO3 : Hid (w3.ownsRow w.heap.size 71 2 u5 j (paC vs (q + 1) j)) := HO.out.kept hg3 (by
        cases hv : u5.ownBlock with
        | none => exact .inl rfl
        | some k => exact .inr (fun e => by cases e; have := (HO.out.lt R hv).1; omega))
      have hs3 : w.heap.size ≤ w3.heap.size := HG3.out.size
      clear hr3 hg3
      go_wp2_with (at_builtin; refine wpList_append_lies _ rfl _ _ 34 rfl w.heap.size 71 i0 (.agg #[.int .u64 0, .string ByteArray.empty]) 2 24 Tryz.underlying34 hi hz0 hz1 hz2 rfl (by decide) u5 j _ rfl (HO3.out.alloc _) ⟨w3.heap.size, 0, none⟩ 1 1 [.int .u64 x1, .string x2] rfl rfl ?c1 ?c2 (by omega) ?c3 ?c4 ?c5 (w3.heap.size + 1) (by simp) ?_)
      case c1 =>
        intro i u hi
        match i, hi with
        | 0, hi => simp at hi; subst hi; simp [Addr.add]
        | 1, hi => simp at hi; subst hi; simp [Addr.add]
      case c2 => intro u hu; simp at hu; rcases hu with rfl | rfl <;> rfl
      case c3 => unfold maxLen; omega
      case c4 => omega
      case c5 => simp; omega
      intro g cap2 w4 hown' hgrow hat hlt'
      have hbw : w3.grownBy (w3.alloc (.cells #[.int .u64 x1, .string x2] 71)) (some R) := gb_any (gb_bel (bel1 _ _))
      have HG4 : Hid (w.grownBy w4 (some R)) := by
        refine ⟨hgrow.os.trans (hbw.os.trans HG3.out.os), hgrow.tape.trans (hbw.tape.trans HG3.out.tape), hgrow.output.trans (hbw.output.trans HG3.out.output), Nat.le_trans HG3.out.size (Nat.le_trans hbw.size hgrow.size), fun k hk hne => ?_⟩
        refine (hgrow.block k (by simp; omega) (fun e => ?_)).trans ((hbw.block k (by omega) hne).trans (HG3.out.block k hk hne))
        have := (HO3.out.lt k e.symm).1
        omega
      have HR4 : Hid (RdR R b o C vs (q + 1 + 3 * j + 3) w4) := by
        have hRa := HR3.out.grown (gb_bel (bel1 w3 (.cells #[.int .u64 x1, .string x2] 71)))
        obtain ⟨⟨vv, hvv, hff⟩, hii⟩ := hRa
        have far : ∀ k, k < w.heap.size → w4.heap[k]? = (w3.alloc (.cells #[.int .u64 x1, .string x2] 71)).heap[k]? := fun k hk => hgrow.block k (by simp; omega) (fun e => by have := (HO3.out.lt k e.symm).1; omega)
        refine ⟨⟨vv, (far R hR).trans hvv, hff⟩, ⟨hii.small, hii.room, hii.most, hii.wf, hii.low, fun i hl => ?_⟩⟩
        have hbb : b < R := hii.low.resolve_left (by omega)
        have e : ∀ z, w4.cell? ⟨b, z, none⟩ = (w3.alloc (.cells #[.int .u64 x1, .string x2] 71)).cell? ⟨b, z, none⟩ := fun z => World.cell?_of_block (a := ⟨b, z, none⟩) (far b (by omega))
        rw [e, e, e]
        exact hii.cells i hl
      have HX : Hid (w4.ownsRow w.heap.size 71 2 (.slice (some ⟨g, 0, none⟩) (j + 1) cap2) (j + 1) (paC vs (q + 1) (j + 1))) := by show World.ownsRow _ _ _ _ _ _ _; rw [HXS.out]; exact hown'
      clear hown' hgrow hat hlt' hbw
      go_wp2_with fail
      go_roundg (gk - 1)
      case rel => exact ⟨j + 1, by have := HJ.out; omega, by go_num, HX.out, (by rw [show q + 1 + 3 * (j + 1) = q + 1 + 3 * j + 3 by omega]; exact HR4.out), HG4.out⟩
      case measure => have := HJ.out; omega
    · have ej : j = m := by omega
      clear hlt
      subst ej
      go_wp2_with fail
      go_ret
      exact ⟨⟨_, rfl, HO.out⟩, HR.out, HG.out⟩
end Go.Proofs.YtelbmcgpelkakaaGreatDoor
namespace Go.Proofs.YtelbmcgpelkakaaGreatDoor
open Go.RowKit Go.Sort
set_option linter.unusedVariables false
/-- The parts of m from place q on, as cells. -/
def paV (vs : List It) (q m : Nat) : List Value := (List.range m).flatMap fun j => [.string (itS vs (q + 3 * j + 1)), .int .u64 (itN vs (q + 3 * j + 2))]
theorem paV_succ (vs : List It) (q m : Nat) : paV vs q (m + 1) = paV vs q m ++ [.string (itS vs (q + 3 * m + 1)), .int .u64 (itN vs (q + 3 * m + 2))] := by simp [paV, List.range_succ]
theorem paV_len (vs : List It) (q m : Nat) : (paV vs q m).length = m * 2 := by
  induction m with
  | zero => rfl
  | succ m ih => rw [paV_succ, List.length_append, ih]; simp; omega
theorem Tryz.szValidator : (Tryz.prog.info? 78).map (·.size) = some 2 := by kernel_rfl
theorem Tryz.infoValidator : (Tryz.prog.info? 78).map (fun i => (i.zero, i.size, i.bytes)) = some (some (.agg #[.string ByteArray.empty, .int .u64 0]), 2, 24) := by kernel_rfl

set_option maxRecDepth 100000 in
set_option maxHeartbeats 4000000 in
theorem partValidator_any (R b o C q : Nat) (vs : List It) (w : World) (h : RdR R b o C vs q w) (hl : q + 3 ≤ vs.length) : Calls Tryz.prog 65 #[.pointer (some ⟨R, 0, none⟩)] w fun e w' => e = .returned (.agg #[.string (itS vs (q + 1)), .int .u64 (itN vs (q + 2))]) ∧ RdR R b o C vs (q + 3) w' ∧ w.grownBy w' (some R) := by
  rw [itS_at (by omega), itN_at (by omega)]
  obtain ⟨x1, h1⟩ : ∃ x, (vs[q + 1]'(by omega)).s = x := ⟨_, rfl⟩
  obtain ⟨x2, h2⟩ : ∃ x, (vs[q + 2]'(by omega)).n = x := ⟨_, rfl⟩
  have HN0 : Hid (∀ w, RdR R b o C vs q w → Calls Tryz.prog 58 #[.pointer (some ⟨R, 0, none⟩)] w fun e w' => e = .returned (.tuple #[]) ∧ RdR R b o C vs (q + 1) w' ∧ w.grownBy w' (some R)) := fun w h => fieldsR_any R b o C q vs w h (by omega)
  have HN1 : Hid (∀ w, RdR R b o C vs (q + 1) w → Calls Tryz.prog 60 #[.pointer (some ⟨R, 0, none⟩)] w fun e w' => e = .returned (.string x1) ∧ RdR R b o C vs (q + 2) w' ∧ w.grownBy w' (some R)) := fun w h => by have := textR_any R b o C (q + 1) vs w h (by omega); rw [h1] at this; exact this
  have HN2 : Hid (∀ w, RdR R b o C vs (q + 2) w → Calls Tryz.prog 59 #[.pointer (some ⟨R, 0, none⟩)] w fun e w' => e = .returned (.int .u64 x2) ∧ RdR R b o C vs (q + 3) w' ∧ w.grownBy w' (some R)) := fun w h => by have := numberR_any R b o C (q + 2) vs w h (by omega); rw [h2] at this; exact this
  rw [h1, h2]
  obtain ⟨v, hv, _⟩ := h.cell
  have hR : R < w.heap.size := blk_lt hv
  obtain ⟨Z, hZ⟩ : ∃ Z : Obj, .cells #[.string ⟨#[]⟩, .int .u64 0] 78 = Z := ⟨_, rfl⟩
  have hb0 : Below w.heap.size w ((w.alloc Z).alloc Z) := ((Below.refl _ _).alloc (Nat.le_refl _) _).alloc (by simp) _
  have HR : Hid (RdR R b o C vs q ((w.alloc Z).alloc Z)) := h.grown (gb_bel hb0)
  have HG : Hid (w.grownBy ((w.alloc Z).alloc Z) (some R)) := gb_any (gb_bel hb0)
  have HB : Hid (((w.alloc Z).alloc Z).heap[w.heap.size + 1]? = some Z) := heap_alloc2_new w Z Z
  have HZ : Hid (((w.alloc Z).alloc Z).heap[w.heap.size]? = some Z) := by show _ = _; rw [Below.heap_alloc _ _ _ (by simp)]; exact heap_alloc_new w Z
  have hZs : w.heap.size < ((w.alloc Z).alloc Z).heap.size := by simp; omega
  have hHs : w.heap.size + 1 < ((w.alloc Z).alloc Z).heap.size := by simp
  subst hZ
  clear h hv h1 h2 hl hb0
  go_enter Tryz.func65, Tryz.ntmps65
  go_wp2_with fail
  obtain ⟨W, hW⟩ : ∃ W, (w.alloc (.cells #[.string ⟨#[]⟩, .int .u64 0] 78)).alloc (.cells #[.string ⟨#[]⟩, .int .u64 0] 78) = W := ⟨_, rfl⟩
  rw [hW] at HR HG HB HZ hZs hHs
  rw [hW]
  obtain ⟨H, hH⟩ : ∃ H, w.heap.size + 1 = H := ⟨_, rfl⟩
  rw [hH] at HB hHs
  rw [hH]
  have hH1 : w.heap.size < H := by omega
  clear hW hH
  refine (HN0.out _ HR.out).mono ?_
  rintro e w1 ⟨rfl, hr, hg⟩
  have HR1 : Hid (RdR R b o C vs (q + 1) w1) := hr
  have HG1 : Hid (w.grownBy w1 (some R)) := gb_trR HG.out hg
  have HB1 : Hid (w1.heap[H]? = some (.cells #[.string ⟨#[]⟩, .int .u64 0] 78 (0, 0))) := (hg.block H hHs (by simp; omega)).trans HB.out
  have HZ1 : Hid (w1.heap[w.heap.size]? = some (.cells #[.string ⟨#[]⟩, .int .u64 0] 78 (0, 0))) := (hg.block w.heap.size hZs (by simp; omega)).trans HZ.out
  have hs1 : W.heap.size ≤ w1.heap.size := hg.size
  clear hr hg
  go_wp2_with fail
  refine (HN1.out _ HR1.out).mono ?_
  rintro e w2a ⟨rfl, hr, hg⟩
  have hb : w2a.heap[H]? = some (.cells #[.string ⟨#[]⟩, .int .u64 0] 78 (0, 0)) := (hg.block H (by omega) (by simp; omega)).trans HB1.out
  have c0 : w2a.cell? ⟨H, 0, none⟩ = some (.string ⟨#[]⟩) := by rw [cell_of_row w2a H 0 _ _ _ hb]; rfl
  have f0 : w2a.frozen? ⟨H, 0, none⟩ = false := by simp [World.frozen?, hb]
  have HRa : Hid (RdR R b o C vs (q + 2) (w2a.setCell ⟨H, 0, none⟩ (.string x1))) := hr.set (by omega) _
  have HGa : Hid (w.grownBy (w2a.setCell ⟨H, 0, none⟩ (.string x1)) (some R)) := gb_new (gb_trR HG1.out hg) (by omega) _
  have HBa : Hid ((w2a.setCell ⟨H, 0, none⟩ (.string x1)).heap[H]? = some (.cells #[.string x1, .int .u64 0] 78 (0, 0))) := by rw [set_block (i := 0) hb]; rfl
  have HZa : Hid ((w2a.setCell ⟨H, 0, none⟩ (.string x1)).heap[w.heap.size]? = some (.cells #[.string ⟨#[]⟩, .int .u64 0] 78 (0, 0))) := by rw [Below.heap_setCell _ _ _ _ (by simp; omega)]; exact (hg.block w.heap.size (by omega) (by simp; omega)).trans HZ1.out
  have hsa : W.heap.size ≤ (w2a.setCell ⟨H, 0, none⟩ (.string x1)).heap.size := by have := hg.size; simp [World.setCell]; omega
  clear hr hg hb
  go_wp2_with fail
  obtain ⟨w2, hw'⟩ : ∃ W, w2a.setCell ⟨H, 0, none⟩ (.string x1) = W := ⟨_, rfl⟩
  rw [hw'] at HRa HGa HBa HZa hsa
  rw [hw']
  have HR2 := HRa
  have HG2 := HGa
  have HB2 := HBa
  have HZ2 := HZa
  have hs2 := hsa
  clear HRa HGa HBa HZa hsa hw' c0 f0
  refine (HN2.out _ HR2.out).mono ?_
  rintro e w3a ⟨rfl, hr, hg⟩
  have hb : w3a.heap[H]? = some (.cells #[.string x1, .int .u64 0] 78 (0, 0)) := (hg.block H (by omega) (by simp; omega)).trans HB2.out
  have c0 : w3a.cell? ⟨H, 1, none⟩ = some (.int .u64 0) := by rw [cell_of_row w3a H 1 _ _ _ hb]; rfl
  have f0 : w3a.frozen? ⟨H, 1, none⟩ = false := by simp [World.frozen?, hb]
  have HRa : Hid (RdR R b o C vs (q + 3) (w3a.setCell ⟨H, 1, none⟩ (.int .u64 x2))) := hr.set (by omega) _
  have HGa : Hid (w.grownBy (w3a.setCell ⟨H, 1, none⟩ (.int .u64 x2)) (some R)) := gb_new (gb_trR HG2.out hg) (by omega) _
  have HBa : Hid ((w3a.setCell ⟨H, 1, none⟩ (.int .u64 x2)).heap[H]? = some (.cells #[.string x1, .int .u64 x2] 78 (0, 0))) := by rw [set_block (i := 1) hb]; rfl
  have HZa : Hid ((w3a.setCell ⟨H, 1, none⟩ (.int .u64 x2)).heap[w.heap.size]? = some (.cells #[.string ⟨#[]⟩, .int .u64 0] 78 (0, 0))) := by rw [Below.heap_setCell _ _ _ _ (by simp; omega)]; exact (hg.block w.heap.size (by omega) (by simp; omega)).trans HZ2.out
  have hsa : W.heap.size ≤ (w3a.setCell ⟨H, 1, none⟩ (.int .u64 x2)).heap.size := by have := hg.size; simp [World.setCell]; omega
  clear hr hg hb
  have z0 : (w3a.setCell ⟨H, 1, none⟩ (.int .u64 x2)).cell? ⟨w.heap.size, 0, none⟩ = some (.string ⟨#[]⟩) := by rw [cell_of_row _ w.heap.size 0 _ _ _ HZa.out]; rfl
  have y0 : (w3a.setCell ⟨H, 1, none⟩ (.int .u64 x2)).frozen? ⟨w.heap.size, 0, none⟩ = false := by simp only [World.frozen?, HZa.out]; rfl
  have z1 : (w3a.setCell ⟨H, 1, none⟩ (.int .u64 x2)).cell? ⟨w.heap.size, 1, none⟩ = some (.int .u64 0) := by rw [cell_of_row _ w.heap.size 1 _ _ _ HZa.out]; rfl
  have y1 : (w3a.setCell ⟨H, 1, none⟩ (.int .u64 x2)).frozen? ⟨w.heap.size, 1, none⟩ = false := by simp only [World.frozen?, HZa.out]; rfl
  go_wp2_with (refine wpList_load_row rfl 78 _ rfl H rfl _ _ _ _ HBa.out Tryz.underlying78 rfl Tryz.szValidator ?_)
  exact bodyPost_ret (v := .agg #[.string x1, .int .u64 x2]) (results_cell_row Tryz.results65 _ _ w.heap.size _ _ _ _ rfl (set2 HZa.out) Tryz.underlying78 rfl Tryz.szValidator) rfl ⟨rfl, (HRa.out.set (by omega) _).set (by omega) _, gb_new (gb_new HGa.out (Nat.le_refl _) _) (Nat.le_refl _) _⟩
set_option maxRecDepth 100000 in
set_option maxHeartbeats 2000000 in
theorem readListValidator_any (R b o C q m : Nat) (vs : List It) (w : World) (h : RdR R b o C vs q w) (hq : q < vs.length) (hm : vs[q].n = m) (hl : q + 1 + 3 * m ≤ vs.length) (hm2 : m ≤ 1000) : Calls Tryz.prog 64 #[.pointer (some ⟨R, 0, none⟩), .func (.func 65) #[.pointer (some ⟨R, 0, none⟩)] #[]] w fun e w' => (∃ v, e = .returned v ∧ w'.ownsRow w.heap.size 78 2 v m (paV vs (q + 1) m)) ∧ RdR R b o C vs (q + 1 + 3 * m) w' ∧ w.grownBy w' (some R) := by
  obtain ⟨i0, hi, hz0, hz1, hz2⟩ := info_parts Tryz.infoValidator
  have HN : Hid (Calls Tryz.prog 59 #[.pointer (some ⟨R, 0, none⟩)] w fun e w' => e = .returned (.int .u64 (m : Nat)) ∧ RdR R b o C vs (q + 1) w' ∧ w.grownBy w' (some R)) := by have := numberR_any R b o C q vs w h hq; rw [hm] at this; exact this
  have HT : Hid (∀ (j : Nat) (hj : q + 1 + 3 * j + 3 ≤ vs.length) (w : World), RdR R b o C vs (q + 1 + 3 * j) w → Calls Tryz.prog 65 #[.pointer (some ⟨R, 0, none⟩)] w fun e w' => e = .returned (.agg #[.string (itS vs (q + 1 + 3 * j + 1)), .int .u64 (itN vs (q + 1 + 3 * j + 2))]) ∧ RdR R b o C vs (q + 1 + 3 * j + 3) w' ∧ w.grownBy w' (some R)) := fun j hj w h => partValidator_any R b o C (q + 1 + 3 * j) vs w h hj
  obtain ⟨v0, hv0, _⟩ := h.cell
  have hR : R < w.heap.size := blk_lt hv0
  clear h hv0 hm
  go_enter Tryz.func64, Tryz.ntmps64
  go_wp2_with fail
  refine Calls.mono HN.out ?_
  rintro e w1 ⟨rfl, hr1, hg1⟩
  have HR1 : Hid (RdR R b o C vs (q + 1) w1) := hr1
  have HG1 : Hid (w.grownBy w1 (some R)) := hg1
  clear hr1 hg1
  go_wp2_with fail
  go_loopg [5, 8] m (fun gk v i wr => ∃ j : Nat, j + gk = m ∧ i = .int .u64 j ∧ wr.ownsRow w.heap.size 78 2 v j (paV vs (q + 1) j) ∧ RdR R b o C vs (q + 1 + 3 * j) wr ∧ w.grownBy wr (some R))
  case atStart => exact ⟨0, by omega, rfl, World.ownsRow_nil _ _ _ _, HR1.out, HG1.out⟩
  case round =>
    obtain ⟨j, hj', rfl, hown, hr, hg⟩ := hrel
    have HJ : Hid (j + gk = m) := hj'
    have HO : Hid (wr.ownsRow w.heap.size 78 2 u5 j (paV vs (q + 1) j)) := hown
    have HR : Hid (RdR R b o C vs (q + 1 + 3 * j) wr) := hr
    have HG : Hid (w.grownBy wr (some R)) := hg
    have hj : j ≤ m := by omega
    have hsr : w.heap.size ≤ wr.heap.size := hg.size
    clear hj' hown hr hg
    by_cases hlt : j < m
    · obtain ⟨x1, hx1⟩ : ∃ x, (itS vs (q + 1 + 3 * j + 1)) = x := ⟨_, rfl⟩
      obtain ⟨x2, hx2⟩ : ∃ x, (itN vs (q + 1 + 3 * j + 2)) = x := ⟨_, rfl⟩
      have HC : Hid (Calls Tryz.prog 65 #[.pointer (some ⟨R, 0, none⟩)] wr fun e w' => e = .returned (.agg #[.string x1, .int .u64 x2]) ∧ RdR R b o C vs (q + 1 + 3 * j + 3) w' ∧ wr.grownBy w' (some R)) := by have := HT.out j (by omega) wr HR.out; rw [hx1, hx2] at this; exact this
      have HXS : Hid (paV vs (q + 1) (j + 1) = paV vs (q + 1) j ++ [.string x1, .int .u64 x2]) := by show _ = _; rw [paV_succ, hx1, hx2]
      clear hx1 hx2
      go_wp2_with fail
      refine Calls.mono HC.out ?_
      rintro e w3 ⟨rfl, hr3, hg3⟩
      have HR3 : Hid (RdR R b o C vs (q + 1 + 3 * j + 3) w3) := hr3
      have HG3 : Hid (w.grownBy w3 (some R)) := gb_trR HG.out hg3
      have HO3 : Hid (w3.ownsRow w.heap.size 78 2 u5 j (paV vs (q + 1) j)) := HO.out.kept hg3 (by
        cases hv : u5.ownBlock with
        | none => exact .inl rfl
        | some k => exact .inr (fun e => by cases e; have := (HO.out.lt R hv).1; omega))
      have hs3 : w.heap.size ≤ w3.heap.size := HG3.out.size
      clear hr3 hg3
      go_wp2_with (at_builtin; refine wpList_append_lies _ rfl _ _ 42 rfl w.heap.size 78 i0 (.agg #[.string ByteArray.empty, .int .u64 0]) 2 24 Tryz.underlying42 hi hz0 hz1 hz2 rfl (by decide) u5 j _ rfl (HO3.out.alloc _) ⟨w3.heap.size, 0, none⟩ 1 1 [.string x1, .int .u64 x2] rfl rfl ?c1 ?c2 (by omega) ?c3 ?c4 ?c5 (w3.heap.size + 1) (by simp) ?_)
      case c1 =>
        intro i u hi
        match i, hi with
        | 0, hi => simp at hi; subst hi; simp [Addr.add]
        | 1, hi => simp at hi; subst hi; simp [Addr.add]
      case c2 => intro u hu; simp at hu; rcases hu with rfl | rfl <;> rfl
      case c3 => unfold maxLen; omega
      case c4 => omega
      case c5 => simp; omega
      intro g cap2 w4 hown' hgrow hat hlt'
      have hbw : w3.grownBy (w3.alloc (.cells #[.string x1, .int .u64 x2] 78)) (some R) := gb_any (gb_bel (bel1 _ _))
      have HG4 : Hid (w.grownBy w4 (some R)) := by
        refine ⟨hgrow.os.trans (hbw.os.trans HG3.out.os), hgrow.tape.trans (hbw.tape.trans HG3.out.tape), hgrow.output.trans (hbw.output.trans HG3.out.output), Nat.le_trans HG3.out.size (Nat.le_trans hbw.size hgrow.size), fun k hk hne => ?_⟩
        refine (hgrow.block k (by simp; omega) (fun e => ?_)).trans ((hbw.block k (by omega) hne).trans (HG3.out.block k hk hne))
        have := (HO3.out.lt k e.symm).1
        omega
      have HR4 : Hid (RdR R b o C vs (q + 1 + 3 * j + 3) w4) := by
        have hRa := HR3.out.grown (gb_bel (bel1 w3 (.cells #[.string x1, .int .u64 x2] 78)))
        obtain ⟨⟨vv, hvv, hff⟩, hii⟩ := hRa
        have far : ∀ k, k < w.heap.size → w4.heap[k]? = (w3.alloc (.cells #[.string x1, .int .u64 x2] 78)).heap[k]? := fun k hk => hgrow.block k (by simp; omega) (fun e => by have := (HO3.out.lt k e.symm).1; omega)
        refine ⟨⟨vv, (far R hR).trans hvv, hff⟩, ⟨hii.small, hii.room, hii.most, hii.wf, hii.low, fun i hl => ?_⟩⟩
        have hbb : b < R := hii.low.resolve_left (by omega)
        have e : ∀ z, w4.cell? ⟨b, z, none⟩ = (w3.alloc (.cells #[.string x1, .int .u64 x2] 78)).cell? ⟨b, z, none⟩ := fun z => World.cell?_of_block (a := ⟨b, z, none⟩) (far b (by omega))
        rw [e, e, e]
        exact hii.cells i hl
      have HX : Hid (w4.ownsRow w.heap.size 78 2 (.slice (some ⟨g, 0, none⟩) (j + 1) cap2) (j + 1) (paV vs (q + 1) (j + 1))) := by show World.ownsRow _ _ _ _ _ _ _; rw [HXS.out]; exact hown'
      clear hown' hgrow hat hlt' hbw
      go_wp2_with fail
      go_roundg (gk - 1)
      case rel => exact ⟨j + 1, by have := HJ.out; omega, by go_num, HX.out, (by rw [show q + 1 + 3 * (j + 1) = q + 1 + 3 * j + 3 by omega]; exact HR4.out), HG4.out⟩
      case measure => have := HJ.out; omega
    · have ej : j = m := by omega
      clear hlt
      subst ej
      go_wp2_with fail
      go_ret
      exact ⟨⟨_, rfl, HO.out⟩, HR.out, HG.out⟩
end Go.Proofs.YtelbmcgpelkakaaGreatDoor
namespace Go.Proofs.YtelbmcgpelkakaaGreatDoor
open Go.RowKit Go.Sort
set_option linter.unusedVariables false
theorem Tryz.szVas : (Tryz.prog.info? 44).map (·.size) = some 2 := by kernel_rfl
set_option maxRecDepth 100000 in
set_option maxHeartbeats 4000000 in
theorem validatorsR_any (R b o C m : Nat) (vs : List It) (w : World) (h : RdR R b o C vs 0 w) (h5 : 2 < vs.length) (hm : vs[2].n = m) (hm16 : m ≤ 8) (hl : vs.length = 3 + 3 * m) : Calls Tryz.prog 43 #[.pointer (some ⟨R, 0, none⟩)] w fun e w' => (∃ ad cp, e = .returned (.agg #[.int .u64 vs[1].n, .slice ad m cp]) ∧ w'.ownsRow w.heap.size 78 2 (.slice ad m cp) m (paV vs 3 m)) ∧ w.grownBy w' (some R) := by
  obtain ⟨x1, h1⟩ : ∃ x, vs[1].n = x := ⟨_, rfl⟩
  have HN0 : Hid (∀ w, RdR R b o C vs 0 w → Calls Tryz.prog 58 #[.pointer (some ⟨R, 0, none⟩)] w fun e w' => e = .returned (.tuple #[]) ∧ RdR R b o C vs 1 w' ∧ w.grownBy w' (some R)) := fun w h => fieldsR_any R b o C 0 vs w h (by omega)
  have HN1 : Hid (∀ w, RdR R b o C vs 1 w → Calls Tryz.prog 59 #[.pointer (some ⟨R, 0, none⟩)] w fun e w' => e = .returned (.int .u64 x1) ∧ RdR R b o C vs 2 w' ∧ w.grownBy w' (some R)) := fun w h => by have := numberR_any R b o C 1 vs w h (by omega); rw [h1] at this; exact this
  have HN2 : Hid (∀ w, RdR R b o C vs 2 w → Calls Tryz.prog 64 #[.pointer (some ⟨R, 0, none⟩), .func (.func 65) #[.pointer (some ⟨R, 0, none⟩)] #[]] w fun e w' => (∃ v, e = .returned v ∧ w'.ownsRow w.heap.size 78 2 v m (paV vs 3 m)) ∧ RdR R b o C vs (3 + 3 * m) w' ∧ w.grownBy w' (some R)) := fun w h => readListValidator_any R b o C 2 m vs w h h5 hm (by omega) (by omega)
  rw [h1]
  obtain ⟨v, hv, _⟩ := h.cell
  have hR : R < w.heap.size := blk_lt hv
  obtain ⟨Z, hZ⟩ : ∃ Z : Obj, .cells #[.int .u64 0, .slice none 0 0] 44 = Z := ⟨_, rfl⟩
  have hb0 : Below w.heap.size w ((w.alloc Z).alloc Z) := ((Below.refl _ _).alloc (Nat.le_refl _) _).alloc (by simp) _
  have HR : Hid (RdR R b o C vs 0 ((w.alloc Z).alloc Z)) := h.grown (gb_bel hb0)
  have HG : Hid (w.grownBy ((w.alloc Z).alloc Z) (some R)) := gb_any (gb_bel hb0)
  have HB : Hid (((w.alloc Z).alloc Z).heap[w.heap.size + 1]? = some Z) := heap_alloc2_new w Z Z
  have HZ : Hid (((w.alloc Z).alloc Z).heap[w.heap.size]? = some Z) := by show _ = _; rw [Below.heap_alloc _ _ _ (by simp)]; exact heap_alloc_new w Z
  have hZs : w.heap.size < ((w.alloc Z).alloc Z).heap.size := by simp; omega
  have hHs : w.heap.size + 1 < ((w.alloc Z).alloc Z).heap.size := by simp
  subst hZ
  clear h hv h1 hl hm hb0
  go_enter Tryz.func43, Tryz.ntmps43
  go_wp2_with fail
  obtain ⟨W, hW⟩ : ∃ W, (w.alloc (.cells #[.int .u64 0, .slice none 0 0] 44)).alloc (.cells #[.int .u64 0, .slice none 0 0] 44) = W := ⟨_, rfl⟩
  rw [hW] at HR HG HB HZ hZs hHs
  rw [hW]
  obtain ⟨H, hH⟩ : ∃ H, w.heap.size + 1 = H := ⟨_, rfl⟩
  rw [hH] at HB hHs
  rw [hH]
  have hH1 : w.heap.size < H := by omega
  clear hW hH
  refine (HN0.out _ HR.out).mono ?_
  rintro e w1 ⟨rfl, hr, hg⟩
  have HR1 : Hid (RdR R b o C vs 1 w1) := hr
  have HG1 : Hid (w.grownBy w1 (some R)) := gb_trR HG.out hg
  have HB1 : Hid (w1.heap[H]? = some (.cells #[.int .u64 0, .slice none 0 0] 44 (0, 0))) := (hg.block H hHs (by simp; omega)).trans HB.out
  have HZ1 : Hid (w1.heap[w.heap.size]? = some (.cells #[.int .u64 0, .slice none 0 0] 44 (0, 0))) := (hg.block w.heap.size hZs (by simp; omega)).trans HZ.out
  have hs1 : W.heap.size ≤ w1.heap.size := hg.size
  clear hr hg
  go_wp2_with fail
  refine (HN1.out _ HR1.out).mono ?_
  rintro e w2a ⟨rfl, hr, hg⟩
  have hb : w2a.heap[H]? = some (.cells #[.int .u64 0, .slice none 0 0] 44 (0, 0)) := (hg.block H (by omega) (by simp; omega)).trans HB1.out
  have c0 : w2a.cell? ⟨H, 0, none⟩ = some (.int .u64 0) := by rw [cell_of_row w2a H 0 _ _ _ hb]; rfl
  have f0 : w2a.frozen? ⟨H, 0, none⟩ = false := by simp [World.frozen?, hb]
  have HRa : Hid (RdR R b o C vs 2 (w2a.setCell ⟨H, 0, none⟩ (.int .u64 x1))) := hr.set (by omega) _
  have HGa : Hid (w.grownBy (w2a.setCell ⟨H, 0, none⟩ (.int .u64 x1)) (some R)) := gb_new (gb_trR HG1.out hg) (by omega) _
  have HBa : Hid ((w2a.setCell ⟨H, 0, none⟩ (.int .u64 x1)).heap[H]? = some (.cells #[.int .u64 x1, .slice none 0 0] 44 (0, 0))) := by rw [set_block (i := 0) hb]; rfl
  have HZa : Hid ((w2a.setCell ⟨H, 0, none⟩ (.int .u64 x1)).heap[w.heap.size]? = some (.cells #[.int .u64 0, .slice none 0 0] 44 (0, 0))) := by rw [Below.heap_setCell _ _ _ _ (by simp; omega)]; exact (hg.block w.heap.size (by omega) (by simp; omega)).trans HZ1.out
  have hsa : W.heap.size ≤ (w2a.setCell ⟨H, 0, none⟩ (.int .u64 x1)).heap.size := by have := hg.size; simp [World.setCell]; omega
  clear hr hg hb
  go_wp2_with fail
  obtain ⟨w2, hw'⟩ : ∃ W, w2a.setCell ⟨H, 0, none⟩ (.int .u64 x1) = W := ⟨_, rfl⟩
  rw [hw'] at HRa HGa HBa HZa hsa
  rw [hw']
  have HR2 := HRa
  have HG2 := HGa
  have HB2 := HBa
  have HZ2 := HZa
  have hs2 := hsa
  clear HRa HGa HBa HZa hsa hw' c0 f0
  refine (HN2.out _ HR2.out).mono ?_
  rintro e w3a ⟨⟨v, rfl, ho⟩, hr, hg⟩
  obtain ⟨ad, cp, rfl⟩ : ∃ ad cp, v = .slice ad m cp := by
    rcases ho.2 with ⟨e1, e2⟩ | ⟨g, cap, cu, e1, _⟩
    · exact ⟨none, 0, by rw [e1, e2]⟩
    · exact ⟨_, cap, e1⟩
  have hb : w3a.heap[H]? = some (.cells #[.int .u64 x1, .slice none 0 0] 44 (0, 0)) := (hg.block H (by omega) (by simp; omega)).trans HB2.out
  have c0 : w3a.cell? ⟨H, 1, none⟩ = some (.slice none 0 0) := by rw [cell_of_row w3a H 1 _ _ _ hb]; rfl
  have f0 : w3a.frozen? ⟨H, 1, none⟩ = false := by simp [World.frozen?, hb]
  have HGa : Hid (w.grownBy (w3a.setCell ⟨H, 1, none⟩ (.slice ad m cp)) (some R)) := gb_new (gb_trR HG2.out hg) (by omega) _
  have HBa : Hid ((w3a.setCell ⟨H, 1, none⟩ (.slice ad m cp)).heap[H]? = some (.cells #[.int .u64 x1, .slice ad m cp] 44 (0, 0))) := by rw [set_block (i := 1) hb]; rfl
  have HZa : Hid ((w3a.setCell ⟨H, 1, none⟩ (.slice ad m cp)).heap[w.heap.size]? = some (.cells #[.int .u64 0, .slice none 0 0] 44 (0, 0))) := by rw [Below.heap_setCell _ _ _ _ (by simp; omega)]; exact (hg.block w.heap.size (by omega) (by simp; omega)).trans HZ2.out
  have HOa : Hid ((w3a.setCell ⟨H, 1, none⟩ (.slice ad m cp)).ownsRow w2.heap.size 78 2 (.slice ad m cp) m (paV vs 3 m)) := ownsRow_setCell_below ho (a := ⟨H, 1, none⟩) (by simp; omega) _
  have hw2 : w.heap.size < w2.heap.size := by omega
  clear hr hg hb ho
  have z0 : (w3a.setCell ⟨H, 1, none⟩ (.slice ad m cp)).cell? ⟨w.heap.size, 0, none⟩ = some (.int .u64 0) := by rw [cell_of_row _ w.heap.size 0 _ _ _ HZa.out]; rfl
  have y0 : (w3a.setCell ⟨H, 1, none⟩ (.slice ad m cp)).frozen? ⟨w.heap.size, 0, none⟩ = false := by simp only [World.frozen?, HZa.out]; rfl
  have z1 : (w3a.setCell ⟨H, 1, none⟩ (.slice ad m cp)).cell? ⟨w.heap.size, 1, none⟩ = some (.slice none 0 0) := by rw [cell_of_row _ w.heap.size 1 _ _ _ HZa.out]; rfl
  have y1 : (w3a.setCell ⟨H, 1, none⟩ (.slice ad m cp)).frozen? ⟨w.heap.size, 1, none⟩ = false := by simp only [World.frozen?, HZa.out]; rfl
  go_wp2_with (refine wpList_load_row rfl 44 _ rfl H rfl _ _ _ _ HBa.out Tryz.underlying44 rfl Tryz.szVas ?_)
  exact bodyPost_ret (v := .agg #[.int .u64 x1, .slice ad m cp]) (results_cell_row Tryz.results43 _ _ w.heap.size _ _ _ _ rfl (set2 HZa.out) Tryz.underlying44 rfl Tryz.szVas) rfl ⟨⟨ad, cp, rfl, own_down (ownsRow_setCell_below (ownsRow_setCell_below HOa.out (a := ⟨w.heap.size, 0, none⟩) hw2 _) (a := ⟨w.heap.size, 1, none⟩) hw2 _) (Nat.le_of_lt hw2)⟩, gb_new (gb_new HGa.out (Nat.le_refl _) _) (Nat.le_refl _) _⟩
end Go.Proofs.YtelbmcgpelkakaaGreatDoor
namespace Go.Proofs.YtelbmcgpelkakaaGreatDoor
open Go.RowKit Go.Sort
set_option linter.unusedVariables false
/-- What a reading of a proof answers. -/
def VaE (vs : List It) (base : Nat) (w' : World) (e : Ending) : Prop := if typedB (msgS 3) vs = true then ∃ ad cp, e = .returned (.tuple #[.agg #[.int .u64 (itN vs 1), .slice ad (itN vs 2) cp], .bool true]) ∧ w'.ownsRow base 78 2 (.slice ad (itN vs 2) cp) (itN vs 2) (paV vs 3 (itN vs 2)) else e = .returned (.tuple #[.agg #[.int .u64 0, .slice none 0 0], .bool false])
set_option maxRecDepth 100000 in
set_option maxHeartbeats 4000000 in
theorem toldValidators_any (R b o C : Nat) (vs : List It) (w : World) (h : RdR R b o C vs 0 w) (hw : EV w) : Calls Tryz.prog 42 #[.pointer (some ⟨R, 0, none⟩), .int .i64 3, .func (.func 43) #[.pointer (some ⟨R, 0, none⟩)] #[]] w fun e w' => VaE vs w.heap.size w' e ∧ w.grownBy w' (some R) := by
  obtain ⟨v, hv, hf⟩ := h.cell
  have hR : R < w.heap.size := blk_lt hv
  obtain ⟨Z, hZ⟩ : ∃ Z : Obj, .cells #[.int .u64 0, .slice none 0 0] 44 = Z := ⟨_, rfl⟩
  have hb0 : Below w.heap.size w (w.alloc Z) := bel1 _ _
  have h0 : RdR R b o C vs 0 (w.alloc Z) := h.grown (gb_bel hb0)
  have HR : Hid (RdR R b o C vs 0 (w.alloc Z)) := h0
  have HG : Hid (w.grownBy (w.alloc Z) (some R)) := gb_any (gb_bel hb0)
  have HZ : Hid ((w.alloc Z).heap[w.heap.size]? = some Z) := heap_alloc_new w Z
  have HE : Hid (EV (w.alloc Z)) := hw.below hb0
  have hZs : w.heap.size < (w.alloc Z).heap.size := by simp
  obtain ⟨ad, hv1, hv2⟩ := hf
  subst hv1
  simp only [Nat.sub_zero] at hv hv2
  have HI : Hid (IsItems (w.alloc Z).heap.size (w.alloc Z) (.slice ad vs.length C) vs) := ⟨b, o, C, h0.its.up (by simp; omega), ad, by simp, by simpa using hv2⟩
  have cR : (w.alloc Z).cell? ⟨R, 0, none⟩ = some (.slice ad vs.length C) := by rw [hb0.cell (p := ⟨R, 0, none⟩) hR, cell_of_row w R 0 _ _ _ hv]; rfl
  subst hZ
  clear h hw hv hv2 hb0 h0
  go_enter Tryz.func42, Tryz.ntmps42
  go_wp2_with fail
  obtain ⟨W, hW⟩ : ∃ W, w.alloc (.cells #[.int .u64 0, .slice none 0 0] 44) = W := ⟨_, rfl⟩
  rw [hW] at HR HG HZ HE HI hZs cR
  rw [hW]
  clear hW
  have HM : Hid (∀ w', Below W.heap.size W w' → Calls Tryz.prog 57 #[.int .i64 3] w' fun e w'' => ∃ v2, e = .returned v2 ∧ IsTyps w''.heap.size w'' v2 (msgS 3) ∧ Below W.heap.size W w'' ∧ w''.cell? ⟨R, 0, none⟩ = some (.slice ad vs.length C)) := fun w' hb => (implMsgSchema_any 3 w' (HE.out.below hb)).mono (by
    rintro e w'' ⟨⟨v2, rfl, _, hi⟩, hb'⟩
    have hB : Below W.heap.size W w'' := hb.trans (hb'.mono hb.size)
    exact ⟨v2, rfl, hi, hB, by rw [hB.cell (p := ⟨R, 0, none⟩) (by simp; omega)]; exact cR⟩)
  have HT : Hid (∀ (w2 w' : World) (v2 : Value), Below W.heap.size W w2 → IsTyps w2.heap.size w2 v2 (msgS 3) → Below w2.heap.size w2 w' → Calls Tryz.prog 56 #[v2, .slice ad vs.length C] w' fun e w'' => e = .returned (.bool (typedB (msgS 3) vs)) ∧ Below W.heap.size W w'') := fun w2 w' v2 hb hi hb' => by
    have hB : Below W.heap.size W w' := hb.trans (hb'.mono hb.size)
    refine (implTyped_any (msgS 3) vs v2 _ w' ((hi.below hb').up hb'.size) ((HI.out.below hB).upB hB.size) (HE.out.below hB).kin).mono ?_
    rintro e w'' ⟨rfl, hb2⟩
    exact ⟨rfl, hB.trans (hb2.mono hB.size)⟩
  cases hty : typedB (msgS 3) vs with
  | false =>
    have HRS : Hid (∀ base w', VaE vs base w' (.returned (.tuple #[.agg #[.int .u64 0, .slice none 0 0], .bool false]))) := fun base w' => by unfold VaE; rw [hty]; rfl
    rw [hty] at HT
    clear hty
    go_region_with (first | (go_at_call 57; refine (HM.out _ (by repeat (first | exact Below.refl _ _ | (refine Below.drew ?_)))).mono ?_; rintro e w2 ⟨v2, rfl, hi2, hb2, cR2⟩) | (go_at_call 56; refine (HT.out _ _ _ hb2 hi2 (by repeat (first | exact Below.refl _ _ | (refine Below.drew ?_)))).mono ?_; rintro e w3 ⟨rfl, hb3⟩))
    all_goals
      have HZ3 : Hid (w3.heap[w.heap.size]? = some (.cells #[.int .u64 0, .slice none 0 0] 44 (0, 0))) := (hb3.block w.heap.size hZs).trans HZ.out
      have HG3 : Hid (w.grownBy w3 (some R)) := gb_trR HG.out (gb_any (gb_bel hb3))
      have hz3 : w.heap.size < w3.heap.size := blk_lt HZ3.out
      have z0 : w3.cell? ⟨w.heap.size, 0, none⟩ = some (.int .u64 0) := by rw [cell_of_row _ w.heap.size 0 _ _ _ HZ3.out]; rfl
      have y0 : w3.frozen? ⟨w.heap.size, 0, none⟩ = false := by simp only [World.frozen?, HZ3.out]; rfl
      have z1 : w3.cell? ⟨w.heap.size, 1, none⟩ = some (.slice none 0 0) := by rw [cell_of_row _ w.heap.size 1 _ _ _ HZ3.out]; rfl
      have y1 : w3.frozen? ⟨w.heap.size, 1, none⟩ = false := by simp only [World.frozen?, HZ3.out]; rfl
      clear hb2 hi2 cR2 hb3 cR
      go_wp2_with fail
      exact bodyPost_ret (v := .tuple #[.agg #[.int .u64 0, .slice none 0 0], .bool false]) (results_cell_row2 Tryz.results42 _ _ w.heap.size _ _ _ _ rfl ((Below.heap_alloc _ _ _ (by simp only [World.setCell]; simp; exact hz3)).trans (set2 HZ3.out)) Tryz.underlying44 rfl Tryz.szVas) rfl ⟨HRS.out _ _, gb_trR (gb_new (gb_new HG3.out (Nat.le_refl _) _) (Nat.le_refl _) _) (gb_any (gb_bel (bel1 _ _)))⟩
  | true =>
    obtain ⟨h5, hm16, hl⟩ := validators_len hty
    obtain ⟨m, hm⟩ : ∃ m, vs[2].n = m := ⟨_, rfl⟩
    rw [hm] at hm16 hl
    obtain ⟨x1, h1⟩ : ∃ x, vs[1].n = x := ⟨_, rfl⟩
    have HRS : Hid (∀ base w' ad cp, w'.ownsRow base 78 2 (.slice ad m cp) m (paV vs 3 m) → VaE vs base w' (.returned (.tuple #[.agg #[.int .u64 x1, .slice ad m cp], .bool true]))) := fun base w' ad cp ho => by
      unfold VaE
      rw [hty]
      have e4 : itN vs 2 = m := by rw [itN_at h5, hm]
      rw [e4]
      exact ⟨ad, cp, by rw [itN_at (by omega), h1], ho⟩
    have HHR : Hid (∀ w3, RdR R b o C vs 0 w3 → Calls Tryz.prog 43 #[.pointer (some ⟨R, 0, none⟩)] w3 fun e w' => (∃ ad cp, e = .returned (.agg #[.int .u64 x1, .slice ad m cp]) ∧ w'.ownsRow w3.heap.size 78 2 (.slice ad m cp) m (paV vs 3 m)) ∧ w3.grownBy w' (some R)) := fun w3 h => by have := validatorsR_any R b o C m vs w3 h h5 hm hm16 hl; rw [h1] at this; exact this
    rw [hty] at HT
    clear hty h1 hl hm hm16 h5
    go_region_with (first | (go_at_call 57; refine (HM.out _ (by repeat (first | exact Below.refl _ _ | (refine Below.drew ?_)))).mono ?_; rintro e w2 ⟨v2, rfl, hi2, hb2, cR2⟩) | (go_at_call 56; refine (HT.out _ _ _ hb2 hi2 (by repeat (first | exact Below.refl _ _ | (refine Below.drew ?_)))).mono ?_; rintro e w3 ⟨rfl, hb3⟩))
    all_goals
      have HR3 : Hid (RdR R b o C vs 0 w3) := HR.out.grown (gb_bel hb3)
      have HZ3 : Hid (w3.heap[w.heap.size]? = some (.cells #[.int .u64 0, .slice none 0 0] 44 (0, 0))) := (hb3.block w.heap.size hZs).trans HZ.out
      have HG3 : Hid (w.grownBy w3 (some R)) := gb_trR HG.out (gb_any (gb_bel hb3))
      have hz3 : w.heap.size < w3.heap.size := blk_lt HZ3.out
      clear hb2 hi2 cR2 hb3 cR
      go_wp2_with fail
      refine (HHR.out _ HR3.out).mono ?_
      rintro e w4 ⟨⟨ad4, cp4, rfl, ho4⟩, hg4⟩
      have HO4 : Hid (w4.ownsRow w3.heap.size 78 2 (.slice ad4 m cp4) m (paV vs 3 m)) := ho4
      have HZ4 : Hid (w4.heap[w.heap.size]? = some (.cells #[.int .u64 0, .slice none 0 0] 44 (0, 0))) := (hg4.block w.heap.size hz3 (by simp; omega)).trans HZ3.out
      have HG4 : Hid (w.grownBy w4 (some R)) := gb_trR HG3.out hg4
      have z0 : w4.cell? ⟨w.heap.size, 0, none⟩ = some (.int .u64 0) := by rw [cell_of_row _ w.heap.size 0 _ _ _ HZ4.out]; rfl
      have y0 : w4.frozen? ⟨w.heap.size, 0, none⟩ = false := by simp only [World.frozen?, HZ4.out]; rfl
      have z1 : w4.cell? ⟨w.heap.size, 1, none⟩ = some (.slice none 0 0) := by rw [cell_of_row _ w.heap.size 1 _ _ _ HZ4.out]; rfl
      have y1 : w4.frozen? ⟨w.heap.size, 1, none⟩ = false := by simp only [World.frozen?, HZ4.out]; rfl
      clear hg4 ho4
      go_wp2_with fail
      exact bodyPost_ret (v := .tuple #[.agg #[.int .u64 x1, .slice ad4 m cp4], .bool true]) (results_cell_row2 Tryz.results42 _ _ w.heap.size _ _ _ _ rfl (set2 HZ4.out) Tryz.underlying44 rfl Tryz.szVas) rfl ⟨HRS.out _ _ _ _ (own_down (ownsRow_setCell_below (ownsRow_setCell_below HO4.out (a := ⟨w.heap.size, 0, none⟩) hz3 _) (a := ⟨w.heap.size, 1, none⟩) hz3 _) (Nat.le_of_lt hz3)), gb_new (gb_new HG4.out (Nat.le_refl _) _) (Nat.le_refl _) _⟩
end Go.Proofs.YtelbmcgpelkakaaGreatDoor
namespace Go.Proofs.YtelbmcgpelkakaaGreatDoor
open Go.RowKit Go.Sort
set_option linter.unusedVariables false
theorem VaE.set2 {vs : List It} {B : Nat} {w' : World} {e : Ending} (h : VaE vs (B + 2) w' e) (a b : Value) : VaE vs B ((w'.setCell ⟨B, 0, none⟩ a).setCell ⟨B, 1, none⟩ b) e := by
  unfold VaE at h ⊢
  split
  · rename_i ht
    rw [if_pos ht] at h
    obtain ⟨ad, cp, h1, h2⟩ := h
    have hlt : B < B + 2 := by omega
    exact ⟨ad, cp, h1, own_down (ownsRow_setCell_below (ownsRow_setCell_below h2 (a := ⟨B, 0, none⟩) hlt _) (a := ⟨B, 1, none⟩) hlt _) (by omega)⟩
  · rename_i ht
    rw [if_neg ht] at h
    exact h
set_option maxRecDepth 100000 in
set_option maxHeartbeats 2000000 in
theorem implValidatorsOf_any (vs : List It) (v : Value) (w : World) (hv : IsItems w.heap.size w v vs) (hw : EV w) : Calls Tryz.prog 20 #[v] w fun e w' => VaE vs w.heap.size w' e ∧ Below w.heap.size w w' := by
  obtain ⟨b, o, C, hi, ad, rfl, had⟩ := hv
  simp only [Nat.sub_zero] at had ⊢
  obtain ⟨Z, hZ⟩ : ∃ Z : Obj, .cells #[.int .u64 0, .slice none 0 0] 44 = Z := ⟨_, rfl⟩
  have hb0 : Below w.heap.size w ((w.alloc Z).alloc (.cells #[.slice ad vs.length C] 65)) := ((Below.refl _ _).alloc (Nat.le_refl _) _).alloc (by simp) _
  have HB0 : Hid (Below w.heap.size w ((w.alloc Z).alloc (.cells #[.slice ad vs.length C] 65))) := hb0
  have HZ : Hid (((w.alloc Z).alloc (.cells #[.slice ad vs.length C] 65)).heap[w.heap.size]? = some Z) := by show _ = _; rw [Below.heap_alloc _ _ _ (by simp)]; exact heap_alloc_new w Z
  have HR : Hid (RdR (w.heap.size + 1) b o C vs 0 ((w.alloc Z).alloc (.cells #[.slice ad vs.length C] 65))) := ⟨⟨.slice ad vs.length C, heap_alloc2_new w _ _, ad, by simp, by simpa using had⟩, (hi.below hb0).up (by omega)⟩
  have HE : Hid (EV ((w.alloc Z).alloc (.cells #[.slice ad vs.length C] 65))) := hw.below hb0
  subst hZ
  have hsz : ((w.alloc (.cells #[.int .u64 0, .slice none 0 0] 44)).alloc (.cells #[.slice ad vs.length C] 65)).heap.size = w.heap.size + 2 := by simp
  have HSZ : Hid (((w.alloc (.cells #[.int .u64 0, .slice none 0 0] 44)).alloc (.cells #[.slice ad vs.length C] 65)).heap.size = w.heap.size + 2) := hsz
  have HTD : Hid (Calls Tryz.prog 42 #[.pointer (some ⟨w.heap.size + 1, 0, none⟩), .int .i64 3, .func (.func 43) #[.pointer (some ⟨w.heap.size + 1, 0, none⟩)] #[]] ((w.alloc (.cells #[.int .u64 0, .slice none 0 0] 44)).alloc (.cells #[.slice ad vs.length C] 65)) fun e w' => (∃ (a : Nat) (pd : Option Addr) (pl pc : Nat) (q : Bool), e = .returned (.tuple #[.agg #[.int .u64 a, .slice pd pl pc], .bool q]) ∧ VaE vs (w.heap.size + 2) w' e) ∧ ((w.alloc (.cells #[.int .u64 0, .slice none 0 0] 44)).alloc (.cells #[.slice ad vs.length C] 65)).grownBy w' (some (w.heap.size + 1))) := by
    refine (toldValidators_any _ b o C vs _ HR.out HE.out).mono ?_
    rintro e w' ⟨he, hg⟩
    rw [HSZ.out] at he
    refine ⟨?_, hg⟩
    have hp := he
    unfold VaE at he
    split at he
    · obtain ⟨ad', cp', rfl, _⟩ := he
      exact ⟨_, _, _, _, _, rfl, hp⟩
    · subst he
      exact ⟨_, _, _, _, _, rfl, hp⟩
  clear hb0 hw hi had hsz
  go_enter Tryz.func20, Tryz.ntmps20
  go_wp2_with fail
  refine Calls.mono HTD.out ?_
  rintro e w3 ⟨⟨a, pd, pl, pc, q, rfl, hq⟩, hg⟩
  have HQ : Hid (VaE vs (w.heap.size + 2) w3 (.returned (.tuple #[.agg #[.int .u64 a, .slice pd pl pc], .bool q]))) := hq
  have HZ3 : Hid (w3.heap[w.heap.size]? = some (.cells #[.int .u64 0, .slice none 0 0] 44 (0, 0))) := (hg.block w.heap.size (by rw [HSZ.out]; omega) (by simp)).trans HZ.out
  have HB3 : Hid (Below w.heap.size w w3) := HB0.out.trans (bel_gb hg (by omega) (by rw [HSZ.out]; omega))
  have z0 : w3.cell? ⟨w.heap.size, 0, none⟩ = some (.int .u64 0) := by rw [cell_of_row _ w.heap.size 0 _ _ _ HZ3.out]; rfl
  have y0 : w3.frozen? ⟨w.heap.size, 0, none⟩ = false := by simp only [World.frozen?, HZ3.out]; rfl
  have z1 : w3.cell? ⟨w.heap.size, 1, none⟩ = some (.slice none 0 0) := by rw [cell_of_row _ w.heap.size 1 _ _ _ HZ3.out]; rfl
  have y1 : w3.frozen? ⟨w.heap.size, 1, none⟩ = false := by simp only [World.frozen?, HZ3.out]; rfl
  clear hg hq
  go_wp2_with fail
  exact bodyPost_ret (v := .tuple #[.agg #[.int .u64 a, .slice pd pl pc], .bool q]) (results_cell_row2 Tryz.results20 _ _ w.heap.size _ _ _ _ rfl (set2 HZ3.out) Tryz.underlying44 rfl Tryz.szVas) rfl ⟨(HQ.out.set2 _ _), (HB3.out.setCell (p := ⟨w.heap.size, 0, none⟩) (Nat.le_refl _) _).setCell (p := ⟨w.heap.size, 1, none⟩) (Nat.le_refl _) _⟩
end Go.Proofs.YtelbmcgpelkakaaGreatDoor
namespace Go.Proofs.YtelbmcgpelkakaaGreatDoor
open Go.RowKit Go.Sort
set_option linter.unusedVariables false
set_option maxRecDepth 100000 in
set_option maxHeartbeats 4000000 in
theorem specValidatorsOf_any (vs : List It) (v : Value) (w : World) (hv : IsItems w.heap.size w v vs) : Calls Tryz.prog 19 #[v] w fun e w' => VaE vs w.heap.size w' e ∧ Below w.heap.size w w' := by
  have HV : Hid (IsItems w.heap.size w v vs) := hv
  obtain ⟨b, o, C, hi, ad, rfl, had⟩ := hv
  simp only [Nat.sub_zero] at had HV ⊢
  obtain ⟨Z, hZ⟩ : ∃ Z : Obj, .cells #[.int .u64 0, .slice none 0 0] 44 = Z := ⟨_, rfl⟩
  have HB0 : Hid (Below w.heap.size w (w.alloc Z)) := bel1 _ _
  have HZ : Hid ((w.alloc Z).heap[w.heap.size]? = some Z) := heap_alloc_new w Z
  have hZs : w.heap.size < (w.alloc Z).heap.size := by simp
  subst hZ
  have hroom := hi.room
  have hmost := hi.most
  unfold maxLen at hmost
  have HIA : Hid (ItemsAt w.heap.size w b o C vs) := hi
  have HAD : Hid (vs.length ≤ 0 ∨ ad = some ⟨b, o + 0 * 3, none⟩) := had
  clear hi had
  go_enter Tryz.func19, Tryz.ntmps19
  go_wp2_with fail
  refine (specMsgSchema_any 3 _).mono ?_
  rintro e w2 ⟨⟨v2, rfl, _, hi2⟩, hb2⟩
  have HB2 : Hid (Below w.heap.size w w2) := HB0.out.trans (hb2.mono (by omega))
  have HI2 : Hid (IsTyps w2.heap.size w2 v2 (msgS 3)) := hi2
  have HZ2 : Hid (w2.heap[w.heap.size]? = some (.cells #[.int .u64 0, .slice none 0 0] 44 (0, 0))) := (hb2.block w.heap.size hZs).trans HZ.out
  clear hb2 hi2
  go_wp2_with fail
  refine (specTyped_any (msgS 3) vs v2 _ w2 HI2.out ((HV.out.below HB2.out).upB HB2.out.size)).mono ?_
  rintro e w3 ⟨rfl, hb3⟩
  have HB3 : Hid (Below w.heap.size w w3) := HB2.out.trans (hb3.mono HB2.out.size)
  have HZ3 : Hid (w3.heap[w.heap.size]? = some (.cells #[.int .u64 0, .slice none 0 0] 44 (0, 0))) := (hb3.block w.heap.size (blk_lt HZ2.out)).trans HZ2.out
  have hz3 : w.heap.size < w3.heap.size := blk_lt HZ3.out
  have z0 : w3.cell? ⟨w.heap.size, 0, none⟩ = some (.int .u64 0) := by rw [cell_of_row _ w.heap.size 0 _ _ _ HZ3.out]; rfl
  have y0 : w3.frozen? ⟨w.heap.size, 0, none⟩ = false := by simp only [World.frozen?, HZ3.out]; rfl
  have z1 : w3.cell? ⟨w.heap.size, 1, none⟩ = some (.slice none 0 0) := by rw [cell_of_row _ w.heap.size 1 _ _ _ HZ3.out]; rfl
  have y1 : w3.frozen? ⟨w.heap.size, 1, none⟩ = false := by simp only [World.frozen?, HZ3.out]; rfl
  clear hb3
  cases hty : typedB (msgS 3) vs with
  | false =>
    have HRS : Hid (∀ base w', VaE vs base w' (.returned (.tuple #[.agg #[.int .u64 0, .slice none 0 0], .bool false]))) := fun base w' => by unfold VaE; rw [hty]; rfl
    clear hty
    go_wp2_with fail
    exact bodyPost_ret (v := .tuple #[.agg #[.int .u64 0, .slice none 0 0], .bool false]) (results_cell_row2 Tryz.results19 _ _ w.heap.size _ _ _ _ rfl (set2 HZ3.out) Tryz.underlying44 rfl Tryz.szVas) rfl ⟨HRS.out _ _, (HB3.out.setCell (p := ⟨w.heap.size, 0, none⟩) (Nat.le_refl _) _).setCell (p := ⟨w.heap.size, 1, none⟩) (Nat.le_refl _) _⟩
  | true =>
    obtain ⟨h5, hm16, hl⟩ := validators_len hty
    obtain ⟨m, hm⟩ : ∃ m, vs[2].n = m := ⟨_, rfl⟩
    rw [hm] at hm16 hl
    obtain ⟨i0, hi, hz0, hz1, hz2⟩ := info_parts Tryz.infoValidator
    have had := HAD.out.resolve_left (by omega)
    simp only [Nat.zero_mul, Nat.add_zero] at had
    subst had
    have hi3 := HIA.out.below HB3.out
    have hbw0 : b < w.heap.size := hi3.low.resolve_left (by omega)
    have hbw : b < w3.heap.size := by omega
    have p1 := (hi3.cells 1 (by omega)).2.1
    obtain ⟨x1, h1⟩ : ∃ x, vs[1].n = x := ⟨_, rfl⟩
    have HRS : Hid (∀ base w' ad cp, w'.ownsRow base 78 2 (.slice ad m cp) m (paV vs 3 m) → VaE vs base w' (.returned (.tuple #[.agg #[.int .u64 x1, .slice ad m cp], .bool true]))) := fun base w' ad cp ho => by
      unfold VaE
      rw [hty]
      have e4 : itN vs 2 = m := by rw [itN_at h5, hm]
      rw [e4]
      exact ⟨ad, cp, by rw [itN_at (by omega), h1], ho⟩
    rw [h1] at p1
    have hl6 : 3 ≤ vs.length := by omega
    have HL : Hid (vs.length = 3 + 3 * m) := hl
    clear hty h1 hl hi3 hm h5
    go_wp2_with fail
    have HPW : Hid (((w3.alloc (.cells #[.int .u64 x1, .slice none 0 0] 44))).heap[w3.heap.size]? = some (.cells #[.int .u64 x1, .slice none 0 0] 44 (0, 0))) := heap_alloc_new w3 _
    have HZW : Hid (((w3.alloc (.cells #[.int .u64 x1, .slice none 0 0] 44))).heap[w.heap.size]? = some (.cells #[.int .u64 0, .slice none 0 0] 44 (0, 0))) := (Below.heap_alloc w3 _ _ hz3).trans HZ3.out
    have HBW : Hid (Below w.heap.size w ((w3.alloc (.cells #[.int .u64 x1, .slice none 0 0] 44)))) := (HB3.out.alloc (by omega) _)
    obtain ⟨W, hW⟩ : ∃ W, (w3.alloc (.cells #[.int .u64 x1, .slice none 0 0] 44)) = W := ⟨_, rfl⟩
    rw [hW] at HPW HZW HBW
    rw [hW]
    obtain ⟨P, hP⟩ : ∃ P, w3.heap.size = P := ⟨_, rfl⟩
    rw [hP] at HPW hz3 hbw
    rw [hP]
    clear hW hP p1 z0 z1 y0 y1
    go_wp2_with fail
    go_loopg [5] m (fun gk i wr => ∃ (j : Nat) (v : Value), j + gk = m ∧ i = .int .i64 ((3 + 3 * j : Nat) : Int) ∧ wr.heap[P]? = some (.cells #[.int .u64 x1, v] 44 (0, 0)) ∧ wr.heap[w.heap.size]? = some (.cells #[.int .u64 0, .slice none 0 0] 44 (0, 0)) ∧ wr.ownsRow (P + 1) 78 2 v j (paV vs 3 j) ∧ Below w.heap.size w wr)
    case atStart => exact ⟨0, _, by omega, rfl, HPW.out, HZW.out, World.ownsRow_nil _ _ _ _, HBW.out⟩
    case round =>
      obtain ⟨j, v, hj', rfl, hP, hZ, ho, hb⟩ := hrel
      obtain ⟨ad, cp, rfl⟩ : ∃ ad cp, v = .slice ad j cp := by
        rcases ho.2 with ⟨e1, e2⟩ | ⟨g, cap, cu, e1, _⟩
        · exact ⟨none, 0, by rw [e1, e2]⟩
        · exact ⟨_, cap, e1⟩
      have HJ : Hid (j + gk = m) := hj'
      have HP : Hid (wr.heap[P]? = some (.cells #[.int .u64 x1, .slice ad j cp] 44 (0, 0))) := hP
      have HZr : Hid (wr.heap[w.heap.size]? = some (.cells #[.int .u64 0, .slice none 0 0] 44 (0, 0))) := hZ
      have HO : Hid (wr.ownsRow (P + 1) 78 2 (.slice ad j cp) j (paV vs 3 j)) := ho
      have HB : Hid (Below w.heap.size w wr) := hb
      have hPr : P < wr.heap.size := blk_lt hP
      have cP : wr.cell? ⟨P, 1, none⟩ = some (.slice ad j cp) := by rw [cell_of_row wr P 1 _ _ _ hP]; rfl
      have hj : j ≤ m := by omega
      have hbr : b < wr.heap.size := by omega
      clear hj' hP hZ ho
      by_cases hlt : j < m
      · have hlen : 3 + 3 * j + 2 < vs.length := by have := HL.out; omega
        have cx1 := ((HIA.out.below hb).cells (3 + 3 * j + 1) (by omega)).2.2
        have cx2 := ((HIA.out.below hb).cells (3 + 3 * j + 2) (by omega)).2.1
        obtain ⟨y1, hy1⟩ : ∃ x, (vs[3 + 3 * j + 1]'(by omega)).s = x := ⟨_, rfl⟩
        obtain ⟨y2, hy2⟩ : ∃ x, (vs[3 + 3 * j + 2]'(by omega)).n = x := ⟨_, rfl⟩
        rw [hy1] at cx1
        rw [hy2] at cx2
        obtain ⟨K, hK⟩ : ∃ K : Nat, 3 + 3 * j = K := ⟨_, rfl⟩
        have HKE : Hid (3 + 3 * j = K) := hK
        have HXS : Hid (paV vs 3 (j + 1) = paV vs 3 j ++ [.string y1, .int .u64 y2]) := by show _ = _; rw [paV_succ, itS_at (by omega), itN_at (by omega), hy1, hy2]
        rw [hK] at cx1 cx2
        rw [hK]
        obtain ⟨K1, hK1⟩ : ∃ K1 : Nat, K + 1 = K1 := ⟨_, rfl⟩
        obtain ⟨K2, hK2⟩ : ∃ K2 : Nat, K + 2 = K2 := ⟨_, rfl⟩
        rw [hK1] at cx1
        rw [hK2] at cx2
        have e1 : (K : Int) + 1 = (K1 : Nat) := by omega
        have e2 : (K : Int) + 2 = (K2 : Nat) := by omega
        have e1w : IntKind.i64.wrap (K1 : Int) = (K1 : Int) := by rw [IntKind.wrap_i64]; omega
        have e2w : IntKind.i64.wrap (K2 : Int) = (K2 : Int) := by rw [IntKind.wrap_i64]; omega
        have hKl : K < vs.length := by omega
        have hKl1 : K1 < vs.length := by omega
        have hKl2 : K2 < vs.length := by omega
        clear hy1 hy2 hb hK hlen hK1 hK2
        go_wp2_with fail
        go_region_law (refine step_append_lies _ rfl (.tmp 23) (.tmp 37) 42 rfl (P + 1) 78 i0 (.agg #[.string ByteArray.empty, .int .u64 0]) 2 24 Tryz.underlying42 hi hz0 hz1 hz2 rfl (by decide) (.slice ad j cp) j (paV vs 3 j) (by simp [Act.eval]) ((show wr.drew.ownsRow (P + 1) 78 2 (.slice ad j cp) j (paV vs 3 j) from HO.out).alloc _) ⟨wr.heap.size, 0, none⟩ 1 1 [.string y1, .int .u64 y2] (by simp [Act.eval]) rfl (fun i u hu => by match i, hu with | 0, hu => (simp at hu; subst hu; simp [Addr.add]) | 1, hu => (simp at hu; subst hu; simp [Addr.add])) (fun u hu => by simp at hu; rcases hu with rfl | rfl <;> rfl) (by omega) (by unfold maxLen; omega) (by omega) (by simp; omega) (wr.heap.size + 1) (by simp) ?_; intro g cap2 w4 hown' hgrow hat hlt'; have cP4 : w4.cell? ⟨P, 1, none⟩ = some (.slice ad j cp) := (by rw [World.cell?_of_block (w := wr.alloc (.cells #[.string y1, .int .u64 y2] 78)) (a := ⟨P, 1, none⟩) (hgrow.block P (by simp; omega) (fun e => by have := (HO.out.lt P e.symm).1; omega)), (bel1 wr _).cell (p := ⟨P, 1, none⟩) hPr]; exact cP); have fP4 : w4.frozen? ⟨P, 1, none⟩ = false := (by have h0 := (hgrow.block P (by simp; omega) (fun e => by have := (HO.out.lt P e.symm).1; omega)).trans ((Below.heap_alloc wr _ _ hPr).trans HP.out); simp [World.frozen?, h0]))
        all_goals
          have hnP : some P ≠ (Value.slice ad j cp).ownBlock := fun e => by have := (HO.out.lt P e.symm).1; omega
          have hnZ : some w.heap.size ≠ (Value.slice ad j cp).ownBlock := fun e => by have := (HO.out.lt w.heap.size e.symm).1; omega
          have hP4 : w4.heap[P]? = some (.cells #[.int .u64 x1, .slice ad j cp] 44 (0, 0)) := (hgrow.block P (by simp; omega) hnP).trans ((Below.heap_alloc wr _ _ hPr).trans HP.out)
          have HP5 : Hid ((w4.setCell ⟨P, 1, none⟩ (.slice (some ⟨g, 0, none⟩) (j + 1) cap2)).heap[P]? = some (.cells #[.int .u64 x1, (.slice (some ⟨g, 0, none⟩) (j + 1) cap2)] 44 (0, 0))) := by rw [set_block (i := 1) hP4]; rfl
          have HZ5 : Hid ((w4.setCell ⟨P, 1, none⟩ (.slice (some ⟨g, 0, none⟩) (j + 1) cap2)).heap[w.heap.size]? = some (.cells #[.int .u64 0, .slice none 0 0] 44 (0, 0))) := by rw [Below.heap_setCell _ _ _ _ (by simp; omega)]; exact (hgrow.block w.heap.size (by simp; omega) hnZ).trans ((Below.heap_alloc wr _ _ (by omega)).trans HZr.out)
          have HO5 : Hid ((w4.setCell ⟨P, 1, none⟩ (.slice (some ⟨g, 0, none⟩) (j + 1) cap2)).ownsRow (P + 1) 78 2 (.slice (some ⟨g, 0, none⟩) (j + 1) cap2) (j + 1) (paV vs 3 (j + 1))) := ownsRow_setCell_below (by rw [HXS.out]; exact hown') (a := ⟨P, 1, none⟩) (by simp) _
          have HB5 : Hid (Below w.heap.size w (w4.setCell ⟨P, 1, none⟩ (.slice (some ⟨g, 0, none⟩) (j + 1) cap2))) := (((HB.out.drew).alloc (by show w.heap.size ≤ wr.heap.size; omega) _).grown hgrow (by simp; omega) (fun q hq => by have := (HO.out.lt q hq).1; omega)).setCell (p := ⟨P, 1, none⟩) (by simp; omega) _
          clear hown' hgrow hat hlt' hnP hnZ hP4 cP4 fP4 cx1 cx2 cP
          go_wp2_with fail
          go_roundg (gk - 1)
          case rel => exact ⟨j + 1, _, by have := HJ.out; omega, by have := HKE.out; first | go_num | (congr 1; omega), HP5.out, HZ5.out, HO5.out, HB5.out⟩
          case measure => have := HJ.out; omega
      · have ej : j = m := by omega
        have hKl : 3 + 3 * m = vs.length := by have := HL.out; omega
        have z0 : wr.cell? ⟨w.heap.size, 0, none⟩ = some (.int .u64 0) := by rw [cell_of_row _ w.heap.size 0 _ _ _ HZr.out]; rfl
        have y0 : wr.frozen? ⟨w.heap.size, 0, none⟩ = false := by simp only [World.frozen?, HZr.out]; rfl
        have z1 : wr.cell? ⟨w.heap.size, 1, none⟩ = some (.slice none 0 0) := by rw [cell_of_row _ w.heap.size 1 _ _ _ HZr.out]; rfl
        have y1 : wr.frozen? ⟨w.heap.size, 1, none⟩ = false := by simp only [World.frozen?, HZr.out]; rfl
        clear hlt cP hb
        subst ej
        rw [hKl]
        clear hKl
        go_wp2_with (refine wpList_load_row rfl 44 _ rfl P rfl _ _ _ _ HP.out Tryz.underlying44 rfl Tryz.szVas ?_)
        have hzP : w.heap.size < P + 1 := by omega
        exact bodyPost_ret (v := .tuple #[.agg #[.int .u64 x1, .slice ad j cp], .bool true]) (results_cell_row2 Tryz.results19 _ _ w.heap.size _ _ _ _ rfl (set2 HZr.out) Tryz.underlying44 rfl Tryz.szVas) rfl ⟨HRS.out _ _ _ _ (own_down (ownsRow_setCell_below (ownsRow_setCell_below HO.out (a := ⟨w.heap.size, 0, none⟩) hzP _) (a := ⟨w.heap.size, 1, none⟩) hzP _) (by omega)), (HB.out.setCell (p := ⟨w.heap.size, 0, none⟩) (Nat.le_refl _) _).setCell (p := ⟨w.heap.size, 1, none⟩) (Nat.le_refl _) _⟩
end Go.Proofs.YtelbmcgpelkakaaGreatDoor
namespace Go.Proofs.YtelbmcgpelkakaaGreatDoor
open Go.RowKit Go.Sort
set_option linter.unusedVariables false
theorem paV_at (vs : List It) (q : Nat) : ∀ (m j : Nat), j < m → (paV vs q m)[j * 2]? = some (.string (itS vs (q + 3 * j + 1))) ∧ (paV vs q m)[j * 2 + 1]? = some (.int .u64 (itN vs (q + 3 * j + 2)))
  | 0, j, h => by omega
  | m + 1, j, h => by
    rw [paV_succ]
    by_cases e : j = m
    · subst e
      rw [List.getElem?_append_right (by rw [paV_len]; omega), List.getElem?_append_right (by rw [paV_len]; omega), paV_len]
      exact ⟨by simp, by simp⟩
    · rw [List.getElem?_append_left (by rw [paV_len]; omega), List.getElem?_append_left (by rw [paV_len]; omega)]
      exact paV_at vs q m j (by omega)
theorem duo_cells {w : World} {N : Nat} {u0 u1 : Value} {T : TypeId} (h : w.heap[N]? = some (.cells #[u0, u1] T (0, 0))) : w.cell? ⟨N, 0, none⟩ = some u0 ∧ w.cell? ⟨N, 1, none⟩ = some u1 := by
  refine ⟨by rw [cell_of_row w N 0 _ _ _ h]; simp, by rw [cell_of_row w N 1 _ _ _ h]; simp⟩
/-- A row of validators of which the first j bear their marks. -/
def MkPv (k n : Nat) (w : World) (g j : Nat) : Prop := ∃ cs : Array Value, w.heap[g]? = some (.cells cs 78 (0, 0)) ∧ n * 2 ≤ cs.size ∧
  (∀ i, i < j → cs[i * 2]? = some (.string (mkT (k + 2 * i))) ∧ cs[i * 2 + 1]? = some (.int .u64 ((k + 2 * i + 1 : Nat) : Int))) ∧
  ∀ i, i < n → (∃ z, cs[i * 2]? = some (.string z)) ∧ ∃ z, cs[i * 2 + 1]? = some (.int .u64 z)
theorem MkPv.cell {k n g j : Nat} {w : World} (h : MkPv k n w g j) {i : Nat} (hi : i < n) : ((∃ z, w.cell? ⟨g, i * 2, none⟩ = some (.string z)) ∧ ∃ z, w.cell? ⟨g, i * 2 + 1, none⟩ = some (.int .u64 z)) ∧ ∀ m, w.frozen? ⟨g, m, none⟩ = false := by
  obtain ⟨cs, h1, h2, h3, h4⟩ := h
  obtain ⟨a, b⟩ := h4 i hi
  refine ⟨⟨?_, ?_⟩, fun m => by simp [World.frozen?, h1]⟩
  · obtain ⟨z, hz⟩ := a; exact ⟨z, by rw [cell_of_row w g _ cs _ _ h1]; exact hz⟩
  · obtain ⟨z, hz⟩ := b; exact ⟨z, by rw [cell_of_row w g _ cs _ _ h1]; exact hz⟩
theorem MkPv.keep {k n g j : Nat} {w w' : World} (h : MkPv k n w g j) (hb : w'.heap[g]? = w.heap[g]?) : MkPv k n w' g j := by
  obtain ⟨cs, h1, h2⟩ := h
  exact ⟨cs, hb.trans h1, h2⟩
theorem MkPv.set0 {k n g j : Nat} {w : World} (h : MkPv k n w g j) (hj : j < n) (x : Value) (i : Nat) (hi : i = 0 ∧ (∃ z, x = .string z) ∨ i = 1 ∧ (∃ z, x = .int .u64 z)) : MkPv k n (w.setCell ⟨g, j * 2 + i, none⟩ x) g j ∧ (w.setCell ⟨g, j * 2 + i, none⟩ x).cell? ⟨g, j * 2 + i, none⟩ = some x := by
  obtain ⟨cs, h1, h2, h3, h4⟩ := h
  have e1 := set_block (i := j * 2 + i) h1 x
  have hlt : j * 2 + i < cs.size := by omega
  refine ⟨⟨_, e1, by simpa using h2, fun q hq => ?_, fun q hq => ?_⟩, ?_⟩
  · rw [Array.getElem?_setIfInBounds_ne (by omega), Array.getElem?_setIfInBounds_ne (by omega)]
    exact h3 q hq
  · obtain ⟨a, b⟩ := h4 q hq
    by_cases e : q = j
    · subst e
      rcases hi with ⟨rfl, z, rfl⟩ | ⟨rfl, z, rfl⟩
      · exact ⟨⟨z, Array.getElem?_setIfInBounds_self_of_lt (by omega)⟩, by rw [Array.getElem?_setIfInBounds_ne (by omega)]; exact b⟩
      · exact ⟨by rw [Array.getElem?_setIfInBounds_ne (by omega)]; exact a, ⟨z, Array.getElem?_setIfInBounds_self_of_lt (by omega)⟩⟩
    · rw [Array.getElem?_setIfInBounds_ne (by omega), Array.getElem?_setIfInBounds_ne (by omega)]
      exact ⟨a, b⟩
  · rw [cell_of_row _ g _ _ _ _ e1, Array.getElem?_setIfInBounds_self_of_lt (by omega)]
theorem MkPv.more {k n g j : Nat} {w : World} (h : MkPv k n w g j) (c0 : w.cell? ⟨g, j * 2, none⟩ = some (.string (mkT (k + 2 * j)))) (c1 : w.cell? ⟨g, j * 2 + 1, none⟩ = some (.int .u64 ((k + 2 * j + 1 : Nat) : Int))) : MkPv k n w g (j + 1) := by
  obtain ⟨cs, h1, h2, h3, h4⟩ := h
  rw [cell_of_row w g _ cs _ _ h1] at c0 c1
  refine ⟨cs, h1, h2, fun i hi => ?_, h4⟩
  by_cases e : i = j
  · subst e; exact ⟨c0, c1⟩
  · exact h3 i (by omega)
/-- A slice of validators, of which the first j bear their marks, in a block from B on. -/
def MkQv (k n j B : Nat) (w : World) (v : Value) : Prop := ∃ (ad : Option Addr) (cap : Nat), v = .slice ad n cap ∧ n ≤ cap ∧ cap ≤ maxLen ∧ (n = 0 ∨ ∃ g, ad = some ⟨g, 0, none⟩ ∧ B ≤ g ∧ g < w.heap.size ∧ MkPv k n w g j)
theorem MkQv.below {k n j B : Nat} {w w' : World} {v : Value} (h : MkQv k n j B w v) (hb : Below w.heap.size w w') : MkQv k n j B w' v := by
  obtain ⟨ad, cap, h1, h2, h3, h4⟩ := h
  refine ⟨ad, cap, h1, h2, h3, ?_⟩
  rcases h4 with h4 | ⟨g, a1, a2, a3, a4⟩
  · exact .inl h4
  · exact .inr ⟨g, a1, a2, by have := hb.size; omega, a4.keep (hb.block g a3)⟩
theorem MkQv.start {k B n : Nat} {w : World} {v : Value} {vs : List It} {q : Nat} (h : w.ownsRow B 78 2 v n (paV vs q n)) : MkQv k n 0 B w v := by
  rcases h.2 with ⟨rfl, h0⟩ | ⟨g, cap, cur, rfl, hg, hh, h1, h2, h3, h4⟩
  · exact ⟨none, 0, by rw [h0], by omega, by simp [maxLen], .inl h0⟩
  · have key : ∀ m, m < n * 2 → cur[m]? = (paV vs q n)[m]? := fun m hm => by
      have e : (cur.toList.take (n * 2))[m]? = cur.toList[m]? := by rw [List.getElem?_take, if_pos hm]
      rw [h4] at e
      simpa using e.symm
    refine ⟨_, cap, rfl, h1, h2, .inr ⟨g, rfl, hg, blk_lt hh, cur, hh, by omega, fun i hi => by omega, fun i hi => ?_⟩⟩
    obtain ⟨a, b⟩ := paV_at vs q n i hi
    exact ⟨⟨_, by rw [key _ (by omega)]; exact a⟩, ⟨_, by rw [key _ (by omega)]; exact b⟩⟩
theorem own_atV {B : Nat} {w : World} {ad : Option Addr} {n cap q : Nat} {vs : List It} (h : w.ownsRow B 78 2 (.slice ad n cap) n (paV vs q n)) {j : Nat} (hj : j < n) : ∃ g, ad = some ⟨g, 0, none⟩ ∧ g < w.heap.size ∧ w.cell? ⟨g, j * 2, none⟩ = some (.string (itS vs (q + 3 * j + 1))) ∧ w.cell? ⟨g, j * 2 + 1, none⟩ = some (.int .u64 (itN vs (q + 3 * j + 2))) := by
  rcases h.2 with ⟨_, h0⟩ | ⟨g, cap', cur, hv, hg, hh, _⟩
  · omega
  · cases hv
    obtain ⟨a, b⟩ := paV_at vs q n j hj
    refine ⟨g, rfl, blk_lt hh, ?_, ?_⟩
    · rw [World.ownsRow.cellAt h (j * 2) (by omega)]; exact a
    · rw [World.ownsRow.cellAt h (j * 2 + 1) (by omega)]; exact b
set_option maxHeartbeats 400000 in
theorem eqValidator_same (k : Nat) (s : ByteArray) (w : World) : Calls Tryz.prog 66 #[.agg #[.string s, .int .u64 k], .agg #[.string s, .int .u64 k]] w fun e w' => e = .returned (.bool true) ∧ Below w.heap.size w w' := by
  have hs : (s.toList == s.toList) = true := by simp
  go_enter Tryz.func66, Tryz.ntmps66
  go_wp2
  go_ret
  exact ⟨rfl, bel2 _ _ _⟩
set_option maxRecDepth 100000 in
set_option maxHeartbeats 1000000 in
theorem eqValidatorS_same (n q : Nat) (vs : List It) (B B' : Nat) (ad ad' : Option Addr) (cap cap' : Nat) (w : World) (hl : n ≤ 1000) (hv : w.ownsRow B 78 2 (.slice ad n cap) n (paV vs q n)) (hv' : w.ownsRow B' 78 2 (.slice ad' n cap') n (paV vs q n)) : Calls Tryz.prog 44 #[.slice ad n cap, .slice ad' n cap'] w fun e w' => e = .returned (.bool true) ∧ Below w.heap.size w w' := by
  have HV : Hid (w.ownsRow B 78 2 (.slice ad n cap) n (paV vs q n)) := hv
  have HV' : Hid (w.ownsRow B' 78 2 (.slice ad' n cap') n (paV vs q n)) := hv'
  clear hv hv'
  go_enter Tryz.func44, Tryz.ntmps44
  go_wp2_with fail
  go_loopg [5] n (fun gk i wr => ∃ j : Nat, j + gk = n ∧ i = .int .i64 j ∧ Below w.heap.size w wr)
  case atStart => exact ⟨0, by omega, rfl, Below.refl _ _⟩
  case round =>
    obtain ⟨j, hj', rfl, hb⟩ := hrel
    have HJ : Hid (j + gk = n) := hj'
    have hj : j ≤ n := by omega
    clear hj'
    by_cases hlt : j < n
    · have HB : Hid (Below w.heap.size w wr) := hb
      obtain ⟨g, rfl, hg, c0, c1⟩ := own_atV (World.ownsRow.kept HV.out (gb_bel hb) (by cases (Value.slice ad n cap).ownBlock <;> simp)) hlt
      obtain ⟨g', rfl, hg', c0', c1'⟩ := own_atV (World.ownsRow.kept HV'.out (gb_bel hb) (by cases (Value.slice ad' n cap').ownBlock <;> simp)) hlt
      generalize itS vs (q + 3 * j + 1) = y at c0 c0'
      generalize itN vs (q + 3 * j + 2) = x at c1 c1'
      have r0 := cells_re c0
      have r1 := cells_re c1
      have r0' := cells_re c0'
      have r1' := cells_re c1'
      have HC : Hid (∀ w, Calls Tryz.prog 66 #[.agg #[.string y, .int .u64 x], .agg #[.string y, .int .u64 x]] w fun e w' => e = .returned (.bool true) ∧ Below w.heap.size w w') := fun w => eqValidator_same x y w
      clear c0 c0' c1 c1' hb
      go_wp2_with fail
      refine wp_region_quiet_below (by kernel_rfl) (by kernel_rfl) ?_
      repeat (go_big_quiet_step (exact Calls.regrown_of (HC.out _)))
      refine wpQuiet_nil ?_
      intro w6 hw'
      obtain ⟨⟨dq, osq⟩, hw''⟩ := hw'
      have HB2 : Hid (Below w.heap.size w w6) := by show Below _ _ _; rw [hw'']; exact HB.out.trans ((below_regrown _ dq osq).mono HB.out.size)
      clear hw'' r0 r0' r1 r1'
      go_wp2_with fail
      go_roundg (gk - 1)
      case rel => exact ⟨j + 1, by have := HJ.out; omega, by go_num, HB2.out⟩
      case measure => have := HJ.out; omega
    · have e1 : j = n := by omega
      subst e1
      go_wp2_with fail
      go_ret
      exact ⟨rfl, hb⟩
set_option maxRecDepth 100000 in
set_option maxHeartbeats 2000000 in
theorem markValidatorS_any (k n B : Nat) (v : Value) (w : World) (hk1 : 1 ≤ k) (hk : k ≤ 10000) (hl : n ≤ 1000) (hv : MkQv k n 0 B w v) : Calls Tryz.prog 45 #[v, .int .i64 k] w fun e w' => (e = .returned (.int .i64 ((k + 2 * n : Nat) : Int)) ∧ MkQv k n n B w' v) ∧ w.grownBy w' v.ownBlock := by
  obtain ⟨ad, cap, rfl, h1, h2, h4⟩ := hv
  unfold maxLen at h2
  rcases h4 with h0 | ⟨g, rfl, hg, hgw, hm0⟩
  · subst h0
    have HX : Hid (MkQv k 0 0 B w (.slice ad 0 cap)) := ⟨ad, cap, rfl, h1, by unfold maxLen; exact h2, .inl rfl⟩
    go_enter Tryz.func45, Tryz.ntmps45
    go_wp2_with fail
    go_loopg [1, 5] 1 (fun gk kv i wr => kv = .int .i64 k ∧ i = .int .i64 0 ∧ wr = w)
    case atStart => exact ⟨rfl, rfl, rfl⟩
    case round =>
      obtain ⟨rfl, rfl, hw⟩ := hrel
      subst hw
      go_wp2_with fail
      go_ret
      exact ⟨⟨by simp, HX.out⟩, mk_refl _ _⟩
  · go_enter Tryz.func45, Tryz.ntmps45
    go_wp2_with fail
    go_loopg [1, 5] n (fun gk kv i wr => ∃ j : Nat, j + gk = n ∧ i = .int .i64 j ∧ kv = .int .i64 ((k + 2 * j : Nat) : Int) ∧ MkPv k n wr g j ∧ w.grownBy wr (some g) ∧ g < wr.heap.size)
    case atStart => exact ⟨0, by omega, rfl, by simp, hm0, mk_refl _ _, hgw⟩
    case round =>
      obtain ⟨j, hj', rfl, rfl, hm, hb, hgr⟩ := hrel
      have HJ : Hid (j + gk = n) := hj'
      have HM : Hid (MkPv k n wr g j) := hm
      have HB : Hid (w.grownBy wr (some g)) := hb
      have hj : j ≤ n := by omega
      clear hj' hb hm0
      by_cases hlt : j < n
      · obtain ⟨K, hK⟩ : ∃ K : Nat, k + 2 * j = K := ⟨_, rfl⟩
        have hK2 : K ≤ 20000 := by omega
        have hK1 : 1 ≤ K := by omega
        have HKE : Hid (k + 2 * j = K) := hK
        have HT : Hid (∀ w, Calls Tryz.prog 39 #[.int .i64 (K : Int)] w fun e w' => e = .returned (.string (mkT K)) ∧ Below w.heap.size w w') := fun w => markText_any K w (by omega) (by omega)
        rw [hK]
        clear hm hK
        go_wp2_with fail
        refine (HT.out _).mono ?_
        rintro e w2 ⟨rfl, hb2⟩
        have hM3 := HM.out.keep (hb2.block g hgr)
        have hgs : g < w2.heap.size := by have := hb2.size; omega
        obtain ⟨⟨⟨y1, c1⟩, _⟩, f1⟩ := hM3.cell hlt
        have f1' := f1 (j * 2)
        obtain ⟨m4, d1⟩ := hM3.set0 hlt (.string (mkT K)) 0 (.inl ⟨rfl, _, rfl⟩)
        rw [Nat.add_zero] at m4 d1
        obtain ⟨⟨_, ⟨y2, c2⟩⟩, f2⟩ := m4.cell hlt
        have f2' := f2 (j * 2 + 1)
        obtain ⟨m5, d2⟩ := m4.set0 hlt (.int .u64 ((K : Int) + 1)) 1 (.inr ⟨rfl, _, rfl⟩)
        have hke := HKE.out
        have HM5 : Hid (MkPv k n ((w2.setCell ⟨g, j * 2, none⟩ (.string (mkT K))).setCell ⟨g, j * 2 + 1, none⟩ (.int .u64 ((K : Int) + 1))) g (j + 1)) := m5.more (by rw [World.cell?_setCell_other _ _ _ _ (by simp), hke]; exact d1) (by rw [hke, d2]; simp)
        have HB5 : Hid (w.grownBy ((w2.setCell ⟨g, j * 2, none⟩ (.string (mkT K))).setCell ⟨g, j * 2 + 1, none⟩ (.int .u64 ((K : Int) + 1))) (some g)) := mk_set (mk_set (mk_full HB.out hb2) _ _) _ _
        have HG5 : Hid (g < ((w2.setCell ⟨g, j * 2, none⟩ (.string (mkT K))).setCell ⟨g, j * 2 + 1, none⟩ (.int .u64 ((K : Int) + 1))).heap.size) := by show _ < _; simp [World.setCell]; omega
        clear hb2 hM3 f1 f2 m4 m5 d1 d2 hke
        go_wp2_with fail
        go_roundg (gk - 1)
        case rel => exact ⟨j + 1, by have := HJ.out; omega, by go_num, by have := HKE.out; first | go_num | (congr 1; omega), HM5.out, HB5.out, HG5.out⟩
        case measure => have := HJ.out; omega
      · have ej : j = n := by omega
        have HX : Hid (MkQv k n n B wr (.slice (some ⟨g, 0, none⟩) n cap)) := ⟨_, cap, rfl, h1, by unfold maxLen; exact h2, .inr ⟨g, rfl, hg, hgr, by have := HM.out; rw [ej] at this; exact this⟩⟩
        clear hm hlt
        subst ej
        go_wp2_with fail
        go_ret
        exact ⟨⟨rfl, HX.out⟩, HB.out⟩
set_option maxRecDepth 100000 in
set_option maxHeartbeats 2000000 in
theorem heldValidatorS_any (k n B : Nat) (v : Value) (w : World) (hk1 : 1 ≤ k) (hk : k ≤ 10000) (hl : n ≤ 1000) (hv : MkQv k n n B w v) : Calls Tryz.prog 46 #[v, .int .i64 k] w fun e w' => e = .returned (.int .i64 ((k + 2 * n : Nat) : Int)) ∧ Below w.heap.size w w' := by
  obtain ⟨ad, cap, rfl, h1, h2, h4⟩ := hv
  unfold maxLen at h2
  have HV : Hid (n = 0 ∨ ∃ g, ad = some ⟨g, 0, none⟩ ∧ B ≤ g ∧ g < w.heap.size ∧ MkPv k n w g n) := h4
  clear h4
  go_enter Tryz.func46, Tryz.ntmps46
  go_wp2_with fail
  go_loopg [1, 5] n (fun gk kv i wr => ∃ j : Nat, j + gk = n ∧ i = .int .i64 j ∧ kv = .int .i64 ((k + 2 * j : Nat) : Int) ∧ Below w.heap.size w wr)
  case atStart => exact ⟨0, by omega, rfl, by simp, Below.refl _ _⟩
  case round =>
    obtain ⟨j, hj', rfl, rfl, hb⟩ := hrel
    have HJ : Hid (j + gk = n) := hj'
    have HB : Hid (Below w.heap.size w wr) := hb
    have hj : j ≤ n := by omega
    clear hj'
    by_cases hlt : j < n
    · rcases HV.out with h0 | ⟨g, rfl, _, hgw, cs, b1, b2, b3, _⟩
      · omega
      · obtain ⟨K, hK⟩ : ∃ K : Nat, k + 2 * j = K := ⟨_, rfl⟩
        have hK2 : K ≤ 20000 := by omega
        have HKE : Hid (k + 2 * j = K) := hK
        obtain ⟨a0, a1⟩ := b3 j hlt
        rw [hK] at a0 a1 ⊢
        have e : ∀ i, wr.cell? ⟨g, i, none⟩ = cs[i]? := fun i => by rw [hb.cell (p := ⟨g, i, none⟩) hgw]; exact cell_of_row w g i cs _ _ b1
        have c0 : wr.cell? ⟨g, j * 2, none⟩ = some (.string (mkT K)) := by rw [e]; exact a0
        have c1 : wr.cell? ⟨g, j * 2 + 1, none⟩ = some (.int .u64 ((K : Int) + 1)) := by rw [e, a1]; simp
        have HT : Hid (∀ w, Calls Tryz.prog 39 #[.int .i64 (K : Int)] w fun e w' => e = .returned (.string (mkT K)) ∧ Below w.heap.size w w') := fun w => markText_any K w (by omega) (by omega)
        obtain ⟨M, hM⟩ : ∃ M, mkT K = M := ⟨_, rfl⟩
        rw [hM] at c0 HT
        have hMM : (M.toList == M.toList) = true := by simp
        have r2 := cells_re c0
        have r3 := cells_re c1
        have hgr : g < wr.heap.size := by have := hb.size; omega
        clear a0 a1 b1 b2 b3 e hK hM hb c0 c1
        go_wp2_with fail
        refine wp_region_quiet_below (by kernel_rfl) (by kernel_rfl) ?_
        repeat (go_big_quiet_step (exact Calls.regrown_of (HT.out _)))
        refine wpQuiet_nil ?_
        intro w6 hw'
        obtain ⟨⟨dq, osq⟩, hw''⟩ := hw'
        have HB6 : Hid (Below w.heap.size w w6) := by show Below _ _ _; rw [hw'']; exact HB.out.trans ((below_regrown wr dq osq).mono HB.out.size)
        have c1 : w6.cell? ⟨g, j * 2 + 1, none⟩ = some (.int .u64 ((K : Int) + 1)) := by rw [hw'']; exact r3 dq osq
        clear hw'' r2 r3
        go_wp2_with fail
        go_roundg (gk - 1)
        case rel => exact ⟨j + 1, by have := HJ.out; omega, by go_num, by have := HKE.out; first | go_num | (congr 1; omega), HB6.out⟩
        case measure => have := HJ.out; omega
    · have ej : j = n := by omega
      clear hlt hb
      subst ej
      go_wp2_with fail
      go_ret
      exact ⟨rfl, HB.out⟩
theorem VaE_form (vs : List It) : ∃ (i : Nat) (n : Nat) (ok : Bool), n ≤ 8 ∧ ∀ base w' e, VaE vs base w' e → ∃ ad cp, e = .returned (.tuple #[.agg #[.int .u64 i, .slice ad n cp], .bool ok]) ∧ w'.ownsRow base 78 2 (.slice ad n cp) n (paV vs 3 n) := by
  by_cases h : typedB (msgS 3) vs = true
  · obtain ⟨h5, hm, hl⟩ := validators_len h
    refine ⟨itN vs 1, itN vs 2, true, by rw [itN_at h5]; omega, fun base w' e he => ?_⟩
    unfold VaE at he
    rw [if_pos h] at he
    exact he
  · refine ⟨0, 0, false, by omega, fun base w' e he => ?_⟩
    unfold VaE at he
    rw [if_neg h] at he
    exact ⟨none, 0, he, World.ownsRow_nil _ _ _ _⟩
set_option maxRecDepth 100000 in
set_option maxHeartbeats 1000000 in
theorem eqValidators_same (i : Nat) (n : Nat) (vs : List It) (B B' : Nat) (ad ad' : Option Addr) (cap cap' : Nat) (w : World) (hl : n ≤ 1000) (hv : w.ownsRow B 78 2 (.slice ad n cap) n (paV vs 3 n)) (hv' : w.ownsRow B' 78 2 (.slice ad' n cap') n (paV vs 3 n)) : Calls Tryz.prog 21 #[.agg #[.int .u64 i, .slice ad n cap], .agg #[.int .u64 i, .slice ad' n cap']] w fun e w' => e = .returned (.bool true) ∧ Below w.heap.size w w' := by
  have HB : Hid (Below w.heap.size w ((w.alloc (.cells #[.int .u64 i, .slice ad n cap] 44)).alloc (.cells #[.int .u64 i, .slice ad' n cap'] 44))) := bel2 _ _ _
  have HC : Hid (Calls Tryz.prog 44 #[.slice ad n cap, .slice ad' n cap'] ((w.alloc (.cells #[.int .u64 i, .slice ad n cap] 44)).alloc (.cells #[.int .u64 i, .slice ad' n cap'] 44)) fun e w' => e = .returned (.bool true) ∧ Below ((w.alloc (.cells #[.int .u64 i, .slice ad n cap] 44)).alloc (.cells #[.int .u64 i, .slice ad' n cap'] 44)).heap.size ((w.alloc (.cells #[.int .u64 i, .slice ad n cap] 44)).alloc (.cells #[.int .u64 i, .slice ad' n cap'] 44)) w') :=
    eqValidatorS_same n 3 vs B B' ad ad' cap cap' _ hl (World.ownsRow.kept hv (gb_bel HB.out) (by cases (Value.slice ad n cap).ownBlock <;> simp)) (World.ownsRow.kept hv' (gb_bel HB.out) (by cases (Value.slice ad' n cap').ownBlock <;> simp))
  clear hv hv'
  go_enter Tryz.func21, Tryz.ntmps21
  go_wp2_with fail
  refine Calls.mono HC.out ?_
  rintro e w1 ⟨rfl, hb1⟩
  have HB1 : Hid (Below w.heap.size w w1) := HB.out.trans (hb1.mono HB.out.size)
  clear hb1
  go_wp2_with fail
  go_ret
  exact ⟨rfl, HB1.out⟩
set_option maxRecDepth 100000 in
set_option maxHeartbeats 1000000 in
theorem markValidators_any (i : Nat) (n B : Nat) (ad : Option Addr) (cap : Nat) (w : World) (hl : n ≤ 1000) (hv : MkQv 1 n 0 B w (.slice ad n cap)) : Calls Tryz.prog 22 #[.agg #[.int .u64 i, .slice ad n cap], .int .i64 1] w fun e w' => (e = .returned (.int .i64 ((1 + 2 * n : Nat) : Int)) ∧ MkQv 1 n n B w' (.slice ad n cap)) ∧ w.grownBy w' (Value.slice ad n cap).ownBlock := by
  obtain ⟨W, hW⟩ : ∃ W, w.alloc (.cells #[.int .u64 i, .slice ad n cap] 44) = W := ⟨_, rfl⟩
  have HG : Hid (w.grownBy W (Value.slice ad n cap).ownBlock) := by show World.grownBy _ _ _; rw [← hW]; exact mk_alloc _ _ _
  have HC : Hid (Calls Tryz.prog 45 #[.slice ad n cap, .int .i64 1] W fun e w' => (e = .returned (.int .i64 ((1 + 2 * n : Nat) : Int)) ∧ MkQv 1 n n B w' (.slice ad n cap)) ∧ W.grownBy w' (Value.slice ad n cap).ownBlock) := markValidatorS_any 1 n B _ W (by decide) (by decide) hl (by rw [← hW]; exact hv.below (bel1 _ _))
  have hK : W.heap[w.heap.size]? = some (.cells #[.int .u64 i, .slice ad n cap] 44 (0, 0)) := by rw [← hW]; exact heap_alloc_new w _
  obtain ⟨c0, c1⟩ := duo_cells hK
  obtain ⟨L, hL⟩ : ∃ L : Nat, 1 + 2 * n = L := ⟨_, rfl⟩
  rw [hL] at HC ⊢
  clear hK hv hL
  go_enter Tryz.func22, Tryz.ntmps22
  go_wp2_with fail
  refine Calls.mono HC.out ?_
  rintro e w1 ⟨⟨rfl, hm⟩, hg⟩
  have HX : Hid (MkQv 1 n n B w1 (.slice ad n cap) ∧ w.grownBy w1 (Value.slice ad n cap).ownBlock) := ⟨hm, mk_trans HG.out hg⟩
  clear hm hg
  go_wp2_with fail
  go_ret
  exact ⟨⟨rfl, HX.out.1⟩, HX.out.2⟩
set_option maxRecDepth 100000 in
set_option maxHeartbeats 1000000 in
theorem heldValidators_any (i : Nat) (n B : Nat) (ad : Option Addr) (cap : Nat) (w : World) (hl : n ≤ 1000) (hv : MkQv 1 n n B w (.slice ad n cap)) : Calls Tryz.prog 23 #[.agg #[.int .u64 i, .slice ad n cap], .int .i64 1] w fun e w' => e = .returned (.int .i64 ((1 + 2 * n : Nat) : Int)) ∧ Below w.heap.size w w' := by
  obtain ⟨W, hW⟩ : ∃ W, w.alloc (.cells #[.int .u64 i, .slice ad n cap] 44) = W := ⟨_, rfl⟩
  have HB : Hid (Below w.heap.size w W) := by show Below _ _ _; rw [← hW]; exact bel1 _ _
  have HC : Hid (Calls Tryz.prog 46 #[.slice ad n cap, .int .i64 1] W fun e w' => e = .returned (.int .i64 ((1 + 2 * n : Nat) : Int)) ∧ Below W.heap.size W w') := heldValidatorS_any 1 n B _ W (by decide) (by decide) hl (by rw [← hW]; exact hv.below (bel1 _ _))
  have hK : W.heap[w.heap.size]? = some (.cells #[.int .u64 i, .slice ad n cap] 44 (0, 0)) := by rw [← hW]; exact heap_alloc_new w _
  obtain ⟨c0, c1⟩ := duo_cells hK
  obtain ⟨L, hL⟩ : ∃ L : Nat, 1 + 2 * n = L := ⟨_, rfl⟩
  have hL0 : ¬ (L : Int) < 0 := by omega
  rw [hL] at HC ⊢
  clear hK hv hL
  go_enter Tryz.func23, Tryz.ntmps23
  go_wp2_with fail
  refine Calls.mono HC.out ?_
  rintro e w1 ⟨rfl, hb1⟩
  have HB1 : Hid (Below w.heap.size w w1) := HB.out.trans (hb1.mono HB.out.size)
  clear hb1
  go_wp2_with fail
  go_ret
  exact ⟨rfl, HB1.out⟩
end Go.Proofs.YtelbmcgpelkakaaGreatDoor
