/- A list of texts read: contract. -/
import Derived.Test.YtelbmcgpelkakaaGreatDoorSNc
namespace Go.Proofs.YtelbmcgpelkakaaGreatDoor
open Go.RowKit Go.Sort
set_option linter.unusedVariables false
/-- The texts of m items from place q on. -/
def txS (vs : List It) (q m : Nat) : List ByteArray := ((vs.drop q).take m).map (·.s)
theorem txS_succ {vs : List It} {q m : Nat} (h : q + m < vs.length) : txS vs q (m + 1) = txS vs q m ++ [vs[q + m].s] := by
  unfold txS
  rw [List.take_succ_eq_append_getElem (by simp; omega), List.map_append]
  simp
theorem txS_len {vs : List It} {q m : Nat} (h : q + m ≤ vs.length) : (txS vs q m).length = m := by
  unfold txS
  simp
  omega
set_option maxRecDepth 100000 in
set_option maxHeartbeats 2000000 in
theorem readListS_any (R b o C q m : Nat) (vs : List It) (w : World) (h : RdR R b o C vs q w) (hq : q < vs.length) (hm : vs[q].n = m) (hl : q + 1 + m ≤ vs.length) (hm2 : m ≤ 1000) : Calls Tryz.prog 67 #[.pointer (some ⟨R, 0, none⟩), .func (.func 60) #[.pointer (some ⟨R, 0, none⟩)] #[]] w fun e w' => (∃ v, e = .returned v ∧ w'.ownsRow w.heap.size 9 1 v m (strv (txS vs (q + 1) m))) ∧ RdR R b o C vs (q + 1 + m) w' ∧ w.grownBy w' (some R) := by
  obtain ⟨i0, hi, hz0, hz1, hz2⟩ := info_parts Tryz.infoStrR
  have HN : Hid (Calls Tryz.prog 59 #[.pointer (some ⟨R, 0, none⟩)] w fun e w' => e = .returned (.int .u64 (m : Nat)) ∧ RdR R b o C vs (q + 1) w' ∧ w.grownBy w' (some R)) := by have := numberR_any R b o C q vs w h hq; rw [hm] at this; exact this
  have HT : Hid (∀ (j : Nat) (hj : q + 1 + j < vs.length) (w : World), RdR R b o C vs (q + 1 + j) w → Calls Tryz.prog 60 #[.pointer (some ⟨R, 0, none⟩)] w fun e w' => e = .returned (.string vs[q + 1 + j].s) ∧ RdR R b o C vs (q + 1 + j + 1) w' ∧ w.grownBy w' (some R)) := fun j hj w h => textR_any R b o C (q + 1 + j) vs w h hj
  obtain ⟨v0, hv0, _⟩ := h.cell
  have hR : R < w.heap.size := blk_lt hv0
  clear h hv0 hm
  go_enter Tryz.func67, Tryz.ntmps67
  go_wp2_with fail
  refine Calls.mono HN.out ?_
  rintro e w1 ⟨rfl, hr1, hg1⟩
  have HR1 : Hid (RdR R b o C vs (q + 1) w1) := hr1
  have HG1 : Hid (w.grownBy w1 (some R)) := hg1
  clear hr1 hg1
  go_wp2_with fail
  go_loopg [5, 8] m (fun gk v i wr => ∃ j : Nat, j + gk = m ∧ i = .int .u64 j ∧ wr.ownsRow w.heap.size 9 1 v j (strv (txS vs (q + 1) j)) ∧ RdR R b o C vs (q + 1 + j) wr ∧ w.grownBy wr (some R))
  case atStart => exact ⟨0, by omega, rfl, World.ownsRow_nil _ _ _ _, HR1.out, HG1.out⟩
  case round =>
    obtain ⟨j, hj', rfl, hown, hr, hg⟩ := hrel
    have HJ : Hid (j + gk = m) := hj'
    have HO : Hid (wr.ownsRow w.heap.size 9 1 u5 j (strv (txS vs (q + 1) j))) := hown
    have HR : Hid (RdR R b o C vs (q + 1 + j) wr) := hr
    have HG : Hid (w.grownBy wr (some R)) := hg
    have hj : j ≤ m := by omega
    have hsr : w.heap.size ≤ wr.heap.size := hg.size
    clear hj' hown hr hg
    by_cases hlt : j < m
    · obtain ⟨x, hx⟩ : ∃ x, (vs[q + 1 + j]'(by omega)).s = x := ⟨_, rfl⟩
      have HC : Hid (Calls Tryz.prog 60 #[.pointer (some ⟨R, 0, none⟩)] wr fun e w' => e = .returned (.string x) ∧ RdR R b o C vs (q + 1 + j + 1) w' ∧ wr.grownBy w' (some R)) := by have := HT.out j (by omega) wr HR.out; rw [hx] at this; exact this
      have HXS : Hid (strv (txS vs (q + 1) (j + 1)) = strv (txS vs (q + 1) j) ++ [.string x]) := by show _ = _; rw [txS_succ (by omega), strv_app, hx]
      clear hx
      go_wp2_with fail
      refine Calls.mono HC.out ?_
      rintro e w3 ⟨rfl, hr3, hg3⟩
      have HR3 : Hid (RdR R b o C vs (q + 1 + j + 1) w3) := hr3
      have HG3 : Hid (w.grownBy w3 (some R)) := gb_trR HG.out hg3
      have HO3 : Hid (w3.ownsRow w.heap.size 9 1 u5 j (strv (txS vs (q + 1) j))) := HO.out.kept hg3 (by
        cases hv : u5.ownBlock with
        | none => exact .inl rfl
        | some k => exact .inr (fun e => by cases e; have := (HO.out.lt R hv).1; omega))
      have hs3 : w.heap.size ≤ w3.heap.size := HG3.out.size
      clear hr3 hg3
      go_wp2_with (at_builtin; refine wpList_append_lies _ rfl _ _ 49 rfl w.heap.size 9 i0 (.string ByteArray.empty) 1 16 Tryz.underlying49 hi hz0 hz1 hz2 rfl (by decide) u5 j _ rfl (HO3.out.alloc _) ⟨w3.heap.size, 0, none⟩ 1 1 [.string x] rfl rfl ?c1 ?c2 (by omega) ?c3 ?c4 ?c5 (w3.heap.size + 1) (by simp) ?_)
      case c1 =>
        intro i u hi
        match i, hi with
        | 0, hi => simp at hi; subst hi; simp [Addr.add]
      case c2 => intro u hu; simp at hu; subst hu; rfl
      case c3 => unfold maxLen; omega
      case c4 => omega
      case c5 => simp; omega
      intro g cap2 w4 hown' hgrow hat hlt'
      have hbw : w3.grownBy (w3.alloc (.cells #[.string x] 9)) (some R) := gb_any (gb_bel (bel1 _ _))
      have HG4 : Hid (w.grownBy w4 (some R)) := by
        refine ⟨hgrow.os.trans (hbw.os.trans HG3.out.os), hgrow.tape.trans (hbw.tape.trans HG3.out.tape), hgrow.output.trans (hbw.output.trans HG3.out.output), Nat.le_trans HG3.out.size (Nat.le_trans hbw.size hgrow.size), fun k hk hne => ?_⟩
        refine (hgrow.block k (by simp; omega) (fun e => ?_)).trans ((hbw.block k (by omega) hne).trans (HG3.out.block k hk hne))
        have := (HO3.out.lt k e.symm).1
        omega
      have HR4 : Hid (RdR R b o C vs (q + 1 + j + 1) w4) := by
        have hRa := HR3.out.grown (gb_bel (bel1 w3 (.cells #[.string x] 9)))
        obtain ⟨⟨vv, hvv, hff⟩, hii⟩ := hRa
        have far : ∀ k, k < w.heap.size → w4.heap[k]? = (w3.alloc (.cells #[.string x] 9)).heap[k]? := fun k hk => hgrow.block k (by simp; omega) (fun e => by have := (HO3.out.lt k e.symm).1; omega)
        refine ⟨⟨vv, (far R hR).trans hvv, hff⟩, ⟨hii.small, hii.room, hii.most, hii.wf, hii.low, fun i hl => ?_⟩⟩
        have hbb : b < R := hii.low.resolve_left (by omega)
        have e : ∀ z, w4.cell? ⟨b, z, none⟩ = (w3.alloc (.cells #[.string x] 9)).cell? ⟨b, z, none⟩ := fun z => World.cell?_of_block (a := ⟨b, z, none⟩) (far b (by omega))
        rw [e, e, e]
        exact hii.cells i hl
      have HX : Hid (w4.ownsRow w.heap.size 9 1 (.slice (some ⟨g, 0, none⟩) (j + 1) cap2) (j + 1) (strv (txS vs (q + 1) (j + 1)))) := by show World.ownsRow _ _ _ _ _ _ _; rw [HXS.out]; exact hown'
      clear hown' hgrow hat hlt' hbw
      go_wp2_with fail
      go_roundg (gk - 1)
      case rel => exact ⟨j + 1, by have := HJ.out; omega, by go_num, HX.out, HR4.out, HG4.out⟩
      case measure => have := HJ.out; omega
    · have ej : j = m := by omega
      clear hlt
      subst ej
      go_wp2_with fail
      go_ret
      exact ⟨⟨_, rfl, HO.out⟩, HR.out, HG.out⟩
end Go.Proofs.YtelbmcgpelkakaaGreatDoor
