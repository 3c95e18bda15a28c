/- parseType, parseSchema: contracts. -/
import Derived.Test.YtepffjfgomhepaaGreatDoorS2e
namespace Go.Proofs.YtepffjfgomhepaaGreatDoor
open Go.RowKit
set_option linter.unusedVariables false
theorem Tryz.infoPN : (Tryz.prog.info? 67).map (fun i => (i.zero, i.size, i.bytes)) = some (some (.pointer none), 1, 8) := by kernel_rfl
/-- What parseType leaves. -/
def PtPost (ts : List (Int × Int)) (f a : Nat) (w : World) (e : Ending) (w' : World) : Prop :=
  Below w.heap.size w w' ∧ ((en ts f a = none ∧ e = .returned (.pointer none)) ∨ ∃ u, e = .returned (.pointer (some ⟨u, 0, none⟩)) ∧ TreeAt ts f w' (fun b => w.heap.size ≤ b ∧ b < w'.heap.size) u a)
set_option maxHeartbeats 2000000 in
theorem parseType_any (ts : List (Int × Int)) : ∀ (f : Nat) (a : Nat) (d : Int) (v : Value) (w : World), d + f = 7 → 0 ≤ d → a ≤ 1048577 → IsTyps w.heap.size w v ts → KR w →
    Calls Tryz.prog 52 #[v, .int .i64 a, .int .i64 d] w fun e w' => PtPost ts f a w e w' := by
  intro f
  induction f with
  | zero =>
    intro a d v w hd hd0 ha hv hw
    have HR : Hid (en ts 0 a = none) := en_zero _ _
    obtain ⟨ad, cap, hv', h1, h2, h3⟩ := hv.form
    subst hv'
    clear h3 hw
    have hd7 : (6 : Int) < d := by omega
    have hd6 : decide ((6 : Int) < d) = true := by simpa using hd7
    by_cases hlt : a < ts.length
    · have hl : decide (ts.length ≤ a) = false := by simp; omega
      go_enter Tryz.func52, Tryz.ntmps52
      go_wp2_with fail
      go_ret
      exact ⟨Below.refl _ _, .inl ⟨HR.out, rfl⟩⟩
    · have hl : decide (ts.length ≤ a) = true := by simp; omega
      go_enter Tryz.func52, Tryz.ntmps52
      go_wp2_with fail
      go_ret
      exact ⟨Below.refl _ _, .inl ⟨HR.out, rfl⟩⟩
  | succ f ih =>
    intro a d v w hd hd0 ha hv hw
    by_cases hlt : a < ts.length
    · obtain ⟨b, o, cap, hv', hb, h1, h2, c0, c1⟩ := hv.at hlt
      have HV : Hid (IsTyps w.heap.size w v ts) := hv
      have HW : Hid (KR w) := hw
      clear hv hw
      have hl : decide (ts.length ≤ a) = false := by simp; omega
      have hd6 : decide ((6 : Int) < d) = false := by simp; omega
      cases ht : tyOk ts[a].1 ts[a].2 with
      | false =>
        have HR : Hid (en ts (f + 1) a = none) := en_bad hlt ht
        generalize ts[a].1 = k at *
        generalize ts[a].2 = n at *
        subst hv'
        go_enter Tryz.func52, Tryz.ntmps52
        go_wp2_with (go_at_call 78; refine (typOk_any _ _ _ HW.out).mono ?_; rintro e w' ⟨rfl, hb'⟩)
        go_ret
        exact ⟨hb', .inl ⟨HR.out, rfl⟩⟩
      | true =>
        have HE : Hid (en ts (f + 1) a = iter (en ts f) (a + 1) (kids ts[a].1 ts[a].2)) := en_ok hlt ht
        have hkd : kids ts[a].1 ts[a].2 ≤ 6 := kids_le ht
        obtain ⟨k, hk⟩ : ∃ k, ts[a].1 = k := ⟨_, rfl⟩
        obtain ⟨n, hn⟩ : ∃ n, ts[a].2 = n := ⟨_, rfl⟩
        have Hk : Hid (ts[a].1 = k) := hk
        have Hn : Hid (ts[a].2 = n) := hn
        rw [hk, hn] at HE ht hkd
        rw [hk] at c0
        rw [hn] at c1
        clear hk hn
        obtain ⟨K, hK⟩ : ∃ K, kids k n = K := ⟨_, rfl⟩
        rw [hK] at hkd HE
        have HK : Hid (kids k n = K) := hK
        clear hK
        have HI : Hid (∀ (a : Nat) (d : Int) (v : Value) (w : World), d + f = 7 → 0 ≤ d → a ≤ 1048577 → IsTyps w.heap.size w v ts → KR w → Calls Tryz.prog 52 #[v, .int .i64 a, .int .i64 d] w fun e w' => PtPost ts f a w e w') := ih
        clear ih
        have hdlo : d ≤ 6 := by omega
        have Hd : Hid (d + ((f + 1 : Nat) : Int) = 7) := hd
        clear hd
        subst hv'
        go_enter Tryz.func52, Tryz.ntmps52
        go_wp2_with (go_at_call 78; refine (typOk_any _ _ _ HW.out).mono ?_; rintro e w1 ⟨rfl, hb1⟩; obtain ⟨hc, hf⟩ := (⟨fun o => hb1.cell (p := ⟨b, o, none⟩) (by assumption), fun o => hb1.frozen (p := ⟨b, o, none⟩) (by assumption)⟩ : (∀ o, w1.cell? ⟨b, o, none⟩ = w.cell? ⟨b, o, none⟩) ∧ (∀ o, w1.frozen? ⟨b, o, none⟩ = w.frozen? ⟨b, o, none⟩)); have hbs : b < w1.heap.size := (by have := hb1.size; omega))
        refine (partsOf_any _ _ _ (by assumption)).mono ?_
        rintro e w2 ⟨rfl, hb2⟩
        rw [HK.out]
        go_wp2_with fail
        have hst : PtInv ts f a w1.heap.size k n d w w2 0 (a + 1) (.slice none 0 0) [] := PtInv.start hb1 (by simpa using hb2)
        go_loopg [40] K (fun gk i wr => ∃ (j x : Nat) (v : Value) (us : List Nat), j + gk = K ∧ i = .int .i64 j ∧ PtInv ts f a w1.heap.size k n d w wr j x v us)
        case atStart => exact ⟨0, a + 1, _, _, by omega, rfl, hst⟩
        case round =>
          clear hst hb2 w2 hc hf hbs c0 c1
          obtain ⟨j, x, v, us, hj', rfl, hp⟩ := hrel
          have HJ : Hid (j + gk = K) := hj'
          have hj : j ≤ K := by omega
          clear hj'
          have HP : Hid (PtInv ts f a w1.heap.size k n d w wr j x v us) := hp
          have hnl : w1.heap.size < wr.heap.size := blk_lt hp.node
          by_cases hjk : j < K
          · have n3 : wr.cell? ⟨w1.heap.size, 3, none⟩ = some (.int .i64 x) := by rw [cell_of_row wr _ 3 _ _ _ hp.node]; simp
            clear hp
            have hxl : x ≤ 1048577 := by
              cases j with
              | zero => cases HP.out.pos; have := HV.out.small; omega
              | succ j =>
                have hx := HP.out.pos
                rw [iter_succ] at hx
                obtain ⟨y, _, hy⟩ := Option.bind_eq_some_iff.1 hx
                have := (en_lt hy).2
                have := HV.out.small
                omega
            go_wp2_with fail
            refine (HI.out x (d + 1) _ wr (by have := Hd.out; omega) (by omega) hxl ((HV.out.below HP.out.bel).up HP.out.bel.size) (HW.out.below HP.out.bel)).mono ?_
            rintro e w3 ⟨hb3, ⟨he, rfl⟩ | ⟨u, rfl, htr⟩⟩
            · have HR : Hid (en ts (f + 1) a = none) := by show _ = _; rw [HE.out]; exact iter_none (j := j + 1) (by rw [iter_succ, HP.out.pos]; exact he) K (by omega)
              have HB : Hid (Below w.heap.size w w3) := HP.out.bel.trans (hb3.mono HP.out.bel.size)
              clear he n3 hb3
              go_wp2_with fail
              go_ret
              exact ⟨HB.out, .inl ⟨HR.out, rfl⟩⟩
            · obtain ⟨hu3, y, hy, hy3⟩ := htr.end
              have HT : Hid (TreeAt ts f w3 (fun b => wr.heap.size ≤ b ∧ b < w3.heap.size) u x) := htr
              have HY : Hid (en ts f x = some y) := hy
              have hN3 : w3.heap[w1.heap.size]? = _ := (hb3.block w1.heap.size hnl).trans HP.out.node
              have HN3 : Hid (w3.heap[w1.heap.size]? = some (.cells #[.int .i64 k, .int .i64 n, .int .i64 a, .int .i64 x, .int .i64 d, v] 108 (0, 0))) := hN3
              have n5 : w3.cell? ⟨w1.heap.size, 5, none⟩ = some v := by rw [cell_of_row w3 _ 5 _ _ _ hN3]; simp
              have hr3 : w3.ownsRow (w1.heap.size + 1) 67 1 v j (us.map fun u => .pointer (some ⟨u, 0, none⟩)) := HP.out.row.kept (gb_bel hb3) (by cases v.ownBlock <;> simp)
              have HR3 : Hid (w3.ownsRow (w1.heap.size + 1) 67 1 v j (us.map fun u => .pointer (some ⟨u, 0, none⟩))) := hr3
              have hs3 : w1.heap.size < w3.heap.size := by have := hb3.size; omega
              have hu0 : wr.heap.size ≤ u := hu3.1
              have hu1 : u < w3.heap.size := hu3.2
              have huN : ¬ u = w1.heap.size := by omega
              have hNu : ¬ w1.heap.size = u := by omega
              have HB3 : Hid (Below wr.heap.size wr w3) := hb3
              obtain ⟨i0, hi, hz0, hz1, hz2⟩ := info_parts Tryz.infoPN
              clear htr hy hN3 hr3 hb3 hu3 n3
              go_wp2_with (at_builtin; refine wpList_append_lies _ rfl _ _ 106 rfl (w1.heap.size + 1) 67 i0 (.pointer none) 1 8 Tryz.underlying106 hi hz0 hz1 hz2 rfl (by decide) v j _ rfl (HR3.out.alloc _) ⟨w3.heap.size, 0, none⟩ 1 1 [.pointer (some ⟨u, 0, none⟩)] rfl rfl ?c1 ?c2 (by omega) ?c3 ?c4 ?c5 (w3.heap.size + 1) (by simp) ?_)
              case c1 =>
                intro i u hi
                match i, hi with
                | 0, hi => simp at hi; subst hi; simp [Addr.add]
              case c2 => intro u hu; simp at hu; subst hu; rfl
              case c3 => unfold maxLen; omega
              case c4 => omega
              case c5 => simp; omega
              intro g cap' w4 hown' hgrow hat hlt'
              have hNo : some w1.heap.size ≠ v.ownBlock := fun e => by have := HR3.out.lt _ e.symm; omega
              have huo : some u ≠ v.ownBlock := fun e => by have := HP.out.row.lt _ e.symm; omega
              have m5 : w4.cell? ⟨w1.heap.size, 5, none⟩ = some v := by rw [hgrow.cell_far ⟨w1.heap.size, 5, none⟩ (by simp; omega) hNo, World.cell?_alloc_lt _ _ _ hs3]; exact n5
              have hN4 : w4.heap[w1.heap.size]? = some (.cells #[.int .i64 k, .int .i64 n, .int .i64 a, .int .i64 x, .int .i64 d, v] 108 (0, 0)) := by rw [hgrow.block _ (by simp; omega) hNo, Below.heap_alloc _ _ _ hs3]; exact HN3.out
              have m3 : w4.cell? ⟨w1.heap.size, 3, none⟩ = some (.int .i64 x) := by rw [cell_of_row w4 _ 3 _ _ _ hN4]; simp
              have f5 : w4.frozen? ⟨w1.heap.size, 5, none⟩ = false := by simp [World.frozen?, hN4]
              have f3 : w4.frozen? ⟨w1.heap.size, 3, none⟩ = false := by simp [World.frozen?, hN4]
              have my : w4.cell? ⟨u, 3, none⟩ = some (.int .i64 y) := by rw [hgrow.cell_far ⟨u, 3, none⟩ (by simp; omega) huo, World.cell?_alloc_lt _ _ _ hu1]; exact hy3
              have HP' := HP.out.next HB3.out HT.out HY.out hgrow hat hlt' hown'
              have HQ : Hid (PtInv ts f a w1.heap.size k n d w ((w4.setCell ⟨w1.heap.size, 5, none⟩ (.slice (some ⟨g, 0, none⟩) (j + 1) cap')).setCell ⟨w1.heap.size, 3, none⟩ (.int .i64 y)) (j + 1) y (.slice (some ⟨g, 0, none⟩) (j + 1) cap') (us ++ [u])) := HP'
              clear HP' hown' hgrow hat hlt' hN4 hNo huo n5 hy3
              go_wp2_with fail
              go_roundg (gk - 1)
              case rel => exact ⟨j + 1, y, _, us ++ [u], by have := HJ.out; omega, by go_num, HQ.out⟩
              case measure => have := HJ.out; omega
          · have e1 : j = K := by omega
            have hfin : TreeAt ts (f + 1) wr (fun b => w.heap.size ≤ b ∧ b < wr.heap.size) w1.heap.size a := hp.done hlt Hk.out Hn.out ht (by rw [HK.out]; exact e1) (by have := Hd.out; omega)
            have HF : Hid (TreeAt ts (f + 1) wr (fun b => w.heap.size ≤ b ∧ b < wr.heap.size) w1.heap.size a) := hfin
            clear e1 hfin hp
            go_wp2_with fail
            go_ret
            exact ⟨HP.out.bel, .inr ⟨_, rfl, HF.out⟩⟩
    · have HR : Hid (en ts (f + 1) a = none) := en_none (by omega)
      obtain ⟨ad, cap, hv', h1, h2, h3⟩ := hv.form
      subst hv'
      clear h3 hw
      have hl : decide (ts.length ≤ a) = true := by simp; omega
      go_enter Tryz.func52, Tryz.ntmps52
      go_wp2_with fail
      go_ret
      exact ⟨Below.refl _ _, .inl ⟨HR.out, rfl⟩⟩
end Go.Proofs.YtepffjfgomhepaaGreatDoor
