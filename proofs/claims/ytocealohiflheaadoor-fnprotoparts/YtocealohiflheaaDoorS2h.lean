/- S2f, S2g, S2h: one text. -/
import Derived.Test.YtocealohiflheaaDoorS2e
namespace Go.Proofs.YtocealohiflheaaDoor
open Go.RowKit
set_option linter.unusedVariables false
theorem Tryd.infoPN : (Tryd.prog.info? 84).map (fun i => (i.zero, i.size, i.bytes)) = some (some (.pointer none), 1, 8) := by kernel_rfl
/-- What parseType leaves. -/
def PtPost (ts : List (Int × Int)) (f a : Nat) (w : World) (e : Ending) (w' : World) : Prop :=
  Below w.heap.size w w' ∧ ((en ts f a = none ∧ e = .returned (.pointer none)) ∨ ∃ u, e = .returned (.pointer (some ⟨u, 0, none⟩)) ∧ TreeAt ts f w' (fun b => w.heap.size ≤ b ∧ b < w'.heap.size) u a)
set_option maxHeartbeats 2000000 in
theorem parseType_any (ts : List (Int × Int)) : ∀ (f : Nat) (a : Nat) (d : Int) (v : Value) (w : World), d + f = 7 → 0 ≤ d → a ≤ 1048577 → IsTyps w.heap.size w v ts → KR w →
    Calls Tryd.prog 74 #[v, .int .i64 a, .int .i64 d] w fun e w' => PtPost ts f a w e w' := by
  intro f
  induction f with
  | zero =>
    intro a d v w hd hd0 ha hv hw
    have HR : Hid (en ts 0 a = none) := en_zero _ _
    obtain ⟨ad, cap, hv', h1, h2, h3⟩ := hv.form
    subst hv'
    clear h3 hw
    have hd7 : (6 : Int) < d := by omega
    have hd6 : decide ((6 : Int) < d) = true := by simpa using hd7
    by_cases hlt : a < ts.length
    · have hl : decide (ts.length ≤ a) = false := by simp; omega
      go_enter Tryd.func74, Tryd.ntmps74
      go_wp2_with fail
      go_ret
      exact ⟨Below.refl _ _, .inl ⟨HR.out, rfl⟩⟩
    · have hl : decide (ts.length ≤ a) = true := by simp; omega
      go_enter Tryd.func74, Tryd.ntmps74
      go_wp2_with fail
      go_ret
      exact ⟨Below.refl _ _, .inl ⟨HR.out, rfl⟩⟩
  | succ f ih =>
    intro a d v w hd hd0 ha hv hw
    by_cases hlt : a < ts.length
    · obtain ⟨b, o, cap, hv', hb, h1, h2, c0, c1⟩ := hv.at hlt
      have HV : Hid (IsTyps w.heap.size w v ts) := hv
      have HW : Hid (KR w) := hw
      clear hv hw
      have hl : decide (ts.length ≤ a) = false := by simp; omega
      have hd6 : decide ((6 : Int) < d) = false := by simp; omega
      cases ht : tyOk ts[a].1 ts[a].2 with
      | false =>
        have HR : Hid (en ts (f + 1) a = none) := en_bad hlt ht
        generalize ts[a].1 = k at *
        generalize ts[a].2 = n at *
        subst hv'
        go_enter Tryd.func74, Tryd.ntmps74
        go_wp2_with (go_at_call 80; refine (typOk_any _ _ _ HW.out).mono ?_; rintro e w' ⟨rfl, hb'⟩)
        go_ret
        exact ⟨hb', .inl ⟨HR.out, rfl⟩⟩
      | true =>
        have HE : Hid (en ts (f + 1) a = iter (en ts f) (a + 1) (kids ts[a].1 ts[a].2)) := en_ok hlt ht
        have hkd : kids ts[a].1 ts[a].2 ≤ 6 := kids_le ht
        obtain ⟨k, hk⟩ : ∃ k, ts[a].1 = k := ⟨_, rfl⟩
        obtain ⟨n, hn⟩ : ∃ n, ts[a].2 = n := ⟨_, rfl⟩
        have Hk : Hid (ts[a].1 = k) := hk
        have Hn : Hid (ts[a].2 = n) := hn
        rw [hk, hn] at HE ht hkd
        rw [hk] at c0
        rw [hn] at c1
        clear hk hn
        obtain ⟨K, hK⟩ : ∃ K, kids k n = K := ⟨_, rfl⟩
        rw [hK] at hkd HE
        have HK : Hid (kids k n = K) := hK
        clear hK
        have HI : Hid (∀ (a : Nat) (d : Int) (v : Value) (w : World), d + f = 7 → 0 ≤ d → a ≤ 1048577 → IsTyps w.heap.size w v ts → KR w → Calls Tryd.prog 74 #[v, .int .i64 a, .int .i64 d] w fun e w' => PtPost ts f a w e w') := ih
        clear ih
        have hdlo : d ≤ 6 := by omega
        have Hd : Hid (d + ((f + 1 : Nat) : Int) = 7) := hd
        clear hd
        subst hv'
        go_enter Tryd.func74, Tryd.ntmps74
        go_wp2_with (go_at_call 80; refine (typOk_any _ _ _ HW.out).mono ?_; rintro e w1 ⟨rfl, hb1⟩; obtain ⟨hc, hf⟩ := (⟨fun o => hb1.cell (p := ⟨b, o, none⟩) (by assumption), fun o => hb1.frozen (p := ⟨b, o, none⟩) (by assumption)⟩ : (∀ o, w1.cell? ⟨b, o, none⟩ = w.cell? ⟨b, o, none⟩) ∧ (∀ o, w1.frozen? ⟨b, o, none⟩ = w.frozen? ⟨b, o, none⟩)); have hbs : b < w1.heap.size := (by have := hb1.size; omega))
        refine (partsOf_any _ _ _ (by assumption)).mono ?_
        rintro e w2 ⟨rfl, hb2⟩
        rw [HK.out]
        go_wp2_with fail
        have hst : PtInv ts f a w1.heap.size k n d w w2 0 (a + 1) (.slice none 0 0) [] := PtInv.start hb1 (by simpa using hb2)
        go_loopg [40] K (fun gk i wr => ∃ (j x : Nat) (v : Value) (us : List Nat), j + gk = K ∧ i = .int .i64 j ∧ PtInv ts f a w1.heap.size k n d w wr j x v us)
        case atStart => exact ⟨0, a + 1, _, _, by omega, rfl, hst⟩
        case round =>
          clear hst hb2 w2 hc hf hbs c0 c1
          obtain ⟨j, x, v, us, hj', rfl, hp⟩ := hrel
          have HJ : Hid (j + gk = K) := hj'
          have hj : j ≤ K := by omega
          clear hj'
          have HP : Hid (PtInv ts f a w1.heap.size k n d w wr j x v us) := hp
          have hnl : w1.heap.size < wr.heap.size := blk_lt hp.node
          by_cases hjk : j < K
          · have n3 : wr.cell? ⟨w1.heap.size, 3, none⟩ = some (.int .i64 x) := by rw [cell_of_row wr _ 3 _ _ _ hp.node]; simp
            clear hp
            have hxl : x ≤ 1048577 := by
              cases j with
              | zero => cases HP.out.pos; have := HV.out.small; omega
              | succ j =>
                have hx := HP.out.pos
                rw [iter_succ] at hx
                obtain ⟨y, _, hy⟩ := Option.bind_eq_some_iff.1 hx
                have := (en_lt hy).2
                have := HV.out.small
                omega
            go_wp2_with fail
            refine (HI.out x (d + 1) _ wr (by have := Hd.out; omega) (by omega) hxl ((HV.out.below HP.out.bel).up HP.out.bel.size) (HW.out.below HP.out.bel)).mono ?_
            rintro e w3 ⟨hb3, ⟨he, rfl⟩ | ⟨u, rfl, htr⟩⟩
            · have HR : Hid (en ts (f + 1) a = none) := by show _ = _; rw [HE.out]; exact iter_none (j := j + 1) (by rw [iter_succ, HP.out.pos]; exact he) K (by omega)
              have HB : Hid (Below w.heap.size w w3) := HP.out.bel.trans (hb3.mono HP.out.bel.size)
              clear he n3 hb3
              go_wp2_with fail
              go_ret
              exact ⟨HB.out, .inl ⟨HR.out, rfl⟩⟩
            · obtain ⟨hu3, y, hy, hy3⟩ := htr.end
              have HT : Hid (TreeAt ts f w3 (fun b => wr.heap.size ≤ b ∧ b < w3.heap.size) u x) := htr
              have HY : Hid (en ts f x = some y) := hy
              have hN3 : w3.heap[w1.heap.size]? = _ := (hb3.block w1.heap.size hnl).trans HP.out.node
              have HN3 : Hid (w3.heap[w1.heap.size]? = some (.cells #[.int .i64 k, .int .i64 n, .int .i64 a, .int .i64 x, .int .i64 d, v] 118 (0, 0))) := hN3
              have n5 : w3.cell? ⟨w1.heap.size, 5, none⟩ = some v := by rw [cell_of_row w3 _ 5 _ _ _ hN3]; simp
              have hr3 : w3.ownsRow (w1.heap.size + 1) 84 1 v j (us.map fun u => .pointer (some ⟨u, 0, none⟩)) := HP.out.row.kept (gb_bel hb3) (by cases v.ownBlock <;> simp)
              have HR3 : Hid (w3.ownsRow (w1.heap.size + 1) 84 1 v j (us.map fun u => .pointer (some ⟨u, 0, none⟩))) := hr3
              have hs3 : w1.heap.size < w3.heap.size := by have := hb3.size; omega
              have hu0 : wr.heap.size ≤ u := hu3.1
              have hu1 : u < w3.heap.size := hu3.2
              have huN : ¬ u = w1.heap.size := by omega
              have hNu : ¬ w1.heap.size = u := by omega
              have HB3 : Hid (Below wr.heap.size wr w3) := hb3
              obtain ⟨i0, hi, hz0, hz1, hz2⟩ := info_parts Tryd.infoPN
              clear htr hy hN3 hr3 hb3 hu3 n3
              go_wp2_with (at_builtin; refine wpList_append_lies _ rfl _ _ 116 rfl (w1.heap.size + 1) 84 i0 (.pointer none) 1 8 Tryd.underlying116 hi hz0 hz1 hz2 rfl (by decide) v j _ rfl (HR3.out.alloc _) ⟨w3.heap.size, 0, none⟩ 1 1 [.pointer (some ⟨u, 0, none⟩)] rfl rfl ?c1 ?c2 (by omega) ?c3 ?c4 ?c5 (w3.heap.size + 1) (by simp) ?_)
              case c1 =>
                intro i u hi
                match i, hi with
                | 0, hi => simp at hi; subst hi; simp [Addr.add]
              case c2 => intro u hu; simp at hu; subst hu; rfl
              case c3 => unfold maxLen; omega
              case c4 => omega
              case c5 => simp; omega
              intro g cap' w4 hown' hgrow hat hlt'
              have hNo : some w1.heap.size ≠ v.ownBlock := fun e => by have := HR3.out.lt _ e.symm; omega
              have huo : some u ≠ v.ownBlock := fun e => by have := HP.out.row.lt _ e.symm; omega
              have m5 : w4.cell? ⟨w1.heap.size, 5, none⟩ = some v := by rw [hgrow.cell_far ⟨w1.heap.size, 5, none⟩ (by simp; omega) hNo, World.cell?_alloc_lt _ _ _ hs3]; exact n5
              have hN4 : w4.heap[w1.heap.size]? = some (.cells #[.int .i64 k, .int .i64 n, .int .i64 a, .int .i64 x, .int .i64 d, v] 118 (0, 0)) := by rw [hgrow.block _ (by simp; omega) hNo, Below.heap_alloc _ _ _ hs3]; exact HN3.out
              have m3 : w4.cell? ⟨w1.heap.size, 3, none⟩ = some (.int .i64 x) := by rw [cell_of_row w4 _ 3 _ _ _ hN4]; simp
              have f5 : w4.frozen? ⟨w1.heap.size, 5, none⟩ = false := by simp [World.frozen?, hN4]
              have f3 : w4.frozen? ⟨w1.heap.size, 3, none⟩ = false := by simp [World.frozen?, hN4]
              have my : w4.cell? ⟨u, 3, none⟩ = some (.int .i64 y) := by rw [hgrow.cell_far ⟨u, 3, none⟩ (by simp; omega) huo, World.cell?_alloc_lt _ _ _ hu1]; exact hy3
              have HP' := HP.out.next HB3.out HT.out HY.out hgrow hat hlt' hown'
              have HQ : Hid (PtInv ts f a w1.heap.size k n d w ((w4.setCell ⟨w1.heap.size, 5, none⟩ (.slice (some ⟨g, 0, none⟩) (j + 1) cap')).setCell ⟨w1.heap.size, 3, none⟩ (.int .i64 y)) (j + 1) y (.slice (some ⟨g, 0, none⟩) (j + 1) cap') (us ++ [u])) := HP'
              clear HP' hown' hgrow hat hlt' hN4 hNo huo n5 hy3
              go_wp2_with fail
              go_roundg (gk - 1)
              case rel => exact ⟨j + 1, y, _, us ++ [u], by have := HJ.out; omega, by go_num, HQ.out⟩
              case measure => have := HJ.out; omega
          · have e1 : j = K := by omega
            have hfin : TreeAt ts (f + 1) wr (fun b => w.heap.size ≤ b ∧ b < wr.heap.size) w1.heap.size a := hp.done hlt Hk.out Hn.out ht (by rw [HK.out]; exact e1) (by have := Hd.out; omega)
            have HF : Hid (TreeAt ts (f + 1) wr (fun b => w.heap.size ≤ b ∧ b < wr.heap.size) w1.heap.size a) := hfin
            clear e1 hfin hp
            go_wp2_with fail
            go_ret
            exact ⟨HP.out.bel, .inr ⟨_, rfl, HF.out⟩⟩
    · have HR : Hid (en ts (f + 1) a = none) := en_none (by omega)
      obtain ⟨ad, cap, hv', h1, h2, h3⟩ := hv.form
      subst hv'
      clear h3 hw
      have hl : decide (ts.length ≤ a) = true := by simp; omega
      go_enter Tryd.func74, Tryd.ntmps74
      go_wp2_with fail
      go_ret
      exact ⟨Below.refl _ _, .inl ⟨HR.out, rfl⟩⟩
end Go.Proofs.YtocealohiflheaaDoor
namespace Go.Proofs.YtocealohiflheaaDoor
open Go.RowKit
set_option linter.unusedVariables false
/-- A node's cells and its parts, opened. -/
theorem TreeAt.open {ts : List (Int × Int)} {f u a : Nat} {w : World} {S : Nat → Prop} (h : TreeAt ts (f + 1) w S u a) : ∃ (ha : a < ts.length) (K e : Nat) (ad : Option Addr) (cap : Nat),
    kids ts[a].1 ts[a].2 = K ∧ K ≤ 6 ∧ tyOk ts[a].1 ts[a].2 = true ∧ en ts (f + 1) a = some e ∧ iter (en ts f) (a + 1) K = some e ∧ w.cell? ⟨u, 2, none⟩ = some (.int .i64 a) ∧ w.cell? ⟨u, 3, none⟩ = some (.int .i64 e) ∧
    w.cell? ⟨u, 4, none⟩ = some (.int .i64 (6 - f : Nat)) ∧ w.cell? ⟨u, 5, none⟩ = some (.slice ad K cap) ∧ K ≤ cap ∧ cap ≤ maxLen ∧
      (K = 0 ∨ ∃ g, ad = some ⟨g, 0, none⟩ ∧ ∀ j, j < K → ∃ c p, iter (en ts f) (a + 1) j = some p ∧ w.cell? ⟨g, j, none⟩ = some (.pointer (some ⟨c, 0, none⟩)) ∧ TreeAt ts f w S c p) := by
  obtain ⟨hu, ha, e, ad, cap, h1, h2, c0, c1, c2, c3, c4, c5, h3, h4, h5⟩ := h
  refine ⟨ha, _, e, ad, cap, rfl, kids_le h1, h1, h2, by rw [← en_ok ha h1]; exact h2, c2, c3, c4, c5, h3, h4, ?_⟩
  rcases h5 with h5 | ⟨g, hg, _, hk⟩
  · exact .inl h5
  · exact .inr ⟨g, hg, hk⟩
end Go.Proofs.YtocealohiflheaaDoor
namespace Go.Proofs.YtocealohiflheaaDoor
open Go.RowKit
set_option linter.unusedVariables false
/-- What parseSchema leaves. -/
def PsPost (ts : List (Int × Int)) (w : World) (e : Ending) (w' : World) : Prop :=
  Below w.heap.size w w' ∧ ((schOk ts = false ∧ e = .returned (.pointer none)) ∨ (schOk ts = true ∧ ∃ u, e = .returned (.pointer (some ⟨u, 0, none⟩)) ∧ TreeAt ts 7 w' (fun b => w.heap.size ≤ b ∧ b < w'.heap.size) u 0))
set_option maxHeartbeats 400000 in
theorem parseSchema_any (ts : List (Int × Int)) (v : Value) (w : World) (hv : IsTyps w.heap.size w v ts) (hw : KR w) : Calls Tryd.prog 65 #[v] w fun e w' => PsPost ts w e w' := by
  have HV : Hid (IsTyps w.heap.size w v ts) := hv
  have HW : Hid (KR w) := hw
  obtain ⟨ad, cap, rfl, h1, h2, h3⟩ := hv.form
  clear h3 hv hw
  by_cases h40 : 40 < ts.length
  · have HR : Hid (schOk ts = false) := schOk_big h40
    go_enter Tryd.func65, Tryd.ntmps65
    go_wp2_with fail
    go_ret
    exact ⟨Below.refl _ _, .inl ⟨HR.out, rfl⟩⟩
  · have hd : decide ((40 : Int) < ts.length) = false := by simp; omega
    go_enter Tryd.func65, Tryd.ntmps65
    go_wp2_with fail
    refine (parseType_any ts 7 0 0 _ w (by omega) (by omega) (by omega) HV.out HW.out).mono ?_
    rintro e w1 ⟨hb, ⟨he, rfl⟩ | ⟨u, rfl, htr⟩⟩
    · have HR : Hid (schOk ts = false) := schOk_no he
      clear he
      go_wp2_with fail
      go_ret
      exact ⟨hb, .inl ⟨HR.out, rfl⟩⟩
    · obtain ⟨_, e0, he, hc⟩ := htr.end
      have HT : Hid (TreeAt ts 7 w1 (fun b => w.heap.size ≤ b ∧ b < w1.heap.size) u 0) := htr
      have HB : Hid (Below w.heap.size w w1) := hb
      have HR : Hid (schOk ts = decide (e0 = ts.length)) := schOk_end (by omega) he
      clear he htr hb
      by_cases hq : e0 = ts.length
      · have HS : Hid (schOk ts = true) := by show _ = _; rw [HR.out]; simp [hq]
        have hq' : (((e0 : Nat) : Int) != (ts.length : Int)) = false := by simp [hq]
        subst hq
        go_wp2_with fail
        go_ret
        exact ⟨HB.out, .inr ⟨HS.out, _, rfl, HT.out⟩⟩
      · have HS : Hid (schOk ts = false) := by show _ = _; rw [HR.out]; simp [hq]
        have hq' : (((e0 : Nat) : Int) != (ts.length : Int)) = true := by rw [bne_iff_ne]; omega
        clear hq
        go_wp2_with fail
        go_ret
        exact ⟨HB.out, .inl ⟨HS.out, rfl⟩⟩
end Go.Proofs.YtocealohiflheaaDoor
