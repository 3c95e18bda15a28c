/- The program's reading of a schema: contract. -/
import Derived.Test.YtipmckdlnipgkaaGreatDoorSRg
import Derived.Test.YtipmckdlnipgkaaGreatDoorSRe
namespace Go.Proofs.YtipmckdlnipgkaaGreatDoor
open Go.RowKit Go.Sort
set_option linter.unusedVariables false
theorem cellsOf_at {l : List ByteArray} {n i : Nat} (hi : i < l.length) : (Lib.cellsOf l n)[i]? = some (.string l[i]) := by
  unfold Lib.cellsOf
  rw [List.getElem?_toArray, List.getElem?_append_left (by simpa using hi)]
  simp [List.getElem?_eq_getElem hi]
theorem rt_eq {s : List UInt8} {k n k' n' : Int} (h : RtP s k n true) (hk : tyOk k' n' = true) (he : s = tyText k' n') : (k, n) = (k', n') := by
  have := (h.2.2.2 k' n' hk he).2
  exact Prod.ext this.1 this.2
set_option maxRecDepth 100000 in
set_option maxHeartbeats 4000000 in
theorem implReadSchema_any (s : ByteArray) (w : World) (hs : s.size ≤ 1048576) (hw : EV w) : Calls Tryz.prog 77 #[.string s] w fun e w' => RsE s.data.toList w.heap.size w' e ∧ Below w.heap.size w w' := by
  obtain ⟨i0, hi, hz0, hz1, hz2⟩ := info_parts Tryz.infoTyp
  have HEV : Hid (EV w) := hw
  obtain ⟨m, hm⟩ := hw.most
  have HSN : Hid (Calls Tryz.prog 88 #[.string s, .string ⟨#[32]⟩, .int .i64 41] w fun e w' => e = .returned (.slice (some ⟨w.heap.size, 0, none⟩) (Lib.splitB ⟨#[32]⟩ 0 (min 41 (s.size + 1) - 1) s).length (min 41 (s.size + 1))) ∧ w' = w.alloc (.cells (Lib.cellsOf (Lib.splitB ⟨#[32]⟩ 0 (min 41 (s.size + 1) - 1) s) (min 41 (s.size + 1))) 9)) := Tryz.strings_SplitN s ⟨#[32]⟩ 41 m w (by omega) hm (by decide) (by decide) (by decide)
  obtain ⟨N, hN⟩ : ∃ N, min 41 (s.size + 1) = N := ⟨_, rfl⟩
  have hN41 : N ≤ 41 := by omega
  have hN1 : 1 ≤ N := by omega
  obtain ⟨ps, hps⟩ : ∃ ps, Lib.splitB ⟨#[32]⟩ 0 (min 41 (s.size + 1) - 1) s = ps := ⟨_, rfl⟩
  have HPS : Hid (lst ps = Lib.splitK [32] 0 (min 41 (s.data.toList.length + 1) - 1) s.data.toList) := by
    show _ = _
    rw [← hps, ba_len]
    exact Lib.splitB_data ⟨#[32]⟩ 0 _ s
  have hpl : ps.length ≤ N := by have h1 := Lib.splitB_length_le ⟨#[32]⟩ 0 (min 41 (s.size + 1) - 1) s; rw [hps] at h1; omega
  rw [hps, hN] at HSN
  have HPZ : Hid (∀ i (h : i < ps.length), ps[i].size ≤ 1048576) := fun i h => by
    have hj := (join_split (min 41 (s.data.toList.length + 1) - 1) s.data.toList).2
    rw [← HPS.out] at hj
    have hm : ∀ (xs : List (List UInt8)) (x : List UInt8), x ∈ xs → x.length ≤ (Lib.join xs [32]).length := by
      intro xs
      induction xs with
      | nil => intro x hx; cases hx
      | cons a r ih =>
        intro x hx
        cases r with
        | nil => simp at hx; rw [hx, join_one']; exact Nat.le_refl _
        | cons b q =>
          rw [join_cons2, List.length_append, List.length_cons]
          rcases List.mem_cons.1 hx with rfl | hx
          · omega
          · have := ih x hx; omega
    have h2 := hm (lst ps) ps[i].data.toList (by unfold lst; exact List.mem_map.2 ⟨ps[i], List.getElem_mem _, rfl⟩)
    rw [hj, ba_len, ba_len] at h2
    omega
  have HCL : Hid (∀ i (h : i < ps.length), (w.alloc (.cells (Lib.cellsOf ps N) 9)).cell? ⟨w.heap.size, i, none⟩ = some (.string ps[i])) := fun i h => by
    rw [cell_of_row _ w.heap.size i _ _ _ (heap_alloc_new w _)]; exact cellsOf_at h
  have HB1 : Hid (Below w.heap.size w (w.alloc (.cells (Lib.cellsOf ps N) 9))) := bel1 _ _
  clear hps hN hm hw
  go_enter Tryz.func77, Tryz.ntmps77
  go_wp2_with fail
  refine Calls.mono HSN.out ?_
  rintro e w1 ⟨rfl, hw1⟩
  rw [← hw1] at HCL HB1
  have hs1 : w.heap.size + 1 ≤ w1.heap.size := by rw [hw1]; simp
  clear hw1 HSN
  go_wp2_with fail
  go_loopg [4, 12] ps.length (fun gk v i wr => ∃ (j : Nat) (ts : List (Int × Int)), j + gk = ps.length ∧ i = .int .i64 j ∧ ts.length = j ∧ wr.ownsRow w1.heap.size 130 2 v ts.length (flatT ts) ∧ (∀ i (h : i < ts.length) (h' : i < ps.length), RtP ps[i].data.toList ts[i].1 ts[i].2 true) ∧ Below w1.heap.size w1 wr)
  case atStart => exact ⟨0, [], by omega, rfl, rfl, World.ownsRow_nil _ _ _ _, fun i h => by simp at h, Below.refl _ _⟩
  case round =>
    obtain ⟨j, ts, hj', rfl, hjt, hown, htp, hb⟩ := hrel
    have HJ : Hid (j + gk = ps.length) := hj'
    have HJT : Hid (ts.length = j) := hjt
    have HO : Hid (wr.ownsRow w1.heap.size 130 2 u4 ts.length (flatT ts)) := hown
    have HTP : Hid (∀ i (h : i < ts.length) (h' : i < ps.length), RtP ps[i].data.toList ts[i].1 ts[i].2 true) := htp
    have HB : Hid (Below w1.heap.size w1 wr) := hb
    have HBW : Hid (Below w.heap.size w wr) := HB1.out.trans (hb.mono (by omega))
    have hsr : w1.heap.size ≤ wr.heap.size := hb.size
    have hj : j ≤ ps.length := by omega
    have htl : ts.length ≤ 41 := by omega
    clear hj' hown htp hb hjt
    by_cases hlt : j < ps.length
    · have hc : wr.cell? ⟨w.heap.size, j, none⟩ = some (.string ps[j]) := by rw [HB.out.cell (p := ⟨w.heap.size, j, none⟩) (by simp; omega)]; exact HCL.out j hlt
      have hwz := HPZ.out j hlt
      obtain ⟨wd, hwd⟩ : ∃ wd, ps[j] = wd := ⟨_, rfl⟩
      have HWD : Hid (ps[j] = wd) := hwd
      rw [hwd] at hc hwz
      clear hwd
      go_wp2_with fail
      refine (readTyp_any wd wr hwz (HEV.out.below HBW.out)).mono ?_
      rintro e w3 ⟨⟨k, n, b, rfl, hkn⟩, hb3⟩
      have HO3 : Hid (w3.ownsRow w1.heap.size 130 2 u4 ts.length (flatT ts)) := HO.out.kept (gb_bel hb3) (by cases u4.ownBlock <;> simp)
      have HB3 : Hid (Below w1.heap.size w1 w3) := HB.out.trans (hb3.mono hsr)
      have hs3 : w1.heap.size ≤ w3.heap.size := HB3.out.size
      have HKN : Hid (RtP wd.data.toList k n b) := hkn
      clear hb3 hkn hc
      cases b with
      | false =>
        have HF : Hid (∀ us, schOk us = true → schText us = s.data.toList → False) := fun us h1 h2 => by
          have hl : j < (lst ps).length := by unfold lst; rw [List.length_map]; exact hlt
          obtain ⟨k', n', hk', he'⟩ := rd_word_at HPS.out h1 h2 hl
          rw [lst_get hl hlt, HWD.out] at he'
          have := (HKN.out.2.2.2 k' n' hk' he').1
          cases this
        have HB5 : Hid (Below w.heap.size w (w3.alloc (.cells #[.int .i64 k, .int .i64 n] 130))) := (HB1.out.trans (HB3.out.mono (by omega))).alloc (by omega) _
        go_wp2_with fail
        go_ret2
        exact ⟨RsE.none HF.out, HB5.out⟩
      | true =>
        have HOA : Hid ((w3.alloc (.cells #[.int .i64 k, .int .i64 n] 130)).ownsRow w1.heap.size 130 2 u4 ts.length (flatT ts)) := HO3.out.alloc _
        have HBA : Hid (Below w1.heap.size w1 (w3.alloc (.cells #[.int .i64 k, .int .i64 n] 130))) := HB3.out.alloc hs3 _
        go_wp2_with (at_builtin; refine wpList_append_lies _ rfl _ _ 102 rfl w1.heap.size 130 i0 (.agg #[.int .i64 0, .int .i64 0]) 2 16 Tryz.underlying102 hi hz0 hz1 hz2 rfl (by decide) u4 ts.length (flatT ts) rfl (HOA.out.alloc _) ⟨w3.heap.size + 1, 0, none⟩ 1 1 [.int .i64 k, .int .i64 n] rfl rfl ?c1 ?c2 (by omega) ?c3 ?c4 ?c5 (w3.heap.size + 2) (by simp) ?_)
        case c1 =>
          intro i u hi
          match i, hi with
          | 0, hi => simp at hi; subst hi; simp [Addr.add, go_sem]
          | 1, hi => simp at hi; subst hi; simp [Addr.add, go_sem]
        case c2 =>
          intro u hu
          simp at hu
          rcases hu with rfl | rfl <;> rfl
        case c3 => unfold maxLen; omega
        case c4 => omega
        case c5 => simp; omega
        intro g cap2 w4 hown' hgrow hat hlt'
        have HX : Hid (w4.ownsRow w1.heap.size 130 2 (.slice (some ⟨g, 0, none⟩) (ts.length + 1) cap2) (ts ++ [(k, n)]).length (flatT (ts ++ [(k, n)])) ∧ Below w1.heap.size w1 w4) := by
          refine ⟨by rw [flatT_app, flatT_one, List.length_append]; exact hown', (HBA.out.alloc (by simp; omega) _).grown hgrow (by simp; omega) (fun q hq => (HO3.out.lt q hq).1)⟩
        have HT4 : Hid (∀ i (h : i < (ts ++ [(k, n)]).length) (h' : i < ps.length), RtP ps[i].data.toList (ts ++ [(k, n)])[i].1 (ts ++ [(k, n)])[i].2 true) := by
          intro i h h'
          by_cases hil : i < ts.length
          · rw [List.getElem_append_left hil]; exact HTP.out i hil h'
          · have e : i = ts.length := by simp at h; omega
            subst e
            simp only [List.getElem_concat_length]
            have e2 := HWD.out
            have e3 := HJT.out
            subst e3
            rw [e2]
            exact HKN.out
        clear hown' hgrow hat hlt'
        go_wp2_with fail
        go_roundg (gk - 1)
        case rel => exact ⟨j + 1, ts ++ [(k, n)], by have := HJ.out; omega, by go_num, by have := HJT.out; simp; omega, HX.out.1, HT4.out, HX.out.2⟩
        case measure => have := HJ.out; omega
    · have ej : j = ps.length := by omega
      have htl2 : ts.length = ps.length := by rw [HJT.out]; exact ej
      have HWF : Hid (wfT ts) := by
        intro t ht
        obtain ⟨i, hi, rfl⟩ := List.getElem_of_mem ht
        have := HTP.out i hi (by omega)
        exact ⟨this.1, this.2.1⟩
      have HUQ : Hid (∀ us, schOk us = true → schText us = s.data.toList → us = ts) := rd_words2 (ws := lst ps) HPS.out (by unfold lst; rw [List.length_map]; exact htl2) (fun i h h' k n hk he => by
          have hiw : i < ps.length := by omega
          rw [lst_get h hiw] at he
          exact rt_eq (HTP.out i h' hiw) hk he)
      have HIT : Hid (IsTyps wr.heap.size wr u4 ts) := own_typs HO.out (by omega) HWF.out
      have HTX : Hid (schOk ts = true → schText ts = s.data.toList) := fun hk => by
        have hj := (join_split (min 41 (s.data.toList.length + 1) - 1) s.data.toList).2
        rw [← HPS.out] at hj
        rw [← hj]
        exact rd_text hk (by unfold lst; rw [List.length_map]; exact htl2) (fun i h h' => by
          have hiw : i < ps.length := by omega
          rw [lst_get h hiw]
          exact (HTP.out i h' hiw).2.2.1 rfl (schOk_all hk i h'))
      have HC : Hid (Calls Tryz.prog 90 #[u4] wr fun e w' => e = .returned (.bool (schOk ts)) ∧ Below wr.heap.size wr w') := implSchemaOk_any ts u4 wr HIT.out (HEV.out.below HBW.out).kin
      clear hlt
      subst ej
      cases hk : schOk ts with
      | true =>
        have HOKT : Hid (schOk ts = true) := hk
        rw [hk] at HC
        clear hk
        go_wp2_with fail
        refine Calls.mono HC.out ?_
        rintro e w5 ⟨rfl, hb5⟩
        have HB5 : Hid (Below w.heap.size w w5) := HBW.out.trans (hb5.mono (by omega))
        have HO5 : Hid (w5.ownsRow w.heap.size 130 2 u4 ts.length (flatT ts)) := by
          have h1 := HO.out.kept (gb_bel hb5) (by cases u4.ownBlock <;> simp)
          refine ⟨h1.1, ?_⟩
          rcases h1.2 with h | ⟨g, cap, cur, a1, a2, a3⟩
          · exact .inl h
          · exact .inr ⟨g, cap, cur, a1, by omega, a3⟩
        clear hb5
        go_wp2_with fail
        go_ret2
        exact ⟨RsE.some HOKT.out (HTX.out HOKT.out) HUQ.out HO5.out HWF.out, HB5.out⟩
      | false =>
        have HF : Hid (∀ us, schOk us = true → schText us = s.data.toList → False) := fun us h1 h2 => by
          have e := HUQ.out us h1 h2
          subst e
          rw [hk] at h1
          cases h1
        rw [hk] at HC
        clear hk
        go_wp2_with fail
        refine Calls.mono HC.out ?_
        rintro e w5 ⟨rfl, hb5⟩
        have HB5 : Hid (Below w.heap.size w w5) := HBW.out.trans (hb5.mono (by omega))
        clear hb5
        go_wp2_with fail
        go_ret2
        exact ⟨RsE.none HF.out, HB5.out⟩
end Go.Proofs.YtipmckdlnipgkaaGreatDoor
