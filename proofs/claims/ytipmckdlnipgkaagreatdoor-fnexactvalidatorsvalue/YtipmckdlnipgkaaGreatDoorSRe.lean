/- The specification's reading of a schema: contract. -/
import Derived.Test.YtipmckdlnipgkaaGreatDoorSRd
import Derived.Test.YtipmckdlnipgkaaGreatDoorS4c
import Derived.Test.YtipmckdlnipgkaaGreatDoorS2i
namespace Go.Proofs.YtipmckdlnipgkaaGreatDoor
open Go.RowKit Go.Sort
set_option linter.unusedVariables false
/-- What a reading of a text answers, in memory: a row of types of its own, and whether there is a schema. -/
def RsE (s : List UInt8) (base : Nat) (w' : World) (e : Ending) : Prop := ∃ (r : Option (List (Int × Int))) (v : Value), e = .returned (.tuple #[v, .bool r.isSome]) ∧ RdOk s r ∧ w'.ownsRow base 130 2 v (r.getD []).length (flatT (r.getD [])) ∧ wfT (r.getD [])
theorem RsE.none {s : List UInt8} {base : Nat} {w' : World} (h : ∀ us, schOk us = true → schText us = s → False) : RsE s base w' (.returned (.tuple #[.slice none 0 0, .bool false])) :=
  ⟨Option.none, _, rfl, ⟨(by intro ts e; cases e), fun ts h1 h2 => (h ts h1 h2).elim⟩, World.ownsRow_nil _ _ _ _, (by intro t ht; cases ht)⟩
theorem RsE.some {s : List UInt8} {base : Nat} {w' : World} {v : Value} {ts : List (Int × Int)} (h1 : schOk ts = true) (h2 : schText ts = s) (h3 : ∀ us, schOk us = true → schText us = s → us = ts) (h4 : w'.ownsRow base 130 2 v ts.length (flatT ts)) (h5 : wfT ts) : RsE s base w' (.returned (.tuple #[v, .bool true])) :=
  ⟨Option.some ts, v, rfl, ⟨(by intro us e; cases e; exact ⟨h1, h2⟩), fun us a b => by rw [h3 us a b]⟩, h4, h5⟩
theorem lst_get {ws : List ByteArray} {i : Nat} (h : i < (lst ws).length) (h' : i < ws.length) : (lst ws)[i] = ws[i].data.toList := by simp [lst]
theorem own_word {w : World} {base : Nat} {v : Value} {ws : List ByteArray} (h : w.ownsRow base 9 1 v ws.length (strv ws)) {i : Nat} (hi : i < ws.length) : ∃ g cap, v = .slice (some ⟨g, 0, none⟩) ws.length cap ∧ base ≤ g ∧ g < w.heap.size ∧ ws.length ≤ cap ∧ cap ≤ maxLen ∧ w.cell? ⟨g, i, none⟩ = some (.string ws[i]) := by
  rcases h.2 with ⟨_, h0⟩ | ⟨g, cap, cur, hv, hg, hh, h1, h2, h3, h4⟩
  · omega
  · refine ⟨g, cap, hv, hg, blk_lt hh, h1, h2, ?_⟩
    rw [cell_of_row w g i cur _ _ hh]
    have e : (cur.toList.take (ws.length * 1))[i]? = cur.toList[i]? := by rw [List.getElem?_take, if_pos (by omega)]
    rw [h4] at e
    have e2 : (strv ws)[i]? = some (.string ws[i]) := by simp [strv, List.getElem?_eq_getElem hi]
    rw [e2] at e
    simpa using e.symm
set_option maxRecDepth 100000 in
set_option maxHeartbeats 4000000 in
theorem specReadSchema_any (s : ByteArray) (w : World) (hs : s.size ≤ 1048576) : Calls Tryz.prog 74 #[.string s] w fun e w' => RsE s.data.toList w.heap.size w' e ∧ Below w.heap.size w w' := by
  obtain ⟨i0, hi, hz0, hz1, hz2⟩ := info_parts Tryz.infoTyp
  by_cases h500 : 500 < s.size
  · have HX : Hid (RsE s.data.toList w.heap.size w (.returned (.tuple #[.slice none 0 0, .bool false]))) := RsE.none (fun us h1 h2 => by
      have h3 := (sch_len h1).1
      rw [h2, ba_len] at h3
      omega)
    go_enter Tryz.func74, Tryz.ntmps74
    go_wp2_with fail
    go_ret2
    exact ⟨HX.out, Below.refl _ _⟩
  · go_enter Tryz.func74, Tryz.ntmps74
    go_wp2_with fail
    refine (l1Split_any s _ (by omega)).mono ?_
    rintro e w2 ⟨⟨wv, rfl, ws, hws, hsp⟩, hb2⟩
    have hs2 : w.heap.size < w2.heap.size := by have := hb2.size; simp at this; omega
    have HSP : Hid (SpInv s ws ⟨#[]⟩ false) := hsp
    have hwl : ws.length ≤ 501 := by have := hsp.len; simp at this; omega
    have hpos : 0 < ws.length := by
      have := (hsp.last rfl).1
      cases ws with
      | nil => exact absurd rfl this
      | cons a r => simp
    have hws' : w2.ownsRow (w.heap.size + 1) 9 1 wv ws.length (strv ws) := by simpa using hws
    obtain ⟨gw, capw, hwv, hgw, hgw2, hc1, hc2, _⟩ := own_word hws' hpos
    have HWS : Hid (w2.ownsRow (w.heap.size + 1) 9 1 (.slice (some ⟨gw, 0, none⟩) ws.length capw) ws.length (strv ws)) := by rw [← hwv]; exact hws'
    subst hwv
    have HB2 : Hid (Below w.heap.size w w2) := ((Below.refl w.heap.size w).alloc (Nat.le_refl _) _).trans (hb2.mono (by simp))
    have HOW : Hid (w2.ownsRow w.heap.size 130 2 (.slice (some ⟨w.heap.size, 0, none⟩) 0 0) 0 (flatT [])) := (World.ownsRow_lit w #[] 0 (Nat.le_refl _) (by decide) rfl).kept (gb_bel hb2) (.inr (by simp [Value.ownBlock]))
    unfold maxLen at hc2
    clear hws hws' hsp hb2
    go_wp2_with fail
    go_loopg [4, 6] ws.length (fun gk v i wr => ∃ (j : Nat) (ts : List (Int × Int)), j + gk = ws.length ∧ i = .int .i64 j ∧ ts.length = j ∧ wr.ownsRow w.heap.size 130 2 v ts.length (flatT ts) ∧ (v.ownBlock ≠ some gw ∧ gw < wr.heap.size) ∧ wr.ownsRow (w.heap.size + 1) 9 1 (.slice (some ⟨gw, 0, none⟩) ws.length capw) ws.length (strv ws) ∧ (∀ i (h : i < ts.length) (h' : i < ws.length), TypP ws[i].data.toList ts[i].1 ts[i].2) ∧ Below w.heap.size w wr)
    case atStart => exact ⟨0, [], by omega, rfl, rfl, HOW.out, ⟨by simp [Value.ownBlock]; omega, hgw2⟩, HWS.out, fun i h => by simp at h, HB2.out⟩
    case round =>
      obtain ⟨j, ts, hj', rfl, hjt, hown, ⟨hne, hgl⟩, hwsr, htp, hb⟩ := hrel
      have HJ : Hid (j + gk = ws.length) := hj'
      have HJT : Hid (ts.length = j) := hjt
      have HO : Hid (wr.ownsRow w.heap.size 130 2 u4 ts.length (flatT ts)) := hown
      have HNE : Hid (u4.ownBlock ≠ some gw) := hne
      have HW : Hid (wr.ownsRow (w.heap.size + 1) 9 1 (.slice (some ⟨gw, 0, none⟩) ws.length capw) ws.length (strv ws)) := hwsr
      have HTP : Hid (∀ i (h : i < ts.length) (h' : i < ws.length), TypP ws[i].data.toList ts[i].1 ts[i].2) := htp
      have HB : Hid (Below w.heap.size w wr) := hb
      have hsr : w.heap.size ≤ wr.heap.size := hb.size
      have hj : j ≤ ws.length := by omega
      clear hj' hown hne hwsr htp hb hjt
      by_cases hlt : j < ws.length
      · obtain ⟨g', cap', hv', _, _, _, _, hc⟩ := own_word HW.out hlt
        cases hv'
        have hwz : ws[j].size ≤ 1000 := by
          have h1 := (HSP.out.last rfl).2
          have h2 : ws[j].data.toList.length ≤ (Lib.join (lst ws) [32]).length := by
            have hm : ∀ (xs : List (List UInt8)) (x : List UInt8), x ∈ xs → x.length ≤ (Lib.join xs [32]).length := by
              intro xs
              induction xs with
              | nil => intro x hx; cases hx
              | cons a r ih =>
                intro x hx
                cases r with
                | nil => simp at hx; rw [hx, join_one']; exact Nat.le_refl _
                | cons b q =>
                  rw [join_cons2, List.length_append, List.length_cons]
                  rcases List.mem_cons.1 hx with rfl | hx
                  · omega
                  · have := ih x hx; omega
            exact hm _ _ (by unfold lst; exact List.mem_map.2 ⟨ws[j], List.getElem_mem _, rfl⟩)
          rw [h1, ba_len, ba_len] at h2
          omega
        obtain ⟨wd, hwd⟩ : ∃ wd, ws[j] = wd := ⟨_, rfl⟩
        have HWD : Hid (ws[j] = wd) := hwd
        rw [hwd] at hc hwz
        clear hwd
        go_wp2_with fail
        refine (l2Read_any wd wr hwz).mono ?_
        rintro e w3 ⟨⟨k, n, rfl, hkn⟩, hb3⟩
        have HO3 : Hid (w3.ownsRow w.heap.size 130 2 u4 ts.length (flatT ts)) := HO.out.kept (gb_bel hb3) (by cases u4.ownBlock <;> simp)
        have HW3 : Hid (w3.ownsRow (w.heap.size + 1) 9 1 (.slice (some ⟨gw, 0, none⟩) ws.length capw) ws.length (strv ws)) := HW.out.kept (gb_bel hb3) (.inr (by simp [Value.ownBlock]))
        have HB3 : Hid (Below w.heap.size w w3) := HB.out.trans (hb3.mono hsr)
        have hs3 : w.heap.size ≤ w3.heap.size := HB3.out.size
        have hs3' : wr.heap.size ≤ w3.heap.size := hb3.size
        have HKN : Hid (TypP wd.data.toList k n) := hkn
        have htl : ts.length ≤ 501 := by have := HJT.out; omega
        clear hb3 hkn hc
        go_wp2_with (at_builtin; refine wpList_append_lies _ rfl _ _ 102 rfl w.heap.size 130 i0 (.agg #[.int .i64 0, .int .i64 0]) 2 16 Tryz.underlying102 hi hz0 hz1 hz2 rfl (by decide) u4 ts.length (flatT ts) rfl (HO3.out.alloc _) ⟨w3.heap.size, 0, none⟩ 1 1 [.int .i64 k, .int .i64 n] rfl rfl ?c1 ?c2 (by omega) ?c3 ?c4 ?c5 (w3.heap.size + 1) (by simp) ?_)
        case c1 =>
          intro i u hi
          match i, hi with
          | 0, hi => simp at hi; subst hi; simp [Addr.add]
          | 1, hi => simp at hi; subst hi; simp [Addr.add]
        case c2 =>
          intro u hu
          simp at hu
          rcases hu with rfl | rfl <;> rfl
        case c3 => unfold maxLen; omega
        case c4 => omega
        case c5 => simp; omega
        intro g cap2 w4 hown' hgrow hat hlt'
        have HX : Hid (w4.ownsRow w.heap.size 130 2 (.slice (some ⟨g, 0, none⟩) (ts.length + 1) cap2) (ts ++ [(k, n)]).length (flatT (ts ++ [(k, n)])) ∧ Below w.heap.size w w4) := by
          refine ⟨by rw [flatT_app, flatT_one, List.length_append]; exact hown', (HB3.out.alloc hs3 _).grown hgrow (by simp; omega) (fun q hq => (HO3.out.lt q hq).1)⟩
        have HG : Hid (g ≠ gw ∧ gw < w4.heap.size) := by
          refine ⟨?_, by have := hgrow.size; simp at this; omega⟩
          rcases hat with hat | hat
          · intro e; rw [e] at hat; exact HNE.out hat
          · omega
        have HW4 : Hid (w4.ownsRow (w.heap.size + 1) 9 1 (.slice (some ⟨gw, 0, none⟩) ws.length capw) ws.length (strv ws)) := (HW3.out.alloc _).kept hgrow (.inr (by simp only [Value.ownBlock]; exact fun e => HNE.out e.symm))
        have HT4 : Hid (∀ i (h : i < (ts ++ [(k, n)]).length) (h' : i < ws.length), TypP ws[i].data.toList (ts ++ [(k, n)])[i].1 (ts ++ [(k, n)])[i].2) := by
          intro i h h'
          by_cases hil : i < ts.length
          · rw [List.getElem_append_left hil]; exact HTP.out i hil h'
          · have e : i = ts.length := by simp at h; omega
            subst e
            simp only [List.getElem_concat_length]
            have e2 := HWD.out
            have e3 := HJT.out
            subst e3
            rw [e2]
            exact HKN.out
        clear hown' hgrow hat hlt'
        go_wp2_with fail
        go_roundg (gk - 1)
        case rel => exact ⟨j + 1, ts ++ [(k, n)], by have := HJ.out; omega, by go_num, by have := HJT.out; simp; omega, HX.out.1, ⟨by simp only [Value.ownBlock]; intro e; exact HG.out.1 (by injection e), HG.out.2⟩, HW4.out, HT4.out, HX.out.2⟩
        case measure => have := HJ.out; omega
      · have ej : j = ws.length := by omega
        have htl : ts.length = ws.length := by rw [HJT.out]; exact ej
        have HWF : Hid (wfT ts) := by
          intro t ht
          obtain ⟨i, hi, rfl⟩ := List.getElem_of_mem ht
          have := HTP.out i hi (by omega)
          exact ⟨this.1, this.2.1⟩
        have HUQ : Hid (∀ us, schOk us = true → schText us = s.data.toList → us = ts) := rd_words (ws := lst ws) (HSP.out.last rfl).2 (by
            intro e
            have h2 : (lst ws).length = 0 := by rw [e]; rfl
            unfold lst at h2
            rw [List.length_map] at h2
            omega) HSP.out.wd (by simp [lst]; exact htl) (fun i h h' k n hk he => by
            have hiw : i < ws.length := by omega
            rw [lst_get h hiw] at he
            have := (HTP.out i h' hiw).2.2 k n hk he
            exact Prod.ext this.1 this.2)
        have HIT : Hid (IsTyps wr.heap.size wr u4 ts) := own_typs HO.out (by omega) HWF.out
        clear hlt
        subst ej
        by_cases hz : s.size = 0
        · have HX : Hid (RsE s.data.toList w.heap.size wr (.returned (.tuple #[.slice none 0 0, .bool false]))) := RsE.none (fun us h1 h2 => by
            have h3 := (sch_len h1).2
            rw [h2] at h3
            exact h3 (List.eq_nil_of_length_eq_zero (by rw [ba_len]; exact hz)))
          have hcmp : (s.toList == []) = true := by rw [ByteArray.toList_eq, beq_iff_eq]; exact List.eq_nil_of_length_eq_zero (by rw [ba_len]; exact hz)
          clear hz
          go_wp2_with fail
          go_ret2
          exact ⟨HX.out, HB.out⟩
        · have hcmp : (s.toList == []) = false := by
            rw [ByteArray.toList_eq, beq_eq_false_iff_ne]
            intro e
            have h2 := ba_len s
            rw [e] at h2
            exact hz h2.symm
          have HSN : Hid (s.data.toList ≠ []) := by
            intro e
            have h2 := ba_len s
            rw [e] at h2
            exact hz h2.symm
          obtain ⟨X, hX⟩ : ∃ X : ByteArray, (⟨(schText ts).toArray⟩ : ByteArray) = X := ⟨_, rfl⟩
          have HXD : Hid (X.data.toList = schText ts) := by show _ = _; rw [← hX]
          have HST : Hid (Calls Tryz.prog 85 #[u4] wr fun e w' => e = .returned (.string X) ∧ Below wr.heap.size wr w') := by rw [← hX]; exact specSchemaText_any ts u4 wr HIT.out
          clear hX hz
          by_cases hq : X.data.toList = s.data.toList
          · have hcmp2 : (X.toList == s.toList) = true := by rw [ByteArray.toList_eq, ByteArray.toList_eq, beq_iff_eq]; exact hq
            have HOKT : Hid (schOk ts = true ∧ schText ts = s.data.toList) := by
              have h1 : schText ts = s.data.toList := by rw [← HXD.out]; exact hq
              refine ⟨?_, h1⟩
              cases hk : schOk ts with
              | true => rfl
              | false => rw [schText_no hk] at h1; exact absurd h1.symm HSN.out
            clear hq
            go_wp2_with fail
            refine Calls.mono HST.out ?_
            rintro e w5 ⟨rfl, hb5⟩
            have HB5 : Hid (Below w.heap.size w w5) := HB.out.trans (hb5.mono hsr)
            have HO5 : Hid (w5.ownsRow w.heap.size 130 2 u4 ts.length (flatT ts)) := HO.out.kept (gb_bel hb5) (by cases u4.ownBlock <;> simp)
            clear hb5
            go_wp2_with fail
            go_ret2
            exact ⟨RsE.some HOKT.out.1 HOKT.out.2 HUQ.out HO5.out HWF.out, HB5.out⟩
          · have hcmp2 : (X.toList == s.toList) = false := by rw [ByteArray.toList_eq, ByteArray.toList_eq, beq_eq_false_iff_ne]; exact hq
            have HF : Hid (∀ us, schOk us = true → schText us = s.data.toList → False) := fun us h1 h2 => by
              have e := HUQ.out us h1 h2
              subst e
              exact hq (by rw [HXD.out]; exact h2)
            clear hq
            go_wp2_with fail
            refine Calls.mono HST.out ?_
            rintro e w5 ⟨rfl, hb5⟩
            have HB5 : Hid (Below w.heap.size w w5) := HB.out.trans (hb5.mono hsr)
            clear hb5
            go_wp2_with fail
            go_ret2
            exact ⟨RsE.none HF.out, HB5.out⟩
end Go.Proofs.YtipmckdlnipgkaaGreatDoor
