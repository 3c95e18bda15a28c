/- The program's text of a schema: contract; the tables off their texts. -/
import Derived.Test.YtlfodnkiamogiaaGreatDoorS4d
import Derived.Test.YtlfodnkiamogiaaGreatDoorS2k
import Derived.Lib.LaidTab
namespace Go.Proofs.YtlfodnkiamogiaaGreatDoor
open Go.RowKit Go.Sort
set_option linter.unusedVariables false
theorem Tryz.infoStr : (Tryz.prog.info? 9).map (fun i => (i.zero, i.size, i.bytes)) = some (some (.string ByteArray.empty), 1, 16) := by kernel_rfl
/-- Strings as values. -/
def strs (xs : List ByteArray) : List Value := xs.map fun x => .string x
def wds (ts : List (Int × Int)) (j : Nat) : List ByteArray := (ts.take j).map fun t => ⟨(tyText t.1 t.2).toArray⟩
theorem wds_len {ts : List (Int × Int)} {j : Nat} (h : j ≤ ts.length) : (wds ts j).length = j := by simp [wds]; omega
theorem wds_succ {ts : List (Int × Int)} {j : Nat} (h : j < ts.length) : wds ts (j + 1) = wds ts j ++ [⟨(tyText ts[j].1 ts[j].2).toArray⟩] := by
  unfold wds
  rw [List.take_succ_eq_append_getElem h, List.map_append]; rfl
theorem wds_txs (ts : List (Int × Int)) (j : Nat) : (wds ts j).map (·.data.toList) = txs ts j := by
  unfold wds txs
  rw [List.map_map]
  apply List.map_congr_left
  intro t _
  rfl
set_option maxRecDepth 100000 in
set_option maxHeartbeats 2000000 in
theorem implSchemaText_any (ts : List (Int × Int)) (v : Value) (w : World) (hv : IsTyps w.heap.size w v ts) (hw : KR w) (hp : PW w) : Calls Tryz.prog 6 #[v] w fun e w' => e = .returned (.string ⟨(schText ts).toArray⟩) ∧ Below w.heap.size w w' := by
  obtain ⟨i0, hi, hz0, hz1, hz2⟩ := info_parts Tryz.infoStr
  have HC : Hid (Calls Tryz.prog 13 #[v] w fun e w' => e = .returned (.bool (schOk ts)) ∧ Below w.heap.size w w') := implSchemaOk_any ts v w hv hw
  cases hs : schOk ts with
  | false =>
    rw [hs] at HC
    rw [schText_no hs]
    clear hs hv hw hp
    go_enter Tryz.func6, Tryz.ntmps6
    go_wp2_with fail
    refine Calls.mono HC.out ?_
    rintro e w1 ⟨rfl, hb1⟩
    go_wp2_with fail
    go_ret
    exact ⟨by first | rfl | simp, hb1⟩
  | true =>
    have HV : Hid (IsTyps w.heap.size w v ts) := hv
    have hpos := schOk_pos hs
    have h40 : ts.length ≤ 40 := (schOk_iff.1 hs).1
    have HJL : Hid ((Lib.join (txs ts ts.length) [32]).length ≤ 400) := by have := jt_len (schOk_all hs) ts.length (Nat.le_refl _); show _ ≤ _; omega
    have HT : Hid (∀ i (hi : i < ts.length) w', Below w.heap.size w w' → Calls Tryz.prog 15 #[.agg #[.int .i64 ts[i].1, .int .i64 ts[i].2]] w' fun e w'' => e = .returned (.string ⟨(tyText ts[i].1 ts[i].2).toArray⟩) ∧ Below w'.heap.size w' w'') := fun i hi w' hb => typText_any _ _ w' (schOk_all hs i hi) (hw.below hb) (hp.below hb)
    have HST : Hid (schText ts = Lib.join (txs ts ts.length) [32]) := schText_ok hs
    rw [hs] at HC
    obtain ⟨ad, cap, rfl, h1, h2, h3⟩ := hv.form
    unfold maxLen at h2
    clear hv hs hw hp h3
    go_enter Tryz.func6, Tryz.ntmps6
    go_wp2_with fail
    refine Calls.mono HC.out ?_
    rintro e w1 ⟨rfl, hb1⟩
    have HB1 : Hid (Below w.heap.size w w1) := hb1
    clear hb1
    go_wp2_with fail
    go_loopg [3, 11] ts.length (fun gk ws i wr => ∃ j : Nat, j + gk = ts.length ∧ i = .int .i64 j ∧ wr.ownsRow w1.heap.size 9 1 ws j (strs (wds ts j)) ∧ Below w1.heap.size w1 wr)
    case atStart => exact ⟨0, by omega, rfl, World.ownsRow_nil _ _ _ _, Below.refl _ _⟩
    case round =>
      obtain ⟨j, hj', rfl, hown, hbel⟩ := hrel
      have HJ : Hid (j + gk = ts.length) := hj'
      have hj : j ≤ ts.length := by omega
      have HO : Hid (wr.ownsRow w1.heap.size 9 1 u3 j (strs (wds ts j))) := hown
      have HB : Hid (Below w1.heap.size w1 wr) := hbel
      have hBw : Below w.heap.size w wr := HB1.out.trans (hbel.mono HB1.out.size)
      have HBW : Hid (Below w.heap.size w wr) := hBw
      have hsr : w1.heap.size ≤ wr.heap.size := hbel.size
      clear hj' hown hbel
      by_cases hlt : j < ts.length
      · obtain ⟨b', o', cap', hv', hbl, _, _, c0, c1⟩ := (HV.out.below hBw).at hlt
        cases hv'
        obtain ⟨T, hT⟩ : ∃ T : ByteArray, (⟨(tyText ts[j].1 ts[j].2).toArray⟩ : ByteArray) = T := ⟨_, rfl⟩
        have HCJ : Hid (∀ w', Below w.heap.size w w' → Calls Tryz.prog 15 #[.agg #[.int .i64 ts[j].1, .int .i64 ts[j].2]] w' fun e w'' => e = .returned (.string T) ∧ Below w'.heap.size w' w'') := fun w' hb => by rw [← hT]; exact HT.out j hlt w' hb
        have HR : Hid (strs (wds ts (j + 1)) = strs (wds ts j) ++ [.string T]) := by show _ = _; rw [wds_succ hlt, hT]; simp [strs]
        clear hT hBw
        generalize ts[j].1 = k at *
        generalize ts[j].2 = n at *
        go_wp2_with fail
        refine (HCJ.out _ (HBW.out.alloc (by have := HBW.out.size; omega) _)).mono ?_
        rintro e w3 ⟨rfl, hb3⟩
        have HO3 : Hid (w3.ownsRow w1.heap.size 9 1 u3 j (strs (wds ts j))) := (HO.out.alloc _).kept (gb_bel hb3) (by cases u3.ownBlock <;> simp)
        have HB3 : Hid (Below w1.heap.size w1 w3) := (HB.out.alloc hsr _).trans (hb3.mono (by simp; omega))
        have hs3 : w1.heap.size ≤ w3.heap.size := HB3.out.size
        clear hb3 c0 c1
        go_wp2_with (at_builtin; refine wpList_append_lies _ rfl _ _ 32 rfl w1.heap.size 9 i0 (.string ByteArray.empty) 1 16 Tryz.underlying32 hi hz0 hz1 hz2 rfl (by decide) u3 j _ rfl (HO3.out.alloc _) ⟨w3.heap.size, 0, none⟩ 1 1 [.string T] rfl rfl ?c1 ?c2 (by omega) ?c3 ?c4 ?c5 (w3.heap.size + 1) (by simp) ?_)
        case c1 =>
          intro i u hi
          match i, hi with
          | 0, hi => simp at hi; subst hi; simp [Addr.add]
        case c2 => intro u hu; simp at hu; subst hu; rfl
        case c3 => unfold maxLen; omega
        case c4 => omega
        case c5 => simp; omega
        intro g cap2 w4 hown' hgrow hat hlt'
        have HX : Hid (w4.ownsRow w1.heap.size 9 1 (.slice (some ⟨g, 0, none⟩) (j + 1) cap2) (j + 1) (strs (wds ts (j + 1))) ∧ Below w1.heap.size w1 w4) := by
          refine ⟨by rw [HR.out]; exact hown', (HB3.out.alloc hs3 _).grown hgrow (by simp; omega) (fun q hq => (HO3.out.lt q hq).1)⟩
        clear hown' hgrow hat hlt'
        go_wp2_with fail
        go_roundg (gk - 1)
        case rel => exact ⟨j + 1, by have := HJ.out; omega, by go_num, HX.out.1, HX.out.2⟩
        case measure => have := HJ.out; omega
      · have ej : j = ts.length := by omega
        subst ej
        have h2' := HO.out.2
        rcases h2' with ⟨_, hn0⟩ | ⟨g, cp, cur, rfl, hg, _, hcp, hcm, _, _⟩
        · omega
        have hgw : g < wr.heap.size := (HO.out.lt g rfl).2
        have HK : Hid (Calls Tryz.prog 16 #[.slice (some ⟨g, 0, none⟩) ts.length cp, .string ⟨#[32]⟩] wr fun e w' => e = .returned (.string ⟨(schText ts).toArray⟩) ∧ Below wr.heap.size wr w') := by
          have hl := wds_len (ts := ts) (j := ts.length) (Nat.le_refl _)
          have := Tryz.strings_Join g 0 cp (wds ts ts.length) ⟨#[32]⟩ wr (fun q x hx => by
            have h5 := HO.out.cells (g := g) rfl q (.string x) (by unfold strs; simp [hx])
            have hadd : (⟨g, 0, none⟩ : Addr).add q = ⟨g, 0 + q, none⟩ := by unfold Addr.add; split <;> simp_all
            rwa [hadd] at h5) hgw (by omega) (by omega) (by rw [wds_txs]; have := HJL.out; show (Lib.join (txs ts ts.length) [32]).length ≤ _; omega)
          rw [hl, wds_txs] at this
          rw [HST.out]
          exact this
        clear hBw
        go_wp2_with fail
        refine Calls.mono HK.out ?_
        rintro e w5 ⟨rfl, hb5⟩
        have HB5 : Hid (Below w.heap.size w w5) := HBW.out.trans (hb5.mono HBW.out.size)
        clear hb5
        go_wp2_with fail
        go_ret
        exact ⟨by first | rfl | simp, HB5.out⟩
end Go.Proofs.YtlfodnkiamogiaaGreatDoor
