/- The specification's text of a schema, whole: contract. -/
import Derived.Test.YtipmckdlnipgkaaGreatDoorS4b
namespace Go.Proofs.YtipmckdlnipgkaaGreatDoor
open Go.RowKit Go.Sort
set_option linter.unusedVariables false
set_option maxRecDepth 100000 in
set_option maxHeartbeats 2000000 in
theorem specSchemaText_any (ts : List (Int × Int)) (v : Value) (w : World) (hv : IsTyps w.heap.size w v ts) : Calls Tryz.prog 85 #[v] w fun e w' => e = .returned (.string ⟨(schText ts).toArray⟩) ∧ Below w.heap.size w w' := by
  have HC : Hid (Calls Tryz.prog 71 #[v] w fun e w' => e = .returned (.bool (schOk ts)) ∧ Below w.heap.size w w') := specSchemaOk_any ts v w hv
  cases hs : schOk ts with
  | false =>
    rw [hs] at HC
    rw [schText_no hs]
    clear hs hv
    go_enter Tryz.func85, Tryz.ntmps85
    go_wp2_with fail
    refine Calls.mono HC.out ?_
    rintro e w1 ⟨rfl, hb1⟩
    go_wp2_with fail
    go_ret
    exact ⟨by first | rfl | simp, hb1⟩
  | true =>
    have HV : Hid (IsTyps w.heap.size w v ts) := hv
    have hpos := schOk_pos hs
    have h40 : ts.length ≤ 40 := (schOk_iff.1 hs).1
    have HJL : Hid (∀ j, j ≤ ts.length → (Lib.join (txs ts j) [32]).length ≤ 10 * j) := jt_len (schOk_all hs)
    have HT : Hid (∀ i (hi : i < ts.length), ∃ S : ByteArray, S.data.toList = tyText ts[i].1 ts[i].2 ∧ S.size ≤ 9 ∧ ∀ w', Calls Tryz.prog 99 #[.agg #[.int .i64 ts[i].1, .int .i64 ts[i].2]] w' fun e w'' => e = .returned (.string S) ∧ Below w'.heap.size w' w'') := fun i hi => by
      have ho := schOk_all hs i hi
      refine ⟨⟨(tyText ts[i].1 ts[i].2).toArray⟩, rfl, ?_, fun w' => l2Text_any _ _ w' ho⟩
      have := tyText_len ho
      simpa [ByteArray.size] using this
    have HST : Hid (schText ts = Lib.join (txs ts ts.length) [32]) := schText_ok hs
    rw [hs] at HC
    obtain ⟨b, o, cap, hv', hbl, h1, h2, c0, c1⟩ := hv.at hpos
    obtain ⟨S0, hS0, hS0l, hcall0⟩ := HT.out 0 hpos
    have HC0 : Hid (∀ w', Calls Tryz.prog 99 #[.agg #[.int .i64 ts[0].1, .int .i64 ts[0].2]] w' fun e w'' => e = .returned (.string S0) ∧ Below w'.heap.size w' w'') := hcall0
    have HS0 : Hid (S0.data.toList = Lib.join (txs ts 1) [32]) := by show _ = _; rw [txs_one hpos, join_one']; exact hS0
    simp only [Nat.zero_mul, Nat.add_zero] at c0 c1
    generalize ts[0].1 = k0 at *
    generalize ts[0].2 = n0 at *
    subst hv'
    unfold maxLen at h2
    clear hv hs hcall0 hS0
    go_enter Tryz.func85, Tryz.ntmps85
    go_wp2_with fail
    refine Calls.mono HC.out ?_
    rintro e w1 ⟨rfl, hb1⟩
    have HB1 : Hid (Below w.heap.size w w1) := hb1
    have d0 : w1.cell? ⟨b, o, none⟩ = some (.int .i64 k0) := by rw [hb1.cell (p := ⟨b, o, none⟩) hbl]; exact c0
    have d1 : w1.cell? ⟨b, o + 1, none⟩ = some (.int .i64 n0) := by rw [hb1.cell (p := ⟨b, o + 1, none⟩) hbl]; exact c1
    clear hb1 c0 c1
    go_wp2_with fail
    refine (HC0.out _).mono ?_
    rintro e w2 ⟨rfl, hb2⟩
    have HB2 : Hid (Below w.heap.size w w2) := HB1.out.trans (hb2.mono HB1.out.size)
    clear hb2 d0 d1
    go_wp2_with fail
    go_loopg [3, 4] ts.length (fun gk out i wr => ∃ (j : Nat) (S : ByteArray), j + gk = ts.length + 1 ∧ 1 ≤ j ∧ j ≤ ts.length ∧ i = .int .i64 j ∧ out = .string S ∧ S.data.toList = Lib.join (txs ts j) [32] ∧ Below w.heap.size w wr)
    case atStart => exact ⟨1, S0, by omega, Nat.le_refl _, by omega, rfl, rfl, HS0.out, HB2.out⟩
    case round =>
      obtain ⟨j, S, hj', hj1, hjl, rfl, rfl, hS, hb⟩ := hrel
      have HJ : Hid (j + gk = ts.length + 1) := hj'
      have HS : Hid (S.data.toList = Lib.join (txs ts j) [32]) := hS
      have HB : Hid (Below w.heap.size w wr) := hb
      have hSl : S.size ≤ 400 := by have := HJL.out j hjl; rw [← hS] at this; have e : S.data.toList.length = S.size := Array.length_toList; omega
      clear hj' hS
      by_cases hlt : j < ts.length
      · obtain ⟨b', o', cap', hv', _, _, _, c0, c1⟩ := (HV.out.below hb).at hlt
        cases hv'
        obtain ⟨T, hT, hTl, hcall⟩ := HT.out j hlt
        have HE : Hid (((S ++ ⟨#[32]⟩) ++ T).data.toList = Lib.join (txs ts (j + 1)) [32]) := by
          show _ = _
          rw [txs_succ hlt, join_snoc (txs_ne (by omega) hpos), cat_dl, cat_dl, HS.out, hT]
          simp [List.append_assoc]
        have HCJ : Hid (∀ w', Calls Tryz.prog 99 #[.agg #[.int .i64 ts[j].1, .int .i64 ts[j].2]] w' fun e w'' => e = .returned (.string T) ∧ Below w'.heap.size w' w'') := hcall
        clear hcall hT hb
        generalize ts[j].1 = k at *
        generalize ts[j].2 = n at *
        go_wp2_with fail
        refine (HCJ.out _).mono ?_
        rintro e w3 ⟨rfl, hb3⟩
        have HB3 : Hid (Below w.heap.size w w3) := HB.out.trans (hb3.mono HB.out.size)
        clear hb3 c0 c1
        go_wp2_with fail
        go_roundg (gk - 1)
        case rel => exact ⟨j + 1, _, by have := HJ.out; omega, by omega, by omega, by go_num, rfl, HE.out, HB3.out⟩
        case measure => have := HJ.out; omega
      · have ej : j = ts.length := by omega
        subst ej
        have HE : Hid (S = ⟨(schText ts).toArray⟩) := by show _ = _; apply str_of; rw [HS.out, HST.out]
        clear hb
        go_wp2_with fail
        go_ret
        exact ⟨by rw [← HE.out]; try rfl, HB.out⟩
end Go.Proofs.YtipmckdlnipgkaaGreatDoor
