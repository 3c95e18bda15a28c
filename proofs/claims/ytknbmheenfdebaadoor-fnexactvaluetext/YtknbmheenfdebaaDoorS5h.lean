/- The specification's text of a value: contract. -/
import Derived.Test.YtknbmheenfdebaaDoorS5g
namespace Go.Proofs.YtknbmheenfdebaaDoor
open Go.RowKit Go.Sort
set_option linter.unusedVariables false
/-- The texts of the first j items. -/
def itx (vs : List It) (j : Nat) : List (List UInt8) := (vs.take j).map itText
theorem itx_succ {vs : List It} {j : Nat} (h : j < vs.length) : itx vs (j + 1) = itx vs j ++ [itText vs[j]] := by
  unfold itx
  rw [List.take_succ_eq_append_getElem h, List.map_append]; rfl
theorem join_snoc {xs : List (List UInt8)} {y : List UInt8} (h : xs ≠ []) : Lib.join (xs ++ [y]) [32] = Lib.join xs [32] ++ (32 :: y) := by
  unfold Lib.join
  induction xs with
  | nil => exact absurd rfl h
  | cons a t ih =>
    cases t with
    | nil => simp [List.intercalate]
    | cons b r =>
      have := ih (by simp)
      simp only [List.intercalate, List.intersperse, List.cons_append, List.flatten_cons] at this ⊢
      rw [this]
      simp [List.append_assoc]
theorem join_one' (y : List UInt8) : Lib.join [y] [32] = y := by simp [Lib.join, List.intercalate]
theorem itx_ne {vs : List It} {j : Nat} (h : 0 < j) (hl : 0 < vs.length) : itx vs j ≠ [] := by
  intro e
  have := congrArg List.length e
  simp only [itx, List.length_map, List.length_take, List.length_nil] at this
  omega
theorem itText_len {x : It} (hm : x.n < 18446744073709551616) (hs : x.s.size ≤ 1048577) : (itText x).length ≤ 2097156 := by
  have h1 := decDigits_len hm
  have h2 := hexL_len x.s.data.toList
  have h3 : x.s.data.toList.length = x.s.size := Array.length_toList
  unfold itText
  repeat' split
  all_goals (try simp only [List.length_cons, List.length_nil])
  all_goals omega
theorem itj_len {vs : List It} (h : ∀ x ∈ vs, x.n < 18446744073709551616 ∧ x.s.size ≤ 1048577) : ∀ j, j ≤ vs.length → (Lib.join (itx vs j) [32]).length ≤ 2097157 * j := by
  intro j
  induction j with
  | zero => intro _; simp [itx, Lib.join, List.intercalate]
  | succ j ih =>
    intro hj
    rw [itx_succ (by omega)]
    obtain ⟨q1, q2⟩ := h vs[j] (List.getElem_mem _)
    have h1 := itText_len q1 q2
    cases j with
    | zero => simp only [itx, List.take_zero, List.map_nil, List.nil_append, join_one']; omega
    | succ j =>
      rw [join_snoc (itx_ne (by omega) (by omega)), List.length_append, List.length_cons]
      have := ih (by omega)
      omega
theorem str_of {S : ByteArray} {l : List UInt8} (h : S.data.toList = l) : S = ⟨l.toArray⟩ := by
  obtain ⟨⟨x⟩⟩ := S
  simp at h
  subst h
  rfl
theorem cat_dl (a b : ByteArray) : (a ++ b).data.toList = a.data.toList ++ b.data.toList := by simp
theorem vText_bad {vs : List It} {j : Nat} (h : j < vs.length) (hb : aloneI vs[j] = false) : vText vs = [] := by
  unfold vText
  rw [if_neg]
  intro e
  simp only [Bool.and_eq_true, List.all_eq_true] at e
  have := e.2.2 vs[j] (List.getElem_mem _)
  rw [hb] at this; cases this
theorem vText_out {vs : List It} (h : vs.length = 0 ∨ 200 < vs.length) : vText vs = [] := by
  unfold vText
  rw [if_neg]
  intro e
  simp only [Bool.and_eq_true, decide_eq_true_eq] at e
  omega
theorem vText_ok {vs : List It} (h0 : 0 < vs.length) (h1 : vs.length ≤ 200) (h : ∀ i (hi : i < vs.length), aloneI vs[i] = true) : vText vs = Lib.join (itx vs vs.length) [32] := by
  unfold vText itx
  rw [List.take_length, if_pos]
  simp only [Bool.and_eq_true, decide_eq_true_eq, List.all_eq_true]
  refine ⟨h0, h1, fun x hx => ?_⟩
  obtain ⟨i, hi, rfl⟩ := List.getElem_of_mem hx
  exact h i hi
set_option maxRecDepth 100000 in
set_option maxHeartbeats 2000000 in
theorem specValueText_any (vs : List It) (v : Value) (w : World) (hv : IsItems w.heap.size w v vs) : Calls Tryd.prog 5 #[v] w fun e w' => e = .returned (.string ⟨(vText vs).toArray⟩) ∧ Below w.heap.size w w' := by
  have HV : Hid (IsItems w.heap.size w v vs) := hv
  obtain ⟨ad, cap, rfl, h0, h1, h2, hwf⟩ := hv.form
  have HWF : Hid (∀ x ∈ vs, inI x.k ∧ x.n < 18446744073709551616 ∧ x.s.size ≤ 1048577) := hwf
  have HJL : Hid (∀ j, j ≤ vs.length → (Lib.join (itx vs j) [32]).length ≤ 2097157 * j) := itj_len (fun x hx => ⟨(hwf x hx).2.1, (hwf x hx).2.2⟩)
  obtain ⟨R, hR⟩ : ∃ R, vText vs = R := ⟨_, rfl⟩
  have HR : Hid (vText vs = R) := hR
  rw [hR]
  unfold maxLen at h2
  clear hv hwf hR
  by_cases hz : vs.length = 0
  · have HE : Hid (R = []) := by show _ = _; rw [← HR.out]; exact vText_out (.inl hz)
    have hz' : ((vs.length : Int) == 0) = true := by simp [hz]
    clear hz
    go_enter Tryd.func5, Tryd.ntmps5
    go_wp2_with fail
    go_ret
    exact ⟨by rw [HE.out]; try rfl, Below.refl _ _⟩
  have hz' : ((vs.length : Int) == 0) = false := beqF (by omega)
  by_cases hbig : 200 < vs.length
  · have HE : Hid (R = []) := by show _ = _; rw [← HR.out]; exact vText_out (.inr hbig)
    have hb' : decide (200 < vs.length) = true := by simpa using hbig
    have hb'' : decide ((200 : Int) < vs.length) = true := by simp; omega
    clear hz hbig
    go_enter Tryd.func5, Tryd.ntmps5
    go_wp2_with fail
    go_ret
    exact ⟨by rw [HE.out]; try rfl, Below.refl _ _⟩
  have hb' : decide (200 < vs.length) = false := by simp; omega
  have hb'' : decide ((200 : Int) < vs.length) = false := by simp; omega
  have h200 : vs.length ≤ 200 := by omega
  have hpos : 0 < vs.length := by omega
  clear hz hbig
  go_enter Tryd.func5, Tryd.ntmps5
  go_wp2_with fail
  go_loopg [3, 4] vs.length (fun gk out i wr => ∃ (j : Nat) (S : ByteArray), j + gk = vs.length ∧ i = .int .i64 j ∧ out = .string S ∧ S.data.toList = Lib.join (itx vs j) [32] ∧ (∀ i (hi : i < vs.length), i < j → aloneI vs[i] = true) ∧ Below w.heap.size w wr)
  case atStart => exact ⟨0, ⟨#[]⟩, by omega, rfl, rfl, by simp [itx, Lib.join, List.intercalate], fun i _ h => by omega, Below.refl _ _⟩
  case round =>
    obtain ⟨j, S, hj', rfl, rfl, hS, hal, hb⟩ := hrel
    have HJ : Hid (j + gk = vs.length) := hj'
    have hj : j ≤ vs.length := by omega
    have HS : Hid (S.data.toList = Lib.join (itx vs j) [32]) := hS
    have HAL : Hid (∀ i (hi : i < vs.length), i < j → aloneI vs[i] = true) := hal
    have HB : Hid (Below w.heap.size w wr) := hb
    have hSl : S.size ≤ 419431400 := by
      have h3 := HJL.out j hj
      rw [← hS] at h3
      have e : S.data.toList.length = S.size := Array.length_toList
      omega
    clear hj' hS hal
    by_cases hlt : j < vs.length
    · obtain ⟨b, o, C, hv', hbl, _, _, c0, c1, c2⟩ := (HV.out.below hb).at hlt
      cases hv'
      obtain ⟨w1, w2, w3⟩ := HWF.out vs[j] (List.getElem_mem _)
      have HA : Hid (∀ w', Calls Tryd.prog 10 #[.agg #[.int .i64 vs[j].k, .int .u64 vs[j].n, .string vs[j].s]] w' fun e w'' => e = .returned (.bool (aloneI vs[j])) ∧ Below w'.heap.size w' w'') := fun w' => l3Alone_any vs[j] w' w2
      cases hae : aloneI vs[j] with
      | false =>
        have HE : Hid (R = []) := by show _ = _; rw [← HR.out]; exact vText_bad hlt hae
        rw [hae] at HA
        clear hae hb w1 w2 w3
        generalize vs[j].k = k at *
        generalize vs[j].n = n at *
        generalize vs[j].s = s at *
        go_wp2_with fail
        refine (HA.out _).mono ?_
        rintro e w4 ⟨rfl, hb4⟩
        have HB4 : Hid (Below w.heap.size w w4) := HB.out.trans (hb4.mono HB.out.size)
        clear hb4
        go_wp2_with fail
        go_ret
        exact ⟨by rw [HE.out]; try rfl, HB4.out⟩
      | true =>
        obtain ⟨T, hT⟩ : ∃ T : ByteArray, (⟨(itText vs[j]).toArray⟩ : ByteArray) = T := ⟨_, rfl⟩
        have HC : Hid (∀ w', Calls Tryd.prog 11 #[.agg #[.int .i64 vs[j].k, .int .u64 vs[j].n, .string vs[j].s]] w' fun e w'' => e = .returned (.string T) ∧ Below w'.heap.size w' w'') := fun w' => by rw [← hT]; exact l3Text_any vs[j] w' w2 w3 hae
        have hTl : T.size ≤ 2097156 := by rw [← hT]; exact itText_len w2 w3
        have hTd : T.data.toList = itText vs[j] := by rw [← hT]
        have HAL2 : Hid (∀ i (hi : i < vs.length), i < j + 1 → aloneI vs[i] = true) := fun i hi h => by
          by_cases e : i = j
          · subst e; exact hae
          · exact HAL.out i hi (by omega)
        have HE0 : Hid (j = 0 → (S ++ T).data.toList = Lib.join (itx vs (j + 1)) [32]) := fun e => by
          have h4 := HS.out
          subst e
          rw [itx_succ hlt, cat_dl, h4, hTd]
          simp [itx, Lib.join, List.intercalate]
        have HE1 : Hid (0 < j → ((S ++ ⟨#[32]⟩) ++ T).data.toList = Lib.join (itx vs (j + 1)) [32]) := fun e => by
          rw [itx_succ hlt, join_snoc (itx_ne e hpos), cat_dl, cat_dl, HS.out, hTd]
          simp [List.append_assoc]
        rw [hae] at HA
        have hci : ∀ w', Below wr.heap.size wr w' → w'.cell? ⟨b, o + j * 3, none⟩ = some (.int .i64 vs[j].k) ∧ w'.cell? ⟨b, o + j * 3 + 1, none⟩ = some (.int .u64 vs[j].n) ∧ w'.cell? ⟨b, o + j * 3 + 2, none⟩ = some (.string vs[j].s) := fun w' hb' => by
          have hbl' : b < wr.heap.size := by have := HB.out.size; omega
          rw [hb'.cell (p := ⟨b, o + j * 3, none⟩) hbl', hb'.cell (p := ⟨b, o + j * 3 + 1, none⟩) hbl', hb'.cell (p := ⟨b, o + j * 3 + 2, none⟩) hbl']
          exact ⟨c0, c1, c2⟩
        have HCI : Hid (∀ w', Below wr.heap.size wr w' → w'.cell? ⟨b, o + j * 3, none⟩ = some (.int .i64 vs[j].k) ∧ w'.cell? ⟨b, o + j * 3 + 1, none⟩ = some (.int .u64 vs[j].n) ∧ w'.cell? ⟨b, o + j * 3 + 2, none⟩ = some (.string vs[j].s)) := hci
        clear hae hb w1 w2 w3 hT hTd hci
        generalize vs[j].k = k at *
        generalize vs[j].n = n at *
        generalize vs[j].s = s at *
        go_wp2_with fail
        refine (HA.out _).mono ?_
        rintro e w4 ⟨rfl, hb4⟩
        have HB4 : Hid (Below w.heap.size w w4) := HB.out.trans (hb4.mono HB.out.size)
        obtain ⟨d0, d1, d2⟩ := HCI.out w4 hb4
        clear hb4 c0 c1 c2
        by_cases hj0 : j = 0
        · have HE : Hid ((S ++ T).data.toList = Lib.join (itx vs (j + 1)) [32]) := HE0.out hj0
          have hjd : decide (0 < j) = false := by simp; omega
          clear HE0 HE1 hj0
          go_wp2_with fail
          refine (HC.out _).mono ?_
          rintro e w5 ⟨rfl, hb5⟩
          have HB5 : Hid (Below w.heap.size w w5) := HB4.out.trans (hb5.mono HB4.out.size)
          clear hb5 d0 d1 d2
          go_wp2_with fail
          go_roundg (gk - 1)
          case rel => exact ⟨j + 1, _, by have := HJ.out; omega, by go_num, rfl, HE.out, HAL2.out, HB5.out⟩
          case measure => have := HJ.out; omega
        · have HE : Hid (((S ++ ⟨#[32]⟩) ++ T).data.toList = Lib.join (itx vs (j + 1)) [32]) := HE1.out (by omega)
          have hjd : decide (0 < j) = true := by simp; omega
          clear HE0 HE1 hj0
          go_wp2_with fail
          refine (HC.out _).mono ?_
          rintro e w5 ⟨rfl, hb5⟩
          have HB5 : Hid (Below w.heap.size w w5) := HB4.out.trans (hb5.mono HB4.out.size)
          clear hb5 d0 d1 d2
          go_wp2_with fail
          go_roundg (gk - 1)
          case rel => exact ⟨j + 1, _, by have := HJ.out; omega, by go_num, rfl, HE.out, HAL2.out, HB5.out⟩
          case measure => have := HJ.out; omega
    · have ej : j = vs.length := by omega
      have HE : Hid (S = ⟨R.toArray⟩) := by
        show _ = _
        apply str_of
        rw [HS.out, ← HR.out, vText_ok hpos h200 (fun i hi => HAL.out i hi (by omega)), ej]
      clear hb ej
      go_wp2_with fail
      go_ret
      exact ⟨by rw [← HE.out]; try rfl, HB.out⟩
end Go.Proofs.YtknbmheenfdebaaDoor
