/- S8b, RDc, RDj, RDd, RDk, RDl: one text. -/
import Derived.Test.YtdncnjmlicdamaaGreatDoorS8a
import Derived.Test.YtdncnjmlicdamaaGreatDoorS3f
import Derived.Test.YtdncnjmlicdamaaGreatDoorRDb
import Derived.Test.YtdncnjmlicdamaaGreatDoorSBq
import Derived.Test.YtdncnjmlicdamaaGreatDoorL1i
namespace Go.Proofs.YtdncnjmlicdamaaGreatDoor
open Go.RowKit Go.Sort
set_option linter.unusedVariables false
theorem ba_sz (l : List UInt8) : ByteArray.size ⟨l.toArray⟩ = l.length := by show l.toArray.size = _; simp
/-- A string's bytes, opened: it is its own head, or not. -/
theorem own_cases (l : List UInt8) (S : ByteArray) (hS : (⟨l.toArray⟩ : ByteArray) = S) : (S.size ≠ 1 ∧ isOwn l = false) ∨ (∃ h : 0 < S.size, S.size = 1 ∧ isOwn l = decide ((S[0]'h).toNat < 128)) := by
  subst hS
  match l with
  | [] => exact .inl ⟨by decide, rfl⟩
  | [b] => exact .inr ⟨by rw [ba_sz]; simp, by rw [ba_sz]; rfl, rfl⟩
  | a :: b :: r => exact .inl ⟨by rw [ba_sz]; simp, rfl⟩
set_option maxRecDepth 100000 in
set_option maxHeartbeats 1000000 in
theorem isOwnHead_any (l : List UInt8) (w : World) : Calls Tryz.prog 106 #[.string ⟨l.toArray⟩] w fun e w' => e = .returned (.bool (isOwn l)) ∧ w' = w := by
  obtain ⟨S, hS⟩ : ∃ S : ByteArray, (⟨l.toArray⟩ : ByteArray) = S := ⟨_, rfl⟩
  rw [hS]
  rcases own_cases l S hS with ⟨h1, h2⟩ | ⟨h0, h1, h2⟩
  · rw [h2]
    have hq : ((S.size : Int) == 1) = false := beqF (by omega)
    clear hS h2
    go_enter Tryz.func106, Tryz.ntmps106
    go_wp2_with fail
    go_ret
    exact ⟨rfl, rfl⟩
  · have HR : Hid (isOwn l = decide ((S[0]'h0).toNat < 128)) := h2
    clear hS h2
    have hq : ((S.size : Int) == 1) = true := by simp [h1]
    go_enter Tryz.func106, Tryz.ntmps106
    go_wp2_with fail
    go_ret
    exact ⟨by rw [HR.out]; exact ret_b (decide_eq_decide.2 (by omega)), rfl⟩
theorem head_impl (list : Bool) (n : Nat) (w : World) (hn : n ≤ 65535) : Calls Tryz.prog 107 #[.bool list, .int .i64 n] w fun e w' => e = .returned (.string ⟨(headL list n).toArray⟩) ∧ Below w.heap.size w w' := by
  have h := implPutHead_any list n w
  have e : putHead list (n : Int) = headL list n := by unfold putHead; rw [if_pos (by omega)]; simp
  rwa [e] at h
theorem head_spec (list : Bool) (n : Nat) (w : World) (hn : n ≤ 65535) : Calls Tryz.prog 38 #[.bool list, .int .i64 n] w fun e w' => e = .returned (.string ⟨(headL list n).toArray⟩) ∧ Below w.heap.size w w' := l1Head_any list n w hn
theorem rlS_own {l : List UInt8} (h : isOwn l = true) : rlS l = l := by unfold rlS; rw [if_pos h]
theorem rlS_not {l : List UInt8} (h : isOwn l = false) : rlS l = headL false l.length ++ l := by unfold rlS; rw [if_neg (by rw [h]; decide)]
set_option maxRecDepth 100000 in
set_option maxHeartbeats 1000000 in
theorem rlString_impl (l : List UInt8) (w : World) (hl : l.length ≤ 60000) : Calls Tryz.prog 100 #[.string ⟨l.toArray⟩] w fun e w' => e = .returned (.string ⟨(rlS l).toArray⟩) ∧ Below w.heap.size w w' := by
  have HH : Hid (∀ w, Calls Tryz.prog 107 #[.bool false, .int .i64 l.length] w fun e w' => e = .returned (.string ⟨(headL false l.length).toArray⟩) ∧ Below w.heap.size w w') := fun w => head_impl false l.length w (by omega)
  have HO : Hid (∀ w, Calls Tryz.prog 106 #[.string ⟨l.toArray⟩] w fun e w' => e = .returned (.bool (isOwn l)) ∧ w' = w) := fun w => isOwnHead_any l w
  have HR : Hid ((⟨(headL false l.length).toArray⟩ : ByteArray) ++ ⟨l.toArray⟩ = ⟨(headL false l.length ++ l).toArray⟩) := cat_list _ _
  have hhs : ByteArray.size ⟨(headL false l.length).toArray⟩ ≤ 3 := by rw [ba_sz]; exact headL_len3 false (by omega)
  have hss : ByteArray.size ⟨l.toArray⟩ = l.length := ba_sz l
  obtain ⟨D, hD⟩ : ∃ D : ByteArray, (⟨(headL false l.length).toArray⟩ : ByteArray) = D := ⟨_, rfl⟩
  obtain ⟨S, hS⟩ : ∃ S : ByteArray, (⟨l.toArray⟩ : ByteArray) = S := ⟨_, rfl⟩
  rw [hD] at HH hhs
  rw [hS] at hss HO ⊢
  rw [hD, hS] at HR
  have HS : Hid ((⟨l.toArray⟩ : ByteArray) = S) := hS
  clear hD hS
  rw [← hss] at HH hl
  have hD2 : ¬ (9223372036854775807 < D.size + S.size) := by omega
  clear hss
  cases ho : isOwn l with
  | true =>
    rw [ho] at HO
    have HE : Hid (rlS l = l) := rlS_own ho
    clear ho
    go_enter Tryz.func100, Tryz.ntmps100
    go_wp2_with fail
    refine (HO.out _).mono ?_
    rintro e w1 ⟨rfl, rfl⟩
    go_wp2_with fail
    go_ret
    exact ⟨by rw [HE.out, HS.out]; rfl, Below.refl _ _⟩
  | false =>
    rw [ho] at HO
    have HE : Hid (rlS l = headL false l.length ++ l) := rlS_not ho
    clear ho
    go_enter Tryz.func100, Tryz.ntmps100
    go_wp2_with fail
    refine (HO.out _).mono ?_
    rintro e w1 ⟨rfl, rfl⟩
    go_wp2_with fail
    refine (HH.out _).mono ?_
    rintro e w2 ⟨rfl, hb2⟩
    go_wp2_with fail
    go_ret
    exact ⟨by rw [HE.out, ← HR.out]; try rfl, hb2⟩
set_option maxRecDepth 100000 in
set_option maxHeartbeats 1000000 in
theorem rlString_spec (l : List UInt8) (w : World) (hl : l.length ≤ 60000) : Calls Tryz.prog 36 #[.string ⟨l.toArray⟩] w fun e w' => e = .returned (.string ⟨(rlS l).toArray⟩) ∧ Below w.heap.size w w' := by
  have HH : Hid (∀ w, Calls Tryz.prog 38 #[.bool false, .int .i64 l.length] w fun e w' => e = .returned (.string ⟨(headL false l.length).toArray⟩) ∧ Below w.heap.size w w') := fun w => head_spec false l.length w (by omega)
  have HR : Hid ((⟨(headL false l.length).toArray⟩ : ByteArray) ++ ⟨l.toArray⟩ = ⟨(headL false l.length ++ l).toArray⟩) := cat_list _ _
  have hhs : ByteArray.size ⟨(headL false l.length).toArray⟩ ≤ 3 := by rw [ba_sz]; exact headL_len3 false (by omega)
  have hss : ByteArray.size ⟨l.toArray⟩ = l.length := ba_sz l
  obtain ⟨D, hD⟩ : ∃ D : ByteArray, (⟨(headL false l.length).toArray⟩ : ByteArray) = D := ⟨_, rfl⟩
  obtain ⟨S, hS⟩ : ∃ S : ByteArray, (⟨l.toArray⟩ : ByteArray) = S := ⟨_, rfl⟩
  rw [hD] at HH hhs
  rw [hS] at hss ⊢
  rw [hD, hS] at HR
  have HS : Hid ((⟨l.toArray⟩ : ByteArray) = S) := hS
  clear hD
  rw [← hss] at HH hl
  have hD2 : ¬ (9223372036854775807 < D.size + S.size) := by omega
  clear hss
  rcases own_cases l S hS with ⟨h1, h2⟩ | ⟨h0, h1, h2⟩
  · have hq : ((S.size : Int) == 1) = false := beqF (by omega)
    have HE : Hid (rlS l = headL false l.length ++ l) := rlS_not h2
    clear hS h2 h1
    go_enter Tryz.func36, Tryz.ntmps36
    go_wp2_with fail
    refine (HH.out _).mono ?_
    rintro e w2 ⟨rfl, hb2⟩
    go_wp2_with fail
    go_ret
    exact ⟨by rw [HE.out, ← HR.out]; try rfl, hb2⟩
  · have hq : ((S.size : Int) == 1) = true := by simp [h1]
    by_cases h128 : (S[0]'h0).toNat < 128
    · have HE : Hid (rlS l = l) := rlS_own (by rw [h2]; simpa using h128)
      have hq2 : decide (((S[0]'h0).toNat : Int) < 128) = true := by simp; omega
      clear hS h2
      go_enter Tryz.func36, Tryz.ntmps36
      go_wp2_with fail
      go_ret
      exact ⟨by rw [HE.out, HS.out]; rfl, Below.refl _ _⟩
    · have HE : Hid (rlS l = headL false l.length ++ l) := rlS_not (by rw [h2]; simpa using h128)
      have hq2 : decide (((S[0]'h0).toNat : Int) < 128) = false := by simp; omega
      have HH' : Hid (∀ w, Calls Tryz.prog 38 #[.bool false, .int .i64 1] w fun e w' => e = .returned (.string D) ∧ Below w.heap.size w w') := fun w => by have := HH.out w; rw [h1] at this; exact this
      clear hS h2 HH
      go_enter Tryz.func36, Tryz.ntmps36
      go_wp2_with fail
      refine (HH'.out _).mono ?_
      rintro e w2 ⟨rfl, hb2⟩
      go_wp2_with fail
      go_ret
      exact ⟨by rw [HE.out, ← HR.out]; try rfl, hb2⟩
set_option maxRecDepth 100000 in
set_option maxHeartbeats 1000000 in
theorem rlNumber_impl (m : Nat) (w : World) (hm : m < 18446744073709551616) : Calls Tryz.prog 99 #[.int .u64 m] w fun e w' => e = .returned (.string ⟨(rlNum m).toArray⟩) ∧ Below w.heap.size w w' := by
  have h8 := by8_8 m hm
  have HA : Hid (∀ w, Calls Tryz.prog 105 #[.int .u64 m] w fun e w' => e = .returned (.int .i64 (by8 m)) ∧ w' = w) := fun w => bytesOf_u64_any m w hm
  have HB : Hid (∀ w, Calls Tryz.prog 104 #[.int .u64 m, .int .i64 (by8 m)] w fun e w' => e = .returned (.string ⟨(leL m (by8 m)).reverse.toArray⟩) ∧ Below w.heap.size w w') := fun w => highFirst_u64_any m (by8 m) w hm h8
  have HC : Hid (∀ w, Calls Tryz.prog 100 #[.string ⟨(leL m (by8 m)).reverse.toArray⟩] w fun e w' => e = .returned (.string ⟨(rlNum m).toArray⟩) ∧ Below w.heap.size w w') := fun w => rlString_impl _ w (by simp [leL_len]; omega)
  generalize (⟨(leL m (by8 m)).reverse.toArray⟩ : ByteArray) = S at HB HC
  clear h8
  go_enter Tryz.func99, Tryz.ntmps99
  go_wp2_with fail
  refine (HA.out _).mono ?_
  rintro e w1 ⟨rfl, rfl⟩
  go_wp2_with fail
  refine (HB.out _).mono ?_
  rintro e w2 ⟨rfl, hb2⟩
  go_wp2_with fail
  refine (HC.out _).mono ?_
  rintro e w3 ⟨rfl, hb3⟩
  have HB3 : Hid (Below w1.heap.size w1 w3) := hb2.trans (hb3.mono hb2.size)
  clear hb2 hb3
  go_wp2_with fail
  go_ret
  exact ⟨rfl, HB3.out⟩
set_option maxRecDepth 100000 in
set_option maxHeartbeats 1000000 in
theorem rlNumber_spec (m : Nat) (w : World) (hm : m < 18446744073709551616) : Calls Tryz.prog 35 #[.int .u64 m] w fun e w' => e = .returned (.string ⟨(rlNum m).toArray⟩) ∧ Below w.heap.size w w' := by
  have h8 := by8_8 m hm
  have HA : Hid (∀ w, Calls Tryz.prog 56 #[.int .u64 m] w fun e w' => e = .returned (.int .i64 (by8 m)) ∧ w' = w) := fun w => l1Need_any m w hm
  have HB : Hid (∀ w, Calls Tryz.prog 55 #[.int .u64 m, .int .i64 (by8 m)] w fun e w' => e = .returned (.string ⟨(leL m (by8 m)).toArray⟩) ∧ Below w.heap.size w w') := fun w => l1Le_any m (by8 m) w hm h8
  have HK : Hid (∀ w, Calls Tryz.prog 54 #[.string ⟨(leL m (by8 m)).toArray⟩] w fun e w' => e = .returned (.string ⟨(leL m (by8 m)).reverse.toArray⟩) ∧ Below w.heap.size w w') := fun w => by
    have := l1Back_any ⟨(leL m (by8 m)).toArray⟩ w (by rw [ba_sz, leL_len]; omega)
    simpa using this
  have HC : Hid (∀ w, Calls Tryz.prog 36 #[.string ⟨(leL m (by8 m)).reverse.toArray⟩] w fun e w' => e = .returned (.string ⟨(rlNum m).toArray⟩) ∧ Below w.heap.size w w') := fun w => rlString_spec _ w (by simp [leL_len]; omega)
  generalize (⟨(leL m (by8 m)).reverse.toArray⟩ : ByteArray) = S at HK HC
  generalize (⟨(leL m (by8 m)).toArray⟩ : ByteArray) = R at HB HK
  clear h8
  go_enter Tryz.func35, Tryz.ntmps35
  go_wp2_with fail
  refine (HA.out _).mono ?_
  rintro e w1 ⟨rfl, rfl⟩
  go_wp2_with fail
  refine (HB.out _).mono ?_
  rintro e w2 ⟨rfl, hb2⟩
  go_wp2_with fail
  refine (HK.out _).mono ?_
  rintro e w3 ⟨rfl, hb3⟩
  go_wp2_with fail
  refine (HC.out _).mono ?_
  rintro e w4 ⟨rfl, hb4⟩
  have HB3 : Hid (Below w1.heap.size w1 w3) := hb2.trans (hb3.mono hb2.size)
  have HB4 : Hid (Below w1.heap.size w1 w4) := HB3.out.trans (hb4.mono HB3.out.size)
  clear hb2 hb3 hb4
  go_wp2_with fail
  go_ret
  exact ⟨rfl, HB4.out⟩
set_option maxRecDepth 100000 in
set_option maxHeartbeats 1000000 in
theorem rlList_impl (l : List UInt8) (w : World) (hl : l.length ≤ 65535) : Calls Tryz.prog 101 #[.string ⟨l.toArray⟩] w fun e w' => e = .returned (.string ⟨(rlL l).toArray⟩) ∧ Below w.heap.size w w' := by
  have HH : Hid (∀ w, Calls Tryz.prog 107 #[.bool true, .int .i64 l.length] w fun e w' => e = .returned (.string ⟨(headL true l.length).toArray⟩) ∧ Below w.heap.size w w') := fun w => head_impl true l.length w (by omega)
  have HR : Hid ((⟨(headL true l.length).toArray⟩ : ByteArray) ++ ⟨l.toArray⟩ = ⟨(rlL l).toArray⟩) := cat_list _ _
  have hhs : ByteArray.size ⟨(headL true l.length).toArray⟩ ≤ 3 := by rw [ba_sz]; exact headL_len3 true (by omega)
  have hss : ByteArray.size ⟨l.toArray⟩ = l.length := ba_sz l
  obtain ⟨D, hD⟩ : ∃ D : ByteArray, (⟨(headL true l.length).toArray⟩ : ByteArray) = D := ⟨_, rfl⟩
  obtain ⟨S, hS⟩ : ∃ S : ByteArray, (⟨l.toArray⟩ : ByteArray) = S := ⟨_, rfl⟩
  rw [hD] at HH hhs
  rw [hS] at hss ⊢
  rw [hD, hS] at HR
  clear hD hS
  rw [← hss] at HH hl
  have hD2 : ¬ (9223372036854775807 < D.size + S.size) := by omega
  clear hss
  go_enter Tryz.func101, Tryz.ntmps101
  go_wp2_with fail
  refine (HH.out _).mono ?_
  rintro e w2 ⟨rfl, hb2⟩
  go_wp2_with fail
  go_ret
  exact ⟨by rw [← HR.out]; try rfl, hb2⟩
end Go.Proofs.YtdncnjmlicdamaaGreatDoor
namespace Go.Proofs.YtdncnjmlicdamaaGreatDoor
open Go.RowKit Go.Sort
set_option linter.unusedVariables false
theorem isOwn_at (b : ByteArray) (h : 0 < b.size) : isOwn (b.extract 0 1).data.toList = decide ((b[0]'h).toNat < 128) := by
  rw [ex_pre, data_cons b h]; rfl
theorem tk_own {st : Bool} (b : ByteArray) (h : 0 < b.size) (h1 : (b[0]'h).toNat < 128) : tk st b.data.toList = some (false, (b.extract 0 1).data.toList, (b.extract 1 b.size).data.toList) := by
  rw [ex_pre, ex_list, data_cons b h]
  simp [tk, h1]
theorem tk_big {st : Bool} (b : ByteArray) (h : 0 < b.size) (h1 : ¬ (b[0]'h).toNat < 128) : tk st b.data.toList = if (getHead b.data.toList).2.2.2 = true ∧ (getHead b.data.toList).2.2.1 + (getHead b.data.toList).2.1 ≤ b.size ∧ ¬ (st = true ∧ (getHead b.data.toList).1 = false ∧ isOwn ((b.data.toList.drop (getHead b.data.toList).2.2.1).take (getHead b.data.toList).2.1) = true) then
    some ((getHead b.data.toList).1, (b.data.toList.drop (getHead b.data.toList).2.2.1).take (getHead b.data.toList).2.1, b.data.toList.drop ((getHead b.data.toList).2.2.1 + (getHead b.data.toList).2.1)) else none := by
  rw [← lst_len b]
  rw [data_cons b h]
  simp only [tk]
  rw [if_neg h1]
theorem ex_cut (s : ByteArray) (k n : Nat) : (s.extract k (k + n)).data.toList = (s.data.toList.drop k).take n := by
  rw [ByteArray.data_extract, Array.toList_extract, List.extract_eq_take_drop]
  simp
theorem ba_data (S : ByteArray) : (⟨S.data.toList.toArray⟩ : ByteArray) = S := ba_ext rfl
theorem getHead_zero {l : List UInt8} {x : Bool} {m k : Nat} (h : getHead l = (x, m, k, false)) : m = 0 ∧ k = 0 := by
  cases l with
  | nil => simp [getHead] at h; omega
  | cons b r =>
    simp only [getHead] at h
    split at h
    · simp at h; omega
    · split at h
      · simp at h
      · unfold hl at h
        split at h
        · simp at h
        · simp at h; omega
theorem isOwnHead_ba (S : ByteArray) (w : World) : Calls Tryz.prog 106 #[.string S] w fun e w' => e = .returned (.bool (isOwn S.data.toList)) ∧ w' = w := by
  have h := isOwnHead_any S.data.toList w
  rwa [ba_data] at h
set_option maxRecDepth 100000 in
set_option maxHeartbeats 2000000 in
theorem split_own (b : ByteArray) (w : World) (hs : b.size ≤ 1048576) (h0 : 0 < b.size) (h1 : (b[0]'h0).toNat < 128) : Calls Tryz.prog 129 #[.string b] w fun e w' => e = .returned (.tuple #[.bool false, .string (b.extract 0 1), .string (b.extract 1 b.size), .nilIface]) ∧ Below w.heap.size w w' := by
  have hne := isEmpty_no b h0
  have HO : Hid (∀ w, Calls Tryz.prog 106 #[.string (b.extract 0 1)] w fun e w' => e = .returned (.bool true) ∧ w' = w) := fun w => by have h := isOwnHead_ba (b.extract 0 1) w; rw [isOwn_at b h0, decide_eq_true h1] at h; exact h
  have hi1 : (1 : Int) ≤ (b.size : Int) := by omega
  clear h1
  go_enter Tryz.func129, Tryz.ntmps129
  go_wp2_with (go_at_call 106; refine (HO.out _).mono ?_; rintro e w' ⟨rfl, rfl⟩)
  go_region
  all_goals
    go_wp2_with fail
    refine quad_ret rfl rfl ⟨rfl, by first | exact Below.refl _ _ | exact (Below.refl _ _).drew | go_grown⟩
set_option maxRecDepth 100000 in
set_option maxHeartbeats 2000000 in
theorem split_empty (b : ByteArray) (w : World) (h0 : ¬ 0 < b.size) (T : TypeId) (z : Value) (he : EFv T z w) : Calls Tryz.prog 129 #[.string b] w fun e w' => e = .returned (.tuple #[.bool false, .string ⟨#[]⟩, .string ⟨#[]⟩, .iface T z]) ∧ Below w.heap.size w w' := by
  have hne := isEmpty_yes b h0
  have HG : Hid (∀ w, Calls Tryz.prog 131 #[.string b] w fun e w' => e = .returned (.tuple #[.bool false, .int .i64 0, .int .i64 0, .bool false]) ∧ Below w.heap.size w w') := fun w => by have h := implGetHead_any b w (by omega); rw [data_nil b h0] at h; exact h
  have HE : Hid (EFv T z w) := he
  clear h0 he
  go_enter Tryz.func129, Tryz.ntmps129
  go_wp2_with fail
  refine (HG.out _).mono ?_
  rintro e w1 ⟨rfl, hb1⟩
  have HB1 : Hid (Below _ _ w1) := hb1
  obtain ⟨e1, e2⟩ := EFv.below HE.out hb1
  clear hb1
  go_wp2_with fail
  go_region
  all_goals
    go_wp2_with fail
    refine quad_ret rfl rfl ⟨rfl, by first | exact HB1.out | exact HB1.out.drew⟩
set_option maxRecDepth 100000 in
set_option maxHeartbeats 2000000 in
theorem split_bad (b : ByteArray) (w : World) (hs : b.size ≤ 1048576) (h0 : 0 < b.size) (h1 : ¬ (b[0]'h0).toNat < 128) (x : Bool) (m k : Nat) (ok : Bool) (hg : getHead b.data.toList = (x, m, k, ok)) (hbad : ok = false ∨ b.size < k + m) (hkk : k ≤ 1048576 ∧ m ≤ 65535) (T : TypeId) (z : Value) (he : EFv T z w) : Calls Tryz.prog 129 #[.string b] w fun e w' => e = .returned (.tuple #[.bool false, .string ⟨#[]⟩, .string ⟨#[]⟩, .iface T z]) ∧ Below w.heap.size w w' := by
  have hne := isEmpty_no b h0
  have HO : Hid (∀ w, Calls Tryz.prog 106 #[.string (b.extract 0 1)] w fun e w' => e = .returned (.bool false) ∧ w' = w) := fun w => by have h := isOwnHead_ba (b.extract 0 1) w; rw [isOwn_at b h0, decide_eq_false h1] at h; exact h
  have hi1 : (1 : Int) ≤ (b.size : Int) := by omega
  have HG : Hid (∀ w, Calls Tryz.prog 131 #[.string b] w fun e w' => e = .returned (.tuple #[.bool x, .int .i64 m, .int .i64 k, .bool ok]) ∧ Below w.heap.size w w') := fun w => by have h := implGetHead_any b w hs; rw [hg] at h; exact h
  have HE : Hid (EFv T z w) := he
  clear h1 he hg
  obtain ⟨hk1, hk2⟩ := hkk
  have fin : ∀ e1 : w.heap.size = w.heap.size, True := fun _ => trivial
  clear fin
  cases ok with
  | false =>
    clear hbad
    go_enter Tryz.func129, Tryz.ntmps129
    go_wp2_with (go_at_call 106; refine (HO.out _).mono ?_; rintro e w' ⟨rfl, rfl⟩)
    refine (HG.out _).mono ?_
    rintro e w1 ⟨rfl, hb1⟩
    have HB1 : Hid (Below _ _ w1) := hb1
    obtain ⟨e1, e2⟩ := EFv.below HE.out hb1
    clear hb1
    go_wp2_with fail
    go_region
    all_goals
      go_wp2_with fail
      refine quad_ret rfl rfl ⟨rfl, by first | exact HB1.out | exact HB1.out.drew | exact HB1.out.drew.drew⟩
  | true =>
    have hlt : (b.size : Int) - (k : Int) < (m : Int) := by have := hbad.resolve_left (by decide); omega
    clear hbad
    go_enter Tryz.func129, Tryz.ntmps129
    go_wp2_with (go_at_call 106; refine (HO.out _).mono ?_; rintro e w' ⟨rfl, rfl⟩)
    refine (HG.out _).mono ?_
    rintro e w1 ⟨rfl, hb1⟩
    have HB1 : Hid (Below _ _ w1) := hb1
    obtain ⟨e1, e2⟩ := EFv.below HE.out hb1
    clear hb1
    go_wp2_with fail
    go_region
    all_goals
      go_wp2_with fail
      refine quad_ret rfl rfl ⟨rfl, by first | exact HB1.out | exact HB1.out.drew | exact HB1.out.drew.drew⟩
set_option maxRecDepth 100000 in
set_option maxHeartbeats 2000000 in
theorem split_strict (b : ByteArray) (w : World) (hs : b.size ≤ 1048576) (h0 : 0 < b.size) (h1 : ¬ (b[0]'h0).toNat < 128) (m k : Nat) (hg : getHead b.data.toList = (false, m, k, true)) (hle : k + m ≤ b.size) (ho : isOwn ((b.data.toList.drop k).take m) = true) (T : TypeId) (z : Value) (he : EFv T z w) : Calls Tryz.prog 129 #[.string b] w fun e w' => e = .returned (.tuple #[.bool false, .string ⟨#[]⟩, .string ⟨#[]⟩, .iface T z]) ∧ Below w.heap.size w w' := by
  have hne := isEmpty_no b h0
  have HO : Hid (∀ w, Calls Tryz.prog 106 #[.string (b.extract 0 1)] w fun e w' => e = .returned (.bool false) ∧ w' = w) := fun w => by have h := isOwnHead_ba (b.extract 0 1) w; rw [isOwn_at b h0, decide_eq_false h1] at h; exact h
  have HO2 : Hid (∀ w, Calls Tryz.prog 106 #[.string (b.extract k (k + m))] w fun e w' => e = .returned (.bool true) ∧ w' = w) := fun w => by have h := isOwnHead_ba (b.extract k (k + m)) w; rw [ex_cut, ho] at h; exact h
  have hi1 : (1 : Int) ≤ (b.size : Int) := by omega
  have HG : Hid (∀ w, Calls Tryz.prog 131 #[.string b] w fun e w' => e = .returned (.tuple #[.bool false, .int .i64 m, .int .i64 k, .bool true]) ∧ Below w.heap.size w w') := fun w => by have h := implGetHead_any b w hs; rw [hg] at h; exact h
  have HE : Hid (EFv T z w) := he
  clear h1 he hg ho
  go_enter Tryz.func129, Tryz.ntmps129
  go_wp2_with (go_at_call 106; refine (HO.out _).mono ?_; rintro e w' ⟨rfl, rfl⟩)
  refine (HG.out _).mono ?_
  rintro e w1 ⟨rfl, hb1⟩
  have HB1 : Hid (Below _ _ w1) := hb1
  obtain ⟨e1, e2⟩ := EFv.below HE.out hb1
  clear hb1
  go_wp2_with fail
  go_region
  all_goals
    go_wp2_with fail
    refine (HO2.out _).mono ?_
    rintro e w2 ⟨rfl, rfl⟩
    go_wp2_with fail
    go_region
    all_goals
      go_wp2_with fail
      refine quad_ret rfl rfl ⟨rfl, by first | exact HB1.out | exact HB1.out.drew | exact HB1.out.drew.drew⟩
set_option maxRecDepth 100000 in
set_option maxHeartbeats 2000000 in
theorem split_yes (b : ByteArray) (w : World) (hs : b.size ≤ 1048576) (h0 : 0 < b.size) (h1 : ¬ (b[0]'h0).toNat < 128) (x : Bool) (m k : Nat) (hg : getHead b.data.toList = (x, m, k, true)) (hle : k + m ≤ b.size) (ho : x = false → isOwn ((b.data.toList.drop k).take m) = false) : Calls Tryz.prog 129 #[.string b] w fun e w' => e = .returned (.tuple #[.bool x, .string (b.extract k (k + m)), .string (b.extract (k + m) b.size), .nilIface]) ∧ Below w.heap.size w w' := by
  have hne := isEmpty_no b h0
  have HO : Hid (∀ w, Calls Tryz.prog 106 #[.string (b.extract 0 1)] w fun e w' => e = .returned (.bool false) ∧ w' = w) := fun w => by have h := isOwnHead_ba (b.extract 0 1) w; rw [isOwn_at b h0, decide_eq_false h1] at h; exact h
  have hi1 : (1 : Int) ≤ (b.size : Int) := by omega
  have HG : Hid (∀ w, Calls Tryz.prog 131 #[.string b] w fun e w' => e = .returned (.tuple #[.bool x, .int .i64 m, .int .i64 k, .bool true]) ∧ Below w.heap.size w w') := fun w => by have h := implGetHead_any b w hs; rw [hg] at h; exact h
  clear h1 hg
  cases x with
  | false =>
    have HO2 : Hid (∀ w, Calls Tryz.prog 106 #[.string (b.extract k (k + m))] w fun e w' => e = .returned (.bool false) ∧ w' = w) := fun w => by have h := isOwnHead_ba (b.extract k (k + m)) w; rw [ex_cut, ho rfl] at h; exact h
    clear ho
    go_enter Tryz.func129, Tryz.ntmps129
    go_wp2_with (go_at_call 106; refine (HO.out _).mono ?_; rintro e w' ⟨rfl, rfl⟩)
    refine (HG.out _).mono ?_
    rintro e w1 ⟨rfl, hb1⟩
    have HB1 : Hid (Below _ _ w1) := hb1
    clear hb1
    go_wp2_with fail
    go_region
    all_goals
      go_wp2_with fail
      refine (HO2.out _).mono ?_
      rintro e w2 ⟨rfl, rfl⟩
      go_wp2_with fail
      refine quad_ret rfl rfl ⟨rfl, by first | exact HB1.out | exact HB1.out.drew | exact HB1.out.drew.drew⟩
  | true =>
    clear ho
    go_enter Tryz.func129, Tryz.ntmps129
    go_wp2_with (go_at_call 106; refine (HO.out _).mono ?_; rintro e w' ⟨rfl, rfl⟩)
    refine (HG.out _).mono ?_
    rintro e w1 ⟨rfl, hb1⟩
    have HB1 : Hid (Below _ _ w1) := hb1
    clear hb1
    go_wp2_with fail
    go_region
    all_goals
      go_wp2_with fail
      refine quad_ret rfl rfl ⟨rfl, by first | exact HB1.out | exact HB1.out.drew | exact HB1.out.drew.drew⟩
theorem rlpSplit_no (b : ByteArray) (w : World) (hs : b.size ≤ 1048576) (h : tk true b.data.toList = none) (T : TypeId) (z : Value) (he : EFv T z w) : Calls Tryz.prog 129 #[.string b] w fun e w' => e = .returned (.tuple #[.bool false, .string ⟨#[]⟩, .string ⟨#[]⟩, .iface T z]) ∧ Below w.heap.size w w' := by
  by_cases h0 : 0 < b.size
  · by_cases h1 : (b[0]'h0).toNat < 128
    · rw [tk_own b h0 h1] at h; cases h
    · rw [tk_big b h0 h1] at h
      obtain ⟨x, m, k, ok, hg⟩ : ∃ x m k ok, getHead b.data.toList = (x, m, k, ok) := ⟨_, _, _, _, rfl⟩
      rw [hg] at h
      simp only [] at h
      cases ok with
      | false =>
        have hz := getHead_zero hg
        exact split_bad b w hs h0 h1 x m k false hg (.inl rfl) (by omega) T z he
      | true =>
        obtain ⟨_, p2, p3⟩ := getHead_back _ _ _ _ hg
        rw [lst_len] at p2
        by_cases hle : k + m ≤ b.size
        · split at h
          · cases h
          · rename_i hc
            have hx : x = false ∧ isOwn ((b.data.toList.drop k).take m) = true := by
              by_cases hxx : x = false ∧ isOwn ((b.data.toList.drop k).take m) = true
              · exact hxx
              · exact absurd ⟨by first | rfl | trivial, hle, fun h => hxx h.2⟩ hc
            obtain ⟨rfl, ho⟩ := hx
            exact split_strict b w hs h0 h1 m k hg hle ho T z he
        · exact split_bad b w hs h0 h1 x m k true hg (.inr (by omega)) (by omega) T z he
  · exact split_empty b w h0 T z he
theorem rlpSplit_yes (b B R : ByteArray) (list : Bool) (w : World) (hs : b.size ≤ 1048576) (h : tk true b.data.toList = some (list, B.data.toList, R.data.toList)) : Calls Tryz.prog 129 #[.string b] w fun e w' => e = .returned (.tuple #[.bool list, .string B, .string R, .nilIface]) ∧ Below w.heap.size w w' := by
  by_cases h0 : 0 < b.size
  · by_cases h1 : (b[0]'h0).toNat < 128
    · rw [tk_own b h0 h1] at h
      simp only [Option.some.injEq, Prod.mk.injEq] at h
      obtain ⟨rfl, h2, h3⟩ := h
      rw [← ba_ext h2, ← ba_ext h3]
      exact split_own b w hs h0 h1
    · rw [tk_big b h0 h1] at h
      obtain ⟨x, m, k, ok, hg⟩ : ∃ x m k ok, getHead b.data.toList = (x, m, k, ok) := ⟨_, _, _, _, rfl⟩
      rw [hg] at h
      simp only [] at h
      split at h
      · rename_i hc
        obtain ⟨rfl, hle, ho⟩ := hc
        simp only [Option.some.injEq, Prod.mk.injEq] at h
        obtain ⟨rfl, h2, h3⟩ := h
        have e2 : b.extract k (k + m) = B := ba_ext (by rw [ex_cut]; exact h2)
        have e3 : b.extract (k + m) b.size = R := ba_ext (by rw [ex_list]; exact h3)
        rw [← e2, ← e3]
        exact split_yes b w hs h0 h1 x m k hg hle (fun hx => by
          cases ho2 : isOwn ((b.data.toList.drop k).take m) with
          | false => rfl
          | true => exact absurd ⟨by first | rfl | trivial, hx, ho2⟩ ho)
      · cases h
  · rw [data_nil b h0] at h; cases h
end Go.Proofs.YtdncnjmlicdamaaGreatDoor
namespace Go.Proofs.YtdncnjmlicdamaaGreatDoor
open Go.RowKit Go.Sort
set_option linter.unusedVariables false
set_option maxRecDepth 100000 in
set_option maxHeartbeats 2000000 in
theorem l4Take_empty (b : ByteArray) (w : World) (h0 : ¬ 0 < b.size) : Calls Tryz.prog 47 #[.string b] w fun e w' => e = .returned (.tuple #[.bool false, .string ⟨#[]⟩, .string ⟨#[]⟩, .bool false]) ∧ Below w.heap.size w w' := by
  have hne := isEmpty_yes b h0
  clear h0
  go_enter Tryz.func47, Tryz.ntmps47
  go_wp2_with fail
  refine quad_ret rfl rfl ⟨rfl, Below.refl _ _⟩
set_option maxRecDepth 100000 in
set_option maxHeartbeats 2000000 in
theorem l4Take_own (b : ByteArray) (w : World) (h0 : 0 < b.size) (h1 : (b[0]'h0).toNat < 128) : Calls Tryz.prog 47 #[.string b] w fun e w' => e = .returned (.tuple #[.bool false, .string (b.extract 0 1), .string (b.extract 1 b.size), .bool true]) ∧ Below w.heap.size w w' := by
  have hne := isEmpty_no b h0
  have hi1 : (1 : Int) ≤ (b.size : Int) := by omega
  have h128 : decide (((b[0]'h0).toNat : Int) < 128) = true := decide_eq_true (by omega)
  go_enter Tryz.func47, Tryz.ntmps47
  go_wp2_with fail
  go_region
  all_goals
    go_wp2_with fail
    refine quad_ret rfl rfl ⟨rfl, by first | exact Below.refl _ _ | exact (Below.refl _ _).drew⟩
set_option maxRecDepth 100000 in
set_option maxHeartbeats 2000000 in
theorem l4Take_bad (b : ByteArray) (w : World) (hs : b.size ≤ 1048576) (h0 : 0 < b.size) (h1 : ¬ (b[0]'h0).toNat < 128) (x : Bool) (m k : Nat) (ok : Bool) (hg : getHead b.data.toList = (x, m, k, ok)) (hbad : ok = false ∨ b.size < k + m) (hkk : k ≤ 1048576 ∧ m ≤ 65535) : Calls Tryz.prog 47 #[.string b] w fun e w' => e = .returned (.tuple #[.bool false, .string ⟨#[]⟩, .string ⟨#[]⟩, .bool false]) ∧ Below w.heap.size w w' := by
  have hne := isEmpty_no b h0
  have hi1 : (1 : Int) ≤ (b.size : Int) := by omega
  have h128 : decide (((b[0]'h0).toNat : Int) < 128) = false := decide_eq_false (by omega)
  have HG : Hid (∀ w, Calls Tryz.prog 64 #[.string b] w fun e w' => e = .returned (.tuple #[.bool x, .int .i64 m, .int .i64 k, .bool ok]) ∧ Below w.heap.size w w') := fun w => by have h := specGetHead_any b w hs; rw [hg] at h; exact h
  obtain ⟨hk1, hk2⟩ := hkk
  clear hg
  cases ok with
  | false =>
    clear hbad
    go_enter Tryz.func47, Tryz.ntmps47
    go_wp2_with fail
    refine (HG.out _).mono ?_
    rintro e w1 ⟨rfl, hb1⟩
    go_wp2_with fail
    refine quad_ret rfl rfl ⟨rfl, hb1⟩
  | true =>
    have hlt : (b.size : Int) < (k : Int) + (m : Int) := by have := hbad.resolve_left (by decide); omega
    clear hbad
    go_enter Tryz.func47, Tryz.ntmps47
    go_wp2_with fail
    refine (HG.out _).mono ?_
    rintro e w1 ⟨rfl, hb1⟩
    go_wp2_with fail
    refine quad_ret rfl rfl ⟨rfl, hb1⟩
set_option maxRecDepth 100000 in
set_option maxHeartbeats 2000000 in
theorem l4Take_ok (b : ByteArray) (w : World) (hs : b.size ≤ 1048576) (h0 : 0 < b.size) (h1 : ¬ (b[0]'h0).toNat < 128) (x : Bool) (m k : Nat) (hg : getHead b.data.toList = (x, m, k, true)) (hle : k + m ≤ b.size) : Calls Tryz.prog 47 #[.string b] w fun e w' => e = .returned (.tuple #[.bool x, .string (b.extract k (k + m)), .string (b.extract (k + m) b.size), .bool true]) ∧ Below w.heap.size w w' := by
  have hne := isEmpty_no b h0
  have hi1 : (1 : Int) ≤ (b.size : Int) := by omega
  have h128 : decide (((b[0]'h0).toNat : Int) < 128) = false := decide_eq_false (by omega)
  have HG : Hid (∀ w, Calls Tryz.prog 64 #[.string b] w fun e w' => e = .returned (.tuple #[.bool x, .int .i64 m, .int .i64 k, .bool true]) ∧ Below w.heap.size w w') := fun w => by have h := specGetHead_any b w hs; rw [hg] at h; exact h
  clear hg
  go_enter Tryz.func47, Tryz.ntmps47
  go_wp2_with fail
  refine (HG.out _).mono ?_
  rintro e w1 ⟨rfl, hb1⟩
  have HB1 : Hid (Below w.heap.size w w1) := hb1
  clear hb1
  go_wp2_with fail
  go_region
  all_goals
    go_wp2_with fail
    refine quad_ret rfl rfl ⟨rfl, by first | exact HB1.out | exact HB1.out.drew⟩
theorem l4Take_no (b : ByteArray) (w : World) (hs : b.size ≤ 1048576) (h : tk false b.data.toList = none) : Calls Tryz.prog 47 #[.string b] w fun e w' => e = .returned (.tuple #[.bool false, .string ⟨#[]⟩, .string ⟨#[]⟩, .bool false]) ∧ Below w.heap.size w w' := by
  by_cases h0 : 0 < b.size
  · by_cases h1 : (b[0]'h0).toNat < 128
    · rw [tk_own b h0 h1] at h; cases h
    · rw [tk_big b h0 h1] at h
      obtain ⟨x, m, k, ok, hg⟩ : ∃ x m k ok, getHead b.data.toList = (x, m, k, ok) := ⟨_, _, _, _, rfl⟩
      rw [hg] at h
      cases ok with
      | false =>
        have hz := getHead_zero hg
        exact l4Take_bad b w hs h0 h1 x m k false hg (.inl rfl) (by omega)
      | true =>
        obtain ⟨_, p2, p3⟩ := getHead_back _ _ _ _ hg
        rw [lst_len] at p2
        by_cases hle : k + m ≤ b.size
        · rw [if_pos ⟨rfl, hle, fun h => by cases h.1⟩] at h
          cases h
        · exact l4Take_bad b w hs h0 h1 x m k true hg (.inr (by omega)) (by omega)
  · exact l4Take_empty b w h0
theorem l4Take_yes (b B R : ByteArray) (list : Bool) (w : World) (hs : b.size ≤ 1048576) (h : tk false b.data.toList = some (list, B.data.toList, R.data.toList)) : Calls Tryz.prog 47 #[.string b] w fun e w' => e = .returned (.tuple #[.bool list, .string B, .string R, .bool true]) ∧ Below w.heap.size w w' := by
  by_cases h0 : 0 < b.size
  · by_cases h1 : (b[0]'h0).toNat < 128
    · rw [tk_own b h0 h1] at h
      simp only [Option.some.injEq, Prod.mk.injEq] at h
      obtain ⟨rfl, h2, h3⟩ := h
      rw [← ba_ext h2, ← ba_ext h3]
      exact l4Take_own b w h0 h1
    · rw [tk_big b h0 h1] at h
      obtain ⟨x, m, k, ok, hg⟩ : ∃ x m k ok, getHead b.data.toList = (x, m, k, ok) := ⟨_, _, _, _, rfl⟩
      rw [hg] at h
      split at h
      · rename_i hc
        obtain ⟨hok, hle, ho⟩ := hc
        have hok' : ok = true := hok
        subst hok'
        simp only [Option.some.injEq, Prod.mk.injEq] at h
        obtain ⟨rfl, h2, h3⟩ := h
        have e2 : b.extract k (k + m) = B := ba_ext (by rw [ex_cut]; exact h2)
        have e3 : b.extract (k + m) b.size = R := ba_ext (by rw [ex_list]; exact h3)
        rw [← e2, ← e3]
        exact l4Take_ok b w hs h0 h1 x m k hg hle
      · cases h
  · rw [data_nil b h0] at h; cases h
end Go.Proofs.YtdncnjmlicdamaaGreatDoor
namespace Go.Proofs.YtdncnjmlicdamaaGreatDoor
open Go.RowKit Go.Sort
set_option linter.unusedVariables false
set_option maxRecDepth 100000 in
set_option maxHeartbeats 2000000 in
theorem numberOf_long (k n : Int) (b : ByteArray) (w : World) (hs : b.size ≤ 1048576) (h : 8 < b.size) (T : TypeId) (z : Value) (he : EFv T z w) : Calls Tryz.prog 132 #[.agg #[.int .i64 k, .int .i64 n], .string b] w fun e w' => e = .returned (.tuple #[.int .u64 0, .iface T z]) ∧ Below w.heap.size w w' := by
  have HE : Hid (EFv T z w) := he
  obtain ⟨e1, e2⟩ := EFv.below he (Below.refl _ _)
  clear he
  go_enter Tryz.func132, Tryz.ntmps132
  go_wp2_with (go_at_call 139; refine (widthOf_u64_any _).mono ?_; rintro e w' ⟨rfl, rfl⟩)
  go_region
  all_goals
    go_wp2_with fail
    go_ret2
    exact ⟨rfl, by first | exact bel1 _ _ | exact (bel1 _ _).drew⟩
theorem rev_take (b : ByteArray) : (b.data.toList.take b.size).reverse = b.data.toList.reverse := by rw [List.take_of_length_le (by rw [lst_len]; exact Nat.le_refl _)]
theorem lev_8 (b : ByteArray) (h : b.size ≤ 8) : leV b.data.toList.reverse < 18446744073709551616 := by
  have h4 := leV_lt b.data.toList.reverse
  rw [List.length_reverse, lst_len] at h4
  exact Nat.lt_of_lt_of_le h4 (Nat.le_trans (Nat.pow_le_pow_right (by decide) (show 8 * b.size ≤ 64 by omega)) (by decide))
set_option maxRecDepth 100000 in
set_option maxHeartbeats 2000000 in
theorem numberOf_wide (k n : Int) (b : ByteArray) (w : World) (h : b.size ≤ 8) (hb8 : by8 (leV b.data.toList.reverse) ≠ b.size) (T : TypeId) (z : Value) (he : EFv T z w) : Calls Tryz.prog 132 #[.agg #[.int .i64 k, .int .i64 n], .string b] w fun e w' => e = .returned (.tuple #[.int .u64 0, .iface T z]) ∧ Below w.heap.size w w' := by
  have hlt := lev_8 b h
  have HR : Hid (∀ w, Calls Tryz.prog 140 #[.string b, .int .i64 b.size] w fun e w' => e = .returned (.tuple #[.int .u64 (leV b.data.toList.reverse : Nat), .bool true]) ∧ w' = w) := fun w => by
    have h := readHigh_u64_any b b.size w h (by unfold maxLen; omega)
    rw [if_neg (by omega), rev_take, decide_eq_true (Nat.le_refl _)] at h
    exact h
  have HB : Hid (∀ w, Calls Tryz.prog 105 #[.int .u64 (leV b.data.toList.reverse : Nat)] w fun e w' => e = .returned (.int .i64 (by8 (leV b.data.toList.reverse))) ∧ w' = w) := fun w => bytesOf_u64_any _ w hlt
  obtain ⟨e1, e2⟩ := EFv.below he (Below.refl _ _)
  have HE : Hid (EFv T z w) := he
  have hne : (((by8 (leV b.data.toList.reverse) : Nat) : Int) != (b.size : Int)) = true := by rw [bne_iff_ne]; omega
  clear he hb8
  generalize by8 (leV b.data.toList.reverse) = n8 at *
  generalize leV b.data.toList.reverse = m at *
  go_enter Tryz.func132, Tryz.ntmps132
  go_wp2_with (first | (go_at_call 139; refine (widthOf_u64_any _).mono ?_; rintro e w' ⟨rfl, rfl⟩) | (go_at_call 140; refine (HR.out _).mono ?_; rintro e w' ⟨rfl, rfl⟩) | (go_at_call 105; refine (HB.out _).mono ?_; rintro e w' ⟨rfl, rfl⟩))
  go_region
  all_goals
    go_wp2_with fail
    go_ret2
    exact ⟨rfl, by first | exact bel1 _ _ | exact (bel1 _ _).drew⟩
set_option maxRecDepth 100000 in
set_option maxHeartbeats 2000000 in
theorem numberOf_fit (k n : Int) (b : ByteArray) (w : World) (hok : tyOk k n = true) (h : b.size ≤ 8) (hb8 : by8 (leV b.data.toList.reverse) = b.size) (hf : fitsN k n (leV b.data.toList.reverse) = false) (T : TypeId) (z : Value) (he : EFv T z w) : Calls Tryz.prog 132 #[.agg #[.int .i64 k, .int .i64 n], .string b] w fun e w' => e = .returned (.tuple #[.int .u64 0, .iface T z]) ∧ Below w.heap.size w w' := by
  have hlt := lev_8 b h
  have HR : Hid (∀ w, Calls Tryz.prog 140 #[.string b, .int .i64 b.size] w fun e w' => e = .returned (.tuple #[.int .u64 (leV b.data.toList.reverse : Nat), .bool true]) ∧ w' = w) := fun w => by
    have h := readHigh_u64_any b b.size w h (by unfold maxLen; omega)
    rw [if_neg (by omega), rev_take, decide_eq_true (Nat.le_refl _)] at h
    exact h
  have HB : Hid (∀ w, Calls Tryz.prog 105 #[.int .u64 (leV b.data.toList.reverse : Nat)] w fun e w' => e = .returned (.int .i64 b.size) ∧ w' = w) := fun w => by rw [← hb8]; exact bytesOf_u64_any _ w hlt
  have HF : Hid (∀ w, Calls Tryz.prog 67 #[.agg #[.int .i64 k, .int .i64 n], .int .u64 (leV b.data.toList.reverse : Nat)] w fun e w' => e = .returned (.bool false) ∧ Below w.heap.size w w') := fun w => by rw [← hf]; exact numberFits_any k n _ w hok hlt
  have HE : Hid (EFv T z w) := he
  clear he hb8 hf hok
  generalize leV b.data.toList.reverse = m at *
  go_enter Tryz.func132, Tryz.ntmps132
  go_wp2_with (first | (go_at_call 139; refine (widthOf_u64_any _).mono ?_; rintro e w' ⟨rfl, rfl⟩) | (go_at_call 140; refine (HR.out _).mono ?_; rintro e w' ⟨rfl, rfl⟩) | (go_at_call 105; refine (HB.out _).mono ?_; rintro e w' ⟨rfl, rfl⟩))
  refine (HF.out _).mono ?_
  rintro e w1 ⟨rfl, hb1⟩
  have HB1 : Hid (Below w.heap.size w w1) := (bel1 _ _).trans (hb1.mono (by simp))
  obtain ⟨e1, e2⟩ := EFv.below HE.out HB1.out
  clear hb1
  go_wp2_with fail
  go_region
  all_goals
    go_wp2_with fail
    go_ret2
    exact ⟨rfl, by first | exact HB1.out | exact HB1.out.drew⟩
set_option maxRecDepth 100000 in
set_option maxHeartbeats 2000000 in
theorem numberOf_ok (k n : Int) (b : ByteArray) (w : World) (hok : tyOk k n = true) (h : b.size ≤ 8) (hb8 : by8 (leV b.data.toList.reverse) = b.size) (hf : fitsN k n (leV b.data.toList.reverse) = true) : Calls Tryz.prog 132 #[.agg #[.int .i64 k, .int .i64 n], .string b] w fun e w' => e = .returned (.tuple #[.int .u64 (leV b.data.toList.reverse : Nat), .nilIface]) ∧ Below w.heap.size w w' := by
  have hlt := lev_8 b h
  have HR : Hid (∀ w, Calls Tryz.prog 140 #[.string b, .int .i64 b.size] w fun e w' => e = .returned (.tuple #[.int .u64 (leV b.data.toList.reverse : Nat), .bool true]) ∧ w' = w) := fun w => by
    have h := readHigh_u64_any b b.size w h (by unfold maxLen; omega)
    rw [if_neg (by omega), rev_take, decide_eq_true (Nat.le_refl _)] at h
    exact h
  have HB : Hid (∀ w, Calls Tryz.prog 105 #[.int .u64 (leV b.data.toList.reverse : Nat)] w fun e w' => e = .returned (.int .i64 b.size) ∧ w' = w) := fun w => by rw [← hb8]; exact bytesOf_u64_any _ w hlt
  have HF : Hid (∀ w, Calls Tryz.prog 67 #[.agg #[.int .i64 k, .int .i64 n], .int .u64 (leV b.data.toList.reverse : Nat)] w fun e w' => e = .returned (.bool true) ∧ Below w.heap.size w w') := fun w => by rw [← hf]; exact numberFits_any k n _ w hok hlt
  clear hb8 hf hok
  generalize leV b.data.toList.reverse = m at *
  go_enter Tryz.func132, Tryz.ntmps132
  go_wp2_with (first | (go_at_call 139; refine (widthOf_u64_any _).mono ?_; rintro e w' ⟨rfl, rfl⟩) | (go_at_call 140; refine (HR.out _).mono ?_; rintro e w' ⟨rfl, rfl⟩) | (go_at_call 105; refine (HB.out _).mono ?_; rintro e w' ⟨rfl, rfl⟩))
  refine (HF.out _).mono ?_
  rintro e w1 ⟨rfl, hb1⟩
  have HB1 : Hid (Below w.heap.size w w1) := (bel1 _ _).trans (hb1.mono (by simp))
  clear hb1
  go_wp2_with fail
  go_ret2
  exact ⟨rfl, HB1.out⟩
theorem numberOf_none (k n : Int) (b : ByteArray) (w : World) (hok : tyOk k n = true) (hs : b.size ≤ 1048576) (h : numD k n b.data.toList true = none) (T : TypeId) (z : Value) (he : EFv T z w) : Calls Tryz.prog 132 #[.agg #[.int .i64 k, .int .i64 n], .string b] w fun e w' => e = .returned (.tuple #[.int .u64 0, .iface T z]) ∧ Below w.heap.size w w' := by
  unfold numD at h
  rw [lst_len] at h
  by_cases h8 : b.size ≤ 8
  · by_cases hb8 : by8 (leV b.data.toList.reverse) = b.size
    · cases hf : fitsN k n (leV b.data.toList.reverse) with
      | false => exact numberOf_fit k n b w hok h8 hb8 hf T z he
      | true => rw [if_pos ⟨h8, hb8, fun _ => hf⟩] at h; cases h
    · exact numberOf_wide k n b w h8 hb8 T z he
  · exact numberOf_long k n b w hs (by omega) T z he
theorem numberOf_some (k n : Int) (b : ByteArray) (m : Nat) (w : World) (hok : tyOk k n = true) (h : numD k n b.data.toList true = some m) : Calls Tryz.prog 132 #[.agg #[.int .i64 k, .int .i64 n], .string b] w fun e w' => e = .returned (.tuple #[.int .u64 m, .nilIface]) ∧ Below w.heap.size w w' := by
  unfold numD at h
  rw [lst_len] at h
  split at h
  · rename_i hc
    simp only [Option.some.injEq] at h
    subst h
    exact numberOf_ok k n b w hok hc.1 hc.2.1 (hc.2.2 rfl)
  · cases h
end Go.Proofs.YtdncnjmlicdamaaGreatDoor
namespace Go.Proofs.YtdncnjmlicdamaaGreatDoor
open Go.RowKit Go.Sort
set_option linter.unusedVariables false
theorem join8b (x : Nat) (b : UInt8) (hx : x < 72057594037927936) : bits .or .u64 (IntKind.u64.wrap ((x : Int) * 256)) (IntKind.u64.wrap (b.toNat : Int)) = ((b.toNat + 256 * x : Nat) : Int) := by
  have hb := b.toNat_lt
  have e2 : IntKind.u64.wrap ((x : Int) * 256) = ((256 * x : Nat) : Int) := by rw [IntKind.wrap_u64]; omega
  have e1 : IntKind.u64.wrap (b.toNat : Int) = (b.toNat : Int) := by rw [IntKind.wrap_u64]; omega
  rw [e1, e2, u64_or_nat _ _ (by omega) (by omega)]
  have e3 : 256 * x ||| b.toNat = 256 * x + b.toNat := nat_join 8 (256 * x) b.toNat (by omega) hb
  rw [e3, Nat.add_comm]
theorem numD_len {k n : Int} {b : List UInt8} {chk : Bool} (h : 8 < b.length) : numD k n b chk = none := by
  unfold numD; rw [if_neg (by omega)]
/-- A first byte that is nought: too few bytes would do. -/
theorem numD_zero {k n : Int} {c : UInt8} {r : List UInt8} {chk : Bool} (h : c.toNat = 0) : numD k n (c :: r) chk = none := by
  unfold numD
  rw [if_neg]
  rintro ⟨h1, h2, _⟩
  have e1 : leV (c :: r).reverse = leV r.reverse := by
    rw [List.reverse_cons, leV_snoc, h]; simp
  have h4 := leV_lt r.reverse
  rw [List.length_reverse] at h4
  have h5 := (by8_le (leV r.reverse) r.length).2 h4
  rw [e1] at h2
  simp at h2
  omega
theorem numD_first {k n : Int} {b : List UInt8} (h8 : b.length ≤ 8) (h : ∀ c r, b = c :: r → c.toNat ≠ 0) : numD k n b false = some (leV b.reverse) := by
  unfold numD
  have hb : by8 (leV b.reverse) = b.length := by
    cases b with
    | nil => rfl
    | cons c r =>
      have hc := h c r rfl
      have h4 := leV_lt (c :: r).reverse
      rw [List.length_reverse] at h4
      have h5 := (by8_le (leV (c :: r).reverse) (c :: r).length).2 h4
      have h6 : ¬ by8 (leV (c :: r).reverse) ≤ r.length := fun hle => by
        have h7 := (by8_le _ _).1 hle
        rw [List.reverse_cons, leV_snoc, List.length_reverse] at h7
        have : 2 ^ (8 * r.length) ≤ c.toNat * 2 ^ (8 * r.length) := Nat.le_mul_of_pos_left _ (by omega)
        omega
      simp at h5 h6 ⊢
      omega
  rw [if_pos ⟨h8, hb, fun h => by cases h⟩]
set_option maxRecDepth 100000 in
set_option maxHeartbeats 2000000 in
theorem l4Parse_long (b : ByteArray) (w : World) (h : 8 < b.size) : Calls Tryz.prog 48 #[.string b] w fun e w' => e = .returned (.tuple #[.int .u64 0, .bool false]) ∧ Below w.heap.size w w' := by
  go_enter Tryz.func48, Tryz.ntmps48
  go_wp2_with fail
  go_ret2
  exact ⟨rfl, Below.refl _ _⟩
set_option maxRecDepth 100000 in
set_option maxHeartbeats 2000000 in
theorem l4Parse_zero (b : ByteArray) (w : World) (h : b.size ≤ 8) (h0 : 0 < b.size) (hz : (b[0]'h0).toNat = 0) : Calls Tryz.prog 48 #[.string b] w fun e w' => e = .returned (.tuple #[.int .u64 0, .bool false]) ∧ Below w.heap.size w w' := by
  have hne := isEmpty_no b h0
  have hq : (((b[0]'h0).toNat : Int) == 0) = true := by simp [hz]
  have hd : decide ((8 : Int) < (b.size : Int)) = false := decide_eq_false (by omega)
  clear hz
  go_enter Tryz.func48, Tryz.ntmps48
  go_wp2_with fail
  go_ret2
  exact ⟨rfl, Below.refl _ _⟩
set_option maxRecDepth 100000 in
set_option maxHeartbeats 2000000 in
theorem l4Parse_ok (b : ByteArray) (w : World) (h : b.size ≤ 8) (hf : ∀ h0 : 0 < b.size, (b[0]'h0).toNat ≠ 0) : Calls Tryz.prog 48 #[.string b] w fun e w' => e = .returned (.tuple #[.int .u64 (leV b.data.toList.reverse : Nat), .bool true]) ∧ Below w.heap.size w w' := by
  have hd : decide ((8 : Int) < (b.size : Int)) = false := decide_eq_false (by omega)
  have HL : Hid (∀ j, j < b.size → leV (b.data.toList.take j).reverse < 72057594037927936) := fun j hj => by
    have h4 := leV_lt (b.data.toList.take j).reverse
    rw [List.length_reverse, lenTake b j (by omega)] at h4
    exact Nat.lt_of_lt_of_le h4 (Nat.le_trans (Nat.pow_le_pow_right (by decide) (show 8 * j ≤ 56 by omega)) (by decide))
  by_cases h0 : 0 < b.size
  · have hne := isEmpty_no b h0
    have hq : (((b[0]'h0).toNat : Int) == 0) = false := by have := hf h0; simp; omega
    clear hf
    go_enter Tryz.func48, Tryz.ntmps48
    go_wp2_with fail
    go_loop [4, 5] (fun v i => ∃ j : Nat, j ≤ b.size ∧ i = .int .i64 j ∧ v = .int .u64 (leV (b.data.toList.take j).reverse : Nat)) (fun _ i => b.size - (intOf i).toNat)
    case atStart => exact ⟨0, Nat.zero_le _, rfl, rfl⟩
    case round =>
      obtain ⟨j, hj, rfl, rfl⟩ := hrel
      by_cases hlt : j < b.size
      · have J := join8b (leV (b.data.toList.take j).reverse) b[j] (HL.out j hlt)
        have J2 : leV (b.data.toList.take (j + 1)).reverse = b[j].toNat + 256 * leV (b.data.toList.take j).reverse := by
          rw [take_snoc b j hlt, List.reverse_append]; rfl
        rw [← J2] at J
        have HJ : Hid _ := J
        clear J J2
        go_wp2
        go_round
        case rel =>
          refine ⟨j + 1, by omega, by go_num, ?_⟩
          first | rw [HJ.out] | (have h := HJ.out; simp only [IntKind.wrap_u64] at h; rw [h])
        case measure => simp [intOf]; omega
      · have ej : j = b.size := by omega
        have HE2 : Hid (leV (b.data.toList.take b.size).reverse = leV b.data.toList.reverse) := by show _ = _; rw [rev_take]
        go_wp2
        go_ret2
        exact ⟨by first | (rw [← HE2.out]; rfl) | (rw [HE.out]; rfl), Below.refl _ _⟩
  · have hne := isEmpty_yes b h0
    have HE : Hid (leV b.data.toList.reverse = 0) := by show _ = _; rw [data_nil b h0]; rfl
    have hz : b.size = 0 := by omega
    clear hf
    go_enter Tryz.func48, Tryz.ntmps48
    go_wp2_with fail
    go_loop [4, 5] (fun v i => ∃ j : Nat, j ≤ b.size ∧ i = .int .i64 j ∧ v = .int .u64 (leV (b.data.toList.take j).reverse : Nat)) (fun _ i => b.size - (intOf i).toNat)
    case atStart => exact ⟨0, Nat.zero_le _, rfl, rfl⟩
    case round =>
      obtain ⟨j, hj, rfl, rfl⟩ := hrel
      by_cases hlt : j < b.size
      · exact absurd hlt (by omega)
      · have ej : j = b.size := by omega
        have HE2 : Hid (leV (b.data.toList.take b.size).reverse = leV b.data.toList.reverse) := by show _ = _; rw [rev_take]
        go_wp2
        go_ret2
        exact ⟨by first | (rw [← HE2.out]; rfl) | (rw [HE.out]; rfl), Below.refl _ _⟩
theorem l4Parse_no {k n : Int} (b : ByteArray) (w : World) (h : numD k n b.data.toList false = none) : Calls Tryz.prog 48 #[.string b] w fun e w' => e = .returned (.tuple #[.int .u64 0, .bool false]) ∧ Below w.heap.size w w' := by
  by_cases h8 : 8 < b.size
  · exact l4Parse_long b w h8
  · by_cases h0 : ∃ h0 : 0 < b.size, (b[0]'h0).toNat = 0
    · obtain ⟨h1, h2⟩ := h0
      exact l4Parse_zero b w (by omega) h1 h2
    · rw [numD_first (by rw [lst_len]; omega) (fun c r he hc => h0 ?_)] at h
      · cases h
      · have hs : 0 < b.size := by rw [← lst_len, he]; simp
        refine ⟨hs, ?_⟩
        rw [data_cons b hs] at he
        injection he with he
        rw [he]; exact hc
theorem l4Parse_some {k n : Int} (b : ByteArray) (m : Nat) (w : World) (h : numD k n b.data.toList false = some m) : Calls Tryz.prog 48 #[.string b] w fun e w' => e = .returned (.tuple #[.int .u64 m, .bool true]) ∧ Below w.heap.size w w' := by
  have h8 : b.size ≤ 8 := by
    by_cases h8 : 8 < b.size
    · rw [numD_len (by rw [lst_len]; exact h8)] at h; cases h
    · omega
  have hf : ∀ h0 : 0 < b.size, (b[0]'h0).toNat ≠ 0 := fun h0 hc => by
    rw [data_cons b h0, numD_zero hc] at h; cases h
  have hm : leV b.data.toList.reverse = m := by
    unfold numD at h
    split at h
    · simpa using h
    · cases h
  rw [← hm]
  exact l4Parse_ok b w h8 hf
end Go.Proofs.YtdncnjmlicdamaaGreatDoor
namespace Go.Proofs.YtdncnjmlicdamaaGreatDoor
set_option linter.unusedVariables false
/-- So many parts, that are all of b. -/
def partsP (d : Nat → List UInt8 → Option (List It × List UInt8)) (ps : Nat → Nat) : Nat → Nat → List UInt8 → Option (List (List It))
  | 0, i, b => if b = [] then some [] else none
  | m + 1, i, b => (d (ps i) b).bind fun x => (partsP d ps m (i + 1) x.2).map fun y => x.1 :: y
theorem rlD_nil (st : Bool) (ts : List (Int × Int)) (f a : Nat) : rlD st ts f a [] = none := by
  cases f with
  | zero => rfl
  | succ f =>
    unfold rlD
    split
    · rfl
    · rfl
theorem partsP_L {d : Nat → List UInt8 → Option (List It × List UInt8)} (hd : ∀ a, d a [] = none) (ps : Nat → Nat) : ∀ (m i : Nat) (b : List UInt8), partsP d ps m i b = (partsL d ps m i b).bind fun ls => if ls.length = m then some ls else none := by
  intro m
  induction m with
  | zero =>
    intro i b
    simp only [partsP, partsL]
    split <;> simp
  | succ m ih =>
    intro i b
    simp only [partsP, partsL]
    by_cases hb : b = []
    · subst hb
      rw [hd]; simp
    · rw [if_neg hb]
      cases d (ps i) b with
      | none => rfl
      | some x =>
        simp only [Option.bind_some]
        rw [ih]
        cases partsL d ps m (i + 1) x.2 with
        | none => rfl
        | some ls =>
          simp only [Option.bind_some, Option.map_some, List.length_cons]
          by_cases hl : ls.length = m
          · simp [hl]
          · simp [hl]
theorem partsP_one {d : Nat → List UInt8 → Option (List It × List UInt8)} (ps : Nat → Nat) (i : Nat) (b : List UInt8) : partsP d ps 1 i b = (whole (d (ps i) b)).map fun l => [l] := by
  simp only [partsP]
  cases d (ps i) b with
  | none => rfl
  | some x =>
    obtain ⟨l, r⟩ := x
    cases r with
    | nil => simp [whole]
    | cons c r => simp [whole]
theorem partsL_le {d : Nat → List UInt8 → Option (List It × List UInt8)} {ps : Nat → Nat} : ∀ {m i : Nat} {b : List UInt8} {ls : List (List It)}, partsL d ps m i b = some ls → ls.length ≤ m := by
  intro m
  induction m with
  | zero =>
    intro i b ls h
    simp only [partsL] at h
    split at h
    · simp only [Option.some.injEq] at h; subst h; simp
    · cases h
  | succ m ih =>
    intro i b ls h
    simp only [partsL] at h
    split at h
    · simp only [Option.some.injEq] at h; subst h; simp
    · obtain ⟨x, g1, g2⟩ := Option.bind_eq_some_iff.1 h
      obtain ⟨ls1, g3, g4⟩ := Option.map_eq_some_iff.1 g2
      subst g4
      have := ih g3
      rw [List.length_cons]; omega
theorem rlB_num {st : Bool} {k n : Int} (hk : k = 1 ∨ k = 2) (d : Nat → List UInt8 → Option (List It × List UInt8)) (pp : Nat → Nat → Nat) (b : List UInt8) : rlB st k n d pp false b = (numD k n b st).map fun m => [⟨k, m, ⟨#[]⟩⟩] := by
  unfold rlB
  rw [if_neg (by simp; omega), if_pos hk]
theorem rlB_str {k n : Int} (hk : k = 3 ∨ k = 4) (d : Nat → List UInt8 → Option (List It × List UInt8)) (pp : Nat → Nat → Nat) (b : List UInt8) : rlB false k n d pp false b = some [⟨k, 0, ⟨b.toArray⟩⟩] := by
  unfold rlB
  rw [if_neg (by simp; omega), if_neg (by omega), if_pos hk, if_pos (fun h => by cases h)]
theorem rlB_list {st : Bool} {n : Int} (d : Nat → List UInt8 → Option (List It × List UInt8)) (pp : Nat → Nat → Nat) (b : List UInt8) (hn : 0 ≤ n) : rlB st 5 n d pp true b = (partsL d (pp 0) n.toNat 0 b).map fun ls => ⟨5, ls.length, ⟨#[]⟩⟩ :: ls.flatten := by
  unfold rlB
  rw [if_neg (by simp), if_neg (by omega), if_neg (by omega), if_neg (by omega), if_neg (by omega)]
  cases h : partsL d (pp 0) n.toNat 0 b with
  | none => rfl
  | some ls =>
    have := partsL_le h
    have hf : fitsN 5 n ls.length = true := by unfold fitsN; rw [if_neg (by omega), if_neg (by omega), if_pos rfl]; simp; omega
    simp [hf]
theorem rlB_flat {st : Bool} {k n : Int} (hk : k = 6 ∨ k = 7) {d : Nat → List UInt8 → Option (List It × List UInt8)} (hd : ∀ a, d a [] = none) (pp : Nat → Nat → Nat) (b : List UInt8) (hn : 0 ≤ n) : rlB st k n d pp true b = (partsP d (pp 0) n.toNat 0 b).map fun ls => ⟨k, n.toNat, ⟨#[]⟩⟩ :: ls.flatten := by
  unfold rlB
  rw [if_neg (by simp; omega), if_neg (by omega), if_neg (by omega), if_neg (by omega), if_neg (by omega), partsP_L hd]
  cases h : partsL d (pp 0) n.toNat 0 b with
  | none => rfl
  | some ls =>
    have hf : fitsN k n ls.length = decide (ls.length = n.toNat) := by
      unfold fitsN
      rw [if_neg (by omega), if_neg (by omega), if_neg (by omega), if_pos (by omega)]
      exact decide_eq_decide.2 (by omega)
    simp only [Option.bind_some, hf]
    by_cases hl : ls.length = n.toNat
    · simp [hl]
    · simp [hl]
theorem rlB_opt {st : Bool} {n : Int} (d : Nat → List UInt8 → Option (List It × List UInt8)) (pp : Nat → Nat → Nat) (b : List UInt8) (m : Nat) (hm : m = if b = [] then 0 else 1) : rlB st 8 n d pp true b = (partsP d (pp m) m 0 b).map fun ls => ⟨8, m, ⟨#[]⟩⟩ :: ls.flatten := by
  unfold rlB
  rw [if_neg (by simp), if_neg (by omega), if_neg (by omega), if_pos rfl]
  by_cases hb : b = []
  · rw [if_pos hb] at hm ⊢
    subst hm
    simp [partsP, hb]
  · rw [if_neg hb] at hm ⊢
    subst hm
    rw [partsP_one]
    cases whole (d (pp 1 0) b) <;> simp
theorem rlB_uni {st : Bool} {n : Int} (d : Nat → List UInt8 → Option (List It × List UInt8)) (pp : Nat → Nat → Nat) (b B R : List UInt8) (m : Nat) (ht : tk st b = some (false, B, R)) (hm : numD 9 n B true = some m) : rlB st 9 n d pp true b = (partsP d (pp m) 1 0 R).map fun ls => ⟨9, m, ⟨#[]⟩⟩ :: ls.flatten := by
  unfold rlB
  rw [if_neg (by simp), if_neg (by omega), if_neg (by omega), if_neg (by omega), if_pos rfl, ht]
  simp only [Option.bind_some, Bool.false_eq_true, if_false]
  rw [hm, partsP_one]
  simp only [Option.bind_some]
  cases whole (d (pp m 0) R) <;> simp
theorem rlB_uni_no {st : Bool} {n : Int} (d : Nat → List UInt8 → Option (List It × List UInt8)) (pp : Nat → Nat → Nat) (b : List UInt8) (h : ∀ B R m, tk st b = some (false, B, R) → numD 9 n B true ≠ some m) : rlB st 9 n d pp true b = none := by
  unfold rlB
  rw [if_neg (by simp), if_neg (by omega), if_neg (by omega), if_neg (by omega), if_pos rfl]
  cases ht : tk st b with
  | none => rfl
  | some y =>
    obtain ⟨l, B, R⟩ := y
    simp only [Option.bind_some]
    cases l with
    | true => simp
    | false =>
      simp only [Bool.false_eq_true, if_false]
      cases hm : numD 9 n B true with
      | none => rfl
      | some m => exact absurd hm (h B R m ht)
/-- Two checks of a number that is of a union. -/
theorem numD_two {n : Int} {B : List UInt8} : numD 9 n B true = (numD 9 n B false).bind fun m => if (m : Int) < n then some m else none := by
  unfold numD
  by_cases h1 : B.length ≤ 8 ∧ by8 (leV B.reverse) = B.length
  · rw [if_pos (show B.length ≤ 8 ∧ by8 (leV B.reverse) = B.length ∧ (false = true → fitsN 9 n (leV B.reverse) = true) from ⟨h1.1, h1.2, fun h => by cases h⟩)]
    simp only [Option.bind_some]
    have hf : fitsN 9 n (leV B.reverse) = decide ((leV B.reverse : Int) < n) := by
      unfold fitsN
      rw [if_neg (by omega), if_neg (by omega), if_neg (by omega), if_neg (by omega), if_pos rfl]
    by_cases h2 : (leV B.reverse : Int) < n
    · rw [if_pos ⟨h1.1, h1.2, fun _ => by rw [hf]; exact decide_eq_true h2⟩, if_pos h2]
    · rw [if_neg (fun h => h2 (of_decide_eq_true (by rw [← hf]; exact h.2.2 (by first | rfl | trivial)))), if_neg h2]
  · rw [if_neg (fun h => h1 ⟨h.1, h.2.1⟩), if_neg (fun h => h1 ⟨h.1, h.2.1⟩)]
    rfl
end Go.Proofs.YtdncnjmlicdamaaGreatDoor
