/- RLP's strings, numbers and lists, both sides: contracts. -/
import Derived.Test.YtjpdhenmhffmeaaDoorS8a
import Derived.Test.YtjpdhenmhffmeaaDoorS3f
namespace Go.Proofs.YtjpdhenmhffmeaaDoor
open Go.RowKit Go.Sort
set_option linter.unusedVariables false
theorem ba_sz (l : List UInt8) : ByteArray.size ⟨l.toArray⟩ = l.length := by show l.toArray.size = _; simp
/-- A string's bytes, opened: it is its own head, or not. -/
theorem own_cases (l : List UInt8) (S : ByteArray) (hS : (⟨l.toArray⟩ : ByteArray) = S) : (S.size ≠ 1 ∧ isOwn l = false) ∨ (∃ h : 0 < S.size, S.size = 1 ∧ isOwn l = decide ((S[0]'h).toNat < 128)) := by
  subst hS
  match l with
  | [] => exact .inl ⟨by decide, rfl⟩
  | [b] => exact .inr ⟨by rw [ba_sz]; simp, by rw [ba_sz]; rfl, rfl⟩
  | a :: b :: r => exact .inl ⟨by rw [ba_sz]; simp, rfl⟩
set_option maxRecDepth 100000 in
set_option maxHeartbeats 1000000 in
theorem isOwnHead_any (l : List UInt8) (w : World) : Calls Tryd.prog 107 #[.string ⟨l.toArray⟩] w fun e w' => e = .returned (.bool (isOwn l)) ∧ w' = w := by
  obtain ⟨S, hS⟩ : ∃ S : ByteArray, (⟨l.toArray⟩ : ByteArray) = S := ⟨_, rfl⟩
  rw [hS]
  rcases own_cases l S hS with ⟨h1, h2⟩ | ⟨h0, h1, h2⟩
  · rw [h2]
    have hq : ((S.size : Int) == 1) = false := beqF (by omega)
    clear hS h2
    go_enter Tryd.func107, Tryd.ntmps107
    go_wp2_with fail
    go_ret
    exact ⟨rfl, rfl⟩
  · have HR : Hid (isOwn l = decide ((S[0]'h0).toNat < 128)) := h2
    clear hS h2
    have hq : ((S.size : Int) == 1) = true := by simp [h1]
    go_enter Tryd.func107, Tryd.ntmps107
    go_wp2_with fail
    go_ret
    exact ⟨by rw [HR.out]; exact ret_b (decide_eq_decide.2 (by omega)), rfl⟩
theorem head_impl (list : Bool) (n : Nat) (w : World) (hn : n ≤ 65535) : Calls Tryd.prog 11 #[.bool list, .int .i64 n] w fun e w' => e = .returned (.string ⟨(headL list n).toArray⟩) ∧ Below w.heap.size w w' := by
  have h := implPutHead_any list n w
  have e : putHead list (n : Int) = headL list n := by unfold putHead; rw [if_pos (by omega)]; simp
  rwa [e] at h
theorem head_spec (list : Bool) (n : Nat) (w : World) (hn : n ≤ 65535) : Calls Tryd.prog 45 #[.bool list, .int .i64 n] w fun e w' => e = .returned (.string ⟨(headL list n).toArray⟩) ∧ Below w.heap.size w w' := l1Head_any list n w hn
theorem rlS_own {l : List UInt8} (h : isOwn l = true) : rlS l = l := by unfold rlS; rw [if_pos h]
theorem rlS_not {l : List UInt8} (h : isOwn l = false) : rlS l = headL false l.length ++ l := by unfold rlS; rw [if_neg (by rw [h]; decide)]
set_option maxRecDepth 100000 in
set_option maxHeartbeats 1000000 in
theorem rlString_impl (l : List UInt8) (w : World) (hl : l.length ≤ 60000) : Calls Tryd.prog 102 #[.string ⟨l.toArray⟩] w fun e w' => e = .returned (.string ⟨(rlS l).toArray⟩) ∧ Below w.heap.size w w' := by
  have HH : Hid (∀ w, Calls Tryd.prog 11 #[.bool false, .int .i64 l.length] w fun e w' => e = .returned (.string ⟨(headL false l.length).toArray⟩) ∧ Below w.heap.size w w') := fun w => head_impl false l.length w (by omega)
  have HO : Hid (∀ w, Calls Tryd.prog 107 #[.string ⟨l.toArray⟩] w fun e w' => e = .returned (.bool (isOwn l)) ∧ w' = w) := fun w => isOwnHead_any l w
  have HR : Hid ((⟨(headL false l.length).toArray⟩ : ByteArray) ++ ⟨l.toArray⟩ = ⟨(headL false l.length ++ l).toArray⟩) := cat_list _ _
  have hhs : ByteArray.size ⟨(headL false l.length).toArray⟩ ≤ 3 := by rw [ba_sz]; exact headL_len false (by omega)
  have hss : ByteArray.size ⟨l.toArray⟩ = l.length := ba_sz l
  obtain ⟨D, hD⟩ : ∃ D : ByteArray, (⟨(headL false l.length).toArray⟩ : ByteArray) = D := ⟨_, rfl⟩
  obtain ⟨S, hS⟩ : ∃ S : ByteArray, (⟨l.toArray⟩ : ByteArray) = S := ⟨_, rfl⟩
  rw [hD] at HH hhs
  rw [hS] at hss HO ⊢
  rw [hD, hS] at HR
  have HS : Hid ((⟨l.toArray⟩ : ByteArray) = S) := hS
  clear hD hS
  rw [← hss] at HH hl
  have hD2 : ¬ (9223372036854775807 < D.size + S.size) := by omega
  clear hss
  cases ho : isOwn l with
  | true =>
    rw [ho] at HO
    have HE : Hid (rlS l = l) := rlS_own ho
    clear ho
    go_enter Tryd.func102, Tryd.ntmps102
    go_wp2_with fail
    refine (HO.out _).mono ?_
    rintro e w1 ⟨rfl, rfl⟩
    go_wp2_with fail
    go_ret
    exact ⟨by rw [HE.out, HS.out]; rfl, Below.refl _ _⟩
  | false =>
    rw [ho] at HO
    have HE : Hid (rlS l = headL false l.length ++ l) := rlS_not ho
    clear ho
    go_enter Tryd.func102, Tryd.ntmps102
    go_wp2_with fail
    refine (HO.out _).mono ?_
    rintro e w1 ⟨rfl, rfl⟩
    go_wp2_with fail
    refine (HH.out _).mono ?_
    rintro e w2 ⟨rfl, hb2⟩
    go_wp2_with fail
    go_ret
    exact ⟨by rw [HE.out, ← HR.out]; try rfl, hb2⟩
set_option maxRecDepth 100000 in
set_option maxHeartbeats 1000000 in
theorem rlString_spec (l : List UInt8) (w : World) (hl : l.length ≤ 60000) : Calls Tryd.prog 43 #[.string ⟨l.toArray⟩] w fun e w' => e = .returned (.string ⟨(rlS l).toArray⟩) ∧ Below w.heap.size w w' := by
  have HH : Hid (∀ w, Calls Tryd.prog 45 #[.bool false, .int .i64 l.length] w fun e w' => e = .returned (.string ⟨(headL false l.length).toArray⟩) ∧ Below w.heap.size w w') := fun w => head_spec false l.length w (by omega)
  have HR : Hid ((⟨(headL false l.length).toArray⟩ : ByteArray) ++ ⟨l.toArray⟩ = ⟨(headL false l.length ++ l).toArray⟩) := cat_list _ _
  have hhs : ByteArray.size ⟨(headL false l.length).toArray⟩ ≤ 3 := by rw [ba_sz]; exact headL_len false (by omega)
  have hss : ByteArray.size ⟨l.toArray⟩ = l.length := ba_sz l
  obtain ⟨D, hD⟩ : ∃ D : ByteArray, (⟨(headL false l.length).toArray⟩ : ByteArray) = D := ⟨_, rfl⟩
  obtain ⟨S, hS⟩ : ∃ S : ByteArray, (⟨l.toArray⟩ : ByteArray) = S := ⟨_, rfl⟩
  rw [hD] at HH hhs
  rw [hS] at hss ⊢
  rw [hD, hS] at HR
  have HS : Hid ((⟨l.toArray⟩ : ByteArray) = S) := hS
  clear hD
  rw [← hss] at HH hl
  have hD2 : ¬ (9223372036854775807 < D.size + S.size) := by omega
  clear hss
  rcases own_cases l S hS with ⟨h1, h2⟩ | ⟨h0, h1, h2⟩
  · have hq : ((S.size : Int) == 1) = false := beqF (by omega)
    have HE : Hid (rlS l = headL false l.length ++ l) := rlS_not h2
    clear hS h2 h1
    go_enter Tryd.func43, Tryd.ntmps43
    go_wp2_with fail
    refine (HH.out _).mono ?_
    rintro e w2 ⟨rfl, hb2⟩
    go_wp2_with fail
    go_ret
    exact ⟨by rw [HE.out, ← HR.out]; try rfl, hb2⟩
  · have hq : ((S.size : Int) == 1) = true := by simp [h1]
    by_cases h128 : (S[0]'h0).toNat < 128
    · have HE : Hid (rlS l = l) := rlS_own (by rw [h2]; simpa using h128)
      have hq2 : decide (((S[0]'h0).toNat : Int) < 128) = true := by simp; omega
      clear hS h2
      go_enter Tryd.func43, Tryd.ntmps43
      go_wp2_with fail
      go_ret
      exact ⟨by rw [HE.out, HS.out]; rfl, Below.refl _ _⟩
    · have HE : Hid (rlS l = headL false l.length ++ l) := rlS_not (by rw [h2]; simpa using h128)
      have hq2 : decide (((S[0]'h0).toNat : Int) < 128) = false := by simp; omega
      have HH' : Hid (∀ w, Calls Tryd.prog 45 #[.bool false, .int .i64 1] w fun e w' => e = .returned (.string D) ∧ Below w.heap.size w w') := fun w => by have := HH.out w; rw [h1] at this; exact this
      clear hS h2 HH
      go_enter Tryd.func43, Tryd.ntmps43
      go_wp2_with fail
      refine (HH'.out _).mono ?_
      rintro e w2 ⟨rfl, hb2⟩
      go_wp2_with fail
      go_ret
      exact ⟨by rw [HE.out, ← HR.out]; try rfl, hb2⟩
set_option maxRecDepth 100000 in
set_option maxHeartbeats 1000000 in
theorem rlNumber_impl (m : Nat) (w : World) (hm : m < 18446744073709551616) : Calls Tryd.prog 101 #[.int .u64 m] w fun e w' => e = .returned (.string ⟨(rlNum m).toArray⟩) ∧ Below w.heap.size w w' := by
  have h8 := by8_8 m hm
  have HA : Hid (∀ w, Calls Tryd.prog 30 #[.int .u64 m] w fun e w' => e = .returned (.int .i64 (by8 m)) ∧ w' = w) := fun w => bytesOf_u64_any m w hm
  have HB : Hid (∀ w, Calls Tryd.prog 106 #[.int .u64 m, .int .i64 (by8 m)] w fun e w' => e = .returned (.string ⟨(leL m (by8 m)).reverse.toArray⟩) ∧ Below w.heap.size w w') := fun w => highFirst_u64_any m (by8 m) w hm h8
  have HC : Hid (∀ w, Calls Tryd.prog 102 #[.string ⟨(leL m (by8 m)).reverse.toArray⟩] w fun e w' => e = .returned (.string ⟨(rlNum m).toArray⟩) ∧ Below w.heap.size w w') := fun w => rlString_impl _ w (by simp [leL_len]; omega)
  generalize (⟨(leL m (by8 m)).reverse.toArray⟩ : ByteArray) = S at HB HC
  clear h8
  go_enter Tryd.func101, Tryd.ntmps101
  go_wp2_with fail
  refine (HA.out _).mono ?_
  rintro e w1 ⟨rfl, rfl⟩
  go_wp2_with fail
  refine (HB.out _).mono ?_
  rintro e w2 ⟨rfl, hb2⟩
  go_wp2_with fail
  refine (HC.out _).mono ?_
  rintro e w3 ⟨rfl, hb3⟩
  have HB3 : Hid (Below w1.heap.size w1 w3) := hb2.trans (hb3.mono hb2.size)
  clear hb2 hb3
  go_wp2_with fail
  go_ret
  exact ⟨rfl, HB3.out⟩
set_option maxRecDepth 100000 in
set_option maxHeartbeats 1000000 in
theorem rlNumber_spec (m : Nat) (w : World) (hm : m < 18446744073709551616) : Calls Tryd.prog 42 #[.int .u64 m] w fun e w' => e = .returned (.string ⟨(rlNum m).toArray⟩) ∧ Below w.heap.size w w' := by
  have h8 := by8_8 m hm
  have HA : Hid (∀ w, Calls Tryd.prog 67 #[.int .u64 m] w fun e w' => e = .returned (.int .i64 (by8 m)) ∧ w' = w) := fun w => l1Need_any m w hm
  have HB : Hid (∀ w, Calls Tryd.prog 49 #[.int .u64 m, .int .i64 (by8 m)] w fun e w' => e = .returned (.string ⟨(leL m (by8 m)).toArray⟩) ∧ Below w.heap.size w w') := fun w => l1Le_any m (by8 m) w hm h8
  have HK : Hid (∀ w, Calls Tryd.prog 66 #[.string ⟨(leL m (by8 m)).toArray⟩] w fun e w' => e = .returned (.string ⟨(leL m (by8 m)).reverse.toArray⟩) ∧ Below w.heap.size w w') := fun w => by
    have := l1Back_any ⟨(leL m (by8 m)).toArray⟩ w (by rw [ba_sz, leL_len]; omega)
    simpa using this
  have HC : Hid (∀ w, Calls Tryd.prog 43 #[.string ⟨(leL m (by8 m)).reverse.toArray⟩] w fun e w' => e = .returned (.string ⟨(rlNum m).toArray⟩) ∧ Below w.heap.size w w') := fun w => rlString_spec _ w (by simp [leL_len]; omega)
  generalize (⟨(leL m (by8 m)).reverse.toArray⟩ : ByteArray) = S at HK HC
  generalize (⟨(leL m (by8 m)).toArray⟩ : ByteArray) = R at HB HK
  clear h8
  go_enter Tryd.func42, Tryd.ntmps42
  go_wp2_with fail
  refine (HA.out _).mono ?_
  rintro e w1 ⟨rfl, rfl⟩
  go_wp2_with fail
  refine (HB.out _).mono ?_
  rintro e w2 ⟨rfl, hb2⟩
  go_wp2_with fail
  refine (HK.out _).mono ?_
  rintro e w3 ⟨rfl, hb3⟩
  go_wp2_with fail
  refine (HC.out _).mono ?_
  rintro e w4 ⟨rfl, hb4⟩
  have HB3 : Hid (Below w1.heap.size w1 w3) := hb2.trans (hb3.mono hb2.size)
  have HB4 : Hid (Below w1.heap.size w1 w4) := HB3.out.trans (hb4.mono HB3.out.size)
  clear hb2 hb3 hb4
  go_wp2_with fail
  go_ret
  exact ⟨rfl, HB4.out⟩
set_option maxRecDepth 100000 in
set_option maxHeartbeats 1000000 in
theorem rlList_impl (l : List UInt8) (w : World) (hl : l.length ≤ 65535) : Calls Tryd.prog 103 #[.string ⟨l.toArray⟩] w fun e w' => e = .returned (.string ⟨(rlL l).toArray⟩) ∧ Below w.heap.size w w' := by
  have HH : Hid (∀ w, Calls Tryd.prog 11 #[.bool true, .int .i64 l.length] w fun e w' => e = .returned (.string ⟨(headL true l.length).toArray⟩) ∧ Below w.heap.size w w') := fun w => head_impl true l.length w (by omega)
  have HR : Hid ((⟨(headL true l.length).toArray⟩ : ByteArray) ++ ⟨l.toArray⟩ = ⟨(rlL l).toArray⟩) := cat_list _ _
  have hhs : ByteArray.size ⟨(headL true l.length).toArray⟩ ≤ 3 := by rw [ba_sz]; exact headL_len true (by omega)
  have hss : ByteArray.size ⟨l.toArray⟩ = l.length := ba_sz l
  obtain ⟨D, hD⟩ : ∃ D : ByteArray, (⟨(headL true l.length).toArray⟩ : ByteArray) = D := ⟨_, rfl⟩
  obtain ⟨S, hS⟩ : ∃ S : ByteArray, (⟨l.toArray⟩ : ByteArray) = S := ⟨_, rfl⟩
  rw [hD] at HH hhs
  rw [hS] at hss ⊢
  rw [hD, hS] at HR
  clear hD hS
  rw [← hss] at HH hl
  have hD2 : ¬ (9223372036854775807 < D.size + S.size) := by omega
  clear hss
  go_enter Tryd.func103, Tryd.ntmps103
  go_wp2_with fail
  refine (HH.out _).mono ?_
  rintro e w2 ⟨rfl, hb2⟩
  go_wp2_with fail
  go_ret
  exact ⟨by rw [← HR.out]; try rfl, hb2⟩
end Go.Proofs.YtjpdhenmhffmeaaDoor
