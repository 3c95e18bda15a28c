/- The specification's reading of a number: contract. -/
import Derived.Test.YtipmckdlnipgkaaGreatDoorSRb
import Derived.Lib.BitFns
namespace Go.Proofs.YtipmckdlnipgkaaGreatDoor
open Go.RowKit Go.Sort
set_option linter.unusedVariables false
def NumP (s : List UInt8) (n : Int) : Prop := inI n ∧ (∀ m, m ≤ 200 → s = Lib.decDigits m → n = (m : Int)) ∧ (s = [] → n = 0)
theorem NumP.none {s : List UInt8} (h : ∀ m, m ≤ 200 → s ≠ Lib.decDigits m) : NumP s 0 := ⟨⟨by decide, by decide⟩, fun m hm e => absurd e (h m hm), fun _ => rfl⟩
def NumE (s : List UInt8) (e : Ending) : Prop := ∃ n b, e = .returned (.tuple #[.int .i64 n, .bool b]) ∧ NumP s n
theorem NumE.mk {s : List UInt8} {n : Int} {b : Bool} (h : NumP s n) : NumE s (.returned (.tuple #[.int .i64 n, .bool b])) := ⟨n, b, rfl, h⟩
theorem dv_snoc (l : List UInt8) (c : UInt8) : ∀ a, dv a (l ++ [c]) = 10 * dv a l + (c.toNat - 48) := by
  induction l with
  | nil => intro a; rfl
  | cons x r ih => intro a; exact ih _
theorem num_dash {s : ByteArray} (h0 : 0 < s.size) (h : s[0].toNat = 45) : ∀ m, m ≤ 200 → s.data.toList ≠ Lib.decDigits m := by
  intro m hm e
  have hl : 0 < s.data.toList.length := by rw [ba_len]; exact h0
  have := (okN_of hm).2.1 (s.data.toList[0]'hl) (by rw [← e]; exact List.getElem_mem _)
  rw [ba_get s 0 h0] at this
  omega
theorem num_long {s : ByteArray} (h : s.size < 1 ∨ 3 < s.size) : ∀ m, m ≤ 200 → s.data.toList ≠ Lib.decDigits m := by
  intro m hm e
  have h1 := (okN_of hm).2.2.2
  rw [← e, ba_len] at h1
  omega
theorem num_nought {s : ByteArray} (h0 : 1 < s.size) (h : s[0].toNat = 48) : ∀ m, m ≤ 200 → s.data.toList ≠ Lib.decDigits m := by
  intro m hm e
  have h1 := (okN_of hm).2.2.2.2.2
  rw [← e, ba_len] at h1
  have hl : 0 < s.data.toList.length := by rw [ba_len]; omega
  have := h1 (by
    rw [List.head?_eq_getElem?, List.getElem?_eq_getElem hl, ba_get s 0 (by omega)]
    congr 1
    apply UInt8.toNat_inj.1
    rw [h]; rfl)
  omega
theorem num_dig {s : ByteArray} {j : Nat} (hj : j < s.size) (h : s[j].toNat < 48 ∨ 57 < s[j].toNat) : ∀ m, m ≤ 200 → s.data.toList ≠ Lib.decDigits m := by
  intro m hm e
  have hl : j < s.data.toList.length := by rw [ba_len]; exact hj
  have := (okN_of hm).2.1 (s.data.toList[j]'hl) (by rw [← e]; exact List.getElem_mem _)
  rw [ba_get s j hj] at this
  omega
/-- The digits so far. -/
structure DgInv (t : ByteArray) (j n : Nat) : Prop where
  dig : ∀ c ∈ t.data.toList.take j, c.toNat ≤ 57
  val : n = dv 0 (t.data.toList.take j)
  lt : n < 10 ^ j
theorem DgInv.zero (t : ByteArray) : DgInv t 0 0 := by
  refine ⟨?_, ?_, ?_⟩
  · intro c hc; simp at hc
  · rfl
  · exact Nat.one_pos
theorem DgInv.next {t : ByteArray} {j n : Nat} (h : DgInv t j n) (hj : j < t.size) (h1 : 48 ≤ t[j].toNat) (h2 : t[j].toNat ≤ 57) : DgInv t (j + 1) (10 * n + (t[j].toNat - 48)) := by
  have hl : j < t.data.toList.length := by rw [ba_len]; exact hj
  refine ⟨?_, ?_, ?_⟩
  · rw [List.take_succ_eq_append_getElem hl]
    intro c hc
    rcases List.mem_append.1 hc with hc | hc
    · exact h.dig c hc
    · simp only [List.mem_singleton] at hc; rw [hc, ba_get t j hj]; exact h2
  · rw [List.take_succ_eq_append_getElem hl, dv_snoc, ← h.val, ba_get t j hj]
  · have := h.lt; rw [Nat.pow_succ]; omega
theorem inI_wrap (x : Int) : inI (IntKind.i64.wrap x) := by
  unfold inI
  rw [IntKind.wrap_i64]
  omega
theorem inI_wrap64 (x : Int) : inI (wrap64 x) := by
  unfold inI wrap64
  omega
set_option maxRecDepth 100000 in
set_option maxHeartbeats 4000000 in
theorem l1Num_dash (s : ByteArray) (w : World) (hs : s.size ≤ 1048576) (h0 : 1 < s.size) (h45 : s[0].toNat = 45) : Calls Tryz.prog 98 #[.string s] w fun e w' => NumE s.data.toList e ∧ Below w.heap.size w w' := by
  have HF : Hid (NumP s.data.toList 0) := NumP.none (num_dash (by omega) h45)
  have HG : Hid (∀ n, inI n → NumP s.data.toList n) := fun n hn => ⟨hn, fun m hm e => absurd e (num_dash (by omega) h45 m hm), fun e => by have := ba_len s; rw [e] at this; simp at this; omega⟩
  have hq : ((s[0].toNat : Int) == 45) = true := by simp [h45]
  have hts : (s.extract 1 s.size).size = s.size - 1 := by simp
  obtain ⟨t, ht⟩ : ∃ t, s.extract 1 s.size = t := ⟨_, rfl⟩
  obtain ⟨T, hT⟩ : ∃ T, s.size - 1 = T := ⟨_, rfl⟩
  rw [ht, hT] at hts
  have h1' : (1 : Int) < (s.size : Int) := by omega
  have hT1 : 1 ≤ T := by omega
  have hTs : T < s.size := by omega
  have hdT : decide (T < s.size) = true := by simp [hTs]
  have hA1 : decide ((T : Int) < 1) = false := by simp; omega
  clear h45 hT
  by_cases h19 : 19 < T
  · have hB1 : decide (19 < (T : Int)) = true := by simp; omega
    go_enter Tryz.func98, Tryz.ntmps98
    go_wp2_with fail
    go_ret2
    exact ⟨NumE.mk HF.out, Below.refl _ _⟩
  · have ht0 : 0 < t.size := by omega
    have hB1 : decide (19 < (T : Int)) = false := by simp; omega
    by_cases h48 : t[0].toNat = 48
    · have hq2 : ((t[0].toNat : Int) == 48) = true := by simp [h48]
      clear h48
      go_enter Tryz.func98, Tryz.ntmps98
      go_wp2_with fail
      all_goals
        go_ret2
        exact ⟨NumE.mk HF.out, Below.refl _ _⟩
    · have hq2 : ((t[0].toNat : Int) == 48) = false := by simp; omega
      clear h48
      go_enter Tryz.func98, Tryz.ntmps98
      go_wp2_with fail
      go_loopg [6, 7] T (fun gk nv iv wr => ∃ j n : Nat, j + gk = T ∧ iv = .int .i64 j ∧ nv = .int .u64 n ∧ DgInv t j n ∧ wr = w)
      case atStart => exact ⟨0, 0, by omega, rfl, rfl, DgInv.zero _, rfl⟩
      case round =>
        obtain ⟨j, n, hj', rfl, rfl, hdg, hw⟩ := hrel
        subst hw
        have HJ : Hid (j + gk = T) := hj'
        have HD : Hid (DgInv t j n) := hdg
        have hj : j ≤ T := by omega
        have hn : n < 10000000000000000000 := by
          have h1 := hdg.lt
          have h2 : 10 ^ j ≤ 10 ^ 19 := Nat.pow_le_pow_right (by decide) (by omega)
          have h3 : (10 : Nat) ^ 19 = 10000000000000000000 := by decide
          omega
        clear hj'
        by_cases hlt : j < T
        · have hjt : j < t.size := by omega
          have hn1 : n < 1000000000000000000 := by
            have h1 := hdg.lt
            have h2 : 10 ^ j ≤ 10 ^ 18 := Nat.pow_le_pow_right (by decide) (by omega)
            have h3 : (10 : Nat) ^ 18 = 1000000000000000000 := by decide
            omega
          have hb := t[j].toNat_lt
          by_cases hb1 : t[j].toNat < 48
          · have HF2 : Hid (NumP s.data.toList 0) := HF.out
            have hq : decide ((t[j].toNat : Int) < 48) = true := by simp; omega
            clear hdg
            go_wp2_with fail
            go_ret2
            exact ⟨NumE.mk HF2.out, Below.refl _ _⟩
          · by_cases hb2 : 57 < t[j].toNat
            · have HF2 : Hid (NumP s.data.toList 0) := HF.out
              have hq : decide ((t[j].toNat : Int) < 48) = false := by simp; omega
              have hq2 : decide (57 < (t[j].toNat : Int)) = true := by simp; omega
              clear hdg
              go_wp2_with fail
              go_ret2
              exact ⟨NumE.mk HF2.out, Below.refl _ _⟩
            · have HN : Hid (DgInv t (j + 1) (10 * n + (t[j].toNat - 48))) := hdg.next hjt (by omega) (by omega)
              have hq : decide ((t[j].toNat : Int) < 48) = false := by simp; omega
              have hq2 : decide (57 < (t[j].toNat : Int)) = false := by simp; omega
              clear hdg
              go_wp2_with fail
              go_roundg (gk - 1)
              case rel => exact ⟨j + 1, _, by have := HJ.out; omega, by go_num, by go_num, HN.out, rfl⟩
              case measure => have := HJ.out; omega
        · have ej : j = T := by omega
          have HE : Hid (n = dv 0 t.data.toList) := by
            show _ = _
            rw [HD.out.val, List.take_of_length_le (by rw [ba_len]; omega)]
          clear hdg hj hlt
          subst ej
          by_cases hbig : 9223372036854775808 < n
          · have hq3 : decide (9223372036854775808 < (n : Int)) = true := by simp; omega
            go_wp2_with fail
            go_ret2
            exact ⟨NumE.mk HF.out, Below.refl _ _⟩
          · have hq3 : decide (9223372036854775808 < (n : Int)) = false := by simp; omega
            go_wp2_with fail
            go_ret2
            exact ⟨NumE.mk (HG.out _ (inI_wrap64 _)), Below.refl _ _⟩
set_option maxRecDepth 100000 in
set_option maxHeartbeats 4000000 in
theorem l1Num_none (s : ByteArray) (w : World) (hs : s.size ≤ 1048576) (hd : ∀ h0 : 1 < s.size, s[0].toNat ≠ 45) (hr : s.size < 1 ∨ 19 < s.size ∨ ∃ h0 : 1 < s.size, s[0].toNat = 48) : Calls Tryz.prog 98 #[.string s] w fun e w' => NumE s.data.toList e ∧ Below w.heap.size w w' := by
  have HF : Hid (NumP s.data.toList 0) := by
    rcases hr with h | h | ⟨h0, h⟩
    · exact NumP.none (num_long (by omega))
    · exact NumP.none (num_long (by omega))
    · exact NumP.none (num_nought h0 h)
  by_cases h1 : 1 < s.size
  · have hq : ((s[0].toNat : Int) == 45) = false := by have := hd h1; simp; omega
    have hA1 : decide ((s.size : Int) < 1) = false := by simp; omega
    by_cases h19 : 19 < s.size
    · have hB1 : decide (19 < (s.size : Int)) = true := by simp; omega
      clear hr hd
      go_enter Tryz.func98, Tryz.ntmps98
      go_wp2_with fail
      go_ret2
      exact ⟨NumE.mk HF.out, Below.refl _ _⟩
    · have h48 : s[0].toNat = 48 := by
        rcases hr with h | h | ⟨h0, h⟩
        · omega
        · omega
        · exact h
      have hq2 : ((s[0].toNat : Int) == 48) = true := by simp [h48]
      have hB1 : decide (19 < (s.size : Int)) = false := by simp; omega
      have hB2 : decide (1 < (s.size : Int)) = true := by simp; omega
      clear hr hd h48
      go_enter Tryz.func98, Tryz.ntmps98
      go_wp2_with fail
      go_ret2
      exact ⟨NumE.mk HF.out, Below.refl _ _⟩
  · have h0 : s.size = 0 := by
      rcases hr with h | h | ⟨h0, h⟩
      · omega
      · omega
      · omega
    clear hr hd
    go_enter Tryz.func98, Tryz.ntmps98
    go_wp2_with fail
    go_ret2
    exact ⟨NumE.mk HF.out, Below.refl _ _⟩
set_option maxRecDepth 100000 in
set_option maxHeartbeats 4000000 in
theorem l1Num_plain (s : ByteArray) (w : World) (h0 : 1 ≤ s.size) (h19 : s.size ≤ 19) (hd : ∀ h0 : 1 < s.size, s[0].toNat ≠ 45) (hz : ∀ h0 : 1 < s.size, s[0].toNat ≠ 48) : Calls Tryz.prog 98 #[.string s] w fun e w' => NumE s.data.toList e ∧ Below w.heap.size w w' := by
  by_cases h1 : 1 < s.size
  · have hq : ((s[0].toNat : Int) == 45) = false := by have := hd h1; simp; omega
    have hq2 : ((s[0].toNat : Int) == 48) = false := by have := hz h1; simp; omega
    have hA1 : decide ((s.size : Int) < 1) = false := by simp; omega
    have hB1 : decide (19 < (s.size : Int)) = false := by simp; omega
    clear hd hz
    go_enter Tryz.func98, Tryz.ntmps98
    go_wp2_with fail
    go_loopg [6, 7] s.size (fun gk nv iv wr => ∃ j n : Nat, j + gk = s.size ∧ iv = .int .i64 j ∧ nv = .int .u64 n ∧ DgInv s j n ∧ wr = w)
    case atStart => exact ⟨0, 0, by omega, rfl, rfl, DgInv.zero _, rfl⟩
    case round =>
      obtain ⟨j, n, hj', rfl, rfl, hdg, hw⟩ := hrel
      subst hw
      have HJ : Hid (j + gk = s.size) := hj'
      have HD : Hid (DgInv s j n) := hdg
      have hj : j ≤ s.size := by omega
      have hn : n < 10000000000000000000 := by
        have h1 := hdg.lt
        have h2 : 10 ^ j ≤ 10 ^ 19 := Nat.pow_le_pow_right (by decide) (by omega)
        have h3 : (10 : Nat) ^ 19 = 10000000000000000000 := by decide
        omega
      clear hj'
      by_cases hlt : j < s.size
      · have hjt : j < s.size := by omega
        have hn1 : n < 1000000000000000000 := by
          have h1 := hdg.lt
          have h2 : 10 ^ j ≤ 10 ^ 18 := Nat.pow_le_pow_right (by decide) (by omega)
          have h3 : (10 : Nat) ^ 18 = 1000000000000000000 := by decide
          omega
        have hb := s[j].toNat_lt
        by_cases hb1 : s[j].toNat < 48
        · have HF2 : Hid (NumP s.data.toList 0) := NumP.none (num_dig hjt (.inl hb1))
          have hq : decide ((s[j].toNat : Int) < 48) = true := by simp; omega
          clear hdg
          go_wp2_with fail
          go_ret2
          exact ⟨NumE.mk HF2.out, Below.refl _ _⟩
        · by_cases hb2 : 57 < s[j].toNat
          · have HF2 : Hid (NumP s.data.toList 0) := NumP.none (num_dig hjt (.inr hb2))
            have hq : decide ((s[j].toNat : Int) < 48) = false := by simp; omega
            have hq2 : decide (57 < (s[j].toNat : Int)) = true := by simp; omega
            clear hdg
            go_wp2_with fail
            go_ret2
            exact ⟨NumE.mk HF2.out, Below.refl _ _⟩
          · have HN : Hid (DgInv s (j + 1) (10 * n + (s[j].toNat - 48))) := hdg.next hjt (by omega) (by omega)
            have hq : decide ((s[j].toNat : Int) < 48) = false := by simp; omega
            have hq2 : decide (57 < (s[j].toNat : Int)) = false := by simp; omega
            clear hdg
            go_wp2_with fail
            go_roundg (gk - 1)
            case rel => exact ⟨j + 1, _, by have := HJ.out; omega, by go_num, by go_num, HN.out, rfl⟩
            case measure => have := HJ.out; omega
      · have ej : j = s.size := by omega
        have HE : Hid (n = dv 0 s.data.toList) := by
          show _ = _
          rw [HD.out.val, List.take_of_length_le (by rw [ba_len]; omega)]
        clear hdg hj hlt
        subst ej
        by_cases hbig : 9223372036854775808 ≤ n
        · have HF2 : Hid (NumP s.data.toList 0) := NumP.none (fun m hm e => by
            have h1 := (okN_of hm).2.2.1
            rw [← e, ← HE.out] at h1
            omega)
          have hq3 : decide (9223372036854775808 ≤ (n : Int)) = true := by simp; omega
          clear hbig
          go_wp2_with fail
          go_ret2
          exact ⟨NumE.mk HF2.out, Below.refl _ _⟩
        · have HF2 : Hid (NumP s.data.toList (n : Int)) := ⟨⟨by omega, by omega⟩, fun m hm e => by
            have h1 := (okN_of hm).2.2.1
            rw [← e, ← HE.out] at h1
            omega, fun e => by have := ba_len s; rw [e] at this; simp at this; omega⟩
          have hq3 : decide (9223372036854775808 ≤ (n : Int)) = false := by simp; omega
          have HW : Hid (wrap64 (n : Int) = (n : Int)) := by show _ = _; unfold wrap64; omega
          clear hbig
          go_wp2_with fail
          go_ret2
          rw [HW.out]
          exact ⟨NumE.mk HF2.out, Below.refl _ _⟩
  · have e1 : s.size = 1 := by omega
    have hd1 : decide (1 < (s.size : Int)) = false := by simp; omega
    have hA1 : decide ((s.size : Int) < 1) = false := by simp; omega
    have hB1 : decide (19 < (s.size : Int)) = false := by simp; omega
    clear hd hz
    by_cases h48 : s[0].toNat = 48
    · have hq2 : ((s[0].toNat : Int) == 48) = true := by simp [h48]
      clear h48
      go_enter Tryz.func98, Tryz.ntmps98
      go_wp2_with fail
      go_loopg [6, 7] s.size (fun gk nv iv wr => ∃ j n : Nat, j + gk = s.size ∧ iv = .int .i64 j ∧ nv = .int .u64 n ∧ DgInv s j n ∧ wr = w)
      case atStart => exact ⟨0, 0, by omega, rfl, rfl, DgInv.zero _, rfl⟩
      case round =>
        obtain ⟨j, n, hj', rfl, rfl, hdg, hw⟩ := hrel
        subst hw
        have HJ : Hid (j + gk = s.size) := hj'
        have HD : Hid (DgInv s j n) := hdg
        have hj : j ≤ s.size := by omega
        have hn : n < 10000000000000000000 := by
          have h1 := hdg.lt
          have h2 : 10 ^ j ≤ 10 ^ 19 := Nat.pow_le_pow_right (by decide) (by omega)
          have h3 : (10 : Nat) ^ 19 = 10000000000000000000 := by decide
          omega
        clear hj'
        by_cases hlt : j < s.size
        · have hjt : j < s.size := by omega
          have hn1 : n < 1000000000000000000 := by
            have h1 := hdg.lt
            have h2 : 10 ^ j ≤ 10 ^ 18 := Nat.pow_le_pow_right (by decide) (by omega)
            have h3 : (10 : Nat) ^ 18 = 1000000000000000000 := by decide
            omega
          have hb := s[j].toNat_lt
          by_cases hb1 : s[j].toNat < 48
          · have HF2 : Hid (NumP s.data.toList 0) := NumP.none (num_dig hjt (.inl hb1))
            have hq : decide ((s[j].toNat : Int) < 48) = true := by simp; omega
            clear hdg
            go_wp2_with fail
            go_ret2
            exact ⟨NumE.mk HF2.out, Below.refl _ _⟩
          · by_cases hb2 : 57 < s[j].toNat
            · have HF2 : Hid (NumP s.data.toList 0) := NumP.none (num_dig hjt (.inr hb2))
              have hq : decide ((s[j].toNat : Int) < 48) = false := by simp; omega
              have hq2 : decide (57 < (s[j].toNat : Int)) = true := by simp; omega
              clear hdg
              go_wp2_with fail
              go_ret2
              exact ⟨NumE.mk HF2.out, Below.refl _ _⟩
            · have HN : Hid (DgInv s (j + 1) (10 * n + (s[j].toNat - 48))) := hdg.next hjt (by omega) (by omega)
              have hq : decide ((s[j].toNat : Int) < 48) = false := by simp; omega
              have hq2 : decide (57 < (s[j].toNat : Int)) = false := by simp; omega
              clear hdg
              go_wp2_with fail
              go_roundg (gk - 1)
              case rel => exact ⟨j + 1, _, by have := HJ.out; omega, by go_num, by go_num, HN.out, rfl⟩
              case measure => have := HJ.out; omega
        · have ej : j = s.size := by omega
          have HE : Hid (n = dv 0 s.data.toList) := by
            show _ = _
            rw [HD.out.val, List.take_of_length_le (by rw [ba_len]; omega)]
          clear hdg hj hlt
          subst ej
          by_cases hbig : 9223372036854775808 ≤ n
          · have HF2 : Hid (NumP s.data.toList 0) := NumP.none (fun m hm e => by
              have h1 := (okN_of hm).2.2.1
              rw [← e, ← HE.out] at h1
              omega)
            have hq3 : decide (9223372036854775808 ≤ (n : Int)) = true := by simp; omega
            clear hbig
            go_wp2_with fail
            go_ret2
            exact ⟨NumE.mk HF2.out, Below.refl _ _⟩
          · have HF2 : Hid (NumP s.data.toList (n : Int)) := ⟨⟨by omega, by omega⟩, fun m hm e => by
              have h1 := (okN_of hm).2.2.1
              rw [← e, ← HE.out] at h1
              omega, fun e => by have := ba_len s; rw [e] at this; simp at this; omega⟩
            have hq3 : decide (9223372036854775808 ≤ (n : Int)) = false := by simp; omega
            have HW : Hid (wrap64 (n : Int) = (n : Int)) := by show _ = _; unfold wrap64; omega
            clear hbig
            go_wp2_with fail
            go_ret2
            rw [HW.out]
            exact ⟨NumE.mk HF2.out, Below.refl _ _⟩
    · have hq2 : ((s[0].toNat : Int) == 48) = false := by simp; omega
      clear h48
      go_enter Tryz.func98, Tryz.ntmps98
      go_wp2_with fail
      go_loopg [6, 7] s.size (fun gk nv iv wr => ∃ j n : Nat, j + gk = s.size ∧ iv = .int .i64 j ∧ nv = .int .u64 n ∧ DgInv s j n ∧ wr = w)
      case atStart => exact ⟨0, 0, by omega, rfl, rfl, DgInv.zero _, rfl⟩
      case round =>
        obtain ⟨j, n, hj', rfl, rfl, hdg, hw⟩ := hrel
        subst hw
        have HJ : Hid (j + gk = s.size) := hj'
        have HD : Hid (DgInv s j n) := hdg
        have hj : j ≤ s.size := by omega
        have hn : n < 10000000000000000000 := by
          have h1 := hdg.lt
          have h2 : 10 ^ j ≤ 10 ^ 19 := Nat.pow_le_pow_right (by decide) (by omega)
          have h3 : (10 : Nat) ^ 19 = 10000000000000000000 := by decide
          omega
        clear hj'
        by_cases hlt : j < s.size
        · have hjt : j < s.size := by omega
          have hn1 : n < 1000000000000000000 := by
            have h1 := hdg.lt
            have h2 : 10 ^ j ≤ 10 ^ 18 := Nat.pow_le_pow_right (by decide) (by omega)
            have h3 : (10 : Nat) ^ 18 = 1000000000000000000 := by decide
            omega
          have hb := s[j].toNat_lt
          by_cases hb1 : s[j].toNat < 48
          · have HF2 : Hid (NumP s.data.toList 0) := NumP.none (num_dig hjt (.inl hb1))
            have hq : decide ((s[j].toNat : Int) < 48) = true := by simp; omega
            clear hdg
            go_wp2_with fail
            go_ret2
            exact ⟨NumE.mk HF2.out, Below.refl _ _⟩
          · by_cases hb2 : 57 < s[j].toNat
            · have HF2 : Hid (NumP s.data.toList 0) := NumP.none (num_dig hjt (.inr hb2))
              have hq : decide ((s[j].toNat : Int) < 48) = false := by simp; omega
              have hq2 : decide (57 < (s[j].toNat : Int)) = true := by simp; omega
              clear hdg
              go_wp2_with fail
              go_ret2
              exact ⟨NumE.mk HF2.out, Below.refl _ _⟩
            · have HN : Hid (DgInv s (j + 1) (10 * n + (s[j].toNat - 48))) := hdg.next hjt (by omega) (by omega)
              have hq : decide ((s[j].toNat : Int) < 48) = false := by simp; omega
              have hq2 : decide (57 < (s[j].toNat : Int)) = false := by simp; omega
              clear hdg
              go_wp2_with fail
              go_roundg (gk - 1)
              case rel => exact ⟨j + 1, _, by have := HJ.out; omega, by go_num, by go_num, HN.out, rfl⟩
              case measure => have := HJ.out; omega
        · have ej : j = s.size := by omega
          have HE : Hid (n = dv 0 s.data.toList) := by
            show _ = _
            rw [HD.out.val, List.take_of_length_le (by rw [ba_len]; omega)]
          clear hdg hj hlt
          subst ej
          by_cases hbig : 9223372036854775808 ≤ n
          · have HF2 : Hid (NumP s.data.toList 0) := NumP.none (fun m hm e => by
              have h1 := (okN_of hm).2.2.1
              rw [← e, ← HE.out] at h1
              omega)
            have hq3 : decide (9223372036854775808 ≤ (n : Int)) = true := by simp; omega
            clear hbig
            go_wp2_with fail
            go_ret2
            exact ⟨NumE.mk HF2.out, Below.refl _ _⟩
          · have HF2 : Hid (NumP s.data.toList (n : Int)) := ⟨⟨by omega, by omega⟩, fun m hm e => by
              have h1 := (okN_of hm).2.2.1
              rw [← e, ← HE.out] at h1
              omega, fun e => by have := ba_len s; rw [e] at this; simp at this; omega⟩
            have hq3 : decide (9223372036854775808 ≤ (n : Int)) = false := by simp; omega
            have HW : Hid (wrap64 (n : Int) = (n : Int)) := by show _ = _; unfold wrap64; omega
            clear hbig
            go_wp2_with fail
            go_ret2
            rw [HW.out]
            exact ⟨NumE.mk HF2.out, Below.refl _ _⟩
theorem l1Num_any (s : ByteArray) (w : World) (hs : s.size ≤ 1048576) : Calls Tryz.prog 98 #[.string s] w fun e w' => NumE s.data.toList e ∧ Below w.heap.size w w' := by
  by_cases hd : ∃ h0 : 1 < s.size, s[0].toNat = 45
  · obtain ⟨h0, h45⟩ := hd
    exact l1Num_dash s w hs h0 h45
  · have hd' : ∀ h0 : 1 < s.size, s[0].toNat ≠ 45 := fun h0 h => hd ⟨h0, h⟩
    by_cases hr : s.size < 1 ∨ 19 < s.size ∨ ∃ h0 : 1 < s.size, s[0].toNat = 48
    · exact l1Num_none s w hs hd' hr
    · exact l1Num_plain s w (by omega) (by omega) hd' (fun h0 h => hr (.inr (.inr ⟨h0, h⟩)))
end Go.Proofs.YtipmckdlnipgkaaGreatDoor
