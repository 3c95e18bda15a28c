/- Bitcoin's numbers read: contracts. -/
import Derived.Test.YtmegoiggchghpapL1f
import Derived.Deep.RegionWith
namespace Go.Proofs.Ytmegoiggchghpap
open Go.RowKit
set_option linter.unusedVariables false
/-- Does a list begin with that? -/
def ahead (l t : List UInt8) : Bool := l.take t.length == t
theorem l1Ahead_any (s t : ByteArray) (w : World) (hs : s.size ≤ 1048576) (ht : t.size ≤ 1048576) : Calls Try.prog 8 #[.string s, .string t] w fun e w' => e = .returned (.bool (ahead s.data.toList t.data.toList)) ∧ w' = w := by
  have hl : s.data.toList.length = s.size := Array.length_toList
  have hlt : t.data.toList.length = t.size := Array.length_toList
  by_cases h : t.size ≤ s.size
  · have e : ahead s.data.toList t.data.toList = ((s.extract 0 t.size).toList == t.toList) := by
      unfold ahead
      rw [hlt, ByteArray.toList_eq, ByteArray.toList_eq, Lib.extract_data]
      simp
    rw [e]
    clear e hl hlt
    go_enter Try.func8, Try.ntmps8
    go_wp2
    go_ret
    exact ⟨rfl, rfl⟩
  · have e : ahead s.data.toList t.data.toList = false := by
      unfold ahead
      rw [beq_eq_false_iff_ne]
      intro h1
      have := congrArg List.length h1
      rw [List.length_take, hl, hlt] at this
      omega
    rw [e]
    clear e hl hlt
    go_enter Try.func8, Try.ntmps8
    go_wp2
    go_ret
    exact ⟨rfl, rfl⟩
theorem l1Ahead_list (s : ByteArray) (l : List UInt8) (w : World) (hs : s.size ≤ 1048576) (ht : l.length ≤ 1000) : Calls Try.prog 8 #[.string s, .string ⟨l.toArray⟩] w fun e w' => e = .returned (.bool (ahead s.data.toList l)) ∧ w' = w :=
  l1Ahead_any s ⟨l.toArray⟩ w hs (by simp [ByteArray.size]; omega)
theorem below_step {w W w3 : World} (h1 : Below w.heap.size w W) (h2 : Below W.heap.size W w3) : Below w.heap.size w w3 := h1.trans (h2.mono h1.size)
theorem leV_lt_k (s : ByteArray) (k : Nat) (h : k ≤ s.size) : leV (s.data.toList.take k) < 2 ^ (8 * k) := by
  have := leV_lt (s.data.toList.take k)
  rwa [lenTake s k h] at this
/-- What stands behind the first byte, in k bytes: at least so much. -/
def behind (r : List UInt8) (k least : Nat) : Nat × Nat × Bool := if k ≤ r.length ∧ least ≤ leV (r.take k) then (leV (r.take k), 1 + k, true) else (0, 0, false)
theorem tail_data (s : ByteArray) : (s.extract 1 s.size).data.toList = s.data.toList.tail := by
  rw [Lib.extract_data, List.take_of_length_le (by rw [List.length_drop, Array.length_toList]; exact Nat.le_refl _), List.drop_one]
theorem tail_size (s : ByteArray) : (s.extract 1 s.size).size = s.size - 1 := by
  have : (s.extract 1 s.size).data.toList.length = (s.extract 1 s.size).size := Array.length_toList
  rw [← this, tail_data, List.length_tail, Array.length_toList]; rfl
def getSize : List UInt8 → Nat × Nat × Bool
  | [] => (0, 0, false)
  | b :: r => if b.toNat < 253 then (b.toNat, 1, true) else if b.toNat = 253 then behind r 2 253 else if b.toNat = 254 then behind r 4 65536 else behind r 8 4294967296
theorem data_cons (s : ByteArray) (h : 0 < s.size) : s.data.toList = s[0] :: s.data.toList.tail := by
  have := drop_cons s 0 h
  rw [List.drop_zero, Nat.zero_add, List.drop_one] at this
  exact this
theorem data_nil (s : ByteArray) (h : ¬ 0 < s.size) : s.data.toList = [] := List.eq_nil_of_length_eq_zero (by rw [Array.length_toList]; exact Nat.eq_zero_of_not_pos h)
theorem isEmpty_no (s : ByteArray) (h : 0 < s.size) : s.toList.isEmpty = false := by rw [ByteArray.toList_eq, data_cons s h]; rfl
theorem isEmpty_yes (s : ByteArray) (h : ¬ 0 < s.size) : s.toList.isEmpty = true := by rw [ByteArray.toList_eq, data_nil s h]; rfl
theorem leL_cons (n k : Nat) : leL n (k + 1) = UInt8.ofNat n :: leL (n / 256) k := by
  unfold leL
  rw [List.range_succ_eq_map, List.map_cons, List.map_map]
  congr 1
  · simp [byt]
  · apply List.map_congr_left
    intro i _
    simp only [Function.comp, byt]
    rw [show 8 * (i + 1) = 8 + 8 * i from by omega, Nat.pow_add, ← Nat.div_div_eq_div_mul]
theorem leL_leV : ∀ l : List UInt8, leL (leV l) l.length = l
  | [] => rfl
  | b :: l => by
    have hb := b.toNat_lt
    rw [List.length_cons, leL_cons]
    simp only [leV]
    rw [show (b.toNat + 256 * leV l) / 256 = leV l from by omega, leL_leV l]
    congr 1
    apply UInt8.toNat_inj.1
    rw [UInt8.toNat_ofNat']
    omega
theorem leL_take (l : List UInt8) (k : Nat) (h : k ≤ l.length) : leL (leV (l.take k)) k = l.take k := by
  have := leL_leV (l.take k)
  rwa [List.length_take, Nat.min_eq_left h] at this
theorem leV_take_lt (l : List UInt8) (k : Nat) (h : k ≤ l.length) : leV (l.take k) < 2 ^ (8 * k) := by
  have := leV_lt (l.take k)
  rwa [List.length_take, Nat.min_eq_left h] at this
theorem ahead_ne (b c : UInt8) (l t : List UInt8) (h : b ≠ c) : ahead (b :: l) (c :: t) = false := by
  unfold ahead
  rw [beq_eq_false_iff_ne, List.length_cons, List.take_succ_cons]
  intro h1
  exact h (List.cons.inj h1).1
theorem ahead_yes (b : UInt8) (r : List UInt8) (k : Nat) (h : k ≤ r.length) : ahead (b :: r) (b :: r.take k) = true := by
  unfold ahead
  rw [beq_iff_eq, List.length_cons, List.take_succ_cons, List.length_take, Nat.min_eq_left h]
theorem putSize_len (n : Nat) : (putSize n).length ≤ 9 := by
  unfold putSize
  repeat' split
  all_goals simp [leL_len]
theorem putSize_head (n : Nat) (b : UInt8) (r : List UInt8) (hb : 253 ≤ b.toNat) (hk : (b.toNat = 253 ∧ n < 253) ∨ (b.toNat = 254 ∧ n < 65536) ∨ (b.toNat = 255 ∧ n < 4294967296)) : ahead (b :: r) (putSize n) = false := by
  have hne : ∀ c : UInt8, c.toNat ≠ b.toNat → b ≠ c := fun c hc h => hc (by rw [h])
  unfold putSize
  by_cases h1 : n < 253
  · rw [if_pos h1, leL_cons]
    refine ahead_ne _ _ _ _ (hne _ ?_)
    rw [UInt8.toNat_ofNat']
    omega
  · rw [if_neg h1]
    by_cases h2 : n < 65536
    · rw [if_pos h2]
      refine ahead_ne _ _ _ _ (hne _ ?_)
      show 253 ≠ b.toNat
      omega
    · rw [if_neg h2, if_pos (by omega)]
      refine ahead_ne _ _ _ _ (hne _ ?_)
      show 254 ≠ b.toNat
      omega
theorem putSize_253 (b : UInt8) (r : List UInt8) (hb : b.toNat = 253) (hk : 2 ≤ r.length) (hle : 253 ≤ leV (r.take 2)) : putSize (leV (r.take 2)) = b :: r.take 2 := by
  have h1 : leV (r.take 2) < 65536 := leV_take_lt r 2 hk
  have hb' : b = 253 := UInt8.toNat_inj.1 hb
  have e := leL_take r 2 hk
  unfold putSize
  rw [if_neg (by omega)]
  rw [if_pos h1, e, hb']
theorem putSize_254 (b : UInt8) (r : List UInt8) (hb : b.toNat = 254) (hk : 4 ≤ r.length) (hle : 65536 ≤ leV (r.take 4)) : putSize (leV (r.take 4)) = b :: r.take 4 := by
  have h1 : leV (r.take 4) < 4294967296 := leV_take_lt r 4 hk
  have hb' : b = 254 := UInt8.toNat_inj.1 hb
  have e := leL_take r 4 hk
  unfold putSize
  rw [if_neg (by omega)]
  rw [if_neg (by omega), if_pos h1, e, hb']
theorem putSize_255 (b : UInt8) (r : List UInt8) (hb : b.toNat = 255) (hk : 8 ≤ r.length) (hle : 4294967296 ≤ leV (r.take 8)) : putSize (leV (r.take 8)) = b :: r.take 8 := by
  have h1 : leV (r.take 8) < 18446744073709551616 := leV_take_lt r 8 hk
  have hb' : b = 255 := UInt8.toNat_inj.1 hb
  have e := leL_take r 8 hk
  unfold putSize
  rw [if_neg (by omega)]
  rw [if_neg (by omega), if_neg (by omega), e, hb']
end Go.Proofs.Ytmegoiggchghpap
