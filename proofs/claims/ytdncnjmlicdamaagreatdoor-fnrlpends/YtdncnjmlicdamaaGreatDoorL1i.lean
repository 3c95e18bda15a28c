/- L1f, L1g, L1j, L1k, L1h, L1i: one text. -/
import Derived.Test.YtdncnjmlicdamaaGreatDoorL1e
import Derived.Deep.RegionWith
namespace Go.Proofs.YtdncnjmlicdamaaGreatDoor
open Go.RowKit
set_option linter.unusedVariables false
/-- A varint read from its i-th byte on, x being what was read. -/
def rd : Nat → Nat → List UInt8 → Nat × Nat × Bool
  | _, _, [] => (0, 0, false)
  | i, x, b :: l => if (i = 9 ∧ 2 ≤ b.toNat % 128) ∨ (10 ≤ i ∧ b.toNat % 128 ≠ 0) then (0, 0, false) else if 127 < b.toNat then rd (i + 1) (x + b.toNat % 128 * 2 ^ (7 * i)) l else if 0 < i ∧ b.toNat % 128 = 0 then (0, 0, false) else (x + b.toNat % 128 * 2 ^ (7 * i), i + 1, true)
def getVar (l : List UInt8) : Nat × Nat × Bool := rd 0 0 l
def tripV (x : Nat × Nat × Bool) : Value := .tuple #[.int .u64 x.1, .int .i64 x.2.1, .bool x.2.2]
theorem part_nat (b : UInt8) : IntKind.u64.wrap (bits BinOp.and IntKind.u8 (b.toNat : Int) 127) = ((b.toNat % 128 : Nat) : Int) := by
  have hb := b.toNat_lt
  have h := u8_and_nat b.toNat 127 (by omega) (by decide)
  rw [show ((127 : Nat) : Int) = 127 from rfl] at h
  have e : b.toNat &&& 127 = b.toNat % 128 := Nat.and_two_pow_sub_one_eq_mod b.toNat 7
  rw [h, e, IntKind.wrap_u64]
  omega
theorem drop_cons (s : ByteArray) (j : Nat) (h : j < s.size) : s.data.toList.drop j = s[j] :: s.data.toList.drop (j + 1) := by
  have h' : j < s.data.toList.length := by simpa using h
  rw [List.drop_eq_getElem_cons h']
  rfl
/-- A part that loses nothing: moved, moved back, joined. -/
theorem part_in (p j x : Nat) (hp : p < 128) (hj : j ≤ 9) (hx : x < 2 ^ (7 * j)) (hl : ¬ (j = 9 ∧ 2 ≤ p)) : p * 2 ^ (7 * j) < 18446744073709551616 ∧
    IntKind.u64.wrap ((p : Int) * 2 ^ (7 * j)) = ((p * 2 ^ (7 * j) : Nat) : Int) ∧ ((((p * 2 ^ (7 * j) : Nat) : Int) / 2 ^ (7 * j) != (p : Int)) = false) ∧
    bits .or .u64 (x : Int) ((p * 2 ^ (7 * j) : Nat) : Int) = ((x + p * 2 ^ (7 * j) : Nat) : Int) ∧ x + p * 2 ^ (7 * j) < 2 ^ (7 * (j + 1)) ∧ x + p * 2 ^ (7 * j) < 18446744073709551616 := by
  have hpos : 0 < 2 ^ (7 * j) := Nat.two_pow_pos _
  have hlt : (p + 1) * 2 ^ (7 * j) ≤ 18446744073709551616 := by
    by_cases h9 : j = 9
    · subst h9
      have hp1 : p + 1 ≤ 2 := by omega
      exact Nat.le_trans (Nat.mul_le_mul_right _ hp1) (by decide)
    · have hp1 : p + 1 ≤ 128 := by omega
      have h2 : 2 ^ (7 * j) ≤ 2 ^ 56 := Nat.pow_le_pow_right (by decide) (by omega)
      exact Nat.le_trans (Nat.mul_le_mul hp1 h2) (by decide)
  have hsum : (p + 1) * 2 ^ (7 * j) = p * 2 ^ (7 * j) + 2 ^ (7 * j) := by rw [Nat.add_mul, Nat.one_mul]
  have hpw : 2 ^ (7 * (j + 1)) = 128 * 2 ^ (7 * j) := by rw [show 7 * (j + 1) = 7 * j + 7 from by omega, Nat.pow_add, Nat.mul_comm]
  have h128 : (p + 1) * 2 ^ (7 * j) ≤ 128 * 2 ^ (7 * j) := Nat.mul_le_mul_right _ (by omega)
  have hdiv : p * 2 ^ (7 * j) / 2 ^ (7 * j) = p := Nat.mul_div_cancel _ hpos
  have hmod : p * 2 ^ (7 * j) % 2 ^ (7 * j) = 0 := Nat.mul_mod_left _ _
  have hj1 : p * 2 ^ (7 * j) ||| x = p * 2 ^ (7 * j) + x := nat_join (7 * j) _ x hmod hx
  refine ⟨by omega, ?_, ?_, ?_, by omega, by omega⟩
  · rw [show ((p : Int) * 2 ^ (7 * j)) = ((p * 2 ^ (7 * j) : Nat) : Int) from by simp, IntKind.wrap_u64]
    generalize p * 2 ^ (7 * j) = m at *
    omega
  · rw [show (((p * 2 ^ (7 * j) : Nat) : Int) / 2 ^ (7 * j)) = ((p * 2 ^ (7 * j) / 2 ^ (7 * j) : Nat) : Int) from by simp, hdiv]
    simp
  · rw [u64_or_nat _ _ (by omega) (by omega), Nat.or_comm, hj1, Nat.add_comm]
/-- One that does. -/
theorem part_out (p : Nat) (hp : p < 128) (h2 : 2 ≤ p) : (IntKind.u64.wrap ((p : Int) * 9223372036854775808) / 9223372036854775808 != (p : Int)) = true := by
  rw [IntKind.wrap_u64, bne_iff_ne]
  omega
theorem shl_far (j : Nat) (hj : 10 ≤ j) (X : Int) : Op.shift .shl .u64 X .i64 (7 * (j : Int)) = pure (.int .u64 0) := by
  rw [shift_shl_any _ _ _ _ (by omega), show min (7 * (j : Int)).toNat IntKind.u64.bits = 64 from by rw [show IntKind.u64.bits = 64 from rfl]; omega, IntKind.wrap_u64]
  congr 2
  rw [show (2 : Int) ^ 64 = 18446744073709551616 from by decide]
  omega
theorem shr_far (j : Nat) (hj : 10 ≤ j) : Op.shift .shr .u64 0 .i64 (7 * (j : Int)) = pure (.int .u64 0) := by
  rw [shift_shr_any _ _ _ _ (by omega)]
  simp
theorem or_zero_u64 (x : Nat) (h : x < 18446744073709551616) : bits .or .u64 (x : Int) 0 = (x : Int) := by
  have := u64_or_nat x 0 h (by decide)
  simpa using this
theorem rd_cons (i x : Nat) (b : UInt8) (l : List UInt8) : rd i x (b :: l) = if (i = 9 ∧ 2 ≤ b.toNat % 128) ∨ (10 ≤ i ∧ b.toNat % 128 ≠ 0) then (0, 0, false) else if 127 < b.toNat then rd (i + 1) (x + b.toNat % 128 * 2 ^ (7 * i)) l else if 0 < i ∧ b.toNat % 128 = 0 then (0, 0, false) else (x + b.toNat % 128 * 2 ^ (7 * i), i + 1, true) := by
  rw [rd]
theorem rd_ten : ∀ (l : List UInt8) (i x : Nat), 10 ≤ i → rd i x l = (0, 0, false)
  | [], _, _, _ => rfl
  | b :: l, i, x, h => by
    rw [rd_cons]
    by_cases hp : b.toNat % 128 = 0
    · rw [if_neg (by omega)]
      by_cases hb : 127 < b.toNat
      · rw [if_pos hb]; exact rd_ten l (i + 1) _ (by omega)
      · rw [if_neg hb, if_pos ⟨by omega, hp⟩]
    · rw [if_pos (.inr ⟨h, hp⟩)]
/-- What was read so far is what any number begins with that goes on behind it. -/
def Pre (l : List UInt8) (j x : Nat) : Prop := ∀ q, (1 ≤ q ∨ j = 0) → putVar (x + q * 2 ^ (7 * j)) = l.take j ++ varF (10 - j) q
theorem Pre.zero (l : List UInt8) : Pre l 0 0 := fun q _ => by simp [putVar]
theorem Pre.step (s : ByteArray) (j x : Nat) (hj : j < s.size) (h9 : j ≤ 9) (hb : 127 < s[j].toNat) (h : Pre s.data.toList j x) : Pre s.data.toList (j + 1) (x + s[j].toNat % 128 * 2 ^ (7 * j)) := by
  intro q hq
  have h256 := s[j].toNat_lt
  have e : x + s[j].toNat % 128 * 2 ^ (7 * j) + q * 2 ^ (7 * (j + 1)) = x + (s[j].toNat % 128 + 128 * q) * 2 ^ (7 * j) := by
    rw [show 7 * (j + 1) = 7 * j + 7 from by omega, Nat.pow_add, Nat.add_mul, ← Nat.add_assoc, show q * (2 ^ (7 * j) * 2 ^ 7) = 128 * q * 2 ^ (7 * j) from by
      rw [Nat.mul_comm (2 ^ (7 * j)), ← Nat.mul_assoc, Nat.mul_comm q]]
  rw [e, h (s[j].toNat % 128 + 128 * q) (.inl (by omega)), take_snoc s j hj, List.append_assoc]
  congr 1
  rw [show 10 - j = (10 - (j + 1)) + 1 from by omega, varF_big _ _ (by omega)]
  have e1 : (s[j].toNat % 128 + 128 * q) / 128 = q := by omega
  have e2 : vb (s[j].toNat % 128 + 128 * q) = s[j] := by
    unfold vb
    rw [show (s[j].toNat % 128 + 128 * q) % 128 + 128 = s[j].toNat from by omega]
    exact UInt8.ofNat_toNat
  rw [e1, e2]
  rfl
theorem varF_len : ∀ (f j n : Nat), n < 2 ^ (7 * j) → 1 ≤ j → (varF f n).length ≤ j
  | 0, j, n, _, hj => by simpa [varF] using hj
  | f + 1, j, n, h, hj => by
    by_cases hs : n < 128
    · rw [varF_small _ _ hs]; simpa using hj
    · rw [varF_big _ _ hs, List.length_cons]
      match j with
      | 0 => omega
      | 1 => omega
      | j + 2 =>
        have h2 : n / 128 < 2 ^ (7 * (j + 1)) := by
          rw [show 7 * (j + 2) = 7 * (j + 1) + 7 from by omega, Nat.pow_add] at h
          omega
        have := varF_len f (j + 1) (n / 128) h2 (by omega)
        omega
theorem part_out2 (p x : Nat) (hp : p < 128) (hx : x < 2 ^ (7 * 9)) : bits .or .u64 (x : Int) (IntKind.u64.wrap ((p : Int) * 9223372036854775808)) = ((x + p % 2 * 9223372036854775808 : Nat) : Int) := by
  have hx' : x < 9223372036854775808 := hx
  have e : IntKind.u64.wrap ((p : Int) * 9223372036854775808) = ((p % 2 * 9223372036854775808 : Nat) : Int) := by rw [IntKind.wrap_u64]; omega
  rw [e, u64_or_nat _ _ (by omega) (by omega), Nat.or_comm]
  have := nat_join 63 (p % 2 * 9223372036854775808) x (by rw [show (2 : Nat) ^ 63 = 9223372036854775808 from by decide]; omega) (by rw [show (2 : Nat) ^ 63 = 9223372036854775808 from by decide]; exact hx')
  rw [this, Nat.add_comm]
theorem cut_list (s : ByteArray) (k : Nat) : (s.extract 0 k).toList = s.data.toList.take k := by
  rw [ByteArray.toList_eq, Lib.extract_data]; simp
theorem lossy_ne (s : ByteArray) (x : Nat) (hlt : 9 < s.size) (hx : x < 2 ^ (7 * 9)) (hpre : Pre s.data.toList 9 x) (hb : ¬ 127 < s[9].toNat) (h2 : 2 ≤ s[9].toNat % 128) :
    putVar (x + s[9].toNat % 128 % 2 * 9223372036854775808) ≠ s.data.toList.take (9 + 1) := by
  intro h
  rcases (show s[9].toNat % 128 % 2 = 0 ∨ s[9].toNat % 128 % 2 = 1 from by omega) with e | e
  · rw [e, Nat.zero_mul, Nat.add_zero] at h
    have h1 := varF_len 10 9 x hx (by decide)
    have h3 := congrArg List.length h
    rw [lenTake s (9 + 1) (by omega)] at h3
    unfold putVar at h3
    omega
  · have hq := hpre 1 (.inl (by decide))
    rw [show (1 : Nat) * 2 ^ (7 * 9) = 1 * 9223372036854775808 from by decide] at hq
    rw [e, hq, take_snoc s 9 hlt, varF_small _ _ (by decide)] at h
    have h4 := List.append_cancel_left h
    have h5 : UInt8.ofNat 1 = s[9] := by simpa using h4
    have h6 : s[9].toNat = 1 := by rw [← h5]; rfl
    omega
end Go.Proofs.YtdncnjmlicdamaaGreatDoor
namespace Go.Proofs.YtdncnjmlicdamaaGreatDoor
open Go.RowKit
set_option linter.unusedVariables false
/-- Does a list begin with that? -/
def ahead (l t : List UInt8) : Bool := l.take t.length == t
theorem l1Ahead_any (s t : ByteArray) (w : World) (hs : s.size ≤ 1048576) (ht : t.size ≤ 1048576) : Calls Tryz.prog 75 #[.string s, .string t] w fun e w' => e = .returned (.bool (ahead s.data.toList t.data.toList)) ∧ w' = w := by
  have hl : s.data.toList.length = s.size := Array.length_toList
  have hlt : t.data.toList.length = t.size := Array.length_toList
  by_cases h : t.size ≤ s.size
  · have e : ahead s.data.toList t.data.toList = ((s.extract 0 t.size).toList == t.toList) := by
      unfold ahead
      rw [hlt, ByteArray.toList_eq, ByteArray.toList_eq, Lib.extract_data]
      simp
    rw [e]
    clear e hl hlt
    go_enter Tryz.func75, Tryz.ntmps75
    go_wp2
    go_ret
    exact ⟨rfl, rfl⟩
  · have e : ahead s.data.toList t.data.toList = false := by
      unfold ahead
      rw [beq_eq_false_iff_ne]
      intro h1
      have := congrArg List.length h1
      rw [List.length_take, hl, hlt] at this
      omega
    rw [e]
    clear e hl hlt
    go_enter Tryz.func75, Tryz.ntmps75
    go_wp2
    go_ret
    exact ⟨rfl, rfl⟩
theorem l1Ahead_list (s : ByteArray) (l : List UInt8) (w : World) (hs : s.size ≤ 1048576) (ht : l.length ≤ 1000) : Calls Tryz.prog 75 #[.string s, .string ⟨l.toArray⟩] w fun e w' => e = .returned (.bool (ahead s.data.toList l)) ∧ w' = w :=
  l1Ahead_any s ⟨l.toArray⟩ w hs (by simp [ByteArray.size]; omega)
theorem below_step {w W w3 : World} (h1 : Below w.heap.size w W) (h2 : Below W.heap.size W w3) : Below w.heap.size w w3 := h1.trans (h2.mono h1.size)
theorem leV_lt_k (s : ByteArray) (k : Nat) (h : k ≤ s.size) : leV (s.data.toList.take k) < 2 ^ (8 * k) := by
  have := leV_lt (s.data.toList.take k)
  rwa [lenTake s k h] at this
/-- What stands behind the first byte, in k bytes: at least so much. -/
def behind (r : List UInt8) (k least : Nat) : Nat × Nat × Bool := if k ≤ r.length ∧ least ≤ leV (r.take k) then (leV (r.take k), 1 + k, true) else (0, 0, false)
theorem tail_data (s : ByteArray) : (s.extract 1 s.size).data.toList = s.data.toList.tail := by
  rw [Lib.extract_data, List.take_of_length_le (by rw [List.length_drop, Array.length_toList]; exact Nat.le_refl _), List.drop_one]
theorem tail_size (s : ByteArray) : (s.extract 1 s.size).size = s.size - 1 := by
  have : (s.extract 1 s.size).data.toList.length = (s.extract 1 s.size).size := Array.length_toList
  rw [← this, tail_data, List.length_tail, Array.length_toList]; rfl
def getSize : List UInt8 → Nat × Nat × Bool
  | [] => (0, 0, false)
  | b :: r => if b.toNat < 253 then (b.toNat, 1, true) else if b.toNat = 253 then behind r 2 253 else if b.toNat = 254 then behind r 4 65536 else behind r 8 4294967296
theorem data_cons (s : ByteArray) (h : 0 < s.size) : s.data.toList = s[0] :: s.data.toList.tail := by
  have := drop_cons s 0 h
  rw [List.drop_zero, Nat.zero_add, List.drop_one] at this
  exact this
theorem data_nil (s : ByteArray) (h : ¬ 0 < s.size) : s.data.toList = [] := List.eq_nil_of_length_eq_zero (by rw [Array.length_toList]; exact Nat.eq_zero_of_not_pos h)
theorem isEmpty_no (s : ByteArray) (h : 0 < s.size) : s.toList.isEmpty = false := by rw [ByteArray.toList_eq, data_cons s h]; rfl
theorem isEmpty_yes (s : ByteArray) (h : ¬ 0 < s.size) : s.toList.isEmpty = true := by rw [ByteArray.toList_eq, data_nil s h]; rfl
theorem leL_cons (n k : Nat) : leL n (k + 1) = UInt8.ofNat n :: leL (n / 256) k := by
  unfold leL
  rw [List.range_succ_eq_map, List.map_cons, List.map_map]
  congr 1
  · simp [byt]
  · apply List.map_congr_left
    intro i _
    simp only [Function.comp, byt]
    rw [show 8 * (i + 1) = 8 + 8 * i from by omega, Nat.pow_add, ← Nat.div_div_eq_div_mul]
theorem leL_leV : ∀ l : List UInt8, leL (leV l) l.length = l
  | [] => rfl
  | b :: l => by
    have hb := b.toNat_lt
    rw [List.length_cons, leL_cons]
    simp only [leV]
    rw [show (b.toNat + 256 * leV l) / 256 = leV l from by omega, leL_leV l]
    congr 1
    apply UInt8.toNat_inj.1
    rw [UInt8.toNat_ofNat']
    omega
theorem leL_take (l : List UInt8) (k : Nat) (h : k ≤ l.length) : leL (leV (l.take k)) k = l.take k := by
  have := leL_leV (l.take k)
  rwa [List.length_take, Nat.min_eq_left h] at this
theorem leV_take_lt (l : List UInt8) (k : Nat) (h : k ≤ l.length) : leV (l.take k) < 2 ^ (8 * k) := by
  have := leV_lt (l.take k)
  rwa [List.length_take, Nat.min_eq_left h] at this
theorem ahead_ne (b c : UInt8) (l t : List UInt8) (h : b ≠ c) : ahead (b :: l) (c :: t) = false := by
  unfold ahead
  rw [beq_eq_false_iff_ne, List.length_cons, List.take_succ_cons]
  intro h1
  exact h (List.cons.inj h1).1
theorem ahead_yes (b : UInt8) (r : List UInt8) (k : Nat) (h : k ≤ r.length) : ahead (b :: r) (b :: r.take k) = true := by
  unfold ahead
  rw [beq_iff_eq, List.length_cons, List.take_succ_cons, List.length_take, Nat.min_eq_left h]
theorem putSize_len (n : Nat) : (putSize n).length ≤ 9 := by
  unfold putSize
  repeat' split
  all_goals simp [leL_len]
theorem putSize_head (n : Nat) (b : UInt8) (r : List UInt8) (hb : 253 ≤ b.toNat) (hk : (b.toNat = 253 ∧ n < 253) ∨ (b.toNat = 254 ∧ n < 65536) ∨ (b.toNat = 255 ∧ n < 4294967296)) : ahead (b :: r) (putSize n) = false := by
  have hne : ∀ c : UInt8, c.toNat ≠ b.toNat → b ≠ c := fun c hc h => hc (by rw [h])
  unfold putSize
  by_cases h1 : n < 253
  · rw [if_pos h1, leL_cons]
    refine ahead_ne _ _ _ _ (hne _ ?_)
    rw [UInt8.toNat_ofNat']
    omega
  · rw [if_neg h1]
    by_cases h2 : n < 65536
    · rw [if_pos h2]
      refine ahead_ne _ _ _ _ (hne _ ?_)
      show 253 ≠ b.toNat
      omega
    · rw [if_neg h2, if_pos (by omega)]
      refine ahead_ne _ _ _ _ (hne _ ?_)
      show 254 ≠ b.toNat
      omega
theorem putSize_253 (b : UInt8) (r : List UInt8) (hb : b.toNat = 253) (hk : 2 ≤ r.length) (hle : 253 ≤ leV (r.take 2)) : putSize (leV (r.take 2)) = b :: r.take 2 := by
  have h1 : leV (r.take 2) < 65536 := leV_take_lt r 2 hk
  have hb' : b = 253 := UInt8.toNat_inj.1 hb
  have e := leL_take r 2 hk
  unfold putSize
  rw [if_neg (by omega)]
  rw [if_pos h1, e, hb']
theorem putSize_254 (b : UInt8) (r : List UInt8) (hb : b.toNat = 254) (hk : 4 ≤ r.length) (hle : 65536 ≤ leV (r.take 4)) : putSize (leV (r.take 4)) = b :: r.take 4 := by
  have h1 : leV (r.take 4) < 4294967296 := leV_take_lt r 4 hk
  have hb' : b = 254 := UInt8.toNat_inj.1 hb
  have e := leL_take r 4 hk
  unfold putSize
  rw [if_neg (by omega)]
  rw [if_neg (by omega), if_pos h1, e, hb']
theorem putSize_255 (b : UInt8) (r : List UInt8) (hb : b.toNat = 255) (hk : 8 ≤ r.length) (hle : 4294967296 ≤ leV (r.take 8)) : putSize (leV (r.take 8)) = b :: r.take 8 := by
  have h1 : leV (r.take 8) < 18446744073709551616 := leV_take_lt r 8 hk
  have hb' : b = 255 := UInt8.toNat_inj.1 hb
  have e := leL_take r 8 hk
  unfold putSize
  rw [if_neg (by omega)]
  rw [if_neg (by omega), if_neg (by omega), e, hb']
end Go.Proofs.YtdncnjmlicdamaaGreatDoor
namespace Go.Proofs.YtdncnjmlicdamaaGreatDoor
open Go.RowKit
set_option linter.unusedVariables false
theorem results_tmp4 {fn : Func} {t u v x : Tmp} (h : fn.results = #[.tmp t, .tmp u, .tmp v, .tmp x]) (tmps : Array Value) (P : Program) (w : World) :
    (results fn tmps).run P w = .ok (.tuple #[tmps.getD t undef, tmps.getD u undef, tmps.getD v undef, tmps.getD x undef]) w := by
  simp [results, h]
def quadV (x : Bool × Nat × Nat × Bool) : Value := .tuple #[.bool x.1, .int .i64 x.2.1, .int .i64 x.2.2.1, .bool x.2.2.2]
def hl (list : Bool) (r : List UInt8) (k : Nat) : Bool × Nat × Nat × Bool := if k ≤ 2 ∧ k ≤ r.length ∧ 56 ≤ leV (r.take k).reverse ∧ by8 (leV (r.take k).reverse) = k then (list, leV (r.take k).reverse, 1 + k, true) else (false, 0, 0, false)
def getHead : List UInt8 → Bool × Nat × Nat × Bool
  | [] => (false, 0, 0, false)
  | b :: r => if b.toNat < 128 then (false, 0, 0, false) else if b.toNat % 64 < 56 then (decide (192 ≤ b.toNat), b.toNat % 64, 1, true) else hl (decide (192 ≤ b.toNat)) r (b.toNat % 64 - 55)
theorem leV_rev_lt (l : List UInt8) (k : Nat) (h : k ≤ l.length) : leV (l.take k).reverse < 2 ^ (8 * k) := by
  have := leV_lt (l.take k).reverse
  rwa [List.length_reverse, List.length_take, Nat.min_eq_left h] at this
theorem quad_ret {P : Program} {fn : Func} {R : Ending → World → Prop} {a : Act} {w : World} {t u v x : Tmp} (h : fn.results = #[.tmp t, .tmp u, .tmp v, .tmp x]) (hd : a.defers = []) (hR : R (.returned (.tuple #[a.tmps.getD t undef, a.tmps.getD u undef, a.tmps.getD v undef, a.tmps.getD x undef])) w) : bodyPost P fn R .ret a w :=
  bodyPost_ret (results_tmp4 h _ _ _) hd hR
theorem short_true (b : UInt8) (h : 192 ≤ b.toNat) (h' : b.toNat < 192 + 64) : wrap64 (((b.toNat : Int) - 192) % 256) = ((b.toNat % 64 : Nat) : Int) := by
  have hb := b.toNat_lt
  simp only [wrap64]
  omega
set_option maxRecDepth 100000 in
set_option maxHeartbeats 1000000 in
theorem implGetHead_true_lo (s : ByteArray) (w : World) (hs : s.size ≤ 1048576) (h0 : 0 < s.size) (hne : s.toList.isEmpty = false) (h128 : decide (((s[0]'h0).toNat : Int) < 128) = false) (h192 : decide ((192 : Int) ≤ ((s[0]'h0).toNat : Int)) = true) (m : Nat) (hm : wrap64 ((((s[0]'h0).toNat : Int) - 192) % 256) = (m : Int)) (hlt : (m : Int) < 56) : Calls Tryz.prog 131 #[.string s] w fun e w' => e = .returned (quadV (true, m, 1, true)) ∧ Below w.heap.size w w' := by
  go_enter Tryz.func131, Tryz.ntmps131
  go_wp2
  go_region_with (go_at_call 110; refine (headBase_true _).mono ?_; rintro e w' ⟨rfl, rfl⟩)
  all_goals
    go_wp2
    refine quad_ret rfl rfl ⟨by rw [hm]; rfl, ?_⟩
    go_grown
set_option maxRecDepth 100000 in
set_option maxHeartbeats 1000000 in
theorem implGetHead_true_wide (s : ByteArray) (w : World) (hs : s.size ≤ 1048576) (h0 : 0 < s.size) (hne : s.toList.isEmpty = false) (h128 : decide (((s[0]'h0).toNat : Int) < 128) = false) (h192 : decide ((192 : Int) ≤ ((s[0]'h0).toNat : Int)) = true) (m : Nat) (hm : wrap64 ((((s[0]'h0).toNat : Int) - 192) % 256) = (m : Int)) (hlt : (58 : Int) ≤ (m : Int)) (hm63 : (m : Int) ≤ 63) : Calls Tryz.prog 131 #[.string s] w fun e w' => e = .returned (quadV (false, 0, 0, false)) ∧ Below w.heap.size w w' := by
  go_enter Tryz.func131, Tryz.ntmps131
  go_wp2
  go_region_with (go_at_call 110; refine (headBase_true _).mono ?_; rintro e w' ⟨rfl, rfl⟩)
  all_goals
    go_wp2_with (go_at_call 137; refine (widthOf_u16_any _).mono ?_; rintro e w' ⟨rfl, rfl⟩)
    refine quad_ret rfl rfl ⟨rfl, ?_⟩
    go_grown
set_option maxRecDepth 100000 in
set_option maxHeartbeats 1000000 in
theorem implGetHead_true_mid (s : ByteArray) (w : World) (hs : s.size ≤ 1048576) (h0 : 0 < s.size) (hne : s.toList.isEmpty = false) (h128 : decide (((s[0]'h0).toNat : Int) < 128) = false) (h192 : decide ((192 : Int) ≤ ((s[0]'h0).toNat : Int)) = true) (m : Nat) (hm : wrap64 ((((s[0]'h0).toNat : Int) - 192) % 256) = (m : Int)) (hlt : (56 : Int) ≤ (m : Int)) (hm57 : (m : Int) ≤ 57) : Calls Tryz.prog 131 #[.string s] w fun e w' => e = .returned (quadV (hl true s.data.toList.tail (m - 55))) ∧ Below w.heap.size w w' := by
  have hi1 : (1 : Int) ≤ (s.size : Int) := by omega
  have hts := tail_size s
  have htl : s.data.toList.tail.length = s.size - 1 := by rw [List.length_tail, Array.length_toList]; rfl
  have C := fun w => readHigh_u16_any (s.extract 1 s.size) (m - 55) w (by omega) (by rw [tail_size]; unfold maxLen; omega)
  rw [hts, tail_data, show ((m - 55 : Nat) : Int) = (m : Int) - 56 + 1 from by omega] at C
  by_cases hk : m - 55 ≤ s.size - 1
  · rw [if_neg (by omega), decide_eq_true hk] at C
    have hv : leV (s.data.toList.tail.take (m - 55)).reverse < 65536 := Nat.lt_of_lt_of_le (leV_rev_lt _ _ (by omega)) (Nat.le_trans (Nat.pow_le_pow_right (by decide) (show 8 * (m - 55) ≤ 16 by omega)) (by decide))
    have B := fun w => bytesOf_u16_any (leV (s.data.toList.tail.take (m - 55)).reverse) w hv
    have HC : Hid _ := C
    by_cases h56 : 56 ≤ leV (s.data.toList.tail.take (m - 55)).reverse
    · have i56 : decide (((leV (s.data.toList.tail.take (m - 55)).reverse : Nat) : Int) < 56) = false := decide_eq_false (by omega)
      have hb2 := by8_16 _ (Nat.le_of_lt_succ hv)
      by_cases hbk : by8 (leV (s.data.toList.tail.take (m - 55)).reverse) = m - 55
      · have e : hl true s.data.toList.tail (m - 55) = (true, leV (s.data.toList.tail.take (m - 55)).reverse, 1 + (m - 55), true) := by unfold hl; rw [if_pos ⟨by omega, by omega, h56, hbk⟩]
        rw [e]
        rw [hbk, show ((m - 55 : Nat) : Int) = (m : Int) - 56 + 1 from by omega] at B
        have hv' : ((leV (s.data.toList.tail.take (m - 55)).reverse : Nat) : Int) ≤ 65535 := by omega
        have HB : Hid _ := B
        have HM : Hid ((1 : Int) + ((m : Int) - 56 + 1) = ((1 + (m - 55) : Nat) : Int)) := by show _ = _; omega
        clear C e h56 hv hts htl hbk hb2 B hk
        generalize leV (s.data.toList.tail.take (m - 55)).reverse = v at *
        go_enter Tryz.func131, Tryz.ntmps131
        go_wp2
        go_region_with (go_at_call 110; refine (headBase_true _).mono ?_; rintro e w' ⟨rfl, rfl⟩)
        all_goals
          go_wp2_with (first | (go_at_call 137; refine (widthOf_u16_any _).mono ?_; rintro e w' ⟨rfl, rfl⟩) | (go_at_call 138; refine (HC.out _).mono ?_; rintro e w' ⟨rfl, rfl⟩) | (go_at_call 112; refine (HB.out _).mono ?_; rintro e w' ⟨rfl, rfl⟩))
          refine quad_ret rfl rfl ⟨by simp only [quadV]; rw [← HM.out]; rfl, ?_⟩
          go_grown
      · have e : hl true s.data.toList.tail (m - 55) = (false, 0, 0, false) := by unfold hl; rw [if_neg (fun h => hbk h.2.2.2)]
        rw [e]
        have hne2 : ((by8 (leV (s.data.toList.tail.take (m - 55)).reverse) : Int) != (m : Int) - 56 + 1) = true := by rw [bne_iff_ne]; omega
        have HB : Hid _ := B
        clear C e h56 hv hts htl hbk hb2 B hk
        generalize by8 (leV (s.data.toList.tail.take (m - 55)).reverse) = n8 at *
        generalize leV (s.data.toList.tail.take (m - 55)).reverse = v at *
        go_enter Tryz.func131, Tryz.ntmps131
        go_wp2
        go_region_with (go_at_call 110; refine (headBase_true _).mono ?_; rintro e w' ⟨rfl, rfl⟩)
        all_goals
          go_wp2_with (first | (go_at_call 137; refine (widthOf_u16_any _).mono ?_; rintro e w' ⟨rfl, rfl⟩) | (go_at_call 138; refine (HC.out _).mono ?_; rintro e w' ⟨rfl, rfl⟩) | (go_at_call 112; refine (HB.out _).mono ?_; rintro e w' ⟨rfl, rfl⟩))
          refine quad_ret rfl rfl ⟨rfl, ?_⟩
          go_grown
    · have i56 : decide (((leV (s.data.toList.tail.take (m - 55)).reverse : Nat) : Int) < 56) = true := decide_eq_true (by omega)
      have e : hl true s.data.toList.tail (m - 55) = (false, 0, 0, false) := by unfold hl; rw [if_neg (fun h => h56 h.2.2.1)]
      rw [e]
      clear C e h56 hv hts htl B hk
      generalize leV (s.data.toList.tail.take (m - 55)).reverse = v at *
      go_enter Tryz.func131, Tryz.ntmps131
      go_wp2
      go_region_with (go_at_call 110; refine (headBase_true _).mono ?_; rintro e w' ⟨rfl, rfl⟩)
      all_goals
        go_wp2_with (first | (go_at_call 137; refine (widthOf_u16_any _).mono ?_; rintro e w' ⟨rfl, rfl⟩) | (go_at_call 138; refine (HC.out _).mono ?_; rintro e w' ⟨rfl, rfl⟩))
        refine quad_ret rfl rfl ⟨rfl, ?_⟩
        go_grown
  · rw [if_pos (by omega), decide_eq_false hk] at C
    have HC : Hid _ := C
    have e : hl true s.data.toList.tail (m - 55) = (false, 0, 0, false) := by unfold hl; rw [if_neg (fun h => hk (by have := h.2.1; omega))]
    rw [e]
    clear C e hts htl hk
    go_enter Tryz.func131, Tryz.ntmps131
    go_wp2
    go_region_with (go_at_call 110; refine (headBase_true _).mono ?_; rintro e w' ⟨rfl, rfl⟩)
    all_goals
      go_wp2_with (first | (go_at_call 137; refine (widthOf_u16_any _).mono ?_; rintro e w' ⟨rfl, rfl⟩) | (go_at_call 138; refine (HC.out _).mono ?_; rintro e w' ⟨rfl, rfl⟩))
      refine quad_ret rfl rfl ⟨rfl, ?_⟩
      go_grown
theorem implGetHead_true (s : ByteArray) (w : World) (hs : s.size ≤ 1048576) (h0 : 0 < s.size) (hlo : 192 ≤ (s[0]'h0).toNat) (hhi : (s[0]'h0).toNat < 192 + 64) : Calls Tryz.prog 131 #[.string s] w fun e w' => e = .returned (quadV (if (s[0]'h0).toNat % 64 < 56 then (true, (s[0]'h0).toNat % 64, 1, true) else hl true s.data.toList.tail ((s[0]'h0).toNat % 64 - 55))) ∧ Below w.heap.size w w' := by
  have hne := isEmpty_no s h0
  have h128 : decide (((s[0]'h0).toNat : Int) < 128) = false := decide_eq_false (by omega)
  have h192 : decide ((192 : Int) ≤ ((s[0]'h0).toNat : Int)) = true := decide_eq_true (by omega)
  have hm := short_true (s[0]'h0) hlo hhi
  by_cases h1 : (s[0]'h0).toNat % 64 < 56
  · rw [if_pos h1]; exact implGetHead_true_lo s w hs h0 hne h128 h192 _ hm (by omega)
  · rw [if_neg h1]
    by_cases h2 : (s[0]'h0).toNat % 64 ≤ 57
    · exact implGetHead_true_mid s w hs h0 hne h128 h192 _ hm (by omega) (by omega)
    · have e : hl true s.data.toList.tail ((s[0]'h0).toNat % 64 - 55) = (false, 0, 0, false) := by unfold hl; rw [if_neg (by omega)]
      rw [e]
      exact implGetHead_true_wide s w hs h0 hne h128 h192 _ hm (by omega) (by omega)
theorem short_false (b : UInt8) (h : 128 ≤ b.toNat) (h' : b.toNat < 128 + 64) : wrap64 (((b.toNat : Int) - 128) % 256) = ((b.toNat % 64 : Nat) : Int) := by
  have hb := b.toNat_lt
  simp only [wrap64]
  omega
set_option maxRecDepth 100000 in
set_option maxHeartbeats 1000000 in
theorem implGetHead_false_lo (s : ByteArray) (w : World) (hs : s.size ≤ 1048576) (h0 : 0 < s.size) (hne : s.toList.isEmpty = false) (h128 : decide (((s[0]'h0).toNat : Int) < 128) = false) (h192 : decide ((192 : Int) ≤ ((s[0]'h0).toNat : Int)) = false) (m : Nat) (hm : wrap64 ((((s[0]'h0).toNat : Int) - 128) % 256) = (m : Int)) (hlt : (m : Int) < 56) : Calls Tryz.prog 131 #[.string s] w fun e w' => e = .returned (quadV (false, m, 1, true)) ∧ Below w.heap.size w w' := by
  go_enter Tryz.func131, Tryz.ntmps131
  go_wp2
  go_region_with (go_at_call 110; refine (headBase_false _).mono ?_; rintro e w' ⟨rfl, rfl⟩)
  all_goals
    go_wp2
    refine quad_ret rfl rfl ⟨by rw [hm]; rfl, ?_⟩
    go_grown
set_option maxRecDepth 100000 in
set_option maxHeartbeats 1000000 in
theorem implGetHead_false_wide (s : ByteArray) (w : World) (hs : s.size ≤ 1048576) (h0 : 0 < s.size) (hne : s.toList.isEmpty = false) (h128 : decide (((s[0]'h0).toNat : Int) < 128) = false) (h192 : decide ((192 : Int) ≤ ((s[0]'h0).toNat : Int)) = false) (m : Nat) (hm : wrap64 ((((s[0]'h0).toNat : Int) - 128) % 256) = (m : Int)) (hlt : (58 : Int) ≤ (m : Int)) (hm63 : (m : Int) ≤ 63) : Calls Tryz.prog 131 #[.string s] w fun e w' => e = .returned (quadV (false, 0, 0, false)) ∧ Below w.heap.size w w' := by
  go_enter Tryz.func131, Tryz.ntmps131
  go_wp2
  go_region_with (go_at_call 110; refine (headBase_false _).mono ?_; rintro e w' ⟨rfl, rfl⟩)
  all_goals
    go_wp2_with (go_at_call 137; refine (widthOf_u16_any _).mono ?_; rintro e w' ⟨rfl, rfl⟩)
    refine quad_ret rfl rfl ⟨rfl, ?_⟩
    go_grown
set_option maxRecDepth 100000 in
set_option maxHeartbeats 1000000 in
theorem implGetHead_false_mid (s : ByteArray) (w : World) (hs : s.size ≤ 1048576) (h0 : 0 < s.size) (hne : s.toList.isEmpty = false) (h128 : decide (((s[0]'h0).toNat : Int) < 128) = false) (h192 : decide ((192 : Int) ≤ ((s[0]'h0).toNat : Int)) = false) (m : Nat) (hm : wrap64 ((((s[0]'h0).toNat : Int) - 128) % 256) = (m : Int)) (hlt : (56 : Int) ≤ (m : Int)) (hm57 : (m : Int) ≤ 57) : Calls Tryz.prog 131 #[.string s] w fun e w' => e = .returned (quadV (hl false s.data.toList.tail (m - 55))) ∧ Below w.heap.size w w' := by
  have hi1 : (1 : Int) ≤ (s.size : Int) := by omega
  have hts := tail_size s
  have htl : s.data.toList.tail.length = s.size - 1 := by rw [List.length_tail, Array.length_toList]; rfl
  have C := fun w => readHigh_u16_any (s.extract 1 s.size) (m - 55) w (by omega) (by rw [tail_size]; unfold maxLen; omega)
  rw [hts, tail_data, show ((m - 55 : Nat) : Int) = (m : Int) - 56 + 1 from by omega] at C
  by_cases hk : m - 55 ≤ s.size - 1
  · rw [if_neg (by omega), decide_eq_true hk] at C
    have hv : leV (s.data.toList.tail.take (m - 55)).reverse < 65536 := Nat.lt_of_lt_of_le (leV_rev_lt _ _ (by omega)) (Nat.le_trans (Nat.pow_le_pow_right (by decide) (show 8 * (m - 55) ≤ 16 by omega)) (by decide))
    have B := fun w => bytesOf_u16_any (leV (s.data.toList.tail.take (m - 55)).reverse) w hv
    have HC : Hid _ := C
    by_cases h56 : 56 ≤ leV (s.data.toList.tail.take (m - 55)).reverse
    · have i56 : decide (((leV (s.data.toList.tail.take (m - 55)).reverse : Nat) : Int) < 56) = false := decide_eq_false (by omega)
      have hb2 := by8_16 _ (Nat.le_of_lt_succ hv)
      by_cases hbk : by8 (leV (s.data.toList.tail.take (m - 55)).reverse) = m - 55
      · have e : hl false s.data.toList.tail (m - 55) = (false, leV (s.data.toList.tail.take (m - 55)).reverse, 1 + (m - 55), true) := by unfold hl; rw [if_pos ⟨by omega, by omega, h56, hbk⟩]
        rw [e]
        rw [hbk, show ((m - 55 : Nat) : Int) = (m : Int) - 56 + 1 from by omega] at B
        have hv' : ((leV (s.data.toList.tail.take (m - 55)).reverse : Nat) : Int) ≤ 65535 := by omega
        have HB : Hid _ := B
        have HM : Hid ((1 : Int) + ((m : Int) - 56 + 1) = ((1 + (m - 55) : Nat) : Int)) := by show _ = _; omega
        clear C e h56 hv hts htl hbk hb2 B hk
        generalize leV (s.data.toList.tail.take (m - 55)).reverse = v at *
        go_enter Tryz.func131, Tryz.ntmps131
        go_wp2
        go_region_with (go_at_call 110; refine (headBase_false _).mono ?_; rintro e w' ⟨rfl, rfl⟩)
        all_goals
          go_wp2_with (first | (go_at_call 137; refine (widthOf_u16_any _).mono ?_; rintro e w' ⟨rfl, rfl⟩) | (go_at_call 138; refine (HC.out _).mono ?_; rintro e w' ⟨rfl, rfl⟩) | (go_at_call 112; refine (HB.out _).mono ?_; rintro e w' ⟨rfl, rfl⟩))
          refine quad_ret rfl rfl ⟨by simp only [quadV]; rw [← HM.out]; rfl, ?_⟩
          go_grown
      · have e : hl false s.data.toList.tail (m - 55) = (false, 0, 0, false) := by unfold hl; rw [if_neg (fun h => hbk h.2.2.2)]
        rw [e]
        have hne2 : ((by8 (leV (s.data.toList.tail.take (m - 55)).reverse) : Int) != (m : Int) - 56 + 1) = true := by rw [bne_iff_ne]; omega
        have HB : Hid _ := B
        clear C e h56 hv hts htl hbk hb2 B hk
        generalize by8 (leV (s.data.toList.tail.take (m - 55)).reverse) = n8 at *
        generalize leV (s.data.toList.tail.take (m - 55)).reverse = v at *
        go_enter Tryz.func131, Tryz.ntmps131
        go_wp2
        go_region_with (go_at_call 110; refine (headBase_false _).mono ?_; rintro e w' ⟨rfl, rfl⟩)
        all_goals
          go_wp2_with (first | (go_at_call 137; refine (widthOf_u16_any _).mono ?_; rintro e w' ⟨rfl, rfl⟩) | (go_at_call 138; refine (HC.out _).mono ?_; rintro e w' ⟨rfl, rfl⟩) | (go_at_call 112; refine (HB.out _).mono ?_; rintro e w' ⟨rfl, rfl⟩))
          refine quad_ret rfl rfl ⟨rfl, ?_⟩
          go_grown
    · have i56 : decide (((leV (s.data.toList.tail.take (m - 55)).reverse : Nat) : Int) < 56) = true := decide_eq_true (by omega)
      have e : hl false s.data.toList.tail (m - 55) = (false, 0, 0, false) := by unfold hl; rw [if_neg (fun h => h56 h.2.2.1)]
      rw [e]
      clear C e h56 hv hts htl B hk
      generalize leV (s.data.toList.tail.take (m - 55)).reverse = v at *
      go_enter Tryz.func131, Tryz.ntmps131
      go_wp2
      go_region_with (go_at_call 110; refine (headBase_false _).mono ?_; rintro e w' ⟨rfl, rfl⟩)
      all_goals
        go_wp2_with (first | (go_at_call 137; refine (widthOf_u16_any _).mono ?_; rintro e w' ⟨rfl, rfl⟩) | (go_at_call 138; refine (HC.out _).mono ?_; rintro e w' ⟨rfl, rfl⟩))
        refine quad_ret rfl rfl ⟨rfl, ?_⟩
        go_grown
  · rw [if_pos (by omega), decide_eq_false hk] at C
    have HC : Hid _ := C
    have e : hl false s.data.toList.tail (m - 55) = (false, 0, 0, false) := by unfold hl; rw [if_neg (fun h => hk (by have := h.2.1; omega))]
    rw [e]
    clear C e hts htl hk
    go_enter Tryz.func131, Tryz.ntmps131
    go_wp2
    go_region_with (go_at_call 110; refine (headBase_false _).mono ?_; rintro e w' ⟨rfl, rfl⟩)
    all_goals
      go_wp2_with (first | (go_at_call 137; refine (widthOf_u16_any _).mono ?_; rintro e w' ⟨rfl, rfl⟩) | (go_at_call 138; refine (HC.out _).mono ?_; rintro e w' ⟨rfl, rfl⟩))
      refine quad_ret rfl rfl ⟨rfl, ?_⟩
      go_grown
theorem implGetHead_false (s : ByteArray) (w : World) (hs : s.size ≤ 1048576) (h0 : 0 < s.size) (hlo : 128 ≤ (s[0]'h0).toNat) (hhi : (s[0]'h0).toNat < 128 + 64) : Calls Tryz.prog 131 #[.string s] w fun e w' => e = .returned (quadV (if (s[0]'h0).toNat % 64 < 56 then (false, (s[0]'h0).toNat % 64, 1, true) else hl false s.data.toList.tail ((s[0]'h0).toNat % 64 - 55))) ∧ Below w.heap.size w w' := by
  have hne := isEmpty_no s h0
  have h128 : decide (((s[0]'h0).toNat : Int) < 128) = false := decide_eq_false (by omega)
  have h192 : decide ((192 : Int) ≤ ((s[0]'h0).toNat : Int)) = false := decide_eq_false (by omega)
  have hm := short_false (s[0]'h0) hlo hhi
  by_cases h1 : (s[0]'h0).toNat % 64 < 56
  · rw [if_pos h1]; exact implGetHead_false_lo s w hs h0 hne h128 h192 _ hm (by omega)
  · rw [if_neg h1]
    by_cases h2 : (s[0]'h0).toNat % 64 ≤ 57
    · exact implGetHead_false_mid s w hs h0 hne h128 h192 _ hm (by omega) (by omega)
    · have e : hl false s.data.toList.tail ((s[0]'h0).toNat % 64 - 55) = (false, 0, 0, false) := by unfold hl; rw [if_neg (by omega)]
      rw [e]
      exact implGetHead_false_wide s w hs h0 hne h128 h192 _ hm (by omega) (by omega)
set_option maxRecDepth 100000 in
set_option maxHeartbeats 1000000 in
theorem implGetHead_any (s : ByteArray) (w : World) (hs : s.size ≤ 1048576) : Calls Tryz.prog 131 #[.string s] w fun e w' => e = .returned (quadV (getHead s.data.toList)) ∧ Below w.heap.size w w' := by
  by_cases h0 : 0 < s.size
  · have hb256 := (s[0]'h0).toNat_lt
    rw [data_cons s h0]
    simp only [getHead]
    by_cases h1 : (s[0]'h0).toNat < 128
    · rw [if_pos h1]
      have hne := isEmpty_no s h0
      have h128 : decide (((s[0]'h0).toNat : Int) < 128) = true := decide_eq_true (by omega)
      go_enter Tryz.func131, Tryz.ntmps131
      go_wp2
      exact quad_ret rfl rfl ⟨rfl, Below.refl _ _⟩
    · rw [if_neg h1]
      by_cases h2 : 192 ≤ (s[0]'h0).toNat
      · rw [decide_eq_true h2]; exact implGetHead_true s w hs h0 h2 (by omega)
      · rw [decide_eq_false h2]; exact implGetHead_false s w hs h0 (by omega) (by omega)
  · have hne := isEmpty_yes s h0
    rw [data_nil s h0]
    go_enter Tryz.func131, Tryz.ntmps131
    go_wp2
    exact quad_ret rfl rfl ⟨rfl, Below.refl _ _⟩
end Go.Proofs.YtdncnjmlicdamaaGreatDoor
namespace Go.Proofs.YtdncnjmlicdamaaGreatDoor
open Go.RowKit
set_option linter.unusedVariables false
theorem headL_len (list : Bool) (n : Nat) (h : n ≤ 65535) : (headL list n).length ≤ 3 := by
  have := by8_16 n h
  unfold headL
  split
  · simp [leL_len]
  · simp [leL_len]; omega
theorem headL_lo (b : UInt8) (r : List UInt8) (h : 128 ≤ b.toNat) (hm : b.toNat % 64 < 56) : headL (decide (192 ≤ b.toNat)) (b.toNat % 64) = [b] := by
  have hb := b.toNat_lt
  unfold headL
  rw [if_pos hm]
  have e : headB (decide (192 ≤ b.toNat)) + b.toNat % 64 = b.toNat := by
    unfold headB
    by_cases h2 : 192 ≤ b.toNat
    · rw [decide_eq_true h2]; simp; omega
    · rw [decide_eq_false h2]; simp; omega
  rw [e, leL_cons, UInt8.ofNat_toNat]
  rfl
theorem headB_b (b : UInt8) (h : 128 ≤ b.toNat) : headB (decide (192 ≤ b.toNat)) + b.toNat % 64 = b.toNat := by
  have hb := b.toNat_lt
  unfold headB
  by_cases h2 : 192 ≤ b.toNat
  · rw [decide_eq_true h2]; simp; omega
  · rw [decide_eq_false h2]; simp; omega
theorem headB_le (l : Bool) : headB l ≤ 192 := by cases l <;> decide
theorem headL_yes (b : UInt8) (r : List UInt8) (k : Nat) (h : 128 ≤ b.toNat) (hk : k = b.toNat % 64 - 55) (hm : 56 ≤ b.toNat % 64) (hr : k ≤ r.length) (h56 : 56 ≤ leV (r.take k).reverse) (hbk : by8 (leV (r.take k).reverse) = k) :
    headL (decide (192 ≤ b.toNat)) (leV (r.take k).reverse) = b :: r.take k := by
  have hB := headB_b b h
  have e := leL_leV (r.take k).reverse
  rw [List.length_reverse, List.length_take, Nat.min_eq_left hr] at e
  unfold headL
  rw [if_neg (by omega), hbk, e, List.reverse_reverse, show headB (decide (192 ≤ b.toNat)) + 55 + k = b.toNat from by omega, leL_cons, UInt8.ofNat_toNat]
  rfl
theorem headL_no (b : UInt8) (r : List UInt8) (v : Nat) (h : 128 ≤ b.toNat) (hm : 56 ≤ b.toNat % 64) (hv : v ≤ 65535) (hn : ¬ (56 ≤ v ∧ by8 v = b.toNat % 64 - 55)) : ahead (b :: r) (headL (decide (192 ≤ b.toNat)) v) = false := by
  have hB := headB_b b h
  have hb := b.toNat_lt
  have h2 := by8_16 v hv
  have hl := headB_le (decide (192 ≤ b.toNat))
  unfold headL
  by_cases h56 : v < 56
  · rw [if_pos h56, leL_cons]
    refine ahead_ne _ _ _ _ (fun hc => ?_)
    have := congrArg UInt8.toNat hc
    rw [UInt8.toNat_ofNat'] at this
    omega
  · rw [if_neg h56, leL_cons]
    refine ahead_ne _ _ _ _ (fun hc => hn ⟨by omega, ?_⟩)
    have := congrArg UInt8.toNat hc
    rw [UInt8.toNat_ofNat'] at this
    omega
set_option maxRecDepth 100000 in
set_option maxHeartbeats 1000000 in
theorem specGetHead_lo (s : ByteArray) (w : World) (hs : s.size ≤ 1048576) (h0 : 0 < s.size) (hge : 128 ≤ (s[0]'h0).toNat) (hm : (s[0]'h0).toNat % 64 < 56) : Calls Tryz.prog 64 #[.string s] w fun e w' => e = .returned (quadV (decide (192 ≤ (s[0]'h0).toNat), (s[0]'h0).toNat % 64, 1, true)) ∧ Below w.heap.size w w' := by
  have hne := isEmpty_no s h0
  have h128 : decide (((s[0]'h0).toNat : Int) < 128) = false := decide_eq_false (by omega)
  have h192 : decide ((192 : Int) ≤ ((s[0]'h0).toNat : Int)) = decide (192 ≤ (s[0]'h0).toNat) := by
    by_cases h : 192 ≤ (s[0]'h0).toNat
    · rw [decide_eq_true h, decide_eq_true (by omega)]
    · rw [decide_eq_false h, decide_eq_false (by omega)]
  have eh := headL_lo (s[0]'h0) [] hge hm
  have P := fun w => l1Head_any (decide (192 ≤ (s[0]'h0).toNat)) ((s[0]'h0).toNat % 64) w (by omega)
  rw [eh, show (((s[0]'h0).toNat % 64 : Nat) : Int) = ((s[0]'h0).toNat : Int) % 64 from by omega] at P
  have A := fun w => l1Ahead_list s [s[0]'h0] w hs (by simp)
  have ea : ahead s.data.toList [s[0]'h0] = true := by
    conv => lhs; arg 1; rw [data_cons s h0]
    exact ahead_yes _ _ 0 (Nat.zero_le _)
  rw [ea] at A
  have HP : Hid _ := P
  have HA : Hid _ := A
  have hlt : ((s[0]'h0).toNat : Int) % 64 ≤ 55 := by omega
  clear P A ea eh hm hge
  generalize decide (192 ≤ (s[0]'h0).toNat) = l at *
  go_enter Tryz.func64, Tryz.ntmps64
  go_wp2_with (first | (go_at_call 38; refine (HP.out _).mono ?_; rintro e w2 ⟨rfl, hb2⟩) | (go_at_call 75; refine (HA.out _).mono ?_; rintro e w3 ⟨rfl, rfl⟩))
  exact quad_ret rfl rfl ⟨by simp [quadV], hb2⟩
set_option maxRecDepth 100000 in
set_option maxHeartbeats 1000000 in
theorem specGetHead_hi (s : ByteArray) (w : World) (hs : s.size ≤ 1048576) (h0 : 0 < s.size) (hge : 128 ≤ (s[0]'h0).toNat) (hm : 56 ≤ (s[0]'h0).toNat % 64) : Calls Tryz.prog 64 #[.string s] w fun e w' => e = .returned (quadV (hl (decide (192 ≤ (s[0]'h0).toNat)) s.data.toList.tail ((s[0]'h0).toNat % 64 - 55))) ∧ Below w.heap.size w w' := by
  have hne := isEmpty_no s h0
  have hi1 : (1 : Int) ≤ (s.size : Int) := by omega
  have h128 : decide (((s[0]'h0).toNat : Int) < 128) = false := decide_eq_false (by omega)
  have h192 : decide ((192 : Int) ≤ ((s[0]'h0).toNat : Int)) = decide (192 ≤ (s[0]'h0).toNat) := by
    by_cases h : 192 ≤ (s[0]'h0).toNat
    · rw [decide_eq_true h, decide_eq_true (by omega)]
    · rw [decide_eq_false h, decide_eq_false (by omega)]
  have h55 : (55 : Int) < ((s[0]'h0).toNat : Int) % 64 := by omega
  obtain ⟨k, hk⟩ : ∃ k, k = (s[0]'h0).toNat % 64 - 55 := ⟨_, rfl⟩
  have hk1 : 1 ≤ k := by omega
  have hk8 : k ≤ 8 := by omega
  rw [← hk]
  have C := fun w => specGetBe_all (s.extract 1 s.size) k w (by rw [tail_size]; unfold maxLen; omega)
  rw [tail_data] at C
  by_cases hr : k ≤ s.data.toList.tail.length
  · have eg : getBe s.data.toList.tail k = (leV (s.data.toList.tail.take k).reverse, true) := by unfold getBe; rw [if_pos ⟨by omega, by omega, by omega⟩, Int.toNat_natCast]
    rw [eg, show (k : Int) = ((s[0]'h0).toNat : Int) % 64 - 55 from by omega] at C
    by_cases h16 : leV (s.data.toList.tail.take k).reverse ≤ 65535
    · have i16 : decide ((65535 : Int) < ((leV (s.data.toList.tail.take k).reverse : Nat) : Int)) = false := decide_eq_false (by omega)
      have hv' : ((leV (s.data.toList.tail.take k).reverse : Nat) : Int) ≤ 65535 := by omega
      have P := fun w => l1Head_any (decide (192 ≤ (s[0]'h0).toNat)) (leV (s.data.toList.tail.take k).reverse) w h16
      have hlen := headL_len (decide (192 ≤ (s[0]'h0).toNat)) _ h16
      have A := fun w => l1Ahead_list s (headL (decide (192 ≤ (s[0]'h0).toNat)) (leV (s.data.toList.tail.take k).reverse)) w hs (by omega)
      by_cases hle : 56 ≤ leV (s.data.toList.tail.take k).reverse ∧ by8 (leV (s.data.toList.tail.take k).reverse) = k
      · have ep := headL_yes (s[0]'h0) s.data.toList.tail k hge hk hm hr hle.1 hle.2
        have h2 := by8_16 _ h16
        have ea : ahead s.data.toList (headL (decide (192 ≤ (s[0]'h0).toNat)) (leV (s.data.toList.tail.take k).reverse)) = true := by
          rw [ep]; conv => lhs; arg 1; rw [data_cons s h0]
          exact ahead_yes _ _ _ hr
        have el : (headL (decide (192 ≤ (s[0]'h0).toNat)) (leV (s.data.toList.tail.take k).reverse)).length = 1 + k := by rw [ep, List.length_cons, List.length_take, Nat.min_eq_left hr, Nat.add_comm]
        have eb : hl (decide (192 ≤ (s[0]'h0).toNat)) s.data.toList.tail k = (decide (192 ≤ (s[0]'h0).toNat), leV (s.data.toList.tail.take k).reverse, 1 + k, true) := by unfold hl; rw [if_pos ⟨by omega, hr, hle.1, hle.2⟩]
        rw [eb]
        rw [ea] at A
        have HA : Hid _ := A
        have HC : Hid _ := C
        have HP : Hid _ := P
        clear C A P ep ea hle hr eg hlen eb hk hk1 hk8 h2 h16 hm hge
        generalize headL (decide (192 ≤ (s[0]'h0).toNat)) (leV (s.data.toList.tail.take k).reverse) = t at *
        generalize leV (s.data.toList.tail.take k).reverse = v at *
        generalize decide (192 ≤ (s[0]'h0).toNat) = l at *
        go_enter Tryz.func64, Tryz.ntmps64
        go_wp2_with (first | (go_at_call 74; refine (HC.out _).mono ?_; rintro e w1 ⟨rfl, hb1⟩; rw [pairV]) | (go_at_call 38; refine (HP.out _).mono ?_; rintro e w2 ⟨rfl, hb2⟩) | (go_at_call 75; refine (HA.out _).mono ?_; rintro e w3 ⟨rfl, rfl⟩))
        exact quad_ret rfl rfl ⟨by simp [quadV], below_step hb1 hb2⟩
      · have ea : ahead s.data.toList (headL (decide (192 ≤ (s[0]'h0).toNat)) (leV (s.data.toList.tail.take k).reverse)) = false := by
          conv => lhs; arg 1; rw [data_cons s h0]
          exact headL_no _ _ _ hge hm h16 (by rw [← hk]; exact hle)
        have eb : hl (decide (192 ≤ (s[0]'h0).toNat)) s.data.toList.tail k = (false, 0, 0, false) := by unfold hl; rw [if_neg (fun h => hle h.2.2)]
        rw [eb]
        rw [ea] at A
        have HA : Hid _ := A
        have HC : Hid _ := C
        have HP : Hid _ := P
        clear C A P ea hle hr eg hlen eb hk hk1 hk8 h16 hm hge
        generalize headL (decide (192 ≤ (s[0]'h0).toNat)) (leV (s.data.toList.tail.take k).reverse) = t at *
        generalize leV (s.data.toList.tail.take k).reverse = v at *
        generalize decide (192 ≤ (s[0]'h0).toNat) = l at *
        go_enter Tryz.func64, Tryz.ntmps64
        go_wp2_with (first | (go_at_call 74; refine (HC.out _).mono ?_; rintro e w1 ⟨rfl, hb1⟩; rw [pairV]) | (go_at_call 38; refine (HP.out _).mono ?_; rintro e w2 ⟨rfl, hb2⟩) | (go_at_call 75; refine (HA.out _).mono ?_; rintro e w3 ⟨rfl, rfl⟩))
        exact quad_ret rfl rfl ⟨rfl, below_step hb1 hb2⟩
    · have i16 : decide ((65535 : Int) < ((leV (s.data.toList.tail.take k).reverse : Nat) : Int)) = true := decide_eq_true (by omega)
      have hk3 : ¬ k ≤ 2 := fun h => by
        have h1 := leV_rev_lt s.data.toList.tail k hr
        have h2 : 2 ^ (8 * k) ≤ 2 ^ 16 := Nat.pow_le_pow_right (by decide) (by omega)
        omega
      have eb : hl (decide (192 ≤ (s[0]'h0).toNat)) s.data.toList.tail k = (false, 0, 0, false) := by unfold hl; rw [if_neg (fun h => hk3 h.1)]
      rw [eb]
      have HC : Hid _ := C
      clear C hr eg eb hk hk1 hk8 h16 hm hge hk3
      generalize leV (s.data.toList.tail.take k).reverse = v at *
      generalize decide (192 ≤ (s[0]'h0).toNat) = l at *
      go_enter Tryz.func64, Tryz.ntmps64
      go_wp2_with (go_at_call 74; refine (HC.out _).mono ?_; rintro e w1 ⟨rfl, hb1⟩; rw [pairV])
      exact quad_ret rfl rfl ⟨rfl, hb1⟩
  · have eg : getBe s.data.toList.tail k = (0, false) := by unfold getBe; rw [if_neg (by omega)]
    rw [eg, show (k : Int) = ((s[0]'h0).toNat : Int) % 64 - 55 from by omega] at C
    have eb : hl (decide (192 ≤ (s[0]'h0).toNat)) s.data.toList.tail k = (false, 0, 0, false) := by unfold hl; rw [if_neg (fun h => hr h.2.1)]
    rw [eb]
    have HC : Hid _ := C
    clear C hr eg eb hk hk1 hk8 hm hge
    generalize decide (192 ≤ (s[0]'h0).toNat) = l at *
    go_enter Tryz.func64, Tryz.ntmps64
    go_wp2_with (go_at_call 74; refine (HC.out _).mono ?_; rintro e w1 ⟨rfl, hb1⟩; rw [pairV])
    exact quad_ret rfl rfl ⟨rfl, hb1⟩
set_option maxRecDepth 100000 in
set_option maxHeartbeats 1000000 in
theorem specGetHead_any (s : ByteArray) (w : World) (hs : s.size ≤ 1048576) : Calls Tryz.prog 64 #[.string s] w fun e w' => e = .returned (quadV (getHead s.data.toList)) ∧ Below w.heap.size w w' := by
  by_cases h0 : 0 < s.size
  · rw [data_cons s h0]
    simp only [getHead]
    by_cases h1 : (s[0]'h0).toNat < 128
    · rw [if_pos h1]
      have hne := isEmpty_no s h0
      have h128 : decide (((s[0]'h0).toNat : Int) < 128) = true := decide_eq_true (by omega)
      go_enter Tryz.func64, Tryz.ntmps64
      go_wp2
      exact quad_ret rfl rfl ⟨rfl, Below.refl _ _⟩
    · rw [if_neg h1]
      by_cases h2 : (s[0]'h0).toNat % 64 < 56
      · rw [if_pos h2]; exact specGetHead_lo s w hs h0 (by omega) h2
      · rw [if_neg h2]; exact specGetHead_hi s w hs h0 (by omega) (by omega)
  · have hne := isEmpty_yes s h0
    rw [data_nil s h0]
    go_enter Tryz.func64, Tryz.ntmps64
    go_wp2
    exact quad_ret rfl rfl ⟨rfl, Below.refl _ _⟩
end Go.Proofs.YtdncnjmlicdamaaGreatDoor
namespace Go.Proofs.YtdncnjmlicdamaaGreatDoor
open Go.RowKit
set_option linter.unusedVariables false
/-- A number that shares its k bytes with two bits: at least so much. -/
def cw (l : List UInt8) (k least : Nat) : Nat × Nat × Bool := if k ≤ l.length ∧ least ≤ leV (l.take k) / 4 then (leV (l.take k) / 4, k, true) else (0, 0, false)
/-- A longer one, in k bytes behind the first. -/
def cl (r : List UInt8) (k : Nat) : Nat × Nat × Bool := if k ≤ 8 ∧ k ≤ r.length ∧ 1073741824 ≤ leV (r.take k) ∧ by8 (leV (r.take k)) = k then (leV (r.take k), 1 + k, true) else (0, 0, false)
def getCompact : List UInt8 → Nat × Nat × Bool
  | [] => (0, 0, false)
  | b :: r => if b.toNat % 4 = 0 then cw (b :: r) 1 0 else if b.toNat % 4 = 1 then cw (b :: r) 2 64 else if b.toNat % 4 = 2 then cw (b :: r) 4 16384 else cl r (b.toNat / 4 + 4)
theorem and3 (b : UInt8) : bits BinOp.and IntKind.u8 (b.toNat : Int) 3 = ((b.toNat % 4 : Nat) : Int) := by
  have hb := b.toNat_lt
  have h := u8_and_nat b.toNat 3 (by omega) (by decide)
  rw [show ((3 : Nat) : Int) = 3 from rfl] at h
  rw [h, show b.toNat &&& 3 = b.toNat % 4 from Nat.and_two_pow_sub_one_eq_mod b.toNat 2]
theorem listLen (s : ByteArray) : s.data.toList.length = s.size := Array.length_toList
theorem wide4 (b : UInt8) : wrap64 (wrap64 ((b.toNat : Int) / 4) + 4) = ((b.toNat / 4 + 4 : Nat) : Int) := by
  have hb := b.toNat_lt
  simp only [wrap64]
  omega
end Go.Proofs.YtdncnjmlicdamaaGreatDoor
namespace Go.Proofs.YtdncnjmlicdamaaGreatDoor
open Go.RowKit
set_option linter.unusedVariables false
/-- The two bits of a compact number's form. -/
def tag (n : Nat) : Nat := if n < 64 then 0 else if n < 16384 then 1 else if n < 1073741824 then 2 else 3
theorem putCompact_first (n : Nat) : ∃ c t, putCompact n = c :: t ∧ c.toNat % 4 = tag n := by
  unfold putCompact tag
  by_cases h1 : n < 64
  · rw [if_pos h1, if_pos h1, leL_cons]
    exact ⟨_, _, rfl, by rw [UInt8.toNat_ofNat']; omega⟩
  · rw [if_neg h1, if_neg h1]
    by_cases h2 : n < 16384
    · rw [if_pos h2, if_pos h2, leL_cons]
      exact ⟨_, _, rfl, by rw [UInt8.toNat_ofNat']; omega⟩
    · rw [if_neg h2, if_neg h2]
      by_cases h3 : n < 1073741824
      · rw [if_pos h3, if_pos h3, leL_cons]
        exact ⟨_, _, rfl, by rw [UInt8.toNat_ofNat']; omega⟩
      · rw [if_neg h3, if_neg h3, leL_cons]
        exact ⟨_, _, rfl, by rw [UInt8.toNat_ofNat']; omega⟩
theorem putCompact_not (n : Nat) (b : UInt8) (r : List UInt8) (h : b.toNat % 4 ≠ tag n) : ahead (b :: r) (putCompact n) = false := by
  obtain ⟨c, t, e, hc⟩ := putCompact_first n
  rw [e]
  refine ahead_ne _ _ _ _ (fun hb => h ?_)
  rw [hb]; exact hc
theorem putCompact_len (n : Nat) (hn : n < 18446744073709551616) : (putCompact n).length ≤ 9 := by
  have h8 := by8_8 n hn
  unfold putCompact
  repeat' split
  all_goals simp [leL_len]
  omega
theorem leV_mod (b : UInt8) (r : List UInt8) (k : Nat) (hk : 1 ≤ k) : leV ((b :: r).take k) % 4 = b.toNat % 4 := by
  match k with
  | 0 => omega
  | k + 1 => rw [List.take_succ_cons]; simp only [leV]; omega
theorem ahead_take (l : List UInt8) (k : Nat) (h : k ≤ l.length) : ahead l (l.take k) = true := by
  unfold ahead
  rw [beq_iff_eq, List.length_take, Nat.min_eq_left h]
theorem putCompact_0 (b : UInt8) (r : List UInt8) (hb : b.toNat % 4 = 0) (hk : 1 ≤ (b :: r).length) (hle : 0 ≤ leV ((b :: r).take 1) / 4) : putCompact (leV ((b :: r).take 1) / 4) = (b :: r).take 1 := by
  have h1 := leV_take_lt (b :: r) 1 hk
  have h1' : leV ((b :: r).take 1) / 4 < 64 := by omega
  have h2 := leV_mod b r 1 (by decide)
  have e := leL_take (b :: r) 1 hk
  generalize leV ((b :: r).take 1) = v at *
  have ev : 4 * (v / 4) + 0 = v := by omega
  unfold putCompact
  rcases (show (0 = 0 ∧ v / 4 < 64) ∨ (0 = 1 ∧ ¬ v / 4 < 64 ∧ v / 4 < 16384) ∨ (0 = 2 ∧ ¬ v / 4 < 64 ∧ ¬ v / 4 < 16384 ∧ v / 4 < 1073741824) from by omega) with h | h | h
  · rw [if_pos h.2]; rw [show 4 * (v / 4) = v from by omega]; first | exact e | exact absurd h.1 (by decide)
  · rw [if_neg h.2.1, if_pos h.2.2]; rw [show 4 * (v / 4) + 1 = v from by omega]; first | exact e | exact absurd h.1 (by decide)
  · rw [if_neg h.2.1, if_neg h.2.2.1, if_pos h.2.2.2]; rw [show 4 * (v / 4) + 2 = v from by omega]; first | exact e | exact absurd h.1 (by decide)
theorem putCompact_1 (b : UInt8) (r : List UInt8) (hb : b.toNat % 4 = 1) (hk : 2 ≤ (b :: r).length) (hle : 64 ≤ leV ((b :: r).take 2) / 4) : putCompact (leV ((b :: r).take 2) / 4) = (b :: r).take 2 := by
  have h1 := leV_take_lt (b :: r) 2 hk
  have h1' : leV ((b :: r).take 2) / 4 < 16384 := by omega
  have h2 := leV_mod b r 2 (by decide)
  have e := leL_take (b :: r) 2 hk
  generalize leV ((b :: r).take 2) = v at *
  have ev : 4 * (v / 4) + 1 = v := by omega
  unfold putCompact
  rcases (show (1 = 0 ∧ v / 4 < 64) ∨ (1 = 1 ∧ ¬ v / 4 < 64 ∧ v / 4 < 16384) ∨ (1 = 2 ∧ ¬ v / 4 < 64 ∧ ¬ v / 4 < 16384 ∧ v / 4 < 1073741824) from by omega) with h | h | h
  · rw [if_pos h.2]; rw [show 4 * (v / 4) = v from by omega]; first | exact e | exact absurd h.1 (by decide)
  · rw [if_neg h.2.1, if_pos h.2.2]; rw [show 4 * (v / 4) + 1 = v from by omega]; first | exact e | exact absurd h.1 (by decide)
  · rw [if_neg h.2.1, if_neg h.2.2.1, if_pos h.2.2.2]; rw [show 4 * (v / 4) + 2 = v from by omega]; first | exact e | exact absurd h.1 (by decide)
theorem putCompact_2 (b : UInt8) (r : List UInt8) (hb : b.toNat % 4 = 2) (hk : 4 ≤ (b :: r).length) (hle : 16384 ≤ leV ((b :: r).take 4) / 4) : putCompact (leV ((b :: r).take 4) / 4) = (b :: r).take 4 := by
  have h1 := leV_take_lt (b :: r) 4 hk
  have h1' : leV ((b :: r).take 4) / 4 < 1073741824 := by omega
  have h2 := leV_mod b r 4 (by decide)
  have e := leL_take (b :: r) 4 hk
  generalize leV ((b :: r).take 4) = v at *
  have ev : 4 * (v / 4) + 2 = v := by omega
  unfold putCompact
  rcases (show (2 = 0 ∧ v / 4 < 64) ∨ (2 = 1 ∧ ¬ v / 4 < 64 ∧ v / 4 < 16384) ∨ (2 = 2 ∧ ¬ v / 4 < 64 ∧ ¬ v / 4 < 16384 ∧ v / 4 < 1073741824) from by omega) with h | h | h
  · rw [if_pos h.2]; rw [show 4 * (v / 4) = v from by omega]; first | exact e | exact absurd h.1 (by decide)
  · rw [if_neg h.2.1, if_pos h.2.2]; rw [show 4 * (v / 4) + 1 = v from by omega]; first | exact e | exact absurd h.1 (by decide)
  · rw [if_neg h.2.1, if_neg h.2.2.1, if_pos h.2.2.2]; rw [show 4 * (v / 4) + 2 = v from by omega]; first | exact e | exact absurd h.1 (by decide)
theorem putCompact_long (b : UInt8) (r : List UInt8) (k : Nat) (hb : b.toNat = 4 * (k - 4) + 3) (hk : k ≤ r.length) (h30 : 1073741824 ≤ leV (r.take k)) (hbk : by8 (leV (r.take k)) = k) : putCompact (leV (r.take k)) = b :: r.take k := by
  have e := leL_take r k hk
  unfold putCompact
  rw [if_neg (by omega), if_neg (by omega), if_neg (by omega), hbk, e, leL_cons]
  rw [← hb, UInt8.ofNat_toNat]
  rfl
theorem putCompact_other (b : UInt8) (r r' : List UInt8) (k v : Nat) (hv : v < 18446744073709551616) (hk4 : 4 ≤ k) (hb : b.toNat = 4 * (k - 4) + 3) (h : ¬ (1073741824 ≤ v ∧ by8 v = k)) : ahead (b :: r) (putCompact v) = false := by
  by_cases h30 : 1073741824 ≤ v
  · have hbk : by8 v ≠ k := fun e => h ⟨h30, e⟩
    have h4 := by8_4 v (by omega)
    have h8 := by8_8 v hv
    unfold putCompact
    rw [if_neg (by omega), if_neg (by omega), if_neg (by omega), leL_cons]
    refine ahead_ne _ _ _ _ (fun hc => ?_)
    have := congrArg UInt8.toNat hc
    rw [UInt8.toNat_ofNat', hb] at this
    omega
  · refine putCompact_not _ _ _ ?_
    unfold tag
    rw [hb]
    repeat' split
    all_goals omega
theorem wide4r (b : UInt8) : IntKind.i64.wrap (IntKind.i64.wrap (IntKind.u8.wrap ((b.toNat : Int) / 4)) + 4) = ((b.toNat / 4 + 4 : Nat) : Int) := by
  have hb := b.toNat_lt
  rw [IntKind.wrap_u8, IntKind.wrap_i64, IntKind.wrap_i64]
  omega
end Go.Proofs.YtdncnjmlicdamaaGreatDoor
