/- The sum of a frame, both sides: contracts. -/
import Derived.Test.YtgidjhgaeghanaaDoorG7a
namespace Go.Proofs.YtgidjhgaeghanaaDoor
open Go.RowKit
set_option linter.unusedVariables false
theorem crByte_def (c : Nat) (b : UInt8) : crByte c b = crBits 8 (c ^^^ b.toNat) := rfl
theorem xor_ones32 (b : Nat) (hb : b < 2 ^ 32) : (2 ^ 32 - 1) ^^^ b = 2 ^ 32 - 1 - b := by
  apply Nat.eq_of_testBit_eq
  intro i
  rw [Nat.testBit_xor, Nat.testBit_two_pow_sub_one, show 2 ^ 32 - 1 - b = 2 ^ 32 - (b + 1) by omega, Nat.testBit_two_pow_sub_succ hb]
  by_cases hi : i < 32
  · simp [hi]
  · have : b.testBit i = false := Nat.testBit_lt_two_pow (Nat.lt_of_lt_of_le hb (Nat.pow_le_pow_right (by decide) (by omega)))
    simp [hi, this]
theorem not_u32 (c : Nat) (hc : c < 4294967296) : bits .xor .u32 IntKind.u32.max (c : Int) = ((4294967295 - c : Nat) : Int) := by
  rw [show IntKind.u32.max = ((4294967295 : Nat) : Int) from rfl, u32_xor_nat _ _ (by decide) hc]
  exact congrArg Int.ofNat (xor_ones32 c hc)
theorem ofNat_mod (x : Nat) : UInt8.ofNat (x % 256) = UInt8.ofNat x := by
  apply UInt8.toNat_inj.1; simp
theorem leL4 (d : Nat) : leL d 4 = [UInt8.ofNat (d % 256), UInt8.ofNat (d / 256 % 256), UInt8.ofNat (d / 65536 % 256), UInt8.ofNat (d / 16777216 % 256)] := by
  rw [ofNat_mod, ofNat_mod, ofNat_mod, ofNat_mod]
  rw [leL_succ, leL_succ, leL_succ, leL_succ]
  simp [leL, byt]
theorem conv4 (w : World) (x0 x1 x2 x3 : Nat) (z0 z1 z2 z3 : Int) (h0 : x0 < 256) (h1 : x1 < 256) (h2 : x2 < 256) (h3 : x3 < 256) (e0 : z0 = (x0 : Int)) (e1 : z1 = (x1 : Int)) (e2 : z2 = (x2 : Int)) (e3 : z3 = (x3 : Int)) : (convert 22 9 (.slice (some ⟨w.heap.size, 0, none⟩) 4 4)).run Tryd.prog (w.alloc (.cells #[.int .u8 z0, .int .u8 z1, .int .u8 z2, .int .u8 z3] 5)) = .ok (.string ⟨#[UInt8.ofNat x0, UInt8.ofNat x1, UInt8.ofNat x2, UInt8.ofNat x3]⟩) (w.alloc (.cells #[.int .u8 z0, .int .u8 z1, .int .u8 z2, .int .u8 z3] 5)) := by
  subst e0 e1 e2 e3
  have hb0 : bv (UInt8.ofNat x0) = .int .u8 (x0 : Int) := by simp [bv]; omega
  have hb1 : bv (UInt8.ofNat x1) = .int .u8 (x1 : Int) := by simp [bv]; omega
  have hb2 : bv (UInt8.ofNat x2) = .int .u8 (x2 : Int) := by simp [bv]; omega
  have hb3 : bv (UInt8.ofNat x3) = .int .u8 (x3 : Int) := by simp [bv]; omega
  have ho := World.ownsRow_lit (base := w.heap.size) (e := 5) (size := 1) w #[bv (UInt8.ofNat x0), bv (UInt8.ofNat x1), bv (UInt8.ofNat x2), bv (UInt8.ofNat x3)] 4 (Nat.le_refl _) (by decide) rfl
  have hc := conv_own (P := Tryd.prog) 22 9 Tryd.underlying22 Tryd.underlying5 Tryd.underlying9 (l := [UInt8.ofNat x0, UInt8.ofNat x1, UInt8.ofNat x2, UInt8.ofNat x3]) (by simpa using ho)
  rw [hb0, hb1, hb2, hb3] at hc
  simpa using hc
theorem conv4b (W : World) (b : Nat) (x0 x1 x2 x3 : Nat) (z0 z1 z2 z3 : Int) (h0 : x0 < 256) (h1 : x1 < 256) (h2 : x2 < 256) (h3 : x3 < 256) (e0 : z0 = (x0 : Int)) (e1 : z1 = (x1 : Int)) (e2 : z2 = (x2 : Int)) (e3 : z3 = (x3 : Int)) (h : W.heap[b]? = some (.cells #[.int .u8 z0, .int .u8 z1, .int .u8 z2, .int .u8 z3] 5 (0, 0))) : (convert 22 9 (.slice (some ⟨b, 0, none⟩) 4 4)).run Tryd.prog W = .ok (.string ⟨#[UInt8.ofNat x0, UInt8.ofNat x1, UInt8.ofNat x2, UInt8.ofNat x3]⟩) W := by
  subst e0 e1 e2 e3
  have hb : ∀ x, x < 256 → bv (UInt8.ofNat x) = .int .u8 (x : Int) := fun x hx => by simp [bv]; omega
  refine run_convert_bytes_back W 22 9 5 ⟨b, 0, none⟩ 4 [UInt8.ofNat x0, UInt8.ofNat x1, UInt8.ofNat x2, UInt8.ofNat x3] Tryd.underlying22 Tryd.underlying5 Tryd.underlying9 (fun j hj => ?_)
  rw [show ((⟨b, 0, none⟩ : Addr).add j) = ⟨b, j, none⟩ from by unfold Addr.add; split <;> simp_all, cell_of_row W b j _ _ _ h]
  match j, hj with
  | 0, _ => exact congrArg some (hb x0 h0).symm
  | 1, _ => exact congrArg some (hb x1 h1).symm
  | 2, _ => exact congrArg some (hb x2 h2).symm
  | 3, _ => exact congrArg some (hb x3 h3).symm
set_option maxRecDepth 100000 in
set_option maxHeartbeats 1000000 in
theorem crcOf_any (s : ByteArray) (w : World) (hw : KR w) (hs : s.size ≤ 1048577) : Calls Tryd.prog 21 #[.string s] w fun e w' => e = .returned (.int .u32 (crc s.data.toList)) ∧ w' = w := by
  have hl : s.data.toList.length = s.size := Array.length_toList
  have HW : Hid (KR w) := hw
  clear hw
  go_enter Tryd.func21, Tryd.ntmps21
  go_wp2
  go_loop [3, 7] (fun v i => ∃ j : Nat, j ≤ s.size ∧ i = .int .i64 j ∧ v = .int .u32 (crc0 (s.data.toList.take j) : Nat)) (fun _ i => s.size - (intOf i).toNat)
  case atStart => exact ⟨0, Nat.zero_le _, rfl, rfl⟩
  case round =>
    obtain ⟨j, hj, rfl, rfl⟩ := hrel
    have hlt0 := crc0_lt (s.data.toList.take j)
    by_cases hlt : j < s.size
    · have HE : Hid (crc0 (s.data.toList.take (j + 1)) = crByte (crc0 (s.data.toList.take j)) s[j]) := by show _ = _; rw [take_snoc s j hlt, crc0_snoc]
      rw [show s.data.toList.take (j + 1) = s.data.toList.take (j + 1) from rfl] at HE
      generalize crc0 (s.data.toList.take j) = c at HE hlt0 ⊢
      obtain ⟨b, hb⟩ : ∃ b : Nat, s[j].toNat = b := ⟨_, rfl⟩
      have hb2 : b < 256 := by rw [← hb]; exact s[j].toNat_lt
      obtain ⟨x, hx⟩ : ∃ x : Nat, c ^^^ b = x := ⟨_, rfl⟩
      have hxl : x < 4294967296 := by rw [← hx, ← hb]; exact xor_lt c _ hlt0
      obtain ⟨r, hr⟩ : ∃ r : Nat, x % 16 = r := ⟨_, rfl⟩
      have hr16 : r < 16 := by omega
      obtain ⟨y, hy⟩ : ∃ y : Nat, x / 16 ^^^ crT r = y := ⟨_, rfl⟩
      have hyl : y < 4294967296 := by rw [← hy]; exact Nat.xor_lt_two_pow (n := 32) (by omega) (crT_lt r hr16)
      obtain ⟨r', hr'⟩ : ∃ r : Nat, y % 16 = r := ⟨_, rfl⟩
      have hr16' : r' < 16 := by omega
      obtain ⟨z, hz⟩ : ∃ z : Nat, y / 16 ^^^ crT r' = z := ⟨_, rfl⟩
      have HZ : Hid (crc0 (s.data.toList.take (j + 1)) = z) := by
        show _ = _
        rw [HE.out, crByte_def, hb, hx, crBits_add 4 4, crNib x, hr, hy, crNib y, hr', hz]
      have f1 : bits .xor .u32 (c : Int) (b : Int) = (x : Int) := by rw [u32_xor_nat _ _ hlt0 (by omega), hx]
      have f2 : bits .xor .u32 ((x : Int) / 16) (crT r : Int) = (y : Int) := by rw [show ((x : Int) / 16) = ((x / 16 : Nat) : Int) from by simp, u32_xor_nat _ _ (by omega) (crT_lt r hr16), hy]
      have f3 : bits .xor .u32 ((y : Int) / 16) (crT r' : Int) = (z : Int) := by rw [show ((y : Int) / 16) = ((y / 16 : Nat) : Int) from by simp, u32_xor_nat _ _ (by omega) (crT_lt r' hr16'), hz]
      have g1 : (x : Int) % 16 = (r : Int) := by omega
      have g2 : (y : Int) % 16 = (r' : Int) := by omega
      have c1 := HW.out.cell r hr16
      have c2 := HW.out.cell r' hr16'
      generalize crT r = t at *
      generalize crT r' = t' at *
      have hb3 : (s[j].toNat : Int) = (b : Int) := by rw [hb]
      clear HE hx hr hy hr' hz hb
      go_wp2
      go_round
      case rel => exact ⟨j + 1, by omega, by go_num, by rw [HZ.out]⟩
      case measure => simp [intOf]; omega
    · have ej : j = s.size := by omega
      subst ej
      rw [List.take_of_length_le (by omega)]  at hlt0 ⊢
      go_wp2
      go_ret
      refine ⟨?_, rfl⟩
      have := not_u32 _ hlt0
      unfold crc
      simp [this]
set_option maxRecDepth 100000 in
set_option maxHeartbeats 1000000 in
theorem l15Sum_any (s : ByteArray) (w : World) (hs : s.size ≤ 1048577) : Calls Tryd.prog 17 #[.string s] w fun e w' => e = .returned (.string ⟨(leL (crc s.data.toList) 4).toArray⟩) ∧ Below w.heap.size w w' := by
  have hl : s.data.toList.length = s.size := Array.length_toList
  go_enter Tryd.func17, Tryd.ntmps17
  go_wp2
  go_loop [3, 4] (fun v i => ∃ j : Nat, j ≤ s.size ∧ i = .int .i64 j ∧ v = .int .u32 (crc0 (s.data.toList.take j) : Nat)) (fun _ i => s.size - (intOf i).toNat)
  case atStart => exact ⟨0, Nat.zero_le _, rfl, rfl⟩
  case round =>
    obtain ⟨j, hj, rfl, rfl⟩ := hrel
    have hlt0 := crc0_lt (s.data.toList.take j)
    by_cases hlt : j < s.size
    · have HE : Hid (crc0 (s.data.toList.take (j + 1)) = crByte (crc0 (s.data.toList.take j)) s[j]) := by show _ = _; rw [take_snoc s j hlt, crc0_snoc]
      generalize crc0 (s.data.toList.take j) = c at HE hlt0 ⊢
      obtain ⟨b, hb⟩ : ∃ b : Nat, s[j].toNat = b := ⟨_, rfl⟩
      have hb2 : b < 256 := by rw [← hb]; exact s[j].toNat_lt
      obtain ⟨x, hx⟩ : ∃ x : Nat, c ^^^ b = x := ⟨_, rfl⟩
      have hxl : x < 4294967296 := by rw [← hx, ← hb]; exact xor_lt c _ hlt0
      have HZ : Hid (crc0 (s.data.toList.take (j + 1)) = crBits 8 x) := by
        show _ = _
        rw [HE.out, crByte_def, hb, hx]
      have f1 : bits .xor .u32 (c : Int) (b : Int) = (x : Int) := by rw [u32_xor_nat _ _ hlt0 (by omega), hx]
      have hb3 : (s[j].toNat : Int) = (b : Int) := by rw [hb]
      clear HE hx hb
      go_wp2
      go_loop [3, 5] (fun v i => ∃ k : Nat, k ≤ 8 ∧ i = .int .i64 k ∧ v = .int .u32 (crBits k x : Nat)) (fun _ i => 8 - (intOf i).toNat)
      case atStart => exact ⟨0, Nat.zero_le _, rfl, rfl⟩
      case round =>
        obtain ⟨k, hk, rfl, rfl⟩ := hrel
        have hcl := crBits_lt k x hxl
        by_cases hk8 : k < 8
        · have HS : Hid (crBits (k + 1) x = crStep (crBits k x)) := crBits_snoc k x
          generalize crBits k x = y at HS hcl ⊢
          by_cases ho : y % 2 = 1
          · have HQ : Hid (crBits (k + 1) x = y / 2 ^^^ 3988292384) := by show _ = _; rw [HS.out]; unfold crStep; rw [if_pos ho]
            obtain ⟨z, hz⟩ : ∃ z, y / 2 ^^^ 3988292384 = z := ⟨_, rfl⟩
            have f2 : bits .xor .u32 ((y : Int) / 2) 3988292384 = (z : Int) := by rw [show ((y : Int) / 2) = ((y / 2 : Nat) : Int) from by simp, show (3988292384 : Int) = ((3988292384 : Nat) : Int) from rfl, u32_xor_nat _ _ (by omega) (by decide), hz]
            rw [hz] at HQ
            have ho2 : (y : Int) % 2 = 1 := by omega
            clear hz HS ho
            go_wp2
            go_round
            case rel => exact ⟨k + 1, by omega, by go_num, by rw [HQ.out]⟩
            case measure => simp [intOf]; omega
          · have HQ : Hid (crBits (k + 1) x = y / 2) := by show _ = _; rw [HS.out]; unfold crStep; rw [if_neg ho]
            have ho2 : (y : Int) % 2 = 0 := by omega
            clear HS ho
            go_wp2
            go_round
            case rel => exact ⟨k + 1, by omega, by go_num, by rw [HQ.out]; first | rfl | simp⟩
            case measure => simp [intOf]; omega
        · obtain rfl : k = 8 := by omega
          go_wp2
          go_round
          case rel => exact ⟨j + 1, by omega, by go_num, by rw [HZ.out]⟩
          case measure => simp [intOf]; omega
    · have ej : j = s.size := by omega
      subst ej
      rw [List.take_of_length_le (by omega)]  at hlt0 ⊢
      have hn := not_u32 _ hlt0
      have HC : Hid (crc s.data.toList = 4294967295 - crc0 s.data.toList) := rfl
      generalize crc0 s.data.toList = c0 at *
      obtain ⟨d, hd⟩ : ∃ d, 4294967295 - c0 = d := ⟨_, rfl⟩
      have hdl : d < 4294967296 := by omega
      have HD : Hid (crc s.data.toList = d) := by show _ = _; rw [HC.out, hd]
      rw [hd] at hn
      clear hd HC
      have hc := conv4 w (d % 256) (d / 256 % 256) (d / 65536 % 256) (d / 16777216 % 256) ((d : Int) % 256) ((d : Int) / 256 % 256) ((d : Int) / 65536 % 256) ((d : Int) / 16777216 % 256) (by omega) (by omega) (by omega) (by omega) (by omega) (by omega) (by omega) (by omega)
      go_wp2
      go_ret
      refine ⟨?_, (Below.refl _ _).alloc (Nat.le_refl _) _⟩
      rw [HD.out, leL4]
      rfl
end Go.Proofs.YtgidjhgaeghanaaDoor
