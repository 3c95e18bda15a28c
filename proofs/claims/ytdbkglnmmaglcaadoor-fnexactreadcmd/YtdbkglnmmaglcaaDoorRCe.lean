/- The command that has a text, by the program: contracts. -/
import Derived.Test.YtdbkglnmmaglcaaDoorRCd
namespace Go.Proofs.YtdbkglnmmaglcaaDoor
open Go.RowKit Go.Sort
set_option linter.unusedVariables false
set_option maxRecDepth 100000 in
set_option maxHeartbeats 2000000 in
theorem formatNamed_any (t : ByteArray) (w : World) (hw : KR w) : Calls Tryd.prog 29 #[.string t] w fun e w' => e = .returned (.int .i64 (fmtIx t)) ∧ w' = w := by
  have g0 := hw.cell 0 (by decide)
  have g1 := hw.cell 1 (by decide)
  have g2 := hw.cell 2 (by decide)
  have g3 := hw.cell 3 (by decide)
  have g4 := hw.cell 4 (by decide)
  simp only [fmtS] at g0 g1 g2 g3 g4
  go_enter Tryd.func29, Tryd.ntmps29
  go_wp2_with fail
  clear g0 g1 g2 g3 g4
  go_loopg [6] 5 (fun gk i wr => ∃ j : Nat, j + gk = 5 ∧ i = .int .i64 j ∧ (∀ r, r < j → t ≠ fmtS r) ∧ wr = w)
  case atStart => exact ⟨0, rfl, rfl, fun r hr => by omega, rfl⟩
  case round =>
    obtain ⟨j, hj', rfl, hno, hw⟩ := hrel
    subst hw
    have HJ : Hid (j + gk = 5) := hj'
    have HNO : Hid (∀ r, r < j → t ≠ fmtS r) := hno
    have hj : j ≤ 5 := by omega
    clear hno hj'
    match j, hj with
    | 0, _ =>
      by_cases he : t = fmtS 0
      · have HR : Hid (fmtIx t = (0 : Nat) + 1) := by show _ = _; rw [he]; exact fmtIx_fmt 0 (by decide)
        have hq : (([114, 108, 112] : List UInt8) == t.toList) = true := by rw [he, show fmtS 0 = ⟨([114, 108, 112] : List UInt8).toArray⟩ from rfl, toL]; rfl
        have hix : (Instr.index 45 (.agg #[.string ⟨#[114, 108, 112]⟩, .string ⟨#[115, 115, 122]⟩, .string ⟨#[115, 99, 97, 108, 101]⟩, .string ⟨#[112, 114, 111, 116, 111]⟩, .string ⟨#[98, 105, 116, 99, 111, 105, 110]⟩]) (.int .i64 0)).run Tryd.prog wr = .ok (.string ⟨#[114, 108, 112]⟩) wr := by kernel_rfl
        clear he
        go_wp2_with fail
        go_ret
        exact ⟨by rw [HR.out]; rfl, rfl⟩
      · have HNX : Hid (∀ r, r < 1 → t ≠ fmtS r) := fun r hr => by
          rcases Nat.lt_or_ge r 0 with h | h
          · exact HNO.out r h
          · obtain rfl : r = 0 := by omega
            exact he
        have hq : (([114, 108, 112] : List UInt8) == t.toList) = false := by
          rw [beq_eq_false_iff_ne]; exact fun e => he (eq_of_toList (by rw [← e, show fmtS 0 = ⟨([114, 108, 112] : List UInt8).toArray⟩ from rfl, toL]))
        have hix : (Instr.index 45 (.agg #[.string ⟨#[114, 108, 112]⟩, .string ⟨#[115, 115, 122]⟩, .string ⟨#[115, 99, 97, 108, 101]⟩, .string ⟨#[112, 114, 111, 116, 111]⟩, .string ⟨#[98, 105, 116, 99, 111, 105, 110]⟩]) (.int .i64 0)).run Tryd.prog wr = .ok (.string ⟨#[114, 108, 112]⟩) wr := by kernel_rfl
        clear he
        go_wp2_with fail
        go_roundg (gk - 1)
        case rel => exact ⟨1, by have := HJ.out; omega, rfl, HNX.out, rfl⟩
        case measure => have := HJ.out; omega
    | 1, _ =>
      by_cases he : t = fmtS 1
      · have HR : Hid (fmtIx t = (1 : Nat) + 1) := by show _ = _; rw [he]; exact fmtIx_fmt 1 (by decide)
        have hq : (([115, 115, 122] : List UInt8) == t.toList) = true := by rw [he, show fmtS 1 = ⟨([115, 115, 122] : List UInt8).toArray⟩ from rfl, toL]; rfl
        have hix : (Instr.index 45 (.agg #[.string ⟨#[114, 108, 112]⟩, .string ⟨#[115, 115, 122]⟩, .string ⟨#[115, 99, 97, 108, 101]⟩, .string ⟨#[112, 114, 111, 116, 111]⟩, .string ⟨#[98, 105, 116, 99, 111, 105, 110]⟩]) (.int .i64 1)).run Tryd.prog wr = .ok (.string ⟨#[115, 115, 122]⟩) wr := by kernel_rfl
        clear he
        go_wp2_with fail
        go_ret
        exact ⟨by rw [HR.out]; rfl, rfl⟩
      · have HNX : Hid (∀ r, r < 2 → t ≠ fmtS r) := fun r hr => by
          rcases Nat.lt_or_ge r 1 with h | h
          · exact HNO.out r h
          · obtain rfl : r = 1 := by omega
            exact he
        have hq : (([115, 115, 122] : List UInt8) == t.toList) = false := by
          rw [beq_eq_false_iff_ne]; exact fun e => he (eq_of_toList (by rw [← e, show fmtS 1 = ⟨([115, 115, 122] : List UInt8).toArray⟩ from rfl, toL]))
        have hix : (Instr.index 45 (.agg #[.string ⟨#[114, 108, 112]⟩, .string ⟨#[115, 115, 122]⟩, .string ⟨#[115, 99, 97, 108, 101]⟩, .string ⟨#[112, 114, 111, 116, 111]⟩, .string ⟨#[98, 105, 116, 99, 111, 105, 110]⟩]) (.int .i64 1)).run Tryd.prog wr = .ok (.string ⟨#[115, 115, 122]⟩) wr := by kernel_rfl
        clear he
        go_wp2_with fail
        go_roundg (gk - 1)
        case rel => exact ⟨2, by have := HJ.out; omega, rfl, HNX.out, rfl⟩
        case measure => have := HJ.out; omega
    | 2, _ =>
      by_cases he : t = fmtS 2
      · have HR : Hid (fmtIx t = (2 : Nat) + 1) := by show _ = _; rw [he]; exact fmtIx_fmt 2 (by decide)
        have hq : (([115, 99, 97, 108, 101] : List UInt8) == t.toList) = true := by rw [he, show fmtS 2 = ⟨([115, 99, 97, 108, 101] : List UInt8).toArray⟩ from rfl, toL]; rfl
        have hix : (Instr.index 45 (.agg #[.string ⟨#[114, 108, 112]⟩, .string ⟨#[115, 115, 122]⟩, .string ⟨#[115, 99, 97, 108, 101]⟩, .string ⟨#[112, 114, 111, 116, 111]⟩, .string ⟨#[98, 105, 116, 99, 111, 105, 110]⟩]) (.int .i64 2)).run Tryd.prog wr = .ok (.string ⟨#[115, 99, 97, 108, 101]⟩) wr := by kernel_rfl
        clear he
        go_wp2_with fail
        go_ret
        exact ⟨by rw [HR.out]; rfl, rfl⟩
      · have HNX : Hid (∀ r, r < 3 → t ≠ fmtS r) := fun r hr => by
          rcases Nat.lt_or_ge r 2 with h | h
          · exact HNO.out r h
          · obtain rfl : r = 2 := by omega
            exact he
        have hq : (([115, 99, 97, 108, 101] : List UInt8) == t.toList) = false := by
          rw [beq_eq_false_iff_ne]; exact fun e => he (eq_of_toList (by rw [← e, show fmtS 2 = ⟨([115, 99, 97, 108, 101] : List UInt8).toArray⟩ from rfl, toL]))
        have hix : (Instr.index 45 (.agg #[.string ⟨#[114, 108, 112]⟩, .string ⟨#[115, 115, 122]⟩, .string ⟨#[115, 99, 97, 108, 101]⟩, .string ⟨#[112, 114, 111, 116, 111]⟩, .string ⟨#[98, 105, 116, 99, 111, 105, 110]⟩]) (.int .i64 2)).run Tryd.prog wr = .ok (.string ⟨#[115, 99, 97, 108, 101]⟩) wr := by kernel_rfl
        clear he
        go_wp2_with fail
        go_roundg (gk - 1)
        case rel => exact ⟨3, by have := HJ.out; omega, rfl, HNX.out, rfl⟩
        case measure => have := HJ.out; omega
    | 3, _ =>
      by_cases he : t = fmtS 3
      · have HR : Hid (fmtIx t = (3 : Nat) + 1) := by show _ = _; rw [he]; exact fmtIx_fmt 3 (by decide)
        have hq : (([112, 114, 111, 116, 111] : List UInt8) == t.toList) = true := by rw [he, show fmtS 3 = ⟨([112, 114, 111, 116, 111] : List UInt8).toArray⟩ from rfl, toL]; rfl
        have hix : (Instr.index 45 (.agg #[.string ⟨#[114, 108, 112]⟩, .string ⟨#[115, 115, 122]⟩, .string ⟨#[115, 99, 97, 108, 101]⟩, .string ⟨#[112, 114, 111, 116, 111]⟩, .string ⟨#[98, 105, 116, 99, 111, 105, 110]⟩]) (.int .i64 3)).run Tryd.prog wr = .ok (.string ⟨#[112, 114, 111, 116, 111]⟩) wr := by kernel_rfl
        clear he
        go_wp2_with fail
        go_ret
        exact ⟨by rw [HR.out]; rfl, rfl⟩
      · have HNX : Hid (∀ r, r < 4 → t ≠ fmtS r) := fun r hr => by
          rcases Nat.lt_or_ge r 3 with h | h
          · exact HNO.out r h
          · obtain rfl : r = 3 := by omega
            exact he
        have hq : (([112, 114, 111, 116, 111] : List UInt8) == t.toList) = false := by
          rw [beq_eq_false_iff_ne]; exact fun e => he (eq_of_toList (by rw [← e, show fmtS 3 = ⟨([112, 114, 111, 116, 111] : List UInt8).toArray⟩ from rfl, toL]))
        have hix : (Instr.index 45 (.agg #[.string ⟨#[114, 108, 112]⟩, .string ⟨#[115, 115, 122]⟩, .string ⟨#[115, 99, 97, 108, 101]⟩, .string ⟨#[112, 114, 111, 116, 111]⟩, .string ⟨#[98, 105, 116, 99, 111, 105, 110]⟩]) (.int .i64 3)).run Tryd.prog wr = .ok (.string ⟨#[112, 114, 111, 116, 111]⟩) wr := by kernel_rfl
        clear he
        go_wp2_with fail
        go_roundg (gk - 1)
        case rel => exact ⟨4, by have := HJ.out; omega, rfl, HNX.out, rfl⟩
        case measure => have := HJ.out; omega
    | 4, _ =>
      by_cases he : t = fmtS 4
      · have HR : Hid (fmtIx t = (4 : Nat) + 1) := by show _ = _; rw [he]; exact fmtIx_fmt 4 (by decide)
        have hq : (([98, 105, 116, 99, 111, 105, 110] : List UInt8) == t.toList) = true := by rw [he, show fmtS 4 = ⟨([98, 105, 116, 99, 111, 105, 110] : List UInt8).toArray⟩ from rfl, toL]; rfl
        have hix : (Instr.index 45 (.agg #[.string ⟨#[114, 108, 112]⟩, .string ⟨#[115, 115, 122]⟩, .string ⟨#[115, 99, 97, 108, 101]⟩, .string ⟨#[112, 114, 111, 116, 111]⟩, .string ⟨#[98, 105, 116, 99, 111, 105, 110]⟩]) (.int .i64 4)).run Tryd.prog wr = .ok (.string ⟨#[98, 105, 116, 99, 111, 105, 110]⟩) wr := by kernel_rfl
        clear he
        go_wp2_with fail
        go_ret
        exact ⟨by rw [HR.out]; rfl, rfl⟩
      · have HNX : Hid (∀ r, r < 5 → t ≠ fmtS r) := fun r hr => by
          rcases Nat.lt_or_ge r 4 with h | h
          · exact HNO.out r h
          · obtain rfl : r = 4 := by omega
            exact he
        have hq : (([98, 105, 116, 99, 111, 105, 110] : List UInt8) == t.toList) = false := by
          rw [beq_eq_false_iff_ne]; exact fun e => he (eq_of_toList (by rw [← e, show fmtS 4 = ⟨([98, 105, 116, 99, 111, 105, 110] : List UInt8).toArray⟩ from rfl, toL]))
        have hix : (Instr.index 45 (.agg #[.string ⟨#[114, 108, 112]⟩, .string ⟨#[115, 115, 122]⟩, .string ⟨#[115, 99, 97, 108, 101]⟩, .string ⟨#[112, 114, 111, 116, 111]⟩, .string ⟨#[98, 105, 116, 99, 111, 105, 110]⟩]) (.int .i64 4)).run Tryd.prog wr = .ok (.string ⟨#[98, 105, 116, 99, 111, 105, 110]⟩) wr := by kernel_rfl
        clear he
        go_wp2_with fail
        go_roundg (gk - 1)
        case rel => exact ⟨5, by have := HJ.out; omega, rfl, HNX.out, rfl⟩
        case measure => have := HJ.out; omega
    | 5, _ =>
      have HR : Hid (fmtIx t = 0) := fmtIx_none HNO.out
      go_wp2_with fail
      go_ret
      exact ⟨by rw [HR.out]; rfl, rfl⟩
/-- What readDigits answers. -/
def rdV (t : List UInt8) : Value := match unhexL t with
  | some d => .tuple #[.string ⟨d.toArray⟩, .bool true]
  | none => .tuple #[.string ⟨#[]⟩, .bool false]
theorem unhex_len : ∀ (t d : List UInt8), unhexL t = some d → t.length = 2 * d.length := fun t d h => by rw [← hexL_unhex t d h, hexL_len]
theorem dg_none {b : UInt8} (h : digI b < 0) : dg b = none := by
  unfold digI at h
  split at h
  · omega
  · assumption
theorem dg_some {b : UInt8} {x : Nat} (h : digI b = (x : Int)) : dg b = some x := by
  unfold digI at h
  split at h
  · rename_i v hv; rw [hv]; congr 1; omega
  · omega
theorem take_split (s : ByteArray) (j : Nat) (h : 2 * j + 1 < s.size) : s.data.toList = s.data.toList.take (2 * j) ++ s[2 * j] :: s[2 * j + 1] :: s.data.toList.drop (2 * j + 2) := by
  have hl : s.data.toList.length = s.size := Array.length_toList
  conv => lhs; rw [← List.take_append_drop (2 * j) s.data.toList]
  rw [List.drop_eq_getElem_cons (by omega), List.drop_eq_getElem_cons (by omega)]
  rfl
theorem or_i64 (y1 y2 : Nat) (h1 : y1 < 16) (h2 : y2 < 16) : bits BinOp.or IntKind.i64 ((y1 : Int) * 16) (y2 : Int) = ((16 * y1 + y2 : Nat) : Int) := by
  have key : ∀ a b : Fin 16, bits BinOp.or IntKind.i64 ((a.1 : Int) * 16) (b.1 : Int) = ((16 * a.1 + b.1 : Nat) : Int) := by decide +kernel
  exact key ⟨y1, h1⟩ ⟨y2, h2⟩
set_option maxRecDepth 100000 in
set_option maxHeartbeats 4000000 in
theorem readDigits_any (s : ByteArray) (w : World) (hs : s.size ≤ 1048577) : Calls Tryd.prog 34 #[.string s] w fun e w' => e = .returned (rdV s.data.toList) ∧ Below w.heap.size w w' := by
  obtain ⟨i0, hi, hz0, hz1, hz2⟩ := info_parts Tryd.infoB8
  have hsl : s.data.toList.length = s.size := Array.length_toList
  have HIX : Hid (∀ (b : UInt8) (w : World), Calls Tryd.prog 36 #[.string ⟨#[48, 49, 50, 51, 52, 53, 54, 55, 56, 57, 97, 98, 99, 100, 101, 102]⟩, .int .u8 (b.toNat : Nat)] w fun e w' => e = .returned (.int .i64 (digI b)) ∧ w' = w) := fun b w => by
    have := Tryd.strings_IndexByte ⟨#[48, 49, 50, 51, 52, 53, 54, 55, 56, 57, 97, 98, 99, 100, 101, 102]⟩ (b.toNat : Nat) w
    have e : ((b.toNat : Int).toNat.toUInt8) = b := by simp
    rw [e] at this
    have e2 := index_hex b
    rw [show Lib.indexByte (⟨#[48, 49, 50, 51, 52, 53, 54, 55, 56, 57, 97, 98, 99, 100, 101, 102]⟩ : ByteArray).data.toList b = digI b from e2] at this
    exact this
  by_cases hodd : s.size % 2 = 1
  · have HR : Hid (rdV s.data.toList = .tuple #[.string ⟨#[]⟩, .bool false]) := by show _ = _; unfold rdV; rw [unhex_odd _ (by rw [hsl]; exact hodd)]
    have ho : (s.size : Int) % 2 = 1 := by omega
    clear hodd hsl
    go_enter Tryd.func34, Tryd.ntmps34
    go_wp2_with fail
    go_ret2
    exact ⟨by rw [HR.out]; rfl, Below.refl _ _⟩
  · have ho : (s.size : Int) % 2 = 0 := by omega
    obtain ⟨m, hm⟩ : ∃ m, s.size = 2 * m := ⟨s.size / 2, by omega⟩
    have HME : Hid (s.size = 2 * m) := hm
    have hdv : (s.size : Int) / 2 = (m : Int) := by omega
    have hm1 : m ≤ 524288 := by omega
    have HSL : Hid (s.data.toList.length = s.size) := hsl
    clear hm hodd hsl
    go_enter Tryd.func34, Tryd.ntmps34
    go_wp2_with (at_make; refine wpList_make_own _ rfl _ _ 48 rfl w.heap.size 5 i0 (.int .u8 0) 1 Tryd.underlying48 hi hz0 hz1 _ _ _ m rfl rfl ?e1 ?b2 ?b3 (Nat.le_refl _) ?_)
    case e1 => omega
    case b2 => rw [hz2]; omega
    case b3 => unfold maxLen; omega
    intro w1 hown0 hgrow
    have HO0 : Hid (w1.ownsRow w.heap.size 5 1 (.slice (some ⟨w.heap.size, 0, none⟩) 0 m) 0 []) := hown0
    have HB0 : Hid (Below w.heap.size w w1) := (Below.refl _ _).grown hgrow (Nat.le_refl _) (by simp)
    clear hown0 hgrow hdv ho
    go_wp2_with fail
    go_loopg [4, 5] m (fun gk v i wr => ∃ (j : Nat) (d : List UInt8), j + gk = m ∧ i = .int .i64 ((2 * j : Nat) : Int) ∧ unhexL (s.data.toList.take (2 * j)) = some d ∧ d.length = j ∧ wr.ownsRow w.heap.size 5 1 v j (d.map bv) ∧ Below w.heap.size w wr)
    case atStart => exact ⟨0, [], by omega, rfl, rfl, rfl, by simpa using HO0.out, HB0.out⟩
    case round =>
      obtain ⟨j, d, hj', rfl, hun, hdl, hown, hbel⟩ := hrel
      have HJ : Hid (j + gk = m) := hj'
      have hj : j ≤ m := by omega
      have HU : Hid (unhexL (s.data.toList.take (2 * j)) = some d) := hun
      have HDL : Hid (d.length = j) := hdl
      have HB : Hid (Below w.heap.size w wr) := hbel
      have hsr := hbel.size
      clear hj' hbel hun hdl
      by_cases hlt : j < m
      · have HO : Hid (wr.ownsRow w.heap.size 5 1 u4 j (d.map bv)) := hown
        have hj2 : 2 * j + 1 < s.size := by have := HME.out; omega
        obtain ⟨x1, hx1⟩ : ∃ x, s[2 * j] = x := ⟨_, rfl⟩
        obtain ⟨x2, hx2⟩ : ∃ x, s[2 * j + 1] = x := ⟨_, rfl⟩
        have hsp := take_split s j hj2
        rw [hx1, hx2] at hsp
        have HSP : Hid (s.data.toList = s.data.toList.take (2 * j) ++ x1 :: x2 :: s.data.toList.drop (2 * j + 2)) := hsp
        have htw := two_take s j hj2
        rw [hx1, hx2] at htw
        have HTW : Hid (s.data.toList.take (2 * (j + 1)) = s.data.toList.take (2 * j) ++ [x1, x2]) := htw
        have HLT : Hid ((s.data.toList.take (2 * j)).length = 2 * j) := by show _ = _; rw [List.length_take, HSL.out]; omega
        obtain ⟨D, hD⟩ : ∃ D : UInt8 → Int, digI = D := ⟨_, rfl⟩
        have HDE : Hid (digI = D) := hD
        have HIX2 : Hid (∀ (b : UInt8) (w : World), Calls Tryd.prog 36 #[.string ⟨#[48, 49, 50, 51, 52, 53, 54, 55, 56, 57, 97, 98, 99, 100, 101, 102]⟩, .int .u8 (b.toNat : Nat)] w fun e w' => e = .returned (.int .i64 (D b)) ∧ w' = w) := by rw [← hD]; exact HIX
        have b1 := digI_in x1
        have b2 := digI_in x2
        rw [hD] at b1 b2
        obtain ⟨J, hJ⟩ : ∃ J, 2 * j = J := ⟨_, rfl⟩
        have HJE : Hid (2 * j = J) := hJ
        rw [hJ]
        have hJs : J + 1 < s.size := by omega
        have hJs0 : J < s.size := by omega
        have k1 : s[J]'hJs0 = x1 := by simp only [← hJ]; exact hx1
        have k2 : s[J + 1]'hJs = x2 := by simp only [← hJ]; exact hx2
        clear hD hx1 hx2 hj2 hJ hsp htw hown hlt
        by_cases n1 : D x1 < 0
        · have HR : Hid (rdV s.data.toList = .tuple #[.string ⟨#[]⟩, .bool false]) := by
            show _ = _
            unfold rdV
            rw [HSP.out, unhex_bad _ _ j x1 x2 HLT.out (.inl (dg_none (by rw [HDE.out]; exact n1)))]
          go_wp2_with fail
          refine (HIX2.out _ _).mono ?_
          rintro e w2 ⟨rfl, rfl⟩
          go_wp2_with fail
          refine (HIX2.out _ _).mono ?_
          rintro e w2 ⟨rfl, rfl⟩
          go_wp2_with fail
          go_ret2
          exact ⟨by rw [HR.out]; rfl, HB.out⟩
        · by_cases n2 : D x2 < 0
          · have HR : Hid (rdV s.data.toList = .tuple #[.string ⟨#[]⟩, .bool false]) := by
              show _ = _
              unfold rdV
              rw [HSP.out, unhex_bad _ _ j x1 x2 HLT.out (.inr (dg_none (by rw [HDE.out]; exact n2)))]
            go_wp2_with fail
            refine (HIX2.out _ _).mono ?_
            rintro e w2 ⟨rfl, rfl⟩
            go_wp2_with fail
            refine (HIX2.out _ _).mono ?_
            rintro e w2 ⟨rfl, rfl⟩
            go_wp2_with fail
            go_ret2
            exact ⟨by rw [HR.out]; rfl, HB.out⟩
          · obtain ⟨y1, hy1⟩ : ∃ y : Nat, D x1 = (y : Int) := ⟨(D x1).toNat, by omega⟩
            obtain ⟨y2, hy2⟩ : ∃ y : Nat, D x2 = (y : Int) := ⟨(D x2).toNat, by omega⟩
            have hy1s : y1 < 16 := by omega
            have hy2s : y2 < 16 := by omega
            have HNX : Hid (unhexL (s.data.toList.take (2 * (j + 1))) = some (d ++ [UInt8.ofNat (16 * y1 + y2)])) := by
              show _ = _
              rw [HTW.out]
              exact unhex_two j _ d x1 x2 y1 y2 HLT.out HU.out (dg_some (by rw [HDE.out]; exact hy1)) (dg_some (by rw [HDE.out]; exact hy2))
            have hor : bits BinOp.or IntKind.i64 ((y1 : Int) * 16) (y2 : Int) = ((16 * y1 + y2 : Nat) : Int) := or_i64 y1 y2 hy1s hy2s
            obtain ⟨z, hz⟩ : ∃ z, 16 * y1 + y2 = z := ⟨_, rfl⟩
            have hz256 : z < 256 := by omega
            rw [hz] at hor HNX
            rw [hy1] at b1 n1
            rw [hy2] at b2 n2
            have HIX3 : Hid (∀ w : World, Calls Tryd.prog 36 #[.string ⟨#[48, 49, 50, 51, 52, 53, 54, 55, 56, 57, 97, 98, 99, 100, 101, 102]⟩, .int .u8 (x1.toNat : Nat)] w fun e w' => e = .returned (.int .i64 y1) ∧ w' = w) := fun w => by rw [← hy1]; exact HIX2.out x1 w
            have HIX4 : Hid (∀ w : World, Calls Tryd.prog 36 #[.string ⟨#[48, 49, 50, 51, 52, 53, 54, 55, 56, 57, 97, 98, 99, 100, 101, 102]⟩, .int .u8 (x2.toNat : Nat)] w fun e w' => e = .returned (.int .i64 y2) ∧ w' = w) := fun w => by rw [← hy2]; exact HIX2.out x2 w
            clear hy1 hy2 hz
            go_wp2_with fail
            refine (HIX3.out _).mono ?_
            rintro e w2 ⟨rfl, rfl⟩
            go_wp2_with fail
            refine (HIX4.out _).mono ?_
            rintro e w3 ⟨rfl, rfl⟩
            go_wp2_with (at_builtin; refine wpList_append_own _ rfl _ _ 48 rfl w.heap.size 5 i0 (.int .u8 0) 1 1 Tryd.underlying48 hi hz0 hz1 hz2 rfl (by decide) _ _ _ rfl (HO.out.alloc _) ⟨w3.heap.size, 0, none⟩ 1 1 [bv (UInt8.ofNat z)] rfl rfl ?c1 ?c2 ?c3 ?c4 ?c5 ?_)
            case c1 =>
              intro i u hi
              match i, hi with
              | 0, hi => simp at hi; subst hi; simp [Addr.add, bv] <;> omega
            case c2 => intro u hu; simp at hu; subst hu; rfl
            case c3 => unfold maxLen; omega
            case c4 => omega
            case c5 => simp; omega
            intro v' w4 hown' hgrow _
            have HX : Hid (w4.ownsRow w.heap.size 5 1 v' (j + 1) ((d ++ [UInt8.ofNat z]).map bv) ∧ Below w.heap.size w w4) := ⟨by rw [List.map_append]; exact hown', push_below HB.out HO.out (Nat.le_refl _) hgrow⟩
            clear hown' hgrow
            go_wp2_with fail
            go_roundg (gk - 1)
            case rel => exact ⟨j + 1, d ++ [UInt8.ofNat z], by have := HJ.out; have := HJE.out; have := HME.out; omega, by have := HJE.out; first | (congr 1; omega) | go_num, HNX.out, by rw [List.length_append, HDL.out]; rfl, HX.out.1, HX.out.2⟩
            case measure => have := HJ.out; have := HJE.out; have := HME.out; omega
      · have ej : j = m := by omega
        have HR : Hid (rdV s.data.toList = .tuple #[.string ⟨d.toArray⟩, .bool true]) := by
          show _ = _
          have h := HU.out
          rw [List.take_of_length_le (by rw [HSL.out]; have := HME.out; omega)] at h
          unfold rdV; rw [h]
        have hc := conv_own (P := Tryd.prog) 48 9 Tryd.underlying48 Tryd.underlying5 Tryd.underlying9 hown
        obtain ⟨J, hJ⟩ : ∃ J, 2 * j = J := ⟨_, rfl⟩
        have hJs : ¬ J < s.size := by have := HME.out; omega
        have hJb : J ≤ s.size := by have := HME.out; omega
        rw [hJ]
        clear hown hlt hJ
        go_wp2_with fail
        go_ret2
        exact ⟨by rw [HR.out]; rfl, HB.out⟩
end Go.Proofs.YtdbkglnmmaglcaaDoor
