/- The command that has a text, by the specification: contracts. -/
import Derived.Test.YtdbkglnmmaglcaaDoorRCb
namespace Go.Proofs.YtdbkglnmmaglcaaDoor
open Go.RowKit Go.Sort
set_option linter.unusedVariables false
theorem toL (l : List UInt8) : (⟨l.toArray⟩ : ByteArray).toList = l := by rw [ByteArray.toList_eq]
theorem eq_of_toList {a b : ByteArray} (h : a.toList = b.toList) : a = b := by
  rw [ByteArray.toList_eq, ByteArray.toList_eq] at h; exact ba_ext h
theorem fmtIx_none {t : ByteArray} (h : ∀ r, r < 5 → t ≠ fmtS r) : fmtIx t = 0 := by
  unfold fmtIx
  rw [if_neg (h 0 (by decide)), if_neg (h 1 (by decide)), if_neg (h 2 (by decide)), if_neg (h 3 (by decide)), if_neg (h 4 (by decide))]
set_option maxRecDepth 100000 in
set_option maxHeartbeats 2000000 in
theorem l13Format_any (t : ByteArray) (w : World) (ht : t.size ≤ 1048577) : Calls Tryd.prog 18 #[.string t] w fun e w' => e = .returned (.int .i64 (fmtIx t)) ∧ Below w.heap.size w w' := by
  have HN : Hid (∀ w, Calls Tryd.prog 22 #[] w fun e w' => e = .returned (.slice (some ⟨w.heap.size, 0, none⟩) 5 5) ∧ w' = w.alloc (.cells kc 9)) := fun w => l13Names_any w
  go_enter Tryd.func18, Tryd.ntmps18
  go_wp2_with fail
  go_loopg [3] 5 (fun gk i wr => ∃ j : Nat, j + gk = 5 ∧ i = .int .i64 j ∧ (∀ r, r < j → t ≠ fmtS r) ∧ Below w.heap.size w wr)
  case atStart => exact ⟨0, rfl, rfl, fun r hr => by omega, Below.refl _ _⟩
  case round =>
    obtain ⟨j, hj', rfl, hno, hb⟩ := hrel
    have HJ : Hid (j + gk = 5) := hj'
    have HNO : Hid (∀ r, r < j → t ≠ fmtS r) := hno
    have HB : Hid (Below w.heap.size w wr) := hb
    have hj : j ≤ 5 := by omega
    clear hno hb hj'
    match j, hj with
    | 0, _ =>
      by_cases he : t = fmtS 0
      · have HR : Hid (fmtIx t = (0 : Nat) + 1) := by show _ = _; rw [he]; exact fmtIx_fmt 0 (by decide)
        have hq : (([114, 108, 112] : List UInt8) == t.toList) = true := by rw [he, show fmtS 0 = ⟨([114, 108, 112] : List UInt8).toArray⟩ from rfl, toL]; rfl
        clear he
        go_wp2_with fail
        refine (HN.out _).mono ?_
        rintro e w2 ⟨rfl, rfl⟩
        unfold kc
        go_wp2_with fail
        go_ret
        exact ⟨by rw [HR.out]; rfl, HB.out.alloc HB.out.size _⟩
      · have HNX : Hid (∀ r, r < 1 → t ≠ fmtS r) := fun r hr => by
          rcases Nat.lt_or_ge r 0 with h | h
          · exact HNO.out r h
          · obtain rfl : r = 0 := by omega
            exact he
        have hq : (([114, 108, 112] : List UInt8) == t.toList) = false := by
          rw [beq_eq_false_iff_ne]; exact fun e => he (eq_of_toList (by rw [← e, show fmtS 0 = ⟨([114, 108, 112] : List UInt8).toArray⟩ from rfl, toL]))
        clear he
        go_wp2_with fail
        refine (HN.out _).mono ?_
        rintro e w2 ⟨rfl, rfl⟩
        unfold kc
        go_wp2_with fail
        go_roundg (gk - 1)
        case rel => exact ⟨1, by have := HJ.out; omega, rfl, HNX.out, HB.out.alloc HB.out.size _⟩
        case measure => have := HJ.out; omega
    | 1, _ =>
      by_cases he : t = fmtS 1
      · have HR : Hid (fmtIx t = (1 : Nat) + 1) := by show _ = _; rw [he]; exact fmtIx_fmt 1 (by decide)
        have hq : (([115, 115, 122] : List UInt8) == t.toList) = true := by rw [he, show fmtS 1 = ⟨([115, 115, 122] : List UInt8).toArray⟩ from rfl, toL]; rfl
        clear he
        go_wp2_with fail
        refine (HN.out _).mono ?_
        rintro e w2 ⟨rfl, rfl⟩
        unfold kc
        go_wp2_with fail
        go_ret
        exact ⟨by rw [HR.out]; rfl, HB.out.alloc HB.out.size _⟩
      · have HNX : Hid (∀ r, r < 2 → t ≠ fmtS r) := fun r hr => by
          rcases Nat.lt_or_ge r 1 with h | h
          · exact HNO.out r h
          · obtain rfl : r = 1 := by omega
            exact he
        have hq : (([115, 115, 122] : List UInt8) == t.toList) = false := by
          rw [beq_eq_false_iff_ne]; exact fun e => he (eq_of_toList (by rw [← e, show fmtS 1 = ⟨([115, 115, 122] : List UInt8).toArray⟩ from rfl, toL]))
        clear he
        go_wp2_with fail
        refine (HN.out _).mono ?_
        rintro e w2 ⟨rfl, rfl⟩
        unfold kc
        go_wp2_with fail
        go_roundg (gk - 1)
        case rel => exact ⟨2, by have := HJ.out; omega, rfl, HNX.out, HB.out.alloc HB.out.size _⟩
        case measure => have := HJ.out; omega
    | 2, _ =>
      by_cases he : t = fmtS 2
      · have HR : Hid (fmtIx t = (2 : Nat) + 1) := by show _ = _; rw [he]; exact fmtIx_fmt 2 (by decide)
        have hq : (([115, 99, 97, 108, 101] : List UInt8) == t.toList) = true := by rw [he, show fmtS 2 = ⟨([115, 99, 97, 108, 101] : List UInt8).toArray⟩ from rfl, toL]; rfl
        clear he
        go_wp2_with fail
        refine (HN.out _).mono ?_
        rintro e w2 ⟨rfl, rfl⟩
        unfold kc
        go_wp2_with fail
        go_ret
        exact ⟨by rw [HR.out]; rfl, HB.out.alloc HB.out.size _⟩
      · have HNX : Hid (∀ r, r < 3 → t ≠ fmtS r) := fun r hr => by
          rcases Nat.lt_or_ge r 2 with h | h
          · exact HNO.out r h
          · obtain rfl : r = 2 := by omega
            exact he
        have hq : (([115, 99, 97, 108, 101] : List UInt8) == t.toList) = false := by
          rw [beq_eq_false_iff_ne]; exact fun e => he (eq_of_toList (by rw [← e, show fmtS 2 = ⟨([115, 99, 97, 108, 101] : List UInt8).toArray⟩ from rfl, toL]))
        clear he
        go_wp2_with fail
        refine (HN.out _).mono ?_
        rintro e w2 ⟨rfl, rfl⟩
        unfold kc
        go_wp2_with fail
        go_roundg (gk - 1)
        case rel => exact ⟨3, by have := HJ.out; omega, rfl, HNX.out, HB.out.alloc HB.out.size _⟩
        case measure => have := HJ.out; omega
    | 3, _ =>
      by_cases he : t = fmtS 3
      · have HR : Hid (fmtIx t = (3 : Nat) + 1) := by show _ = _; rw [he]; exact fmtIx_fmt 3 (by decide)
        have hq : (([112, 114, 111, 116, 111] : List UInt8) == t.toList) = true := by rw [he, show fmtS 3 = ⟨([112, 114, 111, 116, 111] : List UInt8).toArray⟩ from rfl, toL]; rfl
        clear he
        go_wp2_with fail
        refine (HN.out _).mono ?_
        rintro e w2 ⟨rfl, rfl⟩
        unfold kc
        go_wp2_with fail
        go_ret
        exact ⟨by rw [HR.out]; rfl, HB.out.alloc HB.out.size _⟩
      · have HNX : Hid (∀ r, r < 4 → t ≠ fmtS r) := fun r hr => by
          rcases Nat.lt_or_ge r 3 with h | h
          · exact HNO.out r h
          · obtain rfl : r = 3 := by omega
            exact he
        have hq : (([112, 114, 111, 116, 111] : List UInt8) == t.toList) = false := by
          rw [beq_eq_false_iff_ne]; exact fun e => he (eq_of_toList (by rw [← e, show fmtS 3 = ⟨([112, 114, 111, 116, 111] : List UInt8).toArray⟩ from rfl, toL]))
        clear he
        go_wp2_with fail
        refine (HN.out _).mono ?_
        rintro e w2 ⟨rfl, rfl⟩
        unfold kc
        go_wp2_with fail
        go_roundg (gk - 1)
        case rel => exact ⟨4, by have := HJ.out; omega, rfl, HNX.out, HB.out.alloc HB.out.size _⟩
        case measure => have := HJ.out; omega
    | 4, _ =>
      by_cases he : t = fmtS 4
      · have HR : Hid (fmtIx t = (4 : Nat) + 1) := by show _ = _; rw [he]; exact fmtIx_fmt 4 (by decide)
        have hq : (([98, 105, 116, 99, 111, 105, 110] : List UInt8) == t.toList) = true := by rw [he, show fmtS 4 = ⟨([98, 105, 116, 99, 111, 105, 110] : List UInt8).toArray⟩ from rfl, toL]; rfl
        clear he
        go_wp2_with fail
        refine (HN.out _).mono ?_
        rintro e w2 ⟨rfl, rfl⟩
        unfold kc
        go_wp2_with fail
        go_ret
        exact ⟨by rw [HR.out]; rfl, HB.out.alloc HB.out.size _⟩
      · have HNX : Hid (∀ r, r < 5 → t ≠ fmtS r) := fun r hr => by
          rcases Nat.lt_or_ge r 4 with h | h
          · exact HNO.out r h
          · obtain rfl : r = 4 := by omega
            exact he
        have hq : (([98, 105, 116, 99, 111, 105, 110] : List UInt8) == t.toList) = false := by
          rw [beq_eq_false_iff_ne]; exact fun e => he (eq_of_toList (by rw [← e, show fmtS 4 = ⟨([98, 105, 116, 99, 111, 105, 110] : List UInt8).toArray⟩ from rfl, toL]))
        clear he
        go_wp2_with fail
        refine (HN.out _).mono ?_
        rintro e w2 ⟨rfl, rfl⟩
        unfold kc
        go_wp2_with fail
        go_roundg (gk - 1)
        case rel => exact ⟨5, by have := HJ.out; omega, rfl, HNX.out, HB.out.alloc HB.out.size _⟩
        case measure => have := HJ.out; omega
    | 5, _ =>
      have HR : Hid (fmtIx t = 0) := fmtIx_none HNO.out
      go_wp2_with fail
      go_ret
      exact ⟨by rw [HR.out]; rfl, HB.out⟩
/-- What the specification reads off digits. -/
def unhW (s : ByteArray) : ByteArray := if s = ⟨#[45]⟩ then ByteArray.empty else ⟨(unhS s.data.toList).toArray⟩
theorem unhW_hexW (d : ByteArray) : unhW (hexW d) = d := by
  unfold hexW unhW
  by_cases h : d.size = 0
  · rw [if_pos h, if_pos rfl, size_empty h]
  · rw [if_neg h, if_neg]
    · rw [unhS_of _ _ (unhex_hexL d.data.toList)]
    · intro e
      have h1 := congrArg ByteArray.size e
      have h2 : (hexL d.data.toList).toArray.size = 1 := h1
      rw [List.size_toArray, hexL_len] at h2
      omega
theorem unhW_size (s : ByteArray) : (unhW s).size ≤ s.size := by
  unfold unhW
  split
  · exact Nat.zero_le _
  · show (unhS s.data.toList).toArray.size ≤ _
    have : s.data.toList.length = s.size := Array.length_toList
    rw [List.size_toArray, unhS_len]; omega
set_option maxRecDepth 100000 in
set_option maxHeartbeats 2000000 in
theorem l13Unhex_any (s : ByteArray) (w : World) (hs : s.size ≤ 1048577) : Calls Tryd.prog 19 #[.string s] w fun e w' => (∃ o, e = .returned (.tuple #[.string (unhW s), .bool o])) ∧ Below w.heap.size w w' := by
  by_cases h : s = ⟨#[45]⟩
  · have HR : Hid (unhW s = ByteArray.empty) := by show _ = _; unfold unhW; rw [if_pos h]
    have hq : (s.toList == [45]) = true := by rw [h, show (⟨#[45]⟩ : ByteArray) = ⟨([45] : List UInt8).toArray⟩ from rfl, toL]; rfl
    rw [HR.out]
    clear h HR
    go_enter Tryd.func19, Tryd.ntmps19
    go_wp2_with fail
    go_ret2
    exact ⟨⟨_, rfl⟩, Below.refl _ _⟩
  · have HR : Hid (unhW s = ⟨(unhS s.data.toList).toArray⟩) := by show _ = _; unfold unhW; rw [if_neg h]
    have hq : (s.toList == [45]) = false := by
      rw [beq_eq_false_iff_ne]; intro e; apply h; apply eq_of_toList; rw [e, show (⟨#[45]⟩ : ByteArray) = ⟨([45] : List UInt8).toArray⟩ from rfl, toL]
    have hz := unhW_size s
    rw [HR.out] at hz ⊢
    obtain ⟨U, hU⟩ : ∃ U : ByteArray, (⟨(unhS s.data.toList).toArray⟩ : ByteArray) = U := ⟨_, rfl⟩
    have HU : Hid (∀ w, Calls Tryd.prog 26 #[.string s] w fun e w' => e = .returned (.string U) ∧ Below w.heap.size w w') := fun w => by rw [← hU]; exact l3Unhex_any s w hs
    rw [hU] at hz ⊢
    obtain ⟨X, hX⟩ : ∃ X : ByteArray, (⟨(hexL U.data.toList).toArray⟩ : ByteArray) = X := ⟨_, rfl⟩
    have HX : Hid (∀ w, Calls Tryd.prog 27 #[.string U] w fun e w' => e = .returned (.string X) ∧ Below w.heap.size w w') := fun w => by rw [← hX]; exact l3Hex_any U w (by omega)
    clear h HR hU hX hz
    cases h1 : (X.toList == s.toList) <;> cases h2 : s.toList.isEmpty
    all_goals
      go_enter Tryd.func19, Tryd.ntmps19
      go_wp2_with fail
      refine (HU.out _).mono ?_
      rintro e w1 ⟨rfl, hb⟩
      have HB1 : Hid (Below w.heap.size w w1) := hb
      clear hb
      go_wp2_with fail
      refine (HX.out _).mono ?_
      rintro e w2 ⟨rfl, hb⟩
      have HB2 : Hid (Below w.heap.size w w2) := HB1.out.trans (hb.mono HB1.out.size)
      clear hb
      go_wp2_with fail
      go_ret2
      exact ⟨⟨_, rfl⟩, HB2.out⟩
theorem Tryd.szCmdT : (Tryd.prog.info? 26).map (·.size) = some 3 := by kernel_rfl
end Go.Proofs.YtdbkglnmmaglcaaDoor
