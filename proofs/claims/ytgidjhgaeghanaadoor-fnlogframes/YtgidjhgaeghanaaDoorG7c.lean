/- The frame of data, both sides: contracts. -/
import Derived.Test.YtgidjhgaeghanaaDoorG7b
import Derived.Deep.RegionWith
namespace Go.Proofs.YtgidjhgaeghanaaDoor
open Go.RowKit
set_option linter.unusedVariables false
/-- A frame, when data is not too long. -/
def frameL (l : List UInt8) : List UInt8 := (leL l.length 4).reverse ++ leL (crc l) 4 ++ l
def frameS (s : ByteArray) : ByteArray := if 100000 < s.size then ⟨#[]⟩ else ⟨(frameL s.data.toList).toArray⟩
theorem cat3 (a b : List UInt8) (s : ByteArray) : (⟨a.toArray⟩ : ByteArray) ++ ⟨b.toArray⟩ ++ s = ⟨(a ++ b ++ s.data.toList).toArray⟩ := by
  apply ByteArray.ext
  simp [ByteArray.data_append]
theorem szL (l : List UInt8) : (⟨l.toArray⟩ : ByteArray).size = l.length := by simp [ByteArray.size]
set_option maxRecDepth 100000 in
set_option maxHeartbeats 1000000 in
theorem implFrameOf_any (s : ByteArray) (w : World) (hw : KR w) (hs : s.size ≤ 1048577) : Calls Tryd.prog 9 #[.string s] w fun e w' => e = .returned (.string (frameS s)) ∧ Below w.heap.size w w' := by
  by_cases h : 100000 < s.size
  · have HR : Hid (frameS s = ⟨#[]⟩) := by show _ = _; unfold frameS; rw [if_pos h]
    go_enter Tryd.func9, Tryd.ntmps9
    go_wp2_with fail
    go_ret
    exact ⟨by rw [HR.out]; rfl, Below.refl _ _⟩
  · have hl : s.data.toList.length = s.size := Array.length_toList
    obtain ⟨A, hA⟩ : ∃ A : ByteArray, (⟨(leL s.size 4).reverse.toArray⟩ : ByteArray) = A := ⟨_, rfl⟩
    obtain ⟨B, hB⟩ : ∃ B : ByteArray, (⟨(leL (crc s.data.toList) 4).toArray⟩ : ByteArray) = B := ⟨_, rfl⟩
    have hA4 : A.size = 4 := by rw [← hA, szL, List.length_reverse, leL_len]
    have hB4 : B.size = 4 := by rw [← hB, szL, leL_len]
    have HR : Hid (frameS s = A ++ B ++ s) := by show _ = _; unfold frameS; rw [if_neg h, ← hA, ← hB, cat3, frameL, hl]
    have H1 : Hid (∀ w, Calls Tryd.prog 18 #[.int .u32 s.size, .int .i64 4] w fun e w' => e = .returned (.string A) ∧ Below w.heap.size w w') := fun w => by rw [← hA]; exact highFirst_u32_any s.size 4 w (by omega) (by decide)
    have H2 : Hid (∀ w, Calls Tryd.prog 20 #[.int .u32 (crc s.data.toList : Nat)] w fun e w' => e = .returned (.string B) ∧ Below w.heap.size w w') := fun w => by rw [← hB]; exact whole_u32_any _ w (crc_lt _)
    have H3 : Hid (∀ w, KR w → Calls Tryd.prog 21 #[.string s] w fun e w' => e = .returned (.int .u32 (crc s.data.toList)) ∧ w' = w) := fun w hw => crcOf_any s w hw hs
    have HW : Hid (KR w) := hw
    have hAB : (A ++ B).size = 8 := by rw [ByteArray.size_append]; omega
    have hABS : (A ++ B ++ s).size ≤ 100008 := by rw [ByteArray.size_append]; omega
    generalize crc s.data.toList = c at H2 H3
    have hsl : s.size ≤ 100000 := by omega
    clear hA hB hl h hw hs
    go_enter Tryd.func9, Tryd.ntmps9
    go_wp2_with fail
    refine (widthOf_u32_any _).mono ?_
    rintro e w1 ⟨rfl, rfl⟩
    go_wp2_with fail
    refine (H1.out _).mono ?_
    rintro e w2 ⟨rfl, hb2⟩
    have HW2 : Hid (KR w2) := HW.out.below hb2 (Nat.le_refl _)
    have HB2 : Hid (Below w1.heap.size w1 w2) := hb2
    clear hb2
    go_wp2_with fail
    refine (H3.out _ HW2.out).mono ?_
    rintro e w3 ⟨rfl, rfl⟩
    go_wp2_with fail
    refine (H2.out _).mono ?_
    rintro e w4 ⟨rfl, hb4⟩
    have HB4 : Hid (Below w1.heap.size w1 w4) := HB2.out.trans (hb4.mono HB2.out.size)
    clear hb4
    go_wp2_with fail
    go_ret
    exact ⟨by rw [HR.out]; rfl, HB4.out⟩
set_option maxRecDepth 100000 in
set_option maxHeartbeats 1000000 in
theorem specFrameOf_any (s : ByteArray) (w : World) (hs : s.size ≤ 1048577) : Calls Tryd.prog 13 #[.string s] w fun e w' => e = .returned (.string (frameS s)) ∧ Below w.heap.size w w' := by
  by_cases h : 100000 < s.size
  · have HR : Hid (frameS s = ⟨#[]⟩) := by show _ = _; unfold frameS; rw [if_pos h]
    go_enter Tryd.func13, Tryd.ntmps13
    go_wp2_with fail
    go_ret
    exact ⟨by rw [HR.out]; rfl, Below.refl _ _⟩
  · have hl : s.data.toList.length = s.size := Array.length_toList
    obtain ⟨d, hd⟩ : ∃ d : Nat, s.size = d := ⟨_, rfl⟩
    obtain ⟨A, hA⟩ : ∃ A : ByteArray, (⟨#[UInt8.ofNat (d / 16777216 % 256), UInt8.ofNat (d / 65536 % 256), UInt8.ofNat (d / 256 % 256), UInt8.ofNat (d % 256)]⟩ : ByteArray) = A := ⟨_, rfl⟩
    have hA2 : (⟨(leL s.size 4).reverse.toArray⟩ : ByteArray) = A := by rw [← hA, hd, leL4]; rfl
    obtain ⟨B, hB⟩ : ∃ B : ByteArray, (⟨(leL (crc s.data.toList) 4).toArray⟩ : ByteArray) = B := ⟨_, rfl⟩
    have hA4 : A.size = 4 := by rw [← hA]; rfl
    have hB4 : B.size = 4 := by rw [← hB, szL, leL_len]
    have HR : Hid (frameS s = A ++ B ++ s) := by show _ = _; unfold frameS; rw [if_neg h, ← hA2, ← hB, cat3, frameL, hl]
    have H3 : Hid (∀ w, Calls Tryd.prog 17 #[.string s] w fun e w' => e = .returned (.string B) ∧ Below w.heap.size w w') := fun w => by rw [← hB]; exact l15Sum_any s w hs
    have HC : Hid (∀ (W : World) (b : Nat), W.heap[b]? = some (.cells #[.int .u8 (IntKind.u8.wrap ((d : Int) / 16777216)), .int .u8 (IntKind.u8.wrap ((d : Int) / 65536)), .int .u8 (IntKind.u8.wrap ((d : Int) / 256)), .int .u8 (IntKind.u8.wrap (d : Int))] 5 (0, 0)) → (convert 22 9 (.slice (some ⟨b, 0, none⟩) 4 4)).run Tryd.prog W = .ok (.string A) W) := fun W b h => by
      rw [← hA]
      exact conv4b W b (d / 16777216 % 256) (d / 65536 % 256) (d / 256 % 256) (d % 256) _ _ _ _ (by omega) (by omega) (by omega) (by omega) (by rw [IntKind.wrap_u8]; omega) (by rw [IntKind.wrap_u8]; omega) (by rw [IntKind.wrap_u8]; omega) (by rw [IntKind.wrap_u8]; omega) h
    have hAB : (A ++ B).size = 8 := by rw [ByteArray.size_append]; omega
    have hABS : (A ++ B ++ s).size ≤ 100008 := by rw [ByteArray.size_append]; omega
    have hdl : d ≤ 100000 := by omega
    clear hA hA2 hB hl h hs
    have hcA : (convert 22 9 (.slice (some ⟨w.heap.size, 0, none⟩) 4 4)).run Tryd.prog (w.alloc (.cells #[.int .u8 (IntKind.u8.wrap ((d : Int) / 16777216)), .int .u8 (IntKind.u8.wrap ((d : Int) / 65536)), .int .u8 (IntKind.u8.wrap ((d : Int) / 256)), .int .u8 (IntKind.u8.wrap (d : Int))] 5)).drew = .ok (.string A) (w.alloc (.cells #[.int .u8 (IntKind.u8.wrap ((d : Int) / 16777216)), .int .u8 (IntKind.u8.wrap ((d : Int) / 65536)), .int .u8 (IntKind.u8.wrap ((d : Int) / 256)), .int .u8 (IntKind.u8.wrap (d : Int))] 5)).drew := HC.out _ _ (heap_alloc_new w _)
    go_enter Tryd.func13, Tryd.ntmps13
    go_wp2_with fail
    go_region_with (go_at_call 17; refine (H3.out _).mono ?_; rintro e w3 ⟨rfl, hb3⟩; first | (have hcB := HC.out w3 w.heap.size ((hb3.block w.heap.size (by simp)).trans (heap_alloc_new w _)); have HB3 : Hid (Below w.heap.size w w3) := (((Below.refl w.heap.size w).alloc (Nat.le_refl _) (.cells #[.int .u8 (IntKind.u8.wrap ((d : Int) / 16777216)), .int .u8 (IntKind.u8.wrap ((d : Int) / 65536)), .int .u8 (IntKind.u8.wrap ((d : Int) / 256)), .int .u8 (IntKind.u8.wrap (d : Int))] 5)).drew).trans (hb3.mono (by simp))) | (have hcB : (convert 22 9 (.slice (some ⟨w3.heap.size, 0, none⟩) 4 4)).run Tryd.prog (w3.alloc (.cells #[.int .u8 (IntKind.u8.wrap ((d : Int) / 16777216)), .int .u8 (IntKind.u8.wrap ((d : Int) / 65536)), .int .u8 (IntKind.u8.wrap ((d : Int) / 256)), .int .u8 (IntKind.u8.wrap (d : Int))] 5)) = .ok (.string A) (w3.alloc (.cells #[.int .u8 (IntKind.u8.wrap ((d : Int) / 16777216)), .int .u8 (IntKind.u8.wrap ((d : Int) / 65536)), .int .u8 (IntKind.u8.wrap ((d : Int) / 256)), .int .u8 (IntKind.u8.wrap (d : Int))] 5)) := HC.out _ _ (heap_alloc_new w3 _); have HB3 : Hid (Below w.heap.size w w3) := (Below.refl w.heap.size w).drew.trans hb3))
    all_goals
      try clear hb3
      go_wp2_with fail
      go_ret
      first | exact ⟨by rw [HR.out]; rfl, HB3.out⟩ | exact ⟨by rw [HR.out]; rfl, HB3.out.alloc HB3.out.size _⟩
end Go.Proofs.YtgidjhgaeghanaaDoor
