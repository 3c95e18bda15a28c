/- The specification's text of a schema: contracts. -/
import Derived.Test.YtipmckdlnipgkaaGreatDoorS4a
import Derived.Lib.QuietBelow
import Derived.BigQuiet
import Derived.Deep.RegionWith
namespace Go.Proofs.YtipmckdlnipgkaaGreatDoor
open Go.RowKit Go.Sort
set_option linter.unusedVariables false
theorem conv1 (w : World) (x : Nat) (z : Int) (hx : x < 256) (hz : z = (x : Int)) : (convert 105 9 (.slice (some ⟨w.heap.size, 0, none⟩) 1 1)).run Tryz.prog (w.alloc (.cells #[.int .u8 z] 5)) = .ok (.string ⟨#[UInt8.ofNat x]⟩) (w.alloc (.cells #[.int .u8 z] 5)) := by
  subst hz
  have hb : bv (UInt8.ofNat x) = .int .u8 (x : Int) := by simp [bv]; omega
  have ho := World.ownsRow_lit (base := w.heap.size) (e := 5) (size := 1) w #[bv (UInt8.ofNat x)] 1 (Nat.le_refl _) (by decide) rfl
  have hc := conv_own (P := Tryz.prog) 105 9 Tryz.underlying105 Tryz.underlying5 Tryz.underlying9 (l := [UInt8.ofNat x]) (by simpa using ho)
  rw [hb] at hc
  simpa using hc
set_option maxRecDepth 100000 in
set_option maxHeartbeats 1000000 in
theorem l1Dec_any (n : Nat) (hn : n ≤ 200) (w : World) : Calls Tryz.prog 109 #[.int .i64 n] w fun e w' => e = .returned (.string ⟨(Lib.decDigits n).toArray⟩) ∧ Below w.heap.size w w' := by
  have HL : Hid ((Lib.decDigits n).length ≤ 3) := dec_len (by omega)
  have h0 : ¬ (n : Int) < 0 := by omega
  go_enter Tryz.func109, Tryz.ntmps109
  go_wp2_with fail
  go_loopg [3, 4] n (fun gk m s wr => ∃ S : ByteArray, m = .int .u64 (gk : Nat) ∧ s = .string S ∧ gk ≤ n ∧ Lib.decDigits n = Lib.decDigits gk ++ S.data.toList ∧ Below w.heap.size w wr)
  case atStart => exact ⟨⟨#[]⟩, by first | rfl | go_num, rfl, Nat.le_refl _, by simp, Below.refl _ _⟩
  case round =>
    obtain ⟨S, rfl, rfl, hle, hd, hb⟩ := hrel
    have HD : Hid (Lib.decDigits n = Lib.decDigits gk ++ S.data.toList) := hd
    have HB : Hid (Below w.heap.size w wr) := hb
    have hS : S.size ≤ 3 := by have h1 := HL.out; rw [hd, List.length_append] at h1; have : S.data.toList.length = S.size := Array.length_toList; omega
    have hsz := hb.size
    clear hd hb
    by_cases hg : gk < 10
    · have hd : decide (10 ≤ gk) = false := by simp; omega
      have hc := conv1 wr (48 + gk) (48 + (gk : Int)) (by omega) (by omega)
      obtain ⟨B, hB⟩ : ∃ B, UInt8.ofNat (48 + gk) = B := ⟨_, rfl⟩
      rw [hB] at hc
      have HE : Hid ((⟨#[B]⟩ : ByteArray) ++ S = ⟨(Lib.decDigits n).toArray⟩) := by
        show _ = _
        apply str_of
        rw [cat_dl, HD.out, dec_lt10 hg, hB]
      clear hB
      go_wp2_with fail
      go_ret
      exact ⟨by rw [← HE.out]; first | rfl | simp, HB.out.alloc (by omega) _⟩
    · have hd : decide (10 ≤ gk) = true := by simp; omega
      have hc := conv1 wr (48 + gk % 10) (48 + (gk : Int) % 10) (by omega) (by omega)
      obtain ⟨B, hB⟩ : ∃ B, UInt8.ofNat (48 + gk % 10) = B := ⟨_, rfl⟩
      rw [hB] at hc
      have HE : Hid (Lib.decDigits n = Lib.decDigits (gk / 10) ++ ((⟨#[B]⟩ : ByteArray) ++ S).data.toList) := by
        show _ = _
        rw [cat_dl, HD.out, dec_ge10 hg, hB]
        simp [List.append_assoc]
      clear hB
      go_wp2_with fail
      go_roundg (gk / 10)
      case rel => exact ⟨_, by first | rfl | go_num, rfl, by omega, HE.out, HB.out.alloc (by omega) _⟩
      case measure => omega
def kwC : Array Value := #[.string ⟨#[117]⟩, .string ⟨#[98, 111, 111, 108]⟩, .string ⟨#[98, 121, 116, 101, 115]⟩, .string ⟨#[102, 105, 120, 101, 100]⟩, .string ⟨#[108, 105, 115, 116]⟩, .string ⟨#[118, 101, 99, 116, 111, 114]⟩, .string ⟨#[115, 116, 114, 117, 99, 116]⟩, .string ⟨#[111, 112, 116, 105, 111, 110]⟩, .string ⟨#[117, 110, 105, 111, 110]⟩]
set_option maxRecDepth 100000 in
theorem l2Names_any (w : World) : Calls Tryz.prog 96 #[] w fun e w' => e = .returned (.slice (some ⟨w.heap.size, 0, none⟩) 9 9) ∧ w' = w.alloc (.cells kwC 9) := by
  go_enter Tryz.func96, Tryz.ntmps96
  go_wp2_with fail
  go_ret
  exact ⟨rfl, rfl⟩
set_option maxRecDepth 100000 in
set_option maxHeartbeats 2000000 in
theorem l2Text_any (k n : Int) (w : World) (hok : tyOk k n = true) : Calls Tryz.prog 99 #[.agg #[.int .i64 k, .int .i64 n]] w fun e w' => e = .returned (.string ⟨(tyText k n).toArray⟩) ∧ Below w.heap.size w w' := by
  obtain ⟨h1, h9, h0, h200⟩ := tyOk_in hok
  obtain ⟨N, rfl⟩ := Int.eq_ofNat_of_zero_le h0
  obtain ⟨D, hD⟩ : ∃ D : ByteArray, (⟨(Lib.decDigits N).toArray⟩ : ByteArray) = D := ⟨_, rfl⟩
  have HD : Hid (∀ w, Calls Tryz.prog 109 #[.int .i64 N] w fun e w' => e = .returned (.string D) ∧ Below w.heap.size w w') := fun w => by rw [← hD]; exact l1Dec_any N (by omega) w
  have HDL : Hid (D.data.toList = Lib.decDigits N) := by show _ = _; rw [← hD]
  have hdl : D.size ≤ 3 := by have h1 := dec_len (u := N) (by omega); rw [← HDL.out] at h1; exact h1
  have HN : Hid (∀ w, Calls Tryz.prog 96 #[] w fun e w' => e = .returned (.slice (some ⟨w.heap.size, 0, none⟩) 9 9) ∧ w' = w.alloc (.cells kwC 9)) := fun w => l2Names_any w
  have hk : k = 1 ∨ k = 2 ∨ k = 3 ∨ k = 4 ∨ k = 5 ∨ k = 6 ∨ k = 7 ∨ k = 8 ∨ k = 9 := by omega
  clear hok h1 h9 h0 hD
  have HE : Hid (∀ j : Nat, j < 9 → rb j = true → rs j ++ D = ⟨(tyText ((j : Int) + 1) N).toArray⟩) := fun j _ hj => by
    apply str_of
    have e : ((j : Int) + 1).toNat - 1 = j := by omega
    rw [cat_dl, HDL.out]
    unfold tyText
    rw [e, hj]
    rfl
  rcases hk with rfl | rfl | rfl | rfl | rfl | rfl | rfl | rfl | rfl
  · go_enter Tryz.func99, Tryz.ntmps99
    go_wp2_with fail
    go_region_with (go_at_call 96; refine (HN.out _).mono ?_; rintro e w2 ⟨rfl, rfl⟩; unfold kwC)
    all_goals
      go_wp2_with fail
      refine (HD.out _).mono ?_
      rintro e w3 ⟨rfl, hb3⟩
      have HB3 := (show Hid _ from hb3)
      clear hb3
      go_wp2_with fail
      go_ret
      exact ⟨congrArg (fun x => Ending.returned (Value.string x)) (HE.out 0 (by decide) rfl), Below.trans (by repeat (first | exact Below.refl _ _ | (refine Below.drew ?_) | (refine Below.alloc ?_ (by first | (simp; done) | (simp; omega)) _))) (HB3.out.mono (by first | (simp; done) | (simp; omega)))⟩
  · go_enter Tryz.func99, Tryz.ntmps99
    go_wp2_with fail
    go_region_with (go_at_call 96; refine (HN.out _).mono ?_; rintro e w2 ⟨rfl, rfl⟩; unfold kwC)
    all_goals
      go_wp2_with fail
      go_ret
      exact ⟨rfl, by repeat (first | exact Below.refl _ _ | (refine Below.drew ?_) | (refine Below.alloc ?_ (by first | (simp; done) | (simp; omega)) _))⟩
  · go_enter Tryz.func99, Tryz.ntmps99
    go_wp2_with fail
    go_region_with (go_at_call 96; refine (HN.out _).mono ?_; rintro e w2 ⟨rfl, rfl⟩; unfold kwC)
    all_goals
      go_wp2_with fail
      refine (HD.out _).mono ?_
      rintro e w3 ⟨rfl, hb3⟩
      have HB3 := (show Hid _ from hb3)
      clear hb3
      go_wp2_with fail
      go_ret
      exact ⟨congrArg (fun x => Ending.returned (Value.string x)) (HE.out 2 (by decide) rfl), Below.trans (by repeat (first | exact Below.refl _ _ | (refine Below.drew ?_) | (refine Below.alloc ?_ (by first | (simp; done) | (simp; omega)) _))) (HB3.out.mono (by first | (simp; done) | (simp; omega)))⟩
  · go_enter Tryz.func99, Tryz.ntmps99
    go_wp2_with fail
    go_region_with (go_at_call 96; refine (HN.out _).mono ?_; rintro e w2 ⟨rfl, rfl⟩; unfold kwC)
    all_goals
      go_wp2_with fail
      refine (HD.out _).mono ?_
      rintro e w3 ⟨rfl, hb3⟩
      have HB3 := (show Hid _ from hb3)
      clear hb3
      go_wp2_with fail
      go_ret
      exact ⟨congrArg (fun x => Ending.returned (Value.string x)) (HE.out 3 (by decide) rfl), Below.trans (by repeat (first | exact Below.refl _ _ | (refine Below.drew ?_) | (refine Below.alloc ?_ (by first | (simp; done) | (simp; omega)) _))) (HB3.out.mono (by first | (simp; done) | (simp; omega)))⟩
  · go_enter Tryz.func99, Tryz.ntmps99
    go_wp2_with fail
    go_region_with (go_at_call 96; refine (HN.out _).mono ?_; rintro e w2 ⟨rfl, rfl⟩; unfold kwC)
    all_goals
      go_wp2_with fail
      refine (HD.out _).mono ?_
      rintro e w3 ⟨rfl, hb3⟩
      have HB3 := (show Hid _ from hb3)
      clear hb3
      go_wp2_with fail
      go_ret
      exact ⟨congrArg (fun x => Ending.returned (Value.string x)) (HE.out 4 (by decide) rfl), Below.trans (by repeat (first | exact Below.refl _ _ | (refine Below.drew ?_) | (refine Below.alloc ?_ (by first | (simp; done) | (simp; omega)) _))) (HB3.out.mono (by first | (simp; done) | (simp; omega)))⟩
  · go_enter Tryz.func99, Tryz.ntmps99
    go_wp2_with fail
    go_region_with (go_at_call 96; refine (HN.out _).mono ?_; rintro e w2 ⟨rfl, rfl⟩; unfold kwC)
    all_goals
      go_wp2_with fail
      refine (HD.out _).mono ?_
      rintro e w3 ⟨rfl, hb3⟩
      have HB3 := (show Hid _ from hb3)
      clear hb3
      go_wp2_with fail
      go_ret
      exact ⟨congrArg (fun x => Ending.returned (Value.string x)) (HE.out 5 (by decide) rfl), Below.trans (by repeat (first | exact Below.refl _ _ | (refine Below.drew ?_) | (refine Below.alloc ?_ (by first | (simp; done) | (simp; omega)) _))) (HB3.out.mono (by first | (simp; done) | (simp; omega)))⟩
  · go_enter Tryz.func99, Tryz.ntmps99
    go_wp2_with fail
    go_region_with (go_at_call 96; refine (HN.out _).mono ?_; rintro e w2 ⟨rfl, rfl⟩; unfold kwC)
    all_goals
      go_wp2_with fail
      refine (HD.out _).mono ?_
      rintro e w3 ⟨rfl, hb3⟩
      have HB3 := (show Hid _ from hb3)
      clear hb3
      go_wp2_with fail
      go_ret
      exact ⟨congrArg (fun x => Ending.returned (Value.string x)) (HE.out 6 (by decide) rfl), Below.trans (by repeat (first | exact Below.refl _ _ | (refine Below.drew ?_) | (refine Below.alloc ?_ (by first | (simp; done) | (simp; omega)) _))) (HB3.out.mono (by first | (simp; done) | (simp; omega)))⟩
  · go_enter Tryz.func99, Tryz.ntmps99
    go_wp2_with fail
    go_region_with (go_at_call 96; refine (HN.out _).mono ?_; rintro e w2 ⟨rfl, rfl⟩; unfold kwC)
    all_goals
      go_wp2_with fail
      go_ret
      exact ⟨rfl, by repeat (first | exact Below.refl _ _ | (refine Below.drew ?_) | (refine Below.alloc ?_ (by first | (simp; done) | (simp; omega)) _))⟩
  · go_enter Tryz.func99, Tryz.ntmps99
    go_wp2_with fail
    go_region_with (go_at_call 96; refine (HN.out _).mono ?_; rintro e w2 ⟨rfl, rfl⟩; unfold kwC)
    all_goals
      go_wp2_with fail
      refine (HD.out _).mono ?_
      rintro e w3 ⟨rfl, hb3⟩
      have HB3 := (show Hid _ from hb3)
      clear hb3
      go_wp2_with fail
      go_ret
      exact ⟨congrArg (fun x => Ending.returned (Value.string x)) (HE.out 8 (by decide) rfl), Below.trans (by repeat (first | exact Below.refl _ _ | (refine Below.drew ?_) | (refine Below.alloc ?_ (by first | (simp; done) | (simp; omega)) _))) (HB3.out.mono (by first | (simp; done) | (simp; omega)))⟩
end Go.Proofs.YtipmckdlnipgkaaGreatDoor
