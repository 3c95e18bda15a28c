/- The specification's decimal numbers of items; items alone: contracts. -/
import Derived.Test.YtknbmheenfdebaaDoorS5c
import Derived.Deep.RegionWith
namespace Go.Proofs.YtknbmheenfdebaaDoor
open Go.RowKit Go.Sort
set_option linter.unusedVariables false
theorem conv_blk {w : World} {g : Nat} {fr : Nat × Nat} (x : Nat) (z : Int) (hx : x < 256) (hz : z = (x : Int)) (h : w.heap[g]? = some (.cells #[.int .u8 z] 5 (0, 0))) : (convert 48 9 (.slice (some ⟨g, 0, none⟩) 1 1)).run Tryd.prog w = .ok (.string ⟨#[UInt8.ofNat x]⟩) w := by
  subst hz
  have hb : bv (UInt8.ofNat x) = .int .u8 (x : Int) := by simp [bv]; omega
  have ho : w.ownsRow 0 5 1 (.slice (some ⟨g, 0, none⟩) 1 1) 1 ([UInt8.ofNat x].map bv) := ⟨rfl, .inr ⟨g, 1, #[.int .u8 (x : Int)], rfl, Nat.zero_le _, h, Nat.le_refl _, by decide, rfl, by simp [hb]⟩⟩
  have hc := conv_own (P := Tryd.prog) 48 9 Tryd.underlying48 Tryd.underlying5 Tryd.underlying9 ho
  simpa using hc
theorem conv_new (x : Nat) (z : Int) (hx : x < 256) (hz : z = (x : Int)) : ∀ w : World, (convert 48 9 (.slice (some ⟨w.heap.size, 0, none⟩) 1 1)).run Tryd.prog (w.alloc (.cells #[.int .u8 z] 5)) = .ok (.string ⟨#[UInt8.ofNat x]⟩) (w.alloc (.cells #[.int .u8 z] 5)) := fun w => conv_blk (fr := (0, 0)) x z hx hz (by show (w.heap.push _)[w.heap.size]? = _; simp)
theorem conv_kept (x : Nat) (z : Int) (hx : x < 256) (hz : z = (x : Int)) {w w' : World} (hb : Below (w.alloc (.cells #[.int .u8 z] 5)).heap.size (w.alloc (.cells #[.int .u8 z] 5)) w') : (convert 48 9 (.slice (some ⟨w.heap.size, 0, none⟩) 1 1)).run Tryd.prog w' = .ok (.string ⟨#[UInt8.ofNat x]⟩) w' := conv_blk (fr := (0, 0)) x z hx hz (by rw [hb.block _ (by simp)]; show (w.heap.push _)[w.heap.size]? = _; simp)
set_option maxRecDepth 100000 in
set_option maxHeartbeats 600000 in
theorem l3Num_any : ∀ (n : Nat) (w : World), n < 18446744073709551616 → Calls Tryd.prog 18 #[.int .u64 n] w fun e w' => e = .returned (.string ⟨(Lib.decDigits n).toArray⟩) ∧ Below w.heap.size w w' := by
  intro n
  induction n using Nat.strongRecOn with
  | _ n ih =>
    intro w hn
    by_cases hg : n < 10
    · have hd : decide (n < 10) = true := by simpa using hg
      have hc := conv_new (48 + n) (48 + (n : Int)) (by omega) (by omega) w
      obtain ⟨B, hB⟩ : ∃ B, UInt8.ofNat (48 + n) = B := ⟨_, rfl⟩
      rw [hB] at hc
      have HE : Hid ((⟨#[B]⟩ : ByteArray) = ⟨(Lib.decDigits n).toArray⟩) := by show _ = _; rw [Lib.decDigits, dif_pos hg, hB]
      clear hB ih
      go_enter Tryd.func18, Tryd.ntmps18
      go_wp2_with fail
      go_ret
      exact ⟨by rw [← HE.out]; try rfl, (Below.refl _ _).alloc (Nat.le_refl _) _⟩
    · have hd : decide (n < 10) = false := by simpa using hg
      obtain ⟨D, hD⟩ : ∃ D : ByteArray, (⟨(Lib.decDigits (n / 10)).toArray⟩ : ByteArray) = D := ⟨_, rfl⟩
      have HI : Hid (∀ (z : Int) w, z = ((n / 10 : Nat) : Int) → Calls Tryd.prog 18 #[.int .u64 z] w fun e w' => e = .returned (.string D) ∧ Below w.heap.size w w') := fun z w hz => by
        subst hz
        have := ih (n / 10) (by omega) w (by omega)
        rw [hD] at this
        exact this
      obtain ⟨B, hB⟩ : ∃ B, UInt8.ofNat (48 + n % 10) = B := ⟨_, rfl⟩
      have hlen : (Lib.decDigits (n / 10)).length ≤ 20 := decDigits_len (by omega)
      have hDs : D.size ≤ 20 := by rw [← hD]; exact hlen
      have HE : Hid (D ++ (⟨#[B]⟩ : ByteArray) = ⟨(Lib.decDigits n).toArray⟩) := by
        show _ = _
        rw [← hD, ← hB]
        have e : Lib.decDigits n = Lib.decDigits (n / 10) ++ [UInt8.ofNat (48 + n % 10)] := by rw [Lib.decDigits, dif_neg hg]
        rw [e]
        apply ByteArray.ext
        simp
      have hZ : IntKind.u8.wrap (IntKind.u64.wrap (48 + (n : Int).tmod 10)) = ((48 + n % 10 : Nat) : Int) := by rw [Int.tmod_eq_emod_of_nonneg (by omega), IntKind.wrap_u64, IntKind.wrap_u8]; omega
      have hcn := conv_new (48 + n % 10) (IntKind.u8.wrap (IntKind.u64.wrap (48 + (n : Int).tmod 10))) (by omega) hZ
      rw [hB] at hcn
      have hcd : (convert 48 9 (.slice (some ⟨w.heap.size, 0, none⟩) 1 1)).run Tryd.prog (w.alloc (.cells #[.int .u8 (IntKind.u8.wrap (IntKind.u64.wrap (48 + (n : Int).tmod 10)))] 5)).drew = .ok (.string ⟨#[B]⟩) (w.alloc (.cells #[.int .u8 (IntKind.u8.wrap (IntKind.u64.wrap (48 + (n : Int).tmod 10)))] 5)).drew := by
        have := conv_blk (w := (w.alloc (.cells #[.int .u8 (IntKind.u8.wrap (IntKind.u64.wrap (48 + (n : Int).tmod 10)))] 5)).drew) (g := w.heap.size) (fr := (0, 0)) (48 + n % 10) (IntKind.u8.wrap (IntKind.u64.wrap (48 + (n : Int).tmod 10))) (by omega) hZ (by show (w.heap.push _)[w.heap.size]? = _; simp)
        rwa [hB] at this
      have HK : Hid (∀ {w w' : World}, Below (w.alloc (.cells #[.int .u8 (IntKind.u8.wrap (IntKind.u64.wrap (48 + (n : Int).tmod 10)))] 5)).heap.size (w.alloc (.cells #[.int .u8 (IntKind.u8.wrap (IntKind.u64.wrap (48 + (n : Int).tmod 10)))] 5)) w' → (convert 48 9 (.slice (some ⟨w.heap.size, 0, none⟩) 1 1)).run Tryd.prog w' = .ok (.string ⟨#[B]⟩) w') := by
        intro w w' hb
        have := conv_kept (48 + n % 10) (IntKind.u8.wrap (IntKind.u64.wrap (48 + (n : Int).tmod 10))) (by omega) hZ hb
        rwa [hB] at this
      clear ih hD hB hlen hZ
      go_enter Tryd.func18, Tryd.ntmps18
      go_wp2_with fail
      go_region_with (go_at_call 18; refine (HI.out _ _ (by rw [IntKind.wrap_u64]; omega)).mono ?_; rintro e w3 ⟨rfl, hb3⟩; try have hck : (convert 48 9 (.slice (some ⟨w.heap.size, 0, none⟩) 1 1)).run Tryd.prog w3 = .ok (.string ⟨#[B]⟩) w3 := HK.out (w := w.drew) hb3; try have hck2 : (convert 48 9 (.slice (some ⟨w.heap.size, 0, none⟩) 1 1)).run Tryd.prog w3 = .ok (.string ⟨#[B]⟩) w3 := HK.out (w := w) hb3)
      all_goals
        go_wp2_with fail
        go_ret
        refine ⟨congrArg (fun x => Ending.returned (Value.string x)) HE.out, ?_⟩
        first
          | exact (((Below.refl _ _).drew.trans hb3).alloc (show w.heap.size ≤ w3.heap.size from hb3.size) _)
          | exact (((Below.refl _ _).drew.trans hb3).alloc (show w.heap.size ≤ w3.heap.size from hb3.size) _).drew
          | exact ((Below.refl _ _).drew.alloc (Nat.le_refl _) _).trans (hb3.mono (by simp))
          | exact ((Below.refl _ _).alloc (Nat.le_refl _) _).drew.trans (hb3.mono (show w.heap.size ≤ (w.heap.push _).size by simp))
end Go.Proofs.YtknbmheenfdebaaDoor
