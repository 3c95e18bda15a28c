/- The laws' own comparison of rows of items that are alike; bytes of a code: contracts. -/
import Derived.Test.YtdncnjmlicdamaaGreatDoorS3l
import Derived.Test.YtdncnjmlicdamaaGreatDoorDrawX
import Derived.BigQuiet
import Derived.Deep.QuietTactic
import Derived.OpenShut
namespace Go.Proofs.YtdncnjmlicdamaaGreatDoor
open Go.RowKit Go.Sort
set_option linter.unusedVariables false
set_option maxRecDepth 100000 in
set_option maxHeartbeats 2000000 in
theorem sameItems_any (vs : List It) (v v' : Value) (w : World) (hv : IsItems w.heap.size w v vs) (hv' : IsItems w.heap.size w v' vs) : Calls Tryz.prog 11 #[v, v'] w fun e w' => e = .returned (.bool true) ∧ Below w.heap.size w w' := by
  have HV : Hid (IsItems w.heap.size w v vs) := hv
  have HV' : Hid (IsItems w.heap.size w v' vs) := hv'
  obtain ⟨ad, cap, rfl, h1, h2⟩ := hv.form
  obtain ⟨ad', cap', rfl, h1', h2'⟩ := hv'.form
  have hsm : vs.length ≤ 1048577 := by obtain ⟨b, o, C, h, _⟩ := hv; exact h.small
  unfold maxLen at h2 h2'
  clear hv hv'
  go_enter Tryz.func11, Tryz.ntmps11
  go_wp2_with fail
  go_loopg [5] vs.length (fun gk i wr => ∃ j : Nat, j + gk = vs.length ∧ i = .int .i64 j ∧ Below w.heap.size w wr)
  case atStart => exact ⟨0, by omega, rfl, Below.refl _ _⟩
  case round =>
    obtain ⟨j, hj', rfl, hb⟩ := hrel
    have HJ : Hid (j + gk = vs.length) := hj'
    have HB : Hid (Below w.heap.size w wr) := hb
    have hj : j ≤ vs.length := by omega
    clear hj'
    by_cases hlt : j < vs.length
    · obtain ⟨b, o, c, e1, hbl, _, _, c0, c1, c2⟩ := (HV.out.below hb).at hlt
      obtain ⟨b', o', c', e1', hbl', _, _, c0', c1', c2'⟩ := (HV'.out.below hb).at hlt
      cases e1
      cases e1'
      obtain ⟨x, hx⟩ : ∃ x, vs[j] = x := ⟨_, rfl⟩
      rw [hx] at c0 c0' c1 c1' c2 c2'
      obtain ⟨xk, xn, xs⟩ := x
      simp only at c0 c0' c1 c1' c2 c2'
      have hss : (xs.toList == xs.toList) = true := by simp
      clear hx hb
      go_wp2_with fail
      go_quiet (fail)
      go_wp2_with fail
      go_roundg (gk - 1)
      case rel => exact ⟨j + 1, by have := HJ.out; omega, by go_num, HB.out.trans (below_drewN _ _ _)⟩
      case measure => have := HJ.out; omega
    · clear hb
      go_wp2_with fail
      go_ret
      exact ⟨rfl, HB.out⟩
set_option maxHeartbeats 1000000 in
theorem byteOf_any (B0 : Nat) (a : Option Addr) (len cap i : Nat) (w : World) (hc : CodeAt B0 a len w) (hl : len ≤ 1048576) (hcap : len ≤ cap) (hcm : cap ≤ maxLen) (hi : i ≤ 1000) : Calls Tryz.prog 15 #[.slice a len cap, .int .i64 i] w fun e w' => (∃ v : Nat, v ≤ 255 ∧ e = .returned (.int .i64 v)) ∧ w' = w := by
  unfold maxLen at hcm
  by_cases h0 : len = 0
  · subst h0
    go_enter Tryz.func15, Tryz.ntmps15
    go_wp2_with fail
    go_ret
    exact ⟨⟨0, by omega, rfl⟩, rfl⟩
  · obtain ⟨bx, ox, rfl, hb, hcell⟩ := hc.resolve_left h0
    have hlt : i % len < len := Nat.mod_lt _ (by omega)
    obtain ⟨z, hz, c0⟩ := hcell (i % len) hlt
    have e0 : ((len : Int) == 0) = false := by simp; omega
    have er : (i : Int).tmod (len : Int) = ((i % len : Nat) : Int) := by rw [Int.tmod_eq_emod_of_nonneg (by omega)]; simp
    have hne : (len : Int) ≠ 0 := by omega
    obtain ⟨q, hq⟩ : ∃ q, i % len = q := ⟨_, rfl⟩
    rw [hq] at hlt c0 er
    clear hcell hq
    go_enter Tryz.func15, Tryz.ntmps15
    go_wp2_with fail
    go_ret
    exact ⟨⟨z, hz, rfl⟩, rfl⟩
set_option maxHeartbeats 1000000 in
theorem place_any (B0 : Nat) (a : Option Addr) (len cap n : Nat) (w : World) (hc : CodeAt B0 a len w) (hl : len ≤ 1048576) (hcap : len ≤ cap) (hcm : cap ≤ maxLen) (hn : 1 ≤ n) (hn2 : n ≤ 1000000) : Calls Tryz.prog 16 #[.int .i64 n, .slice a len cap] w fun e w' => (∃ v : Nat, v < n ∧ e = .returned (.int .i64 v)) ∧ w' = w := by
  have HB : Hid (∀ i : Nat, i ≤ 1000 → Calls Tryz.prog 15 #[.slice a len cap, .int .i64 i] w fun e w' => (∃ v : Nat, v ≤ 255 ∧ e = .returned (.int .i64 v)) ∧ w' = w) := fun i hi => byteOf_any B0 a len cap i w hc hl hcap hcm hi
  have e0 : ((n : Int) == 0) = false := by simp; omega
  have hne : (n : Int) ≠ 0 := by omega
  clear hc
  go_enter Tryz.func16, Tryz.ntmps16
  go_wp2_with fail
  refine (HB.out 1 (by decide)).mono ?_
  rintro e w1 ⟨⟨x, hx, rfl⟩, rfl⟩
  go_wp2_with fail
  refine (HB.out 2 (by decide)).mono ?_
  rintro e w2 ⟨⟨y, hy, rfl⟩, rfl⟩
  have hlt : (x * 256 + y) % n < n := Nat.mod_lt _ (by omega)
  go_wp2_with fail
  go_ret
  refine ⟨⟨(x * 256 + y) % n, hlt, ?_⟩, rfl⟩
  rw [show (((x * 256 + y) % n : Nat) : Int) = ((x : Int) * 256 + (y : Int)) % (n : Int) by simp]
  rfl
/-- 'string([]byte{z})'. -/
theorem convB (w : World) (x : Nat) (z : Int) (hx : x < 256) (hz : z = (x : Int)) : (convert 22 9 (.slice (some ⟨w.heap.size, 0, none⟩) 1 1)).run Tryz.prog (w.alloc (.cells #[.int .u8 z] 5)) = .ok (.string ⟨#[UInt8.ofNat x]⟩) (w.alloc (.cells #[.int .u8 z] 5)) := by
  subst hz
  have hb : bv (UInt8.ofNat x) = .int .u8 (x : Int) := by simp [bv]; omega
  have ho : (w.alloc (.cells #[.int .u8 (x : Int)] 5)).ownsRow 0 5 1 (.slice (some ⟨w.heap.size, 0, none⟩) 1 1) 1 ([UInt8.ofNat x].map bv) := ⟨rfl, .inr ⟨w.heap.size, 1, #[.int .u8 (x : Int)], rfl, Nat.zero_le _, heap_alloc_new w _, Nat.le_refl _, by decide, rfl, by simp [hb]⟩⟩
  have hc := conv_own (P := Tryz.prog) 22 9 Tryz.underlying22 Tryz.underlying5 Tryz.underlying9 ho
  simpa using hc
end Go.Proofs.YtdncnjmlicdamaaGreatDoor
