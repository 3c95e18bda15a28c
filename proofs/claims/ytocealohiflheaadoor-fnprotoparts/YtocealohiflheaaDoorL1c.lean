/- Varints written: contracts. -/
import Derived.Test.YtocealohiflheaaDoorL1b
namespace Go.Proofs.YtocealohiflheaaDoor
open Go.RowKit
set_option linter.unusedVariables false
/-- Seven bits, and the eighth: more follows. -/
def vb (m : Nat) : UInt8 := UInt8.ofNat (m % 128 + 128)
/-- Bytes of seven bits, the lowest first; ten at most. -/
def varF : Nat → Nat → List UInt8
  | 0, n => [UInt8.ofNat n]
  | f + 1, n => if n < 128 then [UInt8.ofNat n] else vb n :: varF f (n / 128)
def putVar (n : Nat) : List UInt8 := varF 10 n
theorem varF_small (f m : Nat) (h : m < 128) : varF f m = [UInt8.ofNat m] := by
  cases f with
  | zero => rfl
  | succ f => simp [varF, h]
theorem varF_big (f m : Nat) (h : ¬ m < 128) : varF (f + 1) m = vb m :: varF f (m / 128) := by simp [varF, h]
theorem or128 : ∀ a : Fin 256, a.val ||| 128 = a.val % 128 + 128 := by decide +kernel
theorem bv_or (m : Nat) : bv (vb m) = Value.int IntKind.u8 (bits BinOp.or IntKind.u8 ((m : Int) % 256) 128) := by
  have e : ((m : Int) % 256) = ((m % 256 : Nat) : Int) := by omega
  have o := or128 ⟨m % 256, Nat.mod_lt _ (by decide)⟩
  simp only at o
  have h := u8_or_nat (m % 256) 128 (by omega) (by decide)
  unfold vb
  rw [e, bv_ofNat]
  rw [show ((128 : Nat) : Int) = 128 from rfl] at h
  rw [h, o]
  congr 1
  omega
/-- How far the writing has come: what is done, what is left of the number, how many bytes may follow. -/
def VarAt (n : Nat) (l : List UInt8) (m : Nat) : Prop := ∃ f, l ++ varF f m = putVar n ∧ l.length + f = 10 ∧ m < 2 ^ (7 * f)
theorem VarAt.start (n : Nat) (hn : n < 18446744073709551616) : VarAt n [] n := ⟨10, rfl, rfl, by rw [show (2:Nat) ^ (7 * 10) = 1180591620717411303424 from by decide]; omega⟩
theorem VarAt.len {n : Nat} {l : List UInt8} {m : Nat} (h : VarAt n l m) : l.length ≤ 10 := by obtain ⟨f, _, h, _⟩ := h; omega
theorem VarAt.step {n : Nat} {l : List UInt8} {m : Nat} (h : VarAt n l m) (hm : ¬ m < 128) : VarAt n (l ++ [vb m]) (m / 128) := by
  obtain ⟨f, h1, h2, h3⟩ := h
  match f with
  | 0 => simp at h3; omega
  | f + 1 =>
    refine ⟨f, ?_, by simp; omega, ?_⟩
    · rw [varF_big f m hm] at h1; simpa using h1
    · rw [show 7 * (f + 1) = 7 * f + 7 from by omega, Nat.pow_add] at h3
      omega
theorem VarAt.done {n : Nat} {l : List UInt8} {m : Nat} (h : VarAt n l m) (hm : m < 128) : l ++ [UInt8.ofNat m] = putVar n := by
  obtain ⟨f, h1, _, _⟩ := h
  rw [varF_small f m hm] at h1; exact h1
set_option maxRecDepth 100000 in
set_option maxHeartbeats 400000 in
theorem varint64_any (n : Nat) (w : World) (hn : n < 18446744073709551616) : Calls Tryd.prog 34 #[.int .u64 n] w fun e w' => e = .returned (.string ⟨(putVar n).toArray⟩) ∧ Below w.heap.size w w' := by
  obtain ⟨i0, hi, hz0, hz1, hz2⟩ := info_parts Tryd.infoU8
  go_enter Tryd.func34, Tryd.ntmps34
  go_wp2
  go_loopw [0, 3] (fun v b wr => ∃ m : Nat, ∃ l : List UInt8, m ≤ n ∧ v = .int .u64 m ∧ VarAt n l m ∧ wr.ownsRow w.heap.size 5 1 b l.length (l.map bv) ∧ Below w.heap.size w wr) (fun v _ _ => (intOf v).toNat)
  case atStart => first | exact ⟨n, [], Nat.le_refl _, rfl, VarAt.start n hn, World.ownsRow_nil _ _ _ _, Below.refl _ _⟩ | exact ⟨n, [], Nat.le_refl _, rfl, VarAt.start n hn, World.ownsRow_lit w #[] 0 (Nat.le_refl _) (by decide) rfl, (Below.refl _ _).alloc (Nat.le_refl _) _⟩
  case round =>
    obtain ⟨m, l, hm, rfl, hat, hown, hb⟩ := hrel
    have hlen := hat.len
    by_cases hlt : m < 128
    · go_wp2_with (at_builtin; refine wpList_append_own _ rfl _ _ 35 rfl w.heap.size 5 i0 (.int .u8 0) 1 1 Tryd.underlying35 hi hz0 hz1 hz2 rfl (by decide) _ _ _ rfl (hown.alloc _) ⟨wr.heap.size, 0, none⟩ 1 1 [bv (UInt8.ofNat m)] rfl rfl ?c1 ?c2 ?c3 ?c4 ?c5 ?_)
      case c1 =>
        intro i u hi
        match i, hi with
        | 0, hi => simp at hi; subst hi; simp [Addr.add, bv_ofNat]; omega
      case c2 => intro u hu; simp at hu; subst hu; rfl
      case c3 => unfold maxLen; omega
      case c4 => omega
      case c5 => have := hb.size; simp; omega
      intro v' w1 hown' hgrow _
      have R1 := push_below hb hown (Nat.le_refl _) hgrow
      have R2 : w1.ownsRow w.heap.size 5 1 v' (l.length + 1) ((putVar n).map bv) := by rw [← hat.done hlt]; simpa using hown'
      have hc := conv_own (P := Tryd.prog) 35 9 Tryd.underlying35 Tryd.underlying5 Tryd.underlying9 R2
      clear hown' hgrow hown R2
      go_wp2
      go_ret
      exact ⟨rfl, R1⟩
    · go_wp2_with (at_builtin; refine wpList_append_own _ rfl _ _ 35 rfl w.heap.size 5 i0 (.int .u8 0) 1 1 Tryd.underlying35 hi hz0 hz1 hz2 rfl (by decide) _ _ _ rfl (hown.alloc _) ⟨wr.heap.size, 0, none⟩ 1 1 [bv (vb m)] rfl rfl ?d1 ?d2 ?d3 ?d4 ?d5 ?_)
      case d1 =>
        intro i u hi
        match i, hi with
        | 0, hi => simp at hi; subst hi; rw [bv_or]; simp [Addr.add]
      case d2 => intro u hu; simp at hu; subst hu; rfl
      case d3 => unfold maxLen; omega
      case d4 => omega
      case d5 => have := hb.size; simp; omega
      intro v' w1 hown' hgrow _
      have R1 := push_below hb hown (Nat.le_refl _) hgrow
      have R2 : w1.ownsRow w.heap.size 5 1 v' (l ++ [vb m]).length ((l ++ [vb m]).map bv) := by simpa using hown'
      have R3 := hat.step hlt
      clear hown' hgrow hown hat
      go_wp2
      go_roundw
      case rel => exact ⟨m / 128, _, by omega, by go_num, R3, R2, R1⟩
      case measure => simp [intOf]; omega
set_option maxRecDepth 100000 in
set_option maxHeartbeats 400000 in
theorem specPutVarint_any (n : Nat) (w : World) (hn : n < 18446744073709551616) : Calls Tryd.prog 63 #[.int .u64 n] w fun e w' => e = .returned (.string ⟨(putVar n).toArray⟩) ∧ Below w.heap.size w w' := by
  obtain ⟨i0, hi, hz0, hz1, hz2⟩ := info_parts Tryd.infoU8
  go_enter Tryd.func63, Tryd.ntmps63
  go_wp2
  go_loopw [0, 3] (fun v b wr => ∃ m : Nat, ∃ l : List UInt8, m ≤ n ∧ v = .int .u64 m ∧ VarAt n l m ∧ wr.ownsRow w.heap.size 5 1 b l.length (l.map bv) ∧ Below w.heap.size w wr) (fun v _ _ => (intOf v).toNat)
  case atStart => first | exact ⟨n, [], Nat.le_refl _, rfl, VarAt.start n hn, World.ownsRow_nil _ _ _ _, Below.refl _ _⟩ | exact ⟨n, [], Nat.le_refl _, rfl, VarAt.start n hn, World.ownsRow_lit w #[] 0 (Nat.le_refl _) (by decide) rfl, (Below.refl _ _).alloc (Nat.le_refl _) _⟩
  case round =>
    obtain ⟨m, l, hm, rfl, hat, hown, hb⟩ := hrel
    have hlen := hat.len
    by_cases hlt : m < 128
    · go_wp2_with (at_builtin; refine wpList_append_own _ rfl _ _ 35 rfl w.heap.size 5 i0 (.int .u8 0) 1 1 Tryd.underlying35 hi hz0 hz1 hz2 rfl (by decide) _ _ _ rfl (hown.alloc _) ⟨wr.heap.size, 0, none⟩ 1 1 [bv (UInt8.ofNat m)] rfl rfl ?c1 ?c2 ?c3 ?c4 ?c5 ?_)
      case c1 =>
        intro i u hi
        match i, hi with
        | 0, hi => simp at hi; subst hi; simp [Addr.add, bv_ofNat]; omega
      case c2 => intro u hu; simp at hu; subst hu; rfl
      case c3 => unfold maxLen; omega
      case c4 => omega
      case c5 => have := hb.size; simp; omega
      intro v' w1 hown' hgrow _
      have R1 := push_below hb hown (Nat.le_refl _) hgrow
      have R2 : w1.ownsRow w.heap.size 5 1 v' (l.length + 1) ((putVar n).map bv) := by rw [← hat.done hlt]; simpa using hown'
      have hc := conv_own (P := Tryd.prog) 35 9 Tryd.underlying35 Tryd.underlying5 Tryd.underlying9 R2
      clear hown' hgrow hown R2
      go_wp2
      go_ret
      exact ⟨rfl, R1⟩
    · go_wp2_with (at_builtin; refine wpList_append_own _ rfl _ _ 35 rfl w.heap.size 5 i0 (.int .u8 0) 1 1 Tryd.underlying35 hi hz0 hz1 hz2 rfl (by decide) _ _ _ rfl (hown.alloc _) ⟨wr.heap.size, 0, none⟩ 1 1 [bv (vb m)] rfl rfl ?d1 ?d2 ?d3 ?d4 ?d5 ?_)
      case d1 =>
        intro i u hi
        match i, hi with
        | 0, hi => simp at hi; subst hi; rw [bv_or]; simp [Addr.add]
      case d2 => intro u hu; simp at hu; subst hu; rfl
      case d3 => unfold maxLen; omega
      case d4 => omega
      case d5 => have := hb.size; simp; omega
      intro v' w1 hown' hgrow _
      have R1 := push_below hb hown (Nat.le_refl _) hgrow
      have R2 : w1.ownsRow w.heap.size 5 1 v' (l ++ [vb m]).length ((l ++ [vb m]).map bv) := by simpa using hown'
      have R3 := hat.step hlt
      clear hown' hgrow hown hat
      go_wp2
      go_roundw
      case rel => exact ⟨m / 128, _, by omega, by go_num, R3, R2, R1⟩
      case measure => simp [intOf]; omega
theorem implPutVarint_any (n : Nat) (w : World) (hn : n < 18446744073709551616) : Calls Tryd.prog 17 #[.int .u64 n] w fun e w' => e = .returned (.string ⟨(putVar n).toArray⟩) ∧ Below w.heap.size w w' := by
  go_enter Tryd.func17, Tryd.ntmps17
  go_wp2_with (go_at_call 34; refine (varint64_any n _ hn).mono ?_; rintro e w' ⟨rfl, hb⟩)
  go_ret
  exact ⟨rfl, by assumption⟩
end Go.Proofs.YtocealohiflheaaDoor
