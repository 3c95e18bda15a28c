/- A sum over bytes, bit by bit and four bits at once: plain facts. -/
import Derived.Test.YtgidjhgaeghanaaDoorL1w
import Derived.Laws.BitsAllLaws
namespace Go.Proofs.YtgidjhgaeghanaaDoor
open Go.RowKit
set_option linter.unusedVariables false
/-- One bit. -/
def crStep (c : Nat) : Nat := if c % 2 = 1 then c / 2 ^^^ 3988292384 else c / 2
def crBits : Nat → Nat → Nat
  | 0, c => c
  | k + 1, c => crBits k (crStep c)
theorem crStep_xor (a b : Nat) : crStep (a ^^^ b) = crStep a ^^^ crStep b := by
  have e : (a ^^^ b) / 2 = a / 2 ^^^ b / 2 := by
    have := Nat.shiftRight_xor_distrib (a := a) (b := b) (i := 1)
    simpa [Nat.shiftRight_eq_div_pow] using this
  have h2 : (a ^^^ b).testBit 0 = ((a.testBit 0) ^^ (b.testBit 0)) := Nat.testBit_xor ..
  simp only [Nat.testBit_zero] at h2
  have ha : a % 2 = 0 ∨ a % 2 = 1 := by omega
  have hb : b % 2 = 0 ∨ b % 2 = 1 := by omega
  have e2 : (a ^^^ b) % 2 = (a + b) % 2 := by
    rcases ha with ha | ha <;> rcases hb with hb | hb <;> rw [ha, hb] at h2
    · have := of_decide_eq_false (h2.trans rfl); omega
    · have := of_decide_eq_true (h2.trans rfl); omega
    · have := of_decide_eq_true (h2.trans rfl); omega
    · have := of_decide_eq_false (h2.trans rfl); omega
  unfold crStep
  rw [e, e2]
  rcases ha with ha | ha <;> rcases hb with hb | hb
  · rw [if_neg (by omega), if_neg (by omega), if_neg (by omega)]
  · rw [if_pos (by omega), if_neg (by omega), if_pos (by omega), Nat.xor_assoc]
  · rw [if_pos (by omega), if_pos (by omega), if_neg (by omega), Nat.xor_assoc, Nat.xor_assoc, Nat.xor_comm 3988292384]
  · rw [if_neg (by omega), if_pos (by omega), if_pos (by omega), Nat.xor_assoc, Nat.xor_comm (b / 2), ← Nat.xor_assoc 3988292384, Nat.xor_self, Nat.zero_xor]
theorem crBits_xor : ∀ (k a b : Nat), crBits k (a ^^^ b) = crBits k a ^^^ crBits k b
  | 0, _, _ => rfl
  | k + 1, a, b => by
    show crBits k (crStep (a ^^^ b)) = crBits k (crStep a) ^^^ crBits k (crStep b)
    rw [crStep_xor, crBits_xor]
theorem crStep_even (q : Nat) : crStep (2 * q) = q := by
  unfold crStep
  rw [if_neg (by omega)]; omega
theorem crBits_16 (q : Nat) : crBits 4 (16 * q) = q := by
  show crStep (crStep (crStep (crStep (16 * q)))) = q
  rw [show 16 * q = 2 * (8 * q) from by omega, crStep_even, show 8 * q = 2 * (4 * q) from by omega, crStep_even, show 4 * q = 2 * (2 * q) from by omega, crStep_even, crStep_even]
theorem split_16 (n : Nat) : n = (16 * (n / 16)) ^^^ (n % 16) := by
  apply Nat.eq_of_testBit_eq
  intro i
  rw [Nat.testBit_xor, show 16 * (n / 16) = (n >>> 4) <<< 4 from by rw [Nat.shiftLeft_eq, Nat.shiftRight_eq_div_pow]; omega, Nat.testBit_shiftLeft, Nat.testBit_shiftRight, show n % 16 = n % 2 ^ 4 from rfl, Nat.testBit_mod_two_pow]
  by_cases h : 4 ≤ i
  · have h2 : ¬ i < 4 := by omega
    simp [h, h2, show 4 + (i - 4) = i from by omega]
  · have h2 : i < 4 := by omega
    simp [h, h2]
/-- What four bits add. -/
def crTab : List Nat := [0, 498536548, 997073096, 651767980, 1994146192, 1802195444, 1303535960, 1342533948, 3988292384, 4027552580, 3604390888, 3412177804, 2607071920, 2262029012, 2685067896, 3183342108]
def crT (r : Nat) : Nat := crTab.getD r 0
theorem crT_bits : ∀ r, r < 16 → crBits 4 r = crT r := by decide +kernel
theorem crT_lt : ∀ r, r < 16 → crT r < 4294967296 := by decide +kernel
theorem crNib (n : Nat) : crBits 4 n = (n / 16) ^^^ crT (n % 16) := by
  conv => lhs; rw [split_16 n]
  rw [crBits_xor, crBits_16, crT_bits _ (by omega)]
theorem crBits_add : ∀ (j k n : Nat), crBits (j + k) n = crBits k (crBits j n)
  | 0, k, n => by rw [Nat.zero_add]; rfl
  | j + 1, k, n => by rw [show j + 1 + k = (j + k) + 1 from by omega]; exact crBits_add j k (crStep n)
theorem crBits_snoc (k n : Nat) : crBits (k + 1) n = crStep (crBits k n) := crBits_add k 1 n
theorem crStep_lt (n : Nat) (h : n < 4294967296) : crStep n < 4294967296 := by
  unfold crStep
  split
  · exact Nat.xor_lt_two_pow (n := 32) (by omega) (by decide)
  · omega
theorem crBits_lt : ∀ (k n : Nat), n < 4294967296 → crBits k n < 4294967296
  | 0, _, h => h
  | k + 1, n, h => crBits_lt k _ (crStep_lt n h)
def crByte (c : Nat) (b : UInt8) : Nat := crBits 8 (c ^^^ b.toNat)
theorem xor_lt (c : Nat) (b : UInt8) (h : c < 4294967296) : c ^^^ b.toNat < 4294967296 := Nat.xor_lt_two_pow (n := 32) h (by have := b.toNat_lt; omega)
theorem crByte_lt (c : Nat) (b : UInt8) (h : c < 4294967296) : crByte c b < 4294967296 := crBits_lt 8 _ (xor_lt c b h)
/-- Of a row of bytes, ahead of the last turn. -/
def crc0 (l : List UInt8) : Nat := l.foldl crByte 4294967295
theorem crc0_snoc (l : List UInt8) (b : UInt8) : crc0 (l ++ [b]) = crByte (crc0 l) b := by simp [crc0]
theorem foldl_lt : ∀ (l : List UInt8) (c : Nat), c < 4294967296 → l.foldl crByte c < 4294967296
  | [], _, h => h
  | b :: l, c, h => foldl_lt l _ (crByte_lt c b h)
theorem crc0_lt (l : List UInt8) : crc0 l < 4294967296 := foldl_lt l _ (by decide)
def crc (l : List UInt8) : Nat := 4294967295 - crc0 l
theorem crc_lt (l : List UInt8) : crc l < 4294967296 := by unfold crc; omega
/-- The table in memory. -/
def KR (w : World) : Prop := 0 < w.heap.size ∧ w.var? Tryd.prog "loop.example/g00774/impl.crcParts" = some ((crTab.map fun (z : Nat) => (z : Int)).map fun z => Value.int .u32 z).toArray
theorem Tryd.gKR : Tryd.prog.globalNamed "loop.example/g00774/impl.crcParts" = some 0 := by kernel_rfl
theorem KR.cell {w : World} (h : KR w) (r : Nat) (hr : r < 16) : w.cell? ⟨0, r, none⟩ = some (.int .u32 (crT r)) := by
  have := World.var?_cell Tryd.gKR h.2 r
  rw [this]
  have hall : ∀ r, r < 16 → ((crTab.map fun (z : Nat) => (z : Int)).map fun z => Value.int .u32 z).toArray[r]? = some (Value.int .u32 (crT r)) := by
    intro r hr
    have hl : r < crTab.length := hr
    simp [crT, List.getD, List.getElem?_eq_getElem hl]
  exact hall r hr
theorem KR.below {w w' : World} (h : KR w) {B : Nat} (hb : Below B w w') (hB : w.heap.size ≤ B) : KR w' := by
  have h0 := h.1
  refine ⟨by have := hb.size; omega, ?_⟩
  have e : w'.heap[0]? = w.heap[0]? := hb.block _ (by omega)
  have h2 := h.2
  unfold World.var? at h2 ⊢
  rw [Tryd.gKR] at h2 ⊢
  simp only [Option.bind_some] at h2 ⊢
  rw [e]; exact h2
end Go.Proofs.YtgidjhgaeghanaaDoor
