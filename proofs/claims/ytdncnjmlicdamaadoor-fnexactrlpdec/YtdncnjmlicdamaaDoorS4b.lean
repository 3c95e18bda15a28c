/- S4a, S4b: one text. -/
import Derived.Test.YtdncnjmlicdamaaDoorS2h
import Derived.Test.YtdncnjmlicdamaaDoorPv
import Derived.Lib.ItoaNum
import Derived.Lib.Join
import Derived.Lib.QuietBelow
import Derived.BigQuiet
import Derived.Deep.RegionWith
namespace Go.Proofs.YtdncnjmlicdamaaDoor
open Go.RowKit
set_option linter.unusedVariables false
def tyText (k n : Int) : List UInt8 := (rs (k.toNat - 1)).data.toList ++ (if rb (k.toNat - 1) then Lib.decDigits n.toNat else [])
def schText (ts : List (Int × Int)) : List UInt8 := if schOk ts then Lib.join (ts.map fun t => tyText t.1 t.2) [32] else []
theorem dec_lt10 {u : Nat} (h : u < 10) : Lib.decDigits u = [UInt8.ofNat (48 + u)] := by rw [Lib.decDigits, dif_pos h]
theorem dec_ge10 {u : Nat} (h : ¬ u < 10) : Lib.decDigits u = Lib.decDigits (u / 10) ++ [UInt8.ofNat (48 + u % 10)] := by rw [Lib.decDigits, dif_neg h]
theorem dec_len {u : Nat} (h : u < 1000) : (Lib.decDigits u).length ≤ 3 := by
  by_cases h1 : u < 10
  · rw [dec_lt10 h1]; simp
  · rw [dec_ge10 h1]
    by_cases h2 : u / 10 < 10
    · rw [dec_lt10 h2]; simp
    · rw [dec_ge10 h2, dec_lt10 (by omega)]; simp
theorem rs_len : ∀ j, (rs j).data.toList.length ≤ 6
  | 0 => by decide
  | 1 => by decide
  | 2 => by decide
  | 3 => by decide
  | 4 => by decide
  | 5 => by decide
  | 6 => by decide
  | 7 => by decide
  | 8 => by decide
  | n + 9 => by simp [rs, kWords]
theorem tyOk_in {k n : Int} (h : tyOk k n = true) : 1 ≤ k ∧ k ≤ 9 ∧ 0 ≤ n ∧ n ≤ 200 := by simp only [tyOk, decide_eq_true_eq] at h; omega
theorem tyText_len {k n : Int} (h : tyOk k n = true) : (tyText k n).length ≤ 9 := by
  have := tyOk_in h
  have h1 := rs_len (k.toNat - 1)
  have h2 := dec_len (u := n.toNat) (by omega)
  unfold tyText
  rw [List.length_append]
  split
  · omega
  · rw [List.length_nil]; omega
theorem schOk_all {ts : List (Int × Int)} (h : schOk ts = true) : ∀ i (hi : i < ts.length), tyOk ts[i].1 ts[i].2 = true := by
  intro i hi
  obtain ⟨_, he⟩ := schOk_iff.1 h
  obtain ⟨f', e', _, he', _⟩ := en_find he (Nat.zero_le i) hi
  cases f' with
  | zero => cases he'
  | succ f' => exact (en_inv he').2.1
theorem schOk_pos {ts : List (Int × Int)} (h : schOk ts = true) : 0 < ts.length := by
  obtain ⟨_, he⟩ := schOk_iff.1 h
  exact (en_lt he).1
/-- The texts of the first j types, one behind the other. -/
def txs (ts : List (Int × Int)) (j : Nat) : List (List UInt8) := (ts.take j).map fun t => tyText t.1 t.2
theorem txs_succ {ts : List (Int × Int)} {j : Nat} (h : j < ts.length) : txs ts (j + 1) = txs ts j ++ [tyText ts[j].1 ts[j].2] := by
  unfold txs
  rw [List.take_succ_eq_append_getElem h, List.map_append]; rfl
theorem join_snoc {xs : List (List UInt8)} {y : List UInt8} (h : xs ≠ []) : Lib.join (xs ++ [y]) [32] = Lib.join xs [32] ++ (32 :: y) := by
  unfold Lib.join
  induction xs with
  | nil => exact absurd rfl h
  | cons a t ih =>
    cases t with
    | nil => simp [List.intercalate]
    | cons b r =>
      have := ih (by simp)
      simp only [List.intercalate, List.intersperse, List.cons_append, List.flatten_cons] at this ⊢
      rw [this]
      simp [List.append_assoc]
theorem join_one' (y : List UInt8) : Lib.join [y] [32] = y := by simp [Lib.join, List.intercalate]
theorem txs_one {ts : List (Int × Int)} (h : 0 < ts.length) : txs ts 1 = [tyText ts[0].1 ts[0].2] := by
  have := txs_succ (ts := ts) (j := 0) h
  simpa [txs] using this
theorem txs_ne {ts : List (Int × Int)} {j : Nat} (h : 0 < j) (hl : 0 < ts.length) : txs ts j ≠ [] := by
  intro e
  have := congrArg List.length e
  simp only [txs, List.length_map, List.length_take, List.length_nil] at this
  omega
theorem jt_len {ts : List (Int × Int)} (h : ∀ i (hi : i < ts.length), tyOk ts[i].1 ts[i].2 = true) : ∀ j, j ≤ ts.length → (Lib.join (txs ts j) [32]).length ≤ 10 * j := by
  intro j
  induction j with
  | zero => intro _; simp [txs, Lib.join, List.intercalate]
  | succ j ih =>
    intro hj
    rw [txs_succ (by omega)]
    have h1 := tyText_len (h j (by omega))
    cases j with
    | zero => simp only [txs, List.take_zero, List.map_nil, List.nil_append, join_one']; omega
    | succ j =>
      rw [join_snoc (txs_ne (by omega) (by omega)), List.length_append, List.length_cons]
      have := ih (by omega)
      omega
theorem schText_ok {ts : List (Int × Int)} (h : schOk ts = true) : schText ts = Lib.join (txs ts ts.length) [32] := by
  unfold schText txs
  rw [if_pos h, List.take_length]
theorem schText_no {ts : List (Int × Int)} (h : schOk ts = false) : schText ts = [] := by
  unfold schText
  rw [h]; rfl
theorem str_of {S : ByteArray} {l : List UInt8} (h : S.data.toList = l) : S = ⟨l.toArray⟩ := by
  obtain ⟨⟨x⟩⟩ := S
  simp at h
  subst h
  rfl
theorem cat_dl (a b : ByteArray) : (a ++ b).data.toList = a.data.toList ++ b.data.toList := by simp
end Go.Proofs.YtdncnjmlicdamaaDoor
namespace Go.Proofs.YtdncnjmlicdamaaDoor
open Go.RowKit Go.Sort
set_option linter.unusedVariables false
theorem conv1 (w : World) (x : Nat) (z : Int) (hx : x < 256) (hz : z = (x : Int)) : (convert 78 9 (.slice (some ⟨w.heap.size, 0, none⟩) 1 1)).run Tryd.prog (w.alloc (.cells #[.int .u8 z] 5)) = .ok (.string ⟨#[UInt8.ofNat x]⟩) (w.alloc (.cells #[.int .u8 z] 5)) := by
  subst hz
  have hb : bv (UInt8.ofNat x) = .int .u8 (x : Int) := by simp [bv]; omega
  have ho := World.ownsRow_lit (base := w.heap.size) (e := 5) (size := 1) w #[bv (UInt8.ofNat x)] 1 (Nat.le_refl _) (by decide) rfl
  have hc := conv_own (P := Tryd.prog) 78 9 Tryd.underlying78 Tryd.underlying5 Tryd.underlying9 (l := [UInt8.ofNat x]) (by simpa using ho)
  rw [hb] at hc
  simpa using hc
end Go.Proofs.YtdncnjmlicdamaaDoor
