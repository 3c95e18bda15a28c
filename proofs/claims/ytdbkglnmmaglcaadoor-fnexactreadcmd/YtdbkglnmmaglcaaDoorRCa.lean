/- Digits read, and which command has a text: plain facts. -/
import Derived.Test.YtdbkglnmmaglcaaDoorGTa
import Derived.Lib.Strings
import Derived.Lib.Bytealg
namespace Go.Proofs.YtdbkglnmmaglcaaDoor
open Go.RowKit Go.Sort
set_option linter.unusedVariables false
/-- The number that a digit is. -/
def dg (b : UInt8) : Option Nat := if 48 ≤ b.toNat ∧ b.toNat ≤ 57 then some (b.toNat - 48) else if 97 ≤ b.toNat ∧ b.toNat ≤ 102 then some (b.toNat - 87) else none
def digI (b : UInt8) : Int := match dg b with
  | some v => v
  | none => -1
theorem all_u8 {p : UInt8 → Prop} (h : ∀ n : Fin 256, p (UInt8.ofNat n.1)) (b : UInt8) : p b := by
  have := h ⟨b.toNat, b.toNat_lt⟩
  simpa using this
theorem dg_hx : ∀ x, x < 16 → dg (hx x) = some x := by decide +kernel
theorem hx_dg (b : UInt8) : ∀ v, dg b = some v → v < 16 ∧ hx v = b := by
  refine all_u8 (p := fun b => ∀ v, dg b = some v → v < 16 ∧ hx v = b) ?_ b
  intro n v h
  have key : ∀ n : Fin 256, ∀ v : Fin 16, dg (UInt8.ofNat n.1) = some v.1 → hx v.1 = UInt8.ofNat n.1 := by decide +kernel
  have hv : v < 16 := by
    unfold dg at h
    split at h
    · cases h; omega
    · split at h
      · cases h; omega
      · cases h
  exact ⟨hv, key n ⟨v, hv⟩ h⟩
theorem index_hex (b : UInt8) : Lib.indexByte [48, 49, 50, 51, 52, 53, 54, 55, 56, 57, 97, 98, 99, 100, 101, 102] b = digI b := by
  refine all_u8 (p := fun b => Lib.indexByte [48, 49, 50, 51, 52, 53, 54, 55, 56, 57, 97, 98, 99, 100, 101, 102] b = digI b) ?_ b
  decide +kernel
/-- Bytes of digits, when they are. -/
def unhexL : List UInt8 → Option (List UInt8)
  | [] => some []
  | [_] => none
  | a :: b :: r => match dg a, dg b, unhexL r with
    | some x, some y, some t => some (UInt8.ofNat (16 * x + y) :: t)
    | _, _, _ => none
/-- Bytes of digits that may be wrong. -/
def unhS : List UInt8 → List UInt8
  | a :: b :: r => UInt8.ofNat ((16 * digI a + digI b) % 256).toNat :: unhS r
  | _ => []
theorem unhex_hexL : ∀ d : List UInt8, unhexL (hexL d) = some d
  | [] => rfl
  | b :: d => by
    have h1 : b.toNat / 16 < 16 := by have := b.toNat_lt; omega
    have h2 : b.toNat % 16 < 16 := by omega
    simp only [hexL, unhexL, dg_hx _ h1, dg_hx _ h2, unhex_hexL d]
    congr 1; congr 1
    rw [show 16 * (b.toNat / 16) + b.toNat % 16 = b.toNat by omega]
    simp
theorem hexL_unhex : ∀ (t d : List UInt8), unhexL t = some d → hexL d = t
  | [], d, h => by simp only [unhexL, Option.some.injEq] at h; subst h; rfl
  | [_], d, h => by simp [unhexL] at h
  | a :: b :: r, d, h => by
    simp only [unhexL] at h
    split at h
    · rename_i x y t ha hb hr
      simp only [Option.some.injEq] at h
      subst h
      obtain ⟨hx1, ex⟩ := hx_dg a x ha
      obtain ⟨hy1, ey⟩ := hx_dg b y hb
      have e : (UInt8.ofNat (16 * x + y)).toNat = 16 * x + y := by simp; omega
      simp only [hexL, e]
      rw [show (16 * x + y) / 16 = x by omega, show (16 * x + y) % 16 = y by omega, ex, ey, hexL_unhex r t hr]
    · cases h
theorem unhS_of : ∀ (t d : List UInt8), unhexL t = some d → unhS t = d
  | [], d, h => by simp only [unhexL, Option.some.injEq] at h; subst h; rfl
  | [_], d, h => by simp [unhexL] at h
  | a :: b :: r, d, h => by
    simp only [unhexL] at h
    split at h
    · rename_i x y t ha hb hr
      simp only [Option.some.injEq] at h
      subst h
      obtain ⟨hx1, _⟩ := hx_dg a x ha
      obtain ⟨hy1, _⟩ := hx_dg b y hb
      simp only [unhS, unhS_of r t hr, digI, ha, hb]
      congr 2
      omega
    · cases h
theorem unhS_len : ∀ t : List UInt8, (unhS t).length = t.length / 2
  | [] => rfl
  | [_] => by simp [unhS]
  | a :: b :: r => by simp only [unhS, List.length_cons, unhS_len r]; omega
theorem unhS_two : ∀ (j : Nat) (t : List UInt8) (a b : UInt8), t.length = 2 * j → unhS (t ++ [a, b]) = unhS t ++ [UInt8.ofNat ((16 * digI a + digI b) % 256).toNat]
  | 0, t, a, b, h => by
    have : t = [] := List.eq_nil_of_length_eq_zero (by omega)
    subst this; rfl
  | j + 1, [], _, _, h => by simp at h
  | j + 1, [_], _, _, h => by simp at h; omega
  | j + 1, x :: y :: r, a, b, h => by
    have := unhS_two j r a b (by simp at h; omega)
    simp only [List.cons_append, unhS, this]
theorem unhex_two : ∀ (j : Nat) (t d : List UInt8) (a b : UInt8) (x y : Nat), t.length = 2 * j → unhexL t = some d → dg a = some x → dg b = some y → unhexL (t ++ [a, b]) = some (d ++ [UInt8.ofNat (16 * x + y)])
  | 0, t, d, a, b, x, y, h, hd, ha, hb => by
    have : t = [] := List.eq_nil_of_length_eq_zero (by omega)
    subst this
    simp only [unhexL, Option.some.injEq] at hd
    subst hd
    simp [unhexL, ha, hb]
  | j + 1, [], _, _, _, _, _, h, _, _, _ => by simp at h
  | j + 1, [_], _, _, _, _, _, h, _, _, _ => by simp at h; omega
  | j + 1, p :: q :: r, d, a, b, x, y, h, hd, ha, hb => by
    simp only [unhexL] at hd
    split at hd
    · rename_i u v t hp hq hr
      simp only [Option.some.injEq] at hd
      subst hd
      have := unhex_two j r t a b x y (by simp at h; omega) hr ha hb
      simp only [List.cons_append, unhexL, hp, hq, this]
    · cases hd
/-- Where one is no digit, it is none. -/
theorem unhex_bad : ∀ (t r : List UInt8) (j : Nat) (a b : UInt8), t.length = 2 * j → (dg a = none ∨ dg b = none) → unhexL (t ++ a :: b :: r) = none
  | [], r, j, a, b, _, h => by
    rcases h with h | h
    · simp [unhexL, h]
    · simp [unhexL, h]
  | [_], _, j, _, _, h, _ => by simp at h; omega
  | p :: q :: t, r, j, a, b, h, hb => by
    have := unhex_bad t r (j - 1) a b (by simp at h; omega) hb
    simp only [List.cons_append, unhexL, this]
    split <;> simp_all
theorem unhex_odd : ∀ (t : List UInt8), t.length % 2 = 1 → unhexL t = none
  | [], h => by simp at h
  | [_], _ => rfl
  | a :: b :: r, h => by
    have := unhex_odd r (by simp at h; omega)
    simp only [unhexL, this]
    split <;> simp_all
theorem str_of' {s : ByteArray} {l : List UInt8} (h : s.data.toList = l) : s = ⟨l.toArray⟩ := by
  obtain ⟨⟨q⟩⟩ := s
  simp at h
  subst h; rfl
theorem ba_ext {a b : ByteArray} (h : a.data.toList = b.data.toList) : a = b := by rw [str_of' h]
/-- Which format has that name; 0: none. -/
def fmtIx (t : ByteArray) : Int := if t = fmtS 0 then 1 else if t = fmtS 1 then 2 else if t = fmtS 2 then 3 else if t = fmtS 3 then 4 else if t = fmtS 4 then 5 else 0
theorem fmtIx_in (t : ByteArray) : 0 ≤ fmtIx t ∧ fmtIx t ≤ 5 := by
  unfold fmtIx; repeat (split; · omega)
  omega
theorem fmtIx_fmt : ∀ r, r < 5 → fmtIx (fmtS r) = (r : Int) + 1
  | 0, _ => by decide +kernel
  | 1, _ => by decide +kernel
  | 2, _ => by decide +kernel
  | 3, _ => by decide +kernel
  | 4, _ => by decide +kernel
theorem fmtIx_of {t : ByteArray} (h : 1 ≤ fmtIx t) : fmtS (fmtIx t - 1).toNat = t := by
  unfold fmtIx at h ⊢
  split
  · rename_i e; exact e.symm
  · split
    · rename_i e; exact e.symm
    · split
      · rename_i e; exact e.symm
      · split
        · rename_i e; exact e.symm
        · split
          · rename_i e; exact e.symm
          · rename_i h1 h2 h3 h4 h5
            rw [if_neg h1, if_neg h2, if_neg h3, if_neg h4, if_neg h5] at h
            omega
/-- A command whose text that is. -/
def Good (k a : Int) (d s : ByteArray) : Prop := cmdB k a d = true ∧ cmdT k a d = s
theorem cat_dl' (a b : ByteArray) : (a ++ b).data.toList = a.data.toList ++ b.data.toList := by simp [ByteArray.data_append]
/-- What a command whose text is s is. -/
theorem Good.cases {k a : Int} {d s : ByteArray} (h : Good k a d s) : (k = 1 ∧ d = ByteArray.empty ∧ ∃ r : Nat, r < 5 ∧ a = (r : Int) + 1 ∧ s = ⟨#[116, 111, 32]⟩ ++ fmtS r) ∨ (k = 2 ∧ a = 0 ∧ d.size ≤ 400 ∧ s = ⟨#[102, 101, 101, 100, 32]⟩ ++ hexW d) ∨ (k = 3 ∧ a = 0 ∧ d = ByteArray.empty ∧ s = ⟨#[114, 101, 115, 101, 116]⟩) := by
  obtain ⟨hb, ht⟩ := h
  unfold cmdT at ht
  rw [if_pos hb] at ht
  unfold cmdB at hb
  by_cases h1 : k = 1
  · rw [if_pos h1] at hb ht
    simp only [Bool.and_eq_true, decide_eq_true_eq] at hb
    exact .inl ⟨h1, size_empty hb.2, (a - 1).toNat, by omega, by omega, ht.symm⟩
  · rw [if_neg h1] at hb ht
    by_cases h2 : k = 2
    · rw [if_pos h2] at hb ht
      simp only [Bool.and_eq_true, decide_eq_true_eq] at hb
      exact .inr (.inl ⟨h2, hb.1, hb.2, ht.symm⟩)
    · rw [if_neg h2] at hb ht
      by_cases h3 : k = 3
      · rw [if_pos h3] at hb
        simp only [Bool.and_eq_true, decide_eq_true_eq] at hb
        exact .inr (.inr ⟨h3, hb.1, size_empty hb.2, ht.symm⟩)
      · rw [if_neg h3] at hb; cases hb
theorem Good.to (r : Nat) (h : r < 5) : Good 1 ((r : Int) + 1) ByteArray.empty (⟨#[116, 111, 32]⟩ ++ fmtS r) := by
  have hb : cmdB 1 ((r : Int) + 1) ByteArray.empty = true := by
    unfold cmdB; rw [if_pos rfl]
    simp only [Bool.and_eq_true, decide_eq_true_eq]
    exact ⟨by omega, rfl⟩
  refine ⟨hb, ?_⟩
  unfold cmdT
  rw [if_pos hb, if_pos rfl, show ((r : Int) + 1 - 1).toNat = r by omega]
theorem Good.feed (d : ByteArray) (h : d.size ≤ 400) : Good 2 0 d (⟨#[102, 101, 101, 100, 32]⟩ ++ hexW d) := by
  have hb : cmdB 2 0 d = true := by
    unfold cmdB; rw [if_neg (by decide), if_pos rfl]
    simp only [Bool.and_eq_true, decide_eq_true_eq]
    exact ⟨trivial, h⟩
  refine ⟨hb, ?_⟩
  unfold cmdT
  rw [if_pos hb, if_neg (by decide), if_pos rfl]
theorem Good.reset : Good 3 0 ByteArray.empty ⟨#[114, 101, 115, 101, 116]⟩ := ⟨by decide +kernel, by decide +kernel⟩
theorem hexW_inj {d e : ByteArray} (h : hexW d = hexW e) : d = e := by
  unfold hexW at h
  have hne : ∀ x : ByteArray, ¬ x.size = 0 → (⟨(hexL x.data.toList).toArray⟩ : ByteArray) ≠ ⟨#[45]⟩ := fun x hx e => by
    have h1 := congrArg ByteArray.size e
    have h2 : (hexL x.data.toList).toArray.size = 1 := h1
    rw [List.size_toArray, hexL_len] at h2
    omega
  split at h
  · rename_i h1
    split at h
    · rename_i h2; rw [size_empty h1, size_empty h2]
    · rename_i h2; exact absurd h.symm (hne e h2)
  · rename_i h1
    split at h
    · exact absurd h (hne d h1)
    · apply ba_ext
      have h2 : hexL d.data.toList = hexL e.data.toList := by
        have := congrArg (fun x : ByteArray => x.data.toList) h
        simpa using this
      have h3 := unhex_hexL d.data.toList
      rw [h2, unhex_hexL] at h3
      exact (Option.some.inj h3).symm
theorem pre_inj {p a b : ByteArray} (h : p ++ a = p ++ b) : a = b := by
  apply ba_ext
  have := congrArg (fun x : ByteArray => x.data.toList) h
  simp only [cat_dl'] at this
  exact List.append_cancel_left this
theorem head_ne {p q a b : ByteArray} (i : Nat) (hi : i < p.data.toList.length) (hj : i < q.data.toList.length) (hne : p.data.toList[i] ≠ q.data.toList[i]) : p ++ a ≠ q ++ b := fun h => by
  have h1 := congrArg (fun x : ByteArray => x.data.toList[i]?) h
  simp only [cat_dl'] at h1
  rw [List.getElem?_append_left hi, List.getElem?_append_left hj, List.getElem?_eq_getElem hi, List.getElem?_eq_getElem hj] at h1
  exact hne (Option.some.inj h1)
theorem nil_cat (a : ByteArray) : a ++ ByteArray.empty = a := by apply ba_ext; simp
/-- One text, one command. -/
theorem Good.one {k a k' a' : Int} {d d' s : ByteArray} (h : Good k a d s) (h' : Good k' a' d' s) : k = k' ∧ a = a' ∧ d = d' := by
  rcases h.cases with ⟨rfl, rfl, r, hr, rfl, e⟩ | ⟨rfl, rfl, _, e⟩ | ⟨rfl, rfl, rfl, e⟩ <;> rcases h'.cases with ⟨rfl, rfl, r', hr', rfl, e'⟩ | ⟨rfl, rfl, _, e'⟩ | ⟨rfl, rfl, rfl, e'⟩
  · have h1 := pre_inj (e.symm.trans e')
    have h2 := fmtIx_fmt r hr
    rw [h1, fmtIx_fmt r' hr'] at h2
    exact ⟨rfl, h2.symm, rfl⟩
  · exact absurd (e.symm.trans e') (head_ne 0 (by decide) (by decide) (by decide))
  · exact absurd (e.symm.trans (e'.trans (nil_cat _).symm)) (head_ne 0 (by decide) (by decide) (by decide))
  · exact absurd (e.symm.trans e') (head_ne 0 (by decide) (by decide) (by decide))
  · exact ⟨rfl, rfl, hexW_inj (pre_inj (e.symm.trans e'))⟩
  · exact absurd (e.symm.trans (e'.trans (nil_cat _).symm)) (head_ne 0 (by decide) (by decide) (by decide))
  · exact absurd ((nil_cat _).trans (e.symm.trans e')) (head_ne 0 (by decide) (by decide) (by decide))
  · exact absurd ((nil_cat _).trans (e.symm.trans e')) (head_ne 0 (by decide) (by decide) (by decide))
  · exact ⟨rfl, rfl, rfl⟩
theorem Good.size {k a : Int} {d s : ByteArray} (h : Good k a d s) : s.size ≤ 805 := by
  rcases h.cases with ⟨_, _, r, _, _, rfl⟩ | ⟨_, _, hd, rfl⟩ | ⟨_, _, _, rfl⟩
  · rw [ByteArray.size_append]; have := fmt_size r; show 3 + _ ≤ _; omega
  · rw [ByteArray.size_append]; have := hexW_size d hd; show 5 + _ ≤ _; omega
  · decide
/-- What ReadCmd answers: the command whose text that is, or none. -/
def RcOk (s : ByteArray) (k a : Int) (d : ByteArray) (b : Bool) : Prop := (b = true ∧ Good k a d s) ∨ (b = false ∧ k = 0 ∧ a = 0 ∧ d = ByteArray.empty ∧ ∀ k' a' d', ¬ Good k' a' d' s)
theorem RcOk.one {s : ByteArray} {k a k' a' : Int} {d d' : ByteArray} {b b' : Bool} (h : RcOk s k a d b) (h' : RcOk s k' a' d' b') : k = k' ∧ a = a' ∧ d = d' ∧ b = b' := by
  rcases h with ⟨rfl, h⟩ | ⟨rfl, rfl, rfl, rfl, h⟩ <;> rcases h' with ⟨rfl, h'⟩ | ⟨rfl, rfl, rfl, rfl, h'⟩
  · obtain ⟨h1, h2, h3⟩ := h.one h'; exact ⟨h1, h2, h3, rfl⟩
  · exact absurd h (h' _ _ _)
  · exact absurd h' (h _ _ _)
  · exact ⟨rfl, rfl, rfl, rfl⟩
end Go.Proofs.YtdbkglnmmaglcaaDoor
