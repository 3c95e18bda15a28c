/- A schema's text, read: plain facts on words and on numerals. -/
import Derived.Test.YtipmckdlnipgkaaGreatDoorS4a
import Derived.Lib.Split
import Derived.Lib.ParseIntB
namespace Go.Proofs.YtipmckdlnipgkaaGreatDoor
open Go.RowKit
set_option linter.unusedVariables false
/-- What a reading of a text answers: the schema whose text it is, or none. -/
def RdOk (s : List UInt8) (r : Option (List (Int × Int))) : Prop := (∀ ts, r = some ts → schOk ts = true ∧ schText ts = s) ∧ ∀ ts, schOk ts = true → schText ts = s → r = some ts
theorem RdOk.uniq {s : List UInt8} {r r' : Option (List (Int × Int))} (h : RdOk s r) (h' : RdOk s r') : r = r' := by
  cases r with
  | some ts => obtain ⟨a, b⟩ := h.1 ts rfl; exact (h'.2 ts a b).symm
  | none =>
    cases r' with
    | none => rfl
    | some ts => obtain ⟨a, b⟩ := h'.1 ts rfl; exact h.2 ts a b
/-- No word has a blank. -/
def Wd (xs : List (List UInt8)) : Prop := ∀ x ∈ xs, (32 : UInt8) ∉ x
theorem join_cons2 (x y : List UInt8) (r : List (List UInt8)) : Lib.join (x :: y :: r) [32] = x ++ 32 :: Lib.join (y :: r) [32] := by
  simp [Lib.join, List.intercalate, List.intersperse]
theorem cut1 : ∀ l : List UInt8, (32 : UInt8) ∉ l ∨ ∃ x r, l = x ++ 32 :: r ∧ (32 : UInt8) ∉ x
  | [] => .inl (by simp)
  | b :: l => by
    by_cases hb : b = 32
    · exact .inr ⟨[], l, by simp [hb], by simp⟩
    · rcases cut1 l with h | ⟨x, r, h, hx⟩
      · exact .inl (by simp [h]; exact fun e => hb e.symm)
      · exact .inr ⟨b :: x, r, by simp [h], by simp [hx]; exact fun e => hb e.symm⟩
theorem cut_uniq : ∀ {x y a b : List UInt8}, (32 : UInt8) ∉ x → (32 : UInt8) ∉ y → x ++ 32 :: a = y ++ 32 :: b → x = y ∧ a = b
  | [], [], a, b, _, _, h => by simpa using h
  | [], c :: y, a, b, _, hy, h => by simp at h; simp [h.1] at hy
  | c :: x, [], a, b, hx, _, h => by simp at h; simp [h.1] at hx
  | c :: x, d :: y, a, b, hx, hy, h => by
    simp only [List.cons_append, List.cons.injEq] at h
    simp only [List.mem_cons, not_or] at hx hy
    obtain ⟨e, e'⟩ := cut_uniq hx.2 hy.2 h.2
    exact ⟨by rw [h.1, e], e'⟩
theorem join_inj : ∀ {xs ys : List (List UInt8)}, xs ≠ [] → ys ≠ [] → Wd xs → Wd ys → Lib.join xs [32] = Lib.join ys [32] → xs = ys
  | [], _, h, _, _, _, _ => absurd rfl h
  | _, [], _, h, _, _, _ => absurd rfl h
  | [x], [y], _, _, _, _, h => by rw [join_one', join_one'] at h; rw [h]
  | [x], y :: z :: r, _, _, hx, _, h => by rw [join_one', join_cons2] at h; have := hx x (by simp); rw [h] at this; simp at this
  | x :: z :: r, [y], _, _, _, hy, h => by rw [join_one', join_cons2] at h; have := hy y (by simp); rw [← h] at this; simp at this
  | x :: z :: r, y :: u :: q, _, _, hx, hy, h => by
    rw [join_cons2, join_cons2] at h
    obtain ⟨e, e'⟩ := cut_uniq (hx x (by simp)) (hy y (by simp)) h
    rw [e, join_inj (by simp) (by simp) (fun a ha => hx a (by simp [ha])) (fun a ha => hy a (by simp [ha])) e']
theorem idx_at : ∀ {x l : List UInt8}, (32 : UInt8) ∉ x → Lib.index (x ++ 32 :: l) [32] = x.length
  | [], l, _ => by simp [Lib.index]
  | b :: x, l, h => by
    simp only [List.mem_cons, not_or] at h
    have ih := idx_at (l := l) h.2
    have hb : (List.isPrefixOf [(32 : UInt8)] (b :: (x ++ 32 :: l))) = false := by simp [List.isPrefixOf]; exact h.1
    simp only [List.cons_append, Lib.index, hb, ih]
    rw [if_neg (by simp), if_neg (by simp)]
    simp
theorem idx_no : ∀ {x : List UInt8}, (32 : UInt8) ∉ x → Lib.index x [32] = -1
  | [], _ => by simp [Lib.index]
  | b :: x, h => by
    simp only [List.mem_cons, not_or] at h
    have hb : (List.isPrefixOf [(32 : UInt8)] (b :: x)) = false := by simp [List.isPrefixOf]; exact h.1
    simp only [Lib.index, hb, idx_no h.2]
    rfl
/-- Cut at its blanks a text of few words is these words. -/
theorem split_words : ∀ {ws : List (List UInt8)} {k : Nat}, ws ≠ [] → Wd ws → ws.length ≤ k + 1 → Lib.splitK [32] 0 k (Lib.join ws [32]) = ws
  | [], _, h, _, _ => absurd rfl h
  | [x], k, _, hw, _ => by
    rw [join_one']
    cases k with
    | zero => rfl
    | succ k => unfold Lib.splitK; rw [idx_no (hw x (by simp))]; rfl
  | x :: y :: r, 0, _, _, h => by simp at h
  | x :: y :: r, k + 1, _, hw, h => by
    rw [join_cons2]
    unfold Lib.splitK
    rw [idx_at (hw x (by simp)), if_neg (by simp)]
    have := split_words (ws := y :: r) (k := k) (by simp) (fun a ha => hw a (by simp [ha])) (by simp at h ⊢; omega)
    simp [this]
theorem join_split : ∀ (k : Nat) (l : List UInt8), Lib.splitK [32] 0 k l ≠ [] ∧ Lib.join (Lib.splitK [32] 0 k l) [32] = l
  | 0, l => ⟨by simp [Lib.splitK], by unfold Lib.splitK; rw [join_one']⟩
  | k + 1, l => by
    rcases cut1 l with h | ⟨x, r, rfl, hx⟩
    · unfold Lib.splitK; rw [idx_no h]; exact ⟨by simp, by simp [join_one']⟩
    · unfold Lib.splitK
      rw [idx_at hx, if_neg (by simp)]
      obtain ⟨h1, h2⟩ := join_split k r
      refine ⟨by simp, ?_⟩
      have e : List.drop ((x.length : Int).toNat + [(32 : UInt8)].length) (x ++ 32 :: r) = r := by simp
      have e' : List.take ((x.length : Int).toNat + 0) (x ++ 32 :: r) = x := by simp
      rw [e, e']
      cases hq : Lib.splitK [32] 0 k r with
      | nil => exact absurd hq h1
      | cons y q => rw [join_cons2, ← hq, h2]
/-- Numerals of few digits. -/
def dgs (m : Nat) : List UInt8 := if m < 10 then [UInt8.ofNat (48 + m)] else if m < 100 then [UInt8.ofNat (48 + m / 10), UInt8.ofNat (48 + m % 10)] else [UInt8.ofNat (48 + m / 100), UInt8.ofNat (48 + m / 10 % 10), UInt8.ofNat (48 + m % 10)]
theorem dec_dgs {m : Nat} (h : m < 1000) : Lib.decDigits m = dgs m := by
  unfold dgs
  by_cases h1 : m < 10
  · rw [dec_lt10 h1, if_pos h1]
  · rw [dec_ge10 h1, if_neg h1]
    by_cases h2 : m / 10 < 10
    · rw [dec_lt10 h2, if_pos (by omega)]; rfl
    · rw [dec_ge10 h2, dec_lt10 (by omega), if_neg (by omega), show m / 10 / 10 = m / 100 by omega]; rfl
def dv : Nat → List UInt8 → Nat
  | a, [] => a
  | a, c :: r => dv (10 * a + (c.toNat - 48)) r
def okN (m : Nat) : Bool := (match Lib.parseIntB 64 (dgs m) with | .ok v => v == (m : Int) | _ => false) && (dgs m).all (fun c => 48 ≤ c.toNat && c.toNat ≤ 57) && (dv 0 (dgs m) == m) && ((dgs m).length ≤ 3) && (1 ≤ (dgs m).length) && (!((dgs m).head? == some 48) || ((dgs m).length == 1))
theorem okN_all : ∀ m, m < 201 → okN m = true := by decide +kernel
theorem okN_of {m : Nat} (h : m ≤ 200) : Lib.parseIntB 64 (Lib.decDigits m) = .ok (m : Int) ∧ (∀ c ∈ Lib.decDigits m, 48 ≤ c.toNat ∧ c.toNat ≤ 57) ∧ dv 0 (Lib.decDigits m) = m ∧ (Lib.decDigits m).length ≤ 3 ∧ 1 ≤ (Lib.decDigits m).length ∧ ((Lib.decDigits m).head? = some 48 → (Lib.decDigits m).length = 1) := by
  have := okN_all m (by omega)
  rw [dec_dgs (by omega)]
  simp only [okN, Bool.and_eq_true, List.all_eq_true, decide_eq_true_eq, beq_iff_eq, Bool.or_eq_true, Bool.not_eq_true'] at this
  obtain ⟨⟨⟨⟨⟨h1, h2⟩, h3⟩, h4⟩, h5⟩, h6⟩ := this
  refine ⟨?_, fun c hc => by have := h2 c hc; omega, h3, h4, h5, fun e => ?_⟩
  · revert h1
    cases Lib.parseIntB 64 (dgs m) with
    | ok v => simp
    | «syntax» => simp
    | range => simp
  · rcases h6 with h6 | h6
    · simp [e] at h6
    · exact h6
theorem rs_let : ∀ j, ∀ c ∈ (rs j).data.toList, 57 < c.toNat
  | 0 => by decide
  | 1 => by decide
  | 2 => by decide
  | 3 => by decide
  | 4 => by decide
  | 5 => by decide
  | 6 => by decide
  | 7 => by decide
  | 8 => by decide
  | n + 9 => by simp [rs, kWords]
theorem rs_inj : ∀ i, i < 9 → ∀ j, j < 9 → (rs i).data.toList = (rs j).data.toList → i = j := by decide +kernel
/-- A word of letters, and what begins with a sign that is none: both are told of what they are together. -/
theorem let_uniq : ∀ {a b s t : List UInt8}, (∀ c ∈ a, 57 < c.toNat) → (∀ c ∈ b, 57 < c.toNat) → (∀ c ∈ s.head?, c.toNat ≤ 57) → (∀ c ∈ t.head?, c.toNat ≤ 57) → a ++ s = b ++ t → a = b ∧ s = t
  | [], [], s, t, _, _, _, _, h => ⟨rfl, by simpa using h⟩
  | [], c :: b, s, t, _, hb, hs, _, h => by
    simp only [List.nil_append, List.cons_append] at h
    subst h
    have h1 := hb c (by simp)
    have h2 := hs c (by simp)
    omega
  | c :: a, [], s, t, ha, _, _, ht, h => by
    simp only [List.nil_append, List.cons_append] at h
    subst h
    have h1 := ha c (by simp)
    have h2 := ht c (by simp)
    omega
  | c :: a, d :: b, s, t, ha, hb, hs, ht, h => by
    simp only [List.cons_append, List.cons.injEq] at h
    obtain ⟨e, e'⟩ := let_uniq (fun x hx => ha x (by simp [hx])) (fun x hx => hb x (by simp [hx])) hs ht h.2
    exact ⟨by rw [h.1, e], e'⟩
/-- The digits that stand behind a type's word. -/
def tyDig (k n : Int) : List UInt8 := if rb (k.toNat - 1) then Lib.decDigits n.toNat else []
theorem tyText_eq (k n : Int) : tyText k n = (rs (k.toNat - 1)).data.toList ++ tyDig k n := rfl
theorem tyDig_dig {k n : Int} (h : tyOk k n = true) : ∀ c ∈ tyDig k n, 48 ≤ c.toNat ∧ c.toNat ≤ 57 := by
  have hi := tyOk_in h
  unfold tyDig
  split
  · exact (okN_of (m := n.toNat) (by omega)).2.1
  · simp
theorem head_of {l : List UInt8} (h : ∀ c ∈ l, 48 ≤ c.toNat ∧ c.toNat ≤ 57) : ∀ c ∈ l.head?, c.toNat ≤ 57 := by
  intro c hc
  cases l with
  | nil => simp at hc
  | cons a r => simp at hc; subst hc; exact (h a (by simp)).2
theorem tyText_no32 {k n : Int} (h : tyOk k n = true) : (32 : UInt8) ∉ tyText k n := by
  rw [tyText_eq]
  intro hm
  rcases List.mem_append.1 hm with hm | hm
  · have := rs_let _ _ hm; simp at this
  · have := tyDig_dig h _ hm; simp at this
/-- A type's text begins with that word and goes on with no letter: it is that type's word. -/
theorem tyText_word {k n : Int} {j : Nat} {t : List UInt8} (h : tyOk k n = true) (hj : j < 9) (ht : ∀ c ∈ t.head?, c.toNat ≤ 57) (he : tyText k n = (rs j).data.toList ++ t) : (j : Int) + 1 = k ∧ t = tyDig k n := by
  have hi := tyOk_in h
  rw [tyText_eq] at he
  obtain ⟨e, e'⟩ := let_uniq (rs_let _) (rs_let _) (head_of (tyDig_dig h)) ht he
  have := rs_inj _ (by omega) _ hj e
  exact ⟨by omega, e'.symm⟩
theorem rb_no {k n : Int} (h : tyOk k n = true) (hb : rb (k.toNat - 1) = false) : n = 0 := by
  have hi := tyOk_in h
  simp only [tyOk, decide_eq_true_eq] at h
  have hk : k = 1 ∨ k = 2 ∨ k = 3 ∨ k = 4 ∨ k = 5 ∨ k = 6 ∨ k = 7 ∨ k = 8 ∨ k = 9 := by omega
  rcases hk with rfl | rfl | rfl | rfl | rfl | rfl | rfl | rfl | rfl <;> first | (exact absurd hb (by decide)) | omega
/-- That word's text comes not. -/
theorem typ_not {s : List UInt8} {j : Nat} (h : ∀ k' n', tyOk k' n' = true → s = tyText k' n' → (j : Int) < k') (hn : ∀ n', tyOk ((j : Int) + 1) n' = true → s ≠ (rs j).data.toList ++ tyDig ((j : Int) + 1) n') : ∀ k' n', tyOk k' n' = true → s = tyText k' n' → ((j + 1 : Nat) : Int) < k' := by
  intro k' n' hk he
  have h1 := h k' n' hk he
  by_cases hq : k' = (j : Int) + 1
  · subst hq
    have h2 := hn n' hk
    rw [tyText_eq, show ((j : Int) + 1).toNat - 1 = j by omega] at he
    exact absurd he h2
  · omega
theorem dec_dig (u : Nat) : ∀ c ∈ Lib.decDigits u, c.toNat ≤ 57 := by
  induction u using Nat.strongRecOn with
  | ind u ih =>
    by_cases h : u < 10
    · rw [dec_lt10 h]
      intro c hc
      simp at hc
      subst hc
      simp
      omega
    · rw [dec_ge10 h]
      intro c hc
      rcases List.mem_append.1 hc with hc | hc
      · exact ih (u / 10) (by omega) c hc
      · simp at hc
        subst hc
        simp
        omega
theorem itoa_head (n : Int) : ∀ c ∈ (Lib.itoa n).head?, c.toNat ≤ 57 := by
  intro c hc
  unfold Lib.itoa at hc
  split at hc
  · simp at hc; subst hc; decide
  · exact dec_dig _ c (List.mem_of_mem_head? hc)
theorem join_len : ∀ ws : List (List UInt8), ws.length ≤ (Lib.join ws [32]).length + 1
  | [] => by simp
  | [x] => by simp
  | x :: y :: r => by
    rw [join_cons2]
    have := join_len (y :: r)
    simp only [List.length_cons, List.length_append] at this ⊢
    omega
theorem sch_words {ts : List (Int × Int)} (h : schOk ts = true) : txs ts ts.length ≠ [] ∧ Wd (txs ts ts.length) ∧ (txs ts ts.length).length = ts.length ∧ ts.length ≤ 40 := by
  have h40 : ts.length ≤ 40 := (schOk_iff.1 h).1
  refine ⟨txs_ne (schOk_pos h) (schOk_pos h), fun x hx => ?_, by simp [txs], h40⟩
  unfold txs at hx
  rw [List.take_length] at hx
  obtain ⟨t, ht, rfl⟩ := List.mem_map.1 hx
  obtain ⟨i, hi, rfl⟩ := List.getElem_of_mem ht
  exact tyText_no32 (schOk_all h i hi)
theorem sch_len {ts : List (Int × Int)} (h : schOk ts = true) : (schText ts).length ≤ 400 ∧ schText ts ≠ [] := by
  rw [schText_ok h]
  obtain ⟨h1, h2, h3, h4⟩ := sch_words h
  have := jt_len (schOk_all h) ts.length (Nat.le_refl _)
  refine ⟨by omega, ?_⟩
  have hp := schOk_pos h
  have h0 := schOk_all h 0 hp
  have ht : tyText ts[0].1 ts[0].2 ≠ [] := by
    rw [tyText_eq]
    have hi := tyOk_in h0
    intro e
    have e1 := (List.append_eq_nil_iff.1 e).1
    have : ∀ j, j < 9 → (rs j).data.toList ≠ [] := by decide
    exact this _ (by omega) e1
  cases hx : txs ts ts.length with
  | nil => exact absurd hx h1
  | cons x r =>
    have e0 : x = tyText ts[0].1 ts[0].2 := by
      have : (txs ts ts.length)[0]? = some (tyText ts[0].1 ts[0].2) := by unfold txs; rw [List.take_length]; simp [List.getElem?_eq_getElem hp]
      rw [hx] at this; simpa using this
    cases r with
    | nil => rw [join_one', e0]; exact ht
    | cons y q => rw [join_cons2]; simp
/-- A reading word by word is a reading. -/
theorem rd_words {s : List UInt8} {ws : List (List UInt8)} {ts : List (Int × Int)} (hj : Lib.join ws [32] = s) (hw : ws ≠ []) (hb : Wd ws) (hl : ts.length = ws.length)
    (hr : ∀ i (h : i < ws.length) (h' : i < ts.length) (k n : Int), tyOk k n = true → ws[i] = tyText k n → ts[i] = (k, n)) : ∀ us, schOk us = true → schText us = s → us = ts := by
  intro us hu he
  obtain ⟨h1, h2, h3, _⟩ := sch_words hu
  rw [schText_ok hu, ← hj] at he
  have e := join_inj h1 hw h2 hb he
  apply List.ext_getElem
  · rw [hl, ← e, h3]
  · intro i hi hi'
    have hiw : i < ws.length := by omega
    have := hr i hiw hi' us[i].1 us[i].2 (schOk_all hu i hi) (by
      have e2 : ws[i]? = (txs us us.length)[i]? := by rw [e]
      unfold txs at e2
      rw [List.take_length] at e2
      simpa [List.getElem?_eq_getElem hiw, List.getElem?_eq_getElem hi] using e2)
    rw [this]
theorem rd_split {us : List (Int × Int)} (hu : schOk us = true) : Lib.splitK [32] 0 (min 41 ((schText us).length + 1) - 1) (schText us) = txs us us.length := by
  obtain ⟨h1, h2, h3, h4⟩ := sch_words hu
  have hl := join_len (txs us us.length)
  rw [schText_ok hu]
  exact split_words h1 h2 (by omega)
/-- A reading word by word, of few words. -/
theorem rd_words2 {s : List UInt8} {ws : List (List UInt8)} {ts : List (Int × Int)} (hw : ws = Lib.splitK [32] 0 (min 41 (s.length + 1) - 1) s) (hl : ts.length = ws.length)
    (hr : ∀ i (h : i < ws.length) (h' : i < ts.length) (k n : Int), tyOk k n = true → ws[i] = tyText k n → ts[i] = (k, n)) : ∀ us, schOk us = true → schText us = s → us = ts := by
  intro us hu he
  have e := rd_split hu
  rw [he, ← hw] at e
  obtain ⟨h1, h2, h3, h4⟩ := sch_words hu
  apply List.ext_getElem
  · rw [hl, e, h3]
  · intro i hi hi'
    have hiw : i < ws.length := by omega
    have := hr i hiw hi' us[i].1 us[i].2 (schOk_all hu i hi) (by
      have e2 : ws[i]? = (txs us us.length)[i]? := by rw [e]
      unfold txs at e2
      rw [List.take_length] at e2
      simpa [List.getElem?_eq_getElem hiw, List.getElem?_eq_getElem hi] using e2)
    rw [this]
theorem rd_word_at {s : List UInt8} {ws : List (List UInt8)} (hw : ws = Lib.splitK [32] 0 (min 41 (s.length + 1) - 1) s) {us : List (Int × Int)} (hu : schOk us = true) (he : schText us = s) {i : Nat} (hi : i < ws.length) : ∃ k n, tyOk k n = true ∧ ws[i] = tyText k n := by
  have e := rd_split hu
  rw [he, ← hw] at e
  obtain ⟨h1, h2, h3, h4⟩ := sch_words hu
  have hiu : i < us.length := by rw [e, h3] at hi; exact hi
  refine ⟨us[i].1, us[i].2, schOk_all hu i hiu, ?_⟩
  have e2 : ws[i]? = (txs us us.length)[i]? := by rw [e]
  unfold txs at e2
  rw [List.take_length] at e2
  simpa [List.getElem?_eq_getElem hi, List.getElem?_eq_getElem hiu] using e2
/-- Words that are types' texts, of a schema: its text. -/
theorem rd_text {ws : List (List UInt8)} {ts : List (Int × Int)} (hs : schOk ts = true) (hl : ts.length = ws.length) (h : ∀ i (h : i < ws.length) (h' : i < ts.length), ws[i] = tyText ts[i].1 ts[i].2) : schText ts = Lib.join ws [32] := by
  rw [schText_ok hs]
  congr 1
  unfold txs
  rw [List.take_length]
  apply List.ext_getElem
  · simp [hl]
  · intro i h1 h2
    simp only [List.getElem_map]
    exact (h i h2 (by omega)).symm
end Go.Proofs.YtipmckdlnipgkaaGreatDoor
