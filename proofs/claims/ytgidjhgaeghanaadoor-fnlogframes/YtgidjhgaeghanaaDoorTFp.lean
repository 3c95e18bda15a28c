/- Frames one behind the other: plain facts. -/
import Derived.Test.YtgidjhgaeghanaaDoorTFa
namespace Go.Proofs.YtgidjhgaeghanaaDoor
open Go.RowKit Go.Sort
set_option linter.unusedVariables false
def frs (X : List ByteArray) : List UInt8 := X.flatMap fun x => frameL x.data.toList
theorem frs_nil : frs [] = [] := rfl
theorem frs_cons (x : ByteArray) (X : List ByteArray) : frs (x :: X) = frameL x.data.toList ++ frs X := rfl
theorem frs_app (X Y : List ByteArray) : frs (X ++ Y) = frs X ++ frs Y := by simp [frs]
theorem frs_one (x : ByteArray) : frs [x] = frameL x.data.toList := by simp [frs]
theorem frameL_len (l : List UInt8) : (frameL l).length = 8 + l.length := by simp [frameL, leL_len]; omega
theorem nx_frame (x r : List UInt8) (h : x.length ≤ 100000) : nx (frameL x ++ r) = some x.length ∧ hD (frameL x ++ r) x.length = x := by
  have e4 : (leL x.length 4).reverse.length = 4 := by simp [leL_len]
  have e8 : ((leL x.length 4).reverse ++ leL (crc x) 4).length = 8 := by simp [leL_len]
  have eN : hN (frameL x ++ r) = x.length := by
    unfold hN frameL
    rw [List.append_assoc, List.append_assoc, List.take_append_of_le_length (by omega), List.take_of_length_le (by omega), List.reverse_reverse]
    exact leV_leL1 _ 4 (by simp; omega)
  have eS : hS (frameL x ++ r) = crc x := by
    unfold hS frameL
    rw [List.append_assoc, List.append_assoc, List.drop_append_of_le_length (by omega), List.drop_of_length_le (by omega), List.nil_append, List.take_append_of_le_length (by simp [leL_len]), List.take_of_length_le (by simp [leL_len])]
    exact leV_leL1 _ 4 (by have := crc_lt x; simpa using this)
  have eD : hD (frameL x ++ r) x.length = x := by
    unfold hD frameL
    rw [List.append_assoc, List.drop_append_of_le_length (by omega), List.drop_of_length_le (by omega), List.nil_append, List.take_append_of_le_length (by omega), List.take_of_length_le (by omega)]
  refine ⟨?_, eD⟩
  have hl : (frameL x ++ r).length = 8 + x.length + r.length := by rw [List.length_append, frameL_len]
  have := nx_some (l := frameL x ++ r) (by omega) (by omega) (by omega) (by rw [eN, eD, eS])
  rwa [eN] at this
theorem nx_back {L : List UInt8} {n : Nat} (h : nx L = some n) : L.take (8 + n) = frameL (hD L n) ∧ (hD L n).length = n ∧ n ≤ 100000 ∧ 8 + n ≤ L.length := by
  unfold nx at h
  split at h
  · rename_i hh
    obtain ⟨h1, h2, h3, h4⟩ := hh
    simp at h
    rw [h] at h2 h3 h4
    have hlen : (hD L n).length = n := by unfold hD; simp; omega
    refine ⟨?_, hlen, h2, h3⟩
    have a1 : (leL n 4).reverse = L.take 4 := by
      rw [← h]
      have := leL_leV1 (L.take 4).reverse
      have e : (L.take 4).reverse.length = 4 := by simp; omega
      rw [e] at this
      unfold hN
      rw [this, List.reverse_reverse]
    have a2 : leL (crc (hD L n)) 4 = (L.drop 4).take 4 := by
      rw [h4]
      have := leL_leV1 ((L.drop 4).take 4)
      have e : ((L.drop 4).take 4).length = 4 := by simp; omega
      rw [e] at this
      exact this
    unfold frameL
    rw [hlen, a1, a2]
    unfold hD
    rw [show 8 + n = 4 + (4 + n) by omega, List.take_add, List.take_add, List.drop_drop, List.append_assoc]
  · simp at h
theorem it_frs (s : ByteArray) : ∀ k, s.data.toList.take (itF s k).1 = frs (itF s k).2 ∧ (itF s k).1 ≤ s.size ∧ ∀ x ∈ (itF s k).2, x.size ≤ 100000
  | 0 => ⟨rfl, Nat.zero_le _, by intro x hx; simp [itF] at hx⟩
  | k + 1 => by
    obtain ⟨h1, h2, h3⟩ := it_frs s k
    have e : itF s (k + 1) = match nx (s.data.toList.drop (itF s k).1) with
      | some n => ((itF s k).1 + (8 + n), (itF s k).2 ++ [⟨(hD (s.data.toList.drop (itF s k).1) n).toArray⟩])
      | none => itF s k := rfl
    cases hn : nx (s.data.toList.drop (itF s k).1) with
    | none => rw [e, hn]; exact ⟨h1, h2, h3⟩
    | some n =>
      rw [e, hn]
      obtain ⟨b1, b2, b3, b4⟩ := nx_back hn
      rw [dropLen] at b4
      refine ⟨?_, by show _ + _ ≤ _; omega, ?_⟩
      · show List.take (_ + _) _ = _
        rw [frs_app, List.take_add, h1, b1, frs_one]
      · intro x hx
        rcases List.mem_append.1 hx with hx | hx
        · exact h3 x hx
        · simp at hx; subst hx; show (hD _ n).toArray.size ≤ _; simp; omega
theorem RdF.frs {s : ByteArray} {p : Nat} {X : List ByteArray} (h : RdF s p X) : s.data.toList.take p = frs X ∧ ∀ x ∈ X, x.size ≤ 100000 := by
  obtain ⟨⟨k, hk⟩, _⟩ := h
  have := it_frs s k
  rw [hk] at this
  exact ⟨this.1, this.2.2⟩
theorem RdF.len {s : ByteArray} {p : Nat} {X : List ByteArray} (h : RdF s p X) : (Go.Proofs.YtgidjhgaeghanaaDoor.frs X).length = p := by
  rw [← h.frs.1, List.length_take]
  have : s.data.toList.length = s.size := rfl
  have := h.2.1
  omega
theorem rd_of (s : ByteArray) : ∀ (X : List ByteArray) (Y : List ByteArray) (r : List UInt8) (p : Nat), RdF s p Y → s.data.toList.drop p = frs X ++ r → (∀ x ∈ X, x.size ≤ 100000) → RdF s (p + (frs X).length) (Y ++ X)
  | [], Y, r, p, h, _, _ => by simpa [frs_nil] using h
  | x :: X, Y, r, p, h, hs, hx => by
    rw [frs_cons, List.append_assoc] at hs
    obtain ⟨c1, c2⟩ := nx_frame x.data.toList (frs X ++ r) (hx x (by simp))
    rw [← hs] at c1 c2
    have h2 := h.next c1
    rw [c2, ← str_of (S := x) rfl] at h2
    have e : s.data.toList.drop (p + (8 + x.data.toList.length)) = frs X ++ r := by
      rw [← List.drop_drop, hs, List.drop_append, List.drop_of_length_le (by rw [frameL_len]; omega), frameL_len]
      simp
    have := rd_of s X (Y ++ [x]) r _ h2 e (fun y hy => hx y (by simp [hy]))
    rw [frs_cons, List.length_append, frameL_len]
    have e3 : p + (8 + x.data.toList.length + (frs X).length) = p + (8 + x.data.toList.length) + (frs X).length := by omega
    rw [e3]
    simpa using this
theorem end_of {s : ByteArray} {X : List ByteArray} (hs : s.data.toList = frs X) (hx : ∀ x ∈ X, x.size ≤ 100000) : FEnd s (frs X).length X := by
  have h := rd_of s X [] [] 0 (RdF.zero s) (by simpa using hs) hx
  simp at h
  refine ⟨h, nx_short ?_⟩
  rw [hs]; simp
theorem frs_prefix : ∀ (X' X : List ByteArray), (∀ x ∈ X, x.size ≤ 100000) → (∀ x ∈ X', x.size ≤ 100000) → (∃ r, frs X = frs X' ++ r) → ∃ Y, X = X' ++ Y
  | [], X, _, _, _ => ⟨X, rfl⟩
  | x' :: X', [], _, _, h => by
    obtain ⟨r, hr⟩ := h
    have := congrArg List.length hr
    rw [frs_nil, frs_cons, List.length_append, List.length_append, frameL_len] at this
    simp at this
    omega
  | x' :: X', x :: X, hx, hx', h => by
    obtain ⟨r, hr⟩ := h
    rw [frs_cons, frs_cons, List.append_assoc] at hr
    obtain ⟨c1, c2⟩ := nx_frame x.data.toList (frs X) (hx x (by simp))
    obtain ⟨d1, d2⟩ := nx_frame x'.data.toList (frs X' ++ r) (hx' x' (by simp))
    rw [hr] at c1 c2
    rw [c1] at d1
    have hl : x.data.toList.length = x'.data.toList.length := Option.some.inj d1
    rw [hl, d2] at c2
    have exx : x = x' := by rw [str_of (S := x) rfl, str_of (S := x') rfl, c2]
    subst exx
    have hr2 : frs X = frs X' ++ r := List.append_cancel_left hr
    obtain ⟨Y, hY⟩ := frs_prefix X' X (fun y hy => hx y (by simp [hy])) (fun y hy => hx' y (by simp [hy])) ⟨r, hr2⟩
    exact ⟨Y, by rw [hY]; rfl⟩
/-- A first part's frames are first ones of all. -/
theorem few_of {a s : ByteArray} {X X' : List ByteArray} {k p' : Nat} (ha : a.data.toList = frs X) (hx : ∀ x ∈ X, x.size ≤ 100000) (h : RdF (a.extract 0 k) p' X') : ∃ Y, X = X' ++ Y := by
  obtain ⟨h1, h2⟩ := h.frs
  refine frs_prefix X' X hx h2 ⟨(frs X).drop (min p' k), ?_⟩
  rw [← h1, exL, ha]
  simp [List.take_take]
end Go.Proofs.YtgidjhgaeghanaaDoor
