/- RDa, RDb: one text. -/
import Derived.Test.YtdncnjmlicdamaaGreatDoorS8a
import Derived.Test.YtdncnjmlicdamaaGreatDoorSBp
namespace Go.Proofs.YtdncnjmlicdamaaGreatDoor
set_option linter.unusedVariables false
/-- What b begins with: is it a list, what is in it, what stands behind it. -/
def tk (st : Bool) : List UInt8 → Option (Bool × List UInt8 × List UInt8)
  | [] => none
  | c :: r => if c.toNat < 128 then some (false, [c], r) else
      if (getHead (c :: r)).2.2.2 = true ∧ (getHead (c :: r)).2.2.1 + (getHead (c :: r)).2.1 ≤ (c :: r).length ∧ ¬ (st = true ∧ (getHead (c :: r)).1 = false ∧ isOwn (((c :: r).drop (getHead (c :: r)).2.2.1).take (getHead (c :: r)).2.1) = true) then
        some ((getHead (c :: r)).1, ((c :: r).drop (getHead (c :: r)).2.2.1).take (getHead (c :: r)).2.1, (c :: r).drop ((getHead (c :: r)).2.2.1 + (getHead (c :: r)).2.1))
      else none
/-- A number without noughts ahead. -/
def numD (k n : Int) (body : List UInt8) (chk : Bool) : Option Nat :=
  if body.length ≤ 8 ∧ by8 (leV body.reverse) = body.length ∧ (chk = true → fitsN k n (leV body.reverse) = true) then some (leV body.reverse) else none
/-- At most so many parts, that are all of b. -/
def partsL (d : Nat → List UInt8 → Option (List It × List UInt8)) (ps : Nat → Nat) : Nat → Nat → List UInt8 → Option (List (List It))
  | 0, i, b => if b = [] then some [] else none
  | m + 1, i, b => if b = [] then some [] else (d (ps i) b).bind fun x => (partsL d ps m (i + 1) x.2).map fun y => x.1 :: y
def whole (g : Option (List It × List UInt8)) : Option (List It) := match g with
  | some (l, []) => some l
  | _ => none
def rlB (st : Bool) (k n : Int) (d : Nat → List UInt8 → Option (List It × List UInt8)) (pp : Nat → Nat → Nat) (list : Bool) (body : List UInt8) : Option (List It) :=
  if list ≠ decide (5 ≤ k) then none
  else if k = 1 ∨ k = 2 then (numD k n body st).map fun m => [⟨k, m, ⟨#[]⟩⟩]
  else if k = 3 ∨ k = 4 then (if st = true → fitsS k n body.length = true then some [⟨k, 0, ⟨body.toArray⟩⟩] else none)
  else if k = 8 then (if body = [] then some [⟨k, 0, ⟨#[]⟩⟩] else (whole (d (pp 1 0) body)).map fun l => ⟨k, 1, ⟨#[]⟩⟩ :: l)
  else if k = 9 then (tk st body).bind fun y => if y.1 = true then none else (numD k n y.2.1 true).bind fun m => (whole (d (pp m 0) y.2.2)).map fun l => ⟨k, m, ⟨#[]⟩⟩ :: l
  else (partsL d (pp 0) n.toNat 0 body).bind fun ls => if fitsN k n ls.length = true then some (⟨k, ls.length, ⟨#[]⟩⟩ :: ls.flatten) else none
/-- The value of the type at place a with which b begins, and what stands behind it. -/
def rlD (st : Bool) (ts : List (Int × Int)) : Nat → Nat → List UInt8 → Option (List It × List UInt8)
  | 0, _, _ => none
  | f + 1, a, b => match ts[a]? with
    | none => none
    | some t => (tk st b).bind fun x => (rlB st t.1 t.2 (rlD st ts f) (pl ts f a t.1) x.1 x.2.1).map fun l => (l, x.2.2)
theorem rlD_at {st : Bool} {ts : List (Int × Int)} {f a : Nat} {b : List UInt8} (ha : a < ts.length) : rlD st ts (f + 1) a b = (tk st b).bind fun x => (rlB st ts[a].1 ts[a].2 (rlD st ts f) (pl ts f a ts[a].1) x.1 x.2.1).map fun l => (l, x.2.2) := by
  simp [rlD, List.getElem?_eq_getElem ha]
theorem headL_first (b : Bool) {n : Nat} (h : n ≤ 65535) : ∃ c r, headL b n = c :: r ∧ 128 ≤ c.toNat := by
  have h2 := by8_16 n h
  unfold headL
  split
  · rename_i h5
    rw [leL_cons]
    refine ⟨_, _, rfl, ?_⟩
    rw [ofN]
    cases b <;> simp [headB] <;> omega
  · rename_i h5
    rw [leL_cons]
    refine ⟨_, _, rfl, ?_⟩
    rw [ofN]
    cases b <;> simp [headB] <;> omega
theorem tk_head {st : Bool} (b : Bool) {l t : List UInt8} (h : l.length ≤ 65535) (hn : ¬ (st = true ∧ b = false ∧ isOwn l = true)) : tk st (headL b l.length ++ l ++ t) = some (b, l, t) := by
  obtain ⟨c, r, hc, h1⟩ := headL_first b h
  have hg := getHead_headL b l.length (l ++ t) h
  have e : headL b l.length ++ l ++ t = c :: (r ++ l ++ t) := by rw [hc]; simp
  have e2 : headL b l.length ++ (l ++ t) = headL b l.length ++ l ++ t := by simp
  rw [e2] at hg
  have hd : (headL b l.length ++ l ++ t).drop (headL b l.length).length = l ++ t := by rw [List.append_assoc, List.drop_left]
  have ht : (headL b l.length ++ l ++ t).drop ((headL b l.length).length + l.length) = t := by rw [← List.length_append, List.drop_left]
  rw [e] at hg hd ht ⊢
  simp only [tk]
  rw [if_neg (by omega), hg]
  simp only []
  rw [hd, ht, List.take_left]
  rw [if_pos ⟨trivial, by rw [← e]; simp only [List.length_append]; omega, hn⟩]
theorem tk_rlS {st : Bool} {l t : List UInt8} (h : l.length ≤ 65535) : tk st (rlS l ++ t) = some (false, l, t) := by
  unfold rlS
  cases ho : isOwn l with
  | true =>
    match l, ho with
    | [c], ho =>
      simp only [isOwn, decide_eq_true_eq] at ho
      simp [tk, ho]
  | false =>
    simp only [Bool.false_eq_true, if_false]
    exact tk_head false h (by rw [ho]; simp)
theorem tk_rlL {st : Bool} {l t : List UInt8} (h : l.length ≤ 65535) : tk st (rlL l ++ t) = some (true, l, t) := by
  unfold rlL
  exact tk_head true h (by simp)
theorem tk_back {b body rest : List UInt8} {list : Bool} (h : tk true b = some (list, body, rest)) : (list = false → rlS body ++ rest = b) ∧ (list = true → rlL body ++ rest = b) := by
  cases b with
  | nil => cases h
  | cons c r =>
    simp only [tk] at h
    by_cases h1 : c.toNat < 128
    · rw [if_pos h1] at h
      simp only [Option.some.injEq, Prod.mk.injEq] at h
      obtain ⟨rfl, rfl, rfl⟩ := h
      refine ⟨fun _ => ?_, fun h => by cases h⟩
      have : isOwn [c] = true := by simp [isOwn, h1]
      simp [rlS, this]
    · rw [if_neg h1] at h
      split at h
      · rename_i hc
        obtain ⟨q1, q2, q3⟩ := hc
        obtain ⟨x, m, k, hg⟩ : ∃ x m k, getHead (c :: r) = (x, m, k, true) := ⟨_, _, _, by rw [← q1]⟩
        rw [hg] at h q2 q3
        simp only [Option.some.injEq, Prod.mk.injEq] at h q2 q3
        obtain ⟨rfl, rfl, rfl⟩ := h
        obtain ⟨p1, p2, p3⟩ := getHead_back _ _ _ _ hg
        have p4 : headL x m = (c :: r).take k := by
          rw [← p1]
          unfold putHead
          rw [if_pos ⟨by omega, by omega⟩]; simp
        have hlen : (((c :: r).drop k).take m).length = m := by rw [List.length_take, List.length_drop]; omega
        have hsum : headL x m ++ ((c :: r).drop k).take m ++ (c :: r).drop (k + m) = c :: r := by
          rw [p4, ← List.take_add, List.take_append_drop]
        refine ⟨fun hx => ?_, fun hx => ?_⟩
        · subst hx
          have ho : isOwn (((c :: r).drop k).take m) = false := by simpa using q3
          unfold rlS
          rw [ho, hlen]
          exact hsum
        · subst hx
          unfold rlL
          rw [hlen]
          exact hsum
      · cases h
theorem numD_put {k n : Int} {m : Nat} (hm : m < 18446744073709551616) (chk : Bool) (hf : fitsN k n m = true) : numD k n (leL m (by8 m)).reverse chk = some m := by
  have h8 := by8_8 m hm
  have hp := (by8_le m (by8 m)).1 (Nat.le_refl _)
  unfold numD
  rw [List.reverse_reverse, leV_leL _ _ hp, List.length_reverse, leL_len, if_pos ⟨h8, rfl, fun _ => hf⟩]
theorem numD_back {k n : Int} {m : Nat} {body : List UInt8} {chk : Bool} (h : numD k n body chk = some m) : (leL m (by8 m)).reverse = body ∧ m < 18446744073709551616 ∧ (chk = true → fitsN k n m = true) := by
  unfold numD at h
  split at h
  · rename_i hc
    obtain ⟨h1, h2, h3⟩ := hc
    simp only [Option.some.injEq] at h
    subst h
    refine ⟨?_, ?_, h3⟩
    · rw [h2]
      have := leL_leV body.reverse
      rw [List.length_reverse] at this
      rw [this, List.reverse_reverse]
    · have h4 := leV_lt body.reverse
      rw [List.length_reverse] at h4
      exact Nat.lt_of_lt_of_le h4 (Nat.le_trans (Nat.pow_le_pow_right (by decide) (show 8 * body.length ≤ 64 by omega)) (by decide))
  · cases h
theorem rlE_pos {ts : List (Int × Int)} {vs : List It} (hvs : ∀ x ∈ vs, x.n < 18446744073709551616) (hl : vs.length ≤ 200) {f a e q q' : Nat} (he : en ts f a = some e) (hv : ve ts vs f a q = some q') (t : List UInt8) : rlE ts vs f a q ++ t ≠ [] := by
  cases f with
  | zero => cases he
  | succ f =>
    obtain ⟨ha, hq, hfit, hvt⟩ := ve_inv hv
    obtain ⟨_, hok, hit⟩ := en_inv he
    have hsz := fit_size hok hfit
    have hk := (fit_parts hfit).1
    have h2 : vs[q].s.data.toList.length = vs[q].s.size := Array.length_toList
    have hS : ∀ l : List UInt8, l.length ≤ 65535 → rlS l ≠ [] := fun l hl h => by
      unfold rlS at h
      split at h
      · rename_i ho; rw [h] at ho; cases ho
      · obtain ⟨c, r, hc, _⟩ := headL_first false hl
        rw [hc] at h; simp at h
    rw [rlE_ok ha hq]
    split
    · rename_i h4
      intro h
      have h := (List.append_eq_nil_iff.1 h).1
      unfold rlOwn at h
      simp only [tyOk, decide_eq_true_eq] at hok
      by_cases h12 : vs[q].k = 1 ∨ vs[q].k = 2 ∨ vs[q].k = 9
      · rw [if_pos h12] at h
        have h8 := by8_8 vs[q].n (hvs _ (List.getElem_mem hq))
        exact hS _ (by rw [List.length_reverse, leL_len]; omega) h
      · rw [if_neg h12, if_pos (by omega)] at h
        exact hS _ (by omega) h
    · rename_i h4
      intro h
      have h := (List.append_eq_nil_iff.1 h).1
      have hb := body_le (q' := q') hvs hl ha hq hok hit hfit h4 (Nat.le_refl _) hvt
      unfold rlL at h
      obtain ⟨c, r, hc, _⟩ := headL_first true (show _ ≤ 65535 from Nat.le_trans hb (by decide))
      rw [hc] at h; simp at h
theorem pl_any {ts : List (Int × Int)} {f a : Nat} {k : Int} (h : k ≠ 9) (m m' j : Nat) : pl ts f a k m j = pl ts f a k m' j := by
  unfold pl; simp [h]
/-- A value's RLP, read: the value. -/
theorem rlD_put {st : Bool} {ts : List (Int × Int)} {vs : List It} (hvs : ∀ x ∈ vs, x.n < 18446744073709551616) (hl : vs.length ≤ 200) : ∀ {f a e q q' : Nat}, en ts f a = some e → ve ts vs f a q = some q' → ∀ t, rlD st ts f a (rlE ts vs f a q ++ t) = some ((vs.drop q).take (q' - q), t) := by
  intro f
  induction f with
  | zero => intro a e q q' h; cases h
  | succ f ih =>
    intro a e q q' he h t
    obtain ⟨ha, hq, hfit, hv⟩ := ve_inv h
    obtain ⟨_, hok, hit⟩ := en_inv he
    obtain ⟨hk, hfn, hfs⟩ := fit_parts hfit
    have hsz := fit_size hok hfit
    have hxn := hvs _ (List.getElem_mem hq)
    have h8 := by8_8 vs[q].n hxn
    have hls : vs[q].s.data.toList.length = vs[q].s.size := Array.length_toList
    have hok' := hok
    simp only [tyOk, decide_eq_true_eq] at hok'
    rw [rlD_at ha, rlE_ok ha hq]
    have hq1 : q + 1 ≤ vs.length := hq
    have hvl := vit_lt hq1 hv
    have hd1 : (vs.drop q).take (q' - q) = vs[q] :: (vs.drop (q + 1)).take (q' - (q + 1)) := by
      rw [show q' - q = (q' - (q + 1)) + 1 by omega, List.drop_eq_getElem_cons hq, List.take_succ_cons]
    by_cases h4 : ts[a].1 ≤ 4
    · rw [if_pos h4]
      have hnp : np ts[a].1 vs[q].n = 0 := by unfold np; rw [if_neg (by omega), if_neg (by omega)]
      rw [hnp] at hv
      cases hv
      rw [hd1]
      simp only [Nat.sub_self, List.take_zero]
      by_cases h12 : ts[a].1 = 1 ∨ ts[a].1 = 2
      · have ho : rlOwn vs[q] = rlNum vs[q].n := by unfold rlOwn; rw [if_pos (by omega)]
        have hs0 := s_zero (fitS_zero hfs (by omega) (by omega))
        rw [ho]
        unfold rlNum
        rw [tk_rlS (by rw [List.length_reverse, leL_len]; omega)]
        simp only [Option.bind_some]
        have : rlB st ts[a].1 ts[a].2 (rlD st ts f) (pl ts f a ts[a].1) false (leL vs[q].n (by8 vs[q].n)).reverse = some [vs[q]] := by
          unfold rlB
          rw [if_neg (by simp; omega), if_pos h12, numD_put hxn st hfn]
          simp only [Option.map_some]
          rw [← it_ext hk rfl hs0]
        rw [this]
        rfl
      · have h34 : ts[a].1 = 3 ∨ ts[a].1 = 4 := by omega
        have ho : rlOwn vs[q] = rlS vs[q].s.data.toList := by unfold rlOwn; rw [if_neg (by omega), if_pos (by omega)]
        have hn0 : vs[q].n = 0 := by
          have := hfn
          unfold fitsN at this
          rw [if_neg (by omega), if_neg (by omega), if_neg (by omega), if_neg (by omega), if_neg (by omega)] at this
          exact of_decide_eq_true this
        rw [ho, tk_rlS (by omega)]
        simp only [Option.bind_some]
        have : rlB st ts[a].1 ts[a].2 (rlD st ts f) (pl ts f a ts[a].1) false vs[q].s.data.toList = some [vs[q]] := by
          unfold rlB
          rw [if_neg (by simp; omega), if_neg h12, if_pos h34, hls, if_pos (fun _ => hfs)]
          congr 2
          rw [it_ext hk hn0 (rfl : vs[q].s = vs[q].s)]
        rw [this]
        rfl
    · rw [if_neg h4]
      have hb := body_le (q' := q') hvs hl ha hq hok hit hfit h4 (Nat.le_refl _) hv
      have hs0 := s_zero (fitS_zero hfs (by omega) (by omega))
      have hx := it_ext hk rfl hs0
      rw [tk_rlL (by omega)]
      simp only [Option.bind_some]
      suffices hB : rlB st ts[a].1 ts[a].2 (rlD st ts f) (pl ts f a ts[a].1) true (rlOwn vs[q] ++ cat (rlE ts vs f) (ve ts vs f) (pl ts f a ts[a].1 vs[q].n) (q + 1) (np ts[a].1 vs[q].n)) = some ((vs.drop q).take (q' - q)) by
        rw [hB]; rfl
      rw [hd1]
      unfold rlB
      rw [if_neg (by simp; omega), if_neg (by omega), if_neg (by omega)]
      by_cases k8 : ts[a].1 = 8
      · rw [if_pos k8]
        have ho : rlOwn vs[q] = [] := by unfold rlOwn; rw [if_neg (by omega), if_neg (by omega)]
        have hnp : np ts[a].1 vs[q].n = vs[q].n := by unfold np; rw [if_pos (by omega)]
        have hn1 : vs[q].n ≤ 1 := by
          have := hfn
          unfold fitsN at this
          rw [if_neg (by omega), if_pos (by omega)] at this
          exact of_decide_eq_true this
        rw [ho, List.nil_append, hnp]
        rw [hnp] at hv
        by_cases hz : vs[q].n = 0
        · rw [hz] at hv ⊢
          cases hv
          simp only [cat, if_true, Nat.sub_self, List.take_zero]
          rw [hz] at hx
          rw [hx]
        · have hn : vs[q].n = 1 := by omega
          rw [hn] at hv ⊢
          have hv1 : ve ts vs f (pl ts f a ts[a].1 1 0) (q + 1) = some q' := hv
          obtain ⟨e', he'⟩ := pl_ok ha hok hit (m := 1) (by rw [← hn]; exact hfn) (show 0 < np ts[a].1 1 by rw [show (1 : Nat) = vs[q].n from hn.symm, hnp]; omega)
          have hp := ih he' hv1 []
          rw [List.append_nil] at hp
          have hne := rlE_pos hvs hl he' hv1 []
          rw [List.append_nil] at hne
          have hcat : cat (rlE ts vs f) (ve ts vs f) (pl ts f a ts[a].1 1) (q + 1) 1 = rlE ts vs f (pl ts f a ts[a].1 1 0) (q + 1) := by simp [cat, vit_zero]
          rw [hcat, if_neg hne, hp]
          simp only [whole, Option.map_some]
          rw [hn] at hx
          rw [hx]
      · rw [if_neg k8]
        by_cases k9 : ts[a].1 = 9
        · rw [if_pos k9]
          have ho : rlOwn vs[q] = rlNum vs[q].n := by unfold rlOwn; rw [if_pos (by omega)]
          have hnp : np ts[a].1 vs[q].n = 1 := by unfold np; rw [if_neg (by omega), if_pos k9]
          rw [ho, hnp]
          rw [hnp] at hv
          have hv1 : ve ts vs f (pl ts f a ts[a].1 vs[q].n 0) (q + 1) = some q' := hv
          obtain ⟨e', he'⟩ := pl_ok ha hok hit hfn (show 0 < np ts[a].1 vs[q].n by omega)
          have hp := ih he' hv1 []
          rw [List.append_nil] at hp
          have hcat : cat (rlE ts vs f) (ve ts vs f) (pl ts f a ts[a].1 vs[q].n) (q + 1) 1 = rlE ts vs f (pl ts f a ts[a].1 vs[q].n 0) (q + 1) := by simp [cat, vit_zero]
          unfold rlNum
          rw [hcat, tk_rlS (by rw [List.length_reverse, leL_len]; omega)]
          simp only [Option.bind_some, Bool.false_eq_true, if_false]
          rw [numD_put hxn true hfn]
          simp only [Option.bind_some]
          rw [hp]
          simp only [whole, Option.map_some]
          rw [← hx]
        · rw [if_neg k9]
          have ho : rlOwn vs[q] = [] := by unfold rlOwn; rw [if_neg (by omega), if_neg (by omega)]
          have hnp : np ts[a].1 vs[q].n = vs[q].n := by unfold np; rw [if_pos (by omega)]
          have hMN : vs[q].n ≤ ts[a].2.toNat := by
            have := hfn
            unfold fitsN at this
            rw [if_neg (by omega), if_neg (by omega)] at this
            split at this
            · have := of_decide_eq_true this; omega
            · rw [if_pos (by omega)] at this
              have := of_decide_eq_true this; omega
          rw [ho, List.nil_append, hnp]
          rw [hnp] at hv
          have key : ∀ r i x, i + r = vs[q].n → vit (ve ts vs f) (pl ts f a ts[a].1 vs[q].n) (q + 1) i = some x → ∀ B, cat (rlE ts vs f) (ve ts vs f) (pl ts f a ts[a].1 vs[q].n) (q + 1) vs[q].n = cat (rlE ts vs f) (ve ts vs f) (pl ts f a ts[a].1 vs[q].n) (q + 1) i ++ B →
              ∃ ls, partsL (rlD st ts f) (pl ts f a ts[a].1 0) (ts[a].2.toNat - i) i B = some ls ∧ ls.length = r ∧ ls.flatten = (vs.drop x).take (q' - x) := by
            intro r
            induction r with
            | zero =>
              intro i x hi hx B hB
              have e1 : i = vs[q].n := by omega
              subst e1
              have hB0 : B = [] := by
                have := congrArg List.length hB
                rw [List.length_append] at this
                exact List.eq_nil_of_length_eq_zero (by omega)
              subst hB0
              rw [hx] at hv
              injection hv with hv
              subst hv
              refine ⟨[], ?_, rfl, by simp⟩
              cases ts[a].2.toNat - vs[q].n <;> simp [partsL]
            | succ r ihr =>
              intro i x hi hx B hB
              obtain ⟨y, hy⟩ := vit_part hv (show i + 1 ≤ vs[q].n by omega)
              have hy' := hy
              rw [vit_succ, hx] at hy'
              have hy2 : ve ts vs f (pl ts f a ts[a].1 vs[q].n i) x = some y := hy'
              obtain ⟨e', he'⟩ := pl_ok ha hok hit hfn (show i < np ts[a].1 vs[q].n by omega)
              obtain ⟨B2, hB2⟩ := cat_split (e := rlE ts vs f) (g := ve ts vs f) (ps := pl ts f a ts[a].1 vs[q].n) (q := q + 1) (show i + 1 ≤ vs[q].n by omega)
              have hcs := cat_succ (e := rlE ts vs f) (g := ve ts vs f) (ps := pl ts f a ts[a].1 vs[q].n) hx
              have hBe : B = rlE ts vs f (pl ts f a ts[a].1 vs[q].n i) x ++ B2 := by
                rw [hB, hcs, List.append_assoc] at hB2
                exact List.append_cancel_left hB2
              obtain ⟨ls, l1, l2, l3⟩ := ihr (i + 1) y (by omega) hy B2 hB2
              have hp := ih he' hy2 B2
              have hne := rlE_pos hvs hl he' hy2 B2
              rw [← hBe] at hp hne
              have hpl : pl ts f a ts[a].1 0 i = pl ts f a ts[a].1 vs[q].n i := pl_any (by omega) _ _ _
              have lx := vit_lt hq1 hx
              have ly := (ve_lt hy2).1
              have lz : y ≤ q' := by
                have : ∀ m, i + 1 + m ≤ vs[q].n → ∀ z, vit (ve ts vs f) (pl ts f a ts[a].1 vs[q].n) (q + 1) (i + 1 + m) = some z → y ≤ z := by
                  intro m
                  induction m with
                  | zero => intro _ z hz; rw [Nat.add_zero, hy] at hz; injection hz with hz; omega
                  | succ m ihm =>
                    intro hm z hz
                    obtain ⟨w, hw⟩ := vit_part hv (show i + 1 + m ≤ vs[q].n by omega)
                    have h1 := ihm (by omega) w hw
                    rw [show i + 1 + (m + 1) = (i + 1 + m) + 1 by omega, vit_succ, hw] at hz
                    have := (ve_lt (show ve ts vs f _ w = some z from hz)).1
                    omega
                exact this (vs[q].n - (i + 1)) (by omega) q' (by rw [show i + 1 + (vs[q].n - (i + 1)) = vs[q].n by omega]; exact hv)
              refine ⟨(vs.drop x).take (y - x) :: ls, ?_, by simp [l2], ?_⟩
              · rw [show ts[a].2.toNat - i = (ts[a].2.toNat - (i + 1)) + 1 by omega]
                simp only [partsL]
                rw [if_neg hne, hpl, hp]
                simp only [Option.bind_some]
                rw [l1]; rfl
              · rw [List.flatten_cons, l3]
                exact drop_take_step vs (by omega) lz
          obtain ⟨ls, l1, l2, l3⟩ := key vs[q].n 0 (q + 1) (by omega) rfl _ (by simp [cat]; rfl)
          rw [Nat.sub_zero] at l1
          rw [l1]
          simp only [Option.bind_some]
          rw [l2, if_pos hfn, l3, ← hx]
end Go.Proofs.YtdncnjmlicdamaaGreatDoor
namespace Go.Proofs.YtdncnjmlicdamaaGreatDoor
set_option linter.unusedVariables false
theorem whole_some {g : Option (List It × List UInt8)} {l : List It} (h : whole g = some l) : g = some (l, []) := by
  unfold whole at h
  split at h
  · rename_i l'
    simp only [Option.some.injEq] at h
    rw [h]
  · cases h
theorem tk_len {st : Bool} {b body rest : List UInt8} {list : Bool} (h : tk st b = some (list, body, rest)) : body.length + rest.length ≤ b.length ∧ rest.length < b.length := by
  cases b with
  | nil => cases h
  | cons c r =>
    simp only [tk] at h
    by_cases h1 : c.toNat < 128
    · rw [if_pos h1] at h
      simp only [Option.some.injEq, Prod.mk.injEq] at h
      obtain ⟨rfl, rfl, rfl⟩ := h
      simp; omega
    · rw [if_neg h1] at h
      split at h
      · rename_i hc
        obtain ⟨q1, q2, q3⟩ := hc
        obtain ⟨x, m, k, hg⟩ : ∃ x m k, getHead (c :: r) = (x, m, k, true) := ⟨_, _, _, by rw [← q1]⟩
        rw [hg] at h q2 q3
        simp only [Option.some.injEq, Prod.mk.injEq] at h q2
        obtain ⟨rfl, rfl, rfl⟩ := h
        obtain ⟨p1, p2, p3⟩ := getHead_back _ _ _ _ hg
        have hk : 0 < k := by
          rcases Nat.eq_zero_or_pos k with h0 | h0
          · exfalso
            subst h0
            unfold putHead at p1
            rw [if_pos ⟨by omega, by omega⟩] at p1
            obtain ⟨c', r', hc', _⟩ := headL_first x (n := (m : Int).toNat) (by omega)
            rw [hc'] at p1; simp at p1
          · exact h0
        rw [List.length_take, List.length_drop, List.length_drop]
        omega
      · cases h
theorem rlD_rest {st : Bool} {ts : List (Int × Int)} {f a : Nat} {b rest : List UInt8} {l : List It} (h : rlD st ts f a b = some (l, rest)) : rest.length < b.length := by
  cases f with
  | zero => cases h
  | succ f =>
    by_cases ha : a < ts.length
    · rw [rlD_at ha] at h
      obtain ⟨⟨list, body, rest'⟩, g1, g2⟩ := Option.bind_eq_some_iff.1 h
      obtain ⟨l', g3, g4⟩ := Option.map_eq_some_iff.1 g2
      simp only [Prod.mk.injEq] at g4
      obtain ⟨rfl, rfl⟩ := g4
      exact (tk_len g1).2
    · simp [rlD, List.getElem?_eq_none (Nat.le_of_not_lt ha)] at h
/-- The kinds of a series: how many parts there may be. -/
theorem ser_fits {k n : Int} (hok : tyOk k n = true) (hk : k = 5 ∨ k = 6 ∨ k = 7) : fitsN k n n.toNat = true ∧ np k n.toNat = n.toNat ∧ n.toNat ≤ 20 := by
  simp only [tyOk, decide_eq_true_eq] at hok
  refine ⟨?_, ?_, by omega⟩
  · unfold fitsN
    rw [if_neg (by omega), if_neg (by omega)]
    split
    · simp; omega
    · rw [if_pos (by omega)]; simp; omega
  · unfold np; rw [if_pos (by omega)]
theorem partsL_back {ts : List (Int × Int)} {f a e : Nat} {k n : Int} (ha : a < ts.length) (h1 : ts[a].1 = k) (h2 : ts[a].2 = n) (hok : tyOk k n = true) (hk : k = 5 ∨ k = 6 ∨ k = 7) (hit : iter (en ts f) (a + 1) (kids k n) = some e)
    (ih : ∀ {a e : Nat} {b : List UInt8} {l : List It} {rest : List UInt8}, en ts f a = some e → rlD true ts f a b = some (l, rest) → (∀ x ∈ l, (1 ≤ x.k ∧ x.k ≤ 9) ∧ x.n < 18446744073709551616 ∧ x.s.size ≤ 200) ∧ ∀ pre post : List It, ve ts (pre ++ (l ++ post)) f a pre.length = some (pre.length + l.length) ∧ rlE ts (pre ++ (l ++ post)) f a pre.length ++ rest = b)
    (ps : Nat → Nat) (hps : ∀ i, ps i = pl ts f a k 0 i) (q0 : Nat) : ∀ (m i : Nat) (b : List UInt8) (ls : List (List It)), i + m = n.toNat → partsL (rlD true ts f) (pl ts f a k 0) m i b = some ls →
      ls.length ≤ m ∧ (∀ y ∈ ls.flatten, (1 ≤ y.k ∧ y.k ≤ 9) ∧ y.n < 18446744073709551616 ∧ y.s.size ≤ 200) ∧ ∀ P post : List It, vit (ve ts (P ++ (ls.flatten ++ post)) f) ps q0 i = some P.length →
        vit (ve ts (P ++ (ls.flatten ++ post)) f) ps q0 (i + ls.length) = some (P.length + ls.flatten.length) ∧ cat (rlE ts (P ++ (ls.flatten ++ post)) f) (ve ts (P ++ (ls.flatten ++ post)) f) ps q0 (i + ls.length) = cat (rlE ts (P ++ (ls.flatten ++ post)) f) (ve ts (P ++ (ls.flatten ++ post)) f) ps q0 i ++ b := by
  have hsf := ser_fits hok hk
  intro m
  induction m with
  | zero =>
    intro i b ls hi h
    simp only [partsL] at h
    split at h
    · rename_i hb
      simp only [Option.some.injEq] at h
      subst h hb
      exact ⟨by simp, by simp, fun P post hv => ⟨by simpa using hv, by simp⟩⟩
    · cases h
  | succ m ihm =>
    intro i b ls hi h
    simp only [partsL] at h
    split at h
    · rename_i hb
      simp only [Option.some.injEq] at h
      subst h hb
      exact ⟨by simp, by simp, fun P post hv => ⟨by simpa using hv, by simp⟩⟩
    · rename_i hb
      obtain ⟨⟨l1, b1⟩, g1, g2⟩ := Option.bind_eq_some_iff.1 h
      obtain ⟨ls1, g3, g4⟩ := Option.map_eq_some_iff.1 g2
      subst g4
      obtain ⟨e', he'⟩ := pl_ok ha (by rw [h1, h2]; exact hok) (by rw [h1, h2]; exact hit) (m := n.toNat) (j := i) (by rw [h1, h2]; exact hsf.1) (by rw [h1, hsf.2.1]; omega)
      rw [h1, pl_any (by omega) n.toNat 0] at he'
      obtain ⟨w1, w2⟩ := ih he' g1
      obtain ⟨k1, k2, k3⟩ := ihm (i + 1) b1 ls1 (by omega) g3
      refine ⟨by simp; omega, ?_, fun P post hv => ?_⟩
      · intro y hy
        rw [List.flatten_cons, List.mem_append] at hy
        exact hy.elim (w1 y) (k2 y)
      · have e1 : P ++ ((l1 :: ls1).flatten ++ post) = P ++ (l1 ++ (ls1.flatten ++ post)) := by simp
        have e2 : (P ++ l1) ++ (ls1.flatten ++ post) = P ++ (l1 ++ (ls1.flatten ++ post)) := by simp
        rw [e1] at hv ⊢
        obtain ⟨v1, v2⟩ := w2 P (ls1.flatten ++ post)
        rw [← hps] at v1 v2
        have hv1 : vit (ve ts (P ++ (l1 ++ (ls1.flatten ++ post))) f) ps q0 (i + 1) = some (P ++ l1).length := by
          rw [vit_succ, hv]
          show ve ts _ f _ _ = _
          rw [v1]; simp
        have hv2 := hv1
        rw [← e2] at hv1
        obtain ⟨x1, x2⟩ := k3 (P ++ l1) post hv1
        rw [e2] at x1 x2
        have en1 : i + (l1 :: ls1).length = i + 1 + ls1.length := by simp; omega
        rw [en1]
        refine ⟨by rw [x1]; simp; omega, ?_⟩
        rw [x2, cat_succ hv, List.append_assoc, v2]
/-- What is read strictly, written again. -/
theorem rlD_back {ts : List (Int × Int)} : ∀ {f a e : Nat} {b : List UInt8} {l : List It} {rest : List UInt8}, en ts f a = some e → rlD true ts f a b = some (l, rest) → (∀ x ∈ l, (1 ≤ x.k ∧ x.k ≤ 9) ∧ x.n < 18446744073709551616 ∧ x.s.size ≤ 200) ∧ ∀ pre post : List It, ve ts (pre ++ (l ++ post)) f a pre.length = some (pre.length + l.length) ∧ rlE ts (pre ++ (l ++ post)) f a pre.length ++ rest = b := by
  intro f
  induction f with
  | zero => intro a e b l rest h; cases h
  | succ f ih =>
    intro a e b l rest he h
    obtain ⟨ha, hok, hit⟩ := en_inv he
    rw [rlD_at ha] at h
    obtain ⟨⟨list, body, rest'⟩, g1, g2⟩ := Option.bind_eq_some_iff.1 h
    obtain ⟨l', g3, g4⟩ := Option.map_eq_some_iff.1 g2
    simp only [Prod.mk.injEq] at g4
    obtain ⟨rfl, rfl⟩ := g4
    obtain ⟨t1, t2⟩ := tk_back g1
    have hok' := hok
    simp only [tyOk, decide_eq_true_eq] at hok'
    -- what is to be shown, of an item x and what stands behind it
    have fin : ∀ (x : It) (r : List It), l' = x :: r → fitsI ts[a].1 ts[a].2 x = true → x.n < 18446744073709551616 → x.s.size ≤ 200 → (∀ y ∈ r, (1 ≤ y.k ∧ y.k ≤ 9) ∧ y.n < 18446744073709551616 ∧ y.s.size ≤ 200) →
        (∀ pre post : List It, vit (ve ts (pre ++ ((x :: r) ++ post)) f) (pl ts f a ts[a].1 x.n) (pre.length + 1) (np ts[a].1 x.n) = some (pre.length + 1 + r.length) ∧ (if ts[a].1 ≤ 4 then rlOwn x else rlL (rlOwn x ++ cat (rlE ts (pre ++ ((x :: r) ++ post)) f) (ve ts (pre ++ ((x :: r) ++ post)) f) (pl ts f a ts[a].1 x.n) (pre.length + 1) (np ts[a].1 x.n))) ++ rest' = b) →
        (∀ y ∈ l', (1 ≤ y.k ∧ y.k ≤ 9) ∧ y.n < 18446744073709551616 ∧ y.s.size ≤ 200) ∧ ∀ pre post : List It, ve ts (pre ++ (l' ++ post)) (f + 1) a pre.length = some (pre.length + l'.length) ∧ rlE ts (pre ++ (l' ++ post)) (f + 1) a pre.length ++ rest' = b := by
      intro x r hl hfx hxn hxs hr hv
      subst hl
      have hxk := (fit_parts hfx).1
      refine ⟨fun y hy => ?_, fun pre post => ?_⟩
      · rcases List.mem_cons.1 hy with rfl | hy
        · exact ⟨by omega, hxn, hxs⟩
        · exact hr y hy
      · have hq : pre.length < (pre ++ ((x :: r) ++ post)).length := by simp
        have hx : (pre ++ ((x :: r) ++ post))[pre.length] = x := by simp
        obtain ⟨v1, v2⟩ := hv pre post
        refine ⟨?_, ?_⟩
        · rw [ve_ok ha hq (by rw [hx]; exact hfx), hx, v1]
          simp; omega
        · rw [rlE_ok ha hq, hx]
          exact v2
    unfold rlB at g3
    by_cases hls : list ≠ decide (5 ≤ ts[a].1)
    · rw [if_pos hls] at g3; cases g3
    · rw [if_neg hls] at g3
      have hls' : list = decide (5 ≤ ts[a].1) := by simpa using hls
      by_cases h12 : ts[a].1 = 1 ∨ ts[a].1 = 2
      · rw [if_pos h12] at g3
        obtain ⟨m, q1, q2⟩ := Option.map_eq_some_iff.1 g3
        obtain ⟨n1, n2, n3⟩ := numD_back q1
        have hlf : list = false := by rw [hls']; simp; omega
        refine fin ⟨ts[a].1, m, ⟨#[]⟩⟩ [] q2.symm ?_ n2 (by show (0 : Nat) ≤ 200; omega) (by simp) (fun pre post => ?_)
        · have : fitsS ts[a].1 ts[a].2 0 = true := by unfold fitsS; rw [if_neg (by omega), if_neg (by omega)]; rfl
          simp [fitsI, n3 rfl, ByteArray.size, this]
        · have hnp : np ts[a].1 m = 0 := by unfold np; rw [if_neg (by omega), if_neg (by omega)]
          show vit _ _ _ (np ts[a].1 m) = _ ∧ _
          rw [hnp]
          refine ⟨rfl, ?_⟩
          rw [if_pos (by omega)]
          have ho : rlOwn ⟨ts[a].1, m, ⟨#[]⟩⟩ = rlS body := by
            unfold rlOwn
            simp only []
            rw [if_pos (by omega)]
            unfold rlNum
            rw [n1]
          rw [ho]
          exact t1 hlf
      · rw [if_neg h12] at g3
        by_cases h34 : ts[a].1 = 3 ∨ ts[a].1 = 4
        · rw [if_pos h34] at g3
          split at g3
          · rename_i hc
            have hlf : list = false := by rw [hls']; simp; omega
            have hfs : fitsS ts[a].1 ts[a].2 body.length = true := hc rfl
            simp only [Option.some.injEq] at g3
            have hsz : (⟨body.toArray⟩ : ByteArray).size = body.length := by show body.toArray.size = _; simp
            refine fin ⟨ts[a].1, 0, ⟨body.toArray⟩⟩ [] g3.symm ?_ (by show (0 : Nat) < _; omega) ?_ (by simp) (fun pre post => ?_)
            · have hn0 : fitsN ts[a].1 ts[a].2 0 = true := by
                rcases h34 with h | h <;> simp [fitsN, h]
              simp [fitsI, hn0, hsz, hfs]
            · show (⟨body.toArray⟩ : ByteArray).size ≤ 200
              rw [hsz]
              unfold fitsS at hfs
              split at hfs
              · have := of_decide_eq_true hfs; omega
              · rw [if_pos (by omega)] at hfs; have := of_decide_eq_true hfs; omega
            · have hnp : np ts[a].1 0 = 0 := by unfold np; rw [if_neg (by omega), if_neg (by omega)]
              show vit _ _ _ (np ts[a].1 0) = _ ∧ _
              rw [hnp]
              refine ⟨rfl, ?_⟩
              rw [if_pos (by omega)]
              have ho : rlOwn ⟨ts[a].1, 0, ⟨body.toArray⟩⟩ = rlS body := by
                unfold rlOwn
                simp only []
                rw [if_neg (by omega), if_pos (by omega)]
              rw [ho]
              exact t1 hlf
          · cases g3
        · rw [if_neg h34] at g3
          have hlt : list = true := by rw [hls']; simp; omega
          have h4 : ¬ ts[a].1 ≤ 4 := by omega
          have t2' := t2 hlt
          have fS0 : fitsS ts[a].1 ts[a].2 0 = true := by unfold fitsS; rw [if_neg (by omega), if_neg (by omega)]; rfl
          have z0 : (0 : Nat) ≤ 200 := by omega
          by_cases k8 : ts[a].1 = 8
          · rw [if_pos k8] at g3
            split at g3
            · rename_i hb
              simp only [Option.some.injEq] at g3
              have hfn : fitsN ts[a].1 ts[a].2 0 = true := by unfold fitsN; rw [if_neg (by omega), if_pos (by omega)]; rfl
              refine fin ⟨ts[a].1, 0, ⟨#[]⟩⟩ [] g3.symm (by simp [fitsI, hfn, fS0, ByteArray.size]) (by show (0 : Nat) < _; omega) z0 (by simp) (fun pre post => ?_)
              have hnp : np ts[a].1 0 = 0 := by unfold np; rw [if_pos (by omega)]
              show vit _ _ _ (np ts[a].1 0) = _ ∧ _
              rw [hnp]
              refine ⟨rfl, ?_⟩
              rw [if_neg h4]
              have ho : rlOwn ⟨ts[a].1, 0, ⟨#[]⟩⟩ = [] := by unfold rlOwn; simp only []; rw [if_neg (by omega), if_neg (by omega)]
              rw [ho]
              simp only [cat, List.append_nil]
              rw [show body = [] from hb] at t2'
              exact t2'
            · rename_i hb
              obtain ⟨l1, q1, q2⟩ := Option.map_eq_some_iff.1 g3
              have q3 := whole_some q1
              have hfn : fitsN ts[a].1 ts[a].2 1 = true := by unfold fitsN; rw [if_neg (by omega), if_pos (by omega)]; rfl
              have hnp : np ts[a].1 1 = 1 := by unfold np; rw [if_pos (by omega)]
              obtain ⟨e', he'⟩ := pl_ok ha hok hit hfn (show 0 < np ts[a].1 1 by omega)
              obtain ⟨w1, w2⟩ := ih he' q3
              refine fin ⟨ts[a].1, 1, ⟨#[]⟩⟩ l1 q2.symm (by simp [fitsI, hfn, fS0, ByteArray.size]) (by show (1 : Nat) < _; omega) z0 w1 (fun pre post => ?_)
              obtain ⟨v1, v2⟩ := w2 (pre ++ [⟨ts[a].1, 1, ⟨#[]⟩⟩]) post
              have e1 : (pre ++ [⟨ts[a].1, 1, ⟨#[]⟩⟩]) ++ (l1 ++ post) = pre ++ ((⟨ts[a].1, 1, ⟨#[]⟩⟩ :: l1) ++ post) := by simp
              have e2 : (pre ++ [(⟨ts[a].1, 1, ⟨#[]⟩⟩ : It)]).length = pre.length + 1 := by simp
              rw [e1, e2] at v1 v2
              rw [List.append_nil] at v2
              show vit _ _ _ (np ts[a].1 1) = _ ∧ _
              rw [hnp]
              refine ⟨v1, ?_⟩
              rw [if_neg h4]
              have ho : rlOwn ⟨ts[a].1, 1, ⟨#[]⟩⟩ = [] := by unfold rlOwn; simp only []; rw [if_neg (by omega), if_neg (by omega)]
              rw [ho, List.nil_append, cat_succ (x := pre.length + 1) rfl]
              simp only [cat, List.nil_append]
              rw [v2]
              exact t2'
          · rw [if_neg k8] at g3
            by_cases k9 : ts[a].1 = 9
            · rw [if_pos k9] at g3
              obtain ⟨⟨ls2, num, more⟩, r1, r2⟩ := Option.bind_eq_some_iff.1 g3
              simp only [] at r2
              split at r2
              · cases r2
              · rename_i hl2
                have hl2' : ls2 = false := by simpa using hl2
                obtain ⟨m, r3, r4⟩ := Option.bind_eq_some_iff.1 r2
                obtain ⟨l1, q1, q2⟩ := Option.map_eq_some_iff.1 r4
                have q3 := whole_some q1
                obtain ⟨n1, n2, n3⟩ := numD_back r3
                have hfn := n3 rfl
                have hnp : np ts[a].1 m = 1 := by unfold np; rw [if_neg (by omega), if_pos k9]
                obtain ⟨e', he'⟩ := pl_ok ha hok hit hfn (show 0 < np ts[a].1 m by omega)
                obtain ⟨w1, w2⟩ := ih he' q3
                have s1 := (tk_back r1).1 hl2'
                refine fin ⟨ts[a].1, m, ⟨#[]⟩⟩ l1 q2.symm (by simp [fitsI, hfn, fS0, ByteArray.size]) n2 z0 w1 (fun pre post => ?_)
                obtain ⟨v1, v2⟩ := w2 (pre ++ [⟨ts[a].1, m, ⟨#[]⟩⟩]) post
                have e1 : (pre ++ [⟨ts[a].1, m, ⟨#[]⟩⟩]) ++ (l1 ++ post) = pre ++ ((⟨ts[a].1, m, ⟨#[]⟩⟩ :: l1) ++ post) := by simp
                have e2 : (pre ++ [(⟨ts[a].1, m, ⟨#[]⟩⟩ : It)]).length = pre.length + 1 := by simp
                rw [e1, e2] at v1 v2
                rw [List.append_nil] at v2
                show vit _ _ _ (np ts[a].1 m) = _ ∧ _
                rw [hnp]
                refine ⟨v1, ?_⟩
                rw [if_neg h4]
                have ho : rlOwn ⟨ts[a].1, m, ⟨#[]⟩⟩ = rlS num := by
                  unfold rlOwn
                  simp only []
                  rw [if_pos (by omega)]
                  unfold rlNum
                  rw [n1]
                rw [ho, cat_succ (x := pre.length + 1) rfl]
                simp only [cat, List.nil_append]
                rw [v2, s1]
                exact t2'
            · rw [if_neg k9] at g3
              have hk567 : ts[a].1 = 5 ∨ ts[a].1 = 6 ∨ ts[a].1 = 7 := by omega
              obtain ⟨ls, q1, q2⟩ := Option.bind_eq_some_iff.1 g3
              split at q2
              · rename_i hfn
                simp only [Option.some.injEq] at q2
                have hsf := ser_fits hok hk567
                have hnp : np ts[a].1 ls.length = ls.length := by unfold np; rw [if_pos (by omega)]
                obtain ⟨k1, k2, k3⟩ := partsL_back ha rfl rfl hok hk567 hit (fun he h => ih he h) (pl ts f a ts[a].1 ls.length) (fun i => pl_any (by omega) _ _ _) 0 ts[a].2.toNat 0 body ls (by omega) q1
                refine fin ⟨ts[a].1, ls.length, ⟨#[]⟩⟩ ls.flatten q2.symm (by simp [fitsI, hfn, fS0, ByteArray.size]) (by show ls.length < _; omega) z0 k2 (fun pre post => ?_)
                obtain ⟨_, _, k4⟩ := partsL_back ha rfl rfl hok hk567 hit (fun he h => ih he h) (pl ts f a ts[a].1 ls.length) (fun i => pl_any (by omega) _ _ _) (pre.length + 1) ts[a].2.toNat 0 body ls (by omega) q1
                have e2 : (pre ++ [(⟨ts[a].1, ls.length, ⟨#[]⟩⟩ : It)]).length = pre.length + 1 := by simp
                obtain ⟨x1, x2⟩ := k4 (pre ++ [⟨ts[a].1, ls.length, ⟨#[]⟩⟩]) post (by rw [e2]; rfl)
                have e1 : (pre ++ [⟨ts[a].1, ls.length, ⟨#[]⟩⟩]) ++ (ls.flatten ++ post) = pre ++ ((⟨ts[a].1, ls.length, ⟨#[]⟩⟩ :: ls.flatten) ++ post) := by simp
                rw [e1, e2, Nat.zero_add] at x1
                rw [e1, Nat.zero_add] at x2
                show vit _ _ _ (np ts[a].1 ls.length) = _ ∧ _
                rw [hnp]
                refine ⟨x1, ?_⟩
                rw [if_neg h4]
                have ho : rlOwn ⟨ts[a].1, ls.length, ⟨#[]⟩⟩ = [] := by unfold rlOwn; simp only []; rw [if_neg (by omega), if_neg (by omega)]
                rw [ho, List.nil_append, x2]
                simp only [cat, List.nil_append]
                exact t2'
              · cases q2
theorem partsL_len {d : Nat → List UInt8 → Option (List It × List UInt8)} {ps : Nat → Nat} {L n : Nat} (hd : ∀ i c l r, i < n → d (ps i) c = some (l, r) → l.length ≤ L) : ∀ {m i : Nat} {b : List UInt8} {ls : List (List It)}, i + m ≤ n → partsL d ps m i b = some ls → ls.length ≤ m ∧ ls.flatten.length ≤ m * L := by
  intro m
  induction m with
  | zero =>
    intro i b ls hi h
    simp only [partsL] at h
    split at h
    · simp only [Option.some.injEq] at h; subst h; simp
    · cases h
  | succ m ih =>
    intro i b ls hi h
    simp only [partsL] at h
    split at h
    · simp only [Option.some.injEq] at h; subst h; simp
    · obtain ⟨⟨l1, b1⟩, g1, g2⟩ := Option.bind_eq_some_iff.1 h
      obtain ⟨ls1, g3, g4⟩ := Option.map_eq_some_iff.1 g2
      subst g4
      have h1 := ih (by omega) g3
      have h2 : l1.length ≤ L := hd i b l1 b1 (by omega) g1
      show (l1 :: ls1).length ≤ _ ∧ (l1 :: ls1).flatten.length ≤ _
      rw [List.flatten_cons, List.length_append, List.length_cons, Nat.succ_mul]
      omega
/-- How many items are read at most, and how great they are. -/
theorem rlD_many {st : Bool} {ts : List (Int × Int)} : ∀ {f a e : Nat} {b : List UInt8} {l : List It} {rest : List UInt8}, en ts f a = some e → rlD st ts f a b = some (l, rest) → 1 ≤ l.length ∧ l.length ≤ 21 ^ f ∧ rest.length < b.length := by
  intro f
  induction f with
  | zero => intro a e b l rest h; cases h
  | succ f ih =>
    intro a e b l rest he h
    obtain ⟨ha, hok, hit⟩ := en_inv he
    rw [rlD_at ha] at h
    obtain ⟨⟨list, body, rest'⟩, g1, g2⟩ := Option.bind_eq_some_iff.1 h
    obtain ⟨l', g3, g4⟩ := Option.map_eq_some_iff.1 g2
    simp only [Prod.mk.injEq] at g4
    obtain ⟨rfl, rfl⟩ := g4
    have hl := tk_len g1
    have h21 : 1 ≤ 21 ^ f := Nat.one_le_pow _ _ (by decide)
    have hp : 21 ^ (f + 1) = 21 * 21 ^ f := by rw [Nat.pow_succ]; omega
    refine ⟨?_, ?_, hl.2⟩
    all_goals
      unfold rlB at g3
      split at g3
      · cases g3
      · split at g3
        · obtain ⟨m, q1, q2⟩ := Option.map_eq_some_iff.1 g3
          subst q2
          simp only [List.length_cons, List.length_nil]
          omega
        · split at g3
          · split at g3
            · simp only [Option.some.injEq] at g3
              subst g3
              simp only [List.length_cons, List.length_nil]
              omega
            · cases g3
          · split at g3
            · rename_i k8
              split at g3
              · simp only [Option.some.injEq] at g3
                subst g3
                simp only [List.length_cons, List.length_nil]
                omega
              · obtain ⟨l1, q1, q2⟩ := Option.map_eq_some_iff.1 g3
                have q3 := whole_some q1
                have hfn : fitsN ts[a].1 ts[a].2 1 = true := by unfold fitsN; rw [if_neg (by omega), if_pos (by omega)]; rfl
                obtain ⟨e', he'⟩ := pl_ok ha hok hit hfn (show 0 < np ts[a].1 1 by unfold np; rw [if_pos (by omega)]; omega)
                have h1 := (show 1 ≤ l1.length ∧ l1.length ≤ 21 ^ f ∧ _ from ih he' q3)
                subst q2
                rw [List.length_cons]
                omega
            · rename_i k8
              split at g3
              · rename_i k9
                obtain ⟨⟨ls2, num, more⟩, r1, r2⟩ := Option.bind_eq_some_iff.1 g3
                simp only [] at r2
                split at r2
                · cases r2
                · obtain ⟨m, r3, r4⟩ := Option.bind_eq_some_iff.1 r2
                  obtain ⟨l1, q1, q2⟩ := Option.map_eq_some_iff.1 r4
                  have q3 := whole_some q1
                  have hfn := (numD_back r3).2.2 rfl
                  obtain ⟨e', he'⟩ := pl_ok ha hok hit hfn (show 0 < np ts[a].1 m by unfold np; rw [if_neg (by omega), if_pos k9]; omega)
                  have h1 := ih he' q3
                  subst q2
                  rw [List.length_cons]
                  omega
              · rename_i hlist h12 h34 k9
                obtain ⟨ls, q1, q2⟩ := Option.bind_eq_some_iff.1 g3
                split at q2
                · simp only [Option.some.injEq] at q2
                  subst q2
                  have hok' := hok
                  simp only [tyOk, decide_eq_true_eq] at hok'
                  have hk567 : ts[a].1 = 5 ∨ ts[a].1 = 6 ∨ ts[a].1 = 7 := by omega
                  have hsf := ser_fits hok hk567
                  have h1 := partsL_len (n := ts[a].2.toNat) (L := 21 ^ f) (fun i c l r hi hd => by
                    obtain ⟨e', he'⟩ := pl_ok ha hok hit hsf.1 (show i < np ts[a].1 ts[a].2.toNat by rw [hsf.2.1]; exact hi)
                    rw [pl_any (by omega) ts[a].2.toNat 0] at he'
                    exact (ih he' hd).2.1) (by omega) q1
                  have h2 : ts[a].2.toNat * 21 ^ f ≤ 20 * 21 ^ f := Nat.mul_le_mul_right _ hsf.2.2
                  rw [List.length_cons]
                  omega
                · cases q2
theorem rl_typ_ve {ts : List (Int × Int)} {vs : List It} (h : typedB ts vs = true) : schOk ts = true ∧ vs.length ≤ 200 ∧ ve ts vs 7 0 0 = some vs.length := by
  unfold typedB at h
  simp only [Bool.and_eq_true, decide_eq_true_eq, beq_iff_eq] at h
  exact ⟨h.1, h.2.1, h.2.2⟩
theorem typed_n {ts : List (Int × Int)} {vs : List It} {f a q q' : Nat} : ∀ {f a q q' e : Nat}, en ts f a = some e → ve ts vs f a q = some q' → ∀ i (h : i < vs.length), q ≤ i → i < q' → vs[i].n < 18446744073709551616 := by
  intro f
  induction f with
  | zero => intro a q q' e h; cases h
  | succ f ih =>
    intro a q q' e he hv i hi h1 h2
    obtain ⟨ha, hq, hfit, hvt⟩ := ve_inv hv
    obtain ⟨_, hok, hit⟩ := en_inv he
    have hfn := (fit_parts hfit).2.1
    by_cases e1 : i = q
    · subst e1
      have hok' := hok
      simp only [tyOk, decide_eq_true_eq] at hok'
      unfold fitsN at hfn
      split at hfn
      · have := of_decide_eq_true hfn
        have hn : ts[a].2.toNat ≤ 64 := by omega
        exact Nat.lt_of_lt_of_le this (Nat.le_trans (Nat.pow_le_pow_right (by decide) hn) (by decide))
      · split at hfn
        · have := of_decide_eq_true hfn; omega
        · split at hfn
          · have := of_decide_eq_true hfn; omega
          · split at hfn
            · have := of_decide_eq_true hfn; omega
            · split at hfn
              · have := of_decide_eq_true hfn; omega
              · have := of_decide_eq_true hfn; omega
    · have key : ∀ j x, j ≤ np ts[a].1 vs[q].n → vit (ve ts vs f) (pl ts f a ts[a].1 vs[q].n) (q + 1) j = some x → q + 1 ≤ i → i < x → vs[i].n < 18446744073709551616 := by
        intro j
        induction j with
        | zero => intro x _ hx h3 h4; cases hx; omega
        | succ j ihj =>
          intro x hj hx h3 h4
          obtain ⟨y, hy⟩ := vit_part hx (Nat.le_succ j)
          by_cases h5 : i < y
          · exact ihj y (by omega) hy h3 h5
          · rw [vit_succ, hy] at hx
            obtain ⟨e', he'⟩ := pl_ok ha hok hit hfn (show j < np ts[a].1 vs[q].n by omega)
            exact ih he' (show ve ts vs f _ y = some x from hx) i hi (by omega) h4
      exact key _ _ (Nat.le_refl _) hvt (by omega) h2
theorem typed_ns {ts : List (Int × Int)} {vs : List It} (h : typedB ts vs = true) : ∀ x ∈ vs, x.n < 18446744073709551616 := by
  obtain ⟨h1, h2, h3⟩ := rl_typ_ve h
  intro x hx
  obtain ⟨i, hi, rfl⟩ := List.getElem_of_mem hx
  exact typed_n (f := 0) (a := 0) (q := 0) (q' := 0) (schOk_iff.1 h1).2 h3 i hi (by omega) hi
/-- What is read of b as RLP: the value of the schema, where b is one. -/
def rlR (ok : Bool) (ts : List (Int × Int)) (b : List UInt8) : Option (List It) :=
  if ok = true then (match whole (rlD true ts 7 0 b) with | some l => if l.length ≤ 200 then some l else none | none => none) else none
theorem rlR_no {ts : List (Int × Int)} {b : List UInt8} : rlR false ts b = none := rfl
theorem rlR_inv {ok : Bool} {ts : List (Int × Int)} {b : List UInt8} {l : List It} (h : rlR ok ts b = some l) : ok = true ∧ rlD true ts 7 0 b = some (l, []) ∧ l.length ≤ 200 := by
  unfold rlR at h
  cases ok with
  | false => simp at h
  | true =>
    simp only [if_true] at h
    split at h
    · rename_i l' hw
      split at h
      · rename_i hl
        simp only [Option.some.injEq] at h
        subst h
        exact ⟨rfl, whole_some hw, hl⟩
      · cases h
    · cases h
theorem rlR_yes {ts : List (Int × Int)} {b : List UInt8} {l : List It} (h : rlD true ts 7 0 b = some (l, [])) (hl : l.length ≤ 200) : rlR true ts b = some l := by
  unfold rlR
  rw [h]
  simp [whole, hl]
theorem rlR_back {ok : Bool} {ts : List (Int × Int)} {b : List UInt8} {l : List It} (hs : ok = true → schOk ts = true) (h : rlR ok ts b = some l) : typedB ts l = true ∧ rlE ts l 7 0 0 = b := by
  obtain ⟨h1, h2, h3⟩ := rlR_inv h
  have hk := hs h1
  obtain ⟨w1, w2⟩ := rlD_back (schOk_iff.1 hk).2 h2
  obtain ⟨v1, v2⟩ := w2 [] []
  simp only [List.nil_append, List.append_nil, List.length_nil, Nat.zero_add] at v1 v2
  refine ⟨?_, v2⟩
  unfold typedB
  rw [hk, v1]
  simp [h3]
theorem rlR_put {ts : List (Int × Int)} {vs : List It} (ht : typedB ts vs = true) : rlR true ts (rlE ts vs 7 0 0) = some vs := by
  obtain ⟨h1, h2, h3⟩ := rl_typ_ve ht
  have h := rlD_put (st := true) (typed_ns ht) h2 (schOk_iff.1 h1).2 h3 []
  rw [List.append_nil] at h
  refine rlR_yes ?_ h2
  simpa using h
theorem rlD_enc {st : Bool} {ts : List (Int × Int)} {vs : List It} (ht : typedB ts vs = true) (t : List UInt8) : rlD st ts 7 0 (rlE ts vs 7 0 0 ++ t) = some (vs, t) := by
  obtain ⟨h1, h2, h3⟩ := rl_typ_ve ht
  have h := rlD_put (st := st) (typed_ns ht) h2 (schOk_iff.1 h1).2 h3 t
  simpa using h
/-- The specification's way comes to the same. -/
theorem rlR_spec {ts : List (Int × Int)} (hs : schOk ts = true) (b : List UInt8) : (rlD false ts 7 0 b = none → rlR true ts b = none) ∧ ∀ l r, rlD false ts 7 0 b = some (l, r) → rlR true ts b = if typedB ts l = true ∧ rlE ts l 7 0 0 = b then some l else none := by
  have key : ∀ l', rlR true ts b = some l' → rlD false ts 7 0 b = some (l', []) ∧ typedB ts l' = true ∧ rlE ts l' 7 0 0 = b := fun l' h => by
    obtain ⟨h1, h2⟩ := rlR_back (fun _ => hs) h
    have h3 := rlD_enc (st := false) h1 []
    rw [List.append_nil, h2] at h3
    exact ⟨h3, h1, h2⟩
  refine ⟨fun h => ?_, fun l r h => ?_⟩
  · cases hr : rlR true ts b with
    | none => rfl
    | some l' => have := (key l' hr).1; rw [h] at this; cases this
  · split
    · rename_i hc
      rw [← hc.2]
      exact rlR_put hc.1
    · rename_i hc
      cases hr : rlR true ts b with
      | none => rfl
      | some l' =>
        obtain ⟨k1, k2, k3⟩ := key l' hr
        rw [h] at k1
        simp only [Option.some.injEq, Prod.mk.injEq] at k1
        obtain ⟨rfl, _⟩ := k1
        exact absurd ⟨k2, k3⟩ hc
end Go.Proofs.YtdncnjmlicdamaaGreatDoor
