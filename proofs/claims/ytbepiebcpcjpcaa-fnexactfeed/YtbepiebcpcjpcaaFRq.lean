/- What bytes begin with, by the specification: contract. -/
import Derived.Test.YtbepiebcpcjpcaaFRb
namespace Go.Proofs.Ytbepiebcpcjpcaa
open Go.RowKit Go.Sort
set_option linter.unusedVariables false
theorem rd_big : ∀ (l : List UInt8) (i x : Nat), 2 ≤ i → (rd i x l).2.2 = true → 16384 ≤ (rd i x l).1
  | [], i, x, h, e => by simp [rd] at e
  | b :: l, i, x, h, e => by
    rw [rd_cons] at e ⊢
    by_cases h1 : (i = 9 ∧ 2 ≤ b.toNat % 128) ∨ (10 ≤ i ∧ b.toNat % 128 ≠ 0)
    · rw [if_pos h1] at e; simp at e
    · rw [if_neg h1] at e ⊢
      by_cases h2 : 127 < b.toNat
      · rw [if_pos h2] at e ⊢; exact rd_big l _ _ (by omega) e
      · rw [if_neg h2] at e ⊢
        by_cases h3 : 0 < i ∧ b.toNat % 128 = 0
        · rw [if_pos h3] at e; simp at e
        · rw [if_neg h3]
          have hb : 1 ≤ b.toNat % 128 := by omega
          have h7 : 2 ^ (7 * 2) ≤ 2 ^ (7 * i) := Nat.pow_le_pow_right (by decide) (by omega)
          have := Nat.mul_le_mul hb h7
          have e14 : (2 : Nat) ^ (7 * 2) = 16384 := by decide
          rw [e14] at this
          show 16384 ≤ x + b.toNat % 128 * 2 ^ (7 * i)
          generalize b.toNat % 128 * 2 ^ (7 * i) = q at *
          omega
theorem rd_h : ∀ (l : List UInt8) (i x : Nat), (rd i x l).2.2 = true → i < (rd i x l).2.1 ∧ (rd i x l).2.1 ≤ i + l.length
  | [], i, x, e => by simp [rd] at e
  | b :: l, i, x, e => by
    rw [rd_cons] at e ⊢
    by_cases h1 : (i = 9 ∧ 2 ≤ b.toNat % 128) ∨ (10 ≤ i ∧ b.toNat % 128 ≠ 0)
    · rw [if_pos h1] at e; simp at e
    · rw [if_neg h1] at e ⊢
      by_cases h2 : 127 < b.toNat
      · rw [if_pos h2] at e ⊢
        have := rd_h l _ _ e
        simp only [List.length_cons]
        omega
      · rw [if_neg h2] at e ⊢
        by_cases h3 : 0 < i ∧ b.toNat % 128 = 0
        · rw [if_pos h3] at e; simp at e
        · rw [if_neg h3]
          simp only [List.length_cons]
          omega
theorem tk_var {x y : UInt8} {r : List UInt8} (hx : ¬ (x.toNat < 1 ∨ 5 < x.toNat)) (hy : ¬ (y.toNat < 1 ∨ 4 < y.toNat)) (h0 : 0 < r.length) (h3 : ∀ z, r = [z] → z.toNat < 128) :
    tk (x :: y :: r) = if (getVar r).2.2 = false ∨ 1000 < (getVar r).1 then .none else tkD x.toNat y.toNat (getVar r).1 (2 + (getVar r).2.1) (r.drop (getVar r).2.1) := by
  rw [tk, if_neg hx, tkK, if_neg hy]
  match r, h0, h3 with
  | z :: r, _, h3 =>
    have hzt := z.toNat_lt
    rw [tkL]
    by_cases hz : z.toNat < 128
    · have e : getVar (z :: r) = (z.toNat, 1, true) := by
        rw [getVar, rd_cons, if_neg (by omega), if_neg (by omega), if_neg (by omega)]
        simp
        omega
      rw [if_pos hz, e]
      simp only [Bool.true_eq_false, false_or, List.drop_succ_cons, List.drop_zero]
      by_cases h1 : 1000 < z.toNat
      · omega
      · rw [if_neg h1]
    · rw [if_neg hz]
      match r, h3 with
      | [], h3 => exact absurd (h3 z rfl) hz
      | d :: r, _ =>
        have hdt := d.toNat_lt
        rw [tkM]
        have e1 : getVar (z :: d :: r) = rd 1 (z.toNat % 128) (d :: r) := by
          rw [getVar, rd_cons, if_neg (by omega), if_pos (by omega)]
          simp
        by_cases hd : 127 < d.toNat
        · have e2 : getVar (z :: d :: r) = rd 2 (z.toNat % 128 + d.toNat % 128 * 2 ^ (7 * 1)) r := by rw [e1, rd_cons, if_neg (by omega), if_pos hd]
          rw [if_pos (by omega), e2, if_pos ?_]
          cases hh : (rd 2 (z.toNat % 128 + d.toNat % 128 * 2 ^ (7 * 1)) r).2.2 with
          | false => exact .inl rfl
          | true => have := rd_big r 2 _ (Nat.le_refl _) hh; exact .inr (by omega)
        · by_cases hd0 : d.toNat = 0
          · have e2 : getVar (z :: d :: r) = (0, 0, false) := by rw [e1, rd_cons, if_neg (by omega), if_neg hd, if_pos (by omega)]
            rw [if_pos (by omega), e2, if_pos (.inl rfl)]
          · have e2 : getVar (z :: d :: r) = (z.toNat % 128 + 128 * d.toNat, 2, true) := by
              rw [e1, rd_cons, if_neg (by omega), if_neg hd, if_neg (by omega)]
              simp
              omega
            rw [e2]
            by_cases h1 : 1000 < z.toNat % 128 + 128 * d.toNat
            · rw [if_pos (by omega), if_pos (.inr h1)]
            · rw [if_neg (by omega), if_neg (by simp; omega)]
              rfl
def zFr : Value := .agg #[.int .i64 0, .int .i64 0, .string ⟨#[]⟩]
/-- What l11Take answers. -/
def tkV (b : ByteArray) : Tk → Value
  | .none => .tuple #[.agg #[.int .i64 0, .int .i64 0, .string ⟨#[]⟩], .int .i64 0, .int .i64 3]
  | .more => .tuple #[.agg #[.int .i64 0, .int .i64 0, .string ⟨#[]⟩], .int .i64 0, .int .i64 2]
  | .whole a k n h => .tuple #[.agg #[.int .i64 a, .int .i64 k, .string (b.extract h (h + n))], .int .i64 ((h + n : Nat) : Int), .int .i64 1]
theorem dl_at {b : ByteArray} {i : Nat} (h : i < b.size) : b.data.toList.drop i = b[i] :: b.data.toList.drop (i + 1) := drop_cons b i h
theorem dl_two {b : ByteArray} (h : 2 ≤ b.size) : b.data.toList = b[0] :: b[1] :: b.data.toList.drop 2 := by
  have h0 := dl_at (b := b) (i := 0) (by omega)
  have h1 := dl_at (b := b) (i := 1) (by omega)
  rw [List.drop_zero, h1] at h0
  exact h0
set_option maxRecDepth 100000 in
set_option maxHeartbeats 4000000 in
theorem l11Take_any (b : ByteArray) (w : World) (hb : b.size ≤ 1048576) : Calls Try.prog 29 #[.string b] w fun e w' => e = .returned (tkV b (tk b.data.toList)) ∧ Below w.heap.size w w' := by
  by_cases s0 : b.size = 0
  · have HR : Hid (tk b.data.toList = .more) := by
      show _ = _
      rw [List.eq_nil_of_length_eq_zero (l := b.data.toList) (by simpa using s0)]; rfl
    rw [HR.out]
    clear HR
    go_enter Try.func29, Try.ntmps29
    go_wp2
    exact bodyPost_ret (v := tkV b .more) (by simp [results, Try.results29, go_sem, tkV]) rfl ⟨rfl, by repeat (first | exact Below.refl _ _ | refine Below.drew ?_ | refine Below.setCell ?_ (by simp) _ | refine Below.alloc ?_ (by simp) _)⟩
  · have s0' : 0 < b.size := by omega
    obtain ⟨x, hx⟩ : ∃ x, b[0] = x := ⟨_, rfl⟩
    have hb0 : x.toNat < 256 := x.toNat_lt
    have HD : Hid (b.data.toList = x :: b.data.toList.drop 1) := by
      have := dl_at (b := b) (i := 0) (by omega)
      rw [List.drop_zero, hx] at this
      exact this
    clear s0
    by_cases hxb : x.toNat < 1 ∨ 5 < x.toNat
    · have H1 : Hid (∀ w, Calls Try.prog 30 #[.int .i64 (x.toNat : Nat), .int .i64 1, .int .i64 5] w fun e w' => e = .returned (.bool false) ∧ w' = w) := fun w => by have := l1In_any x.toNat 1 5 w; rwa [show decide ((1 : Int) ≤ (x.toNat : Nat) ∧ ((x.toNat : Nat) : Int) ≤ 5) = false by simp; omega] at this
      have HR : Hid (tk b.data.toList = .none) := by
        show _ = _
        rw [HD.out, tk, if_pos hxb]
      rw [HR.out]
      clear HR
      clear hxb
      go_enter Try.func29, Try.ntmps29
      go_wp2_with fail
      refine (H1.out _).mono ?_
      rintro e w1 ⟨rfl, rfl⟩
      go_wp2_with fail
      exact bodyPost_ret (v := tkV b .none) (by simp [results, Try.results29, go_sem, tkV]) rfl ⟨rfl, by repeat (first | exact Below.refl _ _ | refine Below.drew ?_ | refine Below.setCell ?_ (by simp) _ | refine Below.alloc ?_ (by simp) _)⟩
    · by_cases s1 : b.size = 1
      · have H1 : Hid (∀ w, Calls Try.prog 30 #[.int .i64 (x.toNat : Nat), .int .i64 1, .int .i64 5] w fun e w' => e = .returned (.bool true) ∧ w' = w) := fun w => by have := l1In_any x.toNat 1 5 w; rwa [show decide ((1 : Int) ≤ (x.toNat : Nat) ∧ ((x.toNat : Nat) : Int) ≤ 5) = true by simp; omega] at this
        have HR : Hid (tk b.data.toList = .more) := by
          show _ = _
          rw [HD.out, tk, if_neg hxb, List.eq_nil_of_length_eq_zero (l := b.data.toList.drop 1) (by simp; omega), tkK]
        rw [HR.out]
        clear HR
        clear hxb
        go_enter Try.func29, Try.ntmps29
        go_wp2_with fail
        refine (H1.out _).mono ?_
        rintro e w1 ⟨rfl, rfl⟩
        go_wp2_with fail
        exact bodyPost_ret (v := tkV b .more) (by simp [results, Try.results29, go_sem, tkV]) rfl ⟨rfl, by repeat (first | exact Below.refl _ _ | refine Below.drew ?_ | refine Below.setCell ?_ (by simp) _ | refine Below.alloc ?_ (by simp) _)⟩
      · have s1' : 1 < b.size := by omega
        obtain ⟨y, hy⟩ : ∃ y, b[1] = y := ⟨_, rfl⟩
        have hb1 : y.toNat < 256 := y.toNat_lt
        have HD2 : Hid (b.data.toList = x :: y :: b.data.toList.drop 2) := by
          have := dl_two (b := b) (by omega)
          rw [hx, hy] at this
          exact this
        clear s1 HD
        by_cases hyb : y.toNat < 1 ∨ 4 < y.toNat
        · have H1 : Hid (∀ w, Calls Try.prog 30 #[.int .i64 (x.toNat : Nat), .int .i64 1, .int .i64 5] w fun e w' => e = .returned (.bool true) ∧ w' = w) := fun w => by have := l1In_any x.toNat 1 5 w; rwa [show decide ((1 : Int) ≤ (x.toNat : Nat) ∧ ((x.toNat : Nat) : Int) ≤ 5) = true by simp; omega] at this
          have H2 : Hid (∀ w, Calls Try.prog 30 #[.int .i64 (y.toNat : Nat), .int .i64 1, .int .i64 4] w fun e w' => e = .returned (.bool false) ∧ w' = w) := fun w => by have := l1In_any y.toNat 1 4 w; rwa [show decide ((1 : Int) ≤ (y.toNat : Nat) ∧ ((y.toNat : Nat) : Int) ≤ 4) = false by simp; omega] at this
          have HR : Hid (tk b.data.toList = .none) := by
            show _ = _
            rw [HD2.out, tk, if_neg hxb, tkK, if_pos hyb]
          rw [HR.out]
          clear HR
          clear hxb hyb
          go_enter Try.func29, Try.ntmps29
          go_wp2_with fail
          refine (H1.out _).mono ?_
          rintro e w1 ⟨rfl, rfl⟩
          go_wp2_with fail
          refine (H2.out _).mono ?_
          rintro e w1 ⟨rfl, rfl⟩
          go_wp2_with fail
          exact bodyPost_ret (v := tkV b .none) (by simp [results, Try.results29, go_sem, tkV]) rfl ⟨rfl, by repeat (first | exact Below.refl _ _ | refine Below.drew ?_ | refine Below.setCell ?_ (by simp) _ | refine Below.alloc ?_ (by simp) _)⟩
        · by_cases s2 : b.size = 2
          · have H1 : Hid (∀ w, Calls Try.prog 30 #[.int .i64 (x.toNat : Nat), .int .i64 1, .int .i64 5] w fun e w' => e = .returned (.bool true) ∧ w' = w) := fun w => by have := l1In_any x.toNat 1 5 w; rwa [show decide ((1 : Int) ≤ (x.toNat : Nat) ∧ ((x.toNat : Nat) : Int) ≤ 5) = true by simp; omega] at this
            have H2 : Hid (∀ w, Calls Try.prog 30 #[.int .i64 (y.toNat : Nat), .int .i64 1, .int .i64 4] w fun e w' => e = .returned (.bool true) ∧ w' = w) := fun w => by have := l1In_any y.toNat 1 4 w; rwa [show decide ((1 : Int) ≤ (y.toNat : Nat) ∧ ((y.toNat : Nat) : Int) ≤ 4) = true by simp; omega] at this
            have HR : Hid (tk b.data.toList = .more) := by
              show _ = _
              rw [HD2.out, tk, if_neg hxb, tkK, if_neg hyb, List.eq_nil_of_length_eq_zero (l := b.data.toList.drop 2) (by simp; omega), tkL]
            rw [HR.out]
            clear HR
            clear hxb hyb
            go_enter Try.func29, Try.ntmps29
            go_wp2_with fail
            refine (H1.out _).mono ?_
            rintro e w1 ⟨rfl, rfl⟩
            go_wp2_with fail
            refine (H2.out _).mono ?_
            rintro e w1 ⟨rfl, rfl⟩
            go_wp2_with fail
            exact bodyPost_ret (v := tkV b .more) (by simp [results, Try.results29, go_sem, tkV]) rfl ⟨rfl, by repeat (first | exact Below.refl _ _ | refine Below.drew ?_ | refine Below.setCell ?_ (by simp) _ | refine Below.alloc ?_ (by simp) _)⟩
          · have s2' : 2 < b.size := by omega
            clear s2
            obtain ⟨z, hz⟩ : ∃ z, b[2] = z := ⟨_, rfl⟩
            have hb2 : z.toNat < 256 := z.toNat_lt
            have HD3 : Hid (b.data.toList.drop 2 = z :: b.data.toList.drop 3) := by
              have := dl_at (b := b) (i := 2) (by omega)
              rw [hz] at this
              exact this
            by_cases h3 : b.size = 3 ∧ 128 ≤ z.toNat
            · have H1 : Hid (∀ w, Calls Try.prog 30 #[.int .i64 (x.toNat : Nat), .int .i64 1, .int .i64 5] w fun e w' => e = .returned (.bool true) ∧ w' = w) := fun w => by have := l1In_any x.toNat 1 5 w; rwa [show decide ((1 : Int) ≤ (x.toNat : Nat) ∧ ((x.toNat : Nat) : Int) ≤ 5) = true by simp; omega] at this
              have H2 : Hid (∀ w, Calls Try.prog 30 #[.int .i64 (y.toNat : Nat), .int .i64 1, .int .i64 4] w fun e w' => e = .returned (.bool true) ∧ w' = w) := fun w => by have := l1In_any y.toNat 1 4 w; rwa [show decide ((1 : Int) ≤ (y.toNat : Nat) ∧ ((y.toNat : Nat) : Int) ≤ 4) = true by simp; omega] at this
              have HR : Hid (tk b.data.toList = .more) := by
                show _ = _
                rw [HD2.out, tk, if_neg hxb, tkK, if_neg hyb, HD3.out, List.eq_nil_of_length_eq_zero (l := b.data.toList.drop 3) (by simp; omega), tkL, if_neg (by omega), tkM]
              rw [HR.out]
              clear HR
              clear hxb hyb
              obtain ⟨s3, hzz⟩ := h3
              have hzz' : (128 : Int) ≤ (z.toNat : Int) := by omega
              go_enter Try.func29, Try.ntmps29
              go_wp2_with fail
              refine (H1.out _).mono ?_
              rintro e w1 ⟨rfl, rfl⟩
              go_wp2_with fail
              refine (H2.out _).mono ?_
              rintro e w1 ⟨rfl, rfl⟩
              go_wp2_with fail
              exact bodyPost_ret (v := tkV b .more) (by simp [results, Try.results29, go_sem, tkV]) rfl ⟨rfl, by repeat (first | exact Below.refl _ _ | refine Below.drew ?_ | refine Below.setCell ?_ (by simp) _ | refine Below.alloc ?_ (by simp) _)⟩
            · have H1 : Hid (∀ w, Calls Try.prog 30 #[.int .i64 (x.toNat : Nat), .int .i64 1, .int .i64 5] w fun e w' => e = .returned (.bool true) ∧ w' = w) := fun w => by have := l1In_any x.toNat 1 5 w; rwa [show decide ((1 : Int) ≤ (x.toNat : Nat) ∧ ((x.toNat : Nat) : Int) ≤ 5) = true by simp; omega] at this
              have H2 : Hid (∀ w, Calls Try.prog 30 #[.int .i64 (y.toNat : Nat), .int .i64 1, .int .i64 4] w fun e w' => e = .returned (.bool true) ∧ w' = w) := fun w => by have := l1In_any y.toNat 1 4 w; rwa [show decide ((1 : Int) ≤ (y.toNat : Nat) ∧ ((y.toNat : Nat) : Int) ≤ 4) = true by simp; omega] at this
              obtain ⟨T, hT⟩ : ∃ T, b.extract 2 b.size = T := ⟨_, rfl⟩
              have hTd : T.data.toList = b.data.toList.drop 2 := by rw [← hT, ext_dl, List.take_of_length_le (by simp)]
              have hTs : T.size + 2 = b.size := by have := congrArg List.length hTd; simp at this; omega
              obtain ⟨g, hg⟩ : ∃ g, getVar T.data.toList = g := ⟨_, rfl⟩
              obtain ⟨n, h, o⟩ := g
              have HG : Hid (∀ w, Calls Try.prog 40 #[.string T] w fun e w' => e = .returned (.tuple #[.int .u64 n, .int .i64 h, .bool o]) ∧ Below w.heap.size w w') := fun w => by have := specGetVarint_any T w (by omega); rw [hg] at this; exact this
              have HV : Hid (tk b.data.toList = if o = false ∨ 1000 < n then .none else tkD x.toNat y.toNat n (2 + h) ((b.data.toList.drop 2).drop h)) := by
                show _ = _
                have hne : 0 < (b.data.toList.drop 2).length := by simp; omega
                have h3' : ∀ z', b.data.toList.drop 2 = [z'] → z'.toNat < 128 := by
                  intro z' e
                  rw [HD3.out] at e
                  have e2 := (List.cons.inj e).1
                  have e3 := congrArg List.length e
                  simp at e3
                  subst e2
                  omega
                have := tk_var (x := x) (y := y) hxb hyb hne h3'
                rw [← HD2.out, ← hTd, hg] at this
                rw [← hTd]
                exact this
              have hgb : o = true → 1 ≤ h ∧ h ≤ T.size := by
                intro e
                have := rd_h T.data.toList 0 0
                have e2 : rd 0 0 T.data.toList = (n, h, o) := hg
                rw [e2] at this
                have := this e
                simp at this
                omega
              clear HD2 HD3 hTd hg hxb hyb
              by_cases h3a : (b.size : Int) = 3
              · have h3b : ¬ (128 : Int) ≤ (z.toNat : Int) := by omega
                cases o with
                | false =>
                  have HR : Hid (tk b.data.toList = .none) := by
                    show _ = _
                    rw [HV.out, if_pos (.inl rfl)]
                  rw [HR.out]
                  clear HR
                  clear h3 hgb
                  go_enter Try.func29, Try.ntmps29
                  go_wp2_with fail
                  refine (H1.out _).mono ?_
                  rintro e w1 ⟨rfl, rfl⟩
                  go_wp2_with fail
                  refine (H2.out _).mono ?_
                  rintro e w1 ⟨rfl, rfl⟩
                  go_wp2_with fail
                  refine (HG.out _).mono ?_
                  rintro e w1 ⟨rfl, hb1⟩
                  have HB1 : Hid (Below w.heap.size w w1) := by show Below _ _ _; exact (bel1 w _).trans (hb1.mono (by simp))
                  have hN : w1.heap[w.heap.size]? = some (.cells #[.int .i64 0, .int .i64 0, .string ⟨#[]⟩] 26 (0, 0)) := by rw [hb1.block w.heap.size (by simp)]; exact heap_alloc_new w _
                  obtain ⟨c0, c1, c2, f0, f1, f2⟩ := tri_cells hN
                  have HN : Hid (w1.heap[w.heap.size]? = some (.cells #[.int .i64 0, .int .i64 0, .string ⟨#[]⟩] 26 (0, 0))) := hN
                  clear hN hb1
                  go_wp2_with fail
                  have hM := set3 (a := .int .i64 0) (b := .int .i64 0) (c := .string ⟨#[]⟩) HN.out
                  have HB2 : Hid (Below w.heap.size w (((w1.setCell ⟨w.heap.size, 0, none⟩ (.int .i64 0)).setCell ⟨w.heap.size, 1, none⟩ (.int .i64 0)).setCell ⟨w.heap.size, 2, none⟩ (.string ⟨#[]⟩))) := by show Below _ _ _; exact ((HB1.out.setCell (p := ⟨w.heap.size, 0, none⟩) (Nat.le_refl _) _).setCell (p := ⟨w.heap.size, 1, none⟩) (Nat.le_refl _) _).setCell (p := ⟨w.heap.size, 2, none⟩) (Nat.le_refl _) _
                  obtain ⟨W, hW⟩ : ∃ W, ((w1.setCell ⟨w.heap.size, 0, none⟩ (.int .i64 0)).setCell ⟨w.heap.size, 1, none⟩ (.int .i64 0)).setCell ⟨w.heap.size, 2, none⟩ (.string ⟨#[]⟩) = W := ⟨_, rfl⟩
                  rw [hW] at hM HB2 ⊢
                  obtain ⟨d0, d1, d2, _, _, _⟩ := tri_cells hM
                  exact bodyPost_ret (v := tkV b .none) (by simp [results, Try.results29, go_sem, tkV, d0, d1, d2]) rfl ⟨rfl, HB2.out⟩
                | true =>
                  by_cases hn : 1000 < n
                  · have hn1 : (1000 : Int) < (n : Int) := by omega
                    have HR : Hid (tk b.data.toList = .none) := by
                      show _ = _
                      rw [HV.out, if_pos (.inr hn)]
                    rw [HR.out]
                    clear HR
                    clear h3 hgb hn
                    go_enter Try.func29, Try.ntmps29
                    go_wp2_with fail
                    refine (H1.out _).mono ?_
                    rintro e w1 ⟨rfl, rfl⟩
                    go_wp2_with fail
                    refine (H2.out _).mono ?_
                    rintro e w1 ⟨rfl, rfl⟩
                    go_wp2_with fail
                    refine (HG.out _).mono ?_
                    rintro e w1 ⟨rfl, hb1⟩
                    have HB1 : Hid (Below w.heap.size w w1) := by show Below _ _ _; exact (bel1 w _).trans (hb1.mono (by simp))
                    have hN : w1.heap[w.heap.size]? = some (.cells #[.int .i64 0, .int .i64 0, .string ⟨#[]⟩] 26 (0, 0)) := by rw [hb1.block w.heap.size (by simp)]; exact heap_alloc_new w _
                    obtain ⟨c0, c1, c2, f0, f1, f2⟩ := tri_cells hN
                    have HN : Hid (w1.heap[w.heap.size]? = some (.cells #[.int .i64 0, .int .i64 0, .string ⟨#[]⟩] 26 (0, 0))) := hN
                    clear hN hb1
                    go_wp2_with fail
                    have hM := set3 (a := .int .i64 0) (b := .int .i64 0) (c := .string ⟨#[]⟩) HN.out
                    have HB2 : Hid (Below w.heap.size w (((w1.setCell ⟨w.heap.size, 0, none⟩ (.int .i64 0)).setCell ⟨w.heap.size, 1, none⟩ (.int .i64 0)).setCell ⟨w.heap.size, 2, none⟩ (.string ⟨#[]⟩))) := by show Below _ _ _; exact ((HB1.out.setCell (p := ⟨w.heap.size, 0, none⟩) (Nat.le_refl _) _).setCell (p := ⟨w.heap.size, 1, none⟩) (Nat.le_refl _) _).setCell (p := ⟨w.heap.size, 2, none⟩) (Nat.le_refl _) _
                    obtain ⟨W, hW⟩ : ∃ W, ((w1.setCell ⟨w.heap.size, 0, none⟩ (.int .i64 0)).setCell ⟨w.heap.size, 1, none⟩ (.int .i64 0)).setCell ⟨w.heap.size, 2, none⟩ (.string ⟨#[]⟩) = W := ⟨_, rfl⟩
                    rw [hW] at hM HB2 ⊢
                    obtain ⟨d0, d1, d2, _, _, _⟩ := tri_cells hM
                    exact bodyPost_ret (v := tkV b .none) (by simp [results, Try.results29, go_sem, tkV, d0, d1, d2]) rfl ⟨rfl, HB2.out⟩
                  · by_cases he : b.size < 2 + h + n
                    · obtain ⟨hh1, hh2⟩ := hgb rfl
                      have hn1 : ¬ (1000 : Int) < (n : Int) := by omega
                      have hend : (b.size : Int) < 2 + (h : Int) + (n : Int) := by omega
                      rw [h3a] at hend
                      have hn2 : n ≤ 1000 := by omega
                      have hh3 : h ≤ 1048576 := by omega
                      have HR : Hid (tk b.data.toList = .more) := by
                        show _ = _
                        rw [HV.out, if_neg (by simp; omega), tkD, if_pos (by simp; omega)]
                      rw [HR.out]
                      clear HR
                      clear h3 hgb hn he hh2
                      go_enter Try.func29, Try.ntmps29
                      go_wp2_with fail
                      refine (H1.out _).mono ?_
                      rintro e w1 ⟨rfl, rfl⟩
                      go_wp2_with fail
                      refine (H2.out _).mono ?_
                      rintro e w1 ⟨rfl, rfl⟩
                      go_wp2_with fail
                      refine (HG.out _).mono ?_
                      rintro e w1 ⟨rfl, hb1⟩
                      have HB1 : Hid (Below w.heap.size w w1) := by show Below _ _ _; exact (bel1 w _).trans (hb1.mono (by simp))
                      have hN : w1.heap[w.heap.size]? = some (.cells #[.int .i64 0, .int .i64 0, .string ⟨#[]⟩] 26 (0, 0)) := by rw [hb1.block w.heap.size (by simp)]; exact heap_alloc_new w _
                      obtain ⟨c0, c1, c2, f0, f1, f2⟩ := tri_cells hN
                      have HN : Hid (w1.heap[w.heap.size]? = some (.cells #[.int .i64 0, .int .i64 0, .string ⟨#[]⟩] 26 (0, 0))) := hN
                      clear hN hb1
                      go_wp2_with fail
                      have hM := set3 (a := .int .i64 0) (b := .int .i64 0) (c := .string ⟨#[]⟩) HN.out
                      have HB2 : Hid (Below w.heap.size w (((w1.setCell ⟨w.heap.size, 0, none⟩ (.int .i64 0)).setCell ⟨w.heap.size, 1, none⟩ (.int .i64 0)).setCell ⟨w.heap.size, 2, none⟩ (.string ⟨#[]⟩))) := by show Below _ _ _; exact ((HB1.out.setCell (p := ⟨w.heap.size, 0, none⟩) (Nat.le_refl _) _).setCell (p := ⟨w.heap.size, 1, none⟩) (Nat.le_refl _) _).setCell (p := ⟨w.heap.size, 2, none⟩) (Nat.le_refl _) _
                      obtain ⟨W, hW⟩ : ∃ W, ((w1.setCell ⟨w.heap.size, 0, none⟩ (.int .i64 0)).setCell ⟨w.heap.size, 1, none⟩ (.int .i64 0)).setCell ⟨w.heap.size, 2, none⟩ (.string ⟨#[]⟩) = W := ⟨_, rfl⟩
                      rw [hW] at hM HB2 ⊢
                      obtain ⟨d0, d1, d2, _, _, _⟩ := tri_cells hM
                      exact bodyPost_ret (v := tkV b .more) (by simp [results, Try.results29, go_sem, tkV, d0, d1, d2]) rfl ⟨rfl, HB2.out⟩
                    · obtain ⟨hh1, hh2⟩ := hgb rfl
                      have hn1 : ¬ (1000 : Int) < (n : Int) := by omega
                      have hn2 : n ≤ 1000 := by omega
                      have hh3 : h ≤ 1048576 := by omega
                      obtain ⟨p, hp⟩ : ∃ p, 2 + h = p := ⟨_, rfl⟩
                      obtain ⟨q, hq⟩ : ∃ q, p + n = q := ⟨_, rfl⟩
                      have e1 : (2 : Int) + (h : Int) = (p : Nat) := by omega
                      have e2 : (p : Int) + (n : Int) = (q : Nat) := by omega
                      have hend : ¬ (b.size : Int) < (q : Int) := by omega
                      rw [h3a] at hend
                      have hpq : p ≤ q := by omega
                      have hqb : q ≤ b.size := by omega
                      have hqb3 : q ≤ 3 := by omega
                      have hHV : tk b.data.toList = .whole x.toNat y.toNat n p := by
                        rw [HV.out, if_neg (by simp; omega), tkD, if_neg (by simp; omega), hp]
                      have HR : Hid (tkV b (tk b.data.toList) = .tuple #[.agg #[.int .i64 (x.toNat : Nat), .int .i64 (y.toNat : Nat), .string (b.extract p q)], .int .i64 (q : Nat), .int .i64 1]) := by
                        show _ = _
                        rw [hHV, tkV, hq]
                      rw [HR.out]
                      obtain ⟨D, hD⟩ : ∃ D, b.extract p q = D := ⟨_, rfl⟩
                      rw [hD]
                      clear h3 hgb hn he hh2 hHV HR hp hq
                      go_enter Try.func29, Try.ntmps29
                      go_wp2_with fail
                      refine (H1.out _).mono ?_
                      rintro e w1 ⟨rfl, rfl⟩
                      go_wp2_with fail
                      refine (H2.out _).mono ?_
                      rintro e w1 ⟨rfl, rfl⟩
                      go_wp2_with fail
                      refine (HG.out _).mono ?_
                      rintro e w1 ⟨rfl, hb1⟩
                      have HB1 : Hid (Below w.heap.size w w1) := by show Below _ _ _; exact (bel1 w _).trans (hb1.mono (by simp))
                      have hN : w1.heap[w.heap.size]? = some (.cells #[.int .i64 0, .int .i64 0, .string ⟨#[]⟩] 26 (0, 0)) := by rw [hb1.block w.heap.size (by simp)]; exact heap_alloc_new w _
                      obtain ⟨c0, c1, c2, f0, f1, f2⟩ := tri_cells hN
                      have HN : Hid (w1.heap[w.heap.size]? = some (.cells #[.int .i64 0, .int .i64 0, .string ⟨#[]⟩] 26 (0, 0))) := hN
                      clear hN hb1
                      go_wp2_with fail
                      go_region
                      go_wp2_with fail
                      have hM := set3 (a := .int .i64 (x.toNat : Nat)) (b := .int .i64 (y.toNat : Nat)) (c := .string D) HN.out
                      have HB2 : Hid (Below w.heap.size w (((w1.setCell ⟨w.heap.size, 0, none⟩ (.int .i64 (x.toNat : Nat))).setCell ⟨w.heap.size, 1, none⟩ (.int .i64 (y.toNat : Nat))).setCell ⟨w.heap.size, 2, none⟩ (.string D))) := by show Below _ _ _; exact ((HB1.out.setCell (p := ⟨w.heap.size, 0, none⟩) (Nat.le_refl _) _).setCell (p := ⟨w.heap.size, 1, none⟩) (Nat.le_refl _) _).setCell (p := ⟨w.heap.size, 2, none⟩) (Nat.le_refl _) _
                      obtain ⟨W, hW⟩ : ∃ W, ((w1.setCell ⟨w.heap.size, 0, none⟩ (.int .i64 (x.toNat : Nat))).setCell ⟨w.heap.size, 1, none⟩ (.int .i64 (y.toNat : Nat))).setCell ⟨w.heap.size, 2, none⟩ (.string D) = W := ⟨_, rfl⟩
                      rw [hW] at hM HB2 ⊢
                      obtain ⟨d0, d1, d2, _, _, _⟩ := tri_cells hM
                      exact bodyPost_ret (v := .tuple #[.agg #[.int .i64 (x.toNat : Nat), .int .i64 (y.toNat : Nat), .string D], .int .i64 (q : Nat), .int .i64 1]) (by simp [results, Try.results29, go_sem, d0, d1, d2]) rfl ⟨rfl, HB2.out.drew⟩
              · cases o with
                | false =>
                  have HR : Hid (tk b.data.toList = .none) := by
                    show _ = _
                    rw [HV.out, if_pos (.inl rfl)]
                  rw [HR.out]
                  clear HR
                  clear h3 hgb
                  go_enter Try.func29, Try.ntmps29
                  go_wp2_with fail
                  refine (H1.out _).mono ?_
                  rintro e w1 ⟨rfl, rfl⟩
                  go_wp2_with fail
                  refine (H2.out _).mono ?_
                  rintro e w1 ⟨rfl, rfl⟩
                  go_wp2_with fail
                  refine (HG.out _).mono ?_
                  rintro e w1 ⟨rfl, hb1⟩
                  have HB1 : Hid (Below w.heap.size w w1) := by show Below _ _ _; exact (bel1 w _).trans (hb1.mono (by simp))
                  have hN : w1.heap[w.heap.size]? = some (.cells #[.int .i64 0, .int .i64 0, .string ⟨#[]⟩] 26 (0, 0)) := by rw [hb1.block w.heap.size (by simp)]; exact heap_alloc_new w _
                  obtain ⟨c0, c1, c2, f0, f1, f2⟩ := tri_cells hN
                  have HN : Hid (w1.heap[w.heap.size]? = some (.cells #[.int .i64 0, .int .i64 0, .string ⟨#[]⟩] 26 (0, 0))) := hN
                  clear hN hb1
                  go_wp2_with fail
                  have hM := set3 (a := .int .i64 0) (b := .int .i64 0) (c := .string ⟨#[]⟩) HN.out
                  have HB2 : Hid (Below w.heap.size w (((w1.setCell ⟨w.heap.size, 0, none⟩ (.int .i64 0)).setCell ⟨w.heap.size, 1, none⟩ (.int .i64 0)).setCell ⟨w.heap.size, 2, none⟩ (.string ⟨#[]⟩))) := by show Below _ _ _; exact ((HB1.out.setCell (p := ⟨w.heap.size, 0, none⟩) (Nat.le_refl _) _).setCell (p := ⟨w.heap.size, 1, none⟩) (Nat.le_refl _) _).setCell (p := ⟨w.heap.size, 2, none⟩) (Nat.le_refl _) _
                  obtain ⟨W, hW⟩ : ∃ W, ((w1.setCell ⟨w.heap.size, 0, none⟩ (.int .i64 0)).setCell ⟨w.heap.size, 1, none⟩ (.int .i64 0)).setCell ⟨w.heap.size, 2, none⟩ (.string ⟨#[]⟩) = W := ⟨_, rfl⟩
                  rw [hW] at hM HB2 ⊢
                  obtain ⟨d0, d1, d2, _, _, _⟩ := tri_cells hM
                  exact bodyPost_ret (v := tkV b .none) (by simp [results, Try.results29, go_sem, tkV, d0, d1, d2]) rfl ⟨rfl, HB2.out⟩
                | true =>
                  by_cases hn : 1000 < n
                  · have hn1 : (1000 : Int) < (n : Int) := by omega
                    have HR : Hid (tk b.data.toList = .none) := by
                      show _ = _
                      rw [HV.out, if_pos (.inr hn)]
                    rw [HR.out]
                    clear HR
                    clear h3 hgb hn
                    go_enter Try.func29, Try.ntmps29
                    go_wp2_with fail
                    refine (H1.out _).mono ?_
                    rintro e w1 ⟨rfl, rfl⟩
                    go_wp2_with fail
                    refine (H2.out _).mono ?_
                    rintro e w1 ⟨rfl, rfl⟩
                    go_wp2_with fail
                    refine (HG.out _).mono ?_
                    rintro e w1 ⟨rfl, hb1⟩
                    have HB1 : Hid (Below w.heap.size w w1) := by show Below _ _ _; exact (bel1 w _).trans (hb1.mono (by simp))
                    have hN : w1.heap[w.heap.size]? = some (.cells #[.int .i64 0, .int .i64 0, .string ⟨#[]⟩] 26 (0, 0)) := by rw [hb1.block w.heap.size (by simp)]; exact heap_alloc_new w _
                    obtain ⟨c0, c1, c2, f0, f1, f2⟩ := tri_cells hN
                    have HN : Hid (w1.heap[w.heap.size]? = some (.cells #[.int .i64 0, .int .i64 0, .string ⟨#[]⟩] 26 (0, 0))) := hN
                    clear hN hb1
                    go_wp2_with fail
                    have hM := set3 (a := .int .i64 0) (b := .int .i64 0) (c := .string ⟨#[]⟩) HN.out
                    have HB2 : Hid (Below w.heap.size w (((w1.setCell ⟨w.heap.size, 0, none⟩ (.int .i64 0)).setCell ⟨w.heap.size, 1, none⟩ (.int .i64 0)).setCell ⟨w.heap.size, 2, none⟩ (.string ⟨#[]⟩))) := by show Below _ _ _; exact ((HB1.out.setCell (p := ⟨w.heap.size, 0, none⟩) (Nat.le_refl _) _).setCell (p := ⟨w.heap.size, 1, none⟩) (Nat.le_refl _) _).setCell (p := ⟨w.heap.size, 2, none⟩) (Nat.le_refl _) _
                    obtain ⟨W, hW⟩ : ∃ W, ((w1.setCell ⟨w.heap.size, 0, none⟩ (.int .i64 0)).setCell ⟨w.heap.size, 1, none⟩ (.int .i64 0)).setCell ⟨w.heap.size, 2, none⟩ (.string ⟨#[]⟩) = W := ⟨_, rfl⟩
                    rw [hW] at hM HB2 ⊢
                    obtain ⟨d0, d1, d2, _, _, _⟩ := tri_cells hM
                    exact bodyPost_ret (v := tkV b .none) (by simp [results, Try.results29, go_sem, tkV, d0, d1, d2]) rfl ⟨rfl, HB2.out⟩
                  · by_cases he : b.size < 2 + h + n
                    · obtain ⟨hh1, hh2⟩ := hgb rfl
                      have hn1 : ¬ (1000 : Int) < (n : Int) := by omega
                      have hend : (b.size : Int) < 2 + (h : Int) + (n : Int) := by omega
                      have hn2 : n ≤ 1000 := by omega
                      have hh3 : h ≤ 1048576 := by omega
                      have HR : Hid (tk b.data.toList = .more) := by
                        show _ = _
                        rw [HV.out, if_neg (by simp; omega), tkD, if_pos (by simp; omega)]
                      rw [HR.out]
                      clear HR
                      clear h3 hgb hn he hh2
                      go_enter Try.func29, Try.ntmps29
                      go_wp2_with fail
                      refine (H1.out _).mono ?_
                      rintro e w1 ⟨rfl, rfl⟩
                      go_wp2_with fail
                      refine (H2.out _).mono ?_
                      rintro e w1 ⟨rfl, rfl⟩
                      go_wp2_with fail
                      refine (HG.out _).mono ?_
                      rintro e w1 ⟨rfl, hb1⟩
                      have HB1 : Hid (Below w.heap.size w w1) := by show Below _ _ _; exact (bel1 w _).trans (hb1.mono (by simp))
                      have hN : w1.heap[w.heap.size]? = some (.cells #[.int .i64 0, .int .i64 0, .string ⟨#[]⟩] 26 (0, 0)) := by rw [hb1.block w.heap.size (by simp)]; exact heap_alloc_new w _
                      obtain ⟨c0, c1, c2, f0, f1, f2⟩ := tri_cells hN
                      have HN : Hid (w1.heap[w.heap.size]? = some (.cells #[.int .i64 0, .int .i64 0, .string ⟨#[]⟩] 26 (0, 0))) := hN
                      clear hN hb1
                      go_wp2_with fail
                      have hM := set3 (a := .int .i64 0) (b := .int .i64 0) (c := .string ⟨#[]⟩) HN.out
                      have HB2 : Hid (Below w.heap.size w (((w1.setCell ⟨w.heap.size, 0, none⟩ (.int .i64 0)).setCell ⟨w.heap.size, 1, none⟩ (.int .i64 0)).setCell ⟨w.heap.size, 2, none⟩ (.string ⟨#[]⟩))) := by show Below _ _ _; exact ((HB1.out.setCell (p := ⟨w.heap.size, 0, none⟩) (Nat.le_refl _) _).setCell (p := ⟨w.heap.size, 1, none⟩) (Nat.le_refl _) _).setCell (p := ⟨w.heap.size, 2, none⟩) (Nat.le_refl _) _
                      obtain ⟨W, hW⟩ : ∃ W, ((w1.setCell ⟨w.heap.size, 0, none⟩ (.int .i64 0)).setCell ⟨w.heap.size, 1, none⟩ (.int .i64 0)).setCell ⟨w.heap.size, 2, none⟩ (.string ⟨#[]⟩) = W := ⟨_, rfl⟩
                      rw [hW] at hM HB2 ⊢
                      obtain ⟨d0, d1, d2, _, _, _⟩ := tri_cells hM
                      exact bodyPost_ret (v := tkV b .more) (by simp [results, Try.results29, go_sem, tkV, d0, d1, d2]) rfl ⟨rfl, HB2.out⟩
                    · obtain ⟨hh1, hh2⟩ := hgb rfl
                      have hn1 : ¬ (1000 : Int) < (n : Int) := by omega
                      have hn2 : n ≤ 1000 := by omega
                      have hh3 : h ≤ 1048576 := by omega
                      obtain ⟨p, hp⟩ : ∃ p, 2 + h = p := ⟨_, rfl⟩
                      obtain ⟨q, hq⟩ : ∃ q, p + n = q := ⟨_, rfl⟩
                      have e1 : (2 : Int) + (h : Int) = (p : Nat) := by omega
                      have e2 : (p : Int) + (n : Int) = (q : Nat) := by omega
                      have hend : ¬ (b.size : Int) < (q : Int) := by omega
                      have hpq : p ≤ q := by omega
                      have hqb : q ≤ b.size := by omega
                      have hHV : tk b.data.toList = .whole x.toNat y.toNat n p := by
                        rw [HV.out, if_neg (by simp; omega), tkD, if_neg (by simp; omega), hp]
                      have HR : Hid (tkV b (tk b.data.toList) = .tuple #[.agg #[.int .i64 (x.toNat : Nat), .int .i64 (y.toNat : Nat), .string (b.extract p q)], .int .i64 (q : Nat), .int .i64 1]) := by
                        show _ = _
                        rw [hHV, tkV, hq]
                      rw [HR.out]
                      obtain ⟨D, hD⟩ : ∃ D, b.extract p q = D := ⟨_, rfl⟩
                      rw [hD]
                      clear h3 hgb hn he hh2 hHV HR hp hq
                      go_enter Try.func29, Try.ntmps29
                      go_wp2_with fail
                      refine (H1.out _).mono ?_
                      rintro e w1 ⟨rfl, rfl⟩
                      go_wp2_with fail
                      refine (H2.out _).mono ?_
                      rintro e w1 ⟨rfl, rfl⟩
                      go_wp2_with fail
                      refine (HG.out _).mono ?_
                      rintro e w1 ⟨rfl, hb1⟩
                      have HB1 : Hid (Below w.heap.size w w1) := by show Below _ _ _; exact (bel1 w _).trans (hb1.mono (by simp))
                      have hN : w1.heap[w.heap.size]? = some (.cells #[.int .i64 0, .int .i64 0, .string ⟨#[]⟩] 26 (0, 0)) := by rw [hb1.block w.heap.size (by simp)]; exact heap_alloc_new w _
                      obtain ⟨c0, c1, c2, f0, f1, f2⟩ := tri_cells hN
                      have HN : Hid (w1.heap[w.heap.size]? = some (.cells #[.int .i64 0, .int .i64 0, .string ⟨#[]⟩] 26 (0, 0))) := hN
                      clear hN hb1
                      go_wp2_with fail
                      go_region
                      go_wp2_with fail
                      have hM := set3 (a := .int .i64 (x.toNat : Nat)) (b := .int .i64 (y.toNat : Nat)) (c := .string D) HN.out
                      have HB2 : Hid (Below w.heap.size w (((w1.setCell ⟨w.heap.size, 0, none⟩ (.int .i64 (x.toNat : Nat))).setCell ⟨w.heap.size, 1, none⟩ (.int .i64 (y.toNat : Nat))).setCell ⟨w.heap.size, 2, none⟩ (.string D))) := by show Below _ _ _; exact ((HB1.out.setCell (p := ⟨w.heap.size, 0, none⟩) (Nat.le_refl _) _).setCell (p := ⟨w.heap.size, 1, none⟩) (Nat.le_refl _) _).setCell (p := ⟨w.heap.size, 2, none⟩) (Nat.le_refl _) _
                      obtain ⟨W, hW⟩ : ∃ W, ((w1.setCell ⟨w.heap.size, 0, none⟩ (.int .i64 (x.toNat : Nat))).setCell ⟨w.heap.size, 1, none⟩ (.int .i64 (y.toNat : Nat))).setCell ⟨w.heap.size, 2, none⟩ (.string D) = W := ⟨_, rfl⟩
                      rw [hW] at hM HB2 ⊢
                      obtain ⟨d0, d1, d2, _, _, _⟩ := tri_cells hM
                      exact bodyPost_ret (v := .tuple #[.agg #[.int .i64 (x.toNat : Nat), .int .i64 (y.toNat : Nat), .string D], .int .i64 (q : Nat), .int .i64 1]) (by simp [results, Try.results29, go_sem, d0, d1, d2]) rfl ⟨rfl, HB2.out.drew⟩
end Go.Proofs.Ytbepiebcpcjpcaa
