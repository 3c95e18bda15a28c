/- The specification's functions on values: what fits, which parts there are. -/
import Derived.Test.YtepffjfgomhepaaGreatDoorS3f
namespace Go.Proofs.YtepffjfgomhepaaGreatDoor
open Go.RowKit Go.Sort
set_option linter.unusedVariables false
theorem bel2 (w : World) (o o' : Obj) : Below w.heap.size w ((w.alloc o).alloc o') := ((Below.refl _ _).alloc (Nat.le_refl _) _).alloc (by simp) _
theorem fitsI_mk {k n : Int} {x : It} (h : x.k = k) : fitsI k n x = (fitsN k n x.n && fitsS k n x.s.size) := by simp [fitsI, h]
theorem fitsI_no {k n : Int} {x : It} (h : x.k ≠ k) : fitsI k n x = false := by simp [fitsI, h]
set_option maxRecDepth 100000 in
set_option maxHeartbeats 2000000 in
theorem l3Fits_any (k n : Int) (x : It) (w : World) (hok : tyOk k n = true) (hm : x.n < 18446744073709551616) (hs : x.s.size ≤ 1048577) : Calls Tryz.prog 51 #[.agg #[.int .i64 k, .int .i64 n], .agg #[.int .i64 x.k, .int .u64 x.n, .string x.s]] w fun e w' => e = .returned (.bool (fitsI k n x)) ∧ Below w.heap.size w w' := by
  by_cases hx : x.k = k
  · rw [fitsI_mk hx, hx]
    obtain ⟨xk, m, s⟩ := x
    simp only at hx hm hs ⊢
    subst hx
    simp only [tyOk, decide_eq_true_eq] at hok
    have hk : xk = 1 ∨ xk = 2 ∨ xk = 3 ∨ xk = 4 ∨ xk = 5 ∨ xk = 6 ∨ xk = 7 ∨ xk = 8 ∨ xk = 9 := by omega
    have hse := str_empty s
    rcases hk with rfl | hk
    · have hn : n = 8 ∨ n = 16 ∨ n = 32 ∨ n = 64 := by omega
      have hnn : ∃ q : Nat, q ≤ 8 ∧ n = 8 * (q : Int) := by
        rcases hn with rfl | rfl | rfl | rfl
        · exact ⟨1, by omega, by omega⟩
        · exact ⟨2, by omega, by omega⟩
        · exact ⟨4, by omega, by omega⟩
        · exact ⟨8, by omega, by omega⟩
      have HF : Hid (∀ w, ∀ q : Nat, q ≤ 8 → n = 8 * (q : Int) → Calls Tryz.prog 77 #[.int .u64 m, .int .i64 q] w fun e w' => e = .returned (.bool (fitsN 1 n m)) ∧ w' = w) := fun w q hq hnq => by
        have := l1Fits_any m q w hq hm
        have e : fitsN 1 n m = decide (m < 2 ^ (8 * q)) := by rw [fitsN_1, show n.toNat = 8 * q by omega]
        rwa [← e] at this
      have hfs : fitsS 1 n s.size = s.toList.isEmpty := by rw [fitsS_rest (by decide) (by decide), hse]
      have HFS : Hid (fitsS 1 n s.size = s.toList.isEmpty) := hfs
      obtain ⟨fn, hfn⟩ : ∃ fn, fitsN 1 n m = fn := ⟨_, rfl⟩
      rw [hfn] at HF ⊢
      rw [hfs]
      clear hok hse hfs hfn hnn
      cases hE : s.toList.isEmpty with
      | false =>
        clear hn
        go_enter Tryz.func51, Tryz.ntmps51
        go_wp2_with fail
        go_ret
        exact ⟨ret_b (by simp), bel2 _ _ _⟩
      | true =>
        rcases hn with rfl | rfl | rfl | rfl
        · have HG : Hid (∀ w, Calls Tryz.prog 77 #[.int .u64 m, .int .i64 1] w fun e w' => e = .returned (.bool fn) ∧ w' = w) := fun w => HF.out w 1 (by omega) (by omega)
          clear HF
          go_enter Tryz.func51, Tryz.ntmps51
          go_wp2_with fail
          refine (HG.out _).mono ?_
          rintro e w2 ⟨rfl, rfl⟩
          go_wp2_with fail
          go_ret
          exact ⟨ret_b (by simp), bel2 _ _ _⟩
        · have HG : Hid (∀ w, Calls Tryz.prog 77 #[.int .u64 m, .int .i64 2] w fun e w' => e = .returned (.bool fn) ∧ w' = w) := fun w => HF.out w 2 (by omega) (by omega)
          clear HF
          go_enter Tryz.func51, Tryz.ntmps51
          go_wp2_with fail
          refine (HG.out _).mono ?_
          rintro e w2 ⟨rfl, rfl⟩
          go_wp2_with fail
          go_ret
          exact ⟨ret_b (by simp), bel2 _ _ _⟩
        · have HG : Hid (∀ w, Calls Tryz.prog 77 #[.int .u64 m, .int .i64 4] w fun e w' => e = .returned (.bool fn) ∧ w' = w) := fun w => HF.out w 4 (by omega) (by omega)
          clear HF
          go_enter Tryz.func51, Tryz.ntmps51
          go_wp2_with fail
          refine (HG.out _).mono ?_
          rintro e w2 ⟨rfl, rfl⟩
          go_wp2_with fail
          go_ret
          exact ⟨ret_b (by simp), bel2 _ _ _⟩
        · have HG : Hid (∀ w, Calls Tryz.prog 77 #[.int .u64 m, .int .i64 8] w fun e w' => e = .returned (.bool fn) ∧ w' = w) := fun w => HF.out w 8 (by omega) (by omega)
          clear HF
          go_enter Tryz.func51, Tryz.ntmps51
          go_wp2_with fail
          refine (HG.out _).mono ?_
          rintro e w2 ⟨rfl, rfl⟩
          go_wp2_with fail
          go_ret
          exact ⟨ret_b (by simp), bel2 _ _ _⟩
    · have hn : 0 ≤ n ∧ n ≤ 200 := by omega
      obtain ⟨N, rfl⟩ := Int.eq_ofNat_of_zero_le hn.1
      clear hok
      rcases hk with rfl | rfl | rfl | rfl | rfl | rfl | rfl | rfl
      all_goals
        have HSE : Hid (s.toList.isEmpty = decide (s.size = 0)) := hse
        clear hse
        obtain ⟨b, hE⟩ : ∃ b, s.toList.isEmpty = b := ⟨_, rfl⟩
        have HZ : Hid (decide (s.size = 0) = b) := by show _ = _; rw [← HSE.out]; exact hE
        clear HSE
        cases b
        all_goals
          by_cases hm0 : m = 0
          · subst hm0
            go_enter Tryz.func51, Tryz.ntmps51
            go_wp2_with fail
            go_ret
            exact ⟨ret_b (by have hz := HZ.out; clear HZ hE; simp at hz; simp [fitsN, fitsS, beq_dec, hz] <;> first | done | omega), bel2 _ _ _⟩
          · have hm1 : ((m : Int) == 0) = false := beqF (by omega)
            go_enter Tryz.func51, Tryz.ntmps51
            go_wp2_with fail
            go_ret
            exact ⟨ret_b (by have hz := HZ.out; clear HZ hE; simp at hz; simp [fitsN, fitsS, beq_dec, hz, hm0] <;> first | done | omega), bel2 _ _ _⟩
  · rw [fitsI_no hx]
    have hq : (x.k != k) = true := by rw [bne_iff_ne]; exact hx
    clear hok
    go_enter Tryz.func51, Tryz.ntmps51
    go_wp2_with fail
    go_ret
    exact ⟨rfl, bel2 _ _ _⟩
end Go.Proofs.YtepffjfgomhepaaGreatDoor
