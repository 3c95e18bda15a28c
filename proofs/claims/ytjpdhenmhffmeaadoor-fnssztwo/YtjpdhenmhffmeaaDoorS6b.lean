/- How many bytes the values of a schema have in SSZ: contracts, both sides. -/
import Derived.Test.YtjpdhenmhffmeaaDoorS2h
import Derived.Test.YtjpdhenmhffmeaaDoorS6a
import Derived.Lib.QuietBelow
import Derived.BigQuiet
namespace Go.Proofs.YtjpdhenmhffmeaaDoor
open Go.RowKit Go.Sort
set_option linter.unusedVariables false
theorem TreeAt.openK {ts : List (Int × Int)} {f u a : Nat} {w : World} {S : Nat → Prop} (h : TreeAt ts (f + 1) w S u a) : ∃ (ha : a < ts.length) (e : Nat) (ad : Option Addr) (cap : Nat),
    tyOk ts[a].1 ts[a].2 = true ∧ iter (en ts f) (a + 1) (kids ts[a].1 ts[a].2) = some e ∧ S u ∧ w.cell? ⟨u, 0, none⟩ = some (.int .i64 ts[a].1) ∧ w.cell? ⟨u, 1, none⟩ = some (.int .i64 ts[a].2) ∧
    w.cell? ⟨u, 5, none⟩ = some (.slice ad (kids ts[a].1 ts[a].2) cap) ∧ kids ts[a].1 ts[a].2 ≤ cap ∧ cap ≤ maxLen ∧
      (kids ts[a].1 ts[a].2 = 0 ∨ ∃ g, ad = some ⟨g, 0, none⟩ ∧ S g ∧ ∀ j, j < kids ts[a].1 ts[a].2 → ∃ c p, iter (en ts f) (a + 1) j = some p ∧ w.cell? ⟨g, j, none⟩ = some (.pointer (some ⟨c, 0, none⟩)) ∧ TreeAt ts f w S c p) := by
  obtain ⟨hu, ha, e, ad, cap, h1, h2, c0, c1, c2, c3, c4, c5, h3, h4, h5⟩ := h
  refine ⟨ha, e, ad, cap, h1, by rw [← en_ok ha h1]; exact h2, hu, c0, c1, c5, h3, h4, ?_⟩
  rcases h5 with h5 | ⟨g, hg, hS, hk⟩
  · exact .inl h5
  · exact .inr ⟨g, hg, hS, hk⟩
theorem TreeAt.belK {ts : List (Int × Int)} {f u a : Nat} {w w' : World} {S : Nat → Prop} (h : TreeAt ts f w S u a) (hS : ∀ c, S c → c < w.heap.size) (hb : Below w.heap.size w w') : TreeAt ts f w' S u a :=
  h.keep (fun _ h => h) (fun c hc => hb.block c (hS c hc))
theorem kids_one {k n : Int} (h : k = 5 ∨ k = 6 ∨ k = 8) : kids k n = 1 := by unfold kids; rw [if_pos h]
theorem kids_leaf {k n : Int} (h : k = 1 ∨ k = 2 ∨ k = 3 ∨ k = 4) : kids k n = 0 := by unfold kids; rw [if_neg (by omega), if_neg (by omega)]
set_option maxHeartbeats 2000000 in
theorem l5Size_any (ts : List (Int × Int)) : ∀ (f a e : Nat) (v : Value) (w : World), f ≤ 7 → en ts f a = some e → IsTyps w.heap.size w v ts →
    Calls Tryd.prog 51 #[v, .int .i64 a] w fun e' w' => e' = .returned (.int .i64 (szT ts f a)) ∧ Below w.heap.size w w' := by
  intro f
  induction f with
  | zero => intro a e v w _ h; cases h
  | succ f ih =>
    intro a e v w hf he hv
    obtain ⟨ha, hok, hit⟩ := en_inv he
    obtain ⟨b, o, cap, hv', hb, h1, h2, c0, c1⟩ := hv.at ha
    have hsm := hv.small
    have HIH : Hid (∀ (a e : Nat) (v : Value) (w : World), f ≤ 7 → en ts f a = some e → IsTyps w.heap.size w v ts → Calls Tryd.prog 51 #[v, .int .i64 a] w fun e' w' => e' = .returned (.int .i64 (szT ts f a)) ∧ Below w.heap.size w w') := ih
    have HV : Hid (IsTyps w.heap.size w v ts) := hv
    have HR0 := szT_at (f := f) ha hok
    have hkl := kids_le hok
    clear ih hv he
    generalize ts[a].1 = k at *
    generalize ts[a].2 = n at *
    subst hv'
    unfold maxLen at h2
    simp only [tyOk, decide_eq_true_eq] at hok
    by_cases hleaf : k = 3 ∨ k = 5 ∨ k = 8 ∨ k = 9
    · have HR : Hid (szT ts (f + 1) a = -1) := by
        show _ = _
        rw [HR0, if_neg (by omega), if_neg (by omega), if_neg (by omega), if_neg (by omega)]
      clear HR0 hit HIH hok
      rcases hleaf with rfl | rfl | rfl | rfl
      all_goals
        go_enter Tryd.func51, Tryd.ntmps51
        go_wp2_with fail
        go_ret
        exact ⟨by rw [HR.out]; try rfl, bel1 _ _⟩
    by_cases hk1 : k = 1
    · subst hk1
      have HR : Hid (szT ts (f + 1) a = n / 8) := by show _ = _; rw [HR0, if_pos rfl]
      have hn : n = 8 ∨ n = 16 ∨ n = 32 ∨ n = 64 := by omega
      clear HR0 hit HIH hok hleaf
      rcases hn with rfl | rfl | rfl | rfl
      all_goals
        go_enter Tryd.func51, Tryd.ntmps51
        go_wp2_with fail
        go_ret
        exact ⟨by rw [HR.out]; try rfl, bel1 _ _⟩
    by_cases hk2 : k = 2
    · subst hk2
      have HR : Hid (szT ts (f + 1) a = 1) := by show _ = _; rw [HR0, if_neg (by omega), if_pos rfl]
      clear HR0 hit HIH hok hleaf hk1
      go_enter Tryd.func51, Tryd.ntmps51
      go_wp2_with fail
      go_ret
      exact ⟨by rw [HR.out]; try rfl, bel1 _ _⟩
    by_cases hk4 : k = 4
    · subst hk4
      have HR : Hid (szT ts (f + 1) a = n) := by show _ = _; rw [HR0, if_neg (by omega), if_neg (by omega), if_pos rfl]
      clear HR0 hit HIH hok hleaf hk1 hk2
      go_enter Tryd.func51, Tryd.ntmps51
      go_wp2_with fail
      go_ret
      exact ⟨by rw [HR.out]; try rfl, bel1 _ _⟩
    have hk67 : k = 6 ∨ k = 7 := by omega
    rcases hk67 with rfl | rfl
    · have hn8 : 1 ≤ n ∧ n ≤ 8 := by omega
      have hkd : kids 6 n = 1 := kids_one (by omega)
      rw [hkd] at hit HR0
      have hen : en ts f (a + 1) = some e := by simpa [iter_succ, iter_zero] using hit
      have hsz := szT_small (ts := ts) (f := f) (a := a + 1) (by omega)
      have hx : addTo (en ts f) (szT ts f) (a + 1) 1 = if szT ts f (a + 1) < 0 then -1 else szT ts f (a + 1) := by
        simp [addTo, iter_zero]
      rw [hx] at HR0
      have HC : Hid (∀ w', Below w.heap.size w w' → Calls Tryd.prog 51 #[.slice (some ⟨b, o, none⟩) ts.length cap, .int .i64 ((a : Int) + 1)] w' fun e' w'' => e' = .returned (.int .i64 (szT ts f (a + 1))) ∧ Below w'.heap.size w' w'') := fun w' hb' => by
        have h := HIH.out (a + 1) e (.slice (some ⟨b, o, none⟩) ts.length cap) w' (by omega) hen ((HV.out.below hb').up hb'.size)
        rwa [show ((a + 1 : Nat) : Int) = (a : Int) + 1 by omega] at h
      clear hit HIH hok hleaf hk1 hk2 hk4 hx hen hkd hkl
      generalize szT ts f (a + 1) = x at *
      by_cases hx0 : x < 0
      · have HR : Hid (szT ts (f + 1) a = -1) := by
          show _ = _
          rw [HR0, if_neg (by omega), if_neg (by omega), if_neg (by omega), if_pos (by omega), if_pos hx0, if_pos (by omega)]
        clear HR0
        go_enter Tryd.func51, Tryd.ntmps51
        go_wp2_with fail
        refine (HC.out _ (bel1 _ _)).mono ?_
        rintro e' w' ⟨rfl, hb'⟩
        go_wp2_with fail
        go_ret
        exact ⟨by rw [HR.out]; try rfl, (bel1 _ _).trans (hb'.mono (by simp))⟩
      · have HR : Hid (szT ts (f + 1) a = n * x) := by
          show _ = _
          rw [HR0, if_neg (by omega), if_neg (by omega), if_neg (by omega), if_pos (by omega), if_neg hx0, if_neg hx0, if_pos rfl, Int.mul_comm]
        have hmul : 0 ≤ n * x ∧ n * x ≤ 1073741824 := by
          have : n = 1 ∨ n = 2 ∨ n = 3 ∨ n = 4 ∨ n = 5 ∨ n = 6 ∨ n = 7 ∨ n = 8 := by omega
          rcases this with rfl | rfl | rfl | rfl | rfl | rfl | rfl | rfl <;> omega
        have hwr : wrap64 (n * x) = n * x := by unfold wrap64; omega
        clear HR0
        go_enter Tryd.func51, Tryd.ntmps51
        go_wp2_with fail
        refine (HC.out _ (bel1 _ _)).mono ?_
        rintro e' w' ⟨rfl, hb'⟩
        have d1 : w'.cell? ⟨w.heap.size, 1, none⟩ = some (.int .i64 n) := by
          rw [hb'.cell (by simp)]; simp
        go_wp2_with fail
        go_ret
        exact ⟨by rw [HR.out]; try rfl, (bel1 _ _).trans (hb'.mono (by simp))⟩
    · have hn6 : 1 ≤ n ∧ n ≤ 6 := by omega
      obtain ⟨K, hKn⟩ : ∃ K : Nat, n = K := ⟨n.toNat, by omega⟩
      subst hKn
      have hkd : kids 7 (K : Int) = K := by simp [kids]
      rw [hkd] at hit HR0
      have HIT : Hid (iter (en ts f) (a + 1) K = some e) := hit
      have HR0' : Hid (szT ts (f + 1) a = if addTo (en ts f) (szT ts f) (a + 1) K < 0 then -1 else addTo (en ts f) (szT ts f) (a + 1) K) := by
        show _ = _
        rw [HR0, if_neg (by omega), if_neg (by omega), if_neg (by omega), if_pos (by omega), if_neg (show ¬ (7 : Int) = 6 by omega)]; simp
      have HA : Hid (∀ j, addTo (en ts f) (szT ts f) (a + 1) j ≤ j * 134217728) := fun j => (addTo_range (B := 134217728) (by omega) (fun b => (szT_small (by omega)).2) j).2
      clear HR0 hit hok hleaf hk1 hk2 hk4 hkl hkd
      go_enter Tryd.func51, Tryd.ntmps51
      go_wp2_with fail
      go_loopg [7, 8, 9] K (fun gk s p i wr => ∃ j x : Nat, j + gk = K ∧ i = .int .i64 j ∧ p = .int .i64 x ∧ iter (en ts f) (a + 1) j = some x ∧ s = .int .i64 (addTo (en ts f) (szT ts f) (a + 1) j) ∧ 0 ≤ addTo (en ts f) (szT ts f) (a + 1) j ∧ Below (w.heap.size + 1) (w.alloc (.cells #[.int .i64 7, .int .i64 K] 37)) wr)
      case atStart => exact ⟨0, a + 1, by omega, rfl, by go_num, rfl, rfl, by simp [addTo], Below.refl _ _⟩
      case round =>
        obtain ⟨j, x, hj', rfl, rfl, hx, rfl, hs0, hb⟩ := hrel
        have HJ : Hid (j + gk = K) := hj'
        have hj : j ≤ K := by omega
        have HX : Hid (iter (en ts f) (a + 1) j = some x) := hx
        have HB : Hid (Below (w.heap.size + 1) (w.alloc (.cells #[.int .i64 7, .int .i64 K] 37)) wr) := hb
        have d1 : wr.cell? ⟨w.heap.size, 1, none⟩ = some (.int .i64 K) := by
          rw [hb.cell (by simp)]; simp
        have hup : addTo (en ts f) (szT ts f) (a + 1) j ≤ 805306368 := by have := HA.out j; omega
        clear hj' hb
        by_cases hlt : j < K
        · obtain ⟨y, hy⟩ := iter_part HIT.out (show j + 1 ≤ K by omega)
          have hxy : en ts f x = some y := by rw [iter_succ, hx] at hy; exact hy
          have hxl := en_lt hxy
          have hsz := szT_small (ts := ts) (f := f) (a := x) (by omega)
          have hB2 : Below w.heap.size w wr := (bel1 _ _).trans (HB.out.mono (by omega))
          have HC : Hid (Calls Tryd.prog 51 #[.slice (some ⟨b, o, none⟩) ts.length cap, .int .i64 x] wr fun e' w'' => e' = .returned (.int .i64 (szT ts f x)) ∧ Below wr.heap.size wr w'') := HIH.out x y _ wr (by omega) hxy ((HV.out.below hB2).up hB2.size)
          have HSK : Hid (∀ w', Below w.heap.size w w' → Calls Tryd.prog 68 #[.slice (some ⟨b, o, none⟩) ts.length cap, .int .i64 x] w' fun e w'' => e = .returned (.int .i64 y) ∧ Below w'.heap.size w' w'') := fun w' hb' => by
            have := l2Skip_any ts x (.slice (some ⟨b, o, none⟩) ts.length cap) w' (by omega) ((HV.out.below hb').up hb'.size)
            rw [en_mono (show f ≤ 7 by omega) hxy] at this
            exact this
          have HY : Hid (iter (en ts f) (a + 1) (j + 1) = some y) := hy
          have HAN : Hid (szT ts f x < 0 → addTo (en ts f) (szT ts f) (a + 1) K = -1) := fun h => addTo_more (addTo_no hx h) K (by omega)
          have HAO : Hid (0 ≤ szT ts f x → addTo (en ts f) (szT ts f) (a + 1) (j + 1) = addTo (en ts f) (szT ts f) (a + 1) j + szT ts f x) := fun h => addTo_ok hx hs0 h
          have HB2 : Hid (Below w.heap.size w wr) := hB2
          have hls : wr.heap.size = wr.heap.size := rfl
          have hws : w.heap.size < wr.heap.size := by have := HB.out.size; simp at this; omega
          clear hx hy hxy hB2 hls
          generalize addTo (en ts f) (szT ts f) (a + 1) j = s at *
          generalize szT ts f x = z at *
          go_wp2_with fail
          refine (Calls.mono HC.out ?_)
          rintro e' w2 ⟨rfl, hb2⟩
          have HB3 : Hid (Below w.heap.size w w2) := HB2.out.trans (hb2.mono HB2.out.size)
          have HB4 : Hid (Below (w.heap.size + 1) (w.alloc (.cells #[.int .i64 7, .int .i64 K] 37)) w2) := HB.out.trans (hb2.mono (by omega))
          have hs2 := hb2.size
          clear hb2
          by_cases hz : z < 0
          · have HR : Hid (szT ts (f + 1) a = -1) := by show _ = _; rw [HR0'.out, HAN.out hz, if_pos (by omega)]
            go_wp2_with fail
            go_ret
            exact ⟨by rw [HR.out]; try rfl, HB3.out⟩
          · have hsz' : 0 ≤ z := by omega
            have HS' := HAO.out hsz'
            have HSS : Hid (addTo (en ts f) (szT ts f) (a + 1) (j + 1) = s + z) := HS'
            clear HS'
            go_wp2_with fail
            refine (HSK.out _ HB3.out).mono ?_
            rintro e' w3 ⟨rfl, hb3⟩
            have HB5 : Hid (Below (w.heap.size + 1) (w.alloc (.cells #[.int .i64 7, .int .i64 K] 37)) w3) := HB4.out.trans (hb3.mono (by omega))
            clear hb3
            go_wp2_with fail
            go_roundg (gk - 1)
            case rel => exact ⟨j + 1, y, by have := HJ.out; omega, by go_num, rfl, HY.out, by rw [HSS.out], by rw [HSS.out]; omega, HB5.out⟩
            case measure => have := HJ.out; omega
        · have e1 : j = K := by omega
          have HR : Hid (szT ts (f + 1) a = addTo (en ts f) (szT ts f) (a + 1) j) := by show _ = _; rw [HR0'.out, ← e1, if_neg (by omega)]
          clear e1
          go_wp2_with fail
          go_ret
          exact ⟨by rw [HR.out]; try rfl, (bel1 _ _).trans (HB.out.mono (by omega))⟩
end Go.Proofs.YtjpdhenmhffmeaaDoor
