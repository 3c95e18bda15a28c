/- The schemas of messages: contracts, both sides. -/
import Derived.Test.YtipmckdlnipgkaaGreatDoorSRh
namespace Go.Proofs.YtipmckdlnipgkaaGreatDoor
open Go.RowKit Go.Sort
set_option linter.unusedVariables false
def msgS (k : Int) : List (Int × Int) := if k = 1 then [(7, 5), (1, 64), (1, 64), (4, 32), (4, 32), (3, 20)] else if k = 2 then [(7, 4), (1, 64), (1, 32), (4, 32), (5, 8), (7, 2), (1, 32), (4, 64)] else if k = 3 then [(7, 2), (1, 32), (5, 8), (7, 2), (4, 32), (1, 64)] else if k = 4 then [(7, 4), (1, 32), (1, 32), (4, 32), (5, 16), (4, 32)] else []
def mT (k : Int) : ByteArray := if k = 1 then ⟨#[115, 116, 114, 117, 99, 116, 53, 32, 117, 54, 52, 32, 117, 54, 52, 32, 102, 105, 120, 101, 100, 51, 50, 32, 102, 105, 120, 101, 100, 51, 50, 32, 98, 121, 116, 101, 115, 50, 48]⟩ else if k = 2 then ⟨#[115, 116, 114, 117, 99, 116, 52, 32, 117, 54, 52, 32, 117, 51, 50, 32, 102, 105, 120, 101, 100, 51, 50, 32, 108, 105, 115, 116, 56, 32, 115, 116, 114, 117, 99, 116, 50, 32, 117, 51, 50, 32, 102, 105, 120, 101, 100, 54, 52]⟩ else if k = 3 then ⟨#[115, 116, 114, 117, 99, 116, 50, 32, 117, 51, 50, 32, 108, 105, 115, 116, 56, 32, 115, 116, 114, 117, 99, 116, 50, 32, 102, 105, 120, 101, 100, 51, 50, 32, 117, 54, 52]⟩ else if k = 4 then ⟨#[115, 116, 114, 117, 99, 116, 52, 32, 117, 51, 50, 32, 117, 51, 50, 32, 102, 105, 120, 101, 100, 51, 50, 32, 108, 105, 115, 116, 49, 54, 32, 102, 105, 120, 101, 100, 51, 50]⟩ else ⟨#[]⟩
def tyTextC (k n : Int) : List UInt8 := (rs (k.toNat - 1)).data.toList ++ (if rb (k.toNat - 1) then dgs n.toNat else [])
theorem textC {ts : List (Int × Int)} (h : schOk ts = true) : schText ts = Lib.join (ts.map fun t => tyTextC t.1 t.2) [32] := by
  unfold schText
  rw [if_pos h]
  congr 1
  apply List.map_congr_left
  intro t ht
  obtain ⟨i, hi, rfl⟩ := List.getElem_of_mem ht
  have := tyOk_in (schOk_all h i hi)
  unfold tyText tyTextC
  rw [dec_dgs (by omega)]
theorem msg_ok : ∀ k : Int, k = 1 ∨ k = 2 ∨ k = 3 ∨ k = 4 → schOk (msgS k) = true ∧ schText (msgS k) = (mT k).data.toList := by
  intro k hk
  have h1 : schOk (msgS k) = true := by rcases hk with rfl | rfl | rfl | rfl <;> decide +kernel
  refine ⟨h1, ?_⟩
  rw [textC h1]
  rcases hk with rfl | rfl | rfl | rfl <;> decide +kernel
theorem msg_rd {k : Int} {r : Option (List (Int × Int))} (h : RdOk (mT k).data.toList r) : r.getD [] = msgS k := by
  by_cases hk : k = 1 ∨ k = 2 ∨ k = 3 ∨ k = 4
  · obtain ⟨h1, h2⟩ := msg_ok k hk
    rw [h.2 _ h1 h2]
    rfl
  · have e1 : msgS k = [] := by unfold msgS; rw [if_neg (by omega), if_neg (by omega), if_neg (by omega), if_neg (by omega)]
    have e2 : mT k = ⟨#[]⟩ := by unfold mT; rw [if_neg (by omega), if_neg (by omega), if_neg (by omega), if_neg (by omega)]
    rw [e1]
    cases r with
    | none => rfl
    | some ts =>
      obtain ⟨a, b⟩ := h.1 ts rfl
      have := (sch_len a).2
      rw [b, e2] at this
      exact absurd rfl this
theorem mT_size (k : Int) : (mT k).size ≤ 100 := by
  unfold mT
  split
  · decide
  · split
    · decide
    · split
      · decide
      · split
        · decide
        · decide
theorem msgS_len (k : Int) : (msgS k).length ≤ 8 := by
  unfold msgS
  split
  · decide
  · split
    · decide
    · split
      · decide
      · split
        · decide
        · decide
def MsE (k : Int) (base : Nat) (w' : World) (e : Ending) : Prop := ∃ v, e = .returned v ∧ w'.ownsRow base 130 2 v (msgS k).length (flatT (msgS k)) ∧ IsTyps w'.heap.size w' v (msgS k)
theorem MsE.of {k : Int} {base : Nat} {w' : World} {r : Option (List (Int × Int))} {v : Value} (h1 : RdOk (mT k).data.toList r) (h2 : w'.ownsRow base 130 2 v (r.getD []).length (flatT (r.getD []))) (h3 : wfT (r.getD [])) : MsE k base w' (.returned v) := by
  rw [msg_rd h1] at h2 h3
  exact ⟨v, rfl, h2, own_typs h2 (by have := msgS_len k; omega) h3⟩
theorem own_base {w : World} {base base' e sz n : Nat} {v : Value} {xs : List Value} (h : w.ownsRow base e sz v n xs) (hb : base' ≤ base) : w.ownsRow base' e sz v n xs := by
  refine ⟨h.1, ?_⟩
  rcases h.2 with h | ⟨g, cap, cur, a1, a2, a3⟩
  · exact .inl h
  · exact .inr ⟨g, cap, cur, a1, by omega, a3⟩
set_option maxRecDepth 100000 in
set_option maxHeartbeats 1000000 in
theorem msgText_any (k : Int) (w : World) : Calls Tryz.prog 78 #[.int .i64 k] w fun e w' => e = .returned (.string (mT k)) ∧ w' = w := by
  by_cases h1 : k = 1
  · subst h1
    go_enter Tryz.func78, Tryz.ntmps78
    go_wp2_with fail
    go_ret
    exact ⟨rfl, rfl⟩
  · have q1 := beqF h1
    by_cases h2 : k = 2
    · subst h2
      go_enter Tryz.func78, Tryz.ntmps78
      go_wp2_with fail
      go_ret
      exact ⟨rfl, rfl⟩
    · have q2 := beqF h2
      by_cases h3 : k = 3
      · subst h3
        go_enter Tryz.func78, Tryz.ntmps78
        go_wp2_with fail
        go_ret
        exact ⟨rfl, rfl⟩
      · have q3 := beqF h3
        by_cases h4 : k = 4
        · subst h4
          go_enter Tryz.func78, Tryz.ntmps78
          go_wp2_with fail
          go_ret
          exact ⟨rfl, rfl⟩
        · have q4 := beqF h4
          have HE : Hid (mT k = ⟨#[]⟩) := by show _ = _; unfold mT; rw [if_neg h1, if_neg h2, if_neg h3, if_neg h4]
          clear h1 h2 h3 h4
          go_enter Tryz.func78, Tryz.ntmps78
          go_wp2_with fail
          go_ret
          exact ⟨by rw [HE.out]; rfl, rfl⟩
set_option maxRecDepth 100000 in
set_option maxHeartbeats 1000000 in
theorem implMsgSchema_any (k : Int) (w : World) (hw : EV w) : Calls Tryz.prog 63 #[.int .i64 k] w fun e w' => MsE k w.heap.size w' e ∧ Below w.heap.size w w' := by
  have HT : Hid (∀ w, Calls Tryz.prog 78 #[.int .i64 k] w fun e w' => e = .returned (.string (mT k)) ∧ w' = w) := fun w => msgText_any k w
  have HR : Hid (Calls Tryz.prog 77 #[.string (mT k)] w fun e w' => RsE (mT k).data.toList w.heap.size w' e ∧ Below w.heap.size w w') := implReadSchema_any (mT k) w (by have := mT_size k; omega) hw
  have HM : Hid (∀ (r : Option (List (Int × Int))) (v : Value) (w' : World), RdOk (mT k).data.toList r → w'.ownsRow w.heap.size 130 2 v (r.getD []).length (flatT (r.getD [])) → wfT (r.getD []) → MsE k w.heap.size w' (.returned v)) := fun r v w' h1 h2 h3 => MsE.of h1 h2 h3
  obtain ⟨T, hT⟩ : ∃ T, mT k = T := ⟨_, rfl⟩
  rw [hT] at HT HR HM
  clear hT hw
  go_enter Tryz.func63, Tryz.ntmps63
  go_wp2_with fail
  refine (HT.out _).mono ?_
  rintro e w1 ⟨rfl, rfl⟩
  go_wp2_with fail
  refine Calls.mono HR.out ?_
  rintro e w2 ⟨⟨r, v, rfl, hr, hown, hwf⟩, hb⟩
  have HX : Hid (MsE k w1.heap.size w2 (.returned v)) := HM.out r v w2 hr hown hwf
  have HB : Hid (Below w1.heap.size w1 w2) := hb
  clear hr hown hwf hb
  go_wp2_with fail
  go_ret
  exact ⟨HX.out, HB.out⟩
set_option maxRecDepth 100000 in
set_option maxHeartbeats 2000000 in
theorem specMsgSchema_any (k : Int) (w : World) : Calls Tryz.prog 61 #[.int .i64 k] w fun e w' => MsE k w.heap.size w' e ∧ Below w.heap.size w w' := by
  have HI : Hid (∀ w, Calls Tryz.prog 73 #[.int .i64 k, .int .i64 1, .int .i64 4] w fun e w' => e = .returned (.bool (decide (1 ≤ k ∧ k ≤ 4))) ∧ w' = w) := fun w => l1InW_any k 1 4 w
  have HR : Hid (∀ w, Calls Tryz.prog 74 #[.string (mT k)] w fun e w' => RsE (mT k).data.toList w.heap.size w' e ∧ Below w.heap.size w w') := fun w => specReadSchema_any (mT k) w (by have := mT_size k; omega)
  have HM : Hid (∀ (B : Nat) (r : Option (List (Int × Int))) (v : Value) (w' : World), w.heap.size ≤ B → RdOk (mT k).data.toList r → w'.ownsRow B 130 2 v (r.getD []).length (flatT (r.getD [])) → wfT (r.getD []) → MsE k w.heap.size w' (.returned v)) := fun B r v w' h0 h1 h2 h3 => MsE.of h1 (own_base h2 h0) h3
  by_cases hk : 1 ≤ k ∧ k ≤ 4
  · have hd : decide (1 ≤ k ∧ k ≤ 4) = true := by simp [hk]
    rw [hd] at HI
    have hk' : k = 1 ∨ k = 2 ∨ k = 3 ∨ k = 4 := by omega
    clear hd hk
    rcases hk' with rfl | rfl | rfl | rfl
    all_goals
      go_enter Tryz.func61, Tryz.ntmps61
      go_wp2_with fail
      refine (HI.out _).mono ?_
      rintro e w1 ⟨rfl, rfl⟩
      go_wp2_with fail
      refine (HR.out _).mono ?_
      rintro e w2 ⟨⟨r, v, rfl, hr, hown, hwf⟩, hb⟩
      have HX := (show Hid _ from HM.out _ r v w2 (by simp) hr hown hwf)
      have HB : Hid (Below w1.heap.size w1 w2) := (bel1 _ _).trans (hb.mono (by simp))
      clear hr hown hwf hb
      go_wp2_with fail
      go_ret
      exact ⟨HX.out, HB.out⟩
  · have hd : decide (1 ≤ k ∧ k ≤ 4) = false := by simp; omega
    rw [hd] at HI
    have e2 : mT k = ⟨#[]⟩ := by unfold mT; rw [if_neg (by omega), if_neg (by omega), if_neg (by omega), if_neg (by omega)]
    rw [e2] at HR HM
    clear hd hk e2
    go_enter Tryz.func61, Tryz.ntmps61
    go_wp2_with fail
    refine (HI.out _).mono ?_
    rintro e w1 ⟨rfl, rfl⟩
    go_wp2_with fail
    refine (HR.out _).mono ?_
    rintro e w2 ⟨⟨r, v, rfl, hr, hown, hwf⟩, hb⟩
    have HX := (show Hid _ from HM.out _ r v w2 (Nat.le_refl _) hr hown hwf)
    have HB : Hid (Below w1.heap.size w1 w2) := hb
    clear hr hown hwf hb
    go_wp2_with fail
    go_ret
    exact ⟨HX.out, HB.out⟩
end Go.Proofs.YtipmckdlnipgkaaGreatDoor
