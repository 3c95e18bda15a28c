/- valueOf, Typed: contracts. -/
import Derived.Test.YtepffjfgomhepaaGreatDoorS3e
namespace Go.Proofs.YtepffjfgomhepaaGreatDoor
open Go.RowKit Go.Sort
set_option linter.unusedVariables false
/-- A slice of items in memory. -/
def IsItems (B : Nat) (w : World) (v : Value) (vs : List It) : Prop := ∃ b o C, ItemsAt B w b o C vs ∧ FromQ b o C vs 0 v
theorem IsItems.below {B : Nat} {w w' : World} {v : Value} {vs : List It} (h : IsItems B w v vs) (hb : Below B w w') : IsItems B w' v vs := by
  obtain ⟨b, o, C, h1, h2⟩ := h
  exact ⟨b, o, C, h1.below hb, h2⟩
theorem IsItems.up {B B' : Nat} {w : World} {v : Value} {vs : List It} (h : IsItems B w v vs) (hB : B ≤ B') : IsItems B' w v vs := by
  obtain ⟨b, o, C, h1, h2⟩ := h
  exact ⟨b, o, C, h1.up hB, h2⟩
theorem typedB_no {ts : List (Int × Int)} {vs : List It} (h : schOk ts = false) : typedB ts vs = false := by simp [typedB, h]
theorem typedB_big {ts : List (Int × Int)} {vs : List It} (h : 200 < vs.length) : typedB ts vs = false := by
  have : decide (vs.length ≤ 200) = false := by simp; omega
  simp [typedB, this]
theorem typedB_none {ts : List (Int × Int)} {vs : List It} (h : ve ts vs 7 0 0 = none) : typedB ts vs = false := by simp [typedB, h]
theorem typedB_some {ts : List (Int × Int)} {vs : List It} {q : Nat} (hs : schOk ts = true) (hl : vs.length ≤ 200) (h : ve ts vs 7 0 0 = some q) : typedB ts vs = decide (vs.length - q = 0) := by
  have h2 := (ve_lt h).2
  have hl' : decide (vs.length ≤ 200) = true := by simpa using hl
  unfold typedB
  rw [hs, hl', h]
  simp only [Bool.true_and]
  by_cases e : q = vs.length
  · subst e; simp
  · have e1 : (some q == some vs.length) = false := by simp [e]
    rw [e1]
    symm
    simp only [decide_eq_false_iff_not]
    omega
theorem beq_zero (n : Nat) : decide (n = 0) = ((n : Int) == 0) := by rw [beq_dec, Bool.eq_iff_iff]; simp
/-- What valueOf leaves: the tree of the type is in blocks of S0. -/
def VoPost (ts : List (Int × Int)) (vs : List It) (S0 : Nat → Prop) (w : World) (e : Ending) (w' : World) : Prop :=
  Below w.heap.size w w' ∧ ∃ x, e = .returned (.tuple #[x, .bool (typedB ts vs)]) ∧ (typedB ts vs = true → (∃ T y, x = .iface T y) ∧ VAt ts vs 7 w' (fun c => S0 c ∨ (w.heap.size ≤ c ∧ c < w'.heap.size)) x 0 0)
set_option maxHeartbeats 1000000 in
theorem valueOf_any (ts : List (Int × Int)) (vs : List It) (u : Nat) (S0 : Nat → Prop) (v' : Value) (w : World) (hs : schOk ts = true) (htr : TreeAt ts 7 w S0 u 0) (hS0 : ∀ c, S0 c → c < w.heap.size) (hv' : IsItems w.heap.size w v' vs) : Calls Tryz.prog 30 #[.pointer (some ⟨u, 0, none⟩), v'] w fun e w' => VoPost ts vs S0 w e w' := by
  obtain ⟨b, o, C, hI, hF⟩ := hv'
  have HI : Hid (ItemsAt w.heap.size w b o C vs) := hI
  have HF : Hid (FromQ b o C vs 0 v') := hF
  have hsm := hI.small
  obtain ⟨ad, rfl, _⟩ := hF
  simp only [Nat.sub_zero] at HF
  rw [Nat.sub_zero, Nat.sub_zero]
  have HS : Hid (schOk ts = true) := hs
  have HT : Hid (TreeAt ts 7 w S0 u 0) := htr
  have HS0 : Hid (∀ c, S0 c → c < w.heap.size) := hS0
  clear hI hs htr hS0
  by_cases h200 : 200 < vs.length
  · have HR : Hid (typedB ts vs = false) := typedB_big h200
    have hd : decide ((200 : Int) < vs.length) = true := by simp; omega
    go_enter Tryz.func30, Tryz.ntmps30
    go_wp2_with fail
    go_ret2
    exact ⟨Below.refl _ _, _, by rw [HR.out]; try rfl, fun h => by rw [HR.out] at h; cases h⟩
  · have hd : decide ((200 : Int) < vs.length) = false := by simp; omega
    go_enter Tryz.func30, Tryz.ntmps30
    go_wp2_with fail
    refine (parse_all ts vs b o C 7 0 0 u _ _ w HT.out HS0.out HI.out (Nat.zero_le _) (by simpa using HF.out)).mono ?_
    rintro e w2 ⟨hb2, ⟨he, y, hy1, rfl⟩ | ⟨q', T, yv, v3, he, hfq3, rfl, hva⟩⟩
    · have HR : Hid (typedB ts vs = false) := typedB_none he
      clear he
      go_wp2_with fail
      go_ret2
      exact ⟨hb2, _, by rw [HR.out]; try rfl, fun h => by rw [HR.out] at h; cases h⟩
    · have HR : Hid (typedB ts vs = decide (vs.length - q' = 0)) := typedB_some HS.out (by omega) he
      have HVA : Hid (VAt ts vs 7 w2 (fun c => S0 c ∨ (w.heap.size ≤ c ∧ c < w2.heap.size)) (.iface T yv) 0 0) := hva
      obtain ⟨ad3, rfl, _⟩ := hfq3
      clear he hva
      go_wp2_with fail
      go_ret2
      exact ⟨hb2, _, by rw [HR.out, beq_zero]; try rfl, fun _ => ⟨⟨_, _, rfl⟩, HVA.out⟩⟩
end Go.Proofs.YtepffjfgomhepaaGreatDoor
