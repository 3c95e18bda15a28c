/- Values of messages: plain facts. -/
import Derived.Test.YtipmckdlnipgkaaGreatDoorSRm
import Derived.Test.YtipmckdlnipgkaaGreatDoorPv
namespace Go.Proofs.YtipmckdlnipgkaaGreatDoor
open Go.RowKit
set_option linter.unusedVariables false
theorem typed_ve {ts : List (Int × Int)} {vs : List It} (h : typedB ts vs = true) : vs.length ≤ 200 ∧ ve ts vs 7 0 0 = some vs.length := by
  simp only [typedB, Bool.and_eq_true, decide_eq_true_eq, beq_iff_eq] at h
  exact h.2
/-- A value of a type without others. -/
theorem ve_flat {ts : List (Int × Int)} {vs : List It} {f a q e : Nat} {k n : Int} (ht : ts[a]? = some (k, n)) (hk : np k 0 = 0 ∧ ∀ m, np k m = 0) (h : ve ts vs (f + 1) a q = some e) : ∃ hq : q < vs.length, e = q + 1 ∧ fitsI k n vs[q] = true := by
  unfold ve at h
  rw [ht] at h
  cases hx : vs[q]? with
  | none => rw [hx] at h; cases h
  | some x =>
    rw [hx] at h
    have hq : q < vs.length := by
      rcases Nat.lt_or_ge q vs.length with h' | h'
      · exact h'
      · rw [List.getElem?_eq_none h'] at hx; cases hx
    have ex : vs[q] = x := by rw [List.getElem?_eq_getElem hq] at hx; exact Option.some.inj hx
    simp only at h
    split at h
    · rename_i hf
      rw [hk.2 x.n] at h
      refine ⟨hq, ?_, by rw [ex]; exact hf⟩
      simpa [vit] using h.symm
    · cases h
/-- A value with others. -/
theorem ve_node {ts : List (Int × Int)} {vs : List It} {f a q e : Nat} {k n : Int} (ht : ts[a]? = some (k, n)) (h : ve ts vs (f + 1) a q = some e) : ∃ hq : q < vs.length, fitsI k n vs[q] = true ∧ vit (ve ts vs f) (pl ts f a k vs[q].n) (q + 1) (np k vs[q].n) = some e := by
  unfold ve at h
  rw [ht] at h
  cases hx : vs[q]? with
  | none => rw [hx] at h; cases h
  | some x =>
    rw [hx] at h
    have hq : q < vs.length := by
      rcases Nat.lt_or_ge q vs.length with h' | h'
      · exact h'
      · rw [List.getElem?_eq_none h'] at hx; cases hx
    have ex : vs[q] = x := by rw [List.getElem?_eq_getElem hq] at hx; exact Option.some.inj hx
    simp only at h
    split at h
    · rename_i hf
      exact ⟨hq, by rw [ex]; exact hf, by rw [ex]; exact h⟩
    · cases h
theorem vit_step {g : Nat → Nat → Option Nat} {ps : Nat → Nat} {q j e : Nat} (h : vit g ps q (j + 1) = some e) : ∃ e', vit g ps q j = some e' ∧ g (ps j) e' = some e := by
  rw [vit_succ] at h
  cases hv : vit g ps q j with
  | none => rw [hv] at h; cases h
  | some e' => rw [hv] at h; exact ⟨e', rfl, h⟩
theorem np_flat1 : np 1 0 = 0 ∧ ∀ m, np 1 m = 0 := ⟨rfl, fun _ => rfl⟩
theorem np_flat3 : np 3 0 = 0 ∧ ∀ m, np 3 m = 0 := ⟨rfl, fun _ => rfl⟩
theorem np_flat4 : np 4 0 = 0 ∧ ∀ m, np 4 m = 0 := ⟨rfl, fun _ => rfl⟩
theorem fit_struct {n : Int} {x : It} (h : fitsI 7 n x = true) : (x.n : Int) = n := by
  simp only [fitsI, Bool.and_eq_true, decide_eq_true_eq] at h
  have := h.2.1
  simpa [fitsN] using this
theorem fit_list {n : Int} {x : It} (h : fitsI 5 n x = true) : (x.n : Int) ≤ n := by
  simp only [fitsI, Bool.and_eq_true, decide_eq_true_eq] at h
  have := h.2.1
  simpa [fitsN] using this
theorem header_len {vs : List It} (h : typedB (msgS 1) vs = true) : vs.length = 6 := by
  obtain ⟨_, h⟩ := typed_ve h
  obtain ⟨hq, hf, hv⟩ := ve_node (f := 6) (k := 7) (n := 5) rfl h
  have hn := fit_struct hf
  have hn' : vs[0].n = 5 := by omega
  rw [hn'] at hv
  have hv : vit (ve (msgS 1) vs 6) (pl (msgS 1) 6 0 7 5) 1 5 = some vs.length := hv
  obtain ⟨e5, h5, g5⟩ := vit_step hv
  obtain ⟨e4, h4, g4⟩ := vit_step h5
  obtain ⟨e3, h3, g3⟩ := vit_step h4
  obtain ⟨e2, h2, g2⟩ := vit_step h3
  obtain ⟨e1, h1, g1⟩ := vit_step h2
  have e0 : e1 = 1 := by rw [vit_zero] at h1; exact (Option.some.inj h1).symm
  have p0 : pl (msgS 1) 6 0 7 5 0 = 1 := by decide +kernel
  have p1 : pl (msgS 1) 6 0 7 5 1 = 2 := by decide +kernel
  have p2 : pl (msgS 1) 6 0 7 5 2 = 3 := by decide +kernel
  have p3 : pl (msgS 1) 6 0 7 5 3 = 4 := by decide +kernel
  have p4 : pl (msgS 1) 6 0 7 5 4 = 5 := by decide +kernel
  rw [p0] at g1
  rw [p1] at g2
  rw [p2] at g3
  rw [p3] at g4
  rw [p4] at g5
  obtain ⟨_, a1, _⟩ := ve_flat (f := 5) (k := 1) (n := 64) rfl np_flat1 g1
  obtain ⟨_, a2, _⟩ := ve_flat (f := 5) (k := 1) (n := 64) rfl np_flat1 g2
  obtain ⟨_, a3, _⟩ := ve_flat (f := 5) (k := 4) (n := 32) rfl np_flat4 g3
  obtain ⟨_, a4, _⟩ := ve_flat (f := 5) (k := 4) (n := 32) rfl np_flat4 g4
  obtain ⟨_, a5, _⟩ := ve_flat (f := 5) (k := 3) (n := 20) rfl np_flat3 g5
  omega
end Go.Proofs.YtipmckdlnipgkaaGreatDoor
