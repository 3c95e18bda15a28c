/- Values of messages with lists: plain facts. -/
import Derived.Test.YtelbmcgpelkakaaGreatDoorSNa
namespace Go.Proofs.YtelbmcgpelkakaaGreatDoor
open Go.RowKit
set_option linter.unusedVariables false
/-- Parts that have so many items each. -/
theorem vit_all {g : Nat → Nat → Option Nat} {ps : Nat → Nat} {q c : Nat} : ∀ {m e : Nat}, (∀ j x y, j < m → g (ps j) x = some y → y = x + c) → vit g ps q m = some e → e = q + c * m
  | 0, e, _, h => by rw [vit_zero] at h; have := Option.some.inj h; omega
  | m + 1, e, hg, h => by
    obtain ⟨e', h1, h2⟩ := vit_step h
    have i1 := vit_all (fun j x y hj => hg j x y (by omega)) h1
    have i2 := hg m e' e (by omega) h2
    rw [i2, i1, Nat.mul_succ]
    omega
theorem proof_len {vs : List It} (h : typedB (msgS 4) vs = true) : ∃ h5 : 4 < vs.length, vs[4].n ≤ 16 ∧ vs.length = 5 + vs[4].n := by
  obtain ⟨_, h⟩ := typed_ve h
  obtain ⟨hq, hf, hv⟩ := ve_node (f := 6) (k := 7) (n := 4) rfl h
  have hn := fit_struct hf
  have hn' : vs[0].n = 4 := by omega
  rw [hn'] at hv
  have hv : vit (ve (msgS 4) vs 6) (pl (msgS 4) 6 0 7 4) 1 4 = some vs.length := hv
  obtain ⟨e4, h4, g4⟩ := vit_step hv
  obtain ⟨e3, h3, g3⟩ := vit_step h4
  obtain ⟨e2, h2, g2⟩ := vit_step h3
  obtain ⟨e1, h1, g1⟩ := vit_step h2
  have e0 : e1 = 1 := by rw [vit_zero] at h1; exact (Option.some.inj h1).symm
  have p0 : pl (msgS 4) 6 0 7 4 0 = 1 := by decide +kernel
  have p1 : pl (msgS 4) 6 0 7 4 1 = 2 := by decide +kernel
  have p2 : pl (msgS 4) 6 0 7 4 2 = 3 := by decide +kernel
  have p3 : pl (msgS 4) 6 0 7 4 3 = 4 := by decide +kernel
  rw [p0] at g1
  rw [p1] at g2
  rw [p2] at g3
  rw [p3] at g4
  obtain ⟨_, a1, _⟩ := ve_flat (f := 5) (k := 1) (n := 32) rfl np_flat1 g1
  obtain ⟨_, a2, _⟩ := ve_flat (f := 5) (k := 1) (n := 32) rfl np_flat1 g2
  obtain ⟨_, a3, _⟩ := ve_flat (f := 5) (k := 4) (n := 32) rfl np_flat4 g3
  have e4' : e4 = 4 := by omega
  subst e4'
  obtain ⟨q4, f4, v4⟩ := ve_node (f := 5) (k := 5) (n := 16) rfl g4
  have hl := fit_list f4
  have := vit_all (c := 1) (fun j x y _ hg => by
    have hp : pl (msgS 4) 5 4 5 vs[4].n j = 5 := rfl
    rw [hp] at hg
    obtain ⟨_, a, _⟩ := ve_flat (f := 4) (k := 4) (n := 32) rfl np_flat4 hg
    exact a) v4
  have hnp : np 5 vs[4].n = vs[4].n := rfl
  rw [hnp] at this
  exact ⟨q4, by omega, by omega⟩
theorem sig_step {ts : List (Int × Int)} {vs : List It} {f a q e : Nat} {k1 n1 k2 n2 : Int} (ht : ts[a]? = some (7, 2)) (hp0 : pl ts (f + 1) a 7 2 0 = a + 1) (hp1 : pl ts (f + 1) a 7 2 1 = a + 2) (h1 : ts[a + 1]? = some (k1, n1)) (h2 : ts[a + 2]? = some (k2, n2)) (f1 : np k1 0 = 0 ∧ ∀ m, np k1 m = 0) (f2 : np k2 0 = 0 ∧ ∀ m, np k2 m = 0) (h : ve ts vs (f + 2) a q = some e) : e = q + 3 := by
  obtain ⟨hq, hf, hv⟩ := ve_node (f := f + 1) ht h
  have hn := fit_struct hf
  have hn' : vs[q].n = 2 := by omega
  rw [hn'] at hv
  have hv : vit (ve ts vs (f + 1)) (pl ts (f + 1) a 7 2) (q + 1) 2 = some e := hv
  obtain ⟨e2, g2, r2⟩ := vit_step hv
  obtain ⟨e1, g1, r1⟩ := vit_step g2
  have e0 : e1 = q + 1 := by rw [vit_zero] at g1; exact (Option.some.inj g1).symm
  rw [hp0] at r1
  rw [hp1] at r2
  obtain ⟨_, a1, _⟩ := ve_flat h1 f1 r1
  obtain ⟨_, a2, _⟩ := ve_flat h2 f2 r2
  omega
theorem commit_len {vs : List It} (h : typedB (msgS 2) vs = true) : ∃ h5 : 4 < vs.length, vs[4].n ≤ 8 ∧ vs.length = 5 + 3 * vs[4].n := by
  obtain ⟨_, h⟩ := typed_ve h
  obtain ⟨hq, hf, hv⟩ := ve_node (f := 6) (k := 7) (n := 4) rfl h
  have hn := fit_struct hf
  have hn' : vs[0].n = 4 := by omega
  rw [hn'] at hv
  have hv : vit (ve (msgS 2) vs 6) (pl (msgS 2) 6 0 7 4) 1 4 = some vs.length := hv
  obtain ⟨e4, h4, g4⟩ := vit_step hv
  obtain ⟨e3, h3, g3⟩ := vit_step h4
  obtain ⟨e2, h2, g2⟩ := vit_step h3
  obtain ⟨e1, h1, g1⟩ := vit_step h2
  have e0 : e1 = 1 := by rw [vit_zero] at h1; exact (Option.some.inj h1).symm
  have p0 : pl (msgS 2) 6 0 7 4 0 = 1 := by decide +kernel
  have p1 : pl (msgS 2) 6 0 7 4 1 = 2 := by decide +kernel
  have p2 : pl (msgS 2) 6 0 7 4 2 = 3 := by decide +kernel
  have p3 : pl (msgS 2) 6 0 7 4 3 = 4 := by decide +kernel
  rw [p0] at g1
  rw [p1] at g2
  rw [p2] at g3
  rw [p3] at g4
  obtain ⟨_, a1, _⟩ := ve_flat (f := 5) (k := 1) (n := 64) rfl np_flat1 g1
  obtain ⟨_, a2, _⟩ := ve_flat (f := 5) (k := 1) (n := 32) rfl np_flat1 g2
  obtain ⟨_, a3, _⟩ := ve_flat (f := 5) (k := 4) (n := 32) rfl np_flat4 g3
  have e4' : e4 = 4 := by omega
  subst e4'
  obtain ⟨q4, f4, v4⟩ := ve_node (f := 5) (k := 5) (n := 8) rfl g4
  have hl := fit_list f4
  have := vit_all (c := 3) (fun j x y _ hg => by
    have hp : pl (msgS 2) 5 4 5 vs[4].n j = 5 := rfl
    rw [hp] at hg
    exact sig_step (f := 3) (k1 := 1) (n1 := 32) (k2 := 4) (n2 := 64) rfl (by decide +kernel) (by decide +kernel) rfl rfl np_flat1 np_flat4 hg) v4
  have hnp : np 5 vs[4].n = vs[4].n := rfl
  rw [hnp] at this
  exact ⟨q4, by omega, by omega⟩
theorem validators_len {vs : List It} (h : typedB (msgS 3) vs = true) : ∃ h3 : 2 < vs.length, vs[2].n ≤ 8 ∧ vs.length = 3 + 3 * vs[2].n := by
  obtain ⟨_, h⟩ := typed_ve h
  obtain ⟨hq, hf, hv⟩ := ve_node (f := 6) (k := 7) (n := 2) rfl h
  have hn := fit_struct hf
  have hn' : vs[0].n = 2 := by omega
  rw [hn'] at hv
  have hv : vit (ve (msgS 3) vs 6) (pl (msgS 3) 6 0 7 2) 1 2 = some vs.length := hv
  obtain ⟨e2, h2, g2⟩ := vit_step hv
  obtain ⟨e1, h1, g1⟩ := vit_step h2
  have e0 : e1 = 1 := by rw [vit_zero] at h1; exact (Option.some.inj h1).symm
  have p0 : pl (msgS 3) 6 0 7 2 0 = 1 := by decide +kernel
  have p1 : pl (msgS 3) 6 0 7 2 1 = 2 := by decide +kernel
  rw [p0] at g1
  rw [p1] at g2
  obtain ⟨_, a1, _⟩ := ve_flat (f := 5) (k := 1) (n := 32) rfl np_flat1 g1
  have e2' : e2 = 2 := by omega
  subst e2'
  obtain ⟨q2, f2, v2⟩ := ve_node (f := 5) (k := 5) (n := 8) rfl g2
  have hl := fit_list f2
  have := vit_all (c := 3) (fun j x y _ hg => by
    have hp : pl (msgS 3) 5 2 5 vs[2].n j = 3 := rfl
    rw [hp] at hg
    exact sig_step (f := 3) (k1 := 4) (n1 := 32) (k2 := 1) (n2 := 64) rfl (by decide +kernel) (by decide +kernel) rfl rfl np_flat4 np_flat1 hg) v2
  have hnp : np 5 vs[2].n = vs[2].n := rfl
  rw [hnp] at this
  exact ⟨q2, by omega, by omega⟩
end Go.Proofs.YtelbmcgpelkakaaGreatDoor
