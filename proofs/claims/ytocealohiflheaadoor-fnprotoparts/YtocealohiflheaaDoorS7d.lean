/- A value's bytes, as the formats with counts write them: the contract of their writing. -/
import Derived.Test.YtocealohiflheaaDoorS7w
namespace Go.Proofs.YtocealohiflheaaDoor
open Go.RowKit Go.Sort
set_option linter.unusedVariables false
theorem VAt.iface {ts : List (Int × Int)} {vs : List It} {f : Nat} {w : World} {S : Nat → Prop} {x : Value} {a q : Nat} (h : VAt ts vs f w S x a q) : ∃ T z, x = .iface T z := by
  cases f with
  | zero => exact h.elim
  | succ f =>
    obtain ⟨u, ha, hq, ht, hf, h⟩ := h
    rcases h with ⟨_, h⟩ | ⟨_, h⟩ | ⟨_, ad, cap, h, _⟩ | ⟨_, y, h, _⟩
    all_goals exact ⟨_, _, h⟩
theorem VAt.bel {ts : List (Int × Int)} {vs : List It} {f : Nat} {w w' : World} {S : Nat → Prop} {x : Value} {a q : Nat} (h : VAt ts vs f w S x a q) (hS : ∀ c, S c → c < w.heap.size) (hb : Below w.heap.size w w') : VAt ts vs f w' S x a q :=
  h.keep (fun _ h => h) (fun c hc => hb.block c (hS c hc))
theorem own_num {cnt : Nat → List UInt8} {k n : Int} {x : It} (hk : x.k = k) (h : k = 1 ∨ k = 2 ∨ k = 8 ∨ k = 9) : own cnt n x = leL x.n (wid k n) := by
  subst hk
  unfold own wid
  rcases h with h | h | h | h <;> simp [h]
theorem own_bytes {cnt : Nat → List UInt8} {k n : Int} {x : It} (hk : x.k = k) (h : k = 3 ∨ k = 4) : own cnt n x = (if k = 3 ∨ k = 5 then cnt x.s.size else []) ++ x.s.data.toList := by
  subst hk
  unfold own
  rcases h with h | h <;> simp [h]
theorem own_series {cnt : Nat → List UInt8} {k n : Int} {x : It} (hk : x.k = k) (h : k = 5 ∨ k = 6 ∨ k = 7) : own cnt n x = if k = 3 ∨ k = 5 then cnt x.n else [] := by
  subst hk
  unfold own
  rcases h with h | h | h <;> simp [h]
theorem scE_le {cnt : Nat → List UInt8} {ts : List (Int × Int)} {vs : List It} (hc : ∀ m, (cnt m).length ≤ 9) (hs : ∀ x ∈ vs, x.s.size ≤ 1048577) (hl : vs.length ≤ 200) {f a e q q' : Nat} (he : en ts f a = some e) (hv : ve ts vs f a q = some q') : (scE cnt ts vs f a q).length ≤ 1000000000 := by
  have h1 := scE_len hc hs he hv
  have h2 := (ve_lt hv).2
  have h3 : q' * 1048590 ≤ 200 * 1048590 := Nat.mul_le_mul_right _ (by omega)
  omega
end Go.Proofs.YtocealohiflheaaDoor
