/- The exact laws' own helpers on items: contracts. -/
import Derived.Test.YtepffjfgomhepaaGreatDoorS3j
import Derived.Test.YtepffjfgomhepaaGreatDoorS2j
import Derived.Test.YtepffjfgomhepaaGreatDoorS2k
namespace Go.Proofs.YtepffjfgomhepaaGreatDoor
open Go.RowKit Go.Sort
set_option linter.unusedVariables false
/-- Items in memory, their strings of any length. -/
def RawItems (w : World) (ad : Option Addr) (vs : List It) : Prop := (∀ x ∈ vs, inI x.k ∧ x.n < 18446744073709551616 ∧ x.s.size ≤ maxLen) ∧ (vs.length = 0 ∨ ∃ b o, ad = some ⟨b, o, none⟩ ∧ b < w.heap.size ∧
  ∀ i (h : i < vs.length), w.cell? ⟨b, o + i * 3, none⟩ = some (.int .i64 vs[i].k) ∧ w.cell? ⟨b, o + i * 3 + 1, none⟩ = some (.int .u64 vs[i].n) ∧ w.cell? ⟨b, o + i * 3 + 2, none⟩ = some (.string vs[i].s))
theorem RawItems.below {w w' : World} {ad : Option Addr} {vs : List It} (h : RawItems w ad vs) (hb : Below w.heap.size w w') : RawItems w' ad vs := by
  refine ⟨h.1, h.2.imp id ?_⟩
  rintro ⟨b, o, e, hlt, hc⟩
  refine ⟨b, o, e, by have := hb.size; omega, fun i hi => ?_⟩
  rw [hb.cell (p := ⟨b, o + i * 3, none⟩) hlt, hb.cell (p := ⟨b, o + i * 3 + 1, none⟩) hlt, hb.cell (p := ⟨b, o + i * 3 + 2, none⟩) hlt]
  exact hc i hi
theorem RawItems.items {w : World} {ad : Option Addr} {vs : List It} {cap : Nat} (h : RawItems w ad vs) (hl : vs.length ≤ 1048577) (hc : vs.length ≤ cap) (hm : cap ≤ maxLen) (hs : ∀ x ∈ vs, x.s.size ≤ 1048577) : IsItems w.heap.size w (.slice ad vs.length cap) vs := by
  rcases h.2 with h0 | ⟨b, o, rfl, hlt, hcs⟩
  · exact ⟨0, 0, cap, ⟨hl, hc, hm, fun x hx => ⟨(h.1 x hx).1, (h.1 x hx).2.1, hs x hx⟩, .inl h0, fun i hi => by omega⟩, ad, by simp, .inl (by omega)⟩
  · exact ⟨b, o, cap, ⟨hl, hc, hm, fun x hx => ⟨(h.1 x hx).1, (h.1 x hx).2.1, hs x hx⟩, .inr hlt, hcs⟩, some ⟨b, o, none⟩, by simp, .inr (by simp)⟩
/-- An argument that is a slice of items. -/
def ArgItems (w : World) (ad : Option Addr) (len cap : Nat) : Prop := len ≤ cap ∧ cap ≤ maxLen ∧ ∃ vs : List It, vs.length = len ∧ RawItems w ad vs
theorem u64_nat {n : Int} (h : (Lit.int .u64 n).wf = true) : ∃ m : Nat, n = (m : Int) ∧ m < 18446744073709551616 := by
  have := bounds_u64 h
  exact ⟨n.toNat, by omega, by omega⟩
end Go.Proofs.YtepffjfgomhepaaGreatDoor
