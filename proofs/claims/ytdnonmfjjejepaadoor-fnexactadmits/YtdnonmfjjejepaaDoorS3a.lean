/- Values in memory: items; what fits; a part's type. -/
import Derived.Test.YtdnonmfjjejepaaDoorS2h
import Derived.Test.YtdnonmfjjejepaaDoorPv
import Derived.Test.YtdnonmfjjejepaaDoorL1a
import Derived.Lib.QuietBelow
import Derived.BigQuiet
import Derived.Lib.Strings
namespace Go.Proofs.YtdnonmfjjejepaaDoor
open Go.RowKit Go.Sort
set_option linter.unusedVariables false
/-- Items in memory: from block b, offset o on, three cells each; C: how many there is room for. -/
structure ItemsAt (B : Nat) (w : World) (b o C : Nat) (vs : List It) : Prop where
  small : vs.length ≤ 1048577
  room : vs.length ≤ C
  most : C ≤ maxLen
  wf : ∀ x ∈ vs, inI x.k ∧ x.n < 18446744073709551616 ∧ x.s.size ≤ 1048577
  low : vs.length = 0 ∨ b < B
  cells : ∀ i (h : i < vs.length), w.cell? ⟨b, o + i * 3, none⟩ = some (.int .i64 vs[i].k) ∧ w.cell? ⟨b, o + i * 3 + 1, none⟩ = some (.int .u64 vs[i].n) ∧ w.cell? ⟨b, o + i * 3 + 2, none⟩ = some (.string vs[i].s)
theorem ItemsAt.below {B : Nat} {w w' : World} {b o C : Nat} {vs : List It} (h : ItemsAt B w b o C vs) (hb : Below B w w') : ItemsAt B w' b o C vs := by
  refine ⟨h.small, h.room, h.most, h.wf, h.low, fun i hi => ?_⟩
  have hlt : b < B := h.low.resolve_left (by omega)
  rw [hb.cell (p := ⟨b, o + i * 3, none⟩) hlt, hb.cell (p := ⟨b, o + i * 3 + 1, none⟩) hlt, hb.cell (p := ⟨b, o + i * 3 + 2, none⟩) hlt]
  exact h.cells i hi
theorem ItemsAt.up {B B' : Nat} {w : World} {b o C : Nat} {vs : List It} (h : ItemsAt B w b o C vs) (hB : B ≤ B') : ItemsAt B' w b o C vs :=
  ⟨h.small, h.room, h.most, h.wf, h.low.imp id (fun h => by omega), h.cells⟩
/-- The slice of what stands from place q on. -/
def FromQ (b o C : Nat) (vs : List It) (q : Nat) (v : Value) : Prop := ∃ ad, v = .slice ad (vs.length - q) (C - q) ∧ (vs.length ≤ q ∨ ad = some ⟨b, o + q * 3, none⟩)
theorem FromQ.at {b o C : Nat} {vs : List It} {q : Nat} {v : Value} (h : FromQ b o C vs q v) (hq : q < vs.length) : v = .slice (some ⟨b, o + q * 3, none⟩) (vs.length - q) (C - q) := by
  obtain ⟨ad, rfl, h1⟩ := h
  rcases h1 with h1 | rfl
  · omega
  · rfl
theorem str_empty (s : ByteArray) : s.toList.isEmpty = decide (s.size = 0) := by
  rw [ByteArray.toList_eq]
  obtain ⟨⟨l⟩⟩ := s
  cases l with
  | nil => rfl
  | cons a l => simp [ByteArray.size]
theorem fitsS_rest {k n : Int} {m : Nat} (h3 : k ≠ 3) (h4 : k ≠ 4) : fitsS k n m = decide (m = 0) := by simp [fitsS, h3, h4]
/-- A node's cells and its parts, opened, its type too. -/
theorem TreeAt.openT {ts : List (Int × Int)} {f u a : Nat} {w : World} {S : Nat → Prop} (h : TreeAt ts (f + 1) w S u a) : ∃ (ha : a < ts.length) (e : Nat) (ad : Option Addr) (cap : Nat),
    tyOk ts[a].1 ts[a].2 = true ∧ iter (en ts f) (a + 1) (kids ts[a].1 ts[a].2) = some e ∧ S u ∧ w.cell? ⟨u, 0, none⟩ = some (.int .i64 ts[a].1) ∧ w.cell? ⟨u, 1, none⟩ = some (.int .i64 ts[a].2) ∧
    w.cell? ⟨u, 5, none⟩ = some (.slice ad (kids ts[a].1 ts[a].2) cap) ∧ kids ts[a].1 ts[a].2 ≤ cap ∧ cap ≤ maxLen ∧
      (kids ts[a].1 ts[a].2 = 0 ∨ ∃ g, ad = some ⟨g, 0, none⟩ ∧ ∀ j, j < kids ts[a].1 ts[a].2 → ∃ c p, iter (en ts f) (a + 1) j = some p ∧ w.cell? ⟨g, j, none⟩ = some (.pointer (some ⟨c, 0, none⟩)) ∧ TreeAt ts f w S c p) := by
  obtain ⟨hu, ha, e, ad, cap, h1, h2, c0, c1, c2, c3, c4, c5, h3, h4, h5⟩ := h
  refine ⟨ha, e, ad, cap, h1, by rw [← en_ok ha h1]; exact h2, hu, c0, c1, c5, h3, h4, ?_⟩
  rcases h5 with h5 | ⟨g, hg, _, hk⟩
  · exact .inl h5
  · exact .inr ⟨g, hg, hk⟩
end Go.Proofs.YtdnonmfjjejepaaDoor
