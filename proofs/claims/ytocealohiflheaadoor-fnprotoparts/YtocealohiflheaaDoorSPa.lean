/- Messages: which schemas proto3 has; plain, the program's and the specification's: contracts. -/
import Derived.Test.YtocealohiflheaaDoorS7p
import Derived.Test.YtocealohiflheaaDoorS2h
import Derived.Test.YtocealohiflheaaDoorS3a
import Derived.Test.YtocealohiflheaaDoorS2k
namespace Go.Proofs.YtocealohiflheaaDoor
open Go.RowKit Go.Sort
set_option linter.unusedVariables false
/-- May the type at place p be a part? m: is it a message? -/
def ppB (ts : List (Int × Int)) (m : Nat → Bool) (p : Nat) : Bool := match ts[p]? with
  | none => false
  | some t => decide (kids t.1 t.2 = 0) || m p
/-- May the type at place p be a field? -/
def fdB (ts : List (Int × Int)) (m : Nat → Bool) (p : Nat) : Bool := match ts[p]? with
  | none => false
  | some t => if t.1 = 5 ∨ t.1 = 8 then ppB ts m (p + 1) else ppB ts m p
/-- Is the type at place a a message? -/
def pm (ts : List (Int × Int)) : Nat → Nat → Bool
  | 0, _ => false
  | f + 1, a => match ts[a]? with
    | none => false
    | some t => decide (t.1 = 7) && allTo (en ts f) (fdB ts (pm ts f)) (a + 1) (kids t.1 t.2)
theorem pm_ok {ts : List (Int × Int)} {f a : Nat} (ha : a < ts.length) : pm ts (f + 1) a = (decide (ts[a].1 = 7) && allTo (en ts f) (fdB ts (pm ts f)) (a + 1) (kids ts[a].1 ts[a].2)) := by
  simp [pm, List.getElem?_eq_getElem ha]
theorem ppB_ok {ts : List (Int × Int)} {m : Nat → Bool} {p : Nat} (hp : p < ts.length) : ppB ts m p = (decide (kids ts[p].1 ts[p].2 = 0) || m p) := by simp [ppB, List.getElem?_eq_getElem hp]
theorem fdB_ok {ts : List (Int × Int)} {m : Nat → Bool} {p : Nat} (hp : p < ts.length) : fdB ts m p = if ts[p].1 = 5 ∨ ts[p].1 = 8 then ppB ts m (p + 1) else ppB ts m p := by simp [fdB, List.getElem?_eq_getElem hp]
theorem kids_58 {k n : Int} (h : k = 5 ∨ k = 8) : kids k n = 1 := by unfold kids; rw [if_pos (by omega)]
theorem en_child {ts : List (Int × Int)} {f p e : Nat} (he : en ts (f + 1) p = some e) (hp : p < ts.length) (h : ts[p].1 = 5 ∨ ts[p].1 = 8) : en ts f (p + 1) = some e := by
  obtain ⟨_, _, hit⟩ := en_inv he
  rw [kids_58 h] at hit
  exact hit
theorem allTo_congr {g g' : Nat → Option Nat} {h h' : Nat → Bool} {a : Nat} : ∀ {n : Nat}, (∀ j, j < n → ∃ b, iter g a j = some b ∧ iter g' a j = some b ∧ h b = h' b) → allTo g h a n = allTo g' h' a n
  | 0, _ => rfl
  | n + 1, H => by
    obtain ⟨b, h1, h2, h3⟩ := H n (by omega)
    rw [allTo_succ h1, allTo_succ h2, allTo_congr (fun j hj => H j (by omega)), h3]
theorem pm_up {ts : List (Int × Int)} : ∀ {f a e : Nat}, en ts f a = some e → pm ts (f + 1) a = pm ts f a := by
  intro f
  induction f with
  | zero => intro a e h; cases h
  | succ f ih =>
    intro a e he
    obtain ⟨ha, hok, hit⟩ := en_inv he
    rw [pm_ok ha, pm_ok ha]
    congr 1
    refine allTo_congr (fun j hj => ?_)
    obtain ⟨b, hb⟩ := iter_part hit (show j ≤ kids ts[a].1 ts[a].2 by omega)
    obtain ⟨b', hb'⟩ := iter_part hit (show j + 1 ≤ kids ts[a].1 ts[a].2 by omega)
    rw [iter_succ, hb] at hb'
    have hbe : en ts f b = some b' := hb'
    have hbl : b < ts.length := by have := en_lt hbe; omega
    refine ⟨b, iter_mono (fun a e h => en_mono (Nat.le_succ f) h) hb, hb, ?_⟩
    rw [fdB_ok hbl, fdB_ok hbl]
    split
    · rename_i h58
      cases f with
      | zero => cases hbe
      | succ f =>
        have hc := en_mono (Nat.le_succ f) (en_child hbe hbl h58)
        have hcl : b + 1 < ts.length := by have := en_lt hc; omega
        rw [ppB_ok hcl, ppB_ok hcl, ih hc]
    · rw [ppB_ok hbl, ppB_ok hbl, ih hbe]
theorem TreeAt.belP {ts : List (Int × Int)} {f u a : Nat} {w w' : World} {S : Nat → Prop} (h : TreeAt ts f w S u a) (hS : ∀ c, S c → c < w.heap.size) (hb : Below w.heap.size w w') : TreeAt ts f w' S u a :=
  h.keep (fun _ h => h) (fun c hc => hb.block c (hS c hc))
theorem cell_1p {w : World} {u i : Nat} {v : Value} (h : w.cell? ⟨u, i, none⟩ = some v) (hu : u < w.heap.size) (o : Obj) : (w.alloc o).cell? ⟨u, i, none⟩ = some v := by
  rw [(bel1 w o).cell (p := ⟨u, i, none⟩) hu]; exact h
/-- The contract of admits, for trees of no more than F levels. -/
def PaHyp (ts : List (Int × Int)) (f : Nat) : Prop :=
  ∀ (u a : Nat) (w : World) (S : Nat → Prop), TreeAt ts f w S u a → (∀ c, S c → c < w.heap.size) → Calls Tryd.prog 100 #[.agg #[], .pointer (some ⟨u, 0, none⟩)] w fun e w' => e = .returned (.bool (pm ts f a)) ∧ Below w.heap.size w w'
/-- What the loop meets at a field: the type that must be a part. -/
theorem field_at {ts : List (Int × Int)} {f c p : Nat} {w : World} {S : Nat → Prop} (h : TreeAt ts f w S c p) (hS : ∀ c, S c → c < w.heap.size) : ∃ (k n : Int) (hp : p < ts.length), ts[p].1 = k ∧ ts[p].2 = n ∧ tyOk k n = true ∧ c < w.heap.size ∧ w.cell? ⟨c, 0, none⟩ = some (.int .i64 k) ∧ w.cell? ⟨c, 1, none⟩ = some (.int .i64 n) ∧
    ((k = 5 ∨ k = 8) → ∃ (g cap c' f' : Nat), f = f' + 1 ∧ w.cell? ⟨c, 5, none⟩ = some (.slice (some ⟨g, 0, none⟩) 1 cap) ∧ 1 ≤ cap ∧ cap ≤ maxLen ∧ w.cell? ⟨g, 0, none⟩ = some (.pointer (some ⟨c', 0, none⟩)) ∧ TreeAt ts f' w S c' (p + 1)) := by
  cases f with
  | zero => exact h.elim
  | succ f =>
    obtain ⟨hp, e, ad, cap, hok, hit, hu, c0, c1, c5, h3, h4, h5⟩ := h.openT
    refine ⟨_, _, hp, rfl, rfl, hok, hS c hu, c0, c1, fun h58 => ?_⟩
    rw [kids_58 h58] at c5 h3 h5
    obtain ⟨g, rfl, hk⟩ := h5.resolve_left (by omega)
    obtain ⟨c', p', hp', hc', ht'⟩ := hk 0 (by omega)
    cases hp'
    exact ⟨g, cap, c', f, rfl, c5, h3, h4, hc', ht'⟩
end Go.Proofs.YtocealohiflheaaDoor
