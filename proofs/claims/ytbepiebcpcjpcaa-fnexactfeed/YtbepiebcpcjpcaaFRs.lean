/- A scope with five labels, between which the run jumps: what holds at each jump bears a number that each pass lowers. -/
import Derived.Test.YtbepiebcpcjpcaaL1f
import Derived.ScopeJumps
import Derived.WalkMore
import Derived.Deep.LoopGhost
namespace Go.Proofs.Ytbepiebcpcjpcaa
open Go.RowKit
set_option linter.unusedVariables false
/-- As Q; by a goto to one of the labels: J of that label. -/
def jumpsTo (J : Nat → Act → World → Prop) (Q : Exit → Act → World → Prop) : Exit → Act → World → Prop
  | .goto l, a, w => l < 5 ∧ J l a w
  | e, a, w => Q e a w
theorem jumpsTo_ret {J : Nat → Act → World → Prop} {Q : Exit → Act → World → Prop} {a : Act} {w : World} : jumpsTo J Q .ret a w = Q .ret a w := rfl
theorem jumpsTo_goto {J : Nat → Act → World → Prop} {Q : Exit → Act → World → Prop} {a : Act} {w : World} {l : Nat} (h : l < 5) (hj : J l a w) : jumpsTo J Q (.goto l) a w := ⟨h, hj⟩
def PassOf (P : Program) (Q : Exit → Act → World → Prop) (I : Nat → Nat → Act → World → Prop) (l : Nat) (r : Code) : Prop := ∀ n a w, I l n a w → ∀ K : Nat → Act → World → Prop, (∀ l' n' a' w', n' < n → I l' n' a' w' → K l' a' w') → r.wp P (jumpsTo K Q) a w
theorem wp_scope_labels {P : Program} {a : Act} {w : World} {Q : Exit → Act → World → Prop} {c r0 r1 r2 r3 r4 : Code} (I : Nat → Nat → Act → World → Prop)
    (h0 : findLabel c 0 = some (Code.seq .skip r0)) (h1 : findLabel c 1 = some r1) (h2 : findLabel c 2 = some r2) (h3 : findLabel c 3 = some r3) (h4 : findLabel c 4 = some r4)
    (first : PassOf P Q I 0 r0 → ∀ K : Nat → Act → World → Prop, (∀ l n a w, I l n a w → K l a w) → c.wp P (jumpsTo K Q) a w)
    (p0 : PassOf P Q I 0 r0) (p1 : PassOf P Q I 1 r1) (p2 : PassOf P Q I 2 r2) (p3 : PassOf P Q I 3 r3) (p4 : PassOf P Q I 4 r4) : (Code.scope c).wp P Q a w := by
  have hlab : ∀ l, l < 5 → ∃ r, findLabel c l = some r ∧ PassOf P Q I l r := fun l hl => by
    match l, hl with
    | 0, _ => exact ⟨_, h0, fun n a w hI K hK => wp_seq (wp_skip (p0 n a w hI K hK))⟩
    | 1, _ => exact ⟨r1, h1, p1⟩
    | 2, _ => exact ⟨r2, h2, p2⟩
    | 3, _ => exact ⟨r3, h3, p3⟩
    | 4, _ => exact ⟨r4, h4, p4⟩
    | l + 5, hl => omega
  intro b k cs
  have key : ∀ n l r a w, PassOf P Q I l r → I l n a w → ∃ e a' w', Q e a' w' ∧ Arrives P (lone (b.at a (.code r :: .inScope c :: k)) cs w) b k cs e a' w' := by
    intro n
    induction n using Nat.strongRecOn with
    | _ n ih =>
      intro l r a w hp hI
      obtain ⟨e, a₁, w₁, hq, harr⟩ := hp n a w hI (fun l' a' w' => ∃ n', n' < n ∧ I l' n' a' w') (fun l' n' a' w' h1 h2 => ⟨n', h1, h2⟩) b (.inScope c :: k) cs
      cases e with
      | normal => exact ⟨.normal, a₁, w₁, hq, Steps.trans harr (.one step_inScope)⟩
      | exit id => exact ⟨.exit id, a₁, w₁, hq, fun k' hk => harr k' (by simp [exitTo, hk])⟩
      | goto l' =>
        obtain ⟨hs, n', hlt, hI'⟩ := hq
        obtain ⟨r', hr', hp'⟩ := hlab l' hs
        have hg : gotoIn l' (.inScope c :: k) = some (.code r' :: .inScope c :: k) := by simp [gotoIn, hr']
        obtain ⟨e₂, a₂, w₂, hq₂, harr₂⟩ := ih n' hlt l' r' a₁ w₁ hp' hI'
        exact ⟨e₂, a₂, w₂, hq₂, .of_steps (harr _ hg) harr₂⟩
      | ret => exact ⟨_, a₁, w₁, hq, harr⟩
      | panic ch => exact ⟨_, a₁, w₁, hq, harr⟩
      | outgrown => exact ⟨_, a₁, w₁, hq, harr⟩
  obtain ⟨e, a₁, w₁, hq, harr⟩ := first p0 (fun l' a' w' => ∃ n', I l' n' a' w') (fun l' n' a' w' h2 => ⟨n', h2⟩) b (.inScope c :: k) cs
  cases e with
  | normal => exact ⟨.normal, a₁, w₁, hq, .head step_scope (Steps.trans harr (.one step_inScope))⟩
  | exit id => exact ⟨.exit id, a₁, w₁, hq, fun k' hk => .head step_scope (harr k' (by simp [exitTo, hk]))⟩
  | goto l' =>
    obtain ⟨hs, n', hI'⟩ := hq
    obtain ⟨r', hr', hp'⟩ := hlab l' hs
    have hg : gotoIn l' (.inScope c :: k) = some (.code r' :: .inScope c :: k) := by simp [gotoIn, hr']
    obtain ⟨e₂, a₂, w₂, hq₂, harr₂⟩ := key n' l' r' a₁ w₁ hp' hI'
    exact ⟨e₂, a₂, w₂, hq₂, .of_steps (.head step_scope (harr _ hg)) harr₂⟩
  | ret => exact ⟨_, a₁, w₁, hq, .of_steps (.one step_scope) harr⟩
  | panic ch => exact ⟨_, a₁, w₁, hq, .of_steps (.one step_scope) harr⟩
  | outgrown => exact ⟨_, a₁, w₁, hq, .of_steps (.one step_scope) harr⟩
end Go.Proofs.Ytbepiebcpcjpcaa
