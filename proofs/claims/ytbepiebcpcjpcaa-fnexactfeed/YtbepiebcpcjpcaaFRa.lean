/- Frames as plain lists. -/
import Derived.Test.YtbepiebcpcjpcaaL1f
import Derived.Test.YtbepiebcpcjpcaaSh
namespace Go.Proofs.Ytbepiebcpcjpcaa
open Go.RowKit
set_option linter.unusedVariables false
/-- A frame. -/
structure Fr where
  f : Nat
  k : Nat
  d : ByteArray
/-- What bytes begin with: no frame's bytes, a beginning of some, or a frame: its format, kind, how many bytes of data, how many ahead of these. -/
inductive Tk where
  | none : Tk
  | more : Tk
  | whole (a k n h : Nat) : Tk
def tkD (a k n h : Nat) (r : List UInt8) : Tk := if r.length < n then .more else .whole a k n h
def tkM (a k c : Nat) : List UInt8 → Tk
  | [] => .more
  | d :: r => if 128 ≤ d.toNat ∨ d.toNat = 0 ∨ 1000 < c % 128 + 128 * d.toNat then .none else tkD a k (c % 128 + 128 * d.toNat) 4 r
def tkL (a k : Nat) : List UInt8 → Tk
  | [] => .more
  | c :: r => if c.toNat < 128 then tkD a k c.toNat 3 r else tkM a k c.toNat r
def tkK (a : Nat) : List UInt8 → Tk
  | [] => .more
  | k :: r => if k.toNat < 1 ∨ 4 < k.toNat then .none else tkL a k.toNat r
def tk : List UInt8 → Tk
  | [] => .more
  | a :: r => if a.toNat < 1 ∨ 5 < a.toNat then .none else tkK a.toNat r
theorem tkD_at {a k n h n' h' a' k' : Nat} {r : List UInt8} (e : tkD a k n h r = .whole a' k' n' h') : a' = a ∧ k' = k ∧ n' = n ∧ h' = h ∧ n ≤ r.length := by
  unfold tkD at e
  split at e
  · cases e
  · cases e; exact ⟨rfl, rfl, rfl, rfl, by omega⟩
theorem tk_whole {l : List UInt8} {a k n h : Nat} (e : tk l = .whole a k n h) : 1 ≤ a ∧ a ≤ 5 ∧ 1 ≤ k ∧ k ≤ 4 ∧ n ≤ 1000 ∧ 3 ≤ h ∧ h ≤ 4 ∧ h + n ≤ l.length := by
  cases l with
  | nil => simp [tk] at e
  | cons a0 r =>
    rw [tk] at e
    split at e
    · cases e
    · cases r with
      | nil => simp [tkK] at e
      | cons k0 r =>
        rw [tkK] at e
        split at e
        · cases e
        · cases r with
          | nil => simp [tkL] at e
          | cons c r =>
            rw [tkL] at e
            split at e
            · obtain ⟨rfl, rfl, rfl, rfl, hl⟩ := tkD_at e
              simp only [List.length_cons]; omega
            · cases r with
              | nil => simp [tkM] at e
              | cons d r =>
                rw [tkM] at e
                split at e
                · cases e
                · obtain ⟨rfl, rfl, rfl, rfl, hl⟩ := tkD_at e
                  simp only [List.length_cons]; omega
/-- The frame that is told. -/
def frAt (l : List UInt8) (a k n h : Nat) : Fr := ⟨a, k, ⟨((l.drop h).take n).toArray⟩⟩
/-- The frames that bytes begin with, where they end, and whether one may still come. -/
def fsF : Nat → List UInt8 → List Fr × Nat × Bool
  | 0, _ => ([], 0, true)
  | f + 1, l => match tk l with
    | .none => ([], 0, false)
    | .more => ([], 0, true)
    | .whole a k n h => (frAt l a k n h :: (fsF f (l.drop (h + n))).1, h + n + (fsF f (l.drop (h + n))).2.1, (fsF f (l.drop (h + n))).2.2)
def fs (l : List UInt8) : List Fr × Nat × Bool := fsF (l.length + 1) l
theorem fsF_same : ∀ (f g : Nat) (l : List UInt8), l.length < f → l.length < g → fsF f l = fsF g l
  | 0, _, _, h, _ => by omega
  | _ + 1, 0, _, _, h => by omega
  | f + 1, g + 1, l, h1, h2 => by
    rw [fsF, fsF]
    cases e : tk l with
    | none => rfl
    | more => rfl
    | whole a k n h =>
      have hw := tk_whole e
      have := fsF_same f g (l.drop (h + n)) (by simp; omega) (by simp; omega)
      simp only [this]
theorem fs_none {l : List UInt8} (e : tk l = .none) : fs l = ([], 0, false) := by unfold fs; rw [fsF, e]
theorem fs_more {l : List UInt8} (e : tk l = .more) : fs l = ([], 0, true) := by unfold fs; rw [fsF, e]
theorem fs_whole {l : List UInt8} {a k n h : Nat} (e : tk l = .whole a k n h) : fs l = (frAt l a k n h :: (fs (l.drop (h + n))).1, h + n + (fs (l.drop (h + n))).2.1, (fs (l.drop (h + n))).2.2) := by
  have hw := tk_whole e
  have e1 : fs (l.drop (h + n)) = fsF l.length (l.drop (h + n)) := fsF_same _ _ _ (by simp) (by simp; omega)
  rw [e1]
  unfold fs
  rw [fsF, e]
theorem fs_bound (m : Nat) : ∀ l : List UInt8, l.length ≤ m → (fs l).2.1 ≤ l.length ∧ (fs l).1.length * 3 ≤ (fs l).2.1 ∧ tk (l.drop (fs l).2.1) = (if (fs l).2.2 then .more else .none) := by
  induction m with
  | zero =>
    intro l hl
    have : l = [] := List.eq_nil_of_length_eq_zero (by omega)
    subst this
    rw [fs_more rfl]
    simp [tk]
  | succ m ih =>
    intro l hl
    cases e : tk l with
    | none => rw [fs_none e]; simp [e]
    | more => rw [fs_more e]; simp [e]
    | whole a k n h =>
      have hw := tk_whole e
      rw [fs_whole e]
      obtain ⟨h1, h2, h3⟩ := ih (l.drop (h + n)) (by simp; omega)
      simp only [List.length_drop, List.length_cons] at h1 h2 h3 ⊢
      rw [List.drop_drop] at h3
      exact ⟨by omega, by omega, h3⟩
theorem fs_zero (l : List UInt8) : decide ((fs l).2.1 = 0) && (fs l).2.2 = true ↔ tk l = .more := by
  cases e : tk l with
  | none => rw [fs_none e]; simp
  | more => rw [fs_more e]; simp
  | whole a k n h =>
    have hw := tk_whole e
    rw [fs_whole e]
    simp
    omega
/-- How far it has come: l, told, up to p. -/
def At (b : List UInt8) (l : List Fr) (p : Nat) : Prop := p ≤ b.length ∧ fs b = (l ++ (fs (b.drop p)).1, p + (fs (b.drop p)).2.1, (fs (b.drop p)).2.2)
theorem At.zero (b : List UInt8) : At b [] 0 := ⟨by omega, by simp⟩
theorem At.next {b : List UInt8} {l : List Fr} {p a k n h : Nat} (h0 : At b l p) (e : tk (b.drop p) = .whole a k n h) : At b (l ++ [frAt (b.drop p) a k n h]) (p + (h + n)) := by
  obtain ⟨h1, h2⟩ := h0
  have hw := tk_whole e
  simp only [List.length_drop] at hw
  refine ⟨by omega, ?_⟩
  rw [h2, fs_whole e, List.drop_drop]
  simp only [List.append_assoc, List.cons_append, List.nil_append, Nat.add_assoc]
theorem At.done {b : List UInt8} {l : List Fr} {p : Nat} (h0 : At b l p) {g : Bool} (e : tk (b.drop p) = (if g then .more else .none)) : fs b = (l, p, g) := by
  rw [h0.2]
  cases g with
  | true => rw [fs_more (by simpa using e)]; simp
  | false => rw [fs_none (by simpa using e)]; simp
end Go.Proofs.Ytbepiebcpcjpcaa
