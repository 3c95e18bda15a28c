/- Items that a call makes: rows that it owns; the item of a node: contracts. -/
import Derived.Test.YtichgnddbnibjaaGreatDoorS3l
import Derived.Test.YtichgnddbnibjaaGreatDoorS7t
import Derived.Test.YtichgnddbnibjaaGreatDoorS7b
namespace Go.Proofs.YtichgnddbnibjaaGreatDoor
open Go.RowKit Go.Sort
set_option linter.unusedVariables false
/-- Items as cells. -/
def flatI (l : List It) : List Value := l.flatMap fun x => [.int .i64 x.k, .int .u64 x.n, .string x.s]
theorem flatI_len (l : List It) : (flatI l).length = l.length * 3 := by
  induction l with
  | nil => rfl
  | cons x r ih => simp [flatI] at ih ⊢; omega
theorem flatI_app (a b : List It) : flatI (a ++ b) = flatI a ++ flatI b := by simp [flatI]
theorem flatI_one (l : List It) : ∀ u ∈ flatI l, u.oneCell' = true := by
  intro u hu
  simp only [flatI, List.mem_flatMap] at hu
  obtain ⟨x, _, hx⟩ := hu
  simp only [List.mem_cons, List.not_mem_nil, or_false] at hx
  rcases hx with rfl | rfl | rfl <;> rfl
theorem flatI_at {l : List It} {i : Nat} (h : i < l.length) : (flatI l)[i * 3]? = some (.int .i64 l[i].k) ∧ (flatI l)[i * 3 + 1]? = some (.int .u64 l[i].n) ∧ (flatI l)[i * 3 + 2]? = some (.string l[i].s) := by
  induction l generalizing i with
  | nil => simp at h
  | cons x r ih =>
    have e : flatI (x :: r) = .int .i64 x.k :: .int .u64 x.n :: .string x.s :: flatI r := rfl
    cases i with
    | zero => simp [e]
    | succ i =>
      have := ih (i := i) (by simpa using h)
      rw [e]
      have e1 : (i + 1) * 3 = i * 3 + 3 := by omega
      rw [e1]
      simpa using this
/-- A slice of items that a call owns: its block lies from base on. -/
def OwnIt (base : Nat) (w : World) (v : Value) (l : List It) : Prop := w.ownsRow base 64 3 v l.length (flatI l)
theorem OwnIt.nil (base : Nat) (w : World) : OwnIt base w (.slice none 0 0) [] := World.ownsRow_nil _ _ _ _
theorem OwnIt.kept {base : Nat} {w w' : World} {v : Value} {l : List It} (h : OwnIt base w v l) (hb : Below w.heap.size w w') : OwnIt base w' v l := World.ownsRow.kept h (gb_bel hb) (by cases v.ownBlock <;> simp)
theorem OwnIt.form {base : Nat} {w : World} {v : Value} {l : List It} (h : OwnIt base w v l) : ∃ ad cap, v = .slice ad l.length cap ∧ l.length ≤ cap ∧ cap ≤ maxLen ∧ (l.length = 0 ∨ ∃ g, ad = some ⟨g, 0, none⟩) := by
  rcases h.2 with ⟨hv, h0⟩ | ⟨g, cap, cur, hv, hg, hh, h1, h2, _⟩
  · exact ⟨none, 0, by rw [hv, h0], by omega, by simp [maxLen], .inl h0⟩
  · exact ⟨_, cap, hv, h1, h2, .inr ⟨g, rfl⟩⟩
theorem OwnIt.items {base : Nat} {w : World} {v : Value} {l : List It} (h : OwnIt base w v l) (hs : l.length ≤ 1048577) (hwf : ∀ x ∈ l, inI x.k ∧ x.n < 18446744073709551616 ∧ x.s.size ≤ 1048577) : IsItems w.heap.size w v l := by
  obtain ⟨ad, cap, rfl, h1, h2, h3⟩ := h.form
  rcases h3 with h3 | ⟨g, rfl⟩
  · have hl : l = [] := List.eq_nil_of_length_eq_zero h3
    subst hl
    exact ⟨0, 0, cap, ⟨hs, h1, h2, hwf, .inl rfl, fun i hi => by simp at hi⟩, ad, by simp, .inl (by simp)⟩
  · refine ⟨g, 0, cap, ⟨hs, h1, h2, hwf, .inr (h.lt g rfl).2, fun i hi => ?_⟩, some ⟨g, 0, none⟩, by simp, .inr (by simp)⟩
    obtain ⟨e0, e1, e2⟩ := flatI_at hi
    have hc : ∀ m, m < (flatI l).length → w.cell? ⟨g, m, none⟩ = (flatI l)[m]? := fun m hm => World.ownsRow.cellAt h m (by rw [flatI_len] at hm; exact hm)
    have hl3 := flatI_len l
    simp only [Nat.zero_add]
    rw [hc _ (by omega), hc _ (by omega), hc _ (by omega)]
    exact ⟨e0, e1, e2⟩
theorem cell_1i {w : World} {u i : Nat} {v : Value} (h : w.cell? ⟨u, i, none⟩ = some v) (hu : u < w.heap.size) (o : Obj) : (w.alloc o).cell? ⟨u, i, none⟩ = some v := by
  rw [(bel1 w o).cell (p := ⟨u, i, none⟩) hu]; exact h
theorem cell_2i {w : World} {u i : Nat} {v : Value} (h : w.cell? ⟨u, i, none⟩ = some v) (hu : u < w.heap.size) (o o' : Obj) : ((w.alloc o).alloc o').cell? ⟨u, i, none⟩ = some v := by
  rw [(bel2 w o o').cell (p := ⟨u, i, none⟩) hu]; exact h
set_option maxHeartbeats 1000000 in
theorem item_num (u : Nat) (k : Int) (m : Nat) (w : World) (c0 : w.cell? ⟨u, 0, none⟩ = some (.int .i64 k)) (hu : u < w.heap.size) :
    Calls Tryz.prog 147 #[.agg #[.pointer (some ⟨u, 0, none⟩), .int .u64 (m : Int)]] w fun e w' => e = .returned (.agg #[.int .i64 k, .int .u64 (m : Int), .string ⟨#[]⟩]) ∧ Below w.heap.size w w' := by
  have r0 := cell_1i c0 hu (.cells #[.pointer (some ⟨u, 0, none⟩), .int .u64 (m : Int)] 136)
  have r1 := cell_2i c0 hu (.cells #[.pointer (some ⟨u, 0, none⟩), .int .u64 (m : Int)] 136) (.cells #[.int .i64 0, .int .u64 0, .string ⟨#[]⟩] 64)
  go_enter Tryz.func147, Tryz.ntmps147
  go_wp2_with fail
  go_region
  all_goals
    go_wp2_with fail
    exact bodyPost_ret (v := .agg #[.int .i64 k, .int .u64 (m : Int), .string ⟨#[]⟩]) (by simp [results, Tryz.results147, go_sem]) rfl ⟨rfl, by first | exact (bel2 _ _ _).drew | exact bel2 _ _ _⟩
set_option maxHeartbeats 1000000 in
theorem item_byt (u : Nat) (k : Int) (s : ByteArray) (w : World) (c0 : w.cell? ⟨u, 0, none⟩ = some (.int .i64 k)) (hu : u < w.heap.size) :
    Calls Tryz.prog 148 #[.agg #[.pointer (some ⟨u, 0, none⟩), .string s]] w fun e w' => e = .returned (.agg #[.int .i64 k, .int .u64 0, .string s]) ∧ Below w.heap.size w w' := by
  have r0 := cell_1i c0 hu (.cells #[.pointer (some ⟨u, 0, none⟩), .string s] 138)
  have r1 := cell_2i c0 hu (.cells #[.pointer (some ⟨u, 0, none⟩), .string s] 138) (.cells #[.int .i64 0, .int .u64 0, .string ⟨#[]⟩] 64)
  go_enter Tryz.func148, Tryz.ntmps148
  go_wp2_with fail
  go_region
  all_goals
    go_wp2_with fail
    exact bodyPost_ret (v := .agg #[.int .i64 k, .int .u64 0, .string s]) (by simp [results, Tryz.results148, go_sem]) rfl ⟨rfl, by first | exact (bel2 _ _ _).drew | exact bel2 _ _ _⟩
set_option maxHeartbeats 1000000 in
theorem item_cho (u : Nat) (k : Int) (m : Nat) (w : World) (c0 : w.cell? ⟨u, 0, none⟩ = some (.int .i64 k)) (hu : u < w.heap.size) :
    Calls Tryz.prog 150 #[.agg #[.pointer (some ⟨u, 0, none⟩), .int .u64 (m : Int), .nilIface]] w fun e w' => e = .returned (.agg #[.int .i64 k, .int .u64 (m : Int), .string ⟨#[]⟩]) ∧ Below w.heap.size w w' := by
  have r0 := cell_1i c0 hu (.cells #[.pointer (some ⟨u, 0, none⟩), .int .u64 (m : Int), .nilIface] 154)
  have r1 := cell_2i c0 hu (.cells #[.pointer (some ⟨u, 0, none⟩), .int .u64 (m : Int), .nilIface] 154) (.cells #[.int .i64 0, .int .u64 0, .string ⟨#[]⟩] 64)
  go_enter Tryz.func150, Tryz.ntmps150
  go_wp2_with fail
  go_region
  all_goals
    go_wp2_with fail
    exact bodyPost_ret (v := .agg #[.int .i64 k, .int .u64 (m : Int), .string ⟨#[]⟩]) (by simp [results, Tryz.results150, go_sem]) rfl ⟨rfl, by first | exact (bel2 _ _ _).drew | exact bel2 _ _ _⟩
set_option maxHeartbeats 1000000 in
theorem item_chi (u : Nat) (k : Int) (m : Nat) (T : TypeId) (z : Value) (w : World) (c0 : w.cell? ⟨u, 0, none⟩ = some (.int .i64 k)) (hu : u < w.heap.size) :
    Calls Tryz.prog 150 #[.agg #[.pointer (some ⟨u, 0, none⟩), .int .u64 (m : Int), .iface T z]] w fun e w' => e = .returned (.agg #[.int .i64 k, .int .u64 (m : Int), .string ⟨#[]⟩]) ∧ Below w.heap.size w w' := by
  have r0 := cell_1i c0 hu (.cells #[.pointer (some ⟨u, 0, none⟩), .int .u64 (m : Int), .iface T z] 154)
  have r1 := cell_2i c0 hu (.cells #[.pointer (some ⟨u, 0, none⟩), .int .u64 (m : Int), .iface T z] 154) (.cells #[.int .i64 0, .int .u64 0, .string ⟨#[]⟩] 64)
  go_enter Tryz.func150, Tryz.ntmps150
  go_wp2_with fail
  go_region
  all_goals
    go_wp2_with fail
    exact bodyPost_ret (v := .agg #[.int .i64 k, .int .u64 (m : Int), .string ⟨#[]⟩]) (by simp [results, Tryz.results150, go_sem]) rfl ⟨rfl, by first | exact (bel2 _ _ _).drew | exact bel2 _ _ _⟩
set_option maxHeartbeats 1000000 in
theorem item_ser (u : Nat) (k : Int) (m cap : Nat) (ad : Option Addr) (hm : m ≤ 20) (w : World) (c0 : w.cell? ⟨u, 0, none⟩ = some (.int .i64 k)) (hu : u < w.heap.size) :
    Calls Tryz.prog 149 #[.agg #[.pointer (some ⟨u, 0, none⟩), .slice ad m cap]] w fun e w' => e = .returned (.agg #[.int .i64 k, .int .u64 (m : Int), .string ⟨#[]⟩]) ∧ Below w.heap.size w w' := by
  have r0 := cell_1i c0 hu (.cells #[.pointer (some ⟨u, 0, none⟩), .slice ad m cap] 152)
  have r1 := cell_2i c0 hu (.cells #[.pointer (some ⟨u, 0, none⟩), .slice ad m cap] 152) (.cells #[.int .i64 0, .int .u64 0, .string ⟨#[]⟩] 64)
  go_enter Tryz.func149, Tryz.ntmps149
  go_wp2_with fail
  go_region
  all_goals
    go_wp2_with fail
    exact bodyPost_ret (v := .agg #[.int .i64 k, .int .u64 (m : Int), .string ⟨#[]⟩]) (by simp [results, Tryz.results149, go_sem]) rfl ⟨rfl, by first | exact (bel2 _ _ _).drew | exact bel2 _ _ _⟩
/-- A tree of a value of the type at place a, f levels being left: x, all of it in blocks of S; l: its items. -/
def DAt (ts : List (Int × Int)) : Nat → World → (Nat → Prop) → Value → Nat → List It → Prop
  | 0, _, _, _, _, _ => False
  | f + 1, w, S, x, a, l => ∃ (u : Nat) (it : It) (ha : a < ts.length), TreeAt ts (f + 1) w S u a ∧ fitsI ts[a].1 ts[a].2 it = true ∧ it.n < 18446744073709551616 ∧
      (((ts[a].1 = 1 ∨ ts[a].1 = 2) ∧ x = .iface 136 (.agg #[.pointer (some ⟨u, 0, none⟩), .int .u64 it.n]) ∧ l = [it]) ∨
       ((ts[a].1 = 3 ∨ ts[a].1 = 4) ∧ x = .iface 138 (.agg #[.pointer (some ⟨u, 0, none⟩), .string it.s]) ∧ l = [it]) ∨
       ((ts[a].1 = 5 ∨ ts[a].1 = 6 ∨ ts[a].1 = 7) ∧ ∃ (ad : Option Addr) (cap : Nat) (ls : List (List It)), x = .iface 152 (.agg #[.pointer (some ⟨u, 0, none⟩), .slice ad it.n cap]) ∧ ls.length = it.n ∧ l = it :: ls.flatten ∧ it.n ≤ cap ∧ cap ≤ maxLen ∧
          (it.n = 0 ∨ ∃ g, ad = some ⟨g, 0, none⟩ ∧ S g ∧ ∀ j (h : j < ls.length), ∃ y, w.cell? ⟨g, j, none⟩ = some y ∧ DAt ts f w S y (pl ts f a ts[a].1 it.n j) ls[j])) ∨
       ((ts[a].1 = 8 ∨ ts[a].1 = 9) ∧ ∃ (y : Value) (l' : List It), x = .iface 154 (.agg #[.pointer (some ⟨u, 0, none⟩), .int .u64 it.n, y]) ∧ l = it :: l' ∧
          ((np ts[a].1 it.n = 0 ∧ y = .nilIface ∧ l' = []) ∨ (0 < np ts[a].1 it.n ∧ DAt ts f w S y (pl ts f a ts[a].1 it.n 0) l'))))
theorem DAt.keep {ts : List (Int × Int)} {S S' : Nat → Prop} {w w' : World} (hS : ∀ b, S b → S' b) (hw : ∀ b, S b → w'.heap[b]? = w.heap[b]?) : ∀ {f : Nat} {x : Value} {a : Nat} {l : List It}, DAt ts f w S x a l → DAt ts f w' S' x a l := by
  intro f
  induction f with
  | zero => intro x a l h; exact h
  | succ f ih =>
    intro x a l h
    obtain ⟨u, it, ha, ht, hf, hn, h⟩ := h
    refine ⟨u, it, ha, ht.keep hS hw, hf, hn, ?_⟩
    rcases h with h | h | ⟨hk, ad, cap, ls, hx, hl, hl2, h1, h2, h3⟩ | ⟨hk, y, l', hx, hl, h1⟩
    · exact .inl h
    · exact .inr (.inl h)
    · refine .inr (.inr (.inl ⟨hk, ad, cap, ls, hx, hl, hl2, h1, h2, ?_⟩))
      rcases h3 with h3 | ⟨g, hg, hgS, hp⟩
      · exact .inl h3
      · refine .inr ⟨g, hg, hS g hgS, fun j hj => ?_⟩
        obtain ⟨y, hc, hv⟩ := hp j hj
        exact ⟨y, (World.cell?_of_block (w := w) (a := ⟨g, j, none⟩) (hw g hgS)).trans hc, ih hv⟩
    · refine .inr (.inr (.inr ⟨hk, y, l', hx, hl, ?_⟩))
      rcases h1 with h1 | ⟨h1, h2⟩
      · exact .inl h1
      · exact .inr ⟨h1, ih h2⟩
theorem DAt.iface {ts : List (Int × Int)} {f : Nat} {w : World} {S : Nat → Prop} {x : Value} {a : Nat} {l : List It} (h : DAt ts f w S x a l) : ∃ T z, x = .iface T z := by
  cases f with
  | zero => exact h.elim
  | succ f =>
    obtain ⟨u, it, ha, ht, hf, hn, h⟩ := h
    rcases h with ⟨_, h, _⟩ | ⟨_, h, _⟩ | ⟨_, ad, cap, ls, h, _⟩ | ⟨_, y, l', h, _⟩
    all_goals exact ⟨_, _, h⟩
theorem size_zero {s : ByteArray} (h : s.size = 0) : s = ⟨#[]⟩ := by
  obtain ⟨⟨l⟩⟩ := s
  have : l = [] := by simpa [ByteArray.size] using h
  subst this; rfl
/-- An item of a kind without bytes has none. -/
theorem fit_nos {k n : Int} {x : It} (hf : fitsI k n x = true) (h3 : k ≠ 3) (h4 : k ≠ 4) : x.s = ⟨#[]⟩ := by
  have hf' : x.k = k ∧ fitsN k n x.n = true ∧ fitsS k n x.s.size = true := by simpa [fitsI] using hf
  have := hf'.2.2
  rw [fitsS_rest h3 h4] at this
  exact size_zero (of_decide_eq_true this)
theorem fit_non {k n : Int} {x : It} (hf : fitsI k n x = true) (h : k = 3 ∨ k = 4) : x.n = 0 := by
  have hf' : x.k = k ∧ fitsN k n x.n = true ∧ fitsS k n x.s.size = true := by simpa [fitsI] using hf
  have h2 := hf'.2.1
  unfold fitsN at h2
  rw [if_neg (by omega), if_neg (by omega), if_neg (by omega), if_neg (by omega), if_neg (by omega)] at h2
  exact of_decide_eq_true h2
/-- How much a list of items has grown: what changes is what the old one owned; the new one lies there, or is new. -/
def Grew (w w' : World) (v v' : Value) : Prop := w.grownBy w' v.ownBlock ∧ ∀ g, v'.ownBlock = some g → v.ownBlock = some g ∨ w.heap.size ≤ g
theorem Grew.trans {w w1 w2 : World} {v v1 v2 : Value} (h : Grew w w1 v v1) (h' : Grew w1 w2 v1 v2) : Grew w w2 v v2 := by
  refine ⟨⟨h'.1.os.trans h.1.os, h'.1.tape.trans h.1.tape, h'.1.output.trans h.1.output, Nat.le_trans h.1.size h'.1.size, fun k hk hne => ?_⟩, fun g hg => ?_⟩
  · have h1 := h.1.size
    rw [h'.1.block k (by omega) (fun e => ?_), h.1.block k hk hne]
    rcases h.2 k e.symm with h2 | h2
    · exact hne h2.symm
    · omega
  · rcases h'.2 g hg with h2 | h2
    · exact h.2 g h2
    · exact .inr (Nat.le_trans h.1.size h2)
theorem Grew.of_below {w w' : World} {v : Value} (hb : Below w.heap.size w w') : Grew w w' v v := ⟨⟨hb.os, hb.tape, hb.output, hb.size, fun k hk _ => hb.block k hk⟩, fun g hg => .inl hg⟩
end Go.Proofs.YtichgnddbnibjaaGreatDoor
