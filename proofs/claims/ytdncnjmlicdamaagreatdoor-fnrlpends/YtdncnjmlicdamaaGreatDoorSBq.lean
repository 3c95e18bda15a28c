/- S7t, SAa, SBb, SBq: one text. -/
import Derived.Test.YtdncnjmlicdamaaGreatDoorS3f
import Derived.Test.YtdncnjmlicdamaaGreatDoorS3l
import Derived.Test.YtdncnjmlicdamaaGreatDoorS7b
import Derived.Test.YtdncnjmlicdamaaGreatDoorSBp
namespace Go.Proofs.YtdncnjmlicdamaaGreatDoor
open Go.RowKit Go.Sort
set_option linter.unusedVariables false
theorem as_yes_124 (v : Value) (W : World) : (Instr.typeAssert (.iface 124 v) 64 124 true).run Tryz.prog W = .ok (.tuple #[v, .bool true]) W := by kernel_rfl
theorem as_yes_126 (v : Value) (W : World) : (Instr.typeAssert (.iface 126 v) 64 126 true).run Tryz.prog W = .ok (.tuple #[v, .bool true]) W := by kernel_rfl
theorem as_yes_131 (v : Value) (W : World) : (Instr.typeAssert (.iface 131 v) 64 131 true).run Tryz.prog W = .ok (.tuple #[v, .bool true]) W := by kernel_rfl
theorem as_yes_133 (v : Value) (W : World) : (Instr.typeAssert (.iface 133 v) 64 133 true).run Tryz.prog W = .ok (.tuple #[v, .bool true]) W := by kernel_rfl
theorem as_no_126_124 (v : Value) (W : World) : (Instr.typeAssert (.iface 126 v) 64 124 true).run Tryz.prog W = .ok (.tuple #[.agg #[.pointer none, .int .u64 0], .bool false]) W := by kernel_rfl
theorem as_no_131_124 (v : Value) (W : World) : (Instr.typeAssert (.iface 131 v) 64 124 true).run Tryz.prog W = .ok (.tuple #[.agg #[.pointer none, .int .u64 0], .bool false]) W := by kernel_rfl
theorem as_no_133_124 (v : Value) (W : World) : (Instr.typeAssert (.iface 133 v) 64 124 true).run Tryz.prog W = .ok (.tuple #[.agg #[.pointer none, .int .u64 0], .bool false]) W := by kernel_rfl
theorem as_no_131_126 (v : Value) (W : World) : (Instr.typeAssert (.iface 131 v) 64 126 true).run Tryz.prog W = .ok (.tuple #[.agg #[.pointer none, .string ⟨#[]⟩], .bool false]) W := by kernel_rfl
theorem as_no_133_126 (v : Value) (W : World) : (Instr.typeAssert (.iface 133 v) 64 126 true).run Tryz.prog W = .ok (.tuple #[.agg #[.pointer none, .string ⟨#[]⟩], .bool false]) W := by kernel_rfl
theorem as_no_133_131 (v : Value) (W : World) : (Instr.typeAssert (.iface 133 v) 64 131 true).run Tryz.prog W = .ok (.tuple #[.agg #[.pointer none, .slice none 0 0], .bool false]) W := by kernel_rfl
theorem as_no_124_131 (v : Value) (W : World) : (Instr.typeAssert (.iface 124 v) 64 131 true).run Tryz.prog W = .ok (.tuple #[.agg #[.pointer none, .slice none 0 0], .bool false]) W := by kernel_rfl
theorem as_no_126_131 (v : Value) (W : World) : (Instr.typeAssert (.iface 126 v) 64 131 true).run Tryz.prog W = .ok (.tuple #[.agg #[.pointer none, .slice none 0 0], .bool false]) W := by kernel_rfl
theorem as_no_124_133 (v : Value) (W : World) : (Instr.typeAssert (.iface 124 v) 64 133 true).run Tryz.prog W = .ok (.tuple #[.agg #[.pointer none, .int .u64 0, .nilIface], .bool false]) W := by kernel_rfl
theorem as_no_126_133 (v : Value) (W : World) : (Instr.typeAssert (.iface 126 v) 64 133 true).run Tryz.prog W = .ok (.tuple #[.agg #[.pointer none, .int .u64 0, .nilIface], .bool false]) W := by kernel_rfl
end Go.Proofs.YtdncnjmlicdamaaGreatDoor
namespace Go.Proofs.YtdncnjmlicdamaaGreatDoor
open Go.RowKit Go.Sort
set_option linter.unusedVariables false
/-- Items as cells. -/
def flatI (l : List It) : List Value := l.flatMap fun x => [.int .i64 x.k, .int .u64 x.n, .string x.s]
theorem flatI_len (l : List It) : (flatI l).length = l.length * 3 := by
  induction l with
  | nil => rfl
  | cons x r ih => simp [flatI] at ih ⊢; omega
theorem flatI_app (a b : List It) : flatI (a ++ b) = flatI a ++ flatI b := by simp [flatI]
theorem flatI_one (l : List It) : ∀ u ∈ flatI l, u.oneCell' = true := by
  intro u hu
  simp only [flatI, List.mem_flatMap] at hu
  obtain ⟨x, _, hx⟩ := hu
  simp only [List.mem_cons, List.not_mem_nil, or_false] at hx
  rcases hx with rfl | rfl | rfl <;> rfl
theorem flatI_at {l : List It} {i : Nat} (h : i < l.length) : (flatI l)[i * 3]? = some (.int .i64 l[i].k) ∧ (flatI l)[i * 3 + 1]? = some (.int .u64 l[i].n) ∧ (flatI l)[i * 3 + 2]? = some (.string l[i].s) := by
  induction l generalizing i with
  | nil => simp at h
  | cons x r ih =>
    have e : flatI (x :: r) = .int .i64 x.k :: .int .u64 x.n :: .string x.s :: flatI r := rfl
    cases i with
    | zero => simp [e]
    | succ i =>
      have := ih (i := i) (by simpa using h)
      rw [e]
      have e1 : (i + 1) * 3 = i * 3 + 3 := by omega
      rw [e1]
      simpa using this
/-- A slice of items that a call owns: its block lies from base on. -/
def OwnIt (base : Nat) (w : World) (v : Value) (l : List It) : Prop := w.ownsRow base 52 3 v l.length (flatI l)
theorem OwnIt.nil (base : Nat) (w : World) : OwnIt base w (.slice none 0 0) [] := World.ownsRow_nil _ _ _ _
theorem OwnIt.kept {base : Nat} {w w' : World} {v : Value} {l : List It} (h : OwnIt base w v l) (hb : Below w.heap.size w w') : OwnIt base w' v l := World.ownsRow.kept h (gb_bel hb) (by cases v.ownBlock <;> simp)
theorem OwnIt.form {base : Nat} {w : World} {v : Value} {l : List It} (h : OwnIt base w v l) : ∃ ad cap, v = .slice ad l.length cap ∧ l.length ≤ cap ∧ cap ≤ maxLen ∧ (l.length = 0 ∨ ∃ g, ad = some ⟨g, 0, none⟩) := by
  rcases h.2 with ⟨hv, h0⟩ | ⟨g, cap, cur, hv, hg, hh, h1, h2, _⟩
  · exact ⟨none, 0, by rw [hv, h0], by omega, by simp [maxLen], .inl h0⟩
  · exact ⟨_, cap, hv, h1, h2, .inr ⟨g, rfl⟩⟩
theorem OwnIt.items {base : Nat} {w : World} {v : Value} {l : List It} (h : OwnIt base w v l) (hs : l.length ≤ 1048577) (hwf : ∀ x ∈ l, inI x.k ∧ x.n < 18446744073709551616 ∧ x.s.size ≤ 1048577) : IsItems w.heap.size w v l := by
  obtain ⟨ad, cap, rfl, h1, h2, h3⟩ := h.form
  rcases h3 with h3 | ⟨g, rfl⟩
  · have hl : l = [] := List.eq_nil_of_length_eq_zero h3
    subst hl
    exact ⟨0, 0, cap, ⟨hs, h1, h2, hwf, .inl rfl, fun i hi => by simp at hi⟩, ad, by simp, .inl (by simp)⟩
  · refine ⟨g, 0, cap, ⟨hs, h1, h2, hwf, .inr (h.lt g rfl).2, fun i hi => ?_⟩, some ⟨g, 0, none⟩, by simp, .inr (by simp)⟩
    obtain ⟨e0, e1, e2⟩ := flatI_at hi
    have hc : ∀ m, m < (flatI l).length → w.cell? ⟨g, m, none⟩ = (flatI l)[m]? := fun m hm => World.ownsRow.cellAt h m (by rw [flatI_len] at hm; exact hm)
    have hl3 := flatI_len l
    simp only [Nat.zero_add]
    rw [hc _ (by omega), hc _ (by omega), hc _ (by omega)]
    exact ⟨e0, e1, e2⟩
theorem cell_1i {w : World} {u i : Nat} {v : Value} (h : w.cell? ⟨u, i, none⟩ = some v) (hu : u < w.heap.size) (o : Obj) : (w.alloc o).cell? ⟨u, i, none⟩ = some v := by
  rw [(bel1 w o).cell (p := ⟨u, i, none⟩) hu]; exact h
theorem cell_2i {w : World} {u i : Nat} {v : Value} (h : w.cell? ⟨u, i, none⟩ = some v) (hu : u < w.heap.size) (o o' : Obj) : ((w.alloc o).alloc o').cell? ⟨u, i, none⟩ = some v := by
  rw [(bel2 w o o').cell (p := ⟨u, i, none⟩) hu]; exact h
set_option maxHeartbeats 1000000 in
theorem item_num (u : Nat) (k : Int) (m : Nat) (w : World) (c0 : w.cell? ⟨u, 0, none⟩ = some (.int .i64 k)) (hu : u < w.heap.size) :
    Calls Tryz.prog 121 #[.agg #[.pointer (some ⟨u, 0, none⟩), .int .u64 (m : Int)]] w fun e w' => e = .returned (.agg #[.int .i64 k, .int .u64 (m : Int), .string ⟨#[]⟩]) ∧ Below w.heap.size w w' := by
  have r0 := cell_1i c0 hu (.cells #[.pointer (some ⟨u, 0, none⟩), .int .u64 (m : Int)] 124)
  have r1 := cell_2i c0 hu (.cells #[.pointer (some ⟨u, 0, none⟩), .int .u64 (m : Int)] 124) (.cells #[.int .i64 0, .int .u64 0, .string ⟨#[]⟩] 52)
  go_enter Tryz.func121, Tryz.ntmps121
  go_wp2_with fail
  go_region
  all_goals
    go_wp2_with fail
    exact bodyPost_ret (v := .agg #[.int .i64 k, .int .u64 (m : Int), .string ⟨#[]⟩]) (by simp [results, Tryz.results121, go_sem]) rfl ⟨rfl, by first | exact (bel2 _ _ _).drew | exact bel2 _ _ _⟩
set_option maxHeartbeats 1000000 in
theorem item_byt (u : Nat) (k : Int) (s : ByteArray) (w : World) (c0 : w.cell? ⟨u, 0, none⟩ = some (.int .i64 k)) (hu : u < w.heap.size) :
    Calls Tryz.prog 122 #[.agg #[.pointer (some ⟨u, 0, none⟩), .string s]] w fun e w' => e = .returned (.agg #[.int .i64 k, .int .u64 0, .string s]) ∧ Below w.heap.size w w' := by
  have r0 := cell_1i c0 hu (.cells #[.pointer (some ⟨u, 0, none⟩), .string s] 126)
  have r1 := cell_2i c0 hu (.cells #[.pointer (some ⟨u, 0, none⟩), .string s] 126) (.cells #[.int .i64 0, .int .u64 0, .string ⟨#[]⟩] 52)
  go_enter Tryz.func122, Tryz.ntmps122
  go_wp2_with fail
  go_region
  all_goals
    go_wp2_with fail
    exact bodyPost_ret (v := .agg #[.int .i64 k, .int .u64 0, .string s]) (by simp [results, Tryz.results122, go_sem]) rfl ⟨rfl, by first | exact (bel2 _ _ _).drew | exact bel2 _ _ _⟩
set_option maxHeartbeats 1000000 in
theorem item_cho (u : Nat) (k : Int) (m : Nat) (w : World) (c0 : w.cell? ⟨u, 0, none⟩ = some (.int .i64 k)) (hu : u < w.heap.size) :
    Calls Tryz.prog 124 #[.agg #[.pointer (some ⟨u, 0, none⟩), .int .u64 (m : Int), .nilIface]] w fun e w' => e = .returned (.agg #[.int .i64 k, .int .u64 (m : Int), .string ⟨#[]⟩]) ∧ Below w.heap.size w w' := by
  have r0 := cell_1i c0 hu (.cells #[.pointer (some ⟨u, 0, none⟩), .int .u64 (m : Int), .nilIface] 133)
  have r1 := cell_2i c0 hu (.cells #[.pointer (some ⟨u, 0, none⟩), .int .u64 (m : Int), .nilIface] 133) (.cells #[.int .i64 0, .int .u64 0, .string ⟨#[]⟩] 52)
  go_enter Tryz.func124, Tryz.ntmps124
  go_wp2_with fail
  go_region
  all_goals
    go_wp2_with fail
    exact bodyPost_ret (v := .agg #[.int .i64 k, .int .u64 (m : Int), .string ⟨#[]⟩]) (by simp [results, Tryz.results124, go_sem]) rfl ⟨rfl, by first | exact (bel2 _ _ _).drew | exact bel2 _ _ _⟩
set_option maxHeartbeats 1000000 in
theorem item_chi (u : Nat) (k : Int) (m : Nat) (T : TypeId) (z : Value) (w : World) (c0 : w.cell? ⟨u, 0, none⟩ = some (.int .i64 k)) (hu : u < w.heap.size) :
    Calls Tryz.prog 124 #[.agg #[.pointer (some ⟨u, 0, none⟩), .int .u64 (m : Int), .iface T z]] w fun e w' => e = .returned (.agg #[.int .i64 k, .int .u64 (m : Int), .string ⟨#[]⟩]) ∧ Below w.heap.size w w' := by
  have r0 := cell_1i c0 hu (.cells #[.pointer (some ⟨u, 0, none⟩), .int .u64 (m : Int), .iface T z] 133)
  have r1 := cell_2i c0 hu (.cells #[.pointer (some ⟨u, 0, none⟩), .int .u64 (m : Int), .iface T z] 133) (.cells #[.int .i64 0, .int .u64 0, .string ⟨#[]⟩] 52)
  go_enter Tryz.func124, Tryz.ntmps124
  go_wp2_with fail
  go_region
  all_goals
    go_wp2_with fail
    exact bodyPost_ret (v := .agg #[.int .i64 k, .int .u64 (m : Int), .string ⟨#[]⟩]) (by simp [results, Tryz.results124, go_sem]) rfl ⟨rfl, by first | exact (bel2 _ _ _).drew | exact bel2 _ _ _⟩
set_option maxHeartbeats 1000000 in
theorem item_ser (u : Nat) (k : Int) (m cap : Nat) (ad : Option Addr) (hm : m ≤ 20) (w : World) (c0 : w.cell? ⟨u, 0, none⟩ = some (.int .i64 k)) (hu : u < w.heap.size) :
    Calls Tryz.prog 123 #[.agg #[.pointer (some ⟨u, 0, none⟩), .slice ad m cap]] w fun e w' => e = .returned (.agg #[.int .i64 k, .int .u64 (m : Int), .string ⟨#[]⟩]) ∧ Below w.heap.size w w' := by
  have r0 := cell_1i c0 hu (.cells #[.pointer (some ⟨u, 0, none⟩), .slice ad m cap] 131)
  have r1 := cell_2i c0 hu (.cells #[.pointer (some ⟨u, 0, none⟩), .slice ad m cap] 131) (.cells #[.int .i64 0, .int .u64 0, .string ⟨#[]⟩] 52)
  go_enter Tryz.func123, Tryz.ntmps123
  go_wp2_with fail
  go_region
  all_goals
    go_wp2_with fail
    exact bodyPost_ret (v := .agg #[.int .i64 k, .int .u64 (m : Int), .string ⟨#[]⟩]) (by simp [results, Tryz.results123, go_sem]) rfl ⟨rfl, by first | exact (bel2 _ _ _).drew | exact bel2 _ _ _⟩
/-- A tree of a value of the type at place a, f levels being left: x, all of it in blocks of S; l: its items. -/
def DAt (ts : List (Int × Int)) : Nat → World → (Nat → Prop) → Value → Nat → List It → Prop
  | 0, _, _, _, _, _ => False
  | f + 1, w, S, x, a, l => ∃ (u : Nat) (it : It) (ha : a < ts.length), TreeAt ts (f + 1) w S u a ∧ fitsI ts[a].1 ts[a].2 it = true ∧ it.n < 18446744073709551616 ∧
      (((ts[a].1 = 1 ∨ ts[a].1 = 2) ∧ x = .iface 124 (.agg #[.pointer (some ⟨u, 0, none⟩), .int .u64 it.n]) ∧ l = [it]) ∨
       ((ts[a].1 = 3 ∨ ts[a].1 = 4) ∧ x = .iface 126 (.agg #[.pointer (some ⟨u, 0, none⟩), .string it.s]) ∧ l = [it]) ∨
       ((ts[a].1 = 5 ∨ ts[a].1 = 6 ∨ ts[a].1 = 7) ∧ ∃ (ad : Option Addr) (cap : Nat) (ls : List (List It)), x = .iface 131 (.agg #[.pointer (some ⟨u, 0, none⟩), .slice ad it.n cap]) ∧ ls.length = it.n ∧ l = it :: ls.flatten ∧ it.n ≤ cap ∧ cap ≤ maxLen ∧
          (it.n = 0 ∨ ∃ g, ad = some ⟨g, 0, none⟩ ∧ S g ∧ ∀ j (h : j < ls.length), ∃ y, w.cell? ⟨g, j, none⟩ = some y ∧ DAt ts f w S y (pl ts f a ts[a].1 it.n j) ls[j])) ∨
       ((ts[a].1 = 8 ∨ ts[a].1 = 9) ∧ ∃ (y : Value) (l' : List It), x = .iface 133 (.agg #[.pointer (some ⟨u, 0, none⟩), .int .u64 it.n, y]) ∧ l = it :: l' ∧
          ((np ts[a].1 it.n = 0 ∧ y = .nilIface ∧ l' = []) ∨ (0 < np ts[a].1 it.n ∧ DAt ts f w S y (pl ts f a ts[a].1 it.n 0) l'))))
theorem DAt.keep {ts : List (Int × Int)} {S S' : Nat → Prop} {w w' : World} (hS : ∀ b, S b → S' b) (hw : ∀ b, S b → w'.heap[b]? = w.heap[b]?) : ∀ {f : Nat} {x : Value} {a : Nat} {l : List It}, DAt ts f w S x a l → DAt ts f w' S' x a l := by
  intro f
  induction f with
  | zero => intro x a l h; exact h
  | succ f ih =>
    intro x a l h
    obtain ⟨u, it, ha, ht, hf, hn, h⟩ := h
    refine ⟨u, it, ha, ht.keep hS hw, hf, hn, ?_⟩
    rcases h with h | h | ⟨hk, ad, cap, ls, hx, hl, hl2, h1, h2, h3⟩ | ⟨hk, y, l', hx, hl, h1⟩
    · exact .inl h
    · exact .inr (.inl h)
    · refine .inr (.inr (.inl ⟨hk, ad, cap, ls, hx, hl, hl2, h1, h2, ?_⟩))
      rcases h3 with h3 | ⟨g, hg, hgS, hp⟩
      · exact .inl h3
      · refine .inr ⟨g, hg, hS g hgS, fun j hj => ?_⟩
        obtain ⟨y, hc, hv⟩ := hp j hj
        exact ⟨y, (World.cell?_of_block (w := w) (a := ⟨g, j, none⟩) (hw g hgS)).trans hc, ih hv⟩
    · refine .inr (.inr (.inr ⟨hk, y, l', hx, hl, ?_⟩))
      rcases h1 with h1 | ⟨h1, h2⟩
      · exact .inl h1
      · exact .inr ⟨h1, ih h2⟩
theorem DAt.iface {ts : List (Int × Int)} {f : Nat} {w : World} {S : Nat → Prop} {x : Value} {a : Nat} {l : List It} (h : DAt ts f w S x a l) : ∃ T z, x = .iface T z := by
  cases f with
  | zero => exact h.elim
  | succ f =>
    obtain ⟨u, it, ha, ht, hf, hn, h⟩ := h
    rcases h with ⟨_, h, _⟩ | ⟨_, h, _⟩ | ⟨_, ad, cap, ls, h, _⟩ | ⟨_, y, l', h, _⟩
    all_goals exact ⟨_, _, h⟩
theorem size_zero {s : ByteArray} (h : s.size = 0) : s = ⟨#[]⟩ := by
  obtain ⟨⟨l⟩⟩ := s
  have : l = [] := by simpa [ByteArray.size] using h
  subst this; rfl
/-- An item of a kind without bytes has none. -/
theorem fit_nos {k n : Int} {x : It} (hf : fitsI k n x = true) (h3 : k ≠ 3) (h4 : k ≠ 4) : x.s = ⟨#[]⟩ := by
  have hf' : x.k = k ∧ fitsN k n x.n = true ∧ fitsS k n x.s.size = true := by simpa [fitsI] using hf
  have := hf'.2.2
  rw [fitsS_rest h3 h4] at this
  exact size_zero (of_decide_eq_true this)
theorem fit_non {k n : Int} {x : It} (hf : fitsI k n x = true) (h : k = 3 ∨ k = 4) : x.n = 0 := by
  have hf' : x.k = k ∧ fitsN k n x.n = true ∧ fitsS k n x.s.size = true := by simpa [fitsI] using hf
  have h2 := hf'.2.1
  unfold fitsN at h2
  rw [if_neg (by omega), if_neg (by omega), if_neg (by omega), if_neg (by omega), if_neg (by omega)] at h2
  exact of_decide_eq_true h2
/-- How much a list of items has grown: what changes is what the old one owned; the new one lies there, or is new. -/
def Grew (w w' : World) (v v' : Value) : Prop := w.grownBy w' v.ownBlock ∧ ∀ g, v'.ownBlock = some g → v.ownBlock = some g ∨ w.heap.size ≤ g
theorem Grew.trans {w w1 w2 : World} {v v1 v2 : Value} (h : Grew w w1 v v1) (h' : Grew w1 w2 v1 v2) : Grew w w2 v v2 := by
  refine ⟨⟨h'.1.os.trans h.1.os, h'.1.tape.trans h.1.tape, h'.1.output.trans h.1.output, Nat.le_trans h.1.size h'.1.size, fun k hk hne => ?_⟩, fun g hg => ?_⟩
  · have h1 := h.1.size
    rw [h'.1.block k (by omega) (fun e => ?_), h.1.block k hk hne]
    rcases h.2 k e.symm with h2 | h2
    · exact hne h2.symm
    · omega
  · rcases h'.2 g hg with h2 | h2
    · exact h.2 g h2
    · exact .inr (Nat.le_trans h.1.size h2)
theorem Grew.of_below {w w' : World} {v : Value} (hb : Below w.heap.size w w') : Grew w w' v v := ⟨⟨hb.os, hb.tape, hb.output, hb.size, fun k hk _ => hb.block k hk⟩, fun g hg => .inl hg⟩
end Go.Proofs.YtdncnjmlicdamaaGreatDoor
namespace Go.Proofs.YtdncnjmlicdamaaGreatDoor
open Go.RowKit Go.Sort
set_option linter.unusedVariables false
theorem wd_wid (k n : Int) : wd k n = wid k n := rfl
/-- The variable that says that bytes are none of a value holds that error. -/
def EFv (T : TypeId) (z : Value) (w : World) : Prop := 1 < w.heap.size ∧ w.cell? ⟨1, 0, none⟩ = some (.iface T z)
theorem EFv.below {T : TypeId} {z : Value} {w w' : World} (h : EFv T z w) (hb : Below w.heap.size w w') : EFv T z w' :=
  ⟨by have := h.1; have := hb.size; omega, by rw [hb.cell (p := ⟨1, 0, none⟩) h.1]; exact h.2⟩
def EF (w : World) : Prop := ∃ T z, EFv T z w
theorem EF.below {w w' : World} (h : EF w) (hb : Below w.heap.size w w') : EF w' := by
  obtain ⟨T, z, h⟩ := h
  exact ⟨T, z, h.below hb⟩
set_option maxRecDepth 100000 in
set_option maxHeartbeats 2000000 in
theorem readBytes_no (u : Nat) (k n : Int) (s : ByteArray) (w : World) (c0 : w.cell? ⟨u, 0, none⟩ = some (.int .i64 k)) (c1 : w.cell? ⟨u, 1, none⟩ = some (.int .i64 n)) (hok : tyOk k n = true) (hs : s.size ≤ 1048577) (hf : fitsS k n s.size = false) (T : TypeId) (z : Value) (he : EFv T z w) :
    Calls Tryz.prog 133 #[.pointer (some ⟨u, 0, none⟩), .string s] w fun e w' => e = .returned (.tuple #[.nilIface, .iface T z]) ∧ Below w.heap.size w w' := by
  have HC : Hid (∀ w, Calls Tryz.prog 68 #[.agg #[.int .i64 k, .int .i64 n], .string s] w fun e w' => e = .returned (.bool false) ∧ Below w.heap.size w w') := fun w => by rw [← hf]; exact bytesFit_any k n s w hok hs
  have HE : Hid (EFv T z w) := he
  clear hok hs hf he
  go_enter Tryz.func133, Tryz.ntmps133
  go_wp2_with fail
  refine (HC.out _).mono ?_
  rintro e w1 ⟨rfl, hb1⟩
  obtain ⟨e1, e2⟩ := EFv.below HE.out hb1
  have HB1 : Hid (Below w.heap.size w w1) := hb1
  clear hb1
  go_wp2_with fail
  go_region
  all_goals
    go_wp2_with fail
    go_ret2
    exact ⟨rfl, by first | exact HB1.out | exact HB1.out.drew⟩
set_option maxRecDepth 100000 in
set_option maxHeartbeats 2000000 in
theorem readBytes_yes (u : Nat) (k n : Int) (s : ByteArray) (w : World) (c0 : w.cell? ⟨u, 0, none⟩ = some (.int .i64 k)) (c1 : w.cell? ⟨u, 1, none⟩ = some (.int .i64 n)) (hok : tyOk k n = true) (hs : s.size ≤ 1048577) (hf : fitsS k n s.size = true) :
    Calls Tryz.prog 133 #[.pointer (some ⟨u, 0, none⟩), .string s] w fun e w' => e = .returned (.tuple #[.iface 126 (.agg #[.pointer (some ⟨u, 0, none⟩), .string s]), .nilIface]) ∧ Below w.heap.size w w' := by
  have HC : Hid (∀ w, Calls Tryz.prog 68 #[.agg #[.int .i64 k, .int .i64 n], .string s] w fun e w' => e = .returned (.bool true) ∧ Below w.heap.size w w') := fun w => by rw [← hf]; exact bytesFit_any k n s w hok hs
  have HL : Hid (∀ w, Calls Tryz.prog 33 #[.string s] w fun e w' => e = .returned (.string s) ∧ Below w.heap.size w w') := fun w => clone_any s w (by omega)
  clear hok hs hf
  go_enter Tryz.func133, Tryz.ntmps133
  go_wp2_with fail
  refine (HC.out _).mono ?_
  rintro e w1 ⟨rfl, hb1⟩
  have HB1 : Hid (Below w.heap.size w w1) := hb1
  clear hb1
  go_wp2_with fail
  refine (HL.out _).mono ?_
  rintro e w2 ⟨rfl, hb2⟩
  have HB2 : Hid (Below w.heap.size w w2) := HB1.out.trans (hb2.mono HB1.out.size)
  clear hb2
  go_wp2_with fail
  go_ret2
  exact ⟨rfl, HB2.out⟩
end Go.Proofs.YtdncnjmlicdamaaGreatDoor
namespace Go.Proofs.YtdncnjmlicdamaaGreatDoor
set_option linter.unusedVariables false
theorem scD_at {get : List UInt8 → Nat × Nat × Bool} {ts : List (Int × Int)} {f a : Nat} {b : List UInt8} (ha : a < ts.length) : scD get ts (f + 1) a b = (oneD get ts[a].1 ts[a].2 b).bind fun x => if fitsI ts[a].1 ts[a].2 x.1 then (partsD (scD get ts f) (pl ts f a ts[a].1 x.1.n) b x.2 (np ts[a].1 x.1.n)).map fun y => (x.1 :: y.1.flatten, y.2) else none := by
  simp [scD, List.getElem?_eq_getElem ha]
theorem scD_one {get : List UInt8 → Nat × Nat × Bool} {ts : List (Int × Int)} {f a h : Nat} {b : List UInt8} {x : It} (ha : a < ts.length) (h1 : oneD get ts[a].1 ts[a].2 b = some (x, h)) (h2 : fitsI ts[a].1 ts[a].2 x = true) : scD get ts (f + 1) a b = (partsD (scD get ts f) (pl ts f a ts[a].1 x.n) b h (np ts[a].1 x.n)).map fun y => (x :: y.1.flatten, y.2) := by
  rw [scD_at ha, h1]; simp [h2]
theorem scD_leaf {get : List UInt8 → Nat × Nat × Bool} {ts : List (Int × Int)} {f a h : Nat} {b : List UInt8} {x : It} (ha : a < ts.length) (h1 : oneD get ts[a].1 ts[a].2 b = some (x, h)) (h2 : fitsI ts[a].1 ts[a].2 x = true) (h3 : np ts[a].1 x.n = 0) : scD get ts (f + 1) a b = some ([x], h) := by
  rw [scD_one ha h1 h2, h3]; simp [partsD]
theorem scD_no {get : List UInt8 → Nat × Nat × Bool} {ts : List (Int × Int)} {f a : Nat} {b : List UInt8} (ha : a < ts.length) (h1 : oneD get ts[a].1 ts[a].2 b = none) : scD get ts (f + 1) a b = none := by
  rw [scD_at ha, h1]; rfl
theorem scD_bad {get : List UInt8 → Nat × Nat × Bool} {ts : List (Int × Int)} {f a h : Nat} {b : List UInt8} {x : It} (ha : a < ts.length) (h1 : oneD get ts[a].1 ts[a].2 b = some (x, h)) (h2 : fitsI ts[a].1 ts[a].2 x = false) : scD get ts (f + 1) a b = none := by
  rw [scD_at ha, h1]; simp [h2]
theorem partsD_succ (d : Nat → List UInt8 → Option (List It × Nat)) (ps : Nat → Nat) (b : List UInt8) (h j : Nat) : partsD d ps b h (j + 1) = (partsD d ps b h j).bind fun x => (d (ps j) (b.drop x.2)).map fun y => (x.1 ++ [y.1], x.2 + y.2) := rfl
theorem partsD_none {d : Nat → List UInt8 → Option (List It × Nat)} {ps : Nat → Nat} {b : List UInt8} {h j : Nat} (hj : partsD d ps b h j = none) : ∀ n, j ≤ n → partsD d ps b h n = none := by
  intro n hn
  induction n with
  | zero =>
    have : j = 0 := by omega
    subst this; exact hj
  | succ n ih =>
    by_cases e : j = n + 1
    · subst e; exact hj
    · rw [partsD_succ, ih (by omega)]; rfl
theorem partsD_one (d : Nat → List UInt8 → Option (List It × Nat)) (ps : Nat → Nat) (b : List UInt8) (h : Nat) : partsD d ps b h 1 = (d (ps 0) (b.drop h)).map fun y => ([y.1], h + y.2) := by
  simp [partsD]
theorem fitsI_num {k n : Int} {m : Nat} (h3 : k ≠ 3) (h4 : k ≠ 4) : fitsI k n ⟨k, m, ⟨#[]⟩⟩ = fitsN k n m := by
  simp [fitsI, fitsS, h3, h4, ByteArray.size]
theorem fitsN_flat {k n : Int} (h : k = 3 ∨ k = 4) : fitsN k n 0 = true := by
  rcases h with rfl | rfl <;> simp [fitsN]
theorem fitsI_str {k n : Int} {s : ByteArray} (h : k = 3 ∨ k = 4) : fitsI k n ⟨k, 0, s⟩ = fitsS k n s.size := by
  simp [fitsI, fitsN_flat h]
theorem oneD_num {get : List UInt8 → Nat × Nat × Bool} {k n : Int} {b : List UInt8} (h : k = 1 ∨ k = 2 ∨ k = 8 ∨ k = 9) : oneD get k n b = if wd k n ≤ b.length then some (⟨k, leV (b.take (wd k n)), ⟨#[]⟩⟩, wd k n) else none := by
  unfold oneD; rw [if_pos h]
/-- A number that is none. -/
theorem scD_numNo {get : List UInt8 → Nat × Nat × Bool} {ts : List (Int × Int)} {f a : Nat} {b : List UInt8} (ha : a < ts.length) (hk : ts[a].1 = 1 ∨ ts[a].1 = 2 ∨ ts[a].1 = 8 ∨ ts[a].1 = 9) (h : b.length < wd ts[a].1 ts[a].2 ∨ fitsN ts[a].1 ts[a].2 (leV (b.take (wd ts[a].1 ts[a].2))) = false) : scD get ts (f + 1) a b = none := by
  by_cases hl : wd ts[a].1 ts[a].2 ≤ b.length
  · refine scD_bad ha (by rw [oneD_num hk, if_pos hl]) ?_
    rw [fitsI_num (by omega) (by omega)]
    exact h.resolve_left (by omega)
  · exact scD_no ha (by rw [oneD_num hk, if_neg hl])
theorem ex_list (s : ByteArray) (m : Nat) : (s.extract m s.size).data.toList = s.data.toList.drop m := by
  rw [ByteArray.data_extract, Array.toList_extract, List.extract_eq_take_drop]
  exact List.take_of_length_le (by rw [List.length_drop, Array.length_toList]; exact Nat.le_refl _)
theorem ex_sz (s : ByteArray) (m : Nat) : (s.extract m s.size).size = s.size - m := by simp
theorem ba_ext {s t : ByteArray} (h : s.data.toList = t.data.toList) : s = t := by
  obtain ⟨⟨l⟩⟩ := s
  obtain ⟨⟨l'⟩⟩ := t
  simp at h; subst h; rfl
theorem ex_ex (s : ByteArray) (m k : Nat) : (s.extract m s.size).extract k (s.extract m s.size).size = s.extract (m + k) s.size := by
  apply ba_ext
  rw [ex_list, ex_list, ex_list, List.drop_drop]
theorem ex_pre (s : ByteArray) (m : Nat) : (s.extract 0 m).data.toList = s.data.toList.take m := by
  rw [ByteArray.data_extract, Array.toList_extract, List.extract_eq_take_drop]
  simp
theorem ex_mid (s : ByteArray) (h m : Nat) : (⟨((s.data.toList.drop h).take m).toArray⟩ : ByteArray) = (s.extract h s.size).extract 0 m := by
  apply ba_ext
  rw [ex_pre, ex_list]
theorem ex_head (s : ByteArray) (m : Nat) : (⟨(s.data.toList.take m).toArray⟩ : ByteArray) = s.extract 0 m := by
  apply ba_ext
  rw [ex_pre]
theorem ex_zero (s : ByteArray) : s.extract 0 s.size = s := by
  apply ba_ext
  rw [ex_list]; rfl
theorem lst_len (s : ByteArray) : s.data.toList.length = s.size := Array.length_toList
/-- A part that is taken lies within. -/
theorem partsD_le {d : Nat → List UInt8 → Option (List It × Nat)} {ps : Nat → Nat} {b : List UInt8} {h : Nat} (hb : h ≤ b.length) (hd : ∀ a c l m, d a c = some (l, m) → m ≤ c.length) : ∀ {j m : Nat} {ls : List (List It)}, partsD d ps b h j = some (ls, m) → h ≤ m ∧ m ≤ b.length := by
  intro j
  induction j with
  | zero => intro m ls hp; simp only [partsD, Option.some.injEq, Prod.mk.injEq] at hp; omega
  | succ j ih =>
    intro m ls hp
    rw [partsD_succ] at hp
    obtain ⟨⟨ls1, m1⟩, q1, q2⟩ := Option.bind_eq_some_iff.1 hp
    obtain ⟨⟨l2, m2⟩, q3, q4⟩ := Option.map_eq_some_iff.1 q2
    simp only [Prod.mk.injEq] at q4
    have := ih q1
    have := hd _ _ _ _ q3
    rw [List.length_drop] at this
    omega
end Go.Proofs.YtdncnjmlicdamaaGreatDoor
