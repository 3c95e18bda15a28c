/- PVSa, PVSb, PVSc: one text. -/
import Derived.Test.YtipmckdlnipgkaaGreatDoorHVe
import Derived.Deep.LoopGhost
import Derived.Deep.RegionHeld3
import Derived.Deep.RegionLaw
import Derived.Deep.AppendLies
import Derived.Deep.RegionWith
import Derived.Test.YtipmckdlnipgkaaGreatDoorHVc
import Derived.Laws.EntriesVeiled
namespace Go.Proofs.YtipmckdlnipgkaaGreatDoor
open Go.RowKit Go.Sort
set_option linter.unusedVariables false

abbrev Pa := Nat × ByteArray
def wfP (l : List Pa) : Prop := ∀ x ∈ l, x.1 < 18446744073709551616 ∧ x.2.size ≤ maxLen
def smP (l : List Pa) : Prop := ∀ x ∈ l, x.1 < 18446744073709551616 ∧ x.2.size ≤ 1048576
theorem smP_take {l : List Pa} {j : Nat} (hw : wfP l) (hlt : j < l.length) (h : ∀ x ∈ l.take j, x.2.size ≤ 1048576) (hs : l[j].2.size ≤ 1048576) : ∀ x ∈ l.take (j + 1), x.2.size ≤ 1048576 := by
  intro x hx
  rw [List.take_succ_eq_append_getElem hlt] at hx
  rcases List.mem_append.1 hx with hx | hx
  · exact h x hx
  · simp at hx; subst hx; exact hs

/-- A slice of parts, in memory below B. -/
def IsS (B : Nat) (w : World) (v : Value) (l : List Pa) : Prop := ∃ ad C, v = .slice ad l.length C ∧ l.length ≤ C ∧ C ≤ maxLen ∧ (l.length = 0 ∨ ∃ b o, ad = some ⟨b, o, none⟩ ∧ b < B ∧ ∀ i (h : i < l.length), w.cell? ⟨b, o + i, none⟩ = some (.string l[i].2))
theorem IsS.below {B : Nat} {w w' : World} {v : Value} {l : List Pa} (h : IsS B w v l) (hb : Below B w w') : IsS B w' v l := by
  obtain ⟨ad, C, h1, h2, h3, h4⟩ := h
  refine ⟨ad, C, h1, h2, h3, ?_⟩
  rcases h4 with h4 | ⟨b, o, a1, a2, a3⟩
  · exact .inl h4
  · exact .inr ⟨b, o, a1, a2, fun i hi => by
      have := a3 i hi
      rw [hb.cell (p := ⟨b, o + i, none⟩) a2]
      exact this⟩
theorem IsS.up {B B' : Nat} {w : World} {v : Value} {l : List Pa} (h : IsS B w v l) (hB : B ≤ B') : IsS B' w v l := by
  obtain ⟨ad, C, h1, h2, h3, h4⟩ := h
  refine ⟨ad, C, h1, h2, h3, ?_⟩
  rcases h4 with h4 | ⟨b, o, a1, a2, a3⟩
  · exact .inl h4
  · exact .inr ⟨b, o, a1, by omega, a3⟩
theorem IsS.blk {B g n C : Nat} {w w' : World} {l : List Pa} (h : IsS B w (.slice (some ⟨g, 0, none⟩) n C) l) (hb : w'.heap[g]? = w.heap[g]?) : IsS B w' (.slice (some ⟨g, 0, none⟩) n C) l := by
  obtain ⟨ad, C, h1, h2, h3, h4⟩ := h
  refine ⟨ad, C, h1, h2, h3, ?_⟩
  rcases h4 with h4 | ⟨b, o, a1, a2, a3⟩
  · exact .inl h4
  · subst a1
    cases h1
    exact .inr ⟨g, 0, rfl, a2, fun i hi => by
      have := a3 i hi
      rw [World.cell?_of_block (w := w) (w' := w') (a := ⟨g, 0 + i, none⟩) hb]
      exact this⟩
set_option maxHeartbeats 400000 in
theorem szSs_big (ad : Option Addr) (len cap L : Nat) (w : World) (hL : L ≤ 1048576) (hl : len ≤ maxLen) (h : L < len) : Calls Tryz.prog 55 #[.slice ad len cap, .int .i64 (L : Int)] w fun e w' => e = .returned (.int .i64 (-1)) ∧ Below w.heap.size w w' := by
  unfold maxLen at hl
  have h' : (L : Int) - (len : Int) < 0 := by omega
  go_enter Tryz.func55, Tryz.ntmps55
  go_wp2
  go_ret
  exact ⟨rfl, Below.refl _ _⟩
set_option maxRecDepth 100000 in
set_option maxHeartbeats 1000000 in
theorem szSs_any (l : List Pa) (v : Value) (L : Nat) (w : World) (hL : L ≤ 1048576) (h : l.length ≤ L) (hw : wfP l) (hv : IsS w.heap.size w v l) : Calls Tryz.prog 55 #[v, .int .i64 (L : Int)] w fun e w' => (∃ r : Int, e = .returned (.int .i64 r) ∧ (r = -1 ∨ (0 ≤ r ∧ smP l))) ∧ Below w.heap.size w w' := by
  have HV : Hid (IsS w.heap.size w v l) := hv
  have HW : Hid (wfP l) := hw
  obtain ⟨ad, C, rfl, hC, hm, _⟩ := hv
  unfold maxLen at hm
  obtain ⟨M, hM⟩ : ∃ M : Nat, (L : Int) - (l.length : Int) = (M : Int) := ⟨L - l.length, by omega⟩
  have hMl : M ≤ 1048576 := by omega
  have hMn : ¬ (M : Int) < 0 := by omega
  clear hw
  go_enter Tryz.func55, Tryz.ntmps55
  go_wp2_with fail
  go_loopg [1, 5] l.length (fun gk y i wr => ∃ j z : Nat, j + gk = l.length ∧ i = .int .i64 j ∧ y = .int .i64 z ∧ z ≤ 1048576 ∧ (∀ x ∈ l.take j, x.2.size ≤ 1048576) ∧ Below w.heap.size w wr)
  case atStart => exact ⟨0, M, by omega, rfl, by first | rfl | (rw [← hM]; first | rfl | go_num), hMl, by simp, Below.refl _ _⟩
  case round =>
    clear hM hMl hMn
    obtain ⟨j, z, hj', rfl, rfl, hz, hall, hbel⟩ := hrel
    have HJ : Hid (j + gk = l.length) := hj'
    have HA : Hid (∀ x ∈ l.take j, x.2.size ≤ 1048576) := hall
    have HB : Hid (Below w.heap.size w wr) := hbel
    have hj : j ≤ l.length := by omega
    clear hj' hall
    by_cases hlt : j < l.length
    · obtain ⟨ad', C', hv', _, _, h0 | ⟨b, o, hb0, hb, hcs⟩⟩ := HV.out.below hbel
      · omega
      cases hv'
      subst hb0
      have hsz := (HW.out l[j] (List.getElem_mem hlt)).2
      have hcc := hcs j hlt
      have c0 := hcc
      have HT : Hid (l[j].2.size ≤ z → ∀ x ∈ l.take (j + 1), x.2.size ≤ 1048576) := fun hs => smP_take HW.out hlt HA.out (by omega)
      clear hcs hbel
      generalize l[j] = it at *
      obtain ⟨n, S⟩ := it
      simp only at c0 HT hsz

      unfold maxLen at hsz
      by_cases hs : z < S.size
      · have h' : (z : Int) - (S.size : Int) < 0 := by omega
        clear HT
        go_wp2_with fail
        go_ret
        exact ⟨⟨-1, by first | rfl | simp, .inl rfl⟩, HB.out⟩
      · obtain ⟨y1, hy1⟩ : ∃ y1 : Nat, (z : Int) - (S.size : Int) = (y1 : Int) := ⟨z - S.size, by omega⟩
        have hy1l : y1 ≤ 1048576 := by omega
        have HT2 : Hid (∀ x ∈ l.take (j + 1), x.2.size ≤ 1048576) := HT.out (by omega)
        have hyn : ¬ (y1 : Int) < 0 := by omega
        clear HT hs
        go_wp2_with fail
        clear hy1
        go_roundg (gk - 1)
        case rel => exact ⟨j + 1, y1, by have := HJ.out; omega, by go_num, rfl, hy1l, HT2.out, HB.out⟩
        case measure => have := HJ.out; omega
    · have e1 : j = l.length := by omega
      subst e1
      have HT : Hid (smP l) := fun x hx => ⟨(HW.out x hx).1, by have := HA.out; rw [List.take_length] at this; exact this x hx⟩
      clear HA hbel
      go_wp2_with fail
      go_ret
      exact ⟨⟨_, rfl, .inr ⟨by omega, HT.out⟩⟩, HB.out⟩
theorem Tryz.infoS : (Tryz.prog.info? 9).map (fun i => (i.zero, i.size, i.bytes)) = some (some (.string ByteArray.empty), 1, 16) := by kernel_rfl
/-- A row of parts that a call has made, its first j set. -/
def RowS (l : List Pa) (w : World) (g j : Nat) : Prop := ∃ cs : Array Value, w.heap[g]? = some (.cells cs 9 (0, 0)) ∧ cs.size = l.length * 1 ∧ (∀ i (h : i < l.length), i < j → cs[i]? = some (.string l[i].2)) ∧ ∀ i, i < l.length → (∃ z, cs[i]? = some (.string z))
theorem RowS.keep {l : List Pa} {w w' : World} {g j : Nat} (h : RowS l w g j) (hb : w'.heap[g]? = w.heap[g]?) : RowS l w' g j := by
  obtain ⟨cs, h1, h2⟩ := h
  exact ⟨cs, hb.trans h1, h2⟩
theorem RowS.cell {l : List Pa} {w : World} {g j : Nat} (h : RowS l w g j) {i : Nat} (hi : i < l.length) : ((∃ z, w.cell? ⟨g, i, none⟩ = some (.string z))) ∧ ∀ m, w.frozen? ⟨g, m, none⟩ = false := by
  obtain ⟨cs, h1, h2, h3, h4⟩ := h
  obtain ⟨z0, e0⟩ := h4 i hi
  exact ⟨⟨z0, by rw [cell_of_row w g _ cs _ _ h1]; exact e0⟩, fun m => by simp [World.frozen?, h1]⟩
theorem RowS.next {l : List Pa} {w : World} {g j : Nat} (h : RowS l w g j) (hj : j < l.length) : RowS l (w.setCell ⟨g, j, none⟩ (.string l[j].2)) g (j + 1) := by
  obtain ⟨cs, h1, h2, h3, h4⟩ := h
  have e0 := set_block (i := j) h1 (.string l[j].2)
  have t0 : (cs.setIfInBounds (j) (.string l[j].2))[j]? = some (.string l[j].2) := by exact Array.getElem?_setIfInBounds_self_of_lt (by first | omega | (simp; omega))
  have hoff : ∀ i, i ≠ j → ∀ m, m < 1 → (cs.setIfInBounds (j) (.string l[j].2))[i * 1 + m]? = cs[i * 1 + m]? := fun i hne m hm => by
    rw [Array.getElem?_setIfInBounds_ne (by omega)]
  refine ⟨_, e0, by simp [h2], fun i hi hij => ?_, fun i hi => ?_⟩
  · by_cases e : i = j
    · subst e
      exact t0
    · have hij2 : i < j := by omega
      have q0 : (cs.setIfInBounds (j) (.string l[j].2))[i]? = cs[i]? := by simpa using hoff i e 0 (by omega)
      rw [q0]
      exact h3 i hi hij2
  · by_cases e : i = j
    · subst e
      exact ⟨_, t0⟩
    · skip
      have q0 : (cs.setIfInBounds (j) (.string l[j].2))[i]? = cs[i]? := by simpa using hoff i e 0 (by omega)
      rw [q0]
      exact h4 i hi
theorem RowS.done {l : List Pa} {w : World} {g : Nat} (h : RowS l w g l.length) (hm : l.length ≤ 1048577) : IsS w.heap.size w (.slice (some ⟨g, 0, none⟩) l.length l.length) l := by
  obtain ⟨cs, h1, h2, h3, h4⟩ := h
  refine ⟨_, _, rfl, Nat.le_refl _, by unfold maxLen; omega, .inr ⟨g, 0, rfl, blk_lt h1, fun i hi => ?_⟩⟩
  rw [cell_of_row w g _ cs _ _ h1]
  simpa using h3 i hi hi
theorem RowS.made {l : List Pa} {w : World} {base g : Nat} (h : w.ownsRow base 9 1 (.slice (some ⟨g, 0, none⟩) l.length l.length) l.length (madeCells #[.string ByteArray.empty] (l.length * 1)).toList) : RowS l w g 0 := by
  rcases h.2 with ⟨h', _⟩ | ⟨g', cap, cur, h', _, hg, _, _, hsz, htake⟩
  · cases h'
  · simp only [Value.slice.injEq, Option.some.injEq, Addr.mk.injEq, and_true, true_and] at h'
    obtain ⟨rfl, rfl⟩ := h'
    have key : ∀ m, m < l.length * 1 → cur[m]? = (madeCells #[.string ByteArray.empty] (l.length * 1))[m]? := fun m hm => by
      have e : cur.toList[m]? = (madeCells #[.string ByteArray.empty] (l.length * 1)).toList[m]? := by rw [← htake, List.getElem?_take, if_pos hm]
      simpa using e
    refine ⟨cur, hg, hsz, fun i _ hi => by omega, fun i hi => ⟨ByteArray.empty, ?_⟩⟩
    · rw [key _ (by omega)]
      simp [madeCells, hi, Nat.mod_one]
set_option maxRecDepth 100000 in
set_option maxHeartbeats 2000000 in
theorem toSs_any (l : List Pa) (v : Value) (w : World) (hs : l.length ≤ 1048577) (hv : IsS w.heap.size w v l) : Calls Tryz.prog 56 #[v] w fun e w' => (e = .returned (.slice (some ⟨w.heap.size, 0, none⟩) l.length l.length) ∧ RowS l w' w.heap.size l.length) ∧ Below w.heap.size w w' := by
  obtain ⟨i0, hi, hz0, hz1, hz2⟩ := info_parts Tryz.infoS
  have HV : Hid (IsS w.heap.size w v l) := hv
  obtain ⟨ad, cap, rfl, h1, h2, _⟩ := hv
  unfold maxLen at h2
  go_enter Tryz.func56, Tryz.ntmps56
  go_wp2_with (at_make; refine wpList_make_full _ rfl _ _ 57 rfl w.heap.size 9 i0 (.string ByteArray.empty) 1 Tryz.underlying57 hi hz0 hz1 _ _ _ _ l.length rfl rfl rfl rfl ?b2 ?b3 (Nat.le_refl _) ?_)
  case b2 => rw [hz2]; omega
  case b3 => unfold maxLen; omega
  intro w1 hown0 hgrow
  have hr0 : RowS l w1 w.heap.size 0 := RowS.made (base := w.heap.size) (by simpa [Value.cells] using hown0)
  have hb1 : Below w.heap.size w w1 := (Below.refl _ _).grown hgrow (Nat.le_refl _) (by simp)
  clear hown0 hgrow
  go_wp2_with fail
  go_loopg [4] l.length (fun gk i wr => ∃ j : Nat, j + gk = l.length ∧ i = .int .i64 j ∧ RowS l wr w.heap.size j ∧ Below w.heap.size w wr)
  case atStart => exact ⟨0, by omega, rfl, hr0, hb1⟩
  case round =>
    clear hr0 hb1 w1
    obtain ⟨j, hj', rfl, hr, hb⟩ := hrel
    have HJ : Hid (j + gk = l.length) := hj'
    have hj : j ≤ l.length := by omega
    clear hj'
    by_cases hlt : j < l.length
    · obtain ⟨ad', C', hv', _, _, h0 | ⟨b, o, hb0, hbl, hcs⟩⟩ := HV.out.below hb
      · omega
      cases hv'
      subst hb0
      have c0 := hcs j hlt
      have hsz : w.heap.size < wr.heap.size := by obtain ⟨cs, h, _⟩ := hr; exact blk_lt h
      have HR : Hid (RowS l wr w.heap.size j) := hr
      have HB : Hid (Below w.heap.size w wr) := hb
      clear hr hb hcs
      obtain ⟨⟨z0, d0⟩, hfz⟩ := HR.out.cell hlt
      have f0 := hfz j
      have HX : Hid (RowS l (wr.setCell ⟨w.heap.size, j, none⟩ (.string l[j].2)) w.heap.size (j + 1) ∧ Below w.heap.size w (wr.setCell ⟨w.heap.size, j, none⟩ (.string l[j].2))) := ⟨HR.out.next hlt, HB.out.setCell (p := ⟨w.heap.size, j, none⟩) (by simp) _⟩
      generalize l[j].2 = S at *
      clear hfz
      go_wp2_with fail
      go_roundg (gk - 1)
      case rel => exact ⟨j + 1, by have := HJ.out; omega, by go_num, HX.out.1, HX.out.2⟩
      case measure => have := HJ.out; omega
    · have e1 : j = l.length := by omega
      subst e1
      have HX : Hid (RowS l wr w.heap.size l.length ∧ Below w.heap.size w wr) := ⟨hr, hb⟩
      clear hr hb
      go_wp2_with fail
      go_ret
      exact ⟨⟨rfl, HX.out.1⟩, HX.out.2⟩
end Go.Proofs.YtipmckdlnipgkaaGreatDoor
namespace Go.Proofs.YtipmckdlnipgkaaGreatDoor
open Go.RowKit Go.Sort
set_option linter.unusedVariables false

/-- The items of a part, of parts. -/
def itS (x : Pa) : List It := [⟨4, 0, x.2⟩]
def itsS (l : List Pa) : List It := l.flatMap itS
theorem itsS_len (l : List Pa) : (itsS l).length = l.length * 1 := by
  induction l with
  | nil => rfl
  | cons x r ih => simp [itsS, itS] at ih ⊢; omega
theorem itsS_take {l : List Pa} {j : Nat} (h : j < l.length) : itsS (l.take (j + 1)) = itsS (l.take j) ++ itS l[j] := by
  unfold itsS
  rw [List.take_succ_eq_append_getElem h, List.flatMap_append]
  simp only [List.flatMap_cons, List.flatMap_nil, List.append_nil]
/-- The items of the message. -/
def hdS (u : Nat) (t : Nat) (zz : ByteArray) (n : Nat) : List It := [⟨7, 4, ⟨#[]⟩⟩, ⟨1, u, ⟨#[]⟩⟩, ⟨1, t, ⟨#[]⟩⟩, ⟨4, 0, zz⟩, ⟨5, n, ⟨#[]⟩⟩]
def msS (u : Nat) (t : Nat) (zz : ByteArray) (l : List Pa) : List It := hdS u t zz l.length ++ itsS l
theorem typed_long {ts : List (Int × Int)} {vs : List It} (h : 200 < vs.length) : typedB ts vs = false := by
  unfold typedB
  rw [decide_eq_false (by omega : ¬ vs.length ≤ 200)]
  simp
theorem vlR_long {k : Int} {vs : List It} (h : 200 < vs.length) : vlR k vs = [] := by
  unfold vlR; rw [typed_long h]; rfl
theorem vlR_short (k : Int) (vs : List It) : (vlR k vs).length ≤ 200 := by
  unfold vlR
  split
  · rename_i h
    rcases Nat.lt_or_ge 200 vs.length with h2 | h2
    · rw [typed_long h2] at h; cases h
    · exact h2
  · simp
theorem vlR_mem {k : Int} {vs : List It} {x : It} (h : x ∈ vlR k vs) : x ∈ vs := by
  unfold vlR at h
  split at h
  · exact h
  · simp at h
set_option maxRecDepth 100000 in
theorem specTyped_long (ts : List (Int × Int)) (n cap : Nat) (ad : Option Addr) (v : Value) (w : World) (hv : IsTyps w.heap.size w v ts) (hn : 200 < n) (hn2 : n ≤ 4000000) : Calls Tryz.prog 60 #[v, .slice ad n cap] w fun e w' => e = .returned (.bool false) ∧ Below w.heap.size w w' := by
  have HC : Hid (Calls Tryz.prog 71 #[v] w fun e w' => e = .returned (.bool (schOk ts)) ∧ Below w.heap.size w w') := specSchemaOk_any ts v w hv
  generalize schOk ts = o at HC
  have hd : decide (n ≤ 200) = false := by simpa using hn
  cases o with
  | false =>
    go_enter Tryz.func60, Tryz.ntmps60
    go_wp2_with fail
    refine Calls.mono HC.out ?_
    rintro e w1 ⟨rfl, hb1⟩
    go_wp2_with fail
    go_ret
    exact ⟨rfl, hb1⟩
  | true =>
    go_enter Tryz.func60, Tryz.ntmps60
    go_wp2_with fail
    refine Calls.mono HC.out ?_
    rintro e w1 ⟨rfl, hb1⟩
    go_wp2_with fail
    go_ret
    exact ⟨rfl, hb1⟩
set_option maxRecDepth 100000 in
theorem l10Of_long (k : Int) (n cap : Nat) (ad : Option Addr) (base : Nat) (w : World) (hn : 200 < n) (hn2 : n ≤ 4000000) : Calls Tryz.prog 32 #[.int .i64 k, .slice ad n cap] w fun e w' => (∃ v', e = .returned v' ∧ OwnIt base w' v' []) ∧ Below w.heap.size w w' := by
  go_enter Tryz.func32, Tryz.ntmps32
  go_wp2_with fail
  refine (specMsgSchema_any k _).mono ?_
  rintro e w2 ⟨⟨v2, rfl, _, hi2⟩, hb2⟩
  have HB2 : Hid (Below w.heap.size w w2) := hb2
  have HI2 : Hid (IsTyps w2.heap.size w2 v2 (msgS k)) := hi2
  clear hb2 hi2
  go_wp2_with fail
  refine (specTyped_long (msgS k) n cap ad v2 w2 HI2.out hn hn2).mono ?_
  rintro e w3 ⟨rfl, hb3⟩
  have HB3 : Hid (Below w.heap.size w w3) := HB2.out.trans (hb3.mono HB2.out.size)
  clear hb3
  go_wp2_with fail
  go_ret
  exact ⟨⟨_, rfl, OwnIt.nil _ _⟩, HB3.out⟩
/-- Items of whatever length: a value, when they are one. -/
theorem l10Of_all (k : Int) (vs : List It) (base : Nat) (v : Value) (w : World) (hb : base ≤ w.heap.size) (hv : OwnIt base w v vs) (hs : vs.length ≤ 4000000) (hwf : vs.length ≤ 200 → ∀ x ∈ vs, inI x.k ∧ x.n < 18446744073709551616 ∧ x.s.size ≤ 1048577) : Calls Tryz.prog 32 #[.int .i64 k, v] w fun e w' => (∃ v', e = .returned v' ∧ OwnIt base w' v' (vlR k vs)) ∧ Below w.heap.size w w' := by
  rcases Nat.lt_or_ge 200 vs.length with h | h
  · obtain ⟨ad, cap, rfl, _⟩ := hv.form
    rw [vlR_long h]
    exact l10Of_long k vs.length cap ad base w h hs
  · exact l10Of_any k vs base v w hb hv (by omega) (hwf h)

theorem msS_wf {u : Nat} {t : Nat} {zz : ByteArray} {l : List Pa} (hl : l.length ≤ 1048576) (h : smP l) (hu : u < 18446744073709551616) (ht : t < 18446744073709551616) (hzz : zz.size ≤ 1048577) : ∀ x ∈ msS u t zz l, inI x.k ∧ x.n < 18446744073709551616 ∧ x.s.size ≤ 1048577 := by
  intro x hx
  unfold msS at hx
  rcases List.mem_append.1 hx with hx | hx
  · simp only [hdS, List.mem_cons, List.not_mem_nil, or_false] at hx
    rcases hx with rfl | rfl | rfl | rfl | rfl <;> (refine ⟨?_, ?_, ?_⟩ <;> first | (unfold inI; simp; done) | (unfold inI; decide) | assumption | (simp; done) | exact Nat.zero_le _ | decide | (simp; omega))
  · obtain ⟨y, hy, hx⟩ := List.mem_flatMap.1 hx
    obtain ⟨h1, h2⟩ := h y hy
    simp only [itS, List.mem_cons, List.not_mem_nil, or_false] at hx
    subst hx <;> (refine ⟨?_, ?_, ?_⟩ <;> first | (unfold inI; simp; done) | (unfold inI; decide) | assumption | (simp; done) | exact Nat.zero_le _ | decide | (simp; omega) | omega)
set_option maxRecDepth 100000 in
set_option maxHeartbeats 4000000 in
theorem specProofValue_any (u : Nat) (t : Nat) (zz : ByteArray) (l : List Pa) (v : Value) (w : World) (hu : u < 18446744073709551616) (ht : t < 18446744073709551616) (hzz : zz.size ≤ 1048577) (hl : l.length ≤ 1048576) (hsm : smP l) (hv : IsS w.heap.size w v l) :
    Calls Tryz.prog 27 #[.agg #[.int .u64 u, .int .u64 t, .string zz, v]] w fun e w' => (∃ v', e = .returned v' ∧ OwnIt w.heap.size w' v' (vlR 4 (msS u t zz l))) ∧ Below w.heap.size w w' := by
  obtain ⟨i0, hi, hz0, hz1, hz2⟩ := info_parts Tryz.infoItm
  have HII : Hid (Tryz.prog.info? 69 = some i0) := hi
  have HV : Hid (IsS w.heap.size w v l) := hv
  have HSM : Hid (smP l) := hsm
  have HWF : Hid (∀ x ∈ msS u t zz l, inI x.k ∧ x.n < 18446744073709551616 ∧ x.s.size ≤ 1048577) := msS_wf hl hsm hu ht hzz
  obtain ⟨ad, C, rfl, hC, hCm, _⟩ := hv
  unfold maxLen at hCm
  obtain ⟨W, hW⟩ : ∃ W, w.alloc (.cells #[.int .u64 u, .int .u64 t, .string zz, .slice ad l.length C] 62) = W := ⟨_, rfl⟩
  have hN : W.heap[w.heap.size]? = some (.cells #[.int .u64 u, .int .u64 t, .string zz, .slice ad l.length C] 62 (0, 0)) := by rw [← hW]; exact heap_alloc_new w _
  have hlt : w.heap.size < W.heap.size := by rw [← hW]; simp
  have HWs : Hid (W.heap.size = w.heap.size + 1) := by show _ = _; rw [← hW]; simp
  have HBW : Hid (Below w.heap.size w W) := by show Below _ _ _; rw [← hW]; exact belA _ _
  obtain ⟨H, hH⟩ : ∃ H, w.heap.size = H := ⟨_, rfl⟩
  have HHE : Hid (w.heap.size = H) := hH
  have HK : Hid (∀ w3, Below W.heap.size W w3 → w3.cell? ⟨H, 0, none⟩ = some (.int .u64 u) ∧ w3.cell? ⟨H, 1, none⟩ = some (.int .u64 t) ∧ w3.cell? ⟨H, 2, none⟩ = some (.string zz) ∧ w3.cell? ⟨H, 3, none⟩ = some (.slice ad l.length C)) := fun w3 hb => by
    subst hH
    have e : ∀ i, w3.cell? ⟨w.heap.size, i, none⟩ = W.cell? ⟨w.heap.size, i, none⟩ := fun i => hb.cell (p := ⟨w.heap.size, i, none⟩) hlt
    refine ⟨?_, ?_, ?_, ?_⟩ <;> (rw [e, cell_of_row _ _ _ _ _ _ hN]; rfl)
  have HDR : Hid (Below W.heap.size W W.drew) := (Below.refl _ _).drew
  have HS0 : Hid _ := HK.out W.drew HDR.out
  have HG0 : Hid (Below W.heap.size W W.drew) := HDR.out
  have HM : Hid (∀ w, Calls Tryz.prog 33 #[.int .i64 7, .int .i64 4] w fun e w' => e = .returned (.agg #[.int .i64 7, .int .u64 4, .string ⟨#[]⟩]) ∧ Below w.heap.size w w') := fun w => l10Many_any 7 4 w (by decide)
  have HML : Hid (∀ w, Calls Tryz.prog 33 #[.int .i64 5, .int .i64 (l.length : Nat)] w fun e w' => e = .returned (.agg #[.int .i64 5, .int .u64 (l.length : Nat), .string ⟨#[]⟩]) ∧ Below w.heap.size w w') := fun w => l10Many_any 5 l.length w (by omega)
  have HF0 : Hid (∀ w, Calls Tryz.prog 34 #[.int .u64 u] w fun e w' => e = .returned (.agg #[.int .i64 1, .int .u64 u, .string ⟨#[]⟩]) ∧ Below w.heap.size w w') := fun w => l10Num_any u w
  have HF1 : Hid (∀ w, Calls Tryz.prog 34 #[.int .u64 t] w fun e w' => e = .returned (.agg #[.int .i64 1, .int .u64 t, .string ⟨#[]⟩]) ∧ Below w.heap.size w w') := fun w => l10Num_any t w
  have HF2 : Hid (∀ w, Calls Tryz.prog 35 #[.string zz] w fun e w' => e = .returned (.agg #[.int .i64 4, .int .u64 0, .string zz]) ∧ Below w.heap.size w w') := fun w => l10Fixed_any zz w
  clear hN hu ht hzz hsm
  go_enter Tryz.func27, Tryz.ntmps27
  go_wp2_with fail
  first | rw [hW, hH] | rw [hH] | skip
  clear hW hH
  go_region_held3 (fun W => W.cell? ⟨H, 0, none⟩ = some (.int .u64 u) ∧ W.cell? ⟨H, 1, none⟩ = some (.int .u64 t) ∧ W.cell? ⟨H, 2, none⟩ = some (.string zz) ∧ W.cell? ⟨H, 3, none⟩ = some (.slice ad l.length C)) (first | exact HS0.out | exact HK.out _ (HG7.out.alloc HG7.out.size _) | exact HS7.out | exact HS6.out | exact HS5.out | exact HS4.out | exact HS3.out) (first
    | (go_at_call 33; refine (HM.out _).mono ?_; rintro e w3 ⟨rfl, hb3⟩; have HG3 : Hid (Below W.heap.size W w3) := HG0.out.trans (hb3.mono HG0.out.size); have HS3 : Hid _ := HK.out w3 HG3.out; clear hb3)
    | (go_at_call 34; refine (HF0.out _).mono ?_; rintro e w4 ⟨rfl, hb4⟩; have HG4 : Hid (Below W.heap.size W w4) := HG3.out.trans (hb4.mono HG3.out.size); have HS4 : Hid _ := HK.out w4 HG4.out; clear hb4)
    | (go_at_call 34; refine (HF1.out _).mono ?_; rintro e w5 ⟨rfl, hb5⟩; have HG5 : Hid (Below W.heap.size W w5) := HG4.out.trans (hb5.mono HG4.out.size); have HS5 : Hid _ := HK.out w5 HG5.out; clear hb5)
    | (go_at_call 35; refine (HF2.out _).mono ?_; rintro e w6 ⟨rfl, hb6⟩; have HG6 : Hid (Below W.heap.size W w6) := HG5.out.trans (hb6.mono HG5.out.size); have HS6 : Hid _ := HK.out w6 HG6.out; clear hb6)
    | (go_at_call 33; refine (HML.out _).mono ?_; rintro e w7 ⟨rfl, hb7⟩; have HG7 : Hid (Below W.heap.size W w7) := HG6.out.trans (hb7.mono HG6.out.size); have HS7 : Hid _ := HK.out w7 HG7.out; clear hb7))
  obtain ⟨X, hX⟩ : ∃ X, w7.alloc (.cells #[.int .i64 7, .int .u64 4, .string ⟨#[]⟩, .int .i64 1, .int .u64 u, .string ⟨#[]⟩, .int .i64 1, .int .u64 t, .string ⟨#[]⟩, .int .i64 4, .int .u64 0, .string zz, .int .i64 5, .int .u64 (l.length : Nat), .string ⟨#[]⟩] 69) = X := ⟨_, rfl⟩
  have HBX : Hid (Below W.heap.size W X) := by show Below _ _ _; rw [← hX]; exact HG7.out.alloc HG7.out.size _
  have HOX : Hid (OwnIt W.heap.size X (.slice (some ⟨w7.heap.size, 0, none⟩) 5 5) (hdS u t zz l.length ++ itsS (l.take 0))) := by
    show OwnIt _ _ _ _
    rw [← hX]
    exact World.ownsRow_lit (base := W.heap.size) (e := 69) (size := 3) w7 _ 5 HG7.out.size (by simp [maxLen]) rfl
  have HD : Hid (∀ j, (hdS u t zz l.length ++ itsS (l.take j)).length = 5 + 1 * (l.take j).length) := fun j => by rw [List.length_append, itsS_len]; show 5 + _ = _; omega
  clear HS0 HG0
  go_wp2_with fail
  try rw [hX]
  clear hX
  go_wp2_with fail
  go_loopg [3, 4] l.length (fun gk out i wr => ∃ j : Nat, j + gk = l.length ∧ i = .int .i64 j ∧ OwnIt W.heap.size wr out (hdS u t zz l.length ++ itsS (l.take j)) ∧ Below W.heap.size W wr)
  case atStart => exact ⟨0, by omega, rfl, HOX.out, HBX.out⟩
  case round =>
    obtain ⟨j, hj', rfl, ho, hb⟩ := hrel
    have HJ : Hid (j + gk = l.length) := hj'
    have HO : Hid (OwnIt W.heap.size wr u3 (hdS u t zz l.length ++ itsS (l.take j))) := ho
    have HB : Hid (Below W.heap.size W wr) := hb
    have hj : j ≤ l.length := by omega
    have HSr : Hid _ := HK.out wr hb
    obtain ⟨b0, b1, b2, b3⟩ := HSr.out
    have hHr : H < wr.heap.size := by have := hb.size; have := HWs.out; have := HHE.out; omega
    clear hj' ho
    by_cases hlt : j < l.length
    · have HLE : Hid ((hdS u t zz l.length ++ itsS (l.take j)).length = 5 + 1 * j) := by show _ = _; rw [HD.out, List.length_take, Nat.min_eq_left hj]
      have HNX : Hid (hdS u t zz l.length ++ itsS (l.take (j + 1)) = (hdS u t zz l.length ++ itsS (l.take j)) ++ itS l[j]) := by show _ = _; rw [itsS_take hlt, List.append_assoc]
      obtain ⟨ad', C', hv', _, _, h0 | ⟨b, o, hb0, hbl, hcs⟩⟩ := HV.out.below (HBW.out.trans (hb.mono (by have := HWs.out; omega)))
      · omega
      cases hv'
      subst hb0
      have c0 := hcs j hlt
      have hsm2 := HSM.out l[j] (List.getElem_mem hlt)
      generalize l[j] = it at *
      obtain ⟨pn, ps⟩ := it
      obtain ⟨psz1, psz2⟩ := hsm2
      simp only at c0 HNX psz1 psz2
      obtain ⟨P, hP⟩ : ∃ P, hdS u t zz l.length ++ itsS (l.take j) = P := ⟨_, rfl⟩
      obtain ⟨P', hP'⟩ : ∃ P, hdS u t zz l.length ++ itsS (l.take (j + 1)) = P := ⟨_, rfl⟩
      rw [hP] at HLE HNX HO
      rw [hP'] at HNX
      have HP' : Hid (hdS u t zz l.length ++ itsS (l.take (j + 1)) = P') := hP'
      obtain ⟨ad2, cap2, hv2, q1, q2, _⟩ := HO.out.form
      obtain ⟨L, hL⟩ : ∃ L, P.length = L := ⟨_, rfl⟩
      have HLL : Hid (P.length = L) := hL
      have hLs : L ≤ 4000000 := by have := HLE.out; omega
      rw [hL] at hv2 q1
      have HV2 : Hid (u3 = .slice ad2 L cap2) := hv2
      unfold maxLen at q2
      subst hv2
      clear hcs hb hP hP' hL
      have HC : Hid (∀ w, Calls Tryz.prog 35 #[.string ps] w fun e w' => e = .returned (.agg #[.int .i64 4, .int .u64 0, .string ps]) ∧ Below w.heap.size w w') := fun w => l10Fixed_any ps w
      go_wp2_with fail
      refine (HC.out _).mono ?_
      rintro e w9 ⟨rfl, hb9⟩
      have HB9 : Hid (Below W.heap.size W w9) := HB.out.trans (hb9.mono HB.out.size)
      have HO9 : Hid (OwnIt W.heap.size w9 (.slice ad2 L cap2) P) := HO.out.kept hb9
      clear hb9 b0 b1 b2 b3 c0
      go_wp2_with (at_builtin; refine wpList_append_lies _ rfl _ _ 26 rfl W.heap.size 69 i0 (.agg #[.int .i64 0, .int .u64 0, .string ByteArray.empty]) 3 32 Tryz.underlying26 HII.out hz0 hz1 hz2 rfl (by decide) (.slice ad2 L cap2) L (flatI P) rfl ((by have h := HO9.out; unfold OwnIt at h; rw [HLL.out] at h; exact h : w9.ownsRow W.heap.size 69 3 (.slice ad2 L cap2) L (flatI P)).alloc _) ⟨w9.heap.size, 0, none⟩ 1 1 (flatI [⟨4, 0, ps⟩]) rfl rfl ?c1 (flatI_one _) (by omega) ?c3 ?c4 ?c5 (w9.heap.size + 1) (by simp) ?_)
      case c1 => exact World.news_of_block (heap_alloc_new w9 _)
      case c3 => unfold maxLen; omega
      case c4 => omega
      case c5 => have := HB9.out.size; simp; omega
      intro g cap7 w7 hown hgrow hat hlt7
      have HX7 : Hid (OwnIt W.heap.size w7 (.slice (some ⟨g, 0, none⟩) (L + 1) cap7) P') := by
        show OwnIt _ _ _ _
        rw [HNX.out]
        unfold OwnIt
        rw [flatI_app, List.length_append, HLL.out]
        exact hown
      have HB7 : Hid (Below W.heap.size W w7) := (HB9.out.alloc HB9.out.size _).grown hgrow (by have := HB9.out.size; simp; omega) (fun q hq => (World.ownsRow.lt HO9.out q hq).1)
      clear hown hgrow hat hlt7
      go_wp2_with fail
      go_roundg (gk - 1)
      case rel => exact ⟨j + 1, by have := HJ.out; omega, by go_num, by rw [HP'.out]; exact HX7.out, HB7.out⟩
      case measure => have := HJ.out; omega
    · have e1 : j = l.length := by omega
      subst e1
      rw [List.take_length] at HO
      have HBR : Hid (Below w.heap.size w wr) := HBW.out.trans (hb.mono (by have := HWs.out; omega))
      have HML2 : Hid ((msS u t zz l).length ≤ 4000000) := by show _ ≤ _; have := HD.out l.length; rw [List.take_length] at this; unfold msS; omega
      have HC : Hid (Calls Tryz.prog 32 #[.int .i64 4, u3] wr fun e w' => (∃ v', e = .returned v' ∧ OwnIt W.heap.size w' v' (vlR 4 (msS u t zz l))) ∧ Below wr.heap.size wr w') := l10Of_all 4 (msS u t zz l) W.heap.size u3 wr (by have := hb.size; omega) HO.out HML2.out (fun _ => HWF.out)
      clear hlt hb
      go_wp2_with fail
      refine Calls.mono HC.out ?_
      rintro e w8 ⟨⟨v8, rfl, ho8⟩, hb8⟩
      have HF8 : Hid ((∃ v', Ending.returned v8 = .returned v' ∧ OwnIt w.heap.size w8 v' (vlR 4 (msS u t zz l))) ∧ Below w.heap.size w w8) := ⟨⟨v8, rfl, own_downI ho8 (by have := HWs.out; omega)⟩, HBR.out.trans (hb8.mono HBR.out.size)⟩
      clear ho8 hb8
      go_wp2_with fail
      go_ret
      exact HF8.out
end Go.Proofs.YtipmckdlnipgkaaGreatDoor
namespace Go.Proofs.YtipmckdlnipgkaaGreatDoor
open Go.RowKit Go.Sort
set_option linter.unusedVariables false

theorem WrAt.below {R base : Nat} {w w' : World} {l : List It} (h : WrAt R base w l) (hb : Below w.heap.size w w') : WrAt R base w' l := by
  obtain ⟨hR, hb0, v, hB, ho⟩ := h
  exact ⟨hR, Nat.le_trans hb0 hb.size, v, (hb.block R (blk_lt hB)).trans hB, ho.kept hb⟩
theorem WrAt.lt {R base : Nat} {w : World} {l : List It} (h : WrAt R base w l) : R < w.heap.size := Nat.lt_of_lt_of_le h.1 h.2.1
theorem WrAt.row {R base : Nat} {w : World} {l : List It} (h : WrAt R base w l) : ∀ k, rowB R w = some k → k < w.heap.size := by
  intro k hk
  obtain ⟨hR, hb0, v, hB, ho⟩ := h
  rw [rowB_of hB] at hk
  exact (World.ownsRow.lt ho k hk).2
theorem rowB_same {R : Nat} {w w' : World} (h : w'.heap[R]? = w.heap[R]?) : rowB R w' = rowB R w := by unfold rowB; rw [h]

set_option maxRecDepth 100000 in
set_option maxHeartbeats 4000000 in
theorem wlS_any (R base : Nat) (l0 : List It) (l : List Pa) (v : Value) (w : World) (h : WrAt R base w l0) (hl0 : l0.length ≤ 100) (hv : IsS R w v l) (hll : l.length ≤ 1048576) : Calls Tryz.prog 57 #[.pointer (some ⟨R, 0, none⟩), v, .func (.func 38) #[.pointer (some ⟨R, 0, none⟩)] #[]] w fun e w' => e = .returned (.tuple #[]) ∧ WrAt R base w' (l0 ++ ([⟨5, l.length, ⟨#[]⟩⟩] : List It) ++ itsS (l.take 200)) ∧ Below R w w' := by
  have hw0 := h
  obtain ⟨hR, hb, v0, hB, ho⟩ := h
  have HW0 : Hid (WrAt R base w l0) := hw0
  obtain ⟨i0, hi, hz0, hz1, hz2⟩ := info_parts Tryz.infoItm
  have HII : Hid (Tryz.prog.info? 69 = some i0) := hi
  have HO : Hid (OwnIt base w v0 l0) := ho
  have HBK : Hid (w.heap[R]? = some (.cells #[v0] 74 (0, 0))) := hB
  have HV : Hid (IsS R w v l) := hv
  have c0 : w.cell? ⟨R, 0, none⟩ = some v0 := by rw [cell_of_row w R 0 _ _ _ hB]; rfl
  obtain ⟨ad, cap, rfl, h1, h2, _⟩ := ho.form
  obtain ⟨vad, C, rfl, hvC, hCm, _⟩ := hv
  unfold maxLen at h2 hCm
  have hRs : R < w.heap.size := blk_lt hB
  obtain ⟨n, hn⟩ : ∃ n, l.length = n := ⟨_, rfl⟩
  have HNE : Hid (l.length = n) := hn
  rw [hn] at hll hvC ⊢
  obtain ⟨m, hm⟩ : ∃ m, min n 200 = m := ⟨_, rfl⟩
  have HME : Hid (min n 200 = m) := hm
  have hmn : m ≤ n := by omega
  have hm2 : m ≤ 200 := by omega
  have hmi : min (n : Int) 200 = (m : Int) := by omega
  clear hi ho hB hw0 hm hn
  go_enter Tryz.func57, Tryz.ntmps57
  go_wp2_with (at_builtin; refine wpList_append_lies _ rfl _ _ 26 rfl base 69 i0 (.agg #[.int .i64 0, .int .u64 0, .string ByteArray.empty]) 3 32 Tryz.underlying26 HII.out hz0 hz1 hz2 rfl (by decide) (.slice ad l0.length cap) l0.length (flatI l0) rfl (HO.out.alloc _) ⟨w.heap.size, 0, none⟩ 1 1 (flatI [⟨5, n, ⟨#[]⟩⟩]) rfl rfl ?c1 (flatI_one _) (by omega) ?c3 ?c4 ?c5 (w.heap.size + 1) (by simp) ?_)
  case c1 => exact World.news_of_block (heap_alloc_new w _)
  case c3 => unfold maxLen; omega
  case c4 => omega
  case c5 => simp; omega
  intro g cap7 w7 hown hgrow hat hlt
  have hne : some R ≠ (Value.slice ad l0.length cap).ownBlock := fun e => by have := (World.ownsRow.lt HO.out R e.symm).1; omega
  have hB7 : w7.heap[R]? = some (.cells #[.slice ad l0.length cap] 74 (0, 0)) := (hgrow.block R (by simp; omega) hne).trans ((Below.heap_alloc w _ _ hRs).trans HBK.out)
  have d0 : w7.cell? ⟨R, 0, none⟩ = some (.slice ad l0.length cap) := by rw [cell_of_row w7 R 0 _ _ _ hB7]; rfl
  have f0 : w7.frozen? ⟨R, 0, none⟩ = false := by simp [World.frozen?, hB7]
  have hbel : Below R w w7 := by
    have b1 : Below R w (w.alloc (.cells #[.int .i64 5, .int .u64 n, .string ⟨#[]⟩] 69)) := (Below.refl _ _).alloc (by omega) _
    exact ⟨hgrow.os.trans b1.os, hgrow.tape.trans b1.tape, hgrow.output.trans b1.output, Nat.le_trans b1.size hgrow.size, fun k hk => (hgrow.block k (by simp; omega) (fun e => by have := (World.ownsRow.lt HO.out k e.symm).1; omega)).trans (b1.block k hk)⟩
  have HX : Hid (WrAt R base (w7.setCell ⟨R, 0, none⟩ (.slice (some ⟨g, 0, none⟩) (l0.length + 1) cap7)) (l0 ++ ([⟨5, n, ⟨#[]⟩⟩] : List It) ++ itsS (l.take 0)) ∧ Below R w (w7.setCell ⟨R, 0, none⟩ (.slice (some ⟨g, 0, none⟩) (l0.length + 1) cap7))) := by
    refine ⟨⟨hR, ?_, .slice (some ⟨g, 0, none⟩) (l0.length + 1) cap7, ?_, ?_⟩, hbel.setCell (p := ⟨R, 0, none⟩) (Nat.le_refl _) _⟩
    · have := hbel.size; simp [World.setCell]; omega
    · rw [set_block (i := 0) hB7]; rfl
    · refine ownsRow_setCell_below ?_ (a := ⟨R, 0, none⟩) hR _
      rw [List.take_zero, show itsS [] = [] from rfl, List.append_nil, flatI_app, List.length_append]
      exact hown
  clear hown hgrow hat hlt hne hB7 hbel c0
  go_wp2_with fail
  clear d0 f0
  go_loopg [27] m (fun gk i wr => ∃ j : Nat, j + gk = m ∧ i = .int .i64 j ∧ WrAt R base wr (l0 ++ ([⟨5, n, ⟨#[]⟩⟩] : List It) ++ itsS (l.take j)) ∧ Below R w wr)
  case atStart => exact ⟨0, by omega, rfl, HX.out.1, HX.out.2⟩
  case round =>
    obtain ⟨j, hj', rfl, hr, hbr⟩ := hrel
    have HJ : Hid (j + gk = m) := hj'
    have HR : Hid (WrAt R base wr (l0 ++ ([⟨5, n, ⟨#[]⟩⟩] : List It) ++ itsS (l.take j))) := hr
    have HB : Hid (Below R w wr) := hbr
    have hj : j ≤ m := by omega
    have hrl := hr.lt
    clear hj' hr
    by_cases hlt : j < m
    · have hjl : j < l.length := by have := HNE.out; omega
      have HLE : Hid ((l0 ++ ([⟨5, n, ⟨#[]⟩⟩] : List It) ++ itsS (l.take j)).length ≤ 900) := by show _ ≤ _; rw [List.length_append, List.length_append, itsS_len, List.length_take]; simp; omega
      have HNX : Hid (l0 ++ ([⟨5, n, ⟨#[]⟩⟩] : List It) ++ itsS (l.take (j + 1)) = (l0 ++ ([⟨5, n, ⟨#[]⟩⟩] : List It) ++ itsS (l.take j)) ++ itS l[j]) := by show _ = _; rw [itsS_take hjl, List.append_assoc _ (itsS (l.take j))]
      obtain ⟨ad', C', hv', _, _, h0 | ⟨b, oo, hb0, hbl, hcs⟩⟩ := HV.out.below hbr
      · omega
      cases hv'
      subst hb0
      have c0 := hcs j hjl
      have hbw : b < wr.heap.size := by omega
      generalize l[j] = it at *
      obtain ⟨pn, ps⟩ := it
      simp only at c0 HNX
      obtain ⟨P, hP⟩ : ∃ P, l0 ++ ([⟨5, n, ⟨#[]⟩⟩] : List It) ++ itsS (l.take j) = P := ⟨_, rfl⟩
      obtain ⟨P', hP'⟩ : ∃ P, l0 ++ ([⟨5, n, ⟨#[]⟩⟩] : List It) ++ itsS (l.take (j + 1)) = P := ⟨_, rfl⟩
      rw [hP] at HLE HNX HR
      rw [hP'] at HNX
      have HP' : Hid (l0 ++ ([⟨5, n, ⟨#[]⟩⟩] : List It) ++ itsS (l.take (j + 1)) = P') := hP'
      clear hcs hbr hP hP' hjl
      have HC : Hid (∀ w', WrAt R base w' P → Calls Tryz.prog 38 #[.pointer (some ⟨R, 0, none⟩), .string ps] w' fun e w'' => e = .returned (.tuple #[]) ∧ WrAt R base w'' P' ∧ Below R w' w'') := fun w' h => by have := w_fixed_any R base P ps w' h (by have := HLE.out; omega); rw [HNX.out]; exact this
      go_wp2_with fail
      refine (HC.out _ HR.out).mono ?_
      rintro e w9 ⟨rfl, hr9, hb9⟩
      have HX9 : Hid (WrAt R base w9 P' ∧ Below R w w9) := ⟨hr9, HB.out.trans hb9⟩
      clear hr9 hb9 c0
      go_wp2_with fail
      go_roundg (gk - 1)
      case rel => exact ⟨j + 1, by have := HJ.out; omega, by go_num, by rw [HP'.out]; exact HX9.out.1, HX9.out.2⟩
      case measure => have := HJ.out; omega
    · have ej : j = m := by omega
      have HT : Hid (l.take m = l.take 200) := by
        show _ = _
        have h1 := HNE.out; have h2 := HME.out
        rcases Nat.le_total n 200 with h3 | h3
        · rw [List.take_of_length_le (by omega), List.take_of_length_le (by omega)]
        · rw [show m = 200 by omega]
      subst ej
      have HF : Hid (WrAt R base wr (l0 ++ ([⟨5, n, ⟨#[]⟩⟩] : List It) ++ itsS (l.take 200)) ∧ Below R w wr) := ⟨by rw [← HT.out]; exact HR.out, HB.out⟩
      clear hlt hbr
      go_wp2_with fail
      first | go_end0 | refine bodyPost_ret (results_none rfl _ _ _) rfl ?_
      exact ⟨rfl, HF.out⟩
theorem msS_cut {u : Nat} {t : Nat} {zz : ByteArray} (l : List Pa) : vlR 4 (hdS u t zz l.length ++ itsS (l.take 200)) = vlR 4 (msS u t zz l) := by
  rcases Nat.lt_or_ge 200 l.length with h | h
  · rw [vlR_long, vlR_long]
    · unfold msS; rw [List.length_append, itsS_len]; omega
    · rw [List.length_append, itsS_len, List.length_take]
      show 200 < 5 + _
      omega
  · rw [List.take_of_length_le h]; rfl
set_option maxRecDepth 100000 in
set_option maxHeartbeats 4000000 in
theorem implProofValue_any (u : Nat) (t : Nat) (zz : ByteArray) (l : List Pa) (v : Value) (w : World) (hw : EV w) (hu : u < 18446744073709551616) (ht : t < 18446744073709551616) (hzz : zz.size ≤ 1048577) (hl : l.length ≤ 1048576) (hsm : smP l) (hv : IsS w.heap.size w v l) :
    Calls Tryz.prog 29 #[.agg #[.int .u64 u, .int .u64 t, .string zz, v]] w fun e w' => (∃ v', e = .returned v' ∧ OwnIt w.heap.size w' v' (vlR 4 (msS u t zz l))) ∧ Below w.heap.size w w' := by
  have HWF : Hid (∀ x ∈ hdS u t zz l.length ++ itsS (l.take 200), inI x.k ∧ x.n < 18446744073709551616 ∧ x.s.size ≤ 1048577) := fun x hx => by
    refine msS_wf (l := l) hl hsm hu ht hzz x ?_
    unfold msS
    rcases List.mem_append.1 hx with hx | hx
    · exact List.mem_append_left _ hx
    · obtain ⟨y, hy, hz⟩ := List.mem_flatMap.1 hx
      exact List.mem_append_right _ (List.mem_flatMap.2 ⟨y, List.mem_of_mem_take hy, hz⟩)
  have HLL : Hid ((hdS u t zz l.length ++ itsS (l.take 200)).length ≤ 1000) := by show _ ≤ _; rw [List.length_append, itsS_len, List.length_take]; show 5 + _ ≤ _; omega
  have HCUT : Hid (vlR 4 (hdS u t zz l.length ++ itsS (l.take 200)) = vlR 4 (msS u t zz l)) := msS_cut l
  have HV : Hid (IsS w.heap.size w v l) := hv
  obtain ⟨ad, C, rfl, hC, hCm, _⟩ := hv
  obtain ⟨W, hW⟩ : ∃ W, w.alloc (.cells #[.int .u64 u, .int .u64 t, .string zz, .slice ad l.length C] 62) = W := ⟨_, rfl⟩
  obtain ⟨X, hX⟩ : ∃ X, W.alloc (.cells #[.slice none 0 0] 74) = X := ⟨_, rfl⟩
  have hWs : W.heap.size = w.heap.size + 1 := by rw [← hW]; simp
  have hXs : X.heap.size = w.heap.size + 2 := by rw [← hX]; simp [hWs]
  have HBX : Hid (Below w.heap.size w X) := by
    show Below _ _ _
    have h1 : Below w.heap.size w W := by rw [← hW]; exact belA _ _
    have h2 : Below W.heap.size W X := by rw [← hX]; exact belA _ _
    exact h1.trans (h2.mono h1.size)
  have HBXB : Hid (X.heap[w.heap.size]? = some (.cells #[.int .u64 u, .int .u64 t, .string zz, .slice ad l.length C] 62 (0, 0))) := by
    show _ = _
    have h2 : Below W.heap.size W X := by rw [← hX]; exact belA _ _
    rw [h2.block w.heap.size (by omega), ← hW]; exact heap_alloc_new w _
  have HWR : Hid (WrAt W.heap.size X.heap.size X []) := ⟨by omega, Nat.le_refl _, .slice none 0 0, by rw [← hX]; exact heap_alloc_new W _, OwnIt.nil _ _⟩
  have HWs : Hid (W.heap.size = w.heap.size + 1) := hWs
  have HXs : Hid (X.heap.size = w.heap.size + 2) := hXs
  have HCF : Hid (∀ w' l, WrAt W.heap.size X.heap.size w' l → l.length ≤ 1000 → Calls Tryz.prog 36 #[.pointer (some ⟨W.heap.size, 0, none⟩), .int .u64 4] w' fun e w'' => e = .returned (.tuple #[]) ∧ WrAt W.heap.size X.heap.size w'' (l ++ [⟨7, 4, ⟨#[]⟩⟩]) ∧ Below W.heap.size w' w'') := fun w' l h hl => w_fields_any _ _ l 4 w' h hl
  have HCN : Hid (∀ w' l (n : Nat), WrAt W.heap.size X.heap.size w' l → l.length ≤ 1000 → Calls Tryz.prog 37 #[.pointer (some ⟨W.heap.size, 0, none⟩), .int .u64 n] w' fun e w'' => e = .returned (.tuple #[]) ∧ WrAt W.heap.size X.heap.size w'' (l ++ [⟨1, n, ⟨#[]⟩⟩]) ∧ Below W.heap.size w' w'') := fun w' l n h hl => w_number_any _ _ l n w' h hl
  have HCX : Hid (∀ w' l s, WrAt W.heap.size X.heap.size w' l → l.length ≤ 1000 → Calls Tryz.prog 38 #[.pointer (some ⟨W.heap.size, 0, none⟩), .string s] w' fun e w'' => e = .returned (.tuple #[]) ∧ WrAt W.heap.size X.heap.size w'' (l ++ [⟨4, 0, s⟩]) ∧ Below W.heap.size w' w'') := fun w' l s h hl => w_fixed_any _ _ l s w' h hl
  have HCW : Hid (∀ w' l0, WrAt W.heap.size X.heap.size w' l0 → l0.length ≤ 100 → IsS W.heap.size w' (.slice ad l.length C) l → Calls Tryz.prog 57 #[.pointer (some ⟨W.heap.size, 0, none⟩), .slice ad l.length C, .func (.func 38) #[.pointer (some ⟨W.heap.size, 0, none⟩)] #[]] w' fun e w'' => e = .returned (.tuple #[]) ∧ WrAt W.heap.size X.heap.size w'' (l0 ++ ([⟨5, l.length, ⟨#[]⟩⟩] : List It) ++ itsS (l.take 200)) ∧ Below W.heap.size w' w'') := fun w' l0 h h0 hv => wlS_any _ _ l0 l _ w' h h0 hv hl
  have HCV : Hid (∀ w', WrAt W.heap.size X.heap.size w' (hdS u t zz l.length ++ itsS (l.take 200)) → EV w' → Calls Tryz.prog 40 #[.pointer (some ⟨W.heap.size, 0, none⟩), .int .i64 4] w' fun e w'' => (∃ v', e = .returned v' ∧ OwnIt X.heap.size w'' v' (vlR 4 (msS u t zz l))) ∧ Below W.heap.size w' w'') := fun w' h hv => by rw [← HCUT.out]; exact value_any _ _ (hdS u t zz l.length ++ itsS (l.take 200)) 4 w' h hv HLL.out HWF.out
  have HEV : Hid (EV w) := hw
  obtain ⟨R, hR⟩ : ∃ R, W.heap.size = R := ⟨_, rfl⟩
  obtain ⟨H, hH⟩ : ∃ H, w.heap.size = H := ⟨_, rfl⟩
  have HHE : Hid (w.heap.size = H) := hH
  rw [hH] at HBXB HBX HWs HXs
  rw [hR] at HWR HWs HCF HCN HCX HCV HCW
  have HRr : Hid (R = H + 1) := HWs.out
  clear hw hWs hXs hu ht hzz hsm
  go_enter Tryz.func29, Tryz.ntmps29
  go_wp2_with fail
  clear hX hW hR hH
  refine (HCF.out X [] HWR.out (by simp)).mono ?_
  rintro e w1 ⟨rfl, hr, hb⟩
  have HR1 : Hid (WrAt R X.heap.size w1 ([] ++ [⟨7, 4, ⟨#[]⟩⟩])) := hr
  have HB1 : Hid (Below R X w1) := hb
  have HN1 : Hid (w1.heap[H]? = some (.cells #[.int .u64 u, .int .u64 t, .string zz, .slice ad l.length C] 62 (0, 0))) := (HB1.out.block H (by have := HRr.out; omega)).trans HBXB.out
  clear hr hb
  have x0 : w1.cell? ⟨H, 0, none⟩ = some (.int .u64 u) := by rw [cell_of_row _ _ _ _ _ _ HN1.out]; rfl
  have x1 : w1.cell? ⟨H, 1, none⟩ = some (.int .u64 t) := by rw [cell_of_row _ _ _ _ _ _ HN1.out]; rfl
  have x2 : w1.cell? ⟨H, 2, none⟩ = some (.string zz) := by rw [cell_of_row _ _ _ _ _ _ HN1.out]; rfl
  have x3 : w1.cell? ⟨H, 3, none⟩ = some (.slice ad l.length C) := by rw [cell_of_row _ _ _ _ _ _ HN1.out]; rfl
  go_wp2_with fail
  refine (HCN.out w1 _ u HR1.out (by simp)).mono ?_
  rintro e w2 ⟨rfl, hr, hb⟩
  have HR2 : Hid (WrAt R X.heap.size w2 _) := hr
  have HB2 : Hid (Below R X w2) := HB1.out.trans hb
  have HN2 : Hid (w2.heap[H]? = some (.cells #[.int .u64 u, .int .u64 t, .string zz, .slice ad l.length C] 62 (0, 0))) := (HB2.out.block H (by have := HRr.out; omega)).trans HBXB.out
  clear hr hb x0 x1 x2 x3
  have x0 : w2.cell? ⟨H, 0, none⟩ = some (.int .u64 u) := by rw [cell_of_row _ _ _ _ _ _ HN2.out]; rfl
  have x1 : w2.cell? ⟨H, 1, none⟩ = some (.int .u64 t) := by rw [cell_of_row _ _ _ _ _ _ HN2.out]; rfl
  have x2 : w2.cell? ⟨H, 2, none⟩ = some (.string zz) := by rw [cell_of_row _ _ _ _ _ _ HN2.out]; rfl
  have x3 : w2.cell? ⟨H, 3, none⟩ = some (.slice ad l.length C) := by rw [cell_of_row _ _ _ _ _ _ HN2.out]; rfl
  go_wp2_with fail
  refine (HCN.out w2 _ t HR2.out (by simp)).mono ?_
  rintro e w3 ⟨rfl, hr, hb⟩
  have HR3 : Hid (WrAt R X.heap.size w3 _) := hr
  have HB3 : Hid (Below R X w3) := HB2.out.trans hb
  have HN3 : Hid (w3.heap[H]? = some (.cells #[.int .u64 u, .int .u64 t, .string zz, .slice ad l.length C] 62 (0, 0))) := (HB3.out.block H (by have := HRr.out; omega)).trans HBXB.out
  clear hr hb x0 x1 x2 x3
  have x0 : w3.cell? ⟨H, 0, none⟩ = some (.int .u64 u) := by rw [cell_of_row _ _ _ _ _ _ HN3.out]; rfl
  have x1 : w3.cell? ⟨H, 1, none⟩ = some (.int .u64 t) := by rw [cell_of_row _ _ _ _ _ _ HN3.out]; rfl
  have x2 : w3.cell? ⟨H, 2, none⟩ = some (.string zz) := by rw [cell_of_row _ _ _ _ _ _ HN3.out]; rfl
  have x3 : w3.cell? ⟨H, 3, none⟩ = some (.slice ad l.length C) := by rw [cell_of_row _ _ _ _ _ _ HN3.out]; rfl
  go_wp2_with fail
  refine (HCX.out w3 _ zz HR3.out (by simp)).mono ?_
  rintro e w4 ⟨rfl, hr, hb⟩
  have HR4 : Hid (WrAt R X.heap.size w4 _) := hr
  have HB4 : Hid (Below R X w4) := HB3.out.trans hb
  have HN4 : Hid (w4.heap[H]? = some (.cells #[.int .u64 u, .int .u64 t, .string zz, .slice ad l.length C] 62 (0, 0))) := (HB4.out.block H (by have := HRr.out; omega)).trans HBXB.out
  clear hr hb x0 x1 x2 x3
  have x0 : w4.cell? ⟨H, 0, none⟩ = some (.int .u64 u) := by rw [cell_of_row _ _ _ _ _ _ HN4.out]; rfl
  have x1 : w4.cell? ⟨H, 1, none⟩ = some (.int .u64 t) := by rw [cell_of_row _ _ _ _ _ _ HN4.out]; rfl
  have x2 : w4.cell? ⟨H, 2, none⟩ = some (.string zz) := by rw [cell_of_row _ _ _ _ _ _ HN4.out]; rfl
  have x3 : w4.cell? ⟨H, 3, none⟩ = some (.slice ad l.length C) := by rw [cell_of_row _ _ _ _ _ _ HN4.out]; rfl
  have HI : Hid (IsS R w4 (.slice ad l.length C) l) := by
    show IsS _ _ _ _
    have h1 := HV.out.below (by rw [HHE.out]; exact HBX.out.trans (HB4.out.mono (by have := HRr.out; omega)) : Below w.heap.size w w4)
    exact h1.up (by have := HRr.out; have := HHE.out; omega)
  go_wp2_with fail
  refine (HCW.out w4 _ HR4.out (by simp) HI.out).mono ?_
  rintro e w5 ⟨rfl, hr, hb⟩
  have HR5 : Hid (WrAt R X.heap.size w5 (hdS u t zz l.length ++ itsS (l.take 200))) := by show WrAt _ _ _ _; have h := hr; simpa [hdS] using h
  have HB5 : Hid (Below R X w5) := HB4.out.trans hb
  clear hr hb x0 x1 x2 x3
  have HBF : Hid (Below H w w5) := HBX.out.trans (HB5.out.mono (by have := HRr.out; omega))
  have HE6 : Hid (EV w5) := HEV.out.below (by have := HBF.out; rw [← HHE.out] at this; exact this)
  go_wp2_with fail
  refine (HCV.out w5 HR5.out HE6.out).mono ?_
  rintro e w6 ⟨⟨v7, rfl, ho⟩, hb⟩
  have HF : Hid ((∃ v', Ending.returned v7 = .returned v' ∧ OwnIt w.heap.size w6 v' (vlR 4 (msS u t zz l))) ∧ Below w.heap.size w w6) := ⟨⟨v7, rfl, own_downI ho (by have := HXs.out; have := HHE.out; omega)⟩, by rw [HHE.out]; exact HBF.out.trans (hb.mono (by have := HRr.out; omega))⟩
  clear ho hb
  go_wp2_with fail
  go_ret
  exact HF.out
end Go.Proofs.YtipmckdlnipgkaaGreatDoor
