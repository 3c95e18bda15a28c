/- The program's table of items' words, and the text of an item: contracts. -/
import Derived.Test.YtknbmheenfdebaaDoorS5h
import Derived.Test.YtknbmheenfdebaaDoorS5b
import Derived.Test.YtknbmheenfdebaaDoorS5d
namespace Go.Proofs.YtknbmheenfdebaaDoor
open Go.RowKit Go.Sort
set_option linter.unusedVariables false
/-- The cells of the table. -/
def ic : Array Value := #[.int .i64 1, .string ⟨#[]⟩, .int .i64 1, .int .u64 0, .int .i64 2, .string ⟨#[102]⟩, .int .i64 0, .int .u64 0, .int .i64 2, .string ⟨#[116]⟩, .int .i64 0, .int .u64 1, .int .i64 3, .string ⟨#[98, 58]⟩, .int .i64 2, .int .u64 0, .int .i64 4, .string ⟨#[120, 58]⟩, .int .i64 2, .int .u64 0, .int .i64 5, .string ⟨#[108]⟩, .int .i64 1, .int .u64 0, .int .i64 6, .string ⟨#[118]⟩, .int .i64 1, .int .u64 0, .int .i64 7, .string ⟨#[115]⟩, .int .i64 1, .int .u64 0, .int .i64 8, .string ⟨#[110, 111, 110, 101]⟩, .int .i64 0, .int .u64 0, .int .i64 8, .string ⟨#[115, 111, 109, 101]⟩, .int .i64 0, .int .u64 1, .int .i64 9, .string ⟨#[99]⟩, .int .i64 1, .int .u64 0]
def iKs : List Int := [1, 2, 2, 3, 4, 5, 6, 7, 8, 8, 9]
def iWs : List ByteArray := [⟨#[]⟩, ⟨#[102]⟩, ⟨#[116]⟩, ⟨#[98, 58]⟩, ⟨#[120, 58]⟩, ⟨#[108]⟩, ⟨#[118]⟩, ⟨#[115]⟩, ⟨#[110, 111, 110, 101]⟩, ⟨#[115, 111, 109, 101]⟩, ⟨#[99]⟩]
def iTs : List Int := [1, 0, 0, 2, 2, 1, 1, 1, 0, 0, 1]
def iNs : List Int := [0, 0, 1, 0, 0, 0, 0, 0, 0, 1, 0]
def irK (j : Nat) : Int := iKs.getD j 0
def irW (j : Nat) : ByteArray := iWs.getD j ByteArray.empty
def irT (j : Nat) : Int := iTs.getD j 0
def irN (j : Nat) : Int := iNs.getD j 0
theorem irW_len (j : Nat) : (irW j).size ≤ 4 := by
  have h : ∀ x ∈ iWs, x.size ≤ 4 := by
    intro x hx
    simp only [iWs, List.mem_cons, List.not_mem_nil, or_false] at hx
    rcases hx with rfl | rfl | rfl | rfl | rfl | rfl | rfl | rfl | rfl | rfl | rfl <;> decide
  unfold irW
  rw [List.getD_eq_getElem?_getD]
  cases hj : iWs[j]? with
  | none => decide
  | some x => exact h x (List.mem_of_getElem? hj)
/-- The table lies in memory as its text lays it. -/
def KR (w : World) : Prop := 0 < w.heap.size ∧ ∃ t fr, w.heap[0]? = some (.cells ic t fr)
theorem KR.below {w w' : World} (h : KR w) (hb : Below w.heap.size w w') : KR w' := by
  obtain ⟨h0, t, fr, hh⟩ := h
  exact ⟨by have := hb.size; omega, t, fr, by rw [hb.block 0 h0]; exact hh⟩
theorem Tryd.infoIR : (Tryd.prog.info? 45).map (·.size) = some ic.size := by kernel_rfl
set_option maxRecDepth 100000 in
theorem ir_at : ∀ (j : Nat), j < 11 → ∀ w, (Instr.index 45 (.agg ic) (.int .i64 j)).run Tryd.prog w = .ok (.agg #[.int .i64 (irK j), .string (irW j), .int .i64 (irT j), .int .u64 (irN j)]) w
  | 0, _, _ => by kernel_rfl
  | 1, _, _ => by kernel_rfl
  | 2, _, _ => by kernel_rfl
  | 3, _, _ => by kernel_rfl
  | 4, _, _ => by kernel_rfl
  | 5, _, _ => by kernel_rfl
  | 6, _, _ => by kernel_rfl
  | 7, _, _ => by kernel_rfl
  | 8, _, _ => by kernel_rfl
  | 9, _, _ => by kernel_rfl
  | 10, _, _ => by kernel_rfl
/-- Its text; nothing where it may not be. -/
def itemT (x : It) : List UInt8 := if aloneI x then itText x else []
/-- Does the row j answer? -/
def Hit (j : Nat) (x : It) : Prop := irK j = x.k ∧ ((irT j = 0 ∧ (x.n : Int) = irN j ∧ x.s.size = 0) ∨ (irT j = 1 ∧ x.s.size = 0) ∨ (irT j = 2 ∧ x.n = 0))
theorem hit_text {j : Nat} {x : It} (hj : j < 11) (h : Hit j x) : itemT x = (irW j).data.toList ++ (if irT j = 1 then Lib.decDigits x.n else if irT j = 2 then hexL x.s.data.toList else []) := by
  obtain ⟨k, n, s⟩ := x
  obtain ⟨hk, h⟩ := h
  simp only at hk h
  have hjs : j = 0 ∨ j = 1 ∨ j = 2 ∨ j = 3 ∨ j = 4 ∨ j = 5 ∨ j = 6 ∨ j = 7 ∨ j = 8 ∨ j = 9 ∨ j = 10 := by omega
  rcases hjs with rfl | rfl | rfl | rfl | rfl | rfl | rfl | rfl | rfl | rfl | rfl
  all_goals
    simp only [irK, irT, irN, iKs, iTs, iNs, List.getD_cons_zero, List.getD_cons_succ] at hk h
    subst hk
    simp at h
    simp [itemT, aloneI, itText, irW, irT, iWs, iTs, h]
    try (have e1 : n = 1 := by omega)
    try (subst e1; rfl)
theorem hit_some {x : It} (h : aloneI x = true) : ∃ j, j < 11 ∧ Hit j x := by
  obtain ⟨k, n, s⟩ := x
  unfold aloneI at h
  simp only at h
  by_cases h28 : k = 2 ∨ k = 8
  · rw [if_pos h28] at h
    simp only [Bool.and_eq_true, decide_eq_true_eq] at h
    have hn : n = 0 ∨ n = 1 := by omega
    rcases h28 with rfl | rfl <;> rcases hn with rfl | rfl
    · exact ⟨1, by omega, rfl, .inl ⟨rfl, rfl, h.1⟩⟩
    · exact ⟨2, by omega, rfl, .inl ⟨rfl, rfl, h.1⟩⟩
    · exact ⟨8, by omega, rfl, .inl ⟨rfl, rfl, h.1⟩⟩
    · exact ⟨9, by omega, rfl, .inl ⟨rfl, rfl, h.1⟩⟩
  · rw [if_neg h28] at h
    by_cases h34 : k = 3 ∨ k = 4
    · rw [if_pos h34] at h
      simp only [decide_eq_true_eq] at h
      rcases h34 with rfl | rfl
      · exact ⟨3, by omega, rfl, .inr (.inr ⟨rfl, h⟩)⟩
      · exact ⟨4, by omega, rfl, .inr (.inr ⟨rfl, h⟩)⟩
    · rw [if_neg h34] at h
      simp only [Bool.and_eq_true, decide_eq_true_eq] at h
      have hk : k = 1 ∨ k = 5 ∨ k = 6 ∨ k = 7 ∨ k = 9 := by omega
      rcases hk with rfl | rfl | rfl | rfl | rfl
      · exact ⟨0, by omega, rfl, .inr (.inl ⟨rfl, h.2⟩)⟩
      · exact ⟨5, by omega, rfl, .inr (.inl ⟨rfl, h.2⟩)⟩
      · exact ⟨6, by omega, rfl, .inr (.inl ⟨rfl, h.2⟩)⟩
      · exact ⟨7, by omega, rfl, .inr (.inl ⟨rfl, h.2⟩)⟩
      · exact ⟨10, by omega, rfl, .inr (.inl ⟨rfl, h.2⟩)⟩
theorem hit_none {x : It} (h : ∀ j, j < 11 → ¬ Hit j x) : itemT x = [] := by
  unfold itemT
  cases ha : aloneI x with
  | false => rfl
  | true =>
    obtain ⟨j, hj, hh⟩ := hit_some ha
    exact absurd hh (h j hj)
theorem irT_cases {j : Nat} (hj : j < 11) : irT j = 0 ∨ irT j = 1 ∨ irT j = 2 := by
  have hjs : j = 0 ∨ j = 1 ∨ j = 2 ∨ j = 3 ∨ j = 4 ∨ j = 5 ∨ j = 6 ∨ j = 7 ∨ j = 8 ∨ j = 9 ∨ j = 10 := by omega
  rcases hjs with rfl | rfl | rfl | rfl | rfl | rfl | rfl | rfl | rfl | rfl | rfl <;> decide
theorem irN_range {j : Nat} (hj : j < 11) : 0 ≤ irN j ∧ irN j ≤ 1 := by
  have hjs : j = 0 ∨ j = 1 ∨ j = 2 ∨ j = 3 ∨ j = 4 ∨ j = 5 ∨ j = 6 ∨ j = 7 ∨ j = 8 ∨ j = 9 ∨ j = 10 := by omega
  rcases hjs with rfl | rfl | rfl | rfl | rfl | rfl | rfl | rfl | rfl | rfl | rfl <;> decide
theorem irK_range {j : Nat} (hj : j < 11) : 1 ≤ irK j ∧ irK j ≤ 9 := by
  have hjs : j = 0 ∨ j = 1 ∨ j = 2 ∨ j = 3 ∨ j = 4 ∨ j = 5 ∨ j = 6 ∨ j = 7 ∨ j = 8 ∨ j = 9 ∨ j = 10 := by omega
  rcases hjs with rfl | rfl | rfl | rfl | rfl | rfl | rfl | rfl | rfl | rfl | rfl <;> decide
/-- The library's table lies in memory as its text lays it. -/
def PW (w : World) : Prop := Lib.TabIs Tryd.prog w "internal/strconv.uint64pow10" .u64 Lib.pow10Tab
theorem Tryd.gPW : Tryd.prog.globalNamed "internal/strconv.uint64pow10" = some 1 := by kernel_rfl
theorem PW.below {w w' : World} (h : PW w) (hb : Below w.heap.size w w') : PW w' := by
  unfold PW Lib.TabIs World.var? at h ⊢
  rw [Tryd.gPW] at h ⊢
  simp only [Option.bind_some] at h ⊢
  have hlt : 1 < w.heap.size := by
    rcases Nat.lt_or_ge 1 w.heap.size with h' | h'
    · exact h'
    · rw [Array.getElem?_eq_none h'] at h; cases h
  rw [hb.block _ hlt]
  exact h
set_option maxRecDepth 100000 in
set_option maxHeartbeats 4000000 in
theorem itemText_any (x : It) (w : World) (hm : x.n < 18446744073709551616) (hs : x.s.size ≤ 1048577) (hw : KR w) (hp : PW w) : Calls Tryd.prog 13 #[.agg #[.int .i64 x.k, .int .u64 x.n, .string x.s]] w fun e w' => e = .returned (.string ⟨(itemT x).toArray⟩) ∧ Below w.heap.size w w' := by
  obtain ⟨D, hD⟩ : ∃ D : ByteArray, (⟨(Lib.decDigits x.n).toArray⟩ : ByteArray) = D := ⟨_, rfl⟩
  have HF : Hid (∀ w', Below w.heap.size w w' → Calls Tryd.prog 19 #[.int .u64 x.n, .int .i64 10] w' fun e w'' => e = .returned (.string D) ∧ Below w'.heap.size w' w'') := fun w' hb => by rw [← hD]; exact FormatUint_any x.n hm w' (hp.below hb)
  have HDL : Hid (D.data.toList = Lib.decDigits x.n) := by show _ = _; rw [← hD]
  have hdl : D.size ≤ 20 := by rw [← hD]; exact decDigits_len hm
  obtain ⟨E, hE⟩ : ∃ E : ByteArray, (⟨(hexL x.s.data.toList).toArray⟩ : ByteArray) = E := ⟨_, rfl⟩
  have HX : Hid (∀ w', Calls Tryd.prog 20 #[.string x.s] w' fun e w'' => e = .returned (.string E) ∧ Below w'.heap.size w' w'') := fun w' => by rw [← hE]; exact digitsOf_any x.s w' hs
  have HEL : Hid (E.data.toList = hexL x.s.data.toList) := by show _ = _; rw [← hE]
  have hel : E.size ≤ 2097154 := by
    rw [← hE]
    have h1 := hexL_len x.s.data.toList
    have h2 : x.s.data.toList.length = x.s.size := Array.length_toList
    show (hexL x.s.data.toList).toArray.size ≤ _
    simp only [List.size_toArray]; omega
  have HSE : Hid (x.s.toList.isEmpty = decide (x.s.size = 0)) := str_empty x.s
  have HHT : Hid (∀ j, j < 11 → Hit j x → itemT x = (irW j).data.toList ++ (if irT j = 1 then Lib.decDigits x.n else if irT j = 2 then hexL x.s.data.toList else [])) := fun j hj h => hit_text hj h
  have HHN : Hid ((∀ j, j < 11 → ¬ Hit j x) → itemT x = []) := hit_none
  obtain ⟨A, hA⟩ : ∃ A, itemT x = A := ⟨_, rfl⟩
  rw [hA] at HHT HHN ⊢
  have HHit : Hid (∀ j, Hit j x ↔ (irK j = x.k ∧ ((irT j = 0 ∧ (x.n : Int) = irN j ∧ x.s.toList.isEmpty = true) ∨ (irT j = 1 ∧ x.s.toList.isEmpty = true) ∨ (irT j = 2 ∧ x.n = 0)))) := fun j => by
    unfold Hit
    rw [HSE.out]
    simp
  obtain ⟨h0, t, fr, hg⟩ := hw
  have hg1 : (w.alloc (.cells #[.int .i64 x.k, .int .u64 x.n, .string x.s] 34)).heap[0]? = some (.cells ic t fr) := by rw [Below.heap_alloc _ _ _ h0]; exact hg
  have HG : Hid (w.heap[0]? = some (.cells ic t fr)) := hg
  clear hg hD hE hA hp HSE
  generalize Hit = HIT at *
  have hnn : (0 : Int) ≤ x.n := by omega
  generalize x.k = k at *
  generalize x.n = n at *
  generalize x.s = s at *
  go_enter Tryd.func13, Tryd.ntmps13
  go_wp2_with (refine wpList_load_row rfl 45 _ rfl 0 rfl t ic fr _ hg1 Tryd.underlying45 rfl Tryd.infoIR ?_)
  have hbB : Below w.heap.size w (w.alloc (.cells #[.int .i64 k, .int .u64 n, .string s] 34)) := bel1 _ _
  have HBB : Hid (Below w.heap.size w (w.alloc (.cells #[.int .i64 k, .int .u64 n, .string s] 34))) := hbB
  clear hbB
  go_loopg [6] 11 (fun gk i wr => ∃ j : Nat, j + gk = 11 ∧ i = .int .i64 j ∧ (∀ q, q < j → ¬ HIT q x) ∧ Below (w.heap.size + 1) (w.alloc (.cells #[.int .i64 k, .int .u64 n, .string s] 34)) wr)
  case atStart => exact ⟨0, rfl, rfl, fun q h => by omega, Below.refl _ _⟩
  case round =>
    obtain ⟨j, hj', rfl, hno, hb⟩ := hrel
    have HJ : Hid (j + gk = 11) := hj'
    have HNO : Hid (∀ q, q < j → ¬ HIT q x) := hno
    have HB0 : Hid (Below (w.heap.size + 1) (w.alloc (.cells #[.int .i64 k, .int .u64 n, .string s] 34)) wr) := hb
    have c0 : wr.cell? ⟨w.heap.size, 0, none⟩ = some (.int .i64 k) := by rw [hb.cell (p := ⟨w.heap.size, 0, none⟩) (by simp)]; simp [go_sem]
    have c1 : wr.cell? ⟨w.heap.size, 1, none⟩ = some (.int .u64 n) := by rw [hb.cell (p := ⟨w.heap.size, 1, none⟩) (by simp)]; simp [go_sem]
    have c2 : wr.cell? ⟨w.heap.size, 2, none⟩ = some (.string s) := by rw [hb.cell (p := ⟨w.heap.size, 2, none⟩) (by simp)]; simp [go_sem]
    have hsz : w.heap.size < wr.heap.size := by have := hb.size; simp at this; omega
    have HBW : Hid (Below w.heap.size w wr) := HBB.out.trans (hb.mono (by omega))
    by_cases hlt : j < 11
    · have hix := ir_at j hlt
      have HNX : Hid (¬ HIT j x → ∀ q, q < j + 1 → ¬ HIT q x) := fun h q hq => by
        by_cases e : q = j
        · subst e; exact h
        · exact HNO.out q (by omega)
      have HI := HHit.out j
      have HTX := HHT.out j hlt
      have HII : Hid (HIT j x ↔ (irK j = k ∧ ((irT j = 0 ∧ (n : Int) = irN j ∧ s.toList.isEmpty = true) ∨ (irT j = 1 ∧ s.toList.isEmpty = true) ∨ (irT j = 2 ∧ n = 0)))) := HI
      have HTT : Hid (HIT j x → A = (irW j).data.toList ++ (if irT j = 1 then Lib.decDigits n else if irT j = 2 then hexL s.data.toList else [])) := HTX
      have hwl := irW_len j
      have htc := irT_cases hlt
      have hnr := irN_range hlt
      have hkr := irK_range hlt
      clear hno hj' hb HI HTX
      generalize irK j = rk at *
      generalize irW j = rw' at *
      generalize irT j = rt at *
      generalize irN j = rn at *
      generalize hHP : HIT j x = HP at *
      by_cases hkj : rk = k
      · have hq : (rk != k) = false := by simp [hkj]
        subst hkj
        rcases htc with rfl | rfl | rfl
        · by_cases hn : (n : Int) = rn
          · have hn' : ((n : Int) == rn) = true := by simp [hn]
            cases hEm : s.toList.isEmpty with
            | true =>
              have HE : Hid (rw' = ⟨A.toArray⟩) := by
                show _ = _
                apply str_of
                rw [HTT.out (HII.out.2 ⟨rfl, .inl ⟨rfl, hn, hEm⟩⟩)]; simp
              clear hn HII HTT
              go_wp2_with fail
              go_ret
              exact ⟨by rw [← HE.out]; try rfl, HBW.out.alloc (by omega) _⟩
            | false =>
              have HN : Hid (∀ q, q < j + 1 → ¬ HIT q x) := HNX.out (fun h => by
                have := (HII.out.1 h).2
                rcases this with h | h | h
                · rw [hEm] at h; simp at h
                · simp at h
                · simp at h)
              clear hn HII HTT
              go_wp2_with fail
              go_roundg (gk - 1)
              case rel => exact ⟨j + 1, by have := HJ.out; omega, by go_num, HN.out, HB0.out.alloc (by omega) _⟩
              case measure => have := HJ.out; omega
          · have hn' : ((n : Int) == rn) = false := beqF hn
            have HN : Hid (∀ q, q < j + 1 → ¬ HIT q x) := HNX.out (fun h => by
                have := (HII.out.1 h).2
                rcases this with h | h | h
                · exact hn h.2.1
                · simp at h
                · simp at h)
            clear hn HII HTT
            go_wp2_with fail
            go_roundg (gk - 1)
            case rel => exact ⟨j + 1, by have := HJ.out; omega, by go_num, HN.out, HB0.out.alloc (by omega) _⟩
            case measure => have := HJ.out; omega
        · cases hEm : s.toList.isEmpty with
          | true =>
            have HE : Hid (rw' ++ D = ⟨A.toArray⟩) := by
              show _ = _
              apply str_of
              rw [HTT.out (HII.out.2 ⟨rfl, .inr (.inl ⟨rfl, hEm⟩)⟩), cat_dl, HDL.out]; simp
            clear HII HTT
            go_wp2_with fail
            obtain ⟨W, hW⟩ : ∃ W, wr.alloc (.cells #[.int .i64 rk, .string rw', .int .i64 1, .int .u64 rn] 44) = W := ⟨_, rfl⟩
            have hbW : Below w.heap.size w W := by rw [← hW]; exact HBW.out.alloc (by omega) _
            have r1 : ∀ d os, (grow (redrawn W d) os).cell? ⟨wr.heap.size, 1, none⟩ = some (.string rw') := cells_re (by rw [← hW]; simp [go_sem])
            have hbb : Below wr.heap.size wr W := by rw [← hW]; exact bel1 _ _
            have r2 : ∀ d os, (grow (redrawn W d) os).cell? ⟨w.heap.size, 1, none⟩ = some (.int .u64 n) := cells_re (by rw [hbb.cell (p := ⟨w.heap.size, 1, none⟩) hsz]; exact c1)
            rw [hW]
            have HBW2 : Hid (Below w.heap.size w W) := hbW
            clear hW hbb hbW c0 c1 c2
            refine wp_region_quiet_below (by kernel_rfl) (by kernel_rfl) ?_
            repeat (go_big_quiet_step (exact Calls.regrown_of (HF.out _ (HBW2.out.trans ((below_regrown W _ _).mono HBW2.out.size)))))
            refine wpQuiet_nil ?_
            intro w6 hw'
            obtain ⟨⟨dq, osq⟩, hw''⟩ := hw'
            have hb6 : Below w.heap.size w w6 := by rw [hw'']; exact HBW2.out.trans ((below_regrown W dq osq).mono HBW2.out.size)
            clear hw'' r1 r2
            go_wp2_with fail
            go_ret
            exact ⟨by rw [← HE.out]; first | rfl | simp, hb6⟩
          | false =>
            have HN : Hid (∀ q, q < j + 1 → ¬ HIT q x) := HNX.out (fun h => by
                have := (HII.out.1 h).2
                rcases this with h | h | h
                · simp at h
                · rw [hEm] at h; simp at h
                · simp at h)
            clear HII HTT
            go_wp2_with fail
            go_roundg (gk - 1)
            case rel => exact ⟨j + 1, by have := HJ.out; omega, by go_num, HN.out, HB0.out.alloc (by omega) _⟩
            case measure => have := HJ.out; omega
        · by_cases hn : n = 0
          · subst hn
            have HE : Hid (rw' ++ E = ⟨A.toArray⟩) := by
              show _ = _
              apply str_of
              rw [HTT.out (HII.out.2 ⟨rfl, .inr (.inr ⟨rfl, rfl⟩)⟩), cat_dl, HEL.out]; simp
            clear HII HTT
            go_wp2_with fail
            obtain ⟨W, hW⟩ : ∃ W, wr.alloc (.cells #[.int .i64 rk, .string rw', .int .i64 2, .int .u64 rn] 44) = W := ⟨_, rfl⟩
            have hbW : Below w.heap.size w W := by rw [← hW]; exact HBW.out.alloc (by omega) _
            have r1 : ∀ d os, (grow (redrawn W d) os).cell? ⟨wr.heap.size, 1, none⟩ = some (.string rw') := cells_re (by rw [← hW]; simp [go_sem])
            have hbb : Below wr.heap.size wr W := by rw [← hW]; exact bel1 _ _
            have r2 : ∀ d os, (grow (redrawn W d) os).cell? ⟨w.heap.size, 2, none⟩ = some (.string s) := cells_re (by rw [hbb.cell (p := ⟨w.heap.size, 2, none⟩) hsz]; exact c2)
            rw [hW]
            have HBW2 : Hid (Below w.heap.size w W) := hbW
            clear hW hbb hbW c0 c1 c2
            refine wp_region_quiet_below (by kernel_rfl) (by kernel_rfl) ?_
            repeat (go_big_quiet_step (exact Calls.regrown_of (HX.out _)))
            refine wpQuiet_nil ?_
            intro w6 hw'
            obtain ⟨⟨dq, osq⟩, hw''⟩ := hw'
            have hb6 : Below w.heap.size w w6 := by rw [hw'']; exact HBW2.out.trans ((below_regrown W dq osq).mono HBW2.out.size)
            clear hw'' r1 r2
            go_wp2_with fail
            go_ret
            exact ⟨by rw [← HE.out]; first | rfl | simp, hb6⟩
          · have hn' : ((n : Int) == 0) = false := beqF (by omega)
            have HN : Hid (∀ q, q < j + 1 → ¬ HIT q x) := HNX.out (fun h => by
                have := (HII.out.1 h).2
                rcases this with h | h | h
                · simp at h
                · simp at h
                · exact hn h.2)
            clear hn HII HTT
            go_wp2_with fail
            go_roundg (gk - 1)
            case rel => exact ⟨j + 1, by have := HJ.out; omega, by go_num, HN.out, HB0.out.alloc (by omega) _⟩
            case measure => have := HJ.out; omega
      · have hq : (rk != k) = true := by rw [bne_iff_ne]; exact hkj
        have HN : Hid (∀ q, q < j + 1 → ¬ HIT q x) := HNX.out (fun h => hkj (HII.out.1 h).1)
        clear hkj HII HTT htc
        go_wp2_with fail
        go_roundg (gk - 1)
        case rel => exact ⟨j + 1, by have := HJ.out; omega, by go_num, HN.out, HB0.out.alloc (by omega) _⟩
        case measure => have := HJ.out; omega
    · have e11 : j = 11 := by omega
      have HE : Hid (A = []) := HHN.out (fun q hq => HNO.out q (by omega))
      subst e11
      clear hno hj' hb
      go_wp2_with fail
      go_ret
      exact ⟨by rw [HE.out]; try rfl, HBW.out⟩
end Go.Proofs.YtknbmheenfdebaaDoor
