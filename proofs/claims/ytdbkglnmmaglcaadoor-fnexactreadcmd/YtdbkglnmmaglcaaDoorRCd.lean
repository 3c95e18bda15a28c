/- ReadCmd, both sides: contracts. -/
import Derived.Test.YtdbkglnmmaglcaaDoorRCc
import Derived.Test.YtdbkglnmmaglcaaDoorSh
namespace Go.Proofs.YtdbkglnmmaglcaaDoor
open Go.RowKit Go.Sort
set_option linter.unusedVariables false
theorem set_block {w : World} {N i : Nat} {cs : Array Value} {t : TypeId} {fr : Nat × Nat} (h : w.heap[N]? = some (.cells cs t fr)) (v : Value) : (w.setCell ⟨N, i, none⟩ v).heap[N]? = some (.cells (cs.setIfInBounds i v) t fr) := by
  have hlt : N < w.heap.size := by
    rcases Nat.lt_or_ge N w.heap.size with h' | h'
    · exact h'
    · simp [Array.getElem?_eq_none h'] at h
  have h' : w.heap[N] = .cells cs t fr := by simpa [Array.getElem?_eq_getElem hlt] using h
  show (w.heap.modify N _)[N]? = _
  rw [Array.getElem?_eq_getElem (by simpa using hlt), Array.getElem_modify_self, h']
  rfl
theorem blk_lt {w : World} {b : Nat} {o : Obj} (h : w.heap[b]? = some o) : b < w.heap.size := by
  rcases Nat.lt_or_ge b w.heap.size with h' | h'
  · exact h'
  · simp [Array.getElem?_eq_none h'] at h
theorem setN3 {w : World} {N : Nat} {a b c u0 u1 u2 : Value} {T : TypeId} (hN : w.heap[N]? = some (.cells #[u0, u1, u2] T (0, 0))) : (((w.setCell ⟨N, 0, none⟩ a).setCell ⟨N, 1, none⟩ b).setCell ⟨N, 2, none⟩ c).heap[N]? = some (.cells #[a, b, c] T (0, 0)) := by
  have e1 := set_block (i := 0) hN a
  have e2 := set_block (i := 1) e1 b
  have e3 := set_block (i := 2) e2 c
  rw [e3]; simp
theorem results_cell_row2 {P : Program} {fn : Func} {p u : Tmp} {ty : TypeId} (h : fn.results = #[.cell p ty, .tmp u]) (tmps : Array Value) (w : World) (g : Nat) (t : TypeId) (cs : Array Value) (fr : Nat × Nat) (d : TypeDesc)
    (hp : tmps.getD p undef = .pointer (some ⟨g, 0, none⟩)) (hg : w.heap[g]? = some (.cells cs t fr))
    (hu : P.underlying ty = some d) (hd : (match d with | .struct _ | .array _ _ => true | _ => false) = true) (hi : (P.info? ty).map (·.size) = some cs.size) :
    (results fn tmps).run P w = .ok (.tuple #[.agg cs, tmps.getD u undef]) w := by
  have hp' : tmps[p]?.getD undef = .pointer (some ⟨g, 0, none⟩) := by simpa using hp
  simp [results, h, hp', asAddr, run_loadVar_row w g t ty cs fr d hg hu hd hi]
theorem cells3 {W : World} {b : Nat} {u0 u1 u2 : Value} {t : Nat} (h : W.heap[b]? = some (.cells #[u0, u1, u2] t (0, 0))) : (W.cell? ⟨b, 0, none⟩ = some u0 ∧ W.cell? ⟨b, 1, none⟩ = some u1 ∧ W.cell? ⟨b, 2, none⟩ = some u2) ∧ ∀ i, W.frozen? ⟨b, i, none⟩ = false := by
  refine ⟨⟨?_, ?_, ?_⟩, fun i => by simp [World.frozen?, h]⟩ <;> (rw [cell_of_row _ _ _ _ _ _ h]; rfl)
theorem Good.ne {k a : Int} {d s : ByteArray} (h : Good k a d s) : s.size ≠ 0 := by
  rcases h.cases with ⟨_, _, r, _, _, rfl⟩ | ⟨_, _, _, rfl⟩ | ⟨_, _, _, rfl⟩
  · rw [ByteArray.size_append]; show 3 + _ ≠ 0; omega
  · rw [ByteArray.size_append]; show 5 + _ ≠ 0; omega
  · decide
theorem Good.of {k a : Int} {d s : ByteArray} (h : cmdT k a d = s) (hs : s.size ≠ 0) : Good k a d s := by
  refine ⟨?_, h⟩
  cases hb : cmdB k a d with
  | true => rfl
  | false =>
    exfalso
    apply hs
    rw [← h]; unfold cmdT; rw [hb]; rfl
theorem RcOk.yes {k a : Int} {d s : ByteArray} (h : cmdT k a d = s) (hs : s.size ≠ 0) : RcOk s k a d true := .inl ⟨rfl, Good.of h hs⟩
theorem RcOk.no {k a : Int} {d s : ByteArray} (h : cmdT k a d ≠ s) (hb : ∀ k' a' d', Good k' a' d' s → k' = k ∧ a' = a ∧ d' = d) : RcOk s 0 0 ByteArray.empty false :=
  .inr ⟨rfl, rfl, rfl, rfl, fun k' a' d' g => by
    obtain ⟨rfl, rfl, rfl⟩ := hb k' a' d' g
    exact h g.2⟩

/-- The answer of ReadCmd. -/
def RcV (s : ByteArray) (e : Ending) : Prop := ∃ k a d b, e = .returned (.tuple #[.agg #[.int .i64 k, .int .i64 a, .string d], .bool b]) ∧ RcOk s k a d b
set_option maxRecDepth 100000 in
set_option maxHeartbeats 4000000 in
theorem specReadCmd_any (s : ByteArray) (w : World) (hs : s.size ≤ 1048576) : Calls Tryd.prog 9 #[.string s] w fun e w' => RcV s e ∧ Below w.heap.size w w' := by
  obtain ⟨W, hW⟩ : ∃ W, w.alloc (.cells #[.int .i64 0, .int .i64 0, .string ⟨#[]⟩] 26) = W := ⟨_, rfl⟩
  have hHW : W.heap[w.heap.size]? = some (.cells #[.int .i64 0, .int .i64 0, .string ⟨#[]⟩] 26 (0, 0)) := by rw [← hW]; exact heap_alloc_new w _
  have HBW : Hid (Below w.heap.size w W) := by show Below _ _ _; rw [← hW]; exact belA _ _
  have HWW : Hid (w.alloc (.cells #[.int .i64 0, .int .i64 0, .string ⟨#[]⟩] 26) = W) := hW
  obtain ⟨H, hH⟩ : ∃ H, w.heap.size = H := ⟨_, rfl⟩
  have HHE : Hid (w.heap.size = H) := hH
  rw [hH] at hHW HBW
  have HHW : Hid (W.heap[H]? = some (.cells #[.int .i64 0, .int .i64 0, .string ⟨#[]⟩] 26 (0, 0))) := hHW
  by_cases hbig : 1000 < s.size
  · have HR : Hid (RcOk s 0 0 ByteArray.empty false) := .inr ⟨rfl, rfl, rfl, rfl, fun k a d g => by have := g.size; omega⟩
    clear hW hHW hH
    go_enter Tryd.func9, Tryd.ntmps9
    go_wp2_with fail
    try rw [HWW.out]
    try rw [HHE.out]
    exact bodyPost_ret (v := .tuple #[.agg #[.int .i64 0, .int .i64 0, .string ⟨#[]⟩], .bool false]) (results_cell_row2 Tryd.results9 _ _ H _ _ _ _ rfl HHW.out Tryd.underlying26 rfl Tryd.szCmdT) rfl ⟨⟨_, _, _, _, rfl, HR.out⟩, by first | exact HBW.out | (rw [HHE.out]; exact HBW.out)⟩
  · have hs1 : s.size ≤ 1000 := by omega
    have HCut : Hid (∀ w, Calls Tryd.prog 17 #[.string s, .int .u8 32] w fun e w' => (∃ x y b, e = .returned (.tuple #[.string x, .string y, .bool b]) ∧ CutOk s x y b) ∧ Below w.heap.size w w') := fun w => l1Cut_any s w hs
    clear hbig hW hHW hH
    go_enter Tryd.func9, Tryd.ntmps9
    go_wp2_with fail
    try rw [HWW.out]
    try rw [HHE.out]
    refine (HCut.out _).mono ?_
    rintro e w1 ⟨⟨x, y, b, rfl, hcut⟩, hb1⟩
    have HC1 : Hid (CutOk s x y b) := hcut
    have HB1 : Hid (Below H w w1) := HBW.out.trans (hb1.mono (by have := HBW.out.size; have := HHE.out; omega))
    have HH1 : Hid (w1.heap[H]? = some (.cells #[.int .i64 0, .int .i64 0, .string ⟨#[]⟩] 26 (0, 0))) := (hb1.block H (blk_lt HHW.out)).trans HHW.out
    have hys : y.size ≤ 1000 := by
      rcases hcut.2 with ⟨_, h⟩ | ⟨_, h, h2⟩
      · have h1 := congrArg List.length h
        simp only [List.length_append, List.length_cons] at h1
        have e1 : s.data.toList.length = s.size := Array.length_toList
        have e2 : y.data.toList.length = y.size := Array.length_toList
        omega
      · omega
    obtain ⟨C, hC⟩ : ∃ C, w1.heap.size = C := ⟨_, rfl⟩
    have HCE : Hid (w1.heap.size = C) := hC
    have hHC : H ≠ C := by have := blk_lt HH1.out; omega
    have HCN : Hid (∀ cs : Array Value, (w1.alloc (.cells cs 26)).heap[C]? = some (.cells cs 26 (0, 0))) := fun cs => by rw [← hC]; exact heap_alloc_new w1 _
    have HHN : Hid (∀ o, (w1.alloc o).heap[H]? = some (.cells #[.int .i64 0, .int .i64 0, .string ⟨#[]⟩] 26 (0, 0))) := fun o => (Below.heap_alloc w1 _ _ (blk_lt HH1.out)).trans HH1.out
    have HBN : Hid (∀ o, Below H w (w1.alloc o)) := fun o => HB1.out.alloc (by have := blk_lt HH1.out; omega) _
    clear hb1 hcut hC
    by_cases hx0 : x = ⟨([116, 111] : List UInt8).toArray⟩
    · have hq0 : (x.toList == [116, 111]) = true := by rw [hx0, toL]; rfl
      obtain ⟨fm, hfm⟩ : ∃ fm, fmtIx y = fm := ⟨_, rfl⟩
      have HF : Hid (∀ w, Calls Tryd.prog 18 #[.string y] w fun e w' => e = .returned (.int .i64 fm) ∧ Below w.heap.size w w') := fun w => by rw [← hfm]; exact l13Format_any y w (by omega)
      have HBR : Hid (∀ k' a' d', Good k' a' d' s → k' = 1 ∧ a' = fm ∧ d' = ⟨#[]⟩) := fun k' a' d' g => by
        rcases cutGood HC1.out g with ⟨_, h1, h2, h3⟩ | ⟨h1, _⟩ | ⟨h1, _⟩
        · exact ⟨h1, by rw [h2, hfm], h3⟩
        · rw [hx0] at h1; exact absurd h1 (by decide)
        · rw [hx0] at h1; exact absurd h1 (by decide)
      have hfin := fmtIx_in y
      rw [hfm] at hfin
      clear hfm hx0
      have HT : Hid (∀ w, Calls Tryd.prog 6 #[.agg #[.int .i64 1, .int .i64 fm, .string ⟨#[]⟩]] w fun e w' => e = .returned (.string (cmdT 1 fm ⟨#[]⟩)) ∧ Below w.heap.size w w') := fun w => specCmdText_any 1 fm ⟨#[]⟩ w (by first | omega | (show 0 ≤ _; omega))
      obtain ⟨TX, hTX⟩ : ∃ T, cmdT 1 fm ⟨#[]⟩ = T := ⟨_, rfl⟩
      have HTX : Hid (cmdT 1 fm ⟨#[]⟩ = TX) := hTX
      rw [hTX] at HT
      clear hTX
      by_cases hse : s.size = 0
      · have HR : Hid (RcOk s 0 0 ByteArray.empty false) := .inr ⟨rfl, rfl, rfl, rfl, fun k a d g => g.ne hse⟩
        have hsi : s.toList.isEmpty = true := by rw [size_empty hse, ByteArray.toList_eq]; rfl
        clear hse
        go_wp2_with fail
        try rw [HCE.out]
        refine (HF.out _).mono ?_
        rintro e w3 ⟨rfl, hb3⟩
        have hC3 : w3.heap[C]? = some (.cells #[.int .i64 1, .int .i64 0, .string ⟨#[]⟩] 26 (0, 0)) := (hb3.block C (blk_lt (HCN.out _))).trans (HCN.out _)
        have hH3 : w3.heap[H]? = some (.cells #[.int .i64 0, .int .i64 0, .string ⟨#[]⟩] 26 (0, 0)) := (hb3.block H (blk_lt (HHN.out _))).trans (HHN.out _)
        have hB3 : Below H w w3 := (HBN.out _).trans (hb3.mono (by have := blk_lt (HHN.out (.cells #[.int .i64 1, .int .i64 0, .string ⟨#[]⟩] 26)); omega))
        obtain ⟨⟨p0, p1, p2⟩, pf⟩ := cells3 hC3
        have pfi := pf 1
        have HC4 : Hid ((w3.setCell ⟨C, 1, none⟩ (.int .i64 fm)).heap[C]? = some (.cells #[.int .i64 1, .int .i64 fm, .string ⟨#[]⟩] 26 (0, 0))) := by show _ = _; rw [set_block (i := 1) hC3]; rfl
        have HH4 : Hid ((w3.setCell ⟨C, 1, none⟩ (.int .i64 fm)).heap[H]? = some (.cells #[.int .i64 0, .int .i64 0, .string ⟨#[]⟩] 26 (0, 0))) := by show _ = _; rw [Below.heap_setCell _ _ _ _ hHC]; exact hH3
        have HB4 : Hid (Below H w (w3.setCell ⟨C, 1, none⟩ (.int .i64 fm))) := hB3.setCell (p := ⟨C, 1, none⟩) (by have := hHC; have := blk_lt HH1.out; have := HCE.out; simp; omega) _
        obtain ⟨⟨q0, q1, q2⟩, qf⟩ := cells3 HC4.out
        clear hb3 hC3 hH3 hB3 pf qf
        obtain ⟨⟨t0, t1, t2⟩, tf⟩ := cells3 HH4.out
        have tf0 := tf 0
        have tf1 := tf 1
        have tf2 := tf 2
        clear tf
        go_wp2_with fail
        exact bodyPost_ret (v := .tuple #[.agg #[.int .i64 0, .int .i64 0, .string ⟨#[]⟩], .bool false]) (results_cell_row2 Tryd.results9 _ _ H _ _ _ _ rfl (setN3 HH4.out) Tryd.underlying26 rfl Tryd.szCmdT) rfl ⟨⟨_, _, _, _, rfl, HR.out⟩, by rw [HHE.out]; exact ((HB4.out.setCell (p := ⟨H, 0, none⟩) (Nat.le_refl _) _).setCell (p := ⟨H, 1, none⟩) (Nat.le_refl _) _).setCell (p := ⟨H, 2, none⟩) (Nat.le_refl _) _⟩
      · have hsi : s.toList.isEmpty = false := by have := toList_ne hse; simpa using this
        have HSE : Hid (s.size ≠ 0) := hse
        clear hse
        by_cases hte : TX = s
        · have HR : Hid (RcOk s 1 fm ⟨#[]⟩ true) := RcOk.yes (by rw [HTX.out]; exact hte) HSE.out
          have hqt : (TX.toList == s.toList) = true := by rw [hte]; simp
          clear hte
          go_wp2_with fail
          try rw [HCE.out]
          refine (HF.out _).mono ?_
          rintro e w3 ⟨rfl, hb3⟩
          have hC3 : w3.heap[C]? = some (.cells #[.int .i64 1, .int .i64 0, .string ⟨#[]⟩] 26 (0, 0)) := (hb3.block C (blk_lt (HCN.out _))).trans (HCN.out _)
          have hH3 : w3.heap[H]? = some (.cells #[.int .i64 0, .int .i64 0, .string ⟨#[]⟩] 26 (0, 0)) := (hb3.block H (blk_lt (HHN.out _))).trans (HHN.out _)
          have hB3 : Below H w w3 := (HBN.out _).trans (hb3.mono (by have := blk_lt (HHN.out (.cells #[.int .i64 1, .int .i64 0, .string ⟨#[]⟩] 26)); omega))
          obtain ⟨⟨p0, p1, p2⟩, pf⟩ := cells3 hC3
          have pfi := pf 1
          have HC4 : Hid ((w3.setCell ⟨C, 1, none⟩ (.int .i64 fm)).heap[C]? = some (.cells #[.int .i64 1, .int .i64 fm, .string ⟨#[]⟩] 26 (0, 0))) := by show _ = _; rw [set_block (i := 1) hC3]; rfl
          have HH4 : Hid ((w3.setCell ⟨C, 1, none⟩ (.int .i64 fm)).heap[H]? = some (.cells #[.int .i64 0, .int .i64 0, .string ⟨#[]⟩] 26 (0, 0))) := by show _ = _; rw [Below.heap_setCell _ _ _ _ hHC]; exact hH3
          have HB4 : Hid (Below H w (w3.setCell ⟨C, 1, none⟩ (.int .i64 fm))) := hB3.setCell (p := ⟨C, 1, none⟩) (by have := hHC; have := blk_lt HH1.out; have := HCE.out; simp; omega) _
          obtain ⟨⟨q0, q1, q2⟩, qf⟩ := cells3 HC4.out
          clear hb3 hC3 hH3 hB3 pf qf
          go_wp2_with fail
          refine (HT.out _).mono ?_
          rintro e w5 ⟨rfl, hb5⟩
          have HC5 : Hid (w5.heap[C]? = some (.cells #[.int .i64 1, .int .i64 fm, .string ⟨#[]⟩] 26 (0, 0))) := (hb5.block C (blk_lt HC4.out)).trans HC4.out
          have HH5 : Hid (w5.heap[H]? = some (.cells #[.int .i64 0, .int .i64 0, .string ⟨#[]⟩] 26 (0, 0))) := (hb5.block H (blk_lt HH4.out)).trans HH4.out
          have HB5 : Hid (Below H w w5) := HB4.out.trans (hb5.mono (by have := blk_lt HH4.out; omega))
          obtain ⟨⟨r0, r1, r2⟩, rf⟩ := cells3 HC5.out
          obtain ⟨⟨t0, t1, t2⟩, tf⟩ := cells3 HH5.out
          have tf0 := tf 0
          have tf1 := tf 1
          have tf2 := tf 2
          clear hb5 rf tf
          go_wp2_with fail
          exact bodyPost_ret (v := .tuple #[.agg #[.int .i64 1, .int .i64 fm, .string ⟨#[]⟩], .bool true]) (results_cell_row2 Tryd.results9 _ _ H _ _ _ _ rfl (setN3 HH5.out) Tryd.underlying26 rfl Tryd.szCmdT) rfl ⟨⟨_, _, _, _, rfl, HR.out⟩, by rw [HHE.out]; exact ((HB5.out.setCell (p := ⟨H, 0, none⟩) (Nat.le_refl _) _).setCell (p := ⟨H, 1, none⟩) (Nat.le_refl _) _).setCell (p := ⟨H, 2, none⟩) (Nat.le_refl _) _⟩
        · have HR : Hid (RcOk s 0 0 ByteArray.empty false) := RcOk.no (by rw [HTX.out]; exact hte) HBR.out
          have hqt : (TX.toList == s.toList) = false := by rw [beq_eq_false_iff_ne]; exact fun e => hte (eq_of_toList e)
          clear hte
          go_wp2_with fail
          try rw [HCE.out]
          refine (HF.out _).mono ?_
          rintro e w3 ⟨rfl, hb3⟩
          have hC3 : w3.heap[C]? = some (.cells #[.int .i64 1, .int .i64 0, .string ⟨#[]⟩] 26 (0, 0)) := (hb3.block C (blk_lt (HCN.out _))).trans (HCN.out _)
          have hH3 : w3.heap[H]? = some (.cells #[.int .i64 0, .int .i64 0, .string ⟨#[]⟩] 26 (0, 0)) := (hb3.block H (blk_lt (HHN.out _))).trans (HHN.out _)
          have hB3 : Below H w w3 := (HBN.out _).trans (hb3.mono (by have := blk_lt (HHN.out (.cells #[.int .i64 1, .int .i64 0, .string ⟨#[]⟩] 26)); omega))
          obtain ⟨⟨p0, p1, p2⟩, pf⟩ := cells3 hC3
          have pfi := pf 1
          have HC4 : Hid ((w3.setCell ⟨C, 1, none⟩ (.int .i64 fm)).heap[C]? = some (.cells #[.int .i64 1, .int .i64 fm, .string ⟨#[]⟩] 26 (0, 0))) := by show _ = _; rw [set_block (i := 1) hC3]; rfl
          have HH4 : Hid ((w3.setCell ⟨C, 1, none⟩ (.int .i64 fm)).heap[H]? = some (.cells #[.int .i64 0, .int .i64 0, .string ⟨#[]⟩] 26 (0, 0))) := by show _ = _; rw [Below.heap_setCell _ _ _ _ hHC]; exact hH3
          have HB4 : Hid (Below H w (w3.setCell ⟨C, 1, none⟩ (.int .i64 fm))) := hB3.setCell (p := ⟨C, 1, none⟩) (by have := hHC; have := blk_lt HH1.out; have := HCE.out; simp; omega) _
          obtain ⟨⟨q0, q1, q2⟩, qf⟩ := cells3 HC4.out
          clear hb3 hC3 hH3 hB3 pf qf
          go_wp2_with fail
          refine (HT.out _).mono ?_
          rintro e w5 ⟨rfl, hb5⟩
          have HC5 : Hid (w5.heap[C]? = some (.cells #[.int .i64 1, .int .i64 fm, .string ⟨#[]⟩] 26 (0, 0))) := (hb5.block C (blk_lt HC4.out)).trans HC4.out
          have HH5 : Hid (w5.heap[H]? = some (.cells #[.int .i64 0, .int .i64 0, .string ⟨#[]⟩] 26 (0, 0))) := (hb5.block H (blk_lt HH4.out)).trans HH4.out
          have HB5 : Hid (Below H w w5) := HB4.out.trans (hb5.mono (by have := blk_lt HH4.out; omega))
          obtain ⟨⟨r0, r1, r2⟩, rf⟩ := cells3 HC5.out
          obtain ⟨⟨t0, t1, t2⟩, tf⟩ := cells3 HH5.out
          have tf0 := tf 0
          have tf1 := tf 1
          have tf2 := tf 2
          clear hb5 rf tf
          go_wp2_with fail
          exact bodyPost_ret (v := .tuple #[.agg #[.int .i64 0, .int .i64 0, .string ⟨#[]⟩], .bool false]) (results_cell_row2 Tryd.results9 _ _ H _ _ _ _ rfl (setN3 HH5.out) Tryd.underlying26 rfl Tryd.szCmdT) rfl ⟨⟨_, _, _, _, rfl, HR.out⟩, by rw [HHE.out]; exact ((HB5.out.setCell (p := ⟨H, 0, none⟩) (Nat.le_refl _) _).setCell (p := ⟨H, 1, none⟩) (Nat.le_refl _) _).setCell (p := ⟨H, 2, none⟩) (Nat.le_refl _) _⟩
    have hq0 : (x.toList == [116, 111]) = false := by rw [beq_eq_false_iff_ne]; exact fun e => hx0 (eq_of_toList (by rw [e, toL]))
    by_cases hx1 : x = ⟨([102, 101, 101, 100] : List UInt8).toArray⟩
    · have hq1 : (x.toList == [102, 101, 101, 100]) = true := by rw [hx1, toL]; rfl
      obtain ⟨ud, hud⟩ : ∃ ud, unhW y = ud := ⟨_, rfl⟩
      have hus := unhW_size y
      rw [hud] at hus
      have HF : Hid (∀ w, Calls Tryd.prog 19 #[.string y] w fun e w' => (∃ o, e = .returned (.tuple #[.string ud, .bool o])) ∧ Below w.heap.size w w') := fun w => by rw [← hud]; exact l13Unhex_any y w (by omega)
      have HBR : Hid (∀ k' a' d', Good k' a' d' s → k' = 2 ∧ a' = 0 ∧ d' = ud) := fun k' a' d' g => by
        rcases cutGood HC1.out g with ⟨h1, _⟩ | ⟨_, h1, h2, h3⟩ | ⟨h1, _⟩
        · rw [hx1] at h1; exact absurd h1 (by decide)
        · exact ⟨h1, h2, by rw [← hud, h3, unhW_hexW]⟩
        · rw [hx1] at h1; exact absurd h1 (by decide)
      clear hud hx1
      have HT : Hid (∀ w, Calls Tryd.prog 6 #[.agg #[.int .i64 2, .int .i64 0, .string ud]] w fun e w' => e = .returned (.string (cmdT 2 0 ud)) ∧ Below w.heap.size w w') := fun w => specCmdText_any 2 0 ud w (by first | omega | (show 0 ≤ _; omega))
      obtain ⟨TX, hTX⟩ : ∃ T, cmdT 2 0 ud = T := ⟨_, rfl⟩
      have HTX : Hid (cmdT 2 0 ud = TX) := hTX
      rw [hTX] at HT
      clear hTX
      by_cases hse : s.size = 0
      · have HR : Hid (RcOk s 0 0 ByteArray.empty false) := .inr ⟨rfl, rfl, rfl, rfl, fun k a d g => g.ne hse⟩
        have hsi : s.toList.isEmpty = true := by rw [size_empty hse, ByteArray.toList_eq]; rfl
        clear hse
        go_wp2_with fail
        try rw [HCE.out]
        refine (HF.out _).mono ?_
        rintro e w3 ⟨⟨oo, rfl⟩, hb3⟩
        have hC3 : w3.heap[C]? = some (.cells #[.int .i64 2, .int .i64 0, .string ⟨#[]⟩] 26 (0, 0)) := (hb3.block C (blk_lt (HCN.out _))).trans (HCN.out _)
        have hH3 : w3.heap[H]? = some (.cells #[.int .i64 0, .int .i64 0, .string ⟨#[]⟩] 26 (0, 0)) := (hb3.block H (blk_lt (HHN.out _))).trans (HHN.out _)
        have hB3 : Below H w w3 := (HBN.out _).trans (hb3.mono (by have := blk_lt (HHN.out (.cells #[.int .i64 2, .int .i64 0, .string ⟨#[]⟩] 26)); omega))
        obtain ⟨⟨p0, p1, p2⟩, pf⟩ := cells3 hC3
        have pfi := pf 2
        have HC4 : Hid ((w3.setCell ⟨C, 2, none⟩ (.string ud)).heap[C]? = some (.cells #[.int .i64 2, .int .i64 0, .string ud] 26 (0, 0))) := by show _ = _; rw [set_block (i := 2) hC3]; rfl
        have HH4 : Hid ((w3.setCell ⟨C, 2, none⟩ (.string ud)).heap[H]? = some (.cells #[.int .i64 0, .int .i64 0, .string ⟨#[]⟩] 26 (0, 0))) := by show _ = _; rw [Below.heap_setCell _ _ _ _ hHC]; exact hH3
        have HB4 : Hid (Below H w (w3.setCell ⟨C, 2, none⟩ (.string ud))) := hB3.setCell (p := ⟨C, 2, none⟩) (by have := hHC; have := blk_lt HH1.out; have := HCE.out; simp; omega) _
        obtain ⟨⟨q0, q1, q2⟩, qf⟩ := cells3 HC4.out
        clear hb3 hC3 hH3 hB3 pf qf
        obtain ⟨⟨t0, t1, t2⟩, tf⟩ := cells3 HH4.out
        have tf0 := tf 0
        have tf1 := tf 1
        have tf2 := tf 2
        clear tf
        go_wp2_with fail
        exact bodyPost_ret (v := .tuple #[.agg #[.int .i64 0, .int .i64 0, .string ⟨#[]⟩], .bool false]) (results_cell_row2 Tryd.results9 _ _ H _ _ _ _ rfl (setN3 HH4.out) Tryd.underlying26 rfl Tryd.szCmdT) rfl ⟨⟨_, _, _, _, rfl, HR.out⟩, by rw [HHE.out]; exact ((HB4.out.setCell (p := ⟨H, 0, none⟩) (Nat.le_refl _) _).setCell (p := ⟨H, 1, none⟩) (Nat.le_refl _) _).setCell (p := ⟨H, 2, none⟩) (Nat.le_refl _) _⟩
      · have hsi : s.toList.isEmpty = false := by have := toList_ne hse; simpa using this
        have HSE : Hid (s.size ≠ 0) := hse
        clear hse
        by_cases hte : TX = s
        · have HR : Hid (RcOk s 2 0 ud true) := RcOk.yes (by rw [HTX.out]; exact hte) HSE.out
          have hqt : (TX.toList == s.toList) = true := by rw [hte]; simp
          clear hte
          go_wp2_with fail
          try rw [HCE.out]
          refine (HF.out _).mono ?_
          rintro e w3 ⟨⟨oo, rfl⟩, hb3⟩
          have hC3 : w3.heap[C]? = some (.cells #[.int .i64 2, .int .i64 0, .string ⟨#[]⟩] 26 (0, 0)) := (hb3.block C (blk_lt (HCN.out _))).trans (HCN.out _)
          have hH3 : w3.heap[H]? = some (.cells #[.int .i64 0, .int .i64 0, .string ⟨#[]⟩] 26 (0, 0)) := (hb3.block H (blk_lt (HHN.out _))).trans (HHN.out _)
          have hB3 : Below H w w3 := (HBN.out _).trans (hb3.mono (by have := blk_lt (HHN.out (.cells #[.int .i64 2, .int .i64 0, .string ⟨#[]⟩] 26)); omega))
          obtain ⟨⟨p0, p1, p2⟩, pf⟩ := cells3 hC3
          have pfi := pf 2
          have HC4 : Hid ((w3.setCell ⟨C, 2, none⟩ (.string ud)).heap[C]? = some (.cells #[.int .i64 2, .int .i64 0, .string ud] 26 (0, 0))) := by show _ = _; rw [set_block (i := 2) hC3]; rfl
          have HH4 : Hid ((w3.setCell ⟨C, 2, none⟩ (.string ud)).heap[H]? = some (.cells #[.int .i64 0, .int .i64 0, .string ⟨#[]⟩] 26 (0, 0))) := by show _ = _; rw [Below.heap_setCell _ _ _ _ hHC]; exact hH3
          have HB4 : Hid (Below H w (w3.setCell ⟨C, 2, none⟩ (.string ud))) := hB3.setCell (p := ⟨C, 2, none⟩) (by have := hHC; have := blk_lt HH1.out; have := HCE.out; simp; omega) _
          obtain ⟨⟨q0, q1, q2⟩, qf⟩ := cells3 HC4.out
          clear hb3 hC3 hH3 hB3 pf qf
          go_wp2_with fail
          refine (HT.out _).mono ?_
          rintro e w5 ⟨rfl, hb5⟩
          have HC5 : Hid (w5.heap[C]? = some (.cells #[.int .i64 2, .int .i64 0, .string ud] 26 (0, 0))) := (hb5.block C (blk_lt HC4.out)).trans HC4.out
          have HH5 : Hid (w5.heap[H]? = some (.cells #[.int .i64 0, .int .i64 0, .string ⟨#[]⟩] 26 (0, 0))) := (hb5.block H (blk_lt HH4.out)).trans HH4.out
          have HB5 : Hid (Below H w w5) := HB4.out.trans (hb5.mono (by have := blk_lt HH4.out; omega))
          obtain ⟨⟨r0, r1, r2⟩, rf⟩ := cells3 HC5.out
          obtain ⟨⟨t0, t1, t2⟩, tf⟩ := cells3 HH5.out
          have tf0 := tf 0
          have tf1 := tf 1
          have tf2 := tf 2
          clear hb5 rf tf
          go_wp2_with fail
          exact bodyPost_ret (v := .tuple #[.agg #[.int .i64 2, .int .i64 0, .string ud], .bool true]) (results_cell_row2 Tryd.results9 _ _ H _ _ _ _ rfl (setN3 HH5.out) Tryd.underlying26 rfl Tryd.szCmdT) rfl ⟨⟨_, _, _, _, rfl, HR.out⟩, by rw [HHE.out]; exact ((HB5.out.setCell (p := ⟨H, 0, none⟩) (Nat.le_refl _) _).setCell (p := ⟨H, 1, none⟩) (Nat.le_refl _) _).setCell (p := ⟨H, 2, none⟩) (Nat.le_refl _) _⟩
        · have HR : Hid (RcOk s 0 0 ByteArray.empty false) := RcOk.no (by rw [HTX.out]; exact hte) HBR.out
          have hqt : (TX.toList == s.toList) = false := by rw [beq_eq_false_iff_ne]; exact fun e => hte (eq_of_toList e)
          clear hte
          go_wp2_with fail
          try rw [HCE.out]
          refine (HF.out _).mono ?_
          rintro e w3 ⟨⟨oo, rfl⟩, hb3⟩
          have hC3 : w3.heap[C]? = some (.cells #[.int .i64 2, .int .i64 0, .string ⟨#[]⟩] 26 (0, 0)) := (hb3.block C (blk_lt (HCN.out _))).trans (HCN.out _)
          have hH3 : w3.heap[H]? = some (.cells #[.int .i64 0, .int .i64 0, .string ⟨#[]⟩] 26 (0, 0)) := (hb3.block H (blk_lt (HHN.out _))).trans (HHN.out _)
          have hB3 : Below H w w3 := (HBN.out _).trans (hb3.mono (by have := blk_lt (HHN.out (.cells #[.int .i64 2, .int .i64 0, .string ⟨#[]⟩] 26)); omega))
          obtain ⟨⟨p0, p1, p2⟩, pf⟩ := cells3 hC3
          have pfi := pf 2
          have HC4 : Hid ((w3.setCell ⟨C, 2, none⟩ (.string ud)).heap[C]? = some (.cells #[.int .i64 2, .int .i64 0, .string ud] 26 (0, 0))) := by show _ = _; rw [set_block (i := 2) hC3]; rfl
          have HH4 : Hid ((w3.setCell ⟨C, 2, none⟩ (.string ud)).heap[H]? = some (.cells #[.int .i64 0, .int .i64 0, .string ⟨#[]⟩] 26 (0, 0))) := by show _ = _; rw [Below.heap_setCell _ _ _ _ hHC]; exact hH3
          have HB4 : Hid (Below H w (w3.setCell ⟨C, 2, none⟩ (.string ud))) := hB3.setCell (p := ⟨C, 2, none⟩) (by have := hHC; have := blk_lt HH1.out; have := HCE.out; simp; omega) _
          obtain ⟨⟨q0, q1, q2⟩, qf⟩ := cells3 HC4.out
          clear hb3 hC3 hH3 hB3 pf qf
          go_wp2_with fail
          refine (HT.out _).mono ?_
          rintro e w5 ⟨rfl, hb5⟩
          have HC5 : Hid (w5.heap[C]? = some (.cells #[.int .i64 2, .int .i64 0, .string ud] 26 (0, 0))) := (hb5.block C (blk_lt HC4.out)).trans HC4.out
          have HH5 : Hid (w5.heap[H]? = some (.cells #[.int .i64 0, .int .i64 0, .string ⟨#[]⟩] 26 (0, 0))) := (hb5.block H (blk_lt HH4.out)).trans HH4.out
          have HB5 : Hid (Below H w w5) := HB4.out.trans (hb5.mono (by have := blk_lt HH4.out; omega))
          obtain ⟨⟨r0, r1, r2⟩, rf⟩ := cells3 HC5.out
          obtain ⟨⟨t0, t1, t2⟩, tf⟩ := cells3 HH5.out
          have tf0 := tf 0
          have tf1 := tf 1
          have tf2 := tf 2
          clear hb5 rf tf
          go_wp2_with fail
          exact bodyPost_ret (v := .tuple #[.agg #[.int .i64 0, .int .i64 0, .string ⟨#[]⟩], .bool false]) (results_cell_row2 Tryd.results9 _ _ H _ _ _ _ rfl (setN3 HH5.out) Tryd.underlying26 rfl Tryd.szCmdT) rfl ⟨⟨_, _, _, _, rfl, HR.out⟩, by rw [HHE.out]; exact ((HB5.out.setCell (p := ⟨H, 0, none⟩) (Nat.le_refl _) _).setCell (p := ⟨H, 1, none⟩) (Nat.le_refl _) _).setCell (p := ⟨H, 2, none⟩) (Nat.le_refl _) _⟩
    have hq1 : (x.toList == [102, 101, 101, 100]) = false := by rw [beq_eq_false_iff_ne]; exact fun e => hx1 (eq_of_toList (by rw [e, toL]))
    by_cases hx2 : x = ⟨([114, 101, 115, 101, 116] : List UInt8).toArray⟩
    · have hq2 : (x.toList == [114, 101, 115, 101, 116]) = true := by rw [hx2, toL]; rfl
      have HBR : Hid (∀ k' a' d', Good k' a' d' s → k' = 3 ∧ a' = 0 ∧ d' = ⟨#[]⟩) := fun k' a' d' g => by
        rcases cutGood HC1.out g with ⟨h1, _⟩ | ⟨h1, _⟩ | ⟨_, h1, h2, h3⟩
        · rw [hx2] at h1; exact absurd h1 (by decide)
        · rw [hx2] at h1; exact absurd h1 (by decide)
        · exact ⟨h1, h2, h3⟩
      clear hx2
      have HT : Hid (∀ w, Calls Tryd.prog 6 #[.agg #[.int .i64 3, .int .i64 0, .string ⟨#[]⟩]] w fun e w' => e = .returned (.string (cmdT 3 0 ⟨#[]⟩)) ∧ Below w.heap.size w w') := fun w => specCmdText_any 3 0 ⟨#[]⟩ w (by first | omega | (show 0 ≤ _; omega))
      obtain ⟨TX, hTX⟩ : ∃ T, cmdT 3 0 ⟨#[]⟩ = T := ⟨_, rfl⟩
      have HTX : Hid (cmdT 3 0 ⟨#[]⟩ = TX) := hTX
      rw [hTX] at HT
      clear hTX
      by_cases hse : s.size = 0
      · have HR : Hid (RcOk s 0 0 ByteArray.empty false) := .inr ⟨rfl, rfl, rfl, rfl, fun k a d g => g.ne hse⟩
        have hsi : s.toList.isEmpty = true := by rw [size_empty hse, ByteArray.toList_eq]; rfl
        clear hse
        have HC4 : Hid ((w1.alloc (.cells #[.int .i64 3, .int .i64 0, .string ⟨#[]⟩] 26)).heap[C]? = some (.cells #[.int .i64 3, .int .i64 0, .string ⟨#[]⟩] 26 (0, 0))) := HCN.out _
        have HH4 : Hid ((w1.alloc (.cells #[.int .i64 3, .int .i64 0, .string ⟨#[]⟩] 26)).heap[H]? = some (.cells #[.int .i64 0, .int .i64 0, .string ⟨#[]⟩] 26 (0, 0))) := HHN.out _
        have HB4 : Hid (Below H w (w1.alloc (.cells #[.int .i64 3, .int .i64 0, .string ⟨#[]⟩] 26))) := HBN.out _
        obtain ⟨⟨t0, t1, t2⟩, tf⟩ := cells3 HH4.out
        have tf0 := tf 0
        have tf1 := tf 1
        have tf2 := tf 2
        clear tf
        go_wp2_with fail
        exact bodyPost_ret (v := .tuple #[.agg #[.int .i64 0, .int .i64 0, .string ⟨#[]⟩], .bool false]) (results_cell_row2 Tryd.results9 _ _ H _ _ _ _ rfl (setN3 HH4.out) Tryd.underlying26 rfl Tryd.szCmdT) rfl ⟨⟨_, _, _, _, rfl, HR.out⟩, by rw [HHE.out]; exact ((HB4.out.setCell (p := ⟨H, 0, none⟩) (Nat.le_refl _) _).setCell (p := ⟨H, 1, none⟩) (Nat.le_refl _) _).setCell (p := ⟨H, 2, none⟩) (Nat.le_refl _) _⟩
      · have hsi : s.toList.isEmpty = false := by have := toList_ne hse; simpa using this
        have HSE : Hid (s.size ≠ 0) := hse
        clear hse
        by_cases hte : TX = s
        · have HR : Hid (RcOk s 3 0 ⟨#[]⟩ true) := RcOk.yes (by rw [HTX.out]; exact hte) HSE.out
          have hqt : (TX.toList == s.toList) = true := by rw [hte]; simp
          clear hte
          have HC4 : Hid ((w1.alloc (.cells #[.int .i64 3, .int .i64 0, .string ⟨#[]⟩] 26)).heap[C]? = some (.cells #[.int .i64 3, .int .i64 0, .string ⟨#[]⟩] 26 (0, 0))) := HCN.out _
          have HH4 : Hid ((w1.alloc (.cells #[.int .i64 3, .int .i64 0, .string ⟨#[]⟩] 26)).heap[H]? = some (.cells #[.int .i64 0, .int .i64 0, .string ⟨#[]⟩] 26 (0, 0))) := HHN.out _
          have HB4 : Hid (Below H w (w1.alloc (.cells #[.int .i64 3, .int .i64 0, .string ⟨#[]⟩] 26))) := HBN.out _
          obtain ⟨⟨q0, q1, q2⟩, qf⟩ := cells3 HC4.out
          clear qf
          go_wp2_with fail
          try rw [HCE.out]
          refine (HT.out _).mono ?_
          rintro e w5 ⟨rfl, hb5⟩
          have HC5 : Hid (w5.heap[C]? = some (.cells #[.int .i64 3, .int .i64 0, .string ⟨#[]⟩] 26 (0, 0))) := (hb5.block C (blk_lt HC4.out)).trans HC4.out
          have HH5 : Hid (w5.heap[H]? = some (.cells #[.int .i64 0, .int .i64 0, .string ⟨#[]⟩] 26 (0, 0))) := (hb5.block H (blk_lt HH4.out)).trans HH4.out
          have HB5 : Hid (Below H w w5) := HB4.out.trans (hb5.mono (by have := blk_lt HH4.out; omega))
          obtain ⟨⟨r0, r1, r2⟩, rf⟩ := cells3 HC5.out
          obtain ⟨⟨t0, t1, t2⟩, tf⟩ := cells3 HH5.out
          have tf0 := tf 0
          have tf1 := tf 1
          have tf2 := tf 2
          clear hb5 rf tf
          go_wp2_with fail
          exact bodyPost_ret (v := .tuple #[.agg #[.int .i64 3, .int .i64 0, .string ⟨#[]⟩], .bool true]) (results_cell_row2 Tryd.results9 _ _ H _ _ _ _ rfl (setN3 HH5.out) Tryd.underlying26 rfl Tryd.szCmdT) rfl ⟨⟨_, _, _, _, rfl, HR.out⟩, by rw [HHE.out]; exact ((HB5.out.setCell (p := ⟨H, 0, none⟩) (Nat.le_refl _) _).setCell (p := ⟨H, 1, none⟩) (Nat.le_refl _) _).setCell (p := ⟨H, 2, none⟩) (Nat.le_refl _) _⟩
        · have HR : Hid (RcOk s 0 0 ByteArray.empty false) := RcOk.no (by rw [HTX.out]; exact hte) HBR.out
          have hqt : (TX.toList == s.toList) = false := by rw [beq_eq_false_iff_ne]; exact fun e => hte (eq_of_toList e)
          clear hte
          have HC4 : Hid ((w1.alloc (.cells #[.int .i64 3, .int .i64 0, .string ⟨#[]⟩] 26)).heap[C]? = some (.cells #[.int .i64 3, .int .i64 0, .string ⟨#[]⟩] 26 (0, 0))) := HCN.out _
          have HH4 : Hid ((w1.alloc (.cells #[.int .i64 3, .int .i64 0, .string ⟨#[]⟩] 26)).heap[H]? = some (.cells #[.int .i64 0, .int .i64 0, .string ⟨#[]⟩] 26 (0, 0))) := HHN.out _
          have HB4 : Hid (Below H w (w1.alloc (.cells #[.int .i64 3, .int .i64 0, .string ⟨#[]⟩] 26))) := HBN.out _
          obtain ⟨⟨q0, q1, q2⟩, qf⟩ := cells3 HC4.out
          clear qf
          go_wp2_with fail
          try rw [HCE.out]
          refine (HT.out _).mono ?_
          rintro e w5 ⟨rfl, hb5⟩
          have HC5 : Hid (w5.heap[C]? = some (.cells #[.int .i64 3, .int .i64 0, .string ⟨#[]⟩] 26 (0, 0))) := (hb5.block C (blk_lt HC4.out)).trans HC4.out
          have HH5 : Hid (w5.heap[H]? = some (.cells #[.int .i64 0, .int .i64 0, .string ⟨#[]⟩] 26 (0, 0))) := (hb5.block H (blk_lt HH4.out)).trans HH4.out
          have HB5 : Hid (Below H w w5) := HB4.out.trans (hb5.mono (by have := blk_lt HH4.out; omega))
          obtain ⟨⟨r0, r1, r2⟩, rf⟩ := cells3 HC5.out
          obtain ⟨⟨t0, t1, t2⟩, tf⟩ := cells3 HH5.out
          have tf0 := tf 0
          have tf1 := tf 1
          have tf2 := tf 2
          clear hb5 rf tf
          go_wp2_with fail
          exact bodyPost_ret (v := .tuple #[.agg #[.int .i64 0, .int .i64 0, .string ⟨#[]⟩], .bool false]) (results_cell_row2 Tryd.results9 _ _ H _ _ _ _ rfl (setN3 HH5.out) Tryd.underlying26 rfl Tryd.szCmdT) rfl ⟨⟨_, _, _, _, rfl, HR.out⟩, by rw [HHE.out]; exact ((HB5.out.setCell (p := ⟨H, 0, none⟩) (Nat.le_refl _) _).setCell (p := ⟨H, 1, none⟩) (Nat.le_refl _) _).setCell (p := ⟨H, 2, none⟩) (Nat.le_refl _) _⟩
    have hq2 : (x.toList == [114, 101, 115, 101, 116]) = false := by rw [beq_eq_false_iff_ne]; exact fun e => hx2 (eq_of_toList (by rw [e, toL]))
    have HBR : Hid (∀ k' a' d', Good k' a' d' s → k' = 0 ∧ a' = 0 ∧ d' = ⟨#[]⟩) := fun k' a' d' g => by
      rcases cutGood HC1.out g with ⟨h1, _⟩ | ⟨h1, _⟩ | ⟨h1, _⟩
      · exact absurd h1 hx0
      · exact absurd h1 hx1
      · exact absurd h1 hx2
    clear hx0 hx1 hx2
    have HT : Hid (∀ w, Calls Tryd.prog 6 #[.agg #[.int .i64 0, .int .i64 0, .string ⟨#[]⟩]] w fun e w' => e = .returned (.string (cmdT 0 0 ⟨#[]⟩)) ∧ Below w.heap.size w w') := fun w => specCmdText_any 0 0 ⟨#[]⟩ w (by first | omega | (show 0 ≤ _; omega))
    obtain ⟨TX, hTX⟩ : ∃ T, cmdT 0 0 ⟨#[]⟩ = T := ⟨_, rfl⟩
    have HTX : Hid (cmdT 0 0 ⟨#[]⟩ = TX) := hTX
    rw [hTX] at HT
    clear hTX
    by_cases hse : s.size = 0
    · have HR : Hid (RcOk s 0 0 ByteArray.empty false) := .inr ⟨rfl, rfl, rfl, rfl, fun k a d g => g.ne hse⟩
      have hsi : s.toList.isEmpty = true := by rw [size_empty hse, ByteArray.toList_eq]; rfl
      clear hse
      have HC4 : Hid ((w1.alloc (.cells #[.int .i64 0, .int .i64 0, .string ⟨#[]⟩] 26)).heap[C]? = some (.cells #[.int .i64 0, .int .i64 0, .string ⟨#[]⟩] 26 (0, 0))) := HCN.out _
      have HH4 : Hid ((w1.alloc (.cells #[.int .i64 0, .int .i64 0, .string ⟨#[]⟩] 26)).heap[H]? = some (.cells #[.int .i64 0, .int .i64 0, .string ⟨#[]⟩] 26 (0, 0))) := HHN.out _
      have HB4 : Hid (Below H w (w1.alloc (.cells #[.int .i64 0, .int .i64 0, .string ⟨#[]⟩] 26))) := HBN.out _
      obtain ⟨⟨t0, t1, t2⟩, tf⟩ := cells3 HH4.out
      have tf0 := tf 0
      have tf1 := tf 1
      have tf2 := tf 2
      clear tf
      go_wp2_with fail
      exact bodyPost_ret (v := .tuple #[.agg #[.int .i64 0, .int .i64 0, .string ⟨#[]⟩], .bool false]) (results_cell_row2 Tryd.results9 _ _ H _ _ _ _ rfl (setN3 HH4.out) Tryd.underlying26 rfl Tryd.szCmdT) rfl ⟨⟨_, _, _, _, rfl, HR.out⟩, by rw [HHE.out]; exact ((HB4.out.setCell (p := ⟨H, 0, none⟩) (Nat.le_refl _) _).setCell (p := ⟨H, 1, none⟩) (Nat.le_refl _) _).setCell (p := ⟨H, 2, none⟩) (Nat.le_refl _) _⟩
    · have hsi : s.toList.isEmpty = false := by have := toList_ne hse; simpa using this
      have HSE : Hid (s.size ≠ 0) := hse
      clear hse
      by_cases hte : TX = s
      · have HR : Hid (RcOk s 0 0 ⟨#[]⟩ true) := RcOk.yes (by rw [HTX.out]; exact hte) HSE.out
        have hqt : (TX.toList == s.toList) = true := by rw [hte]; simp
        clear hte
        have HC4 : Hid ((w1.alloc (.cells #[.int .i64 0, .int .i64 0, .string ⟨#[]⟩] 26)).heap[C]? = some (.cells #[.int .i64 0, .int .i64 0, .string ⟨#[]⟩] 26 (0, 0))) := HCN.out _
        have HH4 : Hid ((w1.alloc (.cells #[.int .i64 0, .int .i64 0, .string ⟨#[]⟩] 26)).heap[H]? = some (.cells #[.int .i64 0, .int .i64 0, .string ⟨#[]⟩] 26 (0, 0))) := HHN.out _
        have HB4 : Hid (Below H w (w1.alloc (.cells #[.int .i64 0, .int .i64 0, .string ⟨#[]⟩] 26))) := HBN.out _
        obtain ⟨⟨q0, q1, q2⟩, qf⟩ := cells3 HC4.out
        clear qf
        go_wp2_with fail
        try rw [HCE.out]
        refine (HT.out _).mono ?_
        rintro e w5 ⟨rfl, hb5⟩
        have HC5 : Hid (w5.heap[C]? = some (.cells #[.int .i64 0, .int .i64 0, .string ⟨#[]⟩] 26 (0, 0))) := (hb5.block C (blk_lt HC4.out)).trans HC4.out
        have HH5 : Hid (w5.heap[H]? = some (.cells #[.int .i64 0, .int .i64 0, .string ⟨#[]⟩] 26 (0, 0))) := (hb5.block H (blk_lt HH4.out)).trans HH4.out
        have HB5 : Hid (Below H w w5) := HB4.out.trans (hb5.mono (by have := blk_lt HH4.out; omega))
        obtain ⟨⟨r0, r1, r2⟩, rf⟩ := cells3 HC5.out
        obtain ⟨⟨t0, t1, t2⟩, tf⟩ := cells3 HH5.out
        have tf0 := tf 0
        have tf1 := tf 1
        have tf2 := tf 2
        clear hb5 rf tf
        go_wp2_with fail
        exact bodyPost_ret (v := .tuple #[.agg #[.int .i64 0, .int .i64 0, .string ⟨#[]⟩], .bool true]) (results_cell_row2 Tryd.results9 _ _ H _ _ _ _ rfl (setN3 HH5.out) Tryd.underlying26 rfl Tryd.szCmdT) rfl ⟨⟨_, _, _, _, rfl, HR.out⟩, by rw [HHE.out]; exact ((HB5.out.setCell (p := ⟨H, 0, none⟩) (Nat.le_refl _) _).setCell (p := ⟨H, 1, none⟩) (Nat.le_refl _) _).setCell (p := ⟨H, 2, none⟩) (Nat.le_refl _) _⟩
      · have HR : Hid (RcOk s 0 0 ByteArray.empty false) := RcOk.no (by rw [HTX.out]; exact hte) HBR.out
        have hqt : (TX.toList == s.toList) = false := by rw [beq_eq_false_iff_ne]; exact fun e => hte (eq_of_toList e)
        clear hte
        have HC4 : Hid ((w1.alloc (.cells #[.int .i64 0, .int .i64 0, .string ⟨#[]⟩] 26)).heap[C]? = some (.cells #[.int .i64 0, .int .i64 0, .string ⟨#[]⟩] 26 (0, 0))) := HCN.out _
        have HH4 : Hid ((w1.alloc (.cells #[.int .i64 0, .int .i64 0, .string ⟨#[]⟩] 26)).heap[H]? = some (.cells #[.int .i64 0, .int .i64 0, .string ⟨#[]⟩] 26 (0, 0))) := HHN.out _
        have HB4 : Hid (Below H w (w1.alloc (.cells #[.int .i64 0, .int .i64 0, .string ⟨#[]⟩] 26))) := HBN.out _
        obtain ⟨⟨q0, q1, q2⟩, qf⟩ := cells3 HC4.out
        clear qf
        go_wp2_with fail
        try rw [HCE.out]
        refine (HT.out _).mono ?_
        rintro e w5 ⟨rfl, hb5⟩
        have HC5 : Hid (w5.heap[C]? = some (.cells #[.int .i64 0, .int .i64 0, .string ⟨#[]⟩] 26 (0, 0))) := (hb5.block C (blk_lt HC4.out)).trans HC4.out
        have HH5 : Hid (w5.heap[H]? = some (.cells #[.int .i64 0, .int .i64 0, .string ⟨#[]⟩] 26 (0, 0))) := (hb5.block H (blk_lt HH4.out)).trans HH4.out
        have HB5 : Hid (Below H w w5) := HB4.out.trans (hb5.mono (by have := blk_lt HH4.out; omega))
        obtain ⟨⟨r0, r1, r2⟩, rf⟩ := cells3 HC5.out
        obtain ⟨⟨t0, t1, t2⟩, tf⟩ := cells3 HH5.out
        have tf0 := tf 0
        have tf1 := tf 1
        have tf2 := tf 2
        clear hb5 rf tf
        go_wp2_with fail
        exact bodyPost_ret (v := .tuple #[.agg #[.int .i64 0, .int .i64 0, .string ⟨#[]⟩], .bool false]) (results_cell_row2 Tryd.results9 _ _ H _ _ _ _ rfl (setN3 HH5.out) Tryd.underlying26 rfl Tryd.szCmdT) rfl ⟨⟨_, _, _, _, rfl, HR.out⟩, by rw [HHE.out]; exact ((HB5.out.setCell (p := ⟨H, 0, none⟩) (Nat.le_refl _) _).setCell (p := ⟨H, 1, none⟩) (Nat.le_refl _) _).setCell (p := ⟨H, 2, none⟩) (Nat.le_refl _) _⟩
end Go.Proofs.YtdbkglnmmaglcaaDoor