/- A series read as RLP: contract, out of the one of a value. -/
import Derived.Test.YtdncnjmlicdamaaGreatDoorRDf
import Derived.Test.YtdncnjmlicdamaaGreatDoorSBi
namespace Go.Proofs.YtdncnjmlicdamaaGreatDoor
open Go.RowKit Go.Sort
set_option linter.unusedVariables false
/-- Where the reading of a series stands behind j of its parts: its block N, the parts' slice v, the parts ys. -/
structure RsInv (ts : List (Int × Int)) (f : Nat) (u N : Nat) (S0 : Nat → Prop) (ps : Nat → Nat) (w wr : World) (j : Nat) (v : Value) (ys : List Value) (ls : List (List It)) : Prop where
  lsl : ls.length = j
  bel : Below w.heap.size w wr
  low : w.heap.size ≤ N
  node : wr.heap[N]? = some (.cells #[.pointer (some ⟨u, 0, none⟩), v] 131 (0, 0))
  len : ys.length = j
  one : ∀ y ∈ ys, y.oneCell' = true
  row : wr.ownsRow (N + 1) 64 1 v j ys
  kin : ∀ i (h : i < ys.length) (h' : i < ls.length), DAt ts f wr (fun c => S0 c ∨ (N < c ∧ c < wr.heap.size ∧ some c ≠ v.ownBlock)) ys[i] (ps i) ls[i]
theorem RsInv.start {ts : List (Int × Int)} {f : Nat} {u : Nat} {S0 : Nat → Prop} {ps : Nat → Nat} {w w2 : World} (hb : Below w.heap.size w w2) : RsInv ts f u w2.heap.size S0 ps w (w2.alloc (.cells #[.pointer (some ⟨u, 0, none⟩), .slice none 0 0] 131)) 0 (.slice none 0 0) [] [] :=
  ⟨rfl, hb.alloc hb.size _, hb.size, heap_alloc_new w2 _, rfl, by simp, World.ownsRow_nil _ _ _ _, fun i h => by simp at h⟩
/-- One part more: read in w1, appended in w2, the node's cell set. -/
theorem RsInv.next {ts : List (Int × Int)} {f : Nat} {u N : Nat} {S0 : Nat → Prop} {ps : Nat → Nat} {w wr w1 w2 : World} {j g cap : Nat} {v z : Value} {ys : List Value} {ls : List (List It)} {l : List It} {o : Obj}
    (h : RsInv ts f u N S0 ps w wr j v ys ls) (hS0 : ∀ c, S0 c → c < w.heap.size) (hb1 : Below wr.heap.size wr w1) (hz : z.oneCell' = true) (ht : DAt ts f w1 (fun c => S0 c ∨ (wr.heap.size ≤ c ∧ c < w1.heap.size)) z (ps j) l)
    (hg : (w1.alloc o).grownBy w2 v.ownBlock) (hat : v.ownBlock = some g ∨ g = w1.heap.size + 1) (hgl : g < w2.heap.size)
    (hrow : w2.ownsRow (N + 1) 64 1 (.slice (some ⟨g, 0, none⟩) (j + 1) cap) (j + 1) (ys ++ [z])) :
    RsInv ts f u N S0 ps w (w2.setCell ⟨N, 1, none⟩ (.slice (some ⟨g, 0, none⟩) (j + 1) cap)) (j + 1) (.slice (some ⟨g, 0, none⟩) (j + 1) cap) (ys ++ [z]) (ls ++ [l]) := by
  have hN := blk_lt h.node
  have hNg : N + 1 ≤ g := by
    have := hrow.lt g rfl
    omega
  have hown : ∀ b, v.ownBlock = some b → N + 1 ≤ b ∧ b < wr.heap.size := h.row.lt
  have hll := h.lsl
  have hs0 := h.bel.size
  have hlow := h.low
  have hs1 := hb1.size
  have hs2 : w1.heap.size + 1 ≤ w2.heap.size := by have := hg.size; simpa using this
  have hsz : (w2.setCell ⟨N, 1, none⟩ (.slice (some ⟨g, 0, none⟩) (j + 1) cap)).heap.size = w2.heap.size := by simp [World.setCell]
  have hNo : some N ≠ v.ownBlock := fun e => by have := hown N e.symm; omega
  have hN2 : w2.heap[N]? = some (.cells #[.pointer (some ⟨u, 0, none⟩), v] 131 (0, 0)) := by
    rw [hg.block N (by simp; omega) hNo, Below.heap_alloc _ _ _ (by omega), hb1.block N hN]; exact h.node
  have old : ∀ b, b < w1.heap.size → b ≠ N → some b ≠ v.ownBlock → (w2.setCell ⟨N, 1, none⟩ (.slice (some ⟨g, 0, none⟩) (j + 1) cap)).heap[b]? = w1.heap[b]? := fun b hb hbN hbo => by
    rw [Below.heap_setCell _ _ _ _ hbN, hg.block b (by simp; omega) hbo, Below.heap_alloc _ _ _ hb]
  have oldS : ∀ c, S0 c → c < w1.heap.size ∧ c ≠ N ∧ some c ≠ v.ownBlock ∧ c < wr.heap.size := fun c hc => by
    have := hS0 c hc
    exact ⟨by omega, by omega, fun e => by have := hown c e.symm; omega, by omega⟩
  refine ⟨by simp [h.lsl], ?_, h.low, ?_, by simp [h.len], ?_, ?_, ?_⟩
  · have b1 : Below w.heap.size w w1 := h.bel.trans (hb1.mono h.bel.size)
    have b2 : Below w.heap.size w (w1.alloc o) := b1.alloc (by have := b1.size; omega) o
    have b3 : Below w.heap.size w w2 := b2.grown hg (by have := b2.size; omega) (fun q hq => by have := hown q hq; omega)
    exact b3.setCell (p := ⟨N, 1, none⟩) h.low _
  · have e1 := set_block (i := 1) hN2 (.slice (some ⟨g, 0, none⟩) (j + 1) cap)
    rw [e1]; simp
  · intro y hy
    rcases List.mem_append.1 hy with hy | hy
    · exact h.one y hy
    · simp at hy; subst hy; exact hz
  · exact ownsRow_setCell_below hrow (a := ⟨N, 1, none⟩) (by simp) _
  · intro i hi hi2
    by_cases hij : i < ys.length
    · have hij2 : i < ls.length := by rw [hll, ← h.len]; exact hij
      have htr := h.kin i hij hij2
      rw [List.getElem_append_left hij, List.getElem_append_left hij2]
      refine htr.keep (fun c hc => ?_) (fun c hc => ?_)
      · rcases hc with hc | ⟨q1, q2, q3⟩
        · exact .inl hc
        · refine .inr ⟨q1, by rw [hsz]; omega, fun e => ?_⟩
          have e' : c = g := by simpa [Value.ownBlock] using e
          rcases hat with hat | hat
          · exact q3 (by rw [hat, e'])
          · omega
      · rcases hc with hc | ⟨q1, q2, q3⟩
        · obtain ⟨r1, r2, r3, r4⟩ := oldS c hc
          rw [old c r1 r2 r3, hb1.block c r4]
        · rw [old c (by omega) (by omega) q3, hb1.block c q2]
    · have hi' : i = ys.length := by simp at hi; omega
      have hlen := h.len
      have e1 : (ys ++ [z])[i] = z := by rw [List.getElem_append_right (by omega)]; simp
      have e2 : (ls ++ [l])[i] = l := by rw [List.getElem_append_right (by omega)]; simp
      rw [e1, e2, show i = j by omega]
      refine ht.keep (fun c hc => ?_) (fun c hc => ?_)
      · rcases hc with hc | ⟨q1, q2⟩
        · exact .inl hc
        · refine .inr ⟨by omega, by rw [hsz]; omega, fun e => ?_⟩
          have e' : c = g := by simpa [Value.ownBlock] using e
          rcases hat with hat | hat
          · have := hown g hat; omega
          · omega
      · rcases hc with hc | ⟨q1, q2⟩
        · obtain ⟨r1, r2, r3, _⟩ := oldS c hc
          exact old c r1 r2 r3
        · exact old c q2 (by omega) (fun e => by have := hown c e.symm; omega)
/-- What a series leaves. -/
def serR (ts : List (Int × Int)) (f a : Nat) (k n : Int) (b : List UInt8) : Option (List It) :=
  (partsL (rlD true ts f) (pl ts f a k 0) n.toNat 0 b).bind fun ls => if fitsN k n ls.length = true then some (⟨k, ls.length, ⟨#[]⟩⟩ :: ls.flatten) else none
set_option maxRecDepth 100000 in
set_option maxHeartbeats 8000000 in
theorem readParts_any (T : TypeId) (z : Value) (ts : List (Int × Int)) (f : Nat) (hp : RkHyp T z ts f) (a u : Nat) (S0 : Nat → Prop) (b : ByteArray) (w : World) (ht : TreeAt ts (f + 1) w S0 u a) (hS0 : ∀ c, S0 c → c < w.heap.size) (ha : a < ts.length) (hk : ts[a].1 = 5 ∨ ts[a].1 = 6 ∨ ts[a].1 = 7) (hb : b.size ≤ 1048576) (he : EFv T z w) :
    Calls Tryz.prog 136 #[.iface 45 (.agg #[]), .pointer (some ⟨u, 0, none⟩), .string b] w fun e w' => RrPost T z (serR ts f a ts[a].1 ts[a].2 b.data.toList) ts (f + 1) a S0 w e w' := by
  obtain ⟨i0, hi, hz0, hz1, hz2⟩ := info_parts Tryz.infoVN
  obtain ⟨_, e0, ad0, cap0, hok, hit, hu, c0, c1, _⟩ := ht.openT
  have hul := hS0 u hu
  obtain ⟨hf, hnpn, hM20⟩ := ser_fits hok hk
  obtain ⟨M, hM⟩ : ∃ M : Nat, ts[a].2.toNat = M := ⟨_, rfl⟩
  have hMn : ts[a].2 = (M : Int) := by have := hok; simp only [tyOk, decide_eq_true_eq] at this; omega
  rw [hM] at hf hnpn hM20
  have HT : Hid (TreeAt ts (f + 1) w S0 u a) := ht
  have HS : Hid (∀ c, S0 c → c < w.heap.size) := hS0
  have HP : Hid (RkHyp T z ts f) := hp
  have HE : Hid (EFv T z w) := he
  have HKK : Hid (ts[a].1 = 5 ∨ ts[a].1 = 6 ∨ ts[a].1 = 7) := hk
  have HF : Hid (∀ m w, m ≤ 20 → Calls Tryz.prog 67 #[.agg #[.int .i64 ts[a].1, .int .i64 ts[a].2], .int .u64 (m : Nat)] w fun e w' => e = .returned (.bool (fitsN ts[a].1 ts[a].2 m)) ∧ Below w.heap.size w w') := fun m w hm => numberFits_any _ _ m w hok (by omega)
  have HPT : Hid (∀ j w', j < M → Below w.heap.size w w' → Calls Tryz.prog 77 #[.pointer (some ⟨u, 0, none⟩), .int .u64 j] w' fun e w'' => (∃ c, e = .returned (.pointer (some ⟨c, 0, none⟩)) ∧ TreeAt ts f w' S0 c (pl ts f a ts[a].1 0 j)) ∧ w'' = w') := fun j w' hj hbw => by
    rw [pl_any (by omega) 0 M]
    exact part_any ts f u a w' S0 j M j (ht.bel hS0 hbw) ha hf (by rw [hnpn]; exact hj) ⟨fun h => by omega, fun _ => rfl⟩ (by omega)
  obtain ⟨ps, hps⟩ : ∃ ps, pl ts f a ts[a].1 0 = ps := ⟨_, rfl⟩
  have HPS : Hid (pl ts f a ts[a].1 0 = ps) := hps
  have HSR : Hid (serR ts f a ts[a].1 ts[a].2 b.data.toList = (partsL (rlD true ts f) ps M 0 b.data.toList).bind fun ls => if fitsN ts[a].1 ts[a].2 ls.length = true then some (⟨ts[a].1, ls.length, ⟨#[]⟩⟩ :: ls.flatten) else none) := by
    show serR _ _ _ _ _ _ = _
    unfold serR
    rw [hps, hM]
  rw [hps] at HPT
  clear hps ht hS0 hp he hk hok hit hf hnpn
  have hMi : (M : Int) < 18446744073709551616 := by omega
  rw [hMn] at c1 HF
  have HF' : Hid (∀ m w, m ≤ 20 → Calls Tryz.prog 67 #[.agg #[.int .i64 ts[a].1, .int .i64 M], .int .u64 (m : Nat)] w fun e w' => e = .returned (.bool (fitsN ts[a].1 ts[a].2 m)) ∧ Below w.heap.size w w') := by rw [Hid, hMn]; exact HF.out
  clear HF
  generalize hkE : ts[a].1 = k at c0 HF'
  have hna : ∀ w : World, (nilAhead 292 45 (.agg #[]) "loop.example/g00774/impl.take").run Tryz.prog w = .ok (some false) w := fun _ => by kernel_rfl
  go_enter Tryz.func136, Tryz.ntmps136
  go_wp2_with fail
  go_loopg [2, 21] M (fun gk v2 i wr => ∃ (j : Nat) (R : ByteArray) (vv : Value) (ys : List Value) (ls : List (List It)), j + gk = M ∧ i = .int .u64 j ∧ v2 = .string R ∧ R.size ≤ 1048576 ∧ partsL (rlD true ts f) ps M 0 b.data.toList = (partsL (rlD true ts f) ps gk j R.data.toList).map (ls ++ ·) ∧ RsInv ts f u w.heap.size S0 ps w wr j vv ys ls)
  case atStart => exact ⟨0, b, _, [], [], by omega, rfl, rfl, hb, by simp, RsInv.start (Below.refl _ _)⟩
  case round =>
    obtain ⟨j, R, vv, ys, ls, hj', rfl, rfl, hRs, hpos, hse⟩ := hrel
    have HJ : Hid (j + gk = M) := hj'
    have hj : j ≤ M := by omega
    have HSE : Hid (RsInv ts f u w.heap.size S0 ps w wr j vv ys ls) := hse
    have hnl : w.heap.size < wr.heap.size := blk_lt hse.node
    have hemp : R.toList.isEmpty = decide (R.size = 0) := str_empty R
    have x0 : wr.cell? ⟨u, 0, none⟩ = some (.int .i64 k) := (hse.bel.cell (p := ⟨u, 0, none⟩) hul).trans c0
    have x1 : wr.cell? ⟨u, 1, none⟩ = some (.int .i64 M) := (hse.bel.cell (p := ⟨u, 1, none⟩) hul).trans c1
    obtain ⟨n0, n1⟩ := (⟨by rw [cell_of_row wr _ 0 _ _ _ hse.node]; simp, by rw [cell_of_row wr _ 1 _ _ _ hse.node]; simp⟩ : wr.cell? ⟨w.heap.size, 0, none⟩ = some (.pointer (some ⟨u, 0, none⟩)) ∧ wr.cell? ⟨w.heap.size, 1, none⟩ = some vv)
    by_cases hR0 : R.size = 0
    · have hnil : R.data.toList = [] := List.eq_nil_of_length_eq_zero (by rw [lst_len]; exact hR0)
      have hser : (partsL (rlD true ts f) ps M 0 b.data.toList) = some ls := by
        rw [hpos, hnil]
        cases gk <;> simp [partsL]
      have hlsl := hse.lsl
      have hemp2 : R.toList.isEmpty = true := by rw [hemp]; exact decide_eq_true hR0
      have hform : ∃ ad cap, vv = .slice ad j cap ∧ j ≤ cap ∧ cap ≤ maxLen ∧ (j = 0 ∨ ∃ g, ad = some ⟨g, 0, none⟩ ∧ w.heap.size < g ∧ g < wr.heap.size ∧ ∀ i (h : i < ys.length), wr.cell? ⟨g, i, none⟩ = some ys[i]) := by
        rcases hse.row.2 with ⟨hv, h0⟩ | ⟨g, cap, cur, hv, hg, hh, h1, h2, h3, h4⟩
        · exact ⟨none, 0, by rw [hv, h0], by omega, by simp [maxLen], .inl h0⟩
        · refine ⟨_, cap, by rw [hv], by omega, h2, .inr ⟨g, rfl, by omega, blk_lt hh, fun i hi => ?_⟩⟩
          have hl := hse.len
          rw [cell_of_row wr g i cur _ _ hh]
          have : ys[i]? = cur.toList[i]? := by rw [← h4, List.getElem?_take, if_pos (by omega)]
          rw [List.getElem?_eq_getElem hi] at this
          simpa using this.symm
      obtain ⟨ad, cap, rfl, q1, q2, q3⟩ := hform
      have hwj : IntKind.u64.wrap (j : Int) = (j : Int) := by rw [IntKind.wrap_u64]; omega
      cases hfj : fitsN ts[a].1 ts[a].2 j with
      | false =>
        have HN : Hid (serR ts f a k ts[a].2 b.data.toList = none) := by
          show _ = _
          rw [← hkE, HSR.out, hser]
          simp only [Option.bind_some]
          rw [hlsl, if_neg (by rw [hfj]; simp)]
        have HFF : Hid (∀ w, Calls Tryz.prog 67 #[.agg #[.int .i64 k, .int .i64 M], .int .u64 (j : Nat)] w fun e w' => e = .returned (.bool false) ∧ Below w.heap.size w w') := fun w => by rw [← hfj, hkE]; exact HF'.out j w (by omega)
        have hur : u < wr.heap.size := by have := hse.bel.size; omega
        have HS0 : Hid (wr.cell? ⟨u, 0, none⟩ = some (.int .i64 k) ∧ wr.cell? ⟨u, 1, none⟩ = some (.int .i64 M) ∧ wr.cell? ⟨w.heap.size, 1, none⟩ = some (.slice ad j cap)) := ⟨x0, x1, n1⟩
        have r0 := cells_re3 x0
        have r1 := cells_re3 x1
        have r2 := cells_re3 n1
        clear hpos hser hnil hse q3 hlsl hemp hfj hRs
        by_cases hjM : j < M
        all_goals
          go_wp2_with fail
          refine wp_region_quiet_below (by kernel_rfl) (by kernel_rfl) ?_
          repeat (go_big_quiet_step (exact Calls.regrown_of (HFF.out _)))
          refine wpQuiet_nil ?_
          intro w2 hw'
          obtain ⟨⟨dq, osq⟩, hw''⟩ := hw'
          have HBF : Hid (Below wr.heap.size wr w2) := by rw [hw'']; exact below_regrown _ dq osq
          clear hw'' r0 r1 r2
          all_goals
            have HB2 : Hid (Below w.heap.size w w2) := HSE.out.bel.trans (HBF.out.mono HSE.out.bel.size)
            obtain ⟨e1, e2⟩ := EFv.below HE.out HB2.out
            go_wp2_with fail
            go_region
            all_goals
              go_wp2_with fail
              go_ret2
              exact ⟨by first | exact HB2.out | exact HB2.out.drew | exact HB2.out.drew.drew, .inl ⟨HN.out, _, .inl rfl, rfl⟩⟩
      | true =>
        have HN : Hid (serR ts f a k ts[a].2 b.data.toList = some (⟨ts[a].1, j, ⟨#[]⟩⟩ :: ls.flatten)) := by
          show _ = _
          rw [← hkE, HSR.out, hser]
          simp only [Option.bind_some]
          rw [hlsl, if_pos hfj]
        have HFF : Hid (∀ w, Calls Tryz.prog 67 #[.agg #[.int .i64 k, .int .i64 M], .int .u64 (j : Nat)] w fun e w' => e = .returned (.bool true) ∧ Below w.heap.size w w') := fun w => by rw [← hfj, hkE]; exact HF'.out j w (by omega)
        have HFI : Hid (fitsI ts[a].1 ts[a].2 ⟨ts[a].1, j, ⟨#[]⟩⟩ = true) := by have := HKK.out; rw [Hid, fitsI_num (by omega) (by omega)]; exact hfj
        have HFIN : Hid (DAt ts (f + 1) wr (fun c => S0 c ∨ (w.heap.size ≤ c ∧ c < wr.heap.size)) (.iface 131 (.agg #[.pointer (some ⟨u, 0, none⟩), .slice ad j cap])) a (⟨ts[a].1, j, ⟨#[]⟩⟩ :: ls.flatten)) := by
          have hnpj : np ts[a].1 j = j := by have := HKK.out; unfold np; rw [if_pos (by omega)]
          refine ⟨u, ⟨ts[a].1, j, ⟨#[]⟩⟩, ha, (HT.out.bel HS.out hse.bel).keep (fun c hc => .inl hc) (fun _ _ => rfl), HFI.out, by show j < _; omega, .inr (.inr (.inl ⟨HKK.out, ad, cap, ls, rfl, hlsl, rfl, q1, q2, ?_⟩))⟩
          rcases q3 with q3 | ⟨g, hg, g1, g2, g3⟩
          · exact .inl q3
          · refine .inr ⟨g, hg, .inr ⟨by have := hse.low; omega, g2⟩, fun i hi => ?_⟩
            have hi' : i < ys.length := by rw [hse.len]; omega
            have hp2 := hse.kin i hi' hi
            show ∃ y, _ ∧ DAt ts f wr _ y (pl ts f a ts[a].1 j i) _
            rw [pl_any (by have := HKK.out; omega) j 0, HPS.out]
            exact ⟨ys[i], g3 i hi', hp2.keep (fun c hc => hc.imp id (fun ⟨r1, r2, _⟩ => ⟨by have := hse.low; omega, r2⟩)) (fun _ _ => rfl)⟩
        have hur : u < wr.heap.size := by have := hse.bel.size; omega
        have HS0 : Hid (wr.cell? ⟨u, 0, none⟩ = some (.int .i64 k) ∧ wr.cell? ⟨u, 1, none⟩ = some (.int .i64 M) ∧ wr.cell? ⟨w.heap.size, 1, none⟩ = some (.slice ad j cap)) := ⟨x0, x1, n1⟩
        have r0 := cells_re3 x0
        have r1 := cells_re3 x1
        have r2 := cells_re3 n1
        clear hpos hser hnil hse q3 hlsl hemp hfj hRs
        by_cases hjM : j < M
        all_goals
          go_wp2_with fail
          refine wp_region_quiet_below (by kernel_rfl) (by kernel_rfl) ?_
          repeat (go_big_quiet_step (exact Calls.regrown_of (HFF.out _)))
          refine wpQuiet_nil ?_
          intro w2 hw'
          obtain ⟨⟨dq, osq⟩, hw''⟩ := hw'
          have HBF : Hid (Below wr.heap.size wr w2) := by rw [hw'']; exact below_regrown _ dq osq
          clear hw'' r0 r1 r2
          all_goals
            have hb2 := HBF.out
            have HB2 : Hid (Below w.heap.size w w2) := HSE.out.bel.trans (hb2.mono HSE.out.bel.size)
            have HF2 : Hid (DAt ts (f + 1) w2 (fun c => S0 c ∨ (w.heap.size ≤ c ∧ c < w2.heap.size)) (.iface 131 (.agg #[.pointer (some ⟨u, 0, none⟩), .slice ad j cap])) a (⟨ts[a].1, j, ⟨#[]⟩⟩ :: ls.flatten)) := HFIN.out.keep (fun c hc => hc.imp id (fun h => ⟨h.1, by have := hb2.size; omega⟩)) (fun c hc => hb2.block c (hc.elim (fun hc => by have := HS.out c hc; omega) (fun hc => hc.2)))
            have n0' : w2.cell? ⟨w.heap.size, 0, none⟩ = some (.pointer (some ⟨u, 0, none⟩)) := by rw [hb2.cell (p := ⟨w.heap.size, 0, none⟩) hnl]; exact n0
            have n1' : w2.cell? ⟨w.heap.size, 1, none⟩ = some (.slice ad j cap) := by rw [hb2.cell (p := ⟨w.heap.size, 1, none⟩) hnl]; exact n1
            clear hb2
            go_wp2_with fail
            go_ret2
            exact ⟨HB2.out, .inr ⟨_, _, _, HN.out, rfl, HF2.out⟩⟩
    · have hemp2 : R.toList.isEmpty = false := by rw [hemp]; exact decide_eq_false hR0
      by_cases hjM : j < M
      · have hne : R.data.toList ≠ [] := fun e => hR0 (by rw [← lst_len, e]; rfl)
        obtain ⟨gk1, hgk⟩ : ∃ g, gk = g + 1 := ⟨gk - 1, by omega⟩
        have hunf : partsL (rlD true ts f) ps gk j R.data.toList = (rlD true ts f (ps j) R.data.toList).bind fun x => (partsL (rlD true ts f) ps gk1 (j + 1) x.2).map fun y => x.1 :: y := by
          rw [hgk]
          simp only [partsL]
          rw [if_neg hne]
        cases hsc : rlD true ts f (ps j) R.data.toList with
        | none =>
          have HN : Hid (serR ts f a k ts[a].2 b.data.toList = none) := by
            show _ = _
            rw [← hkE, HSR.out, hpos, hunf, hsc]; rfl
          have HTK : Hid (∀ c w', Below wr.heap.size wr w' → TreeAt ts f w' S0 c (ps j) → Calls Tryz.prog 128 #[.agg #[], .pointer (some ⟨c, 0, none⟩), .string R] w' fun e w'' => (∃ x y, e = .returned (.tuple #[x, .string y, .iface T z])) ∧ Below w'.heap.size w' w'') := fun c w' hbw htc => by
            have hbb : Below w.heap.size w w' := HSE.out.bel.trans (hbw.mono HSE.out.bel.size)
            refine (HP.out (ps j) c S0 R w' htc (fun c hc => by have := HS.out c hc; have := hbb.size; omega) hRs (HE.out.below hbb)).mono ?_
            rintro e w3 ⟨hb3, ⟨_, x, y, _, rfl⟩ | ⟨l, R', T', y, hsd, _⟩⟩
            · exact ⟨⟨x, y, rfl⟩, hb3⟩
            · rw [hsc] at hsd; cases hsd
          clear hsc hunf hpos hse hemp hR0 x0 x1 n0 n1
          go_wp2_with fail
          go_region_held3 (fun _ => True) (exact trivial) (first
            | (go_at_call 77; refine (HPT.out j _ hjM (HSE.out.bel.trans ((Below.drew (Below.refl _ _)).mono HSE.out.bel.size))).mono ?_; rintro e w3 ⟨⟨c, rfl, htc⟩, rfl⟩; have HTC3 : Hid _ := htc; clear htc)
            | (go_at_call 128; refine (HTK.out c _ (Below.drew (Below.refl _ _)) HTC3.out).mono ?_; rintro e w4 ⟨⟨x, y, rfl⟩, hb4⟩; have HB4 : Hid (Below w.heap.size w w4) := HSE.out.bel.trans (((Below.drew (Below.refl _ _)).trans hb4).mono HSE.out.bel.size); clear hb4))
          all_goals
            go_wp2_with fail
            go_ret2
            exact ⟨HB4.out, .inl ⟨HN.out, _, .inl rfl, rfl⟩⟩
        | some lq =>
          obtain ⟨l, RL⟩ := lq
          obtain ⟨R2, hR2⟩ : ∃ R2 : ByteArray, R2.data.toList = RL := ⟨⟨RL.toArray⟩, rfl⟩
          have hR2s : R2.size ≤ 1048576 := by
            have h1 := rlD_rest hsc
            rw [← hR2, lst_len, lst_len] at h1
            omega
          have HPOS : Hid (partsL (rlD true ts f) ps M 0 b.data.toList = (partsL (rlD true ts f) ps gk1 (j + 1) R2.data.toList).map ((ls ++ [l]) ++ ·)) := by
            show _ = _
            rw [hpos, hunf, hsc, hR2]
            simp only [Option.bind_some, Option.map_map]
            congr 1
            funext y
            simp
          have HTK : Hid (∀ c w', Below wr.heap.size wr w' → TreeAt ts f w' S0 c (ps j) → Calls Tryz.prog 128 #[.agg #[], .pointer (some ⟨c, 0, none⟩), .string R] w' fun e w'' => (∃ T' y, e = .returned (.tuple #[.iface T' y, .string R2, .nilIface]) ∧ DAt ts f w'' (fun c => S0 c ∨ (wr.heap.size ≤ c ∧ c < w''.heap.size)) (.iface T' y) (ps j) l) ∧ Below w'.heap.size w' w'') := fun c w' hbw htc => by
            have hbb : Below w.heap.size w w' := HSE.out.bel.trans (hbw.mono HSE.out.bel.size)
            refine (HP.out (ps j) c S0 R w' htc (fun c hc => by have := HS.out c hc; have := hbb.size; omega) hRs (HE.out.below hbb)).mono ?_
            rintro e w3 ⟨hb3, ⟨hsd, _⟩ | ⟨l1, R1, T', y, hsd, rfl, hd⟩⟩
            · rw [hsc] at hsd; cases hsd
            · rw [hsc] at hsd
              simp only [Option.some.injEq, Prod.mk.injEq] at hsd
              obtain ⟨rfl, hq⟩ := hsd
              have e1 : R1 = R2 := ba_ext (by rw [hR2, hq])
              exact ⟨⟨T', y, by rw [e1], hd.keep (fun c hc => hc.imp id (fun h => ⟨by have := hbw.size; omega, h.2⟩)) (fun _ _ => rfl)⟩, hb3⟩
          clear hsc hunf hpos hse hemp hR0 x0 x1 n0 n1 hR2
          go_wp2_with fail
          go_region_held3 (fun _ => True) (exact trivial) (first
            | (go_at_call 77; refine (HPT.out j _ hjM (HSE.out.bel.trans ((Below.drew (Below.refl _ _)).mono HSE.out.bel.size))).mono ?_; rintro e w3 ⟨⟨c, rfl, htc⟩, rfl⟩; have HTC3 : Hid _ := htc; clear htc)
            | (go_at_call 128; refine (HTK.out c _ (Below.drew (Below.refl _ _)) HTC3.out).mono ?_; rintro e w4 ⟨⟨T', y, rfl, hd⟩, hb4⟩; have HD4 : Hid _ := hd; have HB4 : Hid (Below wr.heap.size wr w4) := (Below.drew (Below.refl _ _)).trans hb4; clear hb4 hd))
          all_goals
            have HVA : Hid (DAt ts f w4 (fun c => S0 c ∨ (wr.heap.size ≤ c ∧ c < w4.heap.size)) (.iface T' y) (ps j) l) := HD4.out
            have hN3 : w4.heap[w.heap.size]? = some (.cells #[.pointer (some ⟨u, 0, none⟩), vv] 131 (0, 0)) := (HB4.out.block _ hnl).trans HSE.out.node
            have HN3 : Hid (w4.heap[w.heap.size]? = some (.cells #[.pointer (some ⟨u, 0, none⟩), vv] 131 (0, 0))) := hN3
            have n1 : w4.cell? ⟨w.heap.size, 1, none⟩ = some vv := by rw [cell_of_row w4 _ 1 _ _ _ hN3]; simp
            have HR3 : Hid (w4.ownsRow (w.heap.size + 1) 64 1 vv j ys) := HSE.out.row.kept (gb_bel HB4.out) (by cases vv.ownBlock <;> simp)
            have hs3 : w.heap.size < w4.heap.size := by have := HB4.out.size; omega
            clear hN3
            go_wp2_with (at_builtin; refine wpList_append_lies _ rfl _ _ 111 rfl (w.heap.size + 1) 64 i0 .nilIface 1 16 Tryz.underlying111 hi hz0 hz1 hz2 rfl (by decide) vv j _ rfl (HR3.out.alloc _) ⟨w4.heap.size, 0, none⟩ 1 1 [.iface T' y] rfl rfl ?c1 ?c2 (by omega) ?c3 ?c4 ?c5 (w4.heap.size + 1) (by simp) ?_)
            case c1 =>
              intro i u hi
              match i, hi with
              | 0, hi => simp at hi; subst hi; simp [Addr.add]
            case c2 => intro u hu; simp at hu; subst hu; rfl
            case c3 => unfold maxLen; omega
            case c4 => omega
            case c5 => simp; omega
            intro g cap' w5 hown' hgrow hat hlt'
            have hNo : some w.heap.size ≠ vv.ownBlock := fun e => by have := HR3.out.lt _ e.symm; omega
            have hN4 : w5.heap[w.heap.size]? = some (.cells #[.pointer (some ⟨u, 0, none⟩), vv] 131 (0, 0)) := by rw [hgrow.block _ (by simp; omega) hNo, Below.heap_alloc _ _ _ hs3]; exact HN3.out
            have m1 : w5.cell? ⟨w.heap.size, 1, none⟩ = some vv := by rw [cell_of_row w5 _ 1 _ _ _ hN4]; simp
            have f1 : w5.frozen? ⟨w.heap.size, 1, none⟩ = false := by simp [World.frozen?, hN4]
            have HQ : Hid (RsInv ts f u w.heap.size S0 ps w (w5.setCell ⟨w.heap.size, 1, none⟩ (.slice (some ⟨g, 0, none⟩) (j + 1) cap')) (j + 1) (.slice (some ⟨g, 0, none⟩) (j + 1) cap') (ys ++ [.iface T' y]) (ls ++ [l])) :=
              HSE.out.next HS.out HB4.out rfl HVA.out hgrow hat hlt' hown'
            clear hown' hgrow hat hlt' hN4 hNo n1
            go_wp2_with fail
            go_roundg gk1
            case rel => exact ⟨j + 1, R2, _, ys ++ [.iface T' y], ls ++ [l], by have := HJ.out; omega, by go_num, rfl, hR2s, HPOS.out, HQ.out⟩
            case measure => have := HJ.out; omega
      · have HN : Hid (serR ts f a k ts[a].2 b.data.toList = none) := by
          have hgk : gk = 0 := by omega
          have hne : R.data.toList ≠ [] := fun e => hR0 (by rw [← lst_len, e]; rfl)
          subst hgk
          show _ = _
          rw [← hkE, HSR.out, hpos]
          simp [partsL, hne]
        obtain ⟨e1, e2⟩ := EFv.below HE.out hse.bel
        clear hpos hse hemp hRs
        go_wp2_with fail
        go_region
        all_goals
          go_wp2_with fail
          go_region
          all_goals
            go_wp2_with fail
            go_ret2
            exact ⟨by first | exact HSE.out.bel | exact HSE.out.bel.drew | exact HSE.out.bel.drew.drew, .inl ⟨HN.out, _, .inl rfl, rfl⟩⟩
end Go.Proofs.YtdncnjmlicdamaaGreatDoor
