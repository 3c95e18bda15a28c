/- SBf, SBg, SBh: one text. -/
import Derived.Test.YtichgnddbnibjaaGreatDoorSBe
import Derived.Test.YtichgnddbnibjaaGreatDoorSBq
import Derived.Test.YtichgnddbnibjaaGreatDoorS3f
import Derived.Test.YtichgnddbnibjaaGreatDoorSAa
import Derived.Deep.RegionHeld3
namespace Go.Proofs.YtichgnddbnibjaaGreatDoor
open Go.RowKit Go.Sort
set_option linter.unusedVariables false
/-- What take leaves: an error is that of T and z. -/
def TkPost (get : List UInt8 → Nat × Nat × Bool) (T : TypeId) (z : Value) (ts : List (Int × Int)) (f a : Nat) (S0 : Nat → Prop) (b : ByteArray) (w : World) (e : Ending) (w' : World) : Prop :=
  Below w.heap.size w w' ∧
  ((scD get ts f a b.data.toList = none ∧ ∃ x y, (x = .nilIface ∨ ∃ T z, x = .iface T z) ∧ e = .returned (.tuple #[x, .string y, .iface T z])) ∨
   (∃ l m T' y, scD get ts f a b.data.toList = some (l, m) ∧ m ≤ b.size ∧ e = .returned (.tuple #[.iface T' y, .string (b.extract m b.size), .nilIface]) ∧ DAt ts f w' (fun c => S0 c ∨ (w.heap.size ≤ c ∧ c < w'.heap.size)) (.iface T' y) a l))
/-- The contract of take, f levels being left. -/
def TkHyp_bc (T : TypeId) (z : Value) (ts : List (Int × Int)) (f : Nat) : Prop :=
  ∀ (a u : Nat) (S0 : Nat → Prop) (b : ByteArray) (w : World), TreeAt ts f w S0 u a → (∀ c, S0 c → c < w.heap.size) → b.size ≤ 1048576 → EFv T z w →
    Calls Tryz.prog 138 #[.agg #[.func (.func 45) #[] #[], .func (.func 46) #[] #[]], .pointer (some ⟨u, 0, none⟩), .string b] w fun e w' => TkPost getSize T z ts f a S0 b w e w'
set_option maxRecDepth 100000 in
set_option maxHeartbeats 4000000 in
theorem takeChoice_bc (T : TypeId) (z : Value) (ts : List (Int × Int)) (f : Nat) (hp : TkHyp_bc T z ts f) (a u : Nat) (S0 : Nat → Prop) (b : ByteArray) (w : World) (ht : TreeAt ts (f + 1) w S0 u a) (hS0 : ∀ c, S0 c → c < w.heap.size) (ha : a < ts.length) (hk : ts[a].1 = 8 ∨ ts[a].1 = 9) (hb : b.size ≤ 1048576) (he : EFv T z w) :
    Calls Tryz.prog 141 #[.agg #[.func (.func 45) #[] #[], .func (.func 46) #[] #[]], .pointer (some ⟨u, 0, none⟩), .string b] w fun e w' => TkPost getSize T z ts (f + 1) a S0 b w e w' := by
  obtain ⟨_, e0, ad0, cap0, hok, hit, hu, c0, c1, _⟩ := ht.openT
  have hul := hS0 u hu
  have hw1 : wid ts[a].1 ts[a].2 = 1 := if_neg (by omega)
  have hwd : wd ts[a].1 ts[a].2 = 1 := hw1
  have hkk : ts[a].1 = 1 ∨ ts[a].1 = 2 ∨ ts[a].1 = 8 ∨ ts[a].1 = 9 := by omega
  have hll := lst_len b
  have HT : Hid (TreeAt ts (f + 1) w S0 u a) := ht
  have HS : Hid (∀ c, S0 c → c < w.heap.size) := hS0
  have HP : Hid (TkHyp_bc T z ts f) := hp
  have HE : Hid (EFv T z w) := he
  have HKK : Hid (ts[a].1 = 8 ∨ ts[a].1 = 9) := hk
  have r0 := cells_re3 (cell_1i c0 hul (.cells #[.func (.func 45) #[] #[], .func (.func 46) #[] #[]] 54))
  have r1 := cells_re3 (cell_1i c1 hul (.cells #[.func (.func 45) #[] #[], .func (.func 46) #[] #[]] 54))
  have p0 := part00_re (heap_alloc_new w (.cells #[.func (.func 45) #[] #[], .func (.func 46) #[] #[]] 54))
  have t0 := cells_re3 (w := (w.alloc (.cells #[.func (.func 45) #[] #[], .func (.func 46) #[] #[]] 54))) (a := ⟨w.heap.size, 0, none⟩) (v := .func (.func 45) #[] #[]) (by simp [go_sem])
  have t1 := cells_re3 (w := (w.alloc (.cells #[.func (.func 45) #[] #[], .func (.func 46) #[] #[]] 54))) (a := ⟨w.heap.size, 1, none⟩) (v := .func (.func 46) #[] #[]) (by simp [go_sem])
  have HBR : Hid (∀ d os, Below w.heap.size w (grow (redrawn (w.alloc (.cells #[.func (.func 45) #[] #[], .func (.func 46) #[] #[]] 54)) d) os)) := fun d os => (bel1 _ _).trans ((below_regrown _ d os).mono (by simp))
  by_cases hn : b.size < wid ts[a].1 ts[a].2 ∨ fitsN ts[a].1 ts[a].2 (leV (b.data.toList.take (wid ts[a].1 ts[a].2))) = false
  · have HN : Hid (scD getSize ts (f + 1) a b.data.toList = none) := scD_numNo ha hkk (hn.imp (fun h => by rw [hll]; exact h) id)
    have HTN : Hid (∀ w', Below w.heap.size w w' → Calls Tryz.prog 139 #[.agg #[], .agg #[.int .i64 ts[a].1, .int .i64 ts[a].2], .string b] w' fun e w'' => e = .returned (.tuple #[.int .u64 0, .string ⟨#[]⟩, .iface T z]) ∧ Below w'.heap.size w' w'') := fun w' hbw => takeNumber_no _ _ b w' hok (by omega) hn T z (he.below hbw)
    clear ht hS0 hp he hk hkk hok hit hn hw1 hwd c0 c1 t0 t1
    generalize ts[a].1 = k at r0 HTN
    generalize ts[a].2 = n at r1 HTN
    go_enter Tryz.func141, Tryz.ntmps141
    go_wp2_with fail
    refine wp_region_quiet_below (by kernel_rfl) (by kernel_rfl) ?_
    repeat (go_big_quiet_step (exact Calls.regrown_of (HTN.out _ (HBR.out _ _))))
    refine wpQuiet_nil ?_
    intro w1 hw'
    obtain ⟨⟨dq, osq⟩, hw''⟩ := hw'
    have HB1 : Hid (Below w.heap.size w w1) := by rw [hw'']; exact HBR.out _ _
    clear hw'' r0 r1 p0
    go_wp2_with fail
    go_ret3
    exact ⟨HB1.out, .inl ⟨HN.out, _, _, .inl rfl, rfl⟩⟩
  · have hl1 : wid ts[a].1 ts[a].2 ≤ b.size := by omega
    have hfn : fitsN ts[a].1 ts[a].2 (leV (b.data.toList.take (wid ts[a].1 ts[a].2))) = true := by
      cases h : fitsN ts[a].1 ts[a].2 (leV (b.data.toList.take (wid ts[a].1 ts[a].2))) with
      | true => rfl
      | false => exact absurd (.inr h) hn
    have HTN : Hid (∀ w', Below w.heap.size w w' → Calls Tryz.prog 139 #[.agg #[], .agg #[.int .i64 ts[a].1, .int .i64 ts[a].2], .string b] w' fun e w'' => e = .returned (.tuple #[.int .u64 (leV (b.data.toList.take (wid ts[a].1 ts[a].2)) : Nat), .string (b.extract (wid ts[a].1 ts[a].2) b.size), .nilIface]) ∧ Below w'.heap.size w' w'') := fun w' hbw => takeNumber_yes _ _ b w' hok (by omega) hl1 hfn
    have hone : oneD getSize ts[a].1 ts[a].2 b.data.toList = some (⟨ts[a].1, leV (b.data.toList.take 1), ⟨#[]⟩⟩, 1) := by rw [oneD_num hkk, hwd, if_pos (by omega)]
    rw [hw1] at HTN hfn hl1
    have hm4 : leV (b.data.toList.take 1) < 256 := by
      have h2 := leV_lt (b.data.toList.take 1)
      have h3 : (b.data.toList.take 1).length = 1 := by simp; omega
      rw [h3] at h2; exact h2
    obtain ⟨m, hmE⟩ : ∃ m, leV (b.data.toList.take 1) = m := ⟨_, rfl⟩
    rw [hmE] at HTN hfn hone hm4
    have hfi : fitsI ts[a].1 ts[a].2 ⟨ts[a].1, m, ⟨#[]⟩⟩ = true := by rw [fitsI_num (by omega) (by omega)]; exact hfn
    have HSD : Hid (scD getSize ts (f + 1) a b.data.toList = (partsD (scD getSize ts f) (pl ts f a ts[a].1 m) b.data.toList 1 (np ts[a].1 m)).map fun y => (⟨ts[a].1, m, ⟨#[]⟩⟩ :: y.1.flatten, y.2)) := scD_one ha hone hfi
    have HFI : Hid (fitsI ts[a].1 ts[a].2 ⟨ts[a].1, m, ⟨#[]⟩⟩ = true) := hfi
    have HFN : Hid (fitsN ts[a].1 ts[a].2 m = true) := hfn
    by_cases hz : ts[a].1 = 8 ∧ m = 0
    · have HN : Hid (scD getSize ts (f + 1) a b.data.toList = some ([⟨ts[a].1, 0, ⟨#[]⟩⟩], 1)) := by
        show _ = _
        rw [← hz.2]
        exact scD_leaf ha hone hfi (by unfold np; rw [if_pos (by omega)]; exact hz.2)
      have HNP : Hid (np ts[a].1 0 = 0) := by show np _ 0 = 0; unfold np; rw [if_pos (by omega)]
      have HCN : Hid (∀ w', Below w.heap.size w w' → Calls Tryz.prog 101 #[.pointer (some ⟨u, 0, none⟩), .int .u64 0] w' fun e w'' => e = .returned (.pointer none) ∧ w'' = w') := fun w' hbw => chosen_no ts f u a w' S0 (ht.bel hS0 hbw) ha hz.1
      have hz2 := hz.2
      subst hz2
      clear ht hS0 hp he hk hkk hok hit hn hw1 hwd c0 c1 t0 t1 hone hfi hfn hmE hz HSD
      generalize hkE : ts[a].1 = k at r0 HTN
      generalize ts[a].2 = n at r1 HTN
      clear hkE
      go_enter Tryz.func141, Tryz.ntmps141
      go_wp2_with fail
      refine wp_region_quiet_below (by kernel_rfl) (by kernel_rfl) ?_
      repeat (go_big_quiet_step (exact Calls.regrown_of (HTN.out _ (HBR.out _ _))))
      refine wpQuiet_nil ?_
      intro w1 hw'
      obtain ⟨⟨dq, osq⟩, hw''⟩ := hw'
      have HB1 : Hid (Below w.heap.size w w1) := by rw [hw'']; exact HBR.out _ _
      clear hw'' r0 r1 p0
      go_wp2_with fail
      refine (HCN.out _ HB1.out).mono ?_
      rintro e w2 ⟨rfl, rfl⟩
      go_wp2_with fail
      go_ret3
      exact ⟨HB1.out, .inr ⟨_, 1, _, _, HN.out, hl1, rfl, u, ⟨_, 0, ⟨#[]⟩⟩, ha, (HT.out.bel HS.out HB1.out).keep (fun c hc => .inl hc) (fun _ _ => rfl), HFI.out, by show (0 : Nat) < _; omega, .inr (.inr (.inr ⟨HKK.out, .nilIface, [], rfl, rfl, .inl ⟨HNP.out, rfl, rfl⟩⟩))⟩⟩
    · have hnp : np ts[a].1 m = 1 := by
        unfold np
        unfold fitsN at hfn
        rcases hk with h8 | h9
        · rw [if_pos (by omega)]
          rw [if_neg (by omega), if_pos (by omega)] at hfn
          have := of_decide_eq_true hfn
          have : m ≠ 0 := fun e => hz ⟨h8, e⟩
          omega
        · rw [if_neg (by omega), if_pos h9]
      have HNP : Hid (np ts[a].1 m = 1) := hnp
      have HCH : Hid (∀ w', Below w.heap.size w w' → Calls Tryz.prog 101 #[.pointer (some ⟨u, 0, none⟩), .int .u64 m] w' fun e w'' => (∃ c, e = .returned (.pointer (some ⟨c, 0, none⟩)) ∧ TreeAt ts f w' S0 c (pl ts f a ts[a].1 m 0)) ∧ w'' = w') := fun w' hbw => chosen_any ts f u a w' S0 m (ht.bel hS0 hbw) ha hk hfn hz (by omega)
      have hsR : (b.extract 1 b.size).size ≤ 1048576 := by rw [ex_sz]; omega
      have HEX : Hid (∀ q, (b.extract 1 b.size).extract q (b.extract 1 b.size).size = b.extract (1 + q) b.size) := fun q => ex_ex b 1 q
      have HLI : Hid ((b.extract 1 b.size).data.toList = b.data.toList.drop 1) := ex_list b 1
      have HSZ : Hid ((b.extract 1 b.size).size = b.size - 1) := ex_sz b 1
      obtain ⟨R, hR⟩ : ∃ R, b.extract 1 b.size = R := ⟨_, rfl⟩
      rw [hR] at HTN hsR HEX HLI HSZ
      have hmi : (m : Int) < 18446744073709551616 := by omega
      clear ht hS0 hp he hk hkk hok hit hn hw1 hwd c0 c1 hone hfi hfn hmE hz hR hnp
      generalize hkE : ts[a].1 = k at r0 HTN
      generalize ts[a].2 = n at r1 HTN
      clear hkE
      go_enter Tryz.func141, Tryz.ntmps141
      go_wp2_with fail
      refine wp_region_quiet_below (by kernel_rfl) (by kernel_rfl) ?_
      repeat (go_big_quiet_step (exact Calls.regrown_of (HTN.out _ (HBR.out _ _))))
      refine wpQuiet_nil ?_
      intro w1 hw'
      obtain ⟨⟨dq, osq⟩, hw''⟩ := hw'
      have HB1 : Hid (Below w.heap.size w w1) := by rw [hw'']; exact HBR.out _ _
      have x0 : w1.cell? ⟨w.heap.size, 0, none⟩ = some (.func (.func 45) #[] #[]) := by rw [hw'']; exact t0 _ _
      have x1 : w1.cell? ⟨w.heap.size, 1, none⟩ = some (.func (.func 46) #[] #[]) := by rw [hw'']; exact t1 _ _
      clear hw'' r0 r1 p0 t0 t1
      go_wp2_with fail
      refine (HCH.out _ HB1.out).mono ?_
      rintro e w2 ⟨⟨c, rfl, htc⟩, rfl⟩
      have HTC : Hid (TreeAt ts f w2 S0 c (pl ts f a ts[a].1 m 0)) := htc
      clear htc
      go_wp2_with fail
      refine (HP.out _ c S0 R w2 HTC.out (fun c hc => by have := HS.out c hc; have := HB1.out.size; omega) hsR (HE.out.below HB1.out)).mono ?_
      rintro e w3 ⟨hb3, ⟨hno, x, y, hx, rfl⟩ | ⟨l, q, T', y, hsd, hq, rfl, hd⟩⟩
      · have HB3 : Hid (Below w.heap.size w w3) := HB1.out.trans (hb3.mono HB1.out.size)
        have HN : Hid (scD getSize ts (f + 1) a b.data.toList = none) := by
          show _ = _
          rw [HSD.out, HNP.out, partsD_one, ← HLI.out, hno]; rfl
        clear hb3 hno x0 x1
        rcases hx with rfl | ⟨T1, z1, rfl⟩
        all_goals
          go_wp2_with fail
          go_ret3
          exact ⟨HB3.out, .inl ⟨HN.out, _, _, .inr ⟨_, _, rfl⟩, rfl⟩⟩
      · have HB3 : Hid (Below w.heap.size w w3) := HB1.out.trans (hb3.mono HB1.out.size)
        have HN : Hid (scD getSize ts (f + 1) a b.data.toList = some (⟨ts[a].1, m, ⟨#[]⟩⟩ :: l, 1 + q)) := by
          show _ = _
          rw [HSD.out, HNP.out, partsD_one, ← HLI.out, hsd]
          simp
        have HQ : Hid (1 + q ≤ b.size) := by show _ ≤ _; have := HSZ.out; omega
        have HD : Hid (DAt ts f w3 (fun c => S0 c ∨ (w2.heap.size ≤ c ∧ c < w3.heap.size)) (.iface T' y) (pl ts f a ts[a].1 m 0) l) := hd
        have HB23 : Hid (Below w2.heap.size w2 w3) := hb3
        clear hb3 hsd hq hd x0 x1
        go_wp2_with fail
        go_ret3
        exact ⟨HB3.out, .inr ⟨_, 1 + q, _, _, HN.out, HQ.out, by rw [← HEX.out]; rfl, u, ⟨_, m, ⟨#[]⟩⟩, ha, (HT.out.bel HS.out HB3.out).keep (fun c hc => .inl hc) (fun _ _ => rfl), HFI.out, by show m < _; omega, .inr (.inr (.inr ⟨HKK.out, .iface T' y, l, rfl, rfl, .inr ⟨by show 0 < np _ m; rw [HNP.out]; omega, HD.out.keep (fun c hc => hc.imp id (fun h => ⟨by have := HB1.out.size; omega, h.2⟩)) (fun _ _ => rfl)⟩⟩))⟩⟩
end Go.Proofs.YtichgnddbnibjaaGreatDoor
namespace Go.Proofs.YtichgnddbnibjaaGreatDoor
open Go.RowKit Go.Sort
set_option linter.unusedVariables false
/-- Where the reading of a series stands behind j of its parts: its block N, the parts' slice v, the parts ys. -/
structure TsInv (get : List UInt8 → Nat × Nat × Bool) (ts : List (Int × Int)) (f : Nat) (B : List UInt8) (h0 u N : Nat) (S0 : Nat → Prop) (ps : Nat → Nat) (w wr : World) (j m : Nat) (v : Value) (ys : List Value) (ls : List (List It)) : Prop where
  pos : partsD (scD get ts f) ps B h0 j = some (ls, m)
  bel : Below w.heap.size w wr
  low : w.heap.size ≤ N
  node : wr.heap[N]? = some (.cells #[.pointer (some ⟨u, 0, none⟩), v] 152 (0, 0))
  len : ys.length = j
  one : ∀ y ∈ ys, y.oneCell' = true
  row : wr.ownsRow (N + 1) 74 1 v j ys
  kin : ∀ i (h : i < ys.length) (h' : i < ls.length), DAt ts f wr (fun c => S0 c ∨ (N < c ∧ c < wr.heap.size ∧ some c ≠ v.ownBlock)) ys[i] (ps i) ls[i]
theorem TsInv.start {get : List UInt8 → Nat × Nat × Bool} {ts : List (Int × Int)} {f : Nat} {B : List UInt8} {h0 u : Nat} {S0 : Nat → Prop} {ps : Nat → Nat} {w w2 : World} (hb : Below w.heap.size w w2) : TsInv get ts f B h0 u w2.heap.size S0 ps w (w2.alloc (.cells #[.pointer (some ⟨u, 0, none⟩), .slice none 0 0] 152)) 0 h0 (.slice none 0 0) [] [] :=
  ⟨rfl, hb.alloc hb.size _, hb.size, heap_alloc_new w2 _, rfl, by simp, World.ownsRow_nil _ _ _ _, fun i h => by simp at h⟩
/-- One part more: read in w1, appended in w2, the node's cell set. -/
theorem TsInv.next {get : List UInt8 → Nat × Nat × Bool} {ts : List (Int × Int)} {f : Nat} {B : List UInt8} {h0 u N : Nat} {S0 : Nat → Prop} {ps : Nat → Nat} {w wr w1 w2 : World} {j m q g cap : Nat} {v z : Value} {ys : List Value} {ls : List (List It)} {l : List It} {o : Obj}
    (h : TsInv get ts f B h0 u N S0 ps w wr j m v ys ls) (hS0 : ∀ c, S0 c → c < w.heap.size) (hb1 : Below wr.heap.size wr w1) (hz : z.oneCell' = true) (ht : DAt ts f w1 (fun c => S0 c ∨ (wr.heap.size ≤ c ∧ c < w1.heap.size)) z (ps j) l) (hy : scD get ts f (ps j) (B.drop m) = some (l, q))
    (hg : (w1.alloc o).grownBy w2 v.ownBlock) (hat : v.ownBlock = some g ∨ g = w1.heap.size + 1) (hgl : g < w2.heap.size)
    (hrow : w2.ownsRow (N + 1) 74 1 (.slice (some ⟨g, 0, none⟩) (j + 1) cap) (j + 1) (ys ++ [z])) :
    TsInv get ts f B h0 u N S0 ps w (w2.setCell ⟨N, 1, none⟩ (.slice (some ⟨g, 0, none⟩) (j + 1) cap)) (j + 1) (m + q) (.slice (some ⟨g, 0, none⟩) (j + 1) cap) (ys ++ [z]) (ls ++ [l]) := by
  have hN := blk_lt h.node
  have hNg : N + 1 ≤ g := by
    have := hrow.lt g rfl
    omega
  have hown : ∀ b, v.ownBlock = some b → N + 1 ≤ b ∧ b < wr.heap.size := h.row.lt
  have hll := partsD_len h.pos
  have hs0 := h.bel.size
  have hlow := h.low
  have hs1 := hb1.size
  have hs2 : w1.heap.size + 1 ≤ w2.heap.size := by have := hg.size; simpa using this
  have hsz : (w2.setCell ⟨N, 1, none⟩ (.slice (some ⟨g, 0, none⟩) (j + 1) cap)).heap.size = w2.heap.size := by simp [World.setCell]
  have hNo : some N ≠ v.ownBlock := fun e => by have := hown N e.symm; omega
  have hN2 : w2.heap[N]? = some (.cells #[.pointer (some ⟨u, 0, none⟩), v] 152 (0, 0)) := by
    rw [hg.block N (by simp; omega) hNo, Below.heap_alloc _ _ _ (by omega), hb1.block N hN]; exact h.node
  have old : ∀ b, b < w1.heap.size → b ≠ N → some b ≠ v.ownBlock → (w2.setCell ⟨N, 1, none⟩ (.slice (some ⟨g, 0, none⟩) (j + 1) cap)).heap[b]? = w1.heap[b]? := fun b hb hbN hbo => by
    rw [Below.heap_setCell _ _ _ _ hbN, hg.block b (by simp; omega) hbo, Below.heap_alloc _ _ _ hb]
  have oldS : ∀ c, S0 c → c < w1.heap.size ∧ c ≠ N ∧ some c ≠ v.ownBlock ∧ c < wr.heap.size := fun c hc => by
    have := hS0 c hc
    exact ⟨by omega, by omega, fun e => by have := hown c e.symm; omega, by omega⟩
  refine ⟨by rw [partsD_succ, h.pos]; simp [hy], ?_, h.low, ?_, by simp [h.len], ?_, ?_, ?_⟩
  · have b1 : Below w.heap.size w w1 := h.bel.trans (hb1.mono h.bel.size)
    have b2 : Below w.heap.size w (w1.alloc o) := b1.alloc (by have := b1.size; omega) o
    have b3 : Below w.heap.size w w2 := b2.grown hg (by have := b2.size; omega) (fun q hq => by have := hown q hq; omega)
    exact b3.setCell (p := ⟨N, 1, none⟩) h.low _
  · have e1 := set_block (i := 1) hN2 (.slice (some ⟨g, 0, none⟩) (j + 1) cap)
    rw [e1]; simp
  · intro y hy
    rcases List.mem_append.1 hy with hy | hy
    · exact h.one y hy
    · simp at hy; subst hy; exact hz
  · exact ownsRow_setCell_below hrow (a := ⟨N, 1, none⟩) (by simp) _
  · intro i hi hi2
    by_cases hij : i < ys.length
    · have hij2 : i < ls.length := by rw [hll, ← h.len]; exact hij
      have htr := h.kin i hij hij2
      rw [List.getElem_append_left hij, List.getElem_append_left hij2]
      refine htr.keep (fun c hc => ?_) (fun c hc => ?_)
      · rcases hc with hc | ⟨q1, q2, q3⟩
        · exact .inl hc
        · refine .inr ⟨q1, by rw [hsz]; omega, fun e => ?_⟩
          have e' : c = g := by simpa [Value.ownBlock] using e
          rcases hat with hat | hat
          · exact q3 (by rw [hat, e'])
          · omega
      · rcases hc with hc | ⟨q1, q2, q3⟩
        · obtain ⟨r1, r2, r3, r4⟩ := oldS c hc
          rw [old c r1 r2 r3, hb1.block c r4]
        · rw [old c (by omega) (by omega) q3, hb1.block c q2]
    · have hi' : i = ys.length := by simp at hi; omega
      have hlen := h.len
      have e1 : (ys ++ [z])[i] = z := by rw [List.getElem_append_right (by omega)]; simp
      have e2 : (ls ++ [l])[i] = l := by rw [List.getElem_append_right (by omega)]; simp
      rw [e1, e2, show i = j by omega]
      refine ht.keep (fun c hc => ?_) (fun c hc => ?_)
      · rcases hc with hc | ⟨q1, q2⟩
        · exact .inl hc
        · refine .inr ⟨by omega, by rw [hsz]; omega, fun e => ?_⟩
          have e' : c = g := by simpa [Value.ownBlock] using e
          rcases hat with hat | hat
          · have := hown g hat; omega
          · omega
      · rcases hc with hc | ⟨q1, q2⟩
        · obtain ⟨r1, r2, r3, _⟩ := oldS c hc
          exact old c r1 r2 r3
        · exact old c q2 (by omega) (fun e => by have := hown c e.symm; omega)
set_option maxRecDepth 100000 in
set_option maxHeartbeats 4000000 in
theorem takeSeries_err_bc (T : TypeId) (z : Value) (ts : List (Int × Int)) (f a u : Nat) (k n : Int) (S0 : Nat → Prop) (b : ByteArray) (w : World) (c0 : w.cell? ⟨u, 0, none⟩ = some (.int .i64 k)) (c1 : w.cell? ⟨u, 1, none⟩ = some (.int .i64 n)) (hul : u < w.heap.size) (hno : scD getSize ts (f + 1) a b.data.toList = none)
    (htc : ∀ w', Below w.heap.size w w' → Calls Tryz.prog 143 #[.agg #[.func (.func 45) #[] #[], .func (.func 46) #[] #[]], .agg #[.int .i64 k, .int .i64 n], .string b] w' fun e w'' => e = .returned (.tuple #[.int .u64 0, .string ⟨#[]⟩, .iface T z]) ∧ Below w'.heap.size w' w'') :
    Calls Tryz.prog 142 #[.agg #[.func (.func 45) #[] #[], .func (.func 46) #[] #[]], .pointer (some ⟨u, 0, none⟩), .string b] w fun e w' => TkPost getSize T z ts (f + 1) a S0 b w e w' := by
  have HTC : Hid (∀ w', Below w.heap.size w w' → Calls Tryz.prog 143 #[.agg #[.func (.func 45) #[] #[], .func (.func 46) #[] #[]], .agg #[.int .i64 k, .int .i64 n], .string b] w' fun e w'' => e = .returned (.tuple #[.int .u64 0, .string ⟨#[]⟩, .iface T z]) ∧ Below w'.heap.size w' w'') := htc
  have r0 := cells_re3 (cell_1i c0 hul (.cells #[.func (.func 45) #[] #[], .func (.func 46) #[] #[]] 54))
  have r1 := cells_re3 (cell_1i c1 hul (.cells #[.func (.func 45) #[] #[], .func (.func 46) #[] #[]] 54))
  have t0 := cells_re3 (w := (w.alloc (.cells #[.func (.func 45) #[] #[], .func (.func 46) #[] #[]] 54))) (a := ⟨w.heap.size, 0, none⟩) (v := .func (.func 45) #[] #[]) (by simp [go_sem])
  have t1 := cells_re3 (w := (w.alloc (.cells #[.func (.func 45) #[] #[], .func (.func 46) #[] #[]] 54))) (a := ⟨w.heap.size, 1, none⟩) (v := .func (.func 46) #[] #[]) (by simp [go_sem])
  have HBR : Hid (∀ d os, Below w.heap.size w (grow (redrawn (w.alloc (.cells #[.func (.func 45) #[] #[], .func (.func 46) #[] #[]] 54)) d) os)) := fun d os => (bel1 _ _).trans ((below_regrown _ d os).mono (by simp))
  have HN : Hid (scD getSize ts (f + 1) a b.data.toList = none) := hno
  clear htc c0 c1 hno
  go_enter Tryz.func142, Tryz.ntmps142
  go_wp2_with fail
  refine wp_region_quiet_below (by kernel_rfl) (by kernel_rfl) ?_
  repeat (go_big_quiet_step (exact Calls.regrown_of (HTC.out _ (HBR.out _ _))))
  refine wpQuiet_nil ?_
  intro w1 hw'
  obtain ⟨⟨dq, osq⟩, hw''⟩ := hw'
  have HB1 : Hid (Below w.heap.size w w1) := by rw [hw'']; exact HBR.out _ _
  clear hw'' r0 r1 t0 t1
  go_wp2_with fail
  go_ret3
  exact ⟨HB1.out, .inl ⟨HN.out, _, _, .inl rfl, rfl⟩⟩
set_option maxRecDepth 100000 in
set_option maxHeartbeats 4000000 in
/-- A count that is too great, or no number of parts. -/
theorem takeSeries_bad_bc (T : TypeId) (z : Value) (ts : List (Int × Int)) (f a u M : Nat) (R : ByteArray) (k n : Int) (S0 : Nat → Prop) (b : ByteArray) (w : World) (c0 : w.cell? ⟨u, 0, none⟩ = some (.int .i64 k)) (c1 : w.cell? ⟨u, 1, none⟩ = some (.int .i64 n)) (hul : u < w.heap.size) (hok : tyOk k n = true) (hM : M < 18446744073709551616) (hf : fitsN k n M = false) (he : EFv T z w) (hno : scD getSize ts (f + 1) a b.data.toList = none)
    (htc : ∀ w', Below w.heap.size w w' → Calls Tryz.prog 143 #[.agg #[.func (.func 45) #[] #[], .func (.func 46) #[] #[]], .agg #[.int .i64 k, .int .i64 n], .string b] w' fun e w'' => e = .returned (.tuple #[.int .u64 M, .string R, .nilIface]) ∧ Below w'.heap.size w' w'') :
    Calls Tryz.prog 142 #[.agg #[.func (.func 45) #[] #[], .func (.func 46) #[] #[]], .pointer (some ⟨u, 0, none⟩), .string b] w fun e w' => TkPost getSize T z ts (f + 1) a S0 b w e w' := by
  have HTC : Hid (∀ w', Below w.heap.size w w' → Calls Tryz.prog 143 #[.agg #[.func (.func 45) #[] #[], .func (.func 46) #[] #[]], .agg #[.int .i64 k, .int .i64 n], .string b] w' fun e w'' => e = .returned (.tuple #[.int .u64 M, .string R, .nilIface]) ∧ Below w'.heap.size w' w'') := htc
  have HF : Hid (∀ w, Calls Tryz.prog 82 #[.agg #[.int .i64 k, .int .i64 n], .int .u64 M] w fun e w' => e = .returned (.bool false) ∧ Below w.heap.size w w') := fun w => by rw [← hf]; exact numberFits_any k n M w hok hM
  have r0 := cells_re3 (cell_1i c0 hul (.cells #[.func (.func 45) #[] #[], .func (.func 46) #[] #[]] 54))
  have r1 := cells_re3 (cell_1i c1 hul (.cells #[.func (.func 45) #[] #[], .func (.func 46) #[] #[]] 54))
  have t0 := cells_re3 (w := (w.alloc (.cells #[.func (.func 45) #[] #[], .func (.func 46) #[] #[]] 54))) (a := ⟨w.heap.size, 0, none⟩) (v := .func (.func 45) #[] #[]) (by simp [go_sem])
  have t1 := cells_re3 (w := (w.alloc (.cells #[.func (.func 45) #[] #[], .func (.func 46) #[] #[]] 54))) (a := ⟨w.heap.size, 1, none⟩) (v := .func (.func 46) #[] #[]) (by simp [go_sem])
  have HBR : Hid (∀ d os, Below w.heap.size w (grow (redrawn (w.alloc (.cells #[.func (.func 45) #[] #[], .func (.func 46) #[] #[]] 54)) d) os)) := fun d os => (bel1 _ _).trans ((below_regrown _ d os).mono (by simp))
  have HN : Hid (scD getSize ts (f + 1) a b.data.toList = none) := hno
  have HE : Hid (EFv T z w) := he
  clear htc c0 c1 hno hok hM hf he
  go_enter Tryz.func142, Tryz.ntmps142
  go_wp2_with fail
  refine wp_region_quiet_below (by kernel_rfl) (by kernel_rfl) ?_
  repeat (go_big_quiet_step (exact Calls.regrown_of (HTC.out _ (HBR.out _ _))))
  refine wpQuiet_nil ?_
  intro w1 hw'
  obtain ⟨⟨dq, osq⟩, hw''⟩ := hw'
  have HB1 : Hid (Below w.heap.size w w1) := by rw [hw'']; exact HBR.out _ _
  have x0 : w1.cell? ⟨u, 0, none⟩ = some (.int .i64 k) := by rw [hw'']; exact r0 _ _
  have x1 : w1.cell? ⟨u, 1, none⟩ = some (.int .i64 n) := by rw [hw'']; exact r1 _ _
  clear hw'' r0 r1 t0 t1
  go_wp2_with fail
  refine (HF.out _).mono ?_
  rintro e w2 ⟨rfl, hb2⟩
  have HB2 : Hid (Below w.heap.size w w2) := HB1.out.trans (hb2.mono HB1.out.size)
  obtain ⟨e1, e2⟩ := EFv.below HE.out HB2.out
  clear hb2 x0 x1
  go_wp2_with fail
  go_region
  all_goals
    go_wp2_with fail
    go_ret3
    exact ⟨by first | exact HB2.out | exact HB2.out.drew, .inl ⟨HN.out, _, _, .inl rfl, rfl⟩⟩
set_option maxRecDepth 100000 in
set_option maxHeartbeats 8000000 in
theorem takeSeries_yes_bc (T : TypeId) (z : Value) (ts : List (Int × Int)) (f : Nat) (hp : TkHyp_bc T z ts f) (a u M h0 : Nat) (R : ByteArray) (S0 : Nat → Prop) (b : ByteArray) (w : World) (ht : TreeAt ts (f + 1) w S0 u a) (hS0 : ∀ c, S0 c → c < w.heap.size) (ha : a < ts.length) (hk : ts[a].1 = 5 ∨ ts[a].1 = 6 ∨ ts[a].1 = 7) (hb : b.size ≤ 1048576) (he : EFv T z w)
    (hone : oneD getSize ts[a].1 ts[a].2 b.data.toList = some (⟨ts[a].1, M, ⟨#[]⟩⟩, h0)) (hh : h0 ≤ b.size) (hR : R = b.extract h0 b.size) (hf : fitsN ts[a].1 ts[a].2 M = true)
    (htc : ∀ w', Below w.heap.size w w' → Calls Tryz.prog 143 #[.agg #[.func (.func 45) #[] #[], .func (.func 46) #[] #[]], .agg #[.int .i64 ts[a].1, .int .i64 ts[a].2], .string b] w' fun e w'' => e = .returned (.tuple #[.int .u64 M, .string R, .nilIface]) ∧ Below w'.heap.size w' w'') :
    Calls Tryz.prog 142 #[.agg #[.func (.func 45) #[] #[], .func (.func 46) #[] #[]], .pointer (some ⟨u, 0, none⟩), .string b] w fun e w' => TkPost getSize T z ts (f + 1) a S0 b w e w' := by
  obtain ⟨i0, hi, hz0, hz1, hz2⟩ := info_parts Tryz.infoVN
  obtain ⟨_, e0, ad0, cap0, hok, hit, hu, c0, c1, _⟩ := ht.openT
  have hul := hS0 u hu
  have hnpM : np ts[a].1 M = M := by unfold np; rw [if_pos (by omega)]
  have hM20 : M ≤ 20 := by have := np_le hok hf; rwa [hnpM] at this
  have hfi : fitsI ts[a].1 ts[a].2 ⟨ts[a].1, M, ⟨#[]⟩⟩ = true := by rw [fitsI_num (by omega) (by omega)]; exact hf
  have HSD : Hid (scD getSize ts (f + 1) a b.data.toList = (partsD (scD getSize ts f) (pl ts f a ts[a].1 M) b.data.toList h0 M).map fun y => (⟨ts[a].1, M, ⟨#[]⟩⟩ :: y.1.flatten, y.2)) := by
    have h := scD_one (f := f) ha hone hfi
    show _ = _
    simp only [hnpM] at h
    exact h
  have HT : Hid (TreeAt ts (f + 1) w S0 u a) := ht
  have HS : Hid (∀ c, S0 c → c < w.heap.size) := hS0
  have HP : Hid (TkHyp_bc T z ts f) := hp
  have HE : Hid (EFv T z w) := he
  have HKK : Hid (ts[a].1 = 5 ∨ ts[a].1 = 6 ∨ ts[a].1 = 7) := hk
  have HFI : Hid (fitsI ts[a].1 ts[a].2 ⟨ts[a].1, M, ⟨#[]⟩⟩ = true) := hfi
  have HFN : Hid (fitsN ts[a].1 ts[a].2 M = true) := hf
  have HLE : Hid (∀ j m ls, partsD (scD getSize ts f) (pl ts f a ts[a].1 M) b.data.toList h0 j = some (ls, m) → j ≤ M → m ≤ b.size) := fun j m ls hpd hj => by
    have key : ∀ j m ls, partsD (scD getSize ts f) (pl ts f a ts[a].1 M) b.data.toList h0 j = some (ls, m) → j ≤ M → m ≤ b.data.toList.length := by
      intro j
      induction j with
      | zero => intro m ls hpd _; simp only [partsD, Option.some.injEq, Prod.mk.injEq] at hpd; rw [lst_len]; omega
      | succ j ih =>
        intro m ls hpd hj
        rw [partsD_succ] at hpd
        obtain ⟨⟨ls1, m1⟩, q1, q2⟩ := Option.bind_eq_some_iff.1 hpd
        obtain ⟨⟨l2, m2⟩, q3, q4⟩ := Option.map_eq_some_iff.1 q2
        simp only [Prod.mk.injEq] at q4
        have h1 := ih m1 ls1 q1 (by omega)
        obtain ⟨e', he'⟩ := pl_ok ha hok hit hf (show j < np ts[a].1 M by omega)
        have h2 := (scD_back cntGet_bc he' q3).1
        rw [List.length_drop] at h2
        omega
    have := key j m ls hpd hj
    rwa [lst_len] at this
  have HTC : Hid (∀ w', Below w.heap.size w w' → Calls Tryz.prog 143 #[.agg #[.func (.func 45) #[] #[], .func (.func 46) #[] #[]], .agg #[.int .i64 ts[a].1, .int .i64 ts[a].2], .string b] w' fun e w'' => e = .returned (.tuple #[.int .u64 M, .string R, .nilIface]) ∧ Below w'.heap.size w' w'') := htc
  have HF : Hid (∀ w, Calls Tryz.prog 82 #[.agg #[.int .i64 ts[a].1, .int .i64 ts[a].2], .int .u64 M] w fun e w' => e = .returned (.bool true) ∧ Below w.heap.size w w') := fun w => by rw [← hf]; exact numberFits_any _ _ M w hok (by omega)
  have HPT : Hid (∀ j w', j < M → Below w.heap.size w w' → Calls Tryz.prog 100 #[.pointer (some ⟨u, 0, none⟩), .int .u64 j] w' fun e w'' => (∃ c, e = .returned (.pointer (some ⟨c, 0, none⟩)) ∧ TreeAt ts f w' S0 c (pl ts f a ts[a].1 M j)) ∧ w'' = w') := fun j w' hj hbw =>
    part_any ts f u a w' S0 j M j (ht.bel hS0 hbw) ha hf (by rw [hnpM]; exact hj) ⟨fun h => by omega, fun _ => rfl⟩ (by omega)
  have HEXR : Hid (R = b.extract h0 b.size) := hR
  have hRs : R.size ≤ 1048576 := by rw [hR, ex_sz]; omega
  have r0 := cells_re3 (cell_1i c0 hul (.cells #[.func (.func 45) #[] #[], .func (.func 46) #[] #[]] 54))
  have r1 := cells_re3 (cell_1i c1 hul (.cells #[.func (.func 45) #[] #[], .func (.func 46) #[] #[]] 54))
  have t0 := cells_re3 (w := (w.alloc (.cells #[.func (.func 45) #[] #[], .func (.func 46) #[] #[]] 54))) (a := ⟨w.heap.size, 0, none⟩) (v := .func (.func 45) #[] #[]) (by simp [go_sem])
  have t1 := cells_re3 (w := (w.alloc (.cells #[.func (.func 45) #[] #[], .func (.func 46) #[] #[]] 54))) (a := ⟨w.heap.size, 1, none⟩) (v := .func (.func 46) #[] #[]) (by simp [go_sem])
  have HBR : Hid (∀ d os, Below w.heap.size w (grow (redrawn (w.alloc (.cells #[.func (.func 45) #[] #[], .func (.func 46) #[] #[]] 54)) d) os)) := fun d os => (bel1 _ _).trans ((below_regrown _ d os).mono (by simp))
  have HBX : Hid (∀ d os, Below (w.alloc (.cells #[.func (.func 45) #[] #[], .func (.func 46) #[] #[]] 54)).heap.size (w.alloc (.cells #[.func (.func 45) #[] #[], .func (.func 46) #[] #[]] 54)) (grow (redrawn (w.alloc (.cells #[.func (.func 45) #[] #[], .func (.func 46) #[] #[]] 54)) d) os)) := fun d os => below_regrown _ d os
  clear ht hS0 hp he hk hok hit hf hfi hone htc c0 c1 hR hnpM
  obtain ⟨ps, hps⟩ : ∃ ps, pl ts f a ts[a].1 M = ps := ⟨_, rfl⟩
  have HPS : Hid (pl ts f a ts[a].1 M = ps) := hps
  rw [hps] at HSD HLE HPT
  clear hps
  generalize hkE : ts[a].1 = k at r0 HTC HF
  generalize ts[a].2 = n at r1 HTC HF
  clear hkE
  go_enter Tryz.func142, Tryz.ntmps142
  go_wp2_with fail
  refine wp_region_quiet_below (by kernel_rfl) (by kernel_rfl) ?_
  repeat (go_big_quiet_step (exact Calls.regrown_of (HTC.out _ (HBR.out _ _))))
  refine wpQuiet_nil ?_
  intro w1 hw'
  obtain ⟨⟨dq, osq⟩, hw''⟩ := hw'
  have HB1 : Hid (Below w.heap.size w w1) := by rw [hw'']; exact HBR.out _ _
  have hlt1 : w.heap.size < w1.heap.size := by rw [hw'']; exact Nat.lt_of_lt_of_le (by simp) (HBX.out dq osq).size
  have x0 : w1.cell? ⟨u, 0, none⟩ = some (.int .i64 k) := by rw [hw'']; exact r0 _ _
  have x1 : w1.cell? ⟨u, 1, none⟩ = some (.int .i64 n) := by rw [hw'']; exact r1 _ _
  have y0 : w1.cell? ⟨w.heap.size, 0, none⟩ = some (.func (.func 45) #[] #[]) := by rw [hw'']; exact t0 _ _
  have y1 : w1.cell? ⟨w.heap.size, 1, none⟩ = some (.func (.func 46) #[] #[]) := by rw [hw'']; exact t1 _ _
  clear hw'' r0 r1 t0 t1
  go_wp2_with fail
  refine (HF.out _).mono ?_
  rintro e w2 ⟨rfl, hb2⟩
  have HB2 : Hid (Below w.heap.size w w2) := HB1.out.trans (hb2.mono HB1.out.size)
  have hlt2 : w.heap.size < w2.heap.size := by have := hb2.size; omega
  have Y0 : Hid (w2.cell? ⟨w.heap.size, 0, none⟩ = some (.func (.func 45) #[] #[])) := by show _ = _; rw [hb2.cell (p := ⟨w.heap.size, 0, none⟩) hlt1]; exact y0
  have Y1 : Hid (w2.cell? ⟨w.heap.size, 1, none⟩ = some (.func (.func 46) #[] #[])) := by show _ = _; rw [hb2.cell (p := ⟨w.heap.size, 1, none⟩) hlt1]; exact y1
  have HST : Hid (TsInv getSize ts f b.data.toList h0 u w2.heap.size S0 ps w (w2.alloc (.cells #[.pointer (some ⟨u, 0, none⟩), .slice none 0 0] 152)) 0 h0 (.slice none 0 0) [] []) := TsInv.start HB2.out
  have HBY : Hid (Below w2.heap.size w2 (w2.alloc (.cells #[.pointer (some ⟨u, 0, none⟩), .slice none 0 0] 152))) := bel1 _ _
  clear hb2 x0 x1 y0 y1
  go_wp2_with fail
  go_loopg [10, 42] M (fun gk v2 i wr => ∃ (j m : Nat) (vv : Value) (ys : List Value) (ls : List (List It)), j + gk = M ∧ i = .int .u64 j ∧ v2 = .string (b.extract m b.size) ∧ Below w2.heap.size w2 wr ∧ TsInv getSize ts f b.data.toList h0 u w2.heap.size S0 ps w wr j m vv ys ls)
  case atStart => exact ⟨0, h0, _, [], [], by omega, rfl, by rw [HEXR.out], HBY.out, HST.out⟩
  case round =>
    obtain ⟨j, m, vv, ys, ls, hj', rfl, rfl, hby, hse⟩ := hrel
    have HJ : Hid (j + gk = M) := hj'
    have hj : j ≤ M := by omega
    have HSE : Hid (TsInv getSize ts f b.data.toList h0 u w2.heap.size S0 ps w wr j m vv ys ls) := hse
    have HBW : Hid (Below w2.heap.size w2 wr) := hby
    have hnl : w2.heap.size < wr.heap.size := blk_lt hse.node
    have hm : m ≤ b.size := HLE.out j m ls hse.pos hj
    have z0 : wr.cell? ⟨w.heap.size, 0, none⟩ = some (.func (.func 45) #[] #[]) := by rw [hby.cell (p := ⟨w.heap.size, 0, none⟩) hlt2]; exact Y0.out
    have z1 : wr.cell? ⟨w.heap.size, 1, none⟩ = some (.func (.func 46) #[] #[]) := by rw [hby.cell (p := ⟨w.heap.size, 1, none⟩) hlt2]; exact Y1.out
    clear hj' hby
    by_cases hjM : j < M
    · have HRJ : Hid ((b.extract m b.size).data.toList = b.data.toList.drop m) := ex_list b m
      have HXJ : Hid (∀ q, (b.extract m b.size).extract q (b.extract m b.size).size = b.extract (m + q) b.size) := fun q => ex_ex b m q
      have hRJ : (b.extract m b.size).size ≤ 1048576 := by rw [ex_sz]; omega
      have HRZ : Hid ((b.extract m b.size).size = b.size - m) := ex_sz b m
      obtain ⟨RJ, hRJE⟩ : ∃ RJ, b.extract m b.size = RJ := ⟨_, rfl⟩
      rw [hRJE] at HRJ HXJ hRJ HRZ ⊢
      clear hse hRJE
      have HS0 : Hid (wr.cell? ⟨w.heap.size, 0, none⟩ = some (.func (.func 45) #[] #[]) ∧ wr.cell? ⟨w.heap.size, 1, none⟩ = some (.func (.func 46) #[] #[])) := ⟨z0, z1⟩
      have hwN : w.heap.size < wr.heap.size := by omega
      cases hsc : scD getSize ts f (ps j) (b.data.toList.drop m) with
      | none =>
        have HSC : Hid (scD getSize ts f (ps j) RJ.data.toList = none) := by show _ = _; rw [HRJ.out]; exact hsc
        have HNO : Hid (scD getSize ts (f + 1) a b.data.toList = none) := by
          show _ = _
          rw [HSD.out, partsD_none (j := j + 1) (by rw [partsD_succ, HSE.out.pos]; simp [hsc]) M (by omega)]; rfl
        have HTK : Hid (∀ c w', Below wr.heap.size wr w' → TreeAt ts f w' S0 c (ps j) → Calls Tryz.prog 138 #[.agg #[.func (.func 45) #[] #[], .func (.func 46) #[] #[]], .pointer (some ⟨c, 0, none⟩), .string RJ] w' fun e w'' => (∃ x y, e = .returned (.tuple #[x, .string y, .iface T z])) ∧ Below w'.heap.size w' w'') := fun c w' hbw htc => by
          have hbb : Below w.heap.size w w' := HSE.out.bel.trans (hbw.mono HSE.out.bel.size)
          refine (HP.out (ps j) c S0 RJ w' htc (fun c hc => by have := HS.out c hc; have := hbb.size; omega) hRJ (HE.out.below hbb)).mono ?_
          rintro e w3 ⟨hb3, ⟨_, x, y, _, rfl⟩ | ⟨l, q, T', y, hsd, _⟩⟩
          · exact ⟨⟨x, y, rfl⟩, hb3⟩
          · rw [HSC.out] at hsd; cases hsd
        clear hsc
        go_wp2_with fail
        go_region_held3 (fun W => W.cell? ⟨w.heap.size, 0, none⟩ = some (.func (.func 45) #[] #[]) ∧ W.cell? ⟨w.heap.size, 1, none⟩ = some (.func (.func 46) #[] #[])) (first | exact HS0.out | exact HS3.out | exact HS4.out) (first
          | (go_at_call 100; refine (HPT.out j _ hjM (HSE.out.bel.trans ((Below.drew (Below.refl _ _)).mono HSE.out.bel.size))).mono ?_; rintro e w3 ⟨⟨c, rfl, htc⟩, rfl⟩; have HTC3 : Hid _ := htc; have HS3 : Hid _ := HS0.out; clear htc)
          | (go_at_call 138; refine (HTK.out c _ (Below.drew (Below.refl _ _)) HTC3.out).mono ?_; rintro e w4 ⟨⟨x, y, rfl⟩, hb4⟩; have HB4 : Hid (Below w.heap.size w w4) := HSE.out.bel.trans (((Below.drew (Below.refl _ _)).trans hb4).mono HSE.out.bel.size); have HS4 : Hid _ := And.intro (((Below.drew (Below.refl _ _)).trans hb4).cell (p := ⟨w.heap.size, 0, none⟩) hwN |>.trans HS0.out.1) (((Below.drew (Below.refl _ _)).trans hb4).cell (p := ⟨w.heap.size, 1, none⟩) hwN |>.trans HS0.out.2); clear hb4))
        all_goals
          go_wp2_with fail
          go_ret3
          exact ⟨HB4.out, .inl ⟨HNO.out, _, _, .inl rfl, rfl⟩⟩
      | some lq =>
        obtain ⟨l, q⟩ := lq
        have HSC : Hid (scD getSize ts f (ps j) RJ.data.toList = some (l, q)) := by show _ = _; rw [HRJ.out]; exact hsc
        have HSD2 : Hid (scD getSize ts f (ps j) (b.data.toList.drop m) = some (l, q)) := hsc
        have HTK : Hid (∀ c w', Below wr.heap.size wr w' → TreeAt ts f w' S0 c (ps j) → Calls Tryz.prog 138 #[.agg #[.func (.func 45) #[] #[], .func (.func 46) #[] #[]], .pointer (some ⟨c, 0, none⟩), .string RJ] w' fun e w'' => (∃ T' y, e = .returned (.tuple #[.iface T' y, .string (b.extract (m + q) b.size), .nilIface]) ∧ DAt ts f w'' (fun c => S0 c ∨ (wr.heap.size ≤ c ∧ c < w''.heap.size)) (.iface T' y) (ps j) l) ∧ Below w'.heap.size w' w'') := fun c w' hbw htc => by
          have hbb : Below w.heap.size w w' := HSE.out.bel.trans (hbw.mono HSE.out.bel.size)
          refine (HP.out (ps j) c S0 RJ w' htc (fun c hc => by have := HS.out c hc; have := hbb.size; omega) hRJ (HE.out.below hbb)).mono ?_
          rintro e w3 ⟨hb3, ⟨hsd, _⟩ | ⟨l1, q1, T', y, hsd, _, rfl, hd⟩⟩
          · rw [HSC.out] at hsd; cases hsd
          · rw [HSC.out] at hsd
            simp only [Option.some.injEq, Prod.mk.injEq] at hsd
            obtain ⟨rfl, rfl⟩ := hsd
            exact ⟨⟨T', y, by rw [HXJ.out], hd.keep (fun c hc => hc.imp id (fun h => ⟨by have := hbw.size; omega, h.2⟩)) (fun _ _ => rfl)⟩, hb3⟩
        clear hsc
        go_wp2_with fail
        go_region_held3 (fun W => W.cell? ⟨w.heap.size, 0, none⟩ = some (.func (.func 45) #[] #[]) ∧ W.cell? ⟨w.heap.size, 1, none⟩ = some (.func (.func 46) #[] #[])) (first | exact HS0.out | exact HS3.out | exact HS4.out) (first
          | (go_at_call 100; refine (HPT.out j _ hjM (HSE.out.bel.trans ((Below.drew (Below.refl _ _)).mono HSE.out.bel.size))).mono ?_; rintro e w3 ⟨⟨c, rfl, htc⟩, rfl⟩; have HTC3 : Hid _ := htc; have HS3 : Hid _ := HS0.out; clear htc)
          | (go_at_call 138; refine (HTK.out c _ (Below.drew (Below.refl _ _)) HTC3.out).mono ?_; rintro e w4 ⟨⟨T', y, rfl, hd⟩, hb4⟩; have HD4 : Hid _ := hd; have HB4 : Hid (Below wr.heap.size wr w4) := (Below.drew (Below.refl _ _)).trans hb4; have HS4 : Hid _ := And.intro (((Below.drew (Below.refl _ _)).trans hb4).cell (p := ⟨w.heap.size, 0, none⟩) hwN |>.trans HS0.out.1) (((Below.drew (Below.refl _ _)).trans hb4).cell (p := ⟨w.heap.size, 1, none⟩) hwN |>.trans HS0.out.2); clear hb4 hd))
        all_goals
          have HVA : Hid (DAt ts f w4 (fun c => S0 c ∨ (wr.heap.size ≤ c ∧ c < w4.heap.size)) (.iface T' y) (ps j) l) := HD4.out
          have hN3 : w4.heap[w2.heap.size]? = some (.cells #[.pointer (some ⟨u, 0, none⟩), vv] 152 (0, 0)) := (HB4.out.block _ hnl).trans HSE.out.node
          have HN3 : Hid (w4.heap[w2.heap.size]? = some (.cells #[.pointer (some ⟨u, 0, none⟩), vv] 152 (0, 0))) := hN3
          have n1 : w4.cell? ⟨w2.heap.size, 1, none⟩ = some vv := by rw [cell_of_row w4 _ 1 _ _ _ hN3]; simp
          have HR3 : Hid (w4.ownsRow (w2.heap.size + 1) 74 1 vv j ys) := HSE.out.row.kept (gb_bel HB4.out) (by cases vv.ownBlock <;> simp)
          have hs3 : w2.heap.size < w4.heap.size := by have := HB4.out.size; omega
          clear hN3 z0 z1
          go_wp2_with (at_builtin; refine wpList_append_lies _ rfl _ _ 127 rfl (w2.heap.size + 1) 74 i0 .nilIface 1 16 Tryz.underlying127 hi hz0 hz1 hz2 rfl (by decide) vv j _ rfl (HR3.out.alloc _) ⟨w4.heap.size, 0, none⟩ 1 1 [.iface T' y] rfl rfl ?c1 ?c2 (by omega) ?c3 ?c4 ?c5 (w4.heap.size + 1) (by simp) ?_)
          case c1 =>
            intro i u hi
            match i, hi with
            | 0, hi => simp at hi; subst hi; simp [Addr.add]
          case c2 => intro u hu; simp at hu; subst hu; rfl
          case c3 => unfold maxLen; omega
          case c4 => omega
          case c5 => simp; omega
          intro g cap' w5 hown' hgrow hat hlt'
          have hNo : some w2.heap.size ≠ vv.ownBlock := fun e => by have := HR3.out.lt _ e.symm; omega
          have hN4 : w5.heap[w2.heap.size]? = some (.cells #[.pointer (some ⟨u, 0, none⟩), vv] 152 (0, 0)) := by rw [hgrow.block _ (by simp; omega) hNo, Below.heap_alloc _ _ _ hs3]; exact HN3.out
          have m1 : w5.cell? ⟨w2.heap.size, 1, none⟩ = some vv := by rw [cell_of_row w5 _ 1 _ _ _ hN4]; simp
          have f1 : w5.frozen? ⟨w2.heap.size, 1, none⟩ = false := by simp [World.frozen?, hN4]
          have HQ : Hid (TsInv getSize ts f b.data.toList h0 u w2.heap.size S0 ps w (w5.setCell ⟨w2.heap.size, 1, none⟩ (.slice (some ⟨g, 0, none⟩) (j + 1) cap')) (j + 1) (m + q) (.slice (some ⟨g, 0, none⟩) (j + 1) cap') (ys ++ [.iface T' y]) (ls ++ [l])) :=
            HSE.out.next HS.out HB4.out rfl HVA.out HSD2.out hgrow hat hlt' hown'
          have HBQ : Hid (Below w2.heap.size w2 (w5.setCell ⟨w2.heap.size, 1, none⟩ (.slice (some ⟨g, 0, none⟩) (j + 1) cap'))) := by
            have b1 : Below w2.heap.size w2 w4 := HBW.out.trans (HB4.out.mono HBW.out.size)
            have b2 := b1.alloc (by have := b1.size; omega) (.cells #[.iface T' y] 74)
            have b3 := b2.grown hgrow (by have := b2.size; omega) (fun q hq => by have := HR3.out.lt q hq; omega)
            exact b3.setCell (p := ⟨w2.heap.size, 1, none⟩) (Nat.le_refl _) _
          clear hown' hgrow hat hlt' hN4 hNo n1
          go_wp2_with fail
          go_roundg (gk - 1)
          case rel => exact ⟨j + 1, m + q, _, ys ++ [.iface T' y], ls ++ [l], by have := HJ.out; omega, by go_num, rfl, HBQ.out, HQ.out⟩
          case measure => have := HJ.out; omega
    · have e1 : j = M := by omega
      obtain ⟨n0, n1⟩ := (⟨by rw [cell_of_row wr _ 0 _ _ _ hse.node]; simp, by rw [cell_of_row wr _ 1 _ _ _ hse.node]; simp⟩ : wr.cell? ⟨w2.heap.size, 0, none⟩ = some (.pointer (some ⟨u, 0, none⟩)) ∧ wr.cell? ⟨w2.heap.size, 1, none⟩ = some vv)
      have hform : ∃ ad cap, vv = .slice ad M cap ∧ M ≤ cap ∧ cap ≤ maxLen ∧ (M = 0 ∨ ∃ g, ad = some ⟨g, 0, none⟩ ∧ w2.heap.size < g ∧ g < wr.heap.size ∧ ∀ i (h : i < ys.length), wr.cell? ⟨g, i, none⟩ = some ys[i]) := by
        rcases hse.row.2 with ⟨hv, h0⟩ | ⟨g, cap, cur, hv, hg, hh, h1, h2, h3, h4⟩
        · have e0 : M = 0 := by omega
          exact ⟨none, 0, by rw [hv, e0], by omega, by simp [maxLen], .inl e0⟩
        · refine ⟨_, cap, by rw [hv, e1], by omega, h2, .inr ⟨g, rfl, by omega, blk_lt hh, fun i hi => ?_⟩⟩
          have hl := hse.len
          rw [cell_of_row wr g i cur _ _ hh]
          have : ys[i]? = cur.toList[i]? := by rw [← h4, List.getElem?_take, if_pos (by omega)]
          rw [List.getElem?_eq_getElem hi] at this
          simpa using this.symm
      obtain ⟨ad, cap, rfl, q1, q2, q3⟩ := hform
      have hll := partsD_len hse.pos
      have hfin : DAt ts (f + 1) wr (fun c => S0 c ∨ (w.heap.size ≤ c ∧ c < wr.heap.size)) (.iface 152 (.agg #[.pointer (some ⟨u, 0, none⟩), .slice ad M cap])) a (⟨ts[a].1, M, ⟨#[]⟩⟩ :: ls.flatten) := by
        refine ⟨u, ⟨ts[a].1, M, ⟨#[]⟩⟩, ha, (HT.out.bel HS.out hse.bel).keep (fun c hc => .inl hc) (fun _ _ => rfl), HFI.out, by show M < _; omega, .inr (.inr (.inl ⟨HKK.out, ad, cap, ls, rfl, by rw [hll, e1], rfl, q1, q2, ?_⟩))⟩
        rcases q3 with q3 | ⟨g, hg, g1, g2, g3⟩
        · exact .inl q3
        · refine .inr ⟨g, hg, .inr ⟨by have := hse.low; omega, g2⟩, fun i hi => ?_⟩
          have hi' : i < ys.length := by rw [hse.len]; omega
          have hp2 := hse.kin i hi' hi
          show ∃ y, _ ∧ DAt ts f wr _ y (pl ts f a ts[a].1 M i) _
          rw [HPS.out]
          exact ⟨ys[i], g3 i hi', hp2.keep (fun c hc => hc.imp id (fun ⟨r1, r2, _⟩ => ⟨by have := hse.low; omega, r2⟩)) (fun _ _ => rfl)⟩
      have HFIN : Hid (DAt ts (f + 1) wr (fun c => S0 c ∨ (w.heap.size ≤ c ∧ c < wr.heap.size)) (.iface 152 (.agg #[.pointer (some ⟨u, 0, none⟩), .slice ad M cap])) a (⟨ts[a].1, M, ⟨#[]⟩⟩ :: ls.flatten)) := hfin
      have HVE : Hid (scD getSize ts (f + 1) a b.data.toList = some (⟨ts[a].1, M, ⟨#[]⟩⟩ :: ls.flatten, m)) := by show _ = _; rw [HSD.out, ← e1, hse.pos, e1]; rfl
      have HMS : Hid (m ≤ b.size) := hm
      clear hfin q3 hse e1 z0 z1 hll
      go_wp2_with fail
      go_ret3
      exact ⟨HSE.out.bel, .inr ⟨_, m, _, _, HVE.out, HMS.out, rfl, HFIN.out⟩⟩
end Go.Proofs.YtichgnddbnibjaaGreatDoor
namespace Go.Proofs.YtichgnddbnibjaaGreatDoor
open Go.RowKit Go.Sort
set_option linter.unusedVariables false
theorem TkPost.up {get : List UInt8 → Nat × Nat × Bool} {T : TypeId} {z : Value} {ts : List (Int × Int)} {f a : Nat} {S0 : Nat → Prop} {b : ByteArray} {w w1 : World} {e : Ending} {w' : World} (hb : Below w.heap.size w w1) (h : TkPost get T z ts f a S0 b w1 e w') : TkPost get T z ts f a S0 b w e w' := by
  obtain ⟨h1, h2⟩ := h
  refine ⟨hb.trans (h1.mono hb.size), h2.imp id ?_⟩
  rintro ⟨l, m, T', y, q1, q2, q3, q4⟩
  exact ⟨l, m, T', y, q1, q2, q3, q4.keep (fun c hc => hc.imp id (fun h => ⟨by have := hb.size; omega, h.2⟩)) (fun _ _ => rfl)⟩
theorem TkPost.form {get : List UInt8 → Nat × Nat × Bool} {T : TypeId} {z : Value} {ts : List (Int × Int)} {f a : Nat} {S0 : Nat → Prop} {b : ByteArray} {w : World} {e : Ending} {w' : World} (h : TkPost get T z ts f a S0 b w e w') : ∃ x y er, e = .returned (.tuple #[x, .string y, er]) := by
  obtain ⟨_, ⟨_, x, y, _, h⟩ | ⟨l, m, T', y, _, _, h, _⟩⟩ := h
  · exact ⟨_, _, _, h⟩
  · exact ⟨_, _, _, h⟩
theorem takeBytes_any_bc (T : TypeId) (z : Value) (ts : List (Int × Int)) (f a u : Nat) (S0 : Nat → Prop) (b : ByteArray) (w : World) (ht : TreeAt ts (f + 1) w S0 u a) (hS0 : ∀ c, S0 c → c < w.heap.size) (ha : a < ts.length) (hk : ts[a].1 = 3 ∨ ts[a].1 = 4) (hb : b.size ≤ 1048576) (he : EFv T z w) :
    Calls Tryz.prog 140 #[.agg #[.func (.func 45) #[] #[], .func (.func 46) #[] #[]], .pointer (some ⟨u, 0, none⟩), .string b] w fun e w' => TkPost getSize T z ts (f + 1) a S0 b w e w' := by
  obtain ⟨_, e0, ad0, cap0, hok, hit, hu, c0, c1, _⟩ := ht.openT
  have hul := hS0 u hu
  have hll := lst_len b
  have hn200 : 0 ≤ ts[a].2 ∧ ts[a].2 ≤ 200 := by have := hok; simp only [tyOk, decide_eq_true_eq] at this; omega
  have bad : scD getSize ts (f + 1) a b.data.toList = none → ∀ e w', ((∃ y, e = .returned (.tuple #[.nilIface, .string y, .iface T z])) ∧ Below w.heap.size w w') → TkPost getSize T z ts (f + 1) a S0 b w e w' := by
    rintro hno e w' ⟨⟨y, rfl⟩, hb2⟩
    exact ⟨hb2, .inl ⟨hno, _, _, .inl rfl, rfl⟩⟩
  have good : ∀ (h m : Nat), h + m ≤ b.size → oneD getSize ts[a].1 ts[a].2 b.data.toList = some (⟨ts[a].1, 0, (b.extract h b.size).extract 0 m⟩, h + m) → fitsS ts[a].1 ts[a].2 m = true → ∀ e w', (e = .returned (.tuple #[.iface 138 (.agg #[.pointer (some ⟨u, 0, none⟩), .string ((b.extract h b.size).extract 0 m)]), .string ((b.extract h b.size).extract m (b.extract h b.size).size), .nilIface]) ∧ Below w.heap.size w w') → TkPost getSize T z ts (f + 1) a S0 b w e w' := by
    rintro h m hhm hone hfs e w' ⟨rfl, hb2⟩
    have hsz : ((b.extract h b.size).extract 0 m).size = m := by rw [extract_size _ _ (by rw [ex_sz]; omega)]
    have hfi : fitsI ts[a].1 ts[a].2 ⟨ts[a].1, 0, (b.extract h b.size).extract 0 m⟩ = true := by rw [fitsI_str hk, hsz]; exact hfs
    refine ⟨hb2, .inr ⟨_, h + m, _, _, scD_leaf ha hone hfi (by unfold np; rw [if_neg (by omega), if_neg (by omega)]), hhm, by rw [ex_ex], ?_⟩⟩
    exact ⟨u, ⟨ts[a].1, 0, (b.extract h b.size).extract 0 m⟩, ha, (ht.bel hS0 hb2).keep (fun c hc => .inl hc) (fun _ _ => rfl), hfi, by show (0 : Nat) < _; omega, .inr (.inl ⟨hk, rfl, rfl⟩)⟩
  rcases hk with hk3 | hk4
  · cases hg2 : (getSize b.data.toList).2.2 with
    | false =>
      have hno : scD getSize ts (f + 1) a b.data.toList = none := scD_no ha (by unfold oneD; rw [if_neg (by omega), if_pos hk3, if_neg (by rw [hg2]; simp)])
      exact (takeBytes_err_bc u _ _ b w c0 c1 hul T z (fun w' hbw => takeCount_no_bc _ _ b w' (.inl hk3) hb hg2 T z (he.below hbw))).mono (bad hno)
    | true =>
      obtain ⟨m, h, hg⟩ : ∃ m h, getSize b.data.toList = (m, h, true) := ⟨_, _, by rw [← hg2]⟩
      obtain ⟨b1, b2, b3⟩ := cntGet_bc.back _ _ _ hg
      rw [hll] at b2
      have htc : ∀ w', Below w.heap.size w w' → Calls Tryz.prog 143 #[.agg #[.func (.func 45) #[] #[], .func (.func 46) #[] #[]], .agg #[.int .i64 ts[a].1, .int .i64 ts[a].2], .string b] w' fun e w'' => e = .returned (.tuple #[.int .u64 m, .string (b.extract h b.size), .nilIface]) ∧ Below w'.heap.size w' w'' := fun w' hbw => takeCount_yes_bc _ _ m h b w' (.inl hk3) hb hg b2
      have hRs : (b.extract h b.size).size = b.size - h := ex_sz b h
      by_cases hm : (b.extract h b.size).size < m
      · have hno : scD getSize ts (f + 1) a b.data.toList = none := scD_no ha (by unfold oneD; rw [if_neg (by omega), if_pos hk3, hg, if_neg (by simp only [hll]; omega)])
        exact (takeBytes_short_bc u _ _ b w c0 c1 hul m _ (by omega) hm b3 T z he htc).mono (bad hno)
      · cases hf : fitsS ts[a].1 ts[a].2 m with
        | false =>
          have hmn : ¬ (m : Int) ≤ ts[a].2 := by
            unfold fitsS at hf
            rw [if_pos hk3] at hf
            exact of_decide_eq_false hf
          have hno : scD getSize ts (f + 1) a b.data.toList = none := scD_no ha (by unfold oneD; rw [if_neg (by omega), if_pos hk3, hg, if_neg (by simp only []; omega)])
          exact (takeBytes_long_bc u _ _ b w c0 c1 hul m _ hok (by omega) (by omega) hf T z he htc).mono (bad hno)
        | true =>
          have hmn : (m : Int) ≤ ts[a].2 := by
            unfold fitsS at hf
            rw [if_pos hk3] at hf
            exact of_decide_eq_true hf
          refine (takeBytes_yes_bc u m _ _ b _ w c0 c1 hul hok (by omega) (by omega) hf htc).mono (good h m (by omega) ?_ hf)
          unfold oneD
          rw [if_neg (by omega), if_pos hk3, hg, if_pos ⟨rfl, by simp only []; omega, by simp only [hll]; omega⟩]
          simp only [ex_mid]
  · obtain ⟨N, hN⟩ := Int.eq_ofNat_of_zero_le hn200.1
    have htc : ∀ w', Below w.heap.size w w' → Calls Tryz.prog 143 #[.agg #[.func (.func 45) #[] #[], .func (.func 46) #[] #[]], .agg #[.int .i64 ts[a].1, .int .i64 ts[a].2], .string b] w' fun e w'' => e = .returned (.tuple #[.int .u64 N, .string (b.extract 0 b.size), .nilIface]) ∧ Below w'.heap.size w' w'' := fun w' hbw => by
      rw [ex_zero, hN]
      exact takeCount_flat_bc _ N b w' (by omega) (by omega)
    have hRs : (b.extract 0 b.size).size = b.size := by rw [ex_zero]
    by_cases hm : (b.extract 0 b.size).size < N
    · have hno : scD getSize ts (f + 1) a b.data.toList = none := scD_no ha (by unfold oneD; rw [if_neg (by omega), if_neg (by omega), if_pos hk4, if_neg (by rw [hN, hll]; simp only [Int.toNat_natCast]; omega)])
      exact (takeBytes_short_bc u _ _ b w c0 c1 hul N _ (by omega) hm (by omega) T z he htc).mono (bad hno)
    · have hf : fitsS ts[a].1 ts[a].2 N = true := by
        unfold fitsS
        rw [if_neg (by omega), if_pos hk4, hN]
        simp
      refine (takeBytes_yes_bc u N _ _ b _ w c0 c1 hul hok (by omega) (by omega) hf htc).mono (good 0 N (by omega) ?_ hf)
      unfold oneD
      rw [if_neg (by omega), if_neg (by omega), if_pos hk4, if_pos (by rw [hN, hll]; simp only [Int.toNat_natCast]; omega), hN]
      simp only [Int.toNat_natCast, ex_head, ex_zero, Nat.zero_add]
theorem takeSeries_any_bc (T : TypeId) (z : Value) (ts : List (Int × Int)) (f : Nat) (hp : TkHyp_bc T z ts f) (a u : Nat) (S0 : Nat → Prop) (b : ByteArray) (w : World) (ht : TreeAt ts (f + 1) w S0 u a) (hS0 : ∀ c, S0 c → c < w.heap.size) (ha : a < ts.length) (hk : ts[a].1 = 5 ∨ ts[a].1 = 6 ∨ ts[a].1 = 7) (hb : b.size ≤ 1048576) (he : EFv T z w) :
    Calls Tryz.prog 142 #[.agg #[.func (.func 45) #[] #[], .func (.func 46) #[] #[]], .pointer (some ⟨u, 0, none⟩), .string b] w fun e w' => TkPost getSize T z ts (f + 1) a S0 b w e w' := by
  obtain ⟨_, e0, ad0, cap0, hok, hit, hu, c0, c1, _⟩ := ht.openT
  have hul := hS0 u hu
  have hll := lst_len b
  have hn200 : 0 ≤ ts[a].2 ∧ ts[a].2 ≤ 200 := by have := hok; simp only [tyOk, decide_eq_true_eq] at this; omega
  by_cases hk5 : ts[a].1 = 5
  · cases hg2 : (getSize b.data.toList).2.2 with
    | false =>
      have hno : scD getSize ts (f + 1) a b.data.toList = none := scD_no ha (by unfold oneD; rw [if_neg (by omega), if_neg (by omega), if_neg (by omega), if_pos hk5, if_neg (by rw [hg2]; simp)])
      exact takeSeries_err_bc T z ts f a u _ _ S0 b w c0 c1 hul hno (fun w' hbw => takeCount_no_bc _ _ b w' (.inr hk5) hb hg2 T z (he.below hbw))
    | true =>
      obtain ⟨m, h, hg⟩ : ∃ m h, getSize b.data.toList = (m, h, true) := ⟨_, _, by rw [← hg2]⟩
      obtain ⟨b1, b2, b3⟩ := cntGet_bc.back _ _ _ hg
      rw [hll] at b2
      have htc : ∀ w', Below w.heap.size w w' → Calls Tryz.prog 143 #[.agg #[.func (.func 45) #[] #[], .func (.func 46) #[] #[]], .agg #[.int .i64 ts[a].1, .int .i64 ts[a].2], .string b] w' fun e w'' => e = .returned (.tuple #[.int .u64 m, .string (b.extract h b.size), .nilIface]) ∧ Below w'.heap.size w' w'' := fun w' hbw => takeCount_yes_bc _ _ m h b w' (.inr hk5) hb hg b2
      have hone : oneD getSize ts[a].1 ts[a].2 b.data.toList = some (⟨ts[a].1, m, ⟨#[]⟩⟩, h) := by unfold oneD; rw [if_neg (by omega), if_neg (by omega), if_neg (by omega), if_pos hk5, hg]; simp
      cases hf : fitsN ts[a].1 ts[a].2 m with
      | false =>
        exact takeSeries_bad_bc T z ts f a u m _ _ _ S0 b w c0 c1 hul hok b3 hf he (scD_bad ha hone (by rw [fitsI_num (by omega) (by omega)]; exact hf)) htc
      | true => exact takeSeries_yes_bc T z ts f hp a u m h _ S0 b w ht hS0 ha hk hb he hone b2 rfl hf htc
  · obtain ⟨N, hN⟩ := Int.eq_ofNat_of_zero_le hn200.1
    have htc : ∀ w', Below w.heap.size w w' → Calls Tryz.prog 143 #[.agg #[.func (.func 45) #[] #[], .func (.func 46) #[] #[]], .agg #[.int .i64 ts[a].1, .int .i64 ts[a].2], .string b] w' fun e w'' => e = .returned (.tuple #[.int .u64 N, .string b, .nilIface]) ∧ Below w'.heap.size w' w'' := fun w' hbw => by
      rw [hN]
      exact takeCount_flat_bc _ N b w' (by omega) (by omega)
    have hone : oneD getSize ts[a].1 ts[a].2 b.data.toList = some (⟨ts[a].1, N, ⟨#[]⟩⟩, 0) := by unfold oneD; rw [if_neg (by omega), if_neg (by omega), if_neg (by omega), if_neg hk5, hN]; rfl
    have hf : fitsN ts[a].1 ts[a].2 N = true := by
      unfold fitsN
      rw [if_neg (by omega), if_neg (by omega), if_neg (by omega), if_pos (by omega), hN]
      simp
    exact takeSeries_yes_bc T z ts f hp a u N 0 _ S0 b w ht hS0 ha hk hb he hone (by omega) (ex_zero b).symm hf htc
set_option maxRecDepth 100000 in
set_option maxHeartbeats 4000000 in
theorem take_num_bc (T : TypeId) (z : Value) (ts : List (Int × Int)) (f a u : Nat) (S0 : Nat → Prop) (b : ByteArray) (w : World) (ht : TreeAt ts (f + 1) w S0 u a) (hS0 : ∀ c, S0 c → c < w.heap.size) (ha : a < ts.length) (hk : ts[a].1 = 1 ∨ ts[a].1 = 2) (hb : b.size ≤ 1048576) (he : EFv T z w) :
    Calls Tryz.prog 138 #[.agg #[.func (.func 45) #[] #[], .func (.func 46) #[] #[]], .pointer (some ⟨u, 0, none⟩), .string b] w fun e w' => TkPost getSize T z ts (f + 1) a S0 b w e w' := by
  obtain ⟨_, e0, ad0, cap0, hok, hit, hu, c0, c1, _⟩ := ht.openT
  have hul := hS0 u hu
  have hkk : ts[a].1 = 1 ∨ ts[a].1 = 2 ∨ ts[a].1 = 8 ∨ ts[a].1 = 9 := by omega
  have hll := lst_len b
  have HT : Hid (TreeAt ts (f + 1) w S0 u a) := ht
  have HS : Hid (∀ c, S0 c → c < w.heap.size) := hS0
  have HKK : Hid (ts[a].1 = 1 ∨ ts[a].1 = 2) := hk
  have r0 := cells_re3 (cell_1i c0 hul (.cells #[.func (.func 45) #[] #[], .func (.func 46) #[] #[]] 54))
  have r1 := cells_re3 (cell_1i c1 hul (.cells #[.func (.func 45) #[] #[], .func (.func 46) #[] #[]] 54))
  have s0 := cell_1i c0 hul (.cells #[.func (.func 45) #[] #[], .func (.func 46) #[] #[]] 54)
  have p0 := part00_re (heap_alloc_new w (.cells #[.func (.func 45) #[] #[], .func (.func 46) #[] #[]] 54))
  have HBR : Hid (∀ d os, Below w.heap.size w (grow (redrawn (w.alloc (.cells #[.func (.func 45) #[] #[], .func (.func 46) #[] #[]] 54)) d) os)) := fun d os => (bel1 _ _).trans ((below_regrown _ d os).mono (by simp))
  by_cases hn : b.size < wid ts[a].1 ts[a].2 ∨ fitsN ts[a].1 ts[a].2 (leV (b.data.toList.take (wid ts[a].1 ts[a].2))) = false
  · have HN : Hid (scD getSize ts (f + 1) a b.data.toList = none) := scD_numNo ha hkk (hn.imp (fun h => by rw [hll]; exact h) id)
    have HTN : Hid (∀ w', Below w.heap.size w w' → Calls Tryz.prog 139 #[.agg #[], .agg #[.int .i64 ts[a].1, .int .i64 ts[a].2], .string b] w' fun e w'' => e = .returned (.tuple #[.int .u64 0, .string ⟨#[]⟩, .iface T z]) ∧ Below w'.heap.size w' w'') := fun w' hbw => takeNumber_no _ _ b w' hok (by omega) hn T z (he.below hbw)
    clear ht hS0 he hkk hok hit hn c0 c1
    generalize ts[a].1 = k at r0 s0 HTN hk
    generalize ts[a].2 = n at r1 HTN
    rcases hk with rfl | rfl
    all_goals
      go_enter Tryz.func138, Tryz.ntmps138
      go_wp2_with fail
      refine wp_region_quiet_below (by kernel_rfl) (by kernel_rfl) ?_
      repeat (go_big_quiet_step (exact Calls.regrown_of (HTN.out _ (HBR.out _ _))))
      refine wpQuiet_nil ?_
      intro w1 hw'
      obtain ⟨⟨dq, osq⟩, hw''⟩ := hw'
      have HB1 : Hid (Below w.heap.size w w1) := by rw [hw'']; exact HBR.out _ _
      clear hw'' r0 r1 p0 s0
      go_wp2_with fail
      go_ret3
      exact ⟨HB1.out, .inl ⟨HN.out, .iface 136 (.agg #[.pointer (some ⟨u, 0, none⟩), .int .u64 0]), ⟨#[]⟩, .inr ⟨_, _, rfl⟩, rfl⟩⟩
  · have hl1 : wid ts[a].1 ts[a].2 ≤ b.size := by omega
    have hfn : fitsN ts[a].1 ts[a].2 (leV (b.data.toList.take (wid ts[a].1 ts[a].2))) = true := by
      cases h : fitsN ts[a].1 ts[a].2 (leV (b.data.toList.take (wid ts[a].1 ts[a].2))) with
      | true => rfl
      | false => exact absurd (.inr h) hn
    have HTN : Hid (∀ w', Below w.heap.size w w' → Calls Tryz.prog 139 #[.agg #[], .agg #[.int .i64 ts[a].1, .int .i64 ts[a].2], .string b] w' fun e w'' => e = .returned (.tuple #[.int .u64 (leV (b.data.toList.take (wid ts[a].1 ts[a].2)) : Nat), .string (b.extract (wid ts[a].1 ts[a].2) b.size), .nilIface]) ∧ Below w'.heap.size w' w'') := fun w' hbw => takeNumber_yes _ _ b w' hok (by omega) hl1 hfn
    have hone : oneD getSize ts[a].1 ts[a].2 b.data.toList = some (⟨ts[a].1, leV (b.data.toList.take (wid ts[a].1 ts[a].2)), ⟨#[]⟩⟩, wid ts[a].1 ts[a].2) := by
      rw [oneD_num hkk]
      exact if_pos (show wid ts[a].1 ts[a].2 ≤ b.data.toList.length by omega)
    have hm8 : leV (b.data.toList.take (wid ts[a].1 ts[a].2)) < 18446744073709551616 := by
      have hw8 := wid_le hok
      have h2 := leV_lt (b.data.toList.take (wid ts[a].1 ts[a].2))
      have h3 : (b.data.toList.take (wid ts[a].1 ts[a].2)).length ≤ 8 := by simp; omega
      have h4 : 2 ^ (8 * (b.data.toList.take (wid ts[a].1 ts[a].2)).length) ≤ 2 ^ 64 := Nat.pow_le_pow_right (by decide) (by omega)
      exact Nat.lt_of_lt_of_le h2 h4
    generalize leV (b.data.toList.take (wid ts[a].1 ts[a].2)) = m at *
    generalize wid ts[a].1 ts[a].2 = K at *
    have hfi : fitsI ts[a].1 ts[a].2 ⟨ts[a].1, m, ⟨#[]⟩⟩ = true := by rw [fitsI_num (by omega) (by omega)]; exact hfn
    have HN : Hid (scD getSize ts (f + 1) a b.data.toList = some ([⟨ts[a].1, m, ⟨#[]⟩⟩], K)) := scD_leaf ha hone hfi (by unfold np; rw [if_neg (by omega), if_neg (by omega)])
    have HFI : Hid (fitsI ts[a].1 ts[a].2 ⟨ts[a].1, m, ⟨#[]⟩⟩ = true) := hfi
    have HM8 : Hid (m < 18446744073709551616) := hm8
    clear ht hS0 he hkk hok hit hn c0 c1 hone hfi hfn
    generalize ts[a].1 = k at r0 s0 HTN hk
    generalize ts[a].2 = n at r1 HTN
    rcases hk with rfl | rfl
    all_goals
      go_enter Tryz.func138, Tryz.ntmps138
      go_wp2_with fail
      refine wp_region_quiet_below (by kernel_rfl) (by kernel_rfl) ?_
      repeat (go_big_quiet_step (exact Calls.regrown_of (HTN.out _ (HBR.out _ _))))
      refine wpQuiet_nil ?_
      intro w1 hw'
      obtain ⟨⟨dq, osq⟩, hw''⟩ := hw'
      have HB1 : Hid (Below w.heap.size w w1) := by rw [hw'']; exact HBR.out _ _
      clear hw'' r0 r1 p0 s0
      go_wp2_with fail
      go_ret3
      refine ⟨HB1.out, .inr ⟨_, K, _, _, HN.out, hl1, rfl, ?_⟩⟩
      exact ⟨u, ⟨ts[a].1, m, ⟨#[]⟩⟩, ha, (HT.out.bel HS.out HB1.out).keep (fun c hc => .inl hc) (fun _ _ => rfl), HFI.out, HM8.out, .inl ⟨HKK.out, rfl, rfl⟩⟩
set_option maxRecDepth 100000 in
set_option maxHeartbeats 4000000 in
theorem take_step_bc (T : TypeId) (z : Value) (ts : List (Int × Int)) (f : Nat) (hp : TkHyp_bc T z ts f) : TkHyp_bc T z ts (f + 1) := by
  intro a u S0 b w ht hS0 hb he
  obtain ⟨ha, e0, ad0, cap0, hok, hit, hu, c0, c1, _⟩ := ht.openT
  have hul := hS0 u hu
  by_cases hk12 : ts[a].1 = 1 ∨ ts[a].1 = 2
  · exact take_num_bc T z ts f a u S0 b w ht hS0 ha hk12 hb he
  · have s0 := cell_1i c0 hul (.cells #[.func (.func 45) #[] #[], .func (.func 46) #[] #[]] 54)
    have HB1 : Hid (Below w.heap.size w (w.alloc (.cells #[.func (.func 45) #[] #[], .func (.func 46) #[] #[]] 54))) := bel1 _ _
    have hS1 : ∀ w', Below w.heap.size w w' → ∀ c, S0 c → c < w'.heap.size := fun w' hbw c hc => Nat.lt_of_lt_of_le (hS0 c hc) hbw.size
    by_cases hk34 : ts[a].1 = 3 ∨ ts[a].1 = 4
    · have HC : Hid (∀ w', Below w.heap.size w w' → Calls Tryz.prog 140 #[.agg #[.func (.func 45) #[] #[], .func (.func 46) #[] #[]], .pointer (some ⟨u, 0, none⟩), .string b] w' fun e w'' => TkPost getSize T z ts (f + 1) a S0 b w' e w'') := fun w' hbw => takeBytes_any_bc T z ts f a u S0 b w' (ht.bel hS0 hbw) (hS1 w' hbw) ha hk34 hb (he.below hbw)
      clear ht hS0 hp he hok hit c0 c1 hS1 hk12
      generalize ts[a].1 = k at s0 hk34
      rcases hk34 with rfl | rfl
      all_goals
        go_enter Tryz.func138, Tryz.ntmps138
        go_wp2_with fail
        refine (HC.out _ HB1.out).mono ?_
        intro e w2 hpo
        obtain ⟨x, y, er, rfl⟩ := hpo.form
        have HPO : Hid (TkPost getSize T z ts (f + 1) a S0 b w (.returned (.tuple #[x, .string y, er])) w2) := hpo.up HB1.out
        clear hpo s0
        go_wp2_with fail
        go_ret3
        exact HPO.out
    · by_cases hk89 : ts[a].1 = 8 ∨ ts[a].1 = 9
      · have HC : Hid (∀ w', Below w.heap.size w w' → Calls Tryz.prog 141 #[.agg #[.func (.func 45) #[] #[], .func (.func 46) #[] #[]], .pointer (some ⟨u, 0, none⟩), .string b] w' fun e w'' => TkPost getSize T z ts (f + 1) a S0 b w' e w'') := fun w' hbw => takeChoice_bc T z ts f hp a u S0 b w' (ht.bel hS0 hbw) (hS1 w' hbw) ha hk89 hb (he.below hbw)
        clear ht hS0 hp he hok hit c0 c1 hS1 hk12 hk34
        generalize ts[a].1 = k at s0 hk89
        rcases hk89 with rfl | rfl
        all_goals
          go_enter Tryz.func138, Tryz.ntmps138
          go_wp2_with fail
          refine (HC.out _ HB1.out).mono ?_
          intro e w2 hpo
          obtain ⟨x, y, er, rfl⟩ := hpo.form
          have HPO : Hid (TkPost getSize T z ts (f + 1) a S0 b w (.returned (.tuple #[x, .string y, er])) w2) := hpo.up HB1.out
          clear hpo s0
          go_wp2_with fail
          go_ret3
          exact HPO.out
      · have hk567 : ts[a].1 = 5 ∨ ts[a].1 = 6 ∨ ts[a].1 = 7 := by simp only [tyOk, decide_eq_true_eq] at hok; omega
        have HC : Hid (∀ w', Below w.heap.size w w' → Calls Tryz.prog 142 #[.agg #[.func (.func 45) #[] #[], .func (.func 46) #[] #[]], .pointer (some ⟨u, 0, none⟩), .string b] w' fun e w'' => TkPost getSize T z ts (f + 1) a S0 b w' e w'') := fun w' hbw => takeSeries_any_bc T z ts f hp a u S0 b w' (ht.bel hS0 hbw) (hS1 w' hbw) ha hk567 hb (he.below hbw)
        clear ht hS0 hp he hok hit c0 c1 hS1 hk12 hk34 hk89
        generalize ts[a].1 = k at s0 hk567
        rcases hk567 with rfl | rfl | rfl
        all_goals
          go_enter Tryz.func138, Tryz.ntmps138
          go_wp2_with fail
          refine (HC.out _ HB1.out).mono ?_
          intro e w2 hpo
          obtain ⟨x, y, er, rfl⟩ := hpo.form
          have HPO : Hid (TkPost getSize T z ts (f + 1) a S0 b w (.returned (.tuple #[x, .string y, er])) w2) := hpo.up HB1.out
          clear hpo s0
          go_wp2_with fail
          go_ret3
          exact HPO.out
theorem take_bc (T : TypeId) (z : Value) (ts : List (Int × Int)) : ∀ f, TkHyp_bc T z ts f := by
  intro f
  induction f with
  | zero => intro a u S0 b w ht; exact ht.elim
  | succ f ih => exact take_step_bc T z ts f ih
end Go.Proofs.YtichgnddbnibjaaGreatDoor
