/- SNm, SNn: one text. -/
import Derived.Test.YtdncnjmlicdamaaDoorS4b
import Derived.Test.YtdncnjmlicdamaaDoorS3l
namespace Go.Proofs.YtdncnjmlicdamaaDoor
open Go.RowKit Go.Sort
set_option linter.unusedVariables false
/-- The text that is a mark. -/
def mkT (k : Nat) : ByteArray := ⟨(109 :: Lib.decDigits k).toArray⟩
def dgp (k : Nat) : List UInt8 := if k = 0 then [] else Lib.decDigits k
theorem dgp_step {k : Nat} (h : 0 < k) : dgp k = dgp (k / 10) ++ [UInt8.ofNat (48 + k % 10)] := by
  unfold dgp
  rw [if_neg (by omega)]
  by_cases h1 : k < 10
  · rw [if_pos (by omega), dec_lt10 h1, show k % 10 = k by omega]; rfl
  · rw [if_neg (by omega), dec_ge10 h1]
theorem dec_lenk : ∀ (j u : Nat), u < 10 ^ (j + 1) → (Lib.decDigits u).length ≤ j + 1
  | 0, u, h => by rw [dec_lt10 (by omega)]; simp
  | j + 1, u, h => by
    by_cases h1 : u < 10
    · rw [dec_lt10 h1]; simp
    · have := dec_lenk j (u / 10) (by rw [Nat.pow_succ] at h; omega)
      rw [dec_ge10 h1, List.length_append]; simp; omega
set_option maxRecDepth 100000 in
set_option maxHeartbeats 1000000 in
theorem markText_any (k : Nat) (w : World) (h1 : 1 ≤ k) (h2 : k < 10000000) : Calls Tryd.prog 20 #[.int .i64 k] w fun e w' => e = .returned (.string (mkT k)) ∧ Below w.heap.size w w' := by
  have HL : Hid ((dgp k).length ≤ 7) := by show _ ≤ _; unfold dgp; rw [if_neg (by omega)]; exact dec_lenk 6 _ (by omega)
  have HF : Hid (∀ S : ByteArray, S.data.toList = dgp k → (⟨#[109]⟩ : ByteArray) ++ S = mkT k) := fun S hS => by
    unfold mkT
    apply str_of
    rw [cat_dl, hS]
    unfold dgp
    rw [if_neg (by omega)]
    rfl
  have hk : ¬ (k : Int) ≤ 0 := by omega
  go_enter Tryd.func20, Tryd.ntmps20
  go_wp2_with fail
  go_loopg [0, 3] k (fun gk m s wr => ∃ S : ByteArray, m = .int .i64 (gk : Nat) ∧ s = .string S ∧ gk ≤ k ∧ dgp k = dgp gk ++ S.data.toList ∧ Below w.heap.size w wr)
  case atStart => exact ⟨⟨#[]⟩, rfl, rfl, Nat.le_refl _, by simp, Below.refl _ _⟩
  case round =>
    obtain ⟨S, rfl, rfl, hle, hd, hb⟩ := hrel
    have HD : Hid (dgp k = dgp gk ++ S.data.toList) := hd
    have HB : Hid (Below w.heap.size w wr) := hb
    have hS : S.size ≤ 7 := by have h1 := HL.out; rw [hd, List.length_append] at h1; have : S.data.toList.length = S.size := Array.length_toList; omega
    have hsz := hb.size
    clear hd hb
    by_cases hg : gk = 0
    · have HE : Hid ((⟨#[109]⟩ : ByteArray) ++ S = mkT k) := HF.out S (by rw [HD.out, hg]; simp [dgp])
      subst hg
      go_wp2_with fail
      go_ret
      exact ⟨by rw [← HE.out]; first | rfl | simp, HB.out⟩
    · have hp : (0 : Int) < (gk : Int) := by omega
      have hc := conv1 wr (48 + gk % 10) (48 + (gk : Int) % 10) (by omega) (by omega)
      obtain ⟨B, hB⟩ : ∃ B, UInt8.ofNat (48 + gk % 10) = B := ⟨_, rfl⟩
      rw [hB] at hc
      have HE : Hid (dgp k = dgp (gk / 10) ++ ((⟨#[B]⟩ : ByteArray) ++ S).data.toList) := by
        show _ = _
        rw [cat_dl, HD.out, dgp_step (by omega), hB]
        simp [List.append_assoc]
      clear hB
      go_wp2_with fail
      go_roundg (gk / 10)
      case rel => exact ⟨_, by first | rfl | go_num, rfl, by omega, HE.out, HB.out.alloc (by omega) _⟩
      case measure => omega
/-- A row of items of which the first j bear their marks. -/
def MkIt (k n : Nat) (w : World) (g j : Nat) : Prop := ∃ cs : Array Value, w.heap[g]? = some (.cells cs 54 (0, 0)) ∧ n * 3 ≤ cs.size ∧
  (∀ i, i < j → cs[i * 3]? = some (.int .i64 ((k + 3 * i : Nat) : Int)) ∧ cs[i * 3 + 1]? = some (.int .u64 ((k + 3 * i + 1 : Nat) : Int)) ∧ cs[i * 3 + 2]? = some (.string (mkT (k + 3 * i + 2)))) ∧
  ∀ i, i < n → (∃ z, cs[i * 3]? = some (.int .i64 z)) ∧ (∃ z, cs[i * 3 + 1]? = some (.int .u64 z)) ∧ ∃ z, cs[i * 3 + 2]? = some (.string z)
theorem MkIt.cell {k n g j : Nat} {w : World} (h : MkIt k n w g j) {i : Nat} (hi : i < n) : ((∃ z, w.cell? ⟨g, i * 3, none⟩ = some (.int .i64 z)) ∧ (∃ z, w.cell? ⟨g, i * 3 + 1, none⟩ = some (.int .u64 z)) ∧ ∃ z, w.cell? ⟨g, i * 3 + 2, none⟩ = some (.string z)) ∧ ∀ m, w.frozen? ⟨g, m, none⟩ = false := by
  obtain ⟨cs, h1, h2, h3, h4⟩ := h
  obtain ⟨a, b, c⟩ := h4 i hi
  refine ⟨⟨?_, ?_, ?_⟩, fun m => by simp [World.frozen?, h1]⟩
  · obtain ⟨z, hz⟩ := a; exact ⟨z, by rw [cell_of_row w g _ cs _ _ h1]; exact hz⟩
  · obtain ⟨z, hz⟩ := b; exact ⟨z, by rw [cell_of_row w g _ cs _ _ h1]; exact hz⟩
  · obtain ⟨z, hz⟩ := c; exact ⟨z, by rw [cell_of_row w g _ cs _ _ h1]; exact hz⟩
theorem MkIt.keep {k n g j : Nat} {w w' : World} (h : MkIt k n w g j) (hb : w'.heap[g]? = w.heap[g]?) : MkIt k n w' g j := by
  obtain ⟨cs, h1, h2⟩ := h
  exact ⟨cs, hb.trans h1, h2⟩
theorem MkIt.set0 {k n g j : Nat} {w : World} (h : MkIt k n w g j) (hj : j < n) (x : Value) (i : Nat) (hi : i = 0 ∧ (∃ z, x = .int .i64 z) ∨ i = 1 ∧ (∃ z, x = .int .u64 z) ∨ i = 2 ∧ ∃ z, x = .string z) : MkIt k n (w.setCell ⟨g, j * 3 + i, none⟩ x) g j ∧ (w.setCell ⟨g, j * 3 + i, none⟩ x).cell? ⟨g, j * 3 + i, none⟩ = some x := by
  obtain ⟨cs, h1, h2, h3, h4⟩ := h
  have e1 := set_block (i := j * 3 + i) h1 x
  have hlt : j * 3 + i < cs.size := by omega
  refine ⟨⟨_, e1, by simpa using h2, fun q hq => ?_, fun q hq => ?_⟩, ?_⟩
  · rw [Array.getElem?_setIfInBounds_ne (by omega), Array.getElem?_setIfInBounds_ne (by omega), Array.getElem?_setIfInBounds_ne (by omega)]
    exact h3 q hq
  · obtain ⟨a, b, c⟩ := h4 q hq
    by_cases e : q = j
    · subst e
      rcases hi with ⟨rfl, z, rfl⟩ | ⟨rfl, z, rfl⟩ | ⟨rfl, z, rfl⟩
      · exact ⟨⟨z, Array.getElem?_setIfInBounds_self_of_lt (by omega)⟩, by rw [Array.getElem?_setIfInBounds_ne (by omega)]; exact b, by rw [Array.getElem?_setIfInBounds_ne (by omega)]; exact c⟩
      · exact ⟨by rw [Array.getElem?_setIfInBounds_ne (by omega)]; exact a, ⟨z, Array.getElem?_setIfInBounds_self_of_lt (by omega)⟩, by rw [Array.getElem?_setIfInBounds_ne (by omega)]; exact c⟩
      · exact ⟨by rw [Array.getElem?_setIfInBounds_ne (by omega)]; exact a, by rw [Array.getElem?_setIfInBounds_ne (by omega)]; exact b, ⟨z, Array.getElem?_setIfInBounds_self_of_lt (by omega)⟩⟩
    · rw [Array.getElem?_setIfInBounds_ne (by omega), Array.getElem?_setIfInBounds_ne (by omega), Array.getElem?_setIfInBounds_ne (by omega)]
      exact ⟨a, b, c⟩
  · rw [cell_of_row _ g _ _ _ _ e1, Array.getElem?_setIfInBounds_self_of_lt (by omega)]
theorem MkIt.more {k n g j : Nat} {w : World} (h : MkIt k n w g j) (c0 : w.cell? ⟨g, j * 3, none⟩ = some (.int .i64 ((k + 3 * j : Nat) : Int))) (c1 : w.cell? ⟨g, j * 3 + 1, none⟩ = some (.int .u64 ((k + 3 * j + 1 : Nat) : Int))) (c2 : w.cell? ⟨g, j * 3 + 2, none⟩ = some (.string (mkT (k + 3 * j + 2)))) : MkIt k n w g (j + 1) := by
  obtain ⟨cs, h1, h2, h3, h4⟩ := h
  rw [cell_of_row w g _ cs _ _ h1] at c0 c1 c2
  refine ⟨cs, h1, h2, fun i hi => ?_, h4⟩
  by_cases e : i = j
  · subst e; exact ⟨c0, c1, c2⟩
  · exact h3 i (by omega)
end Go.Proofs.YtdncnjmlicdamaaDoor
namespace Go.Proofs.YtdncnjmlicdamaaDoor
open Go.RowKit Go.Sort
set_option linter.unusedVariables false
/-- A slice of items, of which the first j bear their marks, in a block from B on. -/
def MkS (k n j B : Nat) (w : World) (v : Value) : Prop := ∃ (ad : Option Addr) (cap : Nat), v = .slice ad n cap ∧ n ≤ cap ∧ cap ≤ maxLen ∧ (n = 0 ∨ ∃ g, ad = some ⟨g, 0, none⟩ ∧ B ≤ g ∧ g < w.heap.size ∧ MkIt k n w g j)
theorem MkS.below {k n j B : Nat} {w w' : World} {v : Value} (h : MkS k n j B w v) (hb : Below w.heap.size w w') : MkS k n j B w' v := by
  obtain ⟨ad, cap, h1, h2, h3, h4⟩ := h
  refine ⟨ad, cap, h1, h2, h3, ?_⟩
  rcases h4 with h4 | ⟨g, a1, a2, a3, a4⟩
  · exact .inl h4
  · exact .inr ⟨g, a1, a2, by have := hb.size; omega, a4.keep (hb.block g a3)⟩
theorem mk_refl (w : World) (row : Option Nat) : w.grownBy w row := ⟨rfl, rfl, rfl, Nat.le_refl _, fun _ _ _ => rfl⟩
theorem mk_set {w wr : World} {g : Nat} (h : w.grownBy wr (some g)) (i : Nat) (x : Value) : w.grownBy (wr.setCell ⟨g, i, none⟩ x) (some g) :=
  ⟨h.os, h.tape, h.output, by simpa [World.setCell] using h.size, fun k hk hne => (Below.heap_setCell _ _ _ _ (fun e => hne (by rw [e]))).trans (h.block k hk hne)⟩
theorem mk_full {w wr w2 : World} {row : Option Nat} (h : w.grownBy wr row) (hb : Below wr.heap.size wr w2) : w.grownBy w2 row :=
  ⟨hb.os.trans h.os, hb.tape.trans h.tape, hb.output.trans h.output, Nat.le_trans h.size hb.size, fun k hk hne => (hb.block k (Nat.lt_of_lt_of_le hk h.size)).trans (h.block k hk hne)⟩
set_option maxRecDepth 100000 in
set_option maxHeartbeats 2000000 in
theorem markItemS_any (k n B : Nat) (v : Value) (w : World) (hk1 : 1 ≤ k) (hk : k ≤ 10000) (hl : n ≤ 1100000) (hv : MkS k n 0 B w v) : Calls Tryd.prog 11 #[v, .int .i64 k] w fun e w' => (e = .returned (.int .i64 ((k + 3 * n : Nat) : Int)) ∧ MkS k n n B w' v) ∧ w.grownBy w' v.ownBlock := by
  obtain ⟨ad, cap, rfl, h1, h2, h4⟩ := hv
  unfold maxLen at h2
  rcases h4 with h0 | ⟨g, rfl, hg, hgw, hm0⟩
  · subst h0
    have HX : Hid (MkS k 0 0 B w (.slice ad 0 cap)) := ⟨ad, cap, rfl, h1, by unfold maxLen; exact h2, .inl rfl⟩
    go_enter Tryd.func11, Tryd.ntmps11
    go_wp2_with fail
    go_loopg [1, 5] 1 (fun gk kv i wr => kv = .int .i64 k ∧ i = .int .i64 0 ∧ wr = w)
    case atStart => exact ⟨rfl, rfl, rfl⟩
    case round =>
      obtain ⟨rfl, rfl, hw⟩ := hrel
      subst hw
      go_wp2_with fail
      go_ret
      exact ⟨⟨by simp, HX.out⟩, mk_refl _ _⟩
  · go_enter Tryd.func11, Tryd.ntmps11
    go_wp2_with fail
    go_loopg [1, 5] n (fun gk kv i wr => ∃ j : Nat, j + gk = n ∧ i = .int .i64 j ∧ kv = .int .i64 ((k + 3 * j : Nat) : Int) ∧ MkIt k n wr g j ∧ w.grownBy wr (some g) ∧ g < wr.heap.size)
    case atStart => exact ⟨0, by omega, rfl, by simp, hm0, mk_refl _ _, hgw⟩
    case round =>
      obtain ⟨j, hj', rfl, rfl, hm, hb, hgr⟩ := hrel
      have HJ : Hid (j + gk = n) := hj'
      have HM : Hid (MkIt k n wr g j) := hm
      have HB : Hid (w.grownBy wr (some g)) := hb
      have hj : j ≤ n := by omega
      clear hj' hb hm0
      by_cases hlt : j < n
      · obtain ⟨K, hK⟩ : ∃ K : Nat, k + 3 * j = K := ⟨_, rfl⟩
        have hK2 : K ≤ 3400000 := by omega
        have hK1 : 1 ≤ K := by omega
        have HKE : Hid (k + 3 * j = K) := hK
        obtain ⟨⟨⟨z0, c0⟩, ⟨z1, c1⟩, ⟨z2, c2⟩⟩, fz⟩ := hm.cell hlt
        obtain ⟨m1, d0⟩ := hm.set0 hlt (.int .i64 (K : Int)) 0 (.inl ⟨rfl, _, rfl⟩)
        rw [Nat.add_zero] at m1 d0
        obtain ⟨m2, d1⟩ := m1.set0 hlt (.int .u64 ((K : Int) + 1)) 1 (.inr (.inl ⟨rfl, _, rfl⟩))
        have f0 := fz (j * 3)
        have f1 := (m1.cell hlt).2 (j * 3 + 1)
        have c1' : (wr.setCell ⟨g, j * 3, none⟩ (.int .i64 (K : Int))).cell? ⟨g, j * 3 + 1, none⟩ = some (.int .u64 z1) := by rw [World.cell?_setCell_other _ _ _ _ (by simp)]; exact c1
        obtain ⟨W, hW⟩ : ∃ W, (wr.setCell ⟨g, j * 3, none⟩ (.int .i64 (K : Int))).setCell ⟨g, j * 3 + 1, none⟩ (.int .u64 ((K : Int) + 1)) = W := ⟨_, rfl⟩
        have e0 : W.cell? ⟨g, j * 3, none⟩ = some (.int .i64 (K : Int)) := by rw [← hW, World.cell?_setCell_other _ _ _ _ (by simp)]; exact d0
        rw [hW] at m2 d1
        have HM2 : Hid (MkIt k n W g j) := m2
        have HE0 : Hid (W.cell? ⟨g, j * 3, none⟩ = some (.int .i64 (K : Int))) := e0
        have HE1 : Hid (W.cell? ⟨g, j * 3 + 1, none⟩ = some (.int .u64 ((K : Int) + 1))) := d1
        have HBW : Hid (w.grownBy W (some g)) := by show World.grownBy _ _ _; rw [← hW]; exact mk_set (mk_set HB.out _ _) _ _
        have hWs : g < W.heap.size := by rw [← hW]; simpa [World.setCell] using hgr
        have HT : Hid (∀ w, Calls Tryd.prog 20 #[.int .i64 ((K : Int) + 1 + 1)] w fun e w' => e = .returned (.string (mkT (K + 2))) ∧ Below w.heap.size w w') := fun w => by
          have := markText_any (K + 2) w (by omega) (by omega)
          rwa [show (((K + 2 : Nat) : Int)) = (K : Int) + 1 + 1 by omega] at this
        rw [hK]
        clear hm m1 m2 d0 d1 e0 fz hK c1 c2
        go_wp2_with fail
        refine (HT.out _).mono ?_
        rintro e w2 ⟨rfl, hb2⟩
        have hM3 := HM2.out.keep (hb2.block g hWs)
        obtain ⟨⟨_, _, ⟨y2, c2⟩⟩, f2⟩ := hM3.cell hlt
        have f2' := f2 (j * 3 + 2)
        obtain ⟨m4, d2⟩ := hM3.set0 hlt (.string (mkT (K + 2))) 2 (.inr (.inr ⟨rfl, _, rfl⟩))
        have hke := HKE.out
        have HM5 : Hid (MkIt k n (w2.setCell ⟨g, j * 3 + 2, none⟩ (.string (mkT (K + 2)))) g (j + 1)) := m4.more (by rw [World.cell?_setCell_other _ _ _ _ (by simp), hb2.cell (p := ⟨g, j * 3, none⟩) hWs, hke]; exact HE0.out) (by rw [World.cell?_setCell_other _ _ _ _ (by simp), hb2.cell (p := ⟨g, j * 3 + 1, none⟩) hWs, hke]; rw [HE1.out]; simp) (by rw [hke]; exact d2)
        have HB5 : Hid (w.grownBy (w2.setCell ⟨g, j * 3 + 2, none⟩ (.string (mkT (K + 2)))) (some g)) := mk_set (mk_full HBW.out hb2) _ _
        have HG5 : Hid (g < (w2.setCell ⟨g, j * 3 + 2, none⟩ (.string (mkT (K + 2)))).heap.size) := by have := hb2.size; show _ < _; simp [World.setCell]; omega
        clear hb2 hM3 f2 m4 d2 hke hW c0 f0 f1 c1'
        go_wp2_with fail
        go_roundg (gk - 1)
        case rel => exact ⟨j + 1, by have := HJ.out; omega, by go_num, by have := HKE.out; first | go_num | (congr 1; omega), HM5.out, HB5.out, HG5.out⟩
        case measure => have := HJ.out; omega
      · have ej : j = n := by omega
        have HX : Hid (MkS k n n B wr (.slice (some ⟨g, 0, none⟩) n cap)) := ⟨_, cap, rfl, h1, by unfold maxLen; exact h2, .inr ⟨g, rfl, hg, hgr, by have := HM.out; rw [ej] at this; exact this⟩⟩
        clear hm hlt
        subst ej
        go_wp2_with fail
        go_ret
        exact ⟨⟨rfl, HX.out⟩, HB.out⟩
set_option maxRecDepth 100000 in
set_option maxHeartbeats 2000000 in
theorem heldItemS_any (k n B : Nat) (v : Value) (w : World) (hk1 : 1 ≤ k) (hk : k ≤ 10000) (hl : n ≤ 1100000) (hv : MkS k n n B w v) : Calls Tryd.prog 12 #[v, .int .i64 k] w fun e w' => e = .returned (.int .i64 ((k + 3 * n : Nat) : Int)) ∧ Below w.heap.size w w' := by
  obtain ⟨ad, cap, rfl, h1, h2, h4⟩ := hv
  unfold maxLen at h2
  have HV : Hid (n = 0 ∨ ∃ g, ad = some ⟨g, 0, none⟩ ∧ B ≤ g ∧ g < w.heap.size ∧ MkIt k n w g n) := h4
  clear h4
  go_enter Tryd.func12, Tryd.ntmps12
  go_wp2_with fail
  go_loopg [1, 5] n (fun gk kv i wr => ∃ j : Nat, j + gk = n ∧ i = .int .i64 j ∧ kv = .int .i64 ((k + 3 * j : Nat) : Int) ∧ Below w.heap.size w wr)
  case atStart => exact ⟨0, by omega, rfl, by simp, Below.refl _ _⟩
  case round =>
    obtain ⟨j, hj', rfl, rfl, hb⟩ := hrel
    have HJ : Hid (j + gk = n) := hj'
    have HB : Hid (Below w.heap.size w wr) := hb
    have hj : j ≤ n := by omega
    clear hj'
    by_cases hlt : j < n
    · rcases HV.out with h0 | ⟨g, rfl, _, hgw, cs, b1, b2, b3, _⟩
      · omega
      · obtain ⟨K, hK⟩ : ∃ K : Nat, k + 3 * j = K := ⟨_, rfl⟩
        have hK2 : K ≤ 3400000 := by omega
        have HKE : Hid (k + 3 * j = K) := hK
        obtain ⟨a0, a1, a2⟩ := b3 j hlt
        rw [hK] at a0 a1 a2 ⊢
        have e : ∀ i, wr.cell? ⟨g, i, none⟩ = cs[i]? := fun i => by rw [hb.cell (p := ⟨g, i, none⟩) hgw]; exact cell_of_row w g i cs _ _ b1
        have c0 : wr.cell? ⟨g, j * 3, none⟩ = some (.int .i64 (K : Int)) := by rw [e]; exact a0
        have c1 : wr.cell? ⟨g, j * 3 + 1, none⟩ = some (.int .u64 ((K : Int) + 1)) := by rw [e, a1]; simp
        have c2 : wr.cell? ⟨g, j * 3 + 2, none⟩ = some (.string (mkT (K + 2))) := by rw [e]; exact a2
        have HT : Hid (∀ w, Calls Tryd.prog 20 #[.int .i64 ((K : Int) + 1 + 1)] w fun e w' => e = .returned (.string (mkT (K + 2))) ∧ Below w.heap.size w w') := fun w => by
          have := markText_any (K + 2) w (by omega) (by omega)
          rwa [show (((K + 2 : Nat) : Int)) = (K : Int) + 1 + 1 by omega] at this
        obtain ⟨M, hM⟩ : ∃ M, mkT (K + 2) = M := ⟨_, rfl⟩
        rw [hM] at c2 HT
        have hMM : (M.toList == M.toList) = true := by simp
        have r2 := cells_re c2
        have hgr : g < wr.heap.size := by have := hb.size; omega
        clear a0 a1 a2 b1 b2 b3 e hK hM hb
        go_wp2_with fail
        refine wp_region_quiet_below (by kernel_rfl) (by kernel_rfl) ?_
        repeat (go_big_quiet_step (exact Calls.regrown_of (HT.out _)))
        refine wpQuiet_nil ?_
        intro w6 hw'
        obtain ⟨⟨dq, osq⟩, hw''⟩ := hw'
        have HB6 : Hid (Below w.heap.size w w6) := by show Below _ _ _; rw [hw'']; exact HB.out.trans ((below_regrown wr dq osq).mono HB.out.size)
        clear hw'' r2
        go_wp2_with fail
        go_roundg (gk - 1)
        case rel => exact ⟨j + 1, by have := HJ.out; omega, by go_num, by have := HKE.out; first | go_num | (congr 1; omega), HB6.out⟩
        case measure => have := HJ.out; omega
    · have ej : j = n := by omega
      clear hlt hb
      subst ej
      go_wp2_with fail
      go_ret
      exact ⟨rfl, HB.out⟩
end Go.Proofs.YtdncnjmlicdamaaDoor
