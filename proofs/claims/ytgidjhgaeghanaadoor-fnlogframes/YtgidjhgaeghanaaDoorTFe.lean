/- The reader of frames, to where it gives up: contracts. -/
import Derived.Test.YtgidjhgaeghanaaDoorTFb
import Derived.Test.YtgidjhgaeghanaaDoorTFd
import Derived.Defers
import Derived.Recover
namespace Go.Proofs.YtgidjhgaeghanaaDoor
open Go.RowKit Go.Sort
set_option linter.unusedVariables false
theorem catch_any (p : Addr) (x : Int) (q : Nat) (older : List PanicEntry) (w : World) (hc : w.cell? p = some (.int .i64 x)) (hz : w.frozen? p = false) :
    CallsD Tryd.prog 24 #[.pointer (some p)] (.panicking ({ v := .iface 48 (.int .i64 (q : Nat)), recovered := false } :: older)) w fun e u' w' =>
      e = .returned (.tuple #[]) ∧ u' = .panicking ({ v := .iface 48 (.int .i64 (q : Nat)), recovered := true } :: older) ∧ w' = w.setCell p (.int .i64 (q : Nat)) := by
  refine callsD_of_wpS Tryd.func24 rfl fun c₀ cs hu => ?_
  apply wpS_region
  have ha : ∀ (v : Value) (w : World), (Instr.typeAssert (.iface 48 v) 20 48 false).run Tryd.prog w = .ok v w := fun v w => by kernel_rfl
  simp [ha, wpOpsS, go_sem, recoverD, hu, Tryd.ntmps24, hc, hz, bodyPostS, results, Tryd.results24]
/-- What the reader holds: its box at q, the row of what it has read, the place of the end. -/
structure TfJ (s : ByteArray) (b E : Nat) (w0 : World) (w : World) (v : Value) (X : List ByteArray) (q : Nat) : Prop where
  bx : Bx w b (s.extract q s.size) q
  own : w.ownsRow (E + 1) 9 1 v X.length (strv X)
  fin : w.heap[E]? = some (.cells #[.int .i64 0] 2 (0, 0))
  grown : w0.grownBy w (some b)
/-- Between two frames. -/
structure TfI (s : ByteArray) (b E : Nat) (w0 : World) (w : World) (v : Value) (X : List ByteArray) (p : Nat) : Prop where
  at_ : RdF s p X
  j : TfJ s b E w0 w v X p
theorem TfJ.far {s : ByteArray} {b E : Nat} {w0 w : World} {v : Value} {X : List ByteArray} {q : Nat} (h : TfJ s b E w0 w v X q) {k : Nat} (hk : k ≤ E) : some k ≠ v.ownBlock := fun e => by have := (World.ownsRow.lt h.own k e.symm).1; omega
theorem TfJ.moved {s : ByteArray} {b E : Nat} {w0 w w1 : World} {v : Value} {X : List ByteArray} {q q' : Nat} (h : TfJ s b E w0 w v X q) (hbE : b < E) (hg : w.grownBy w1 (some b)) (hbx : Bx w1 b (s.extract q' s.size) q') : TfJ s b E w0 w1 v X q' :=
  ⟨hbx, World.ownsRow.kept h.own hg (.inr (h.far (Nat.le_of_lt hbE)).symm), (hg.block E (blk_lt h.fin) (fun e => by cases e; omega)).trans h.fin, mk_trans h.grown hg⟩
theorem TfJ.appended {s : ByteArray} {b E : Nat} {w0 w w' : World} {v : Value} {X : List ByteArray} {q g cap : Nat} {o : Obj} {x : ByteArray} (h : TfJ s b E w0 w v X q) (hbE : b < E) (hE : w0.heap.size = E + 1) (hown : w'.ownsRow (E + 1) 9 1 (.slice (some ⟨g, 0, none⟩) (X.length + 1) cap) (X.length + 1) (strv X ++ [.string x])) (hg : (w.alloc o).grownBy w' v.ownBlock) : TfJ s b E w0 w' (.slice (some ⟨g, 0, none⟩) (X.length + 1) cap) (X ++ [x]) q := by
  have hs1 := (bel1 w o).size
  have hk : ∀ k, k ≤ E → k < w.heap.size → w'.heap[k]? = w.heap[k]? := fun k hk hlt => (hg.block k (by omega) (h.far hk)).trans (Below.heap_alloc w o k hlt)
  have ho : w0.grownBy (w.alloc o) (some b) := mk_full h.grown (bel1 w o)
  refine ⟨(hk b (by omega) (blk_lt h.bx)).trans h.bx, by rw [strv_app, List.length_append]; exact hown, (hk E (Nat.le_refl _) (blk_lt h.fin)).trans h.fin, ⟨hg.os.trans ho.os, hg.tape.trans ho.tape, hg.output.trans ho.output, Nat.le_trans ho.size hg.size, fun k hk1 hne => (hg.block k (by have := ho.size; omega) (h.far (by omega))).trans (ho.block k hk1 hne)⟩⟩
theorem RdF.after {s : ByteArray} {p n : Nat} {X : List ByteArray} (h : RdF s p X) (hn : nx (s.extract p s.size).data.toList = some n) : RdF s (p + (8 + n)) (X ++ [⟨(hD (s.extract p s.size).data.toList n).toArray⟩]) := by
  rw [exR] at hn ⊢
  exact h.next hn
theorem exEx (s : ByteArray) (p n : Nat) : (s.extract p s.size).extract n (s.extract p s.size).size = s.extract (p + n) s.size := by
  rw [str_of (S := (s.extract p s.size).extract n (s.extract p s.size).size) (l := s.data.toList.drop (p + n)) (by rw [exR, exR, List.drop_drop]), str_of (S := s.extract (p + n) s.size) (l := s.data.toList.drop (p + n)) (exR _ _)]
set_option maxRecDepth 100000 in
set_option maxHeartbeats 4000000 in
theorem frames_any (b : Nat) (s : ByteArray) (w : World) (hb : Bx w b s 0) (hk : KR w) (hbG : 0 < b) (hs : s.size ≤ 1048576) : Calls Tryd.prog 16 #[.pointer (some ⟨b, 0, none⟩)] w fun e w' => TfE s w.heap.size w' e ∧ w.grownBy w' (some b) := by
  have hmf : ∀ (fn : Fn) (first cap : Array Value) (w : World), (Instr.makeFunc fn first cap).run Tryd.prog w = .ok (.func fn first cap) w := fun _ _ _ _ => rfl
  obtain ⟨i0, hi, hz0, hz1, hz2⟩ := info_parts Tryd.infoStr
  have HII : Hid (Tryd.prog.info? 9 = some i0) := hi
  clear hi
  obtain ⟨E, hE⟩ : ∃ E, w.heap.size = E := ⟨_, rfl⟩
  have hbE : b < E := by rw [← hE]; exact blk_lt hb
  obtain ⟨W0, hW0⟩ : ∃ W, w.alloc (.cells #[.int .i64 0] 2) = W := ⟨_, rfl⟩
  have HWW : Hid (w.alloc (.cells #[.int .i64 0] 2) = W0) := hW0
  have HEE : Hid (w.heap.size = E) := hE
  have HGW : Hid (w.grownBy W0 (some b)) := by show w.grownBy W0 (some b); rw [← hW0]; exact mk_full (mk_refl _ _) (belA w _)
  have HK : Hid (KR W0) := hk.grown HGW.out hbG
  have HS : Hid (TfI s b E W0 W0 (.slice none 0 0) [] 0) := by
    refine ⟨RdF.zero s, ⟨?_, ⟨by simp [strv], .inl ⟨rfl, rfl⟩⟩, ?_, mk_refl _ _⟩⟩
    · have e : s.extract 0 s.size = s := by simp
      rw [e]
      show W0.heap[b]? = _
      rw [← hW0]; exact (Below.heap_alloc w _ _ (blk_lt hb)).trans hb
    · rw [← hW0, ← hE]; exact heap_alloc_new w _
  have HFR : Hid (∀ wr p v X, TfI s b E W0 wr v X p → Calls Tryd.prog 25 #[.pointer (some ⟨b, 0, none⟩)] wr fun e w' => FrE (s.extract p s.size) p b wr w' e) := fun wr p v X h => frame_any b _ p wr h.j.bx (HK.out.grown h.j.grown hbG) hbG (by simp; omega) (by have := h.at_.2.1; omega)
  have HE1 : Hid (W0.heap.size = E + 1) := by show _ = _; rw [← hW0, ← hE]; simp
  clear hE hW0 hk hb
  go_enter_defers Tryd.func16, Tryd.ntmps16
  go_wp2_with fail
  rw [HWW.out, HEE.out]
  go_loopg [2] s.size (fun gk v wr => ∃ (X : List ByteArray) (p : Nat), p + gk = s.size ∧ TfI s b E W0 wr v X p)
  case atStart => exact ⟨[], 0, by omega, HS.out⟩
  case round =>
    obtain ⟨X, p, hgk, hI⟩ := hrel
    have HI : Hid (TfI s b E W0 wr u2 X p) := hI
    have HG : Hid (p + gk = s.size) := hgk
    have hXp : X.length * 8 ≤ p := hI.at_.2.2
    have hps : p ≤ s.size := by omega
    clear hgk hI
    go_wp2_with fail
    refine (HFR.out _ _ _ _ HI.out).mono ?_
    rintro e w1 ⟨hg1, ⟨n, hnx, rfl, hbx1⟩ | ⟨hnx, rfl⟩⟩
    · have hat := HI.out.at_.after hnx
      have hj := HI.out.j.moved hbE hg1 (by rw [← exEx]; exact hbx1)
      obtain ⟨D, hDD⟩ : ∃ D : ByteArray, ⟨(hD (s.extract p s.size).data.toList n).toArray⟩ = D := ⟨_, rfl⟩
      rw [hDD] at hat ⊢
      have HAt : Hid (RdF s (p + (8 + n)) (X ++ [D])) := hat
      have HJ : Hid (TfJ s b E W0 w1 u2 X (p + (8 + n))) := hj
      have hq : p + (8 + n) ≤ s.size := hat.2.1
      have hWs : E + 1 ≤ w1.heap.size := by have := HE1.out; have := hj.grown.size; omega
      have hc1 : ∀ j u, ([Value.string D] : List Value)[j]? = some u → (w1.alloc (.cells #[.string D] 9)).cell? ((⟨w1.heap.size, 0, none⟩ : Addr).add j) = some u := World.news_of_block (heap_alloc_new w1 (.cells #[.string D] 9))
      clear hat hj hg1 hnx hbx1 hDD
      go_wp2_with (at_builtin; refine wpList_append_lies _ rfl _ _ 25 rfl (E + 1) 9 i0 (.string ByteArray.empty) 1 16 Tryd.underlying25 HII.out hz0 hz1 hz2 rfl (by decide) u2 X.length (strv X) rfl (HJ.out.own.alloc _) ⟨w1.heap.size, 0, none⟩ 1 1 [.string D] rfl rfl hc1 (by intro u hu; simp at hu; subst hu; rfl) (by omega) ?c3 ?c4 ?c5 (w1.heap.size + 1) (by simp) ?_)
      case c3 => unfold maxLen; omega
      case c4 => omega
      case c5 => simp; omega
      intro g cap w5 hown hgrow hat hlt
      have HJ5 : Hid (TfJ s b E W0 w5 (.slice (some ⟨g, 0, none⟩) (X.length + 1) cap) (X ++ [D]) (p + (8 + n))) := HJ.out.appended hbE HE1.out hown hgrow
      clear hown hgrow hat hlt hc1
      go_wp2_with fail
      go_roundg (gk - (8 + n))
      case rel => exact ⟨_, p + (8 + n), by have := HG.out; omega, HAt.out, HJ5.out⟩
      case measure => have := HG.out; omega
    · have HE : Hid (FEnd s p X) := ⟨HI.out.at_, by rw [← exR]; exact hnx⟩
      have hfin : w1.heap[E]? = some (.cells #[.int .i64 0] 2 (0, 0)) := (hg1.block E (blk_lt HI.out.j.fin) (fun e => by cases e; omega)).trans HI.out.j.fin
      have ho1 := World.ownsRow.kept HI.out.j.own hg1 (.inr (HI.out.j.far (Nat.le_of_lt hbE)).symm)
      obtain ⟨W2, hW2⟩ : ∃ W, w1.setCell ⟨E, 0, none⟩ (.int .i64 (p : Nat)) = W := ⟨_, rfl⟩
      have hWE : w.heap.size = E := HEE.out
      have hg01 : w.grownBy w1 (some b) := mk_trans (mk_trans HGW.out HI.out.j.grown) hg1
      have HX : Hid (TfE s w.heap.size W2 (.returned (.tuple #[u2, .int .i64 ((p : Nat) : Int)])) ∧ w.grownBy W2 (some b)) := by
        refine ⟨⟨u2, p, X, rfl, HE.out, own_down (World.ownsRow.kept ho1 (w' := W2) (row := some E) (by rw [← hW2]; exact mk_set (mk_refl _ _) _ _) (.inr (HI.out.j.far (Nat.le_refl _)).symm)) (by omega)⟩, ?_⟩
        rw [← hW2]
        exact ⟨hg01.os, hg01.tape, hg01.output, by simpa [World.setCell] using hg01.size, fun k hk hne => (Below.heap_setCell _ _ _ _ (by show k ≠ E; omega)).trans (hg01.block k hk hne)⟩
      have hcE : w1.cell? ⟨E, 0, none⟩ = some (.int .i64 0) := by rw [cell_of_row w1 E 0 _ _ _ hfin]; rfl
      have hfE : w1.frozen? ⟨E, 0, none⟩ = false := by simp [World.frozen?, hfin]
      have hc2 : W2.cell? ⟨E, 0, none⟩ = some (.int .i64 (p : Nat)) := by rw [← hW2, cell_of_row _ E 0 _ _ _ (set_block (i := 0) hfin _)]; rfl
      go_wp2_with fail
      refine leaves_cons (f := 24) (args := #[.pointer (some ⟨E, 0, none⟩)]) (by simp) (by simp [go_sem]) ?_
      refine (catch_any ⟨E, 0, none⟩ 0 p [] _ hcE hfE).mono ?_
      rintro e u' w'' ⟨rfl, rfl, rfl⟩
      rw [hW2]
      simp [Leaves, settle, results, Tryd.results16, go_sem, hc2]
      exact HX.out
set_option maxRecDepth 100000 in
theorem implTakeFrames_any (s : ByteArray) (w : World) (hk : KR w) (hs : s.size ≤ 1048576) : Calls Tryd.prog 6 #[.string s] w fun e w' => TfE s w.heap.size w' e ∧ Below w.heap.size w w' := by
  obtain ⟨W, hW⟩ : ∃ W, w.alloc (.cells #[.string s, .int .i64 0] 35) = W := ⟨_, rfl⟩
  have HWW : Hid (w.alloc (.cells #[.string s, .int .i64 0] 35) = W) := hW
  have HBW : Hid (Below w.heap.size w W) := by show Below _ _ _; rw [← hW]; exact belA _ _
  have hsz : w.heap.size ≤ W.heap.size := HBW.out.size
  have HC : Hid (Calls Tryd.prog 16 #[.pointer (some ⟨w.heap.size, 0, none⟩)] W fun e w' => TfE s W.heap.size w' e ∧ W.grownBy w' (some w.heap.size)) := frames_any w.heap.size s W (by rw [← hW]; exact heap_alloc_new w _) (hk.below HBW.out (Nat.le_refl _)) hk.1 hs
  have HSZ : Hid (w.heap.size ≤ W.heap.size) := hsz
  clear hk hW hsz
  go_enter Tryd.func6, Tryd.ntmps6
  go_wp2_with fail
  rw [HWW.out]
  refine HC.out.mono ?_
  rintro e w1 ⟨⟨v, p, X, rfl, he, ho⟩, hg⟩
  have HX : Hid (TfE s w.heap.size w1 (.returned (.tuple #[v, .int .i64 ((p : Nat) : Int)])) ∧ Below w.heap.size w w1) := by
    refine ⟨⟨v, p, X, rfl, he, own_down ho HSZ.out⟩, ⟨hg.os.trans HBW.out.os, hg.tape.trans HBW.out.tape, hg.output.trans HBW.out.output, Nat.le_trans HBW.out.size hg.size, fun k hk => (hg.block k (by have := HSZ.out; omega) (fun e => by cases e; omega)).trans (HBW.out.block k hk)⟩⟩
  clear he ho hg
  go_wp2_with fail
  go_ret2
  exact HX.out
end Go.Proofs.YtgidjhgaeghanaaDoor
