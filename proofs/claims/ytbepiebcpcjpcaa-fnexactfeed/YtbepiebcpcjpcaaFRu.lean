/- Frames of bytes, both sides; a right framer, both sides: contracts. -/
import Derived.Test.YtbepiebcpcjpcaaFRg
import Derived.Test.YtbepiebcpcjpcaaFRq
namespace Go.Proofs.Ytbepiebcpcjpcaa
open Go.RowKit Go.Sort
set_option linter.unusedVariables false
/-- What FramesOf answers. -/
def FsE (s : ByteArray) (B : Nat) (w' : World) (e : Ending) : Prop := ∃ v, e = .returned (.tuple #[v, .int .i64 ((fs s.data.toList).2.1 : Nat)]) ∧ OwnF B w' v (fs s.data.toList).1
/-- What FramesOf holds between two rounds. -/
structure FsB (s : ByteArray) (w0 : World) (w : World) (v : Value) (l : List Fr) (p : Nat) : Prop where
  at_ : At s.data.toList l p
  own : OwnF w0.heap.size w v l
  bel : Below w0.heap.size w0 w
theorem FsB.below {s : ByteArray} {w0 w w' : World} {v : Value} {l : List Fr} {p : Nat} (h : FsB s w0 w v l p) (hb : Below w.heap.size w w') : FsB s w0 w' v l p := ⟨h.at_, h.own.kept hb, h.bel.trans (hb.mono h.bel.size)⟩
theorem FsB.len {s : ByteArray} {w0 w : World} {v : Value} {l : List Fr} {p : Nat} (h : FsB s w0 w v l p) : l.length * 3 ≤ s.size ∧ p ≤ s.size := by
  have := fs_bound _ s.data.toList (Nat.le_refl _)
  rw [h.at_.2] at this
  have h2 := h.at_.1
  simp at this h2
  omega
theorem FsB.appended {s : ByteArray} {w0 w : World} {v : Value} {l : List Fr} {p : Nat} (h : FsB s w0 w v l p) {o : Obj} {w' : World} {g cap : Nat} {x : Fr} {q : Nat} (hat : At s.data.toList (l ++ [x]) q) (hown : w'.ownsRow w0.heap.size 26 3 (.slice (some ⟨g, 0, none⟩) (l.length + 1) cap) (l.length + 1) (flatF l ++ flatF [x])) (hg : (w.alloc o).grownBy w' v.ownBlock) : FsB s w0 w' (.slice (some ⟨g, 0, none⟩) (l.length + 1) cap) (l ++ [x]) q := by
  have b1 := h.bel.trans ((bel1 w o).mono h.bel.size)
  have hs1 := (bel1 w o).size
  have hs0 := h.bel.size
  refine ⟨hat, ?_, ⟨hg.os.trans b1.os, hg.tape.trans b1.tape, hg.output.trans b1.output, Nat.le_trans b1.size hg.size, fun k hk => ?_⟩⟩
  · unfold OwnF; rw [flatF_app, List.length_append]; exact hown
  · rw [hg.block k (by omega) (fun e => by have := (World.ownsRow.lt h.own k e.symm).1; omega)]; exact b1.block k hk
set_option maxRecDepth 100000 in
theorem implFramesOf_any (s : ByteArray) (w : World) (hs : s.size ≤ 2097152) : Calls Try.prog 22 #[.string s] w fun e w' => FsE s w.heap.size w' e ∧ Below w.heap.size w w' := by
  have HC : Hid (Calls Try.prog 31 #[.string s] w fun e w' => RunE s w.heap.size w' e ∧ Below w.heap.size w w') := runFramer_any s w hs
  go_enter Try.func22, Try.ntmps22
  go_wp2_with fail
  refine HC.out.mono ?_
  rintro e w1 ⟨⟨v, rfl, ho⟩, hb⟩
  have HE : Hid (FsE s w.heap.size w1 (.returned (.tuple #[v, .int .i64 ((fs s.data.toList).2.1 : Nat)])) ∧ Below w.heap.size w w1) := ⟨⟨v, rfl, ho⟩, hb⟩
  obtain ⟨E, hE⟩ : ∃ E : Nat, (fs s.data.toList).2.1 = E := ⟨_, rfl⟩
  obtain ⟨g, hg⟩ : ∃ g, (fs s.data.toList).2.2 = g := ⟨_, rfl⟩
  rw [hE] at HE ⊢
  rw [hg]
  clear ho hb hE hg
  go_wp2_with fail
  go_ret2
  exact HE.out
set_option maxRecDepth 100000 in
set_option maxHeartbeats 2000000 in
theorem specFramesOf_any (s : ByteArray) (w : World) (hs : s.size ≤ 1048576) : Calls Try.prog 21 #[.string s] w fun e w' => FsE s w.heap.size w' e ∧ Below w.heap.size w w' := by
  obtain ⟨i0, hi, hz0, hz1, hz2⟩ := info_parts Try.infoFrm
  have HII : Hid (Try.prog.info? 26 = some i0) := hi
  clear hi
  have HS : Hid (FsB s w (w.alloc (.cells #[] 26)) (.slice (some ⟨w.heap.size, 0, none⟩) 0 0) [] 0) := ⟨At.zero _, World.ownsRow_made w #[] 0 (Nat.le_refl _) (by simp [maxLen]) rfl, bel1 _ _⟩
  go_enter Try.func21, Try.ntmps21
  go_wp2_with fail
  go_loopg [4, 5] s.size (fun gk v i wr => ∃ (l : List Fr) (p : Nat), p + gk = s.size ∧ i = .int .i64 p ∧ FsB s w wr v l p)
  case atStart => exact ⟨[], 0, by omega, rfl, HS.out⟩
  case round =>
    obtain ⟨l, p, hgk, rfl, hB⟩ := hrel
    have HB : Hid (FsB s w wr u4 l p) := hB
    have HG : Hid (p + gk = s.size) := hgk
    obtain ⟨hll, hpl⟩ := hB.len
    obtain ⟨T, hT⟩ : ∃ T, s.extract p s.size = T := ⟨_, rfl⟩
    have hTd : T.data.toList = s.data.toList.drop p := by rw [← hT, ext_dl, List.take_of_length_le (by simp)]
    have hTs : T.size ≤ 1048576 := by rw [← hT]; simp; omega
    have HTd : Hid (T.data.toList = s.data.toList.drop p) := hTd
    have HC : Hid (Calls Try.prog 29 #[.string T] wr fun e w' => e = .returned (tkV T (tk T.data.toList)) ∧ Below wr.heap.size wr w') := l11Take_any T wr hTs
    clear hgk hB
    cases hk : tk T.data.toList with
    | none =>
      have HE : Hid (fs s.data.toList = (l, p, false)) := HB.out.at_.done (g := false) (by rw [← hTd]; exact hk)
      rw [hk] at HC
      simp only [tkV] at HC
      clear hk hTd
      go_wp2_with fail
      refine HC.out.mono ?_
      rintro e w1 ⟨rfl, hb1⟩
      have HB2 : Hid (FsB s w (w1.alloc (.cells #[.int .i64 0, .int .i64 0, .string ⟨#[]⟩] 26)) u4 l p) := (HB.out.below hb1).below (bel1 _ _)
      have HX : Hid (FsE s w.heap.size (w1.alloc (.cells #[.int .i64 0, .int .i64 0, .string ⟨#[]⟩] 26)) (.returned (.tuple #[u4, .int .i64 (p : Nat)])) ∧ Below w.heap.size w (w1.alloc (.cells #[.int .i64 0, .int .i64 0, .string ⟨#[]⟩] 26))) := ⟨⟨u4, by rw [HE.out], by rw [HE.out]; exact HB2.out.own⟩, HB2.out.bel⟩
      clear hb1
      go_wp2_with fail
      go_ret2
      exact HX.out
    | more =>
      have HE : Hid (fs s.data.toList = (l, p, true)) := HB.out.at_.done (g := true) (by rw [← hTd]; exact hk)
      rw [hk] at HC
      simp only [tkV] at HC
      clear hk hTd
      go_wp2_with fail
      refine HC.out.mono ?_
      rintro e w1 ⟨rfl, hb1⟩
      have HB2 : Hid (FsB s w (w1.alloc (.cells #[.int .i64 0, .int .i64 0, .string ⟨#[]⟩] 26)) u4 l p) := (HB.out.below hb1).below (bel1 _ _)
      have HX : Hid (FsE s w.heap.size (w1.alloc (.cells #[.int .i64 0, .int .i64 0, .string ⟨#[]⟩] 26)) (.returned (.tuple #[u4, .int .i64 (p : Nat)])) ∧ Below w.heap.size w (w1.alloc (.cells #[.int .i64 0, .int .i64 0, .string ⟨#[]⟩] 26))) := ⟨⟨u4, by rw [HE.out], by rw [HE.out]; exact HB2.out.own⟩, HB2.out.bel⟩
      clear hb1
      go_wp2_with fail
      go_ret2
      exact HX.out
    | whole a k n h =>
      have hw := tk_whole hk
      have HW : Hid (tk (s.data.toList.drop p) = .whole a k n h) := by show _ = _; rw [← hTd]; exact hk
      obtain ⟨D, hD⟩ : ∃ D, T.extract h (h + n) = D := ⟨_, rfl⟩
      have hfr : frAt (s.data.toList.drop p) a k n h = ⟨a, k, D⟩ := by
        unfold frAt
        congr 1
        rw [← hTd]
        exact (str_of (by rw [← hD, ext_dl]; simp)).symm
      have HAt : Hid (At s.data.toList (l ++ [⟨a, k, D⟩]) (p + (h + n))) := by
        show At _ _ _
        rw [← hfr]
        exact HB.out.at_.next HW.out
      have HQ : Hid (p + (h + n) ≤ s.size) := by show _ ≤ _; have := HAt.out.1; simpa using this
      obtain ⟨q, hq⟩ : ∃ q, h + n = q := ⟨_, rfl⟩
      have hq3 : 3 ≤ q := by omega
      rw [hk] at HC
      simp only [tkV, hD] at HC
      rw [hq] at HC HAt HQ
      have hpq : p + q ≤ 1048576 := by have := HQ.out; omega
      clear hk hTd hw hfr hD HW hq
      go_wp2_with fail
      refine HC.out.mono ?_
      rintro e w1 ⟨rfl, hb1⟩
      have HB1 : Hid (FsB s w (w1.alloc (.cells #[.int .i64 a, .int .i64 k, .string D] 26)) u4 l p) := (HB.out.below hb1).below (bel1 _ _)
      obtain ⟨c0, c1, c2, f0, f1, f2⟩ := tri_cells (heap_alloc_new w1 (.cells #[.int .i64 a, .int .i64 k, .string D] 26))
      have hWs : w.heap.size ≤ w1.heap.size + 1 := by have := HB1.out.bel.size; simpa using this
      have hc1 : ∀ j u, (flatF [⟨a, k, D⟩])[j]? = some u → ((w1.alloc (.cells #[.int .i64 a, .int .i64 k, .string D] 26)).alloc (.cells #[.int .i64 a, .int .i64 k, .string D] 26)).cell? ((⟨w1.heap.size + 1, 0, none⟩ : Addr).add j) = some u := World.news_of_block (by have := heap_alloc_new (w1.alloc (.cells #[.int .i64 a, .int .i64 k, .string D] 26)) (.cells #[.int .i64 a, .int .i64 k, .string D] 26); rwa [show (w1.alloc (.cells #[.int .i64 a, .int .i64 k, .string D] 26)).heap.size = w1.heap.size + 1 by simp] at this)
      clear hb1
      go_wp2_with (at_builtin; refine wpList_append_lies _ rfl _ _ 36 rfl w.heap.size 26 i0 (.agg #[.int .i64 0, .int .i64 0, .string ByteArray.empty]) 3 32 Try.underlying36 HII.out hz0 hz1 hz2 rfl (by decide) u4 l.length (flatF l) rfl (HB1.out.own.alloc _) ⟨w1.heap.size + 1, 0, none⟩ 1 1 (flatF [⟨a, k, D⟩]) rfl rfl hc1 (flatF_one _) (by omega) ?c3 ?c4 ?c5 (w1.heap.size + 2) (by simp) ?_)
      case c3 => unfold maxLen; omega
      case c4 => omega
      case c5 => simp; omega
      intro g cap w5 hown hgrow hat hlt
      have HB5 : Hid (FsB s w w5 (.slice (some ⟨g, 0, none⟩) (l.length + 1) cap) (l ++ [⟨a, k, D⟩]) (p + q)) := HB1.out.appended HAt.out hown hgrow
      clear hown hgrow hat hlt hc1 c0 c1 c2 f0 f1 f2
      go_wp2_with fail
      go_roundg (gk - q)
      case rel => exact ⟨_, p + q, by have := HG.out; have := HQ.out; omega, by go_num, HB5.out⟩
      case measure => have := HG.out; have := HQ.out; omega
end Go.Proofs.Ytbepiebcpcjpcaa
