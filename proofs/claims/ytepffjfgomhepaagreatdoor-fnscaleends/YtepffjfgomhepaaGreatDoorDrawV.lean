/- Schemas, hurt, and the draws: contracts. -/
import Derived.Test.YtepffjfgomhepaaGreatDoorDrawU
import Derived.Deep.LoopGhost
namespace Go.Proofs.YtepffjfgomhepaaGreatDoor
open Go.RowKit
set_option linter.unusedVariables false
/-- But for the reader's block and one's own all that was there is as it was. -/
def Kx (B : Nat) (G : Option Nat) (w w' : World) : Prop := w'.os = w.os ∧ w'.tape = w.tape ∧ w'.output = w.output ∧ w.heap.size ≤ w'.heap.size ∧ ∀ q, q < w.heap.size → q ≠ B → some q ≠ G → w'.heap[q]? = w.heap[q]?
theorem Kx.of_gb {B : Nat} {G : Option Nat} {w w' : World} (h : w.grownBy w' (some B)) : Kx B G w w' := ⟨h.os, h.tape, h.output, h.size, fun q hq hB _ => h.block q hq (fun e => hB (Option.some.inj e))⟩
theorem Kx.gb {B : Nat} {G : Option Nat} {w w1 w2 : World} (h : Kx B G w w1) (h' : w1.grownBy w2 (some B)) : Kx B G w w2 := ⟨h'.os.trans h.1, h'.tape.trans h.2.1, h'.output.trans h.2.2.1, Nat.le_trans h.2.2.2.1 h'.size, fun q hq hB hG => by rw [h'.block q (Nat.lt_of_lt_of_le hq h.2.2.2.1) (fun e => hB (Option.some.inj e))]; exact h.2.2.2.2 q hq hB hG⟩
theorem Kx.alloc {B : Nat} {G : Option Nat} {w w1 : World} (h : Kx B G w w1) (o : Obj) : Kx B G w (w1.alloc o) := h.gb (gb_alloc _ _ _)
theorem Kx.set {B g i : Nat} {u : Value} {w w1 : World} {G : Option Nat} (h : Kx B G w w1) (hG : G = some g) : Kx B G w (w1.setCell ⟨g, i, none⟩ u) := ⟨h.1, h.2.1, h.2.2.1, by simpa using h.2.2.2.1, fun q hq hB hne => by rw [Below.heap_setCell _ _ _ _ (fun e => hne (by rw [hG, e]))]; exact h.2.2.2.2 q hq hB hne⟩
theorem Kx.own {B : Nat} {G G' : Option Nat} {w w1 w2 : World} (h : Kx B G w w1) (h' : w1.grownBy w2 G') (hG : ∀ q, G' = some q → G = some q ∨ w.heap.size ≤ q) : Kx B G w w2 := ⟨h'.os.trans h.1, h'.tape.trans h.2.1, h'.output.trans h.2.2.1, Nat.le_trans h.2.2.2.1 h'.size, fun q hq hB hne => by
  rw [h'.block q (Nat.lt_of_lt_of_le hq h.2.2.2.1) (fun e => ?_)]
  · exact h.2.2.2.2 q hq hB hne
  · rcases hG q e.symm with h1 | h1
    · exact hne h1.symm
    · omega⟩
theorem Kx.below {B B0 : Nat} {G : Option Nat} {w w' : World} (h : Kx B G w w') (hB : B0 ≤ B) (hs : B0 ≤ w.heap.size) (hG : ∀ g, G = some g → B0 ≤ g) : Below B0 w w' := ⟨h.1, h.2.1, h.2.2.1, h.2.2.2.1, fun q hq => h.2.2.2.2 q (by omega) (by omega) (fun e => by have := hG q e.symm; omega)⟩
/-- What hurtSchema leaves. -/
def HurtPost (B0 B : Nat) (a : Option Addr) (len cap base : Nat) (v0 : Value) (w : World) (e : Ending) (w' : World) : Prop :=
  (∃ v ts, e = .returned v ∧ w'.ownsRow base 83 2 v ts.length (flatT ts) ∧ ts.length ≤ 41 ∧ wfT ts) ∧ RdAt B0 B a len cap w' ∧ Kx B v0.ownBlock w w'
theorem own_cut {w : World} {base : Nat} {g n cap : Nat} {ts : List (Int × Int)} (h : w.ownsRow base 83 2 (.slice (some ⟨g, 0, none⟩) ts.length cap) ts.length (flatT ts)) (hn : n ≤ ts.length) : w.ownsRow base 83 2 (.slice (some ⟨g, 0, none⟩) n cap) n (flatT (ts.take n)) := by
  rcases h.2 with ⟨h', _⟩ | ⟨g', cap', cur, h', hb, hg, h1, h2, h3, h4⟩
  · cases h'
  · simp only [Value.slice.injEq, Option.some.injEq, Addr.mk.injEq, and_true, true_and] at h'
    obtain ⟨rfl, rfl⟩ := h'
    refine ⟨by rw [flatT_len]; simp; omega, .inr ⟨g, cap, cur, rfl, hb, hg, by omega, h2, h3, ?_⟩⟩
    have e : flatT ts = flatT (ts.take n) ++ flatT (ts.drop n) := by rw [← flatT_app, List.take_append_drop]
    have hl : (flatT (ts.take n)).length = n * 2 := by rw [flatT_len]; simp; omega
    have e2 : cur.toList.take (n * 2) = (cur.toList.take (ts.length * 2)).take (n * 2) := by rw [List.take_take, Nat.min_eq_left (by omega)]
    rw [e2, h4, e, ← hl, List.take_left']
    rfl
theorem wfT_take {ts : List (Int × Int)} (h : wfT ts) (n : Nat) : wfT (ts.take n) := fun t ht => h t (List.mem_of_mem_take ht)
set_option maxRecDepth 100000 in
set_option maxHeartbeats 2000000 in
theorem hurtSchema_any (B0 B : Nat) (a : Option Addr) (len cap base : Nat) (v : Value) (ts : List (Int × Int)) (w : World) (h : RdAt B0 B a len cap w) (hB : B < base) (hbw : base ≤ w.heap.size) (hown : w.ownsRow base 83 2 v ts.length (flatT ts)) (hl : 0 < ts.length) (hl' : ts.length ≤ 24) (hwf : wfT ts) :
    Calls Tryz.prog 32 #[.pointer (some ⟨B, 0, none⟩), v] w fun e w' => HurtPost B0 B a len cap base v w e w' := by
  obtain ⟨i0, hi, hz0, hz1, hz2⟩ := info_parts Tryz.infoTyp2
  obtain ⟨g, c, rfl, hgb, hgl⟩ := hown.form hl
  have hsz := h.size
  have hcm : ts.length ≤ c ∧ c ≤ maxLen := by
    rcases hown.2 with ⟨h', _⟩ | ⟨g', cap', cur, h', _, _, h1, h2, _⟩
    · cases h'
    · simp only [Value.slice.injEq, Option.some.injEq, Addr.mk.injEq, and_true, true_and] at h'
      obtain ⟨rfl, rfl⟩ := h'
      exact ⟨h1, h2⟩
  have hcc := hcm.1
  have hcM := hcm.2
  unfold maxLen at hcM
  clear hcm
  have HW : Hid (wfT ts) := hwf
  have HO : Hid (w.ownsRow base 83 2 (.slice (some ⟨g, 0, none⟩) ts.length c) ts.length (flatT ts)) := hown
  clear hwf hown
  go_enter Tryz.func32, Tryz.ntmps32
  go_wp2_with fail
  refine (below_any B0 B a len cap 20 _ h (by decide) (by decide)).mono ?_
  rintro e w1 ⟨⟨x, hx, rfl⟩, hr1, hg1⟩
  have HO1 : Hid (w1.ownsRow base 83 2 (.slice (some ⟨g, 0, none⟩) ts.length c) ts.length (flatT ts)) := HO.out.kept hg1 (own_ne2 HO.out hB)
  have HR1 : Hid (RdAt B0 B a len cap w1) := hr1
  have HB1 : Hid (Kx B (some g) w w1) := Kx.of_gb hg1
  have hs1 : w.heap.size ≤ w1.heap.size := hg1.size
  clear hr1 hg1 h
  by_cases x0 : x = 0
  · subst x0
    go_wp2_with fail
    refine (off_any B0 B a len cap 0 20 _ HR1.out (by decide) (by decide) (by decide)).mono ?_
    rintro e w2 ⟨⟨z, hz1', hz2', rfl⟩, hr2, hg2⟩
    match ts, hl with
    | (k0, n0) :: rest, _ =>
      have ho2 := HO1.out.kept hg2 (own_ne2 HO1.out hB)
      have c1 : w2.cell? ⟨g, 1, none⟩ = some (.int .i64 n0) := by rw [ho2.cellAt 1 (by simp; omega)]; rfl
      have f1 := ho2.frozenAt 1
      have hst := (ho2.stored 1 (.int .i64 z)).1
      have HX : Hid (HurtPost B0 B a len cap base (.slice (some ⟨g, 0, none⟩) ((k0, n0) :: rest).length c) w (.returned (.slice (some ⟨g, 0, none⟩) ((k0, n0) :: rest).length c)) (w2.setCell ⟨g, 1, none⟩ (.int .i64 z))) :=
        ⟨⟨_, (k0, z) :: rest, rfl, hst, by simp at hl' ⊢; omega, fun t ht => by
          rcases List.mem_cons.1 ht with rfl | ht
          · exact ⟨(HW.out (k0, n0) (by simp)).1, hz1', hz2'⟩
          · exact HW.out t (by simp [ht])⟩, hr2.keep ((Below.refl _ _).setCell (p := ⟨g, 1, none⟩) (by simp; omega) _), (HB1.out.gb hg2).set rfl⟩
      clear ho2 hst hr2 hg2
      go_wp2_with fail
      go_ret
      exact HX.out
  have q0 := beqN x0
  by_cases x1 : x = 1
  · subst x1
    go_wp2_with fail
    refine (off_any B0 B a len cap 1 9 _ HR1.out (by decide) (by decide) (by decide)).mono ?_
    rintro e w2 ⟨⟨z, hz1', hz2', rfl⟩, hr2, hg2⟩
    match ts, hl with
    | (k0, n0) :: rest, _ =>
      have ho2 := HO1.out.kept hg2 (own_ne2 HO1.out hB)
      have c1 : w2.cell? ⟨g, 0, none⟩ = some (.int .i64 k0) := by rw [ho2.cellAt 0 (by simp)]; rfl
      have f1 := ho2.frozenAt 0
      have hst := (ho2.stored 0 (.int .i64 z)).1
      have HX : Hid (HurtPost B0 B a len cap base (.slice (some ⟨g, 0, none⟩) ((k0, n0) :: rest).length c) w (.returned (.slice (some ⟨g, 0, none⟩) ((k0, n0) :: rest).length c)) (w2.setCell ⟨g, 0, none⟩ (.int .i64 z))) :=
        ⟨⟨_, (z, n0) :: rest, rfl, hst, by simp at hl' ⊢; omega, fun t ht => by
          rcases List.mem_cons.1 ht with rfl | ht
          · exact ⟨⟨hz1', hz2'⟩, (HW.out (k0, n0) (by simp)).2⟩
          · exact HW.out t (by simp [ht])⟩, hr2.keep ((Below.refl _ _).setCell (p := ⟨g, 0, none⟩) (by simp; omega) _), (HB1.out.gb hg2).set rfl⟩
      clear ho2 hst hr2 hg2
      go_wp2_with fail
      go_ret
      exact HX.out
  have q1 := beqN x1
  by_cases x2 : x = 2
  · subst x2
    have HC : Hid (w1.ownsRow base 83 2 (.slice (some ⟨g, 0, none⟩) (ts.length - 1) c) (ts.length - 1) (flatT (ts.take (ts.length - 1)))) := own_cut HO1.out (by omega)
    have hlt : (ts.take (ts.length - 1)).length = ts.length - 1 := by simp
    have HL : Hid ((ts.take (ts.length - 1)).length = ts.length - 1) := hlt
    have h1c : (1 : Int) ≤ (ts.length : Int) := by omega
    clear hlt
    go_wp2_with fail
    go_ret
    exact ⟨⟨_, ts.take (ts.length - 1), rfl, by rw [HL.out]; exact HC.out, by rw [HL.out]; omega, wfT_take HW.out _⟩, HR1.out, HB1.out⟩
  have q2 := beqN x2
  by_cases x3 : x = 3
  · subst x3
    go_wp2_with (at_builtin; refine wpList_append_lies _ rfl _ _ 24 rfl base 83 i0 (.agg #[.int .i64 0, .int .i64 0]) 2 16 Tryz.underlying24 hi hz0 hz1 hz2 rfl (by decide) _ ts.length (flatT ts) rfl (HO1.out.alloc _) ⟨w1.heap.size, 0, none⟩ 1 1 (flatT [(2, 0)]) rfl rfl ?c1 ?c2 (by omega) ?c3 ?c4 ?c5 (w1.heap.size + 1) (by simp) ?_)
    case c1 => exact World.news_of_block (heap_alloc_new w1 _)
    case c2 => intro u hu; obtain ⟨z, rfl⟩ := flatT_int _ u hu; rfl
    case c3 => unfold maxLen; omega
    case c4 => omega
    case c5 => simp; omega
    intro g7 cap7 w7 hown7 hgrow hat hlt7
    have R1 : Kx B (some g) w w7 := (HB1.out.alloc _).own hgrow (fun q hq => .inl hq)
    have R2 : RdAt B0 B a len cap w7 := (HR1.out.full (bel1 _ _)).app hgrow (fun q hq => by have := HO1.out.lt q hq; omega)
    have R4 : w7.ownsRow base 83 2 (.slice (some ⟨g7, 0, none⟩) (ts.length + 1) cap7) (ts ++ [(2, 0)]).length (flatT (ts ++ [(2, 0)])) := by rw [flatT_app, List.length_append]; exact hown7
    have HX : Hid (HurtPost B0 B a len cap base (.slice (some ⟨g, 0, none⟩) ts.length c) w (.returned (.slice (some ⟨g7, 0, none⟩) (ts.length + 1) cap7)) w7) :=
      ⟨⟨_, ts ++ [(2, 0)], rfl, R4, by simp; omega, wfT_app HW.out (fun t ht => by simp at ht; subst ht; exact ⟨inI_of (by omega) (by omega), inI_of (by omega) (by omega)⟩)⟩, R2, R1⟩
    clear R1 R2 R4 hown7 hgrow hat hlt7
    go_wp2_with fail
    go_ret
    exact HX.out
  have q3 := beqN x3
  by_cases x4 : x = 4
  · subst x4
    have hal : Below w1.heap.size w1 (w1.alloc (.cells #[] 83)) := bel1 _ _
    have HR2 : Hid (RdAt B0 B a len cap (w1.alloc (.cells #[] 83))) := HR1.out.full hal
    go_wp2_with fail
    refine (below_any B0 B a len cap 3 _ HR2.out (by decide) (by decide)).mono ?_
    rintro e w2 ⟨⟨y, hy, rfl⟩, hr2, hg2⟩
    have HO2 : Hid (w2.ownsRow w.heap.size 83 2 (.slice (some ⟨w1.heap.size, 0, none⟩) 0 0) 0 (flatT [])) :=
      World.ownsRow.kept (World.ownsRow_lit (base := w.heap.size) w1 #[] 0 hs1 (by decide) rfl) hg2 (.inr (by simp [Value.ownBlock]; omega))
    have HB2 : Hid (Kx B (some g) w w2) := (HB1.out.alloc _).gb hg2
    have HR2' : Hid (RdAt B0 B a len cap w2) := hr2
    clear hr2 hg2 hal HR2 HR1 HB1
    go_wp2_with fail
    go_loopg [5, 6] (y + 5) (fun gk v i wr => ∃ ts' : List (Int × Int), i = .int .i64 gk ∧ ts'.length + gk = y + 5 ∧ wr.ownsRow w.heap.size 83 2 v ts'.length (flatT ts') ∧ wfT ts' ∧ RdAt B0 B a len cap wr ∧ Kx B (some g) w wr)
    case atStart => exact ⟨[], by go_num, by simp, HO2.out, fun t ht => by simp at ht, HR2'.out, HB2.out⟩
    case round =>
      obtain ⟨ts', rfl, hlen, ho3, hw3, hr3, hb3⟩ := hrel
      have hl12 : ts'.length ≤ 8 := by omega
      have hgk7 : gk ≤ 7 := by omega
      have HL : Hid (ts'.length + gk = y + 5) := hlen
      have HO3 : Hid (wr.ownsRow w.heap.size 83 2 u5 ts'.length (flatT ts')) := ho3
      have HW3 : Hid (wfT ts') := hw3
      have HR3 : Hid (RdAt B0 B a len cap wr) := hr3
      have HB3 : Hid (Kx B (some g) w wr) := hb3
      have hs3 : w.heap.size ≤ wr.heap.size := hb3.2.2.2.1
      clear hlen ho3 hw3 hr3 hb3 HO2 HB2 HR2'
      by_cases hgk : 0 < gk
      · have HGK : Hid ((gk : Int) - 1 = ((gk - 1 : Nat) : Int)) := by show _ = _; omega
        go_wp2_with (at_builtin; refine wpList_append_lies _ rfl _ _ 24 rfl w.heap.size 83 i0 (.agg #[.int .i64 0, .int .i64 0]) 2 16 Tryz.underlying24 hi hz0 hz1 hz2 rfl (by decide) _ ts'.length (flatT ts') rfl (HO3.out.alloc _) ⟨wr.heap.size, 0, none⟩ 1 1 (flatT [(8, 0)]) rfl rfl ?c1 ?c2 (by omega) ?c3 ?c4 ?c5 (wr.heap.size + 1) (by simp) ?_)
        case c1 => exact World.news_of_block (heap_alloc_new wr _)
        case c2 => intro u hu; obtain ⟨z, rfl⟩ := flatT_int _ u hu; rfl
        case c3 => unfold maxLen; omega
        case c4 => omega
        case c5 => simp; omega
        intro g7 cap7 w7 hown7 hgrow hat hlt7
        have R1 : Kx B (some g) w w7 := (HB3.out.alloc _).own hgrow (fun q hq => .inr (HO3.out.lt q hq).1)
        have R2 : RdAt B0 B a len cap w7 := (HR3.out.full (bel1 _ _)).app hgrow (fun q hq => by have := HO3.out.lt q hq; omega)
        have R4 : w7.ownsRow w.heap.size 83 2 (.slice (some ⟨g7, 0, none⟩) (ts'.length + 1) cap7) (ts' ++ [(8, 0)]).length (flatT (ts' ++ [(8, 0)])) := by rw [flatT_app, List.length_append]; exact hown7
        have R5 : wfT (ts' ++ [(8, 0)]) := wfT_app HW3.out (fun t ht => by simp at ht; subst ht; exact ⟨inI_of (by omega) (by omega), inI_of (by omega) (by omega)⟩)
        have HX : Hid (w7.ownsRow w.heap.size 83 2 (.slice (some ⟨g7, 0, none⟩) (ts'.length + 1) cap7) (ts' ++ [(8, 0)]).length (flatT (ts' ++ [(8, 0)])) ∧ wfT (ts' ++ [(8, 0)]) ∧ RdAt B0 B a len cap w7 ∧ Kx B (some g) w w7) := ⟨R4, R5, R2, R1⟩
        clear R1 R2 R4 R5 hown7 hgrow hat hlt7
        go_wp2_with fail
        go_roundg (gk - 1)
        case rel => exact ⟨ts' ++ [(8, 0)], by rw [← HGK.out]; try rfl, by have := HL.out; simp; omega, HX.out⟩
        case measure => omega
      · have hgk0 : gk = 0 := by omega
        subst hgk0
        go_wp2_with (at_builtin; refine wpList_append_lies _ rfl _ _ 24 rfl w.heap.size 83 i0 (.agg #[.int .i64 0, .int .i64 0]) 2 16 Tryz.underlying24 hi hz0 hz1 hz2 rfl (by decide) _ ts'.length (flatT ts') rfl (HO3.out.alloc _) ⟨wr.heap.size, 0, none⟩ 1 1 (flatT [(2, 0)]) rfl rfl ?c1 ?c2 (by omega) ?c3 ?c4 ?c5 (wr.heap.size + 1) (by simp) ?_)
        case c1 => exact World.news_of_block (heap_alloc_new wr _)
        case c2 => intro u hu; obtain ⟨z, rfl⟩ := flatT_int _ u hu; rfl
        case c3 => unfold maxLen; omega
        case c4 => omega
        case c5 => simp; omega
        intro g7 cap7 w7 hown7 hgrow hat hlt7
        have R1 : Kx B (some g) w w7 := (HB3.out.alloc _).own hgrow (fun q hq => .inr (HO3.out.lt q hq).1)
        have R2 : RdAt B0 B a len cap w7 := (HR3.out.full (bel1 _ _)).app hgrow (fun q hq => by have := HO3.out.lt q hq; omega)
        have R4 : w7.ownsRow w.heap.size 83 2 (.slice (some ⟨g7, 0, none⟩) (ts'.length + 1) cap7) (ts' ++ [(2, 0)]).length (flatT (ts' ++ [(2, 0)])) := by rw [flatT_app, List.length_append]; exact hown7
        have R5 : wfT (ts' ++ [(2, 0)]) := wfT_app HW3.out (fun t ht => by simp at ht; subst ht; exact ⟨inI_of (by omega) (by omega), inI_of (by omega) (by omega)⟩)
        have HX : Hid (HurtPost B0 B a len cap base (.slice (some ⟨g, 0, none⟩) ts.length c) w (.returned (.slice (some ⟨g7, 0, none⟩) (ts'.length + 1) cap7)) w7) := ⟨⟨_, _, rfl, own_base R4 hbw, by simp; omega, R5⟩, R2, R1⟩
        clear R1 R2 R4 R5 hown7 hgrow hat hlt7
        go_wp2_with fail
        go_ret
        exact HX.out
  have q4 := beqN x4
  go_wp2_with fail
  go_ret
  exact ⟨⟨_, ts, rfl, HO1.out, by omega, HW.out⟩, HR1.out, HB1.out⟩
end Go.Proofs.YtepffjfgomhepaaGreatDoor
