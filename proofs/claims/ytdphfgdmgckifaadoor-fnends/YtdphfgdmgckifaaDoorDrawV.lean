/- Schemas, hurt, and the draws: contracts. -/
import Derived.Test.YtdphfgdmgckifaaDoorDrawU
import Derived.Deep.LoopGhost
namespace Go.Proofs.YtdphfgdmgckifaaDoor
open Go.RowKit
set_option linter.unusedVariables false
/-- What hurtSchema leaves. -/
def HurtPost (B0 B : Nat) (a : Option Addr) (len cap base : Nat) (w : World) (e : Ending) (w' : World) : Prop :=
  (∃ v ts, e = .returned v ∧ w'.ownsRow base 38 2 v ts.length (flatT ts) ∧ ts.length ≤ 41 ∧ wfT ts) ∧ RdAt B0 B a len cap w' ∧ Below B w w'
theorem own_cut {w : World} {base : Nat} {g n cap : Nat} {ts : List (Int × Int)} (h : w.ownsRow base 38 2 (.slice (some ⟨g, 0, none⟩) ts.length cap) ts.length (flatT ts)) (hn : n ≤ ts.length) : w.ownsRow base 38 2 (.slice (some ⟨g, 0, none⟩) n cap) n (flatT (ts.take n)) := by
  rcases h.2 with ⟨h', _⟩ | ⟨g', cap', cur, h', hb, hg, h1, h2, h3, h4⟩
  · cases h'
  · simp only [Value.slice.injEq, Option.some.injEq, Addr.mk.injEq, and_true, true_and] at h'
    obtain ⟨rfl, rfl⟩ := h'
    refine ⟨by rw [flatT_len]; simp; omega, .inr ⟨g, cap, cur, rfl, hb, hg, by omega, h2, h3, ?_⟩⟩
    have e : flatT ts = flatT (ts.take n) ++ flatT (ts.drop n) := by rw [← flatT_app, List.take_append_drop]
    have hl : (flatT (ts.take n)).length = n * 2 := by rw [flatT_len]; simp; omega
    have e2 : cur.toList.take (n * 2) = (cur.toList.take (ts.length * 2)).take (n * 2) := by rw [List.take_take, Nat.min_eq_left (by omega)]
    rw [e2, h4, e, ← hl, List.take_left']
    rfl
theorem wfT_take {ts : List (Int × Int)} (h : wfT ts) (n : Nat) : wfT (ts.take n) := fun t ht => h t (List.mem_of_mem_take ht)
set_option maxHeartbeats 2000000 in
theorem hurtSchema_any (B0 B : Nat) (a : Option Addr) (len cap base : Nat) (v : Value) (ts : List (Int × Int)) (w : World) (h : RdAt B0 B a len cap w) (hB : B < base) (hbw : base ≤ w.heap.size) (hown : w.ownsRow base 38 2 v ts.length (flatT ts)) (hl : 0 < ts.length) (hl' : ts.length ≤ 24) (hwf : wfT ts) :
    Calls Tryd.prog 29 #[.pointer (some ⟨B, 0, none⟩), v] w fun e w' => HurtPost B0 B a len cap base w e w' := by
  obtain ⟨i0, hi, hz0, hz1, hz2⟩ := info_parts Tryd.infoTyp2
  obtain ⟨g, c, rfl, hgb, hgl⟩ := hown.form hl
  have hsz := h.size
  have hcm : ts.length ≤ c ∧ c ≤ maxLen := by
    rcases hown.2 with ⟨h', _⟩ | ⟨g', cap', cur, h', _, _, h1, h2, _⟩
    · cases h'
    · simp only [Value.slice.injEq, Option.some.injEq, Addr.mk.injEq, and_true, true_and] at h'
      obtain ⟨rfl, rfl⟩ := h'
      exact ⟨h1, h2⟩
  have hcc := hcm.1
  have hcM := hcm.2
  unfold maxLen at hcM
  clear hcm
  have HW : Hid (wfT ts) := hwf
  have HO : Hid (w.ownsRow base 38 2 (.slice (some ⟨g, 0, none⟩) ts.length c) ts.length (flatT ts)) := hown
  clear hwf hown
  go_enter Tryd.func29, Tryd.ntmps29
  go_wp2_with fail
  refine (below_any B0 B a len cap 20 _ h (by decide) (by decide)).mono ?_
  rintro e w1 ⟨⟨x, hx, rfl⟩, hr1, hg1⟩
  have HO1 : Hid (w1.ownsRow base 38 2 (.slice (some ⟨g, 0, none⟩) ts.length c) ts.length (flatT ts)) := HO.out.kept hg1 (own_ne2 HO.out hB)
  have HR1 : Hid (RdAt B0 B a len cap w1) := hr1
  have HB1 : Hid (Below B w w1) := gb_below hg1 (Nat.le_refl _) hsz
  have hs1 : w.heap.size ≤ w1.heap.size := hg1.size
  clear hr1 hg1 h
  by_cases x0 : x = 0
  · subst x0
    go_wp2_with fail
    refine (off_any B0 B a len cap 0 20 _ HR1.out (by decide) (by decide) (by decide)).mono ?_
    rintro e w2 ⟨⟨z, hz1', hz2', rfl⟩, hr2, hg2⟩
    match ts, hl with
    | (k0, n0) :: rest, _ =>
      have ho2 := HO1.out.kept hg2 (own_ne2 HO1.out hB)
      have c1 : w2.cell? ⟨g, 1, none⟩ = some (.int .i64 n0) := by rw [ho2.cellAt 1 (by simp; omega)]; rfl
      have f1 := ho2.frozenAt 1
      have hst := (ho2.stored 1 (.int .i64 z)).1
      have HX : Hid (HurtPost B0 B a len cap base w (.returned (.slice (some ⟨g, 0, none⟩) ((k0, n0) :: rest).length c)) (w2.setCell ⟨g, 1, none⟩ (.int .i64 z))) :=
        ⟨⟨_, (k0, z) :: rest, rfl, hst, by simp at hl' ⊢; omega, fun t ht => by
          rcases List.mem_cons.1 ht with rfl | ht
          · exact ⟨(HW.out (k0, n0) (by simp)).1, hz1', hz2'⟩
          · exact HW.out t (by simp [ht])⟩, hr2.keep ((Below.refl _ _).setCell (p := ⟨g, 1, none⟩) (by simp; omega) _), (HB1.out.trans (gb_below hg2 (Nat.le_refl _) HR1.out.size)).setCell (p := ⟨g, 1, none⟩) (by simp; omega) _⟩
      clear ho2 hst hr2 hg2
      go_wp2_with fail
      go_ret
      exact HX.out
  have q0 := beqN x0
  by_cases x1 : x = 1
  · subst x1
    go_wp2_with fail
    refine (off_any B0 B a len cap 1 9 _ HR1.out (by decide) (by decide) (by decide)).mono ?_
    rintro e w2 ⟨⟨z, hz1', hz2', rfl⟩, hr2, hg2⟩
    match ts, hl with
    | (k0, n0) :: rest, _ =>
      have ho2 := HO1.out.kept hg2 (own_ne2 HO1.out hB)
      have c1 : w2.cell? ⟨g, 0, none⟩ = some (.int .i64 k0) := by rw [ho2.cellAt 0 (by simp)]; rfl
      have f1 := ho2.frozenAt 0
      have hst := (ho2.stored 0 (.int .i64 z)).1
      have HX : Hid (HurtPost B0 B a len cap base w (.returned (.slice (some ⟨g, 0, none⟩) ((k0, n0) :: rest).length c)) (w2.setCell ⟨g, 0, none⟩ (.int .i64 z))) :=
        ⟨⟨_, (z, n0) :: rest, rfl, hst, by simp at hl' ⊢; omega, fun t ht => by
          rcases List.mem_cons.1 ht with rfl | ht
          · exact ⟨⟨hz1', hz2'⟩, (HW.out (k0, n0) (by simp)).2⟩
          · exact HW.out t (by simp [ht])⟩, hr2.keep ((Below.refl _ _).setCell (p := ⟨g, 0, none⟩) (by simp; omega) _), (HB1.out.trans (gb_below hg2 (Nat.le_refl _) HR1.out.size)).setCell (p := ⟨g, 0, none⟩) (by simp; omega) _⟩
      clear ho2 hst hr2 hg2
      go_wp2_with fail
      go_ret
      exact HX.out
  have q1 := beqN x1
  by_cases x2 : x = 2
  · subst x2
    have HC : Hid (w1.ownsRow base 38 2 (.slice (some ⟨g, 0, none⟩) (ts.length - 1) c) (ts.length - 1) (flatT (ts.take (ts.length - 1)))) := own_cut HO1.out (by omega)
    have hlt : (ts.take (ts.length - 1)).length = ts.length - 1 := by simp
    have HL : Hid ((ts.take (ts.length - 1)).length = ts.length - 1) := hlt
    have h1c : (1 : Int) ≤ (ts.length : Int) := by omega
    clear hlt
    go_wp2_with fail
    go_ret
    exact ⟨⟨_, ts.take (ts.length - 1), rfl, by rw [HL.out]; exact HC.out, by rw [HL.out]; omega, wfT_take HW.out _⟩, HR1.out, HB1.out⟩
  have q2 := beqN x2
  by_cases x3 : x = 3
  · subst x3
    go_wp2_with (at_builtin; refine wpList_append_lies _ rfl _ _ 25 rfl base 38 i0 (.agg #[.int .i64 0, .int .i64 0]) 2 16 Tryd.underlying25 hi hz0 hz1 hz2 rfl (by decide) _ ts.length (flatT ts) rfl (HO1.out.alloc _) ⟨w1.heap.size, 0, none⟩ 1 1 (flatT [(2, 0)]) rfl rfl ?c1 ?c2 (by omega) ?c3 ?c4 ?c5 (w1.heap.size + 1) (by simp) ?_)
    case c1 => exact World.news_of_block (heap_alloc_new w1 _)
    case c2 => intro u hu; obtain ⟨z, rfl⟩ := flatT_int _ u hu; rfl
    case c3 => unfold maxLen; omega
    case c4 => omega
    case c5 => simp; omega
    intro g7 cap7 w7 hown7 hgrow hat hlt7
    have R1 : Below B w w7 := (HB1.out.alloc (by omega) _).grown hgrow (by simp; omega) (fun q hq => by have := HO1.out.lt q hq; omega)
    have R2 : RdAt B0 B a len cap w7 := (HR1.out.full (bel1 _ _)).app hgrow (fun q hq => by have := HO1.out.lt q hq; omega)
    have R4 : w7.ownsRow base 38 2 (.slice (some ⟨g7, 0, none⟩) (ts.length + 1) cap7) (ts ++ [(2, 0)]).length (flatT (ts ++ [(2, 0)])) := by rw [flatT_app, List.length_append]; exact hown7
    have HX : Hid (HurtPost B0 B a len cap base w (.returned (.slice (some ⟨g7, 0, none⟩) (ts.length + 1) cap7)) w7) :=
      ⟨⟨_, ts ++ [(2, 0)], rfl, R4, by simp; omega, wfT_app HW.out (fun t ht => by simp at ht; subst ht; exact ⟨inI_of (by omega) (by omega), inI_of (by omega) (by omega)⟩)⟩, R2, R1⟩
    clear R1 R2 R4 hown7 hgrow hat hlt7
    go_wp2_with fail
    go_ret
    exact HX.out
  have q3 := beqN x3
  by_cases x4 : x = 4
  · subst x4
    have hal : Below w1.heap.size w1 (w1.alloc (.cells #[] 38)) := bel1 _ _
    have HR2 : Hid (RdAt B0 B a len cap (w1.alloc (.cells #[] 38))) := HR1.out.full hal
    go_wp2_with fail
    refine (below_any B0 B a len cap 3 _ HR2.out (by decide) (by decide)).mono ?_
    rintro e w2 ⟨⟨y, hy, rfl⟩, hr2, hg2⟩
    have HO2 : Hid (w2.ownsRow base 38 2 (.slice (some ⟨w1.heap.size, 0, none⟩) 0 0) 0 (flatT [])) :=
      World.ownsRow.kept (World.ownsRow_lit w1 #[] 0 (by omega) (by decide) rfl) hg2 (.inr (by simp [Value.ownBlock]; omega))
    have HB2 : Hid (Below B w w2) := (HB1.out.alloc (by omega) _).trans (gb_below hg2 (Nat.le_refl _) HR2.out.size)
    have HR2' : Hid (RdAt B0 B a len cap w2) := hr2
    clear hr2 hg2 hal HR2 HR1 HB1
    go_wp2_with fail
    go_loopg [5, 6] (y + 5) (fun gk v i wr => ∃ ts' : List (Int × Int), i = .int .i64 gk ∧ ts'.length + gk = y + 5 ∧ wr.ownsRow base 38 2 v ts'.length (flatT ts') ∧ wfT ts' ∧ RdAt B0 B a len cap wr ∧ Below B w wr)
    case atStart => exact ⟨[], by go_num, by simp, HO2.out, fun t ht => by simp at ht, HR2'.out, HB2.out⟩
    case round =>
      obtain ⟨ts', rfl, hlen, ho3, hw3, hr3, hb3⟩ := hrel
      have hl12 : ts'.length ≤ 8 := by omega
      have hgk7 : gk ≤ 7 := by omega
      have HL : Hid (ts'.length + gk = y + 5) := hlen
      have HO3 : Hid (wr.ownsRow base 38 2 u5 ts'.length (flatT ts')) := ho3
      have HW3 : Hid (wfT ts') := hw3
      have HR3 : Hid (RdAt B0 B a len cap wr) := hr3
      have HB3 : Hid (Below B w wr) := hb3
      have hs3 : w.heap.size ≤ wr.heap.size := hb3.size
      clear hlen ho3 hw3 hr3 hb3 HO2 HB2 HR2'
      by_cases hgk : 0 < gk
      · have HGK : Hid ((gk : Int) - 1 = ((gk - 1 : Nat) : Int)) := by show _ = _; omega
        go_wp2_with (at_builtin; refine wpList_append_lies _ rfl _ _ 25 rfl base 38 i0 (.agg #[.int .i64 0, .int .i64 0]) 2 16 Tryd.underlying25 hi hz0 hz1 hz2 rfl (by decide) _ ts'.length (flatT ts') rfl (HO3.out.alloc _) ⟨wr.heap.size, 0, none⟩ 1 1 (flatT [(8, 0)]) rfl rfl ?c1 ?c2 (by omega) ?c3 ?c4 ?c5 (wr.heap.size + 1) (by simp) ?_)
        case c1 => exact World.news_of_block (heap_alloc_new wr _)
        case c2 => intro u hu; obtain ⟨z, rfl⟩ := flatT_int _ u hu; rfl
        case c3 => unfold maxLen; omega
        case c4 => omega
        case c5 => simp; omega
        intro g7 cap7 w7 hown7 hgrow hat hlt7
        have R1 : Below B w w7 := (HB3.out.alloc (by omega) _).grown hgrow (by simp; omega) (fun q hq => by have := HO3.out.lt q hq; omega)
        have R2 : RdAt B0 B a len cap w7 := (HR3.out.full (bel1 _ _)).app hgrow (fun q hq => by have := HO3.out.lt q hq; omega)
        have R4 : w7.ownsRow base 38 2 (.slice (some ⟨g7, 0, none⟩) (ts'.length + 1) cap7) (ts' ++ [(8, 0)]).length (flatT (ts' ++ [(8, 0)])) := by rw [flatT_app, List.length_append]; exact hown7
        have R5 : wfT (ts' ++ [(8, 0)]) := wfT_app HW3.out (fun t ht => by simp at ht; subst ht; exact ⟨inI_of (by omega) (by omega), inI_of (by omega) (by omega)⟩)
        have HX : Hid (w7.ownsRow base 38 2 (.slice (some ⟨g7, 0, none⟩) (ts'.length + 1) cap7) (ts' ++ [(8, 0)]).length (flatT (ts' ++ [(8, 0)])) ∧ wfT (ts' ++ [(8, 0)]) ∧ RdAt B0 B a len cap w7 ∧ Below B w w7) := ⟨R4, R5, R2, R1⟩
        clear R1 R2 R4 R5 hown7 hgrow hat hlt7
        go_wp2_with fail
        go_roundg (gk - 1)
        case rel => exact ⟨ts' ++ [(8, 0)], by rw [← HGK.out]; try rfl, by have := HL.out; simp; omega, HX.out⟩
        case measure => omega
      · have hgk0 : gk = 0 := by omega
        subst hgk0
        go_wp2_with (at_builtin; refine wpList_append_lies _ rfl _ _ 25 rfl base 38 i0 (.agg #[.int .i64 0, .int .i64 0]) 2 16 Tryd.underlying25 hi hz0 hz1 hz2 rfl (by decide) _ ts'.length (flatT ts') rfl (HO3.out.alloc _) ⟨wr.heap.size, 0, none⟩ 1 1 (flatT [(2, 0)]) rfl rfl ?c1 ?c2 (by omega) ?c3 ?c4 ?c5 (wr.heap.size + 1) (by simp) ?_)
        case c1 => exact World.news_of_block (heap_alloc_new wr _)
        case c2 => intro u hu; obtain ⟨z, rfl⟩ := flatT_int _ u hu; rfl
        case c3 => unfold maxLen; omega
        case c4 => omega
        case c5 => simp; omega
        intro g7 cap7 w7 hown7 hgrow hat hlt7
        have R1 : Below B w w7 := (HB3.out.alloc (by omega) _).grown hgrow (by simp; omega) (fun q hq => by have := HO3.out.lt q hq; omega)
        have R2 : RdAt B0 B a len cap w7 := (HR3.out.full (bel1 _ _)).app hgrow (fun q hq => by have := HO3.out.lt q hq; omega)
        have R4 : w7.ownsRow base 38 2 (.slice (some ⟨g7, 0, none⟩) (ts'.length + 1) cap7) (ts' ++ [(2, 0)]).length (flatT (ts' ++ [(2, 0)])) := by rw [flatT_app, List.length_append]; exact hown7
        have R5 : wfT (ts' ++ [(2, 0)]) := wfT_app HW3.out (fun t ht => by simp at ht; subst ht; exact ⟨inI_of (by omega) (by omega), inI_of (by omega) (by omega)⟩)
        have HX : Hid (HurtPost B0 B a len cap base w (.returned (.slice (some ⟨g7, 0, none⟩) (ts'.length + 1) cap7)) w7) := ⟨⟨_, _, rfl, R4, by simp; omega, R5⟩, R2, R1⟩
        clear R1 R2 R4 R5 hown7 hgrow hat hlt7
        go_wp2_with fail
        go_ret
        exact HX.out
  have q4 := beqN x4
  go_wp2_with fail
  go_ret
  exact ⟨⟨_, ts, rfl, HO1.out, by omega, HW.out⟩, HR1.out, HB1.out⟩
/-- What a draw of a schema leaves. -/
def DrawPost (w : World) (e : Ending) (w' : World) : Prop := ∃ v ts, e = .returned v ∧ w'.ownsRow w.heap.size 38 2 v ts.length (flatT ts) ∧ ts.length ≤ 41 ∧ wfT ts ∧ Below w.heap.size w w'
set_option maxHeartbeats 400000 in
theorem DrawSchemaOk_any (B0 : Nat) (a : Option Addr) (len cap : Nat) (w : World) (hB : B0 ≤ w.heap.size) (hc : CodeAt B0 a len w) (hl : len ≤ 1048576) : Calls Tryd.prog 32 #[.slice a len cap] w fun e w' => DrawPost w e w' := by
  go_enter Tryd.func32, Tryd.ntmps32
  go_wp2_with fail
  refine (l1Open_any B0 a len cap _ hB hc hl).mono ?_
  rintro e w1 ⟨rfl, hr1, hb1⟩
  have hs1 := hr1.size
  go_wp2_with fail
  refine (schema_any B0 _ a len cap _ hr1).mono ?_
  rintro e w2 ⟨⟨v, ts, rfl, hown, h0, h24, hwf⟩, hr2, hg2⟩
  have hB2 : Below w.heap.size w w2 := hb1.trans (gb_below hg2 (Nat.le_refl _) hs1)
  go_wp2_with fail
  refine (hurtSchema_any B0 w.heap.size a len cap w1.heap.size v ts w2 hr2 hs1 hg2.size hown h0 h24 hwf).mono ?_
  rintro e w3 ⟨⟨v3, ts3, rfl, hown3, h3, hwf3⟩, hr3, hb3⟩
  have HX : Hid (DrawPost w (.returned v3) w3) := ⟨v3, ts3, rfl, own_base hown3 (by omega), h3, hwf3, hB2.trans hb3⟩
  clear hown hown3 hr1 hr2 hr3 hb1 hb3 hB2 hg2
  go_wp2_with fail
  go_ret
  exact HX.out
theorem DrawDepthOf_any (B0 : Nat) (a : Option Addr) (len cap : Nat) (w : World) (hB : B0 ≤ w.heap.size) (hc : CodeAt B0 a len w) (hl : len ≤ 1048576) : Calls Tryd.prog 19 #[.slice a len cap] w fun e w' => DrawPost w e w' := by
  go_enter Tryd.func19, Tryd.ntmps19
  go_wp2_with fail
  refine (DrawSchemaOk_any B0 a len cap _ hB hc hl).mono ?_
  rintro e w1 ⟨v, ts, rfl, hr⟩
  have HX : Hid (DrawPost w (.returned v) w1) := ⟨v, ts, rfl, hr⟩
  clear hr
  go_wp2_with fail
  go_ret
  exact HX.out
/-- What a draw of a schema and a place leaves. -/
def DrawPost2 (w : World) (e : Ending) (w' : World) : Prop := ∃ v ts z, e = .returned (.tuple #[v, .int .i64 z]) ∧ inI z ∧ w'.ownsRow w.heap.size 38 2 v ts.length (flatT ts) ∧ ts.length ≤ 41 ∧ wfT ts ∧ Below w.heap.size w w'
theorem own_slice {w : World} {base e size : Nat} {v : Value} {n : Nat} {xs : List Value} (h : w.ownsRow base e size v n xs) : ∃ ad cap, v = .slice ad n cap := by
  rcases h.2 with ⟨hv, h0⟩ | ⟨g, cap, cur, hv, _⟩
  · exact ⟨none, 0, by rw [hv, h0]⟩
  · exact ⟨_, cap, hv⟩
set_option maxHeartbeats 400000 in
theorem DrawEndOf_any (B0 : Nat) (a : Option Addr) (len cap : Nat) (w : World) (hB : B0 ≤ w.heap.size) (hc : CodeAt B0 a len w) (hl : len ≤ 1048576) : Calls Tryd.prog 18 #[.slice a len cap] w fun e w' => DrawPost2 w e w' := by
  go_enter Tryd.func18, Tryd.ntmps18
  go_wp2_with fail
  refine (l1Open_any B0 a len cap _ hB hc hl).mono ?_
  rintro e w1 ⟨rfl, hr1, hb1⟩
  have hs1 := hr1.size
  go_wp2_with fail
  refine (schema_any B0 _ a len cap _ hr1).mono ?_
  rintro e w2 ⟨⟨v, ts, rfl, hown, h0, h24, hwf⟩, hr2, hg2⟩
  have hB2 : Below w.heap.size w w2 := hb1.trans (gb_below hg2 (Nat.le_refl _) hs1)
  go_wp2_with fail
  refine (hurtSchema_any B0 w.heap.size a len cap w1.heap.size v ts w2 hr2 hs1 hg2.size hown h0 h24 hwf).mono ?_
  rintro e w3 ⟨⟨v3, ts3, rfl, hown3, h3, hwf3⟩, hr3, hb3⟩
  have HO3 : Hid (w3.ownsRow w1.heap.size 38 2 v3 ts3.length (flatT ts3)) := hown3
  have HB3 : Hid (Below w.heap.size w w3) := hB2.trans hb3
  have HR3 : Hid (RdAt B0 w.heap.size a len cap w3) := hr3
  have HW3 : Hid (wfT ts3) := hwf3
  obtain ⟨ad3, c3, rfl⟩ := own_slice hown3
  clear hown hown3 hr1 hr2 hr3 hb1 hb3 hB2 hg2 hwf hwf3
  have fin : ∀ m : Int, 0 ≤ m → m ≤ 41 → Hid (Calls Tryd.prog 31 #[.pointer (some ⟨w.heap.size, 0, none⟩), .int .i64 0, .int .i64 m] w3 fun e w' => ∃ z, e = .returned (.int .i64 z) ∧ DrawPost2 w (.returned (.tuple #[.slice ad3 ts3.length c3, .int .i64 z])) w') := fun m hm0 hm1 => by
    refine (off_any B0 w.heap.size a len cap 0 m w3 HR3.out (by omega) hm0 (by omega)).mono ?_
    rintro e w4 ⟨⟨z, hz1, hz2, rfl⟩, hr4, hg4⟩
    exact ⟨z, rfl, _, ts3, z, rfl, ⟨hz1, hz2⟩, own_base (HO3.out.kept hg4 (own_ne2 HO3.out hs1)) (by omega), h3, HW3.out, HB3.out.trans (gb_below hg4 (Nat.le_refl _) HR3.out.size)⟩
  by_cases hz : (ts3.length : Int) - 1 < 0
  · have hq : ¬ (0 : Int) > (ts3.length : Int) - 1 ∨ True := .inr trivial
    clear hq
    have F0 := fin 0 (by omega) (by omega)
    clear fin
    go_wp2_with fail
    refine Calls.mono F0.out ?_
    rintro e w4 ⟨z, rfl, hx⟩
    have HX : Hid (DrawPost2 w (.returned (.tuple #[.slice ad3 ts3.length c3, .int .i64 z])) w4) := hx
    clear hx
    go_wp2_with fail
    go_ret2
    exact HX.out
  · have F0 := fin ((ts3.length : Int) - 1) (by omega) (by omega)
    clear fin
    go_wp2_with fail
    refine Calls.mono F0.out ?_
    rintro e w4 ⟨z, rfl, hx⟩
    have HX : Hid (DrawPost2 w (.returned (.tuple #[.slice ad3 ts3.length c3, .int .i64 z])) w4) := hx
    clear hx
    go_wp2_with fail
    go_ret2
    exact HX.out
end Go.Proofs.YtdphfgdmgckifaaDoor
