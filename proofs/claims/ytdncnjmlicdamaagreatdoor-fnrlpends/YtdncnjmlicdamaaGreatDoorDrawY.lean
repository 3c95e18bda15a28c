/- A value, hurt; the draws of schemas and values: contracts. -/
import Derived.Test.YtdncnjmlicdamaaGreatDoorDrawV
import Derived.Test.YtdncnjmlicdamaaGreatDoorDrawW
namespace Go.Proofs.YtdncnjmlicdamaaGreatDoor
open Go.RowKit Go.Sort
set_option linter.unusedVariables false
theorem flatI_set0 : ∀ {vs : List It} {i : Nat} (h : i < vs.length) (z : Int), (flatI vs).set (i * 3) (.int .i64 z) = flatI (vs.set i ⟨z, vs[i].n, vs[i].s⟩)
  | x :: r, 0, _, z => rfl
  | x :: r, i + 1, h, z => by
    have e : flatI (x :: r) = .int .i64 x.k :: .int .u64 x.n :: .string x.s :: flatI r := rfl
    have e1 : (i + 1) * 3 = i * 3 + 1 + 1 + 1 := by omega
    rw [e, e1]
    simp only [List.set_cons_succ, List.getElem_cons_succ]
    rw [flatI_set0 (vs := r) (i := i) (by simpa using h) z]
    rfl
theorem flatI_set1 : ∀ {vs : List It} {i : Nat} (h : i < vs.length) (m : Nat), (flatI vs).set (i * 3 + 1) (.int .u64 m) = flatI (vs.set i ⟨vs[i].k, m, vs[i].s⟩)
  | x :: r, 0, _, m => rfl
  | x :: r, i + 1, h, m => by
    have e : flatI (x :: r) = .int .i64 x.k :: .int .u64 x.n :: .string x.s :: flatI r := rfl
    have e1 : (i + 1) * 3 + 1 = i * 3 + 1 + 1 + 1 + 1 := by omega
    rw [e, e1]
    simp only [List.set_cons_succ, List.getElem_cons_succ]
    rw [flatI_set1 (vs := r) (i := i) (by simpa using h) m]
    rfl
theorem flatI_set2 : ∀ {vs : List It} {i : Nat} (h : i < vs.length) (t : ByteArray), (flatI vs).set (i * 3 + 2) (.string t) = flatI (vs.set i ⟨vs[i].k, vs[i].n, t⟩)
  | x :: r, 0, _, t => rfl
  | x :: r, i + 1, h, t => by
    have e : flatI (x :: r) = .int .i64 x.k :: .int .u64 x.n :: .string x.s :: flatI r := rfl
    have e1 : (i + 1) * 3 + 2 = i * 3 + 2 + 1 + 1 + 1 := by omega
    rw [e, e1]
    simp only [List.set_cons_succ, List.getElem_cons_succ]
    rw [flatI_set2 (vs := r) (i := i) (by simpa using h) t]
    rfl
theorem wfI_set {vs : List It} (h : wfI vs) {i : Nat} {x : It} (hx : inI x.k ∧ x.n < 18446744073709551616 ∧ x.s.size ≤ 1000) : wfI (vs.set i x) := fun y hy => by
  rcases List.mem_or_eq_of_mem_set hy with h1 | h1
  · exact h y h1
  · subst h1; exact hx
theorem own_cutI {w : World} {base : Nat} {g n cap : Nat} {vs : List It} (h : OwnIt base w (.slice (some ⟨g, 0, none⟩) vs.length cap) vs) (hn : n ≤ vs.length) : w.ownsRow base 52 3 (.slice (some ⟨g, 0, none⟩) n cap) n (flatI (vs.take n)) := by
  rcases h.2 with ⟨h', _⟩ | ⟨g', cap', cur, h', hb, hg, h1, h2, h3, h4⟩
  · cases h'
  · simp only [Value.slice.injEq, Option.some.injEq, Addr.mk.injEq, and_true, true_and] at h'
    obtain ⟨rfl, rfl⟩ := h'
    refine ⟨by rw [flatI_len]; simp; omega, .inr ⟨g, cap, cur, rfl, hb, hg, by omega, h2, h3, ?_⟩⟩
    have e : flatI vs = flatI (vs.take n) ++ flatI (vs.drop n) := by rw [← flatI_app, List.take_append_drop]
    have hl : (flatI (vs.take n)).length = n * 3 := by rw [flatI_len]; simp; omega
    have e2 : cur.toList.take (n * 3) = (cur.toList.take (vs.length * 3)).take (n * 3) := by rw [List.take_take, Nat.min_eq_left (by omega)]
    rw [e2, h4, e, ← hl, List.take_left']
    rfl
theorem own_keepX {w w' : World} {base e size : Nat} {v : Value} {n : Nat} {xs : List Value} (h : w.ownsRow base e size v n xs) (hk : ∀ g, v.ownBlock = some g → w'.heap[g]? = w.heap[g]?) : w'.ownsRow base e size v n xs := by
  refine ⟨h.1, ?_⟩
  rcases h.2 with h2 | ⟨g, cap, cur, hv, hg, hh, r⟩
  · exact .inl h2
  · exact .inr ⟨g, cap, cur, hv, hg, by rw [hk g (by rw [hv]; rfl)]; exact hh, r⟩
/-- What hurtValue leaves. -/
def HvPost (B0 B : Nat) (a : Option Addr) (len cap base : Nat) (v0 : Value) (w : World) (e : Ending) (w' : World) : Prop :=
  (∃ v vs, e = .returned v ∧ OwnIt base w' v vs ∧ vs.length ≤ 1500 ∧ wfI vs) ∧ RdAt B0 B a len cap w' ∧ Kx B v0.ownBlock w w'
set_option maxRecDepth 100000 in
set_option maxHeartbeats 2000000 in
theorem hurtValue_any (B0 B : Nat) (a : Option Addr) (len cap base : Nat) (v : Value) (vs : List It) (w : World) (h : RdAt B0 B a len cap w) (hB : B < base) (hbw : base ≤ w.heap.size) (hown : OwnIt base w v vs) (hl : 0 < vs.length) (hl' : vs.length ≤ 1401) (hwf : wfI vs) :
    Calls Tryz.prog 30 #[.pointer (some ⟨B, 0, none⟩), v] w fun e w' => HvPost B0 B a len cap base v w e w' := by
  obtain ⟨i0, hi, hz0, hz1, hz2⟩ := info_parts Tryz.infoItem
  obtain ⟨g, c, rfl, hgb, hgl⟩ := World.ownsRow.form hown hl
  have hsz := h.size
  have hcm : vs.length ≤ c ∧ c ≤ maxLen := by
    rcases hown.2 with ⟨h', _⟩ | ⟨g', cap', cur, h', _, _, h1, h2, _⟩
    · cases h'
    · simp only [Value.slice.injEq, Option.some.injEq, Addr.mk.injEq, and_true, true_and] at h'
      obtain ⟨rfl, rfl⟩ := h'
      exact ⟨h1, h2⟩
  have hcc := hcm.1
  have hcM := hcm.2
  unfold maxLen at hcM
  have hmx : max (vs.length : Int) 1 = vs.length := by omega
  have HW : Hid (wfI vs) := hwf
  have HO : Hid (OwnIt base w (.slice (some ⟨g, 0, none⟩) vs.length c) vs) := hown
  clear hwf hown hcm
  go_enter Tryz.func30, Tryz.ntmps30
  go_wp2_with fail
  refine (below_any B0 B a len cap vs.length _ h (by omega) (by omega)).mono ?_
  rintro e w0 ⟨⟨p, hp', rfl⟩, hr0, hg0⟩
  have hp : p < vs.length := by omega
  clear hp' h
  go_wp2_with fail
  refine (below_any B0 B a len cap 16 _ hr0 (by decide) (by decide)).mono ?_
  rintro e w1 ⟨⟨x, hx, rfl⟩, hr1, hg1'⟩
  have hg1 := gb_trans hg0 hg1'
  have HO1 : Hid (OwnIt base w1 (.slice (some ⟨g, 0, none⟩) vs.length c) vs) := World.ownsRow.kept HO.out hg1 (own_ne2 HO.out hB)
  have HR1 : Hid (RdAt B0 B a len cap w1) := hr1
  have HB1 : Hid (Kx B (some g) w w1) := Kx.of_gb hg1
  have hs1 : w.heap.size ≤ w1.heap.size := hg1.size
  clear hr1 hg1 hr0 hg0 hg1'
  obtain ⟨wk, wn, ws⟩ := HW.out vs[p] (List.getElem_mem hp)
  have hl3 := flatI_len vs
  by_cases x0 : x = 0
  · subst x0
    go_wp2_with fail
    refine (num_any B0 B a len cap _ HR1.out).mono ?_
    rintro e w2 ⟨⟨m, hm, rfl⟩, hr2, hg2⟩
    have ho2 : OwnIt base w2 (.slice (some ⟨g, 0, none⟩) vs.length c) vs := World.ownsRow.kept HO1.out hg2 (own_ne2 HO1.out hB)
    have c1 : w2.cell? ⟨g, p * 3 + 1, none⟩ = some (.int .u64 vs[p].n) := by rw [World.ownsRow.cellAt ho2 (p * 3 + 1) (by omega)]; exact (flatI_at hp).2.1
    have f1 := World.ownsRow.frozenAt ho2 (p * 3 + 1)
    have hst := (World.ownsRow.stored ho2 (p * 3 + 1) (.int .u64 m)).1
    rw [flatI_set1 hp m] at hst
    have HX : Hid (HvPost B0 B a len cap base (.slice (some ⟨g, 0, none⟩) vs.length c) w (.returned (.slice (some ⟨g, 0, none⟩) vs.length c)) (w2.setCell ⟨g, p * 3 + 1, none⟩ (.int .u64 m))) :=
      ⟨⟨_, vs.set p ⟨vs[p].k, m, vs[p].s⟩, rfl, by unfold OwnIt; rw [List.length_set]; exact hst, by rw [List.length_set]; omega, wfI_set HW.out ⟨wk, hm, ws⟩⟩, rd_set hr2 (by omega), (HB1.out.gb hg2).set rfl⟩
    clear ho2 hst hr2 hg2
    go_wp2_with fail
    go_ret
    exact HX.out
  have q0 := beqN x0
  by_cases x1 : x = 1
  · subst x1
    go_wp2_with fail
    refine (bytes_any B0 B a len cap 6 _ HR1.out (by decide)).mono ?_
    rintro e w2 ⟨⟨l, hl6, rfl⟩, hr2, hg2⟩
    have ho2 : OwnIt base w2 (.slice (some ⟨g, 0, none⟩) vs.length c) vs := World.ownsRow.kept HO1.out hg2 (own_ne2 HO1.out hB)
    have c1 : w2.cell? ⟨g, p * 3 + 2, none⟩ = some (.string vs[p].s) := by rw [World.ownsRow.cellAt ho2 (p * 3 + 2) (by omega)]; exact (flatI_at hp).2.2
    have f1 := World.ownsRow.frozenAt ho2 (p * 3 + 2)
    have hst := (World.ownsRow.stored ho2 (p * 3 + 2) (.string ⟨l.toArray⟩)).1
    rw [flatI_set2 hp ⟨l.toArray⟩] at hst
    have HX : Hid (HvPost B0 B a len cap base (.slice (some ⟨g, 0, none⟩) vs.length c) w (.returned (.slice (some ⟨g, 0, none⟩) vs.length c)) (w2.setCell ⟨g, p * 3 + 2, none⟩ (.string ⟨l.toArray⟩))) :=
      ⟨⟨_, vs.set p ⟨vs[p].k, vs[p].n, ⟨l.toArray⟩⟩, rfl, by unfold OwnIt; rw [List.length_set]; exact hst, by rw [List.length_set]; omega, wfI_set HW.out ⟨wk, wn, by show l.toArray.size ≤ 1000; simp; omega⟩⟩, rd_set hr2 (by omega), (HB1.out.gb hg2).set rfl⟩
    clear ho2 hst hr2 hg2
    go_wp2_with fail
    go_ret
    exact HX.out
  have q1 := beqN x1
  by_cases x2 : x = 2
  · subst x2
    go_wp2_with fail
    refine (off_any B0 B a len cap 1 9 _ HR1.out (by decide) (by decide) (by decide)).mono ?_
    rintro e w2 ⟨⟨z, hz1', hz2', rfl⟩, hr2, hg2⟩
    have ho2 : OwnIt base w2 (.slice (some ⟨g, 0, none⟩) vs.length c) vs := World.ownsRow.kept HO1.out hg2 (own_ne2 HO1.out hB)
    have c1 : w2.cell? ⟨g, p * 3, none⟩ = some (.int .i64 vs[p].k) := by rw [World.ownsRow.cellAt ho2 (p * 3) (by omega)]; exact (flatI_at hp).1
    have f1 := World.ownsRow.frozenAt ho2 (p * 3)
    have hst := (World.ownsRow.stored ho2 (p * 3) (.int .i64 z)).1
    rw [flatI_set0 hp z] at hst
    have HX : Hid (HvPost B0 B a len cap base (.slice (some ⟨g, 0, none⟩) vs.length c) w (.returned (.slice (some ⟨g, 0, none⟩) vs.length c)) (w2.setCell ⟨g, p * 3, none⟩ (.int .i64 z))) :=
      ⟨⟨_, vs.set p ⟨z, vs[p].n, vs[p].s⟩, rfl, by unfold OwnIt; rw [List.length_set]; exact hst, by rw [List.length_set]; omega, wfI_set HW.out ⟨⟨hz1', hz2'⟩, wn, ws⟩⟩, rd_set hr2 (by omega), (HB1.out.gb hg2).set rfl⟩
    clear ho2 hst hr2 hg2
    go_wp2_with fail
    go_ret
    exact HX.out
  have q2 := beqN x2
  by_cases x3 : x = 3
  · subst x3
    have HC : Hid (w1.ownsRow base 52 3 (.slice (some ⟨g, 0, none⟩) p c) p (flatI (vs.take p))) := own_cutI HO1.out (by omega)
    have HL : Hid ((vs.take p).length = p) := by show _ = _; simp; omega
    have hpc : (p : Int) ≤ (c : Int) := by omega
    go_wp2_with fail
    go_ret
    exact ⟨⟨_, vs.take p, rfl, by unfold OwnIt; rw [HL.out]; exact HC.out, by rw [HL.out]; omega, fun y hy => HW.out y (List.mem_of_mem_take hy)⟩, HR1.out, HB1.out⟩
  have q3 := beqN x3
  by_cases x4 : x = 4
  · subst x4
    have c0 : w1.cell? ⟨g, p * 3, none⟩ = some (.int .i64 vs[p].k) := by rw [World.ownsRow.cellAt HO1.out (p * 3) (by omega)]; exact (flatI_at hp).1
    have c1 : w1.cell? ⟨g, p * 3 + 1, none⟩ = some (.int .u64 vs[p].n) := by rw [World.ownsRow.cellAt HO1.out (p * 3 + 1) (by omega)]; exact (flatI_at hp).2.1
    have c2 : w1.cell? ⟨g, p * 3 + 2, none⟩ = some (.string vs[p].s) := by rw [World.ownsRow.cellAt HO1.out (p * 3 + 2) (by omega)]; exact (flatI_at hp).2.2
    obtain ⟨y, hy⟩ : ∃ y, vs[p] = y := ⟨_, rfl⟩
    have HY : Hid (wfI [y]) := fun z hz => by simp only [List.mem_singleton] at hz; subst hz; rw [← hy]; exact ⟨wk, wn, ws⟩
    rw [hy] at c0 c1 c2
    clear hy wk wn ws hl3
    go_wp2_with (at_builtin; refine wpList_append_lies _ rfl _ _ 25 rfl base 52 i0 (.agg #[.int .i64 0, .int .u64 0, .string ByteArray.empty]) 3 32 Tryz.underlying25 hi hz0 hz1 hz2 rfl (by decide) (.slice (some ⟨g, 0, none⟩) vs.length c) vs.length (flatI vs) rfl (HO1.out.alloc _) ⟨w1.heap.size, 0, none⟩ 1 1 (flatI [y]) rfl rfl ?c1 (flatI_one _) (by omega) ?c3 ?c4 ?c5 (w1.heap.size + 1) (by simp) ?_)
    case c1 => exact World.news_of_block (heap_alloc_new w1 _)
    case c3 => unfold maxLen; omega
    case c4 => omega
    case c5 => simp; omega
    intro g7 cap7 w7 hown7 hgrow hat hlt7
    have R1 : Kx B (some g) w w7 := (HB1.out.alloc _).own hgrow (fun q hq => .inl hq)
    have R2 : RdAt B0 B a len cap w7 := (HR1.out.full (bel1 _ _)).app hgrow (fun q hq => by have := (World.ownsRow.lt HO1.out q hq).1; omega)
    have R4 : OwnIt base w7 (.slice (some ⟨g7, 0, none⟩) (vs.length + 1) cap7) (vs ++ [y]) := by unfold OwnIt; rw [flatI_app, List.length_append]; exact hown7
    have HX : Hid (HvPost B0 B a len cap base (.slice (some ⟨g, 0, none⟩) vs.length c) w (.returned (.slice (some ⟨g7, 0, none⟩) (vs.length + 1) cap7)) w7) := ⟨⟨_, vs ++ [y], rfl, R4, by simp; omega, wfI_app HW.out HY.out⟩, R2, R1⟩
    clear R1 R2 R4 hown7 hgrow hat hlt7
    go_wp2_with fail
    go_ret
    exact HX.out
  have q4 := beqN x4
  go_wp2_with fail
  go_ret
  exact ⟨⟨_, vs, rfl, HO1.out, by omega, HW.out⟩, HR1.out, HB1.out⟩
/-- What a draw of a schema and a value leaves: each in memory of its own. -/
def DrawTPost (w : World) (e : Ending) (w' : World) : Prop := ∃ (v : Value) (ts : List (Int × Int)) (v' : Value) (vs : List It), e = .returned (.tuple #[v, v']) ∧ w'.ownsRow w.heap.size 88 2 v ts.length (flatT ts) ∧ ts.length ≤ 41 ∧ wfT ts ∧ OwnIt w.heap.size w' v' vs ∧ vs.length ≤ 1500 ∧ wfI vs ∧ Below w.heap.size w w'
set_option maxHeartbeats 1000000 in
theorem DrawTyped_any (B0 : Nat) (a : Option Addr) (len cap : Nat) (w : World) (hB : B0 ≤ w.heap.size) (hc : CodeAt B0 a len w) (hl : len ≤ 1048576) : Calls Tryz.prog 17 #[.slice a len cap] w fun e w' => DrawTPost w e w' := by
  go_enter Tryz.func17, Tryz.ntmps17
  go_wp2_with fail
  refine (l1Open_any B0 a len cap _ hB hc hl).mono ?_
  rintro e w1 ⟨rfl, hr1, hb1⟩
  have hs1 := hr1.size
  go_wp2_with fail
  refine (schema_any B0 _ a len cap _ hr1).mono ?_
  rintro e w2 ⟨⟨v, ts, rfl, hown, h0, h24, hwf, hsch⟩, hr2, hg2⟩
  have HO2 : Hid (w2.ownsRow w1.heap.size 88 2 v ts.length (flatT ts)) := hown
  have HV : Hid (Calls Tryz.prog 24 #[.pointer (some ⟨w.heap.size, 0, none⟩), v, .int .i64 0] w2 fun e w' => VaPost B0 w.heap.size a len cap 7 w2 e w') :=
    value_any B0 w.heap.size a len cap ts 7 0 ts.length v w2 (Nat.le_refl _) (schOk_iff.1 hsch).2 hr2 (fun w' hg => own_typs (World.ownsRow.kept hown hg (own_ne2 hown hs1)) (by omega) hwf)
  have HWT : Hid (wfT ts) := hwf
  have HB2 : Hid (Below w.heap.size w w2) := hb1.trans (gb_below hg2 (Nat.le_refl _) hs1)
  have hs2 : w1.heap.size ≤ w2.heap.size := hg2.size
  clear hown hwf hr1 hr2 hg2 hb1 hsch
  go_wp2_with fail
  refine Calls.mono HV.out ?_
  rintro e w3 ⟨⟨v3, vs3, rfl, hown3, h3, h3', hwf3⟩, hr3, hg3⟩
  have HO3 : Hid (w3.ownsRow w1.heap.size 88 2 v ts.length (flatT ts)) := World.ownsRow.kept HO2.out hg3 (own_ne2 HO2.out hs1)
  have HV3 : Hid (Calls Tryz.prog 30 #[.pointer (some ⟨w.heap.size, 0, none⟩), v3] w3 fun e w' => HvPost B0 w.heap.size a len cap w2.heap.size v3 w3 e w') :=
    hurtValue_any B0 w.heap.size a len cap w2.heap.size v3 vs3 w3 hr3 (by omega) hg3.size hown3 h3 (by omega) hwf3
  have HOL3 : Hid (∀ g, v3.ownBlock = some g → w2.heap.size ≤ g) := fun g hg => (World.ownsRow.lt hown3 g hg).1
  have HVL : Hid (∀ g, v.ownBlock = some g → w1.heap.size ≤ g ∧ g < w2.heap.size) := fun g hg => World.ownsRow.lt HO2.out g hg
  have HB3 : Hid (Below w.heap.size w w3) := HB2.out.trans (gb_below hg3 (Nat.le_refl _) (by omega))
  have hs3 : w2.heap.size ≤ w3.heap.size := hg3.size
  clear hown3 hr3 hg3 hwf3
  go_wp2_with fail
  refine Calls.mono HV3.out ?_
  rintro e w4 ⟨⟨v4, vs4, rfl, hown4, h4, hwf4⟩, hr4, hk4⟩
  have HO4 : Hid (w4.ownsRow w1.heap.size 88 2 v ts.length (flatT ts)) := own_keepX HO3.out (fun g hg => by
    have h1 := HVL.out g hg
    exact hk4.2.2.2.2 g (by omega) (by omega) (fun e => by have := HOL3.out g e.symm; omega))
  have HS4 : Hid (Calls Tryz.prog 31 #[.pointer (some ⟨w.heap.size, 0, none⟩), v] w4 fun e w' => HurtPost B0 w.heap.size a len cap w1.heap.size v w4 e w') :=
    hurtSchema_any B0 w.heap.size a len cap w1.heap.size v ts w4 hr4 hs1 (by have := hk4.2.2.2.1; omega) HO4.out h0 h24 HWT.out
  have HOV4 : Hid (OwnIt w2.heap.size w4 v4 vs4 ∧ vs4.length ≤ 1500 ∧ wfI vs4) := ⟨hown4, h4, hwf4⟩
  have HB4 : Hid (Below w.heap.size w w4) := HB3.out.trans (hk4.below (Nat.le_refl _) (by omega) (fun g hg => by have := HOL3.out g hg; omega))
  have hs4 : w3.heap.size ≤ w4.heap.size := hk4.2.2.2.1
  clear hown4 hwf4 hr4 hk4 HV HV3 HO3 HO2
  go_wp2_with fail
  refine Calls.mono HS4.out ?_
  rintro e w5 ⟨⟨v5, ts5, rfl, hown5, h5, hwf5⟩, hr5, hk5⟩
  have HX : Hid (DrawTPost w (.returned (.tuple #[v5, v4])) w5) := by
    have hv4 : OwnIt w2.heap.size w5 v4 vs4 := own_keepX HOV4.out.1 (fun g hg => by
      have h1 := World.ownsRow.lt HOV4.out.1 g hg
      exact hk5.2.2.2.2 g h1.2 (by omega) (fun e => by have := HVL.out g e.symm; omega))
    exact ⟨v5, ts5, v4, vs4, rfl, own_base hown5 (by omega), h5, hwf5, own_base hv4 (by omega), HOV4.out.2.1, HOV4.out.2.2, HB4.out.trans (hk5.below (Nat.le_refl _) (by omega) (fun g hg => by have := HVL.out g hg; omega))⟩
  clear hown5 hwf5 hr5 hk5
  go_wp2_with fail
  go_ret2
  exact HX.out
end Go.Proofs.YtdncnjmlicdamaaGreatDoor
