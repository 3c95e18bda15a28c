/- A schema twice, two values of it: contract of the laws' helper. -/
import Derived.Test.YtjpdhenmhffmeaaDoorDrawY
import Derived.Test.YtjpdhenmhffmeaaDoorPz
import Derived.Test.YtjpdhenmhffmeaaDoorS2d
namespace Go.Proofs.YtjpdhenmhffmeaaDoor
open Go.RowKit Go.Sort
set_option linter.unusedVariables false
/-- Nothing is appended. -/
theorem app_none {P : Program} (t ty e : TypeId) (i : TypeInfo) (ht : P.underlying t = some (.slice e)) (hi : P.info? e = some i) (b ad : Option Addr) (n cap c : Nat) (hle : n ≤ cap) (w : World) : (Builtin.append_ #[t, t] ty #[.slice b n cap, .slice ad 0 c]).run P w = .ok (.slice b n cap) w := by
  cases b <;> cases ad <;> simp [Builtin.append_, run_underlying ht, Go.sizeOf, typeInfo, hi, hle, loadCells, storeCells, go_sem]
theorem wpList_append_none {P : Program} {w : World} {ops : Array Oper} {rest : List Oper} {o : Oper} {a : Act} {Q : Exit → Act → World → Prop} (hgd : o.guard = none) (s x : Operand) (t : TypeId)
    (ho : o.op = .call { callee := .builtin .append, args := #[s, x], argTypes := #[t, t] }) (e : TypeId) (i : TypeInfo) (ht : P.underlying t = some (.slice e)) (hi : P.info? e = some i) (b ad : Option Addr) (n cap c : Nat) (hle : n ≤ cap)
    (hs : a.eval s = .slice b n cap) (hx : a.eval x = .slice ad 0 c) (h : wpList P ops Q rest (a.put o.dst (.slice b n cap)) w) : wpList P ops Q (o :: rest) a w :=
  wpList_plain hgd fun _ hK => by
    have hr := app_none (P := P) t o.type e i ht hi b ad n cap c hle w
    unfold Oper.wp execOp
    simp only [ho, resolve, invoke, builtin, Sem.run_bind, Sem.run_pure, Result.andThen_ok, List.map_toArray, List.map_cons, List.map_nil, hs, hx, hr]
    exact hK _ _ h
/-- What the types' part of twice has made. -/
def TwT (ts : List (Int × Int)) (w : World) (t : Value) (wz : World) : Prop := (∃ ad n cap, t = .slice ad n cap) ∧ wz.ownsRow w.heap.size 37 2 t (twT ts).length (flatT (twT ts)) ∧ Below w.heap.size w wz
def TwX (vs : List It) (B : Nat) (w : World) (x : Value) (wz : World) : Prop := (∃ ad cap, x = .slice ad (twX 7 vs).length cap) ∧ OwnIt B wz x (twX 7 vs) ∧ Below w.heap.size w wz
/-- What twice leaves. -/
def TwPost (ts : List (Int × Int)) (vs : List It) (w : World) (e : Ending) (w' : World) : Prop :=
  ∃ t x, e = .returned (.tuple #[t, x, .bool (schOk (twT ts) && decide ((twX 7 vs).length ≤ 200))]) ∧ w'.ownsRow w.heap.size 37 2 t (twT ts).length (flatT (twT ts)) ∧ OwnIt w.heap.size w' x (twX 7 vs) ∧ Below w.heap.size w w'
theorem wfT_tw {ts : List (Int × Int)} (h : wfT ts) : wfT (twT ts) := fun t ht => by
  simp only [twT, List.mem_cons, List.mem_append, or_self] at ht
  rcases ht with rfl | ht
  · exact ⟨⟨by decide, by decide⟩, ⟨by decide, by decide⟩⟩
  · exact h t ht
theorem wfI_tw {k : Int} {vs : List It} (hk : inI k) (h : wfI vs) : wfI (twX k vs) := fun x hx => by
  simp only [twX, List.mem_cons, List.mem_append, or_self] at hx
  rcases hx with rfl | hx
  · exact ⟨hk, by show (2 : Nat) < _; omega, by show (0 : Nat) ≤ 1000; omega⟩
  · exact h x hx
set_option maxRecDepth 100000 in
set_option maxHeartbeats 4000000 in
theorem twice_any (ts : List (Int × Int)) (vs : List It) (v v' : Value) (base : Nat) (w : World) (hT : w.ownsRow base 37 2 v ts.length (flatT ts)) (hI : OwnIt base w v' vs) (h41 : ts.length ≤ 41) (hwf : wfT ts) (h15 : vs.length ≤ 1500) (hwi : wfI vs) :
    Calls Tryd.prog 10 #[v, v', v'] w fun e w' => TwPost ts vs w e w' := by
  obtain ⟨i0, hi, hz0, hz1, hz2⟩ := info_parts Tryd.infoTyp2
  obtain ⟨j0, hj, jz0, jz1, jz2⟩ := info_parts Tryd.infoItem
  have HT : Hid (w.ownsRow base 37 2 v ts.length (flatT ts)) := hT
  have HI : Hid (OwnIt base w v' vs) := hI
  have HWF : Hid (wfT ts) := hwf
  have fT : ∃ ad cT, v = .slice ad ts.length cT ∧ (ts.length = 0 ∨ ∃ g, ad = some ⟨g, 0, none⟩ ∧ g < w.heap.size) := by
    rcases hT.2 with ⟨h1, h0⟩ | ⟨g, cp, cur, h1, _, hh, _⟩
    · exact ⟨none, 0, by rw [h1, h0], .inl h0⟩
    · exact ⟨_, cp, h1, .inr ⟨g, rfl, blk_lt hh⟩⟩
  have fI : ∃ ad cT, v' = .slice ad vs.length cT ∧ (vs.length = 0 ∨ ∃ g, ad = some ⟨g, 0, none⟩ ∧ g < w.heap.size) := by
    rcases hI.2 with ⟨h1, h0⟩ | ⟨g, cp, cur, h1, _, hh, _⟩
    · exact ⟨none, 0, by rw [h1, h0], .inl h0⟩
    · exact ⟨_, cp, h1, .inr ⟨g, rfl, blk_lt hh⟩⟩
  obtain ⟨ad, cT, rfl, fT⟩ := fT
  obtain ⟨bd, cI, rfl, fI⟩ := fI
  clear hT hI hwf
  go_enter Tryd.func10, Tryd.ntmps10
  go_upto_region 1 with fail
  go_cut [9] (fun t wz => TwT ts w t wz)
  case first =>
    have HO1 : Hid ((w.alloc (.cells #[.int .i64 7, .int .i64 2] 37)).ownsRow w.heap.size 37 2 (.slice (some ⟨w.heap.size, 0, none⟩) 1 1) 1 (flatT [(7, 2)])) := World.ownsRow_lit w #[.int .i64 7, .int .i64 2] 1 (Nat.le_refl _) (by decide) rfl
    by_cases f0 : ts.length = 0
    · have HX : Hid (TwT ts w (.slice (some ⟨w.heap.size, 0, none⟩) 1 1) (w.alloc (.cells #[.int .i64 7, .int .i64 2] 37))) := by
        have hts : ts = [] := List.eq_nil_of_length_eq_zero f0
        subst hts
        exact ⟨⟨_, _, _, rfl⟩, HO1.out, bel1 _ _⟩
      have HF0 : Hid (ts.length = 0) := f0
      clear fT f0
      go_wp2_with (at_builtin; refine wpList_append_none rfl _ _ 24 rfl 37 i0 Tryd.underlying24 hi (some ⟨w.heap.size, 0, none⟩) ad 1 1 cT (Nat.le_refl _) rfl (by show Value.slice ad ts.length cT = _; rw [HF0.out]) ?_)
      go_meet
      case rel => exact HX.out
    · obtain ⟨g, rfl, hg⟩ := fT.resolve_left f0
      have hpos : 0 < ts.length := by omega
      have HC : Hid (∀ w' : World, w'.heap[g]? = w.heap[g]? → ∀ j u, (flatT ts)[j]? = some u → w'.cell? ((⟨g, 0, none⟩ : Addr).add j) = some u) := fun w' hk j u hu => (own_keepX HT.out (fun g' hg' => by cases hg'; exact hk)).cells (g := g) rfl j u hu
      go_wp2_with (at_builtin; refine wpList_append_lies _ rfl _ _ 24 rfl w.heap.size 37 i0 (.agg #[.int .i64 0, .int .i64 0]) 2 16 Tryd.underlying24 hi hz0 hz1 hz2 rfl (by decide) _ 1 (flatT [(7, 2)]) rfl HO1.out ⟨g, 0, none⟩ ts.length cT (flatT ts) rfl (flatT_len ts) (HC.out _ (Below.heap_alloc _ _ _ hg)) (fun u hu => by obtain ⟨z, rfl⟩ := flatT_int ts u hu; rfl) hpos (by unfold maxLen; omega) (by omega) (by simp) _ rfl ?_)
      intro g2 cap2 w2 hown2 hgrow2 hat2 hlt2
      have hg2 : w.heap.size ≤ g2 := by
          rcases hat2 with h | h
          · simp [Value.ownBlock] at h; omega
          · first | omega | (simp at h; omega)
      have HO2 : Hid (w2.ownsRow w.heap.size 37 2 (.slice (some ⟨g2, 0, none⟩) (1 + ts.length) cap2) (1 + ts.length) (flatT [(7, 2)] ++ flatT ts)) := hown2
      have HB2 : Hid (Below w.heap.size w w2) := (bel1 _ _).grown hgrow2 (by simp) (fun q hq => by simp [Value.ownBlock] at hq; omega)
      clear hown2 hgrow2 hat2
      go_wp2_with (at_builtin; refine wpList_append_lies _ rfl _ _ 24 rfl w.heap.size 37 i0 (.agg #[.int .i64 0, .int .i64 0]) 2 16 Tryd.underlying24 hi hz0 hz1 hz2 rfl (by decide) _ (1 + ts.length) (flatT [(7, 2)] ++ flatT ts) rfl HO2.out ⟨g, 0, none⟩ ts.length cT (flatT ts) rfl (flatT_len ts) (HC.out _ (HB2.out.block g hg)) (fun u hu => by obtain ⟨z, rfl⟩ := flatT_int ts u hu; rfl) hpos (by unfold maxLen; omega) (by omega) HB2.out.size _ rfl ?_)
      intro g3 cap3 w3 hown3 hgrow3 hat3 hlt3
      have HX : Hid (TwT ts w (.slice (some ⟨g3, 0, none⟩) (1 + ts.length + ts.length) cap3) w3) := by
        refine ⟨⟨_, _, _, rfl⟩, ?_, HB2.out.grown hgrow3 HB2.out.size (fun q hq => by simp [Value.ownBlock] at hq; omega)⟩
        have e1 : (twT ts).length = 1 + ts.length + ts.length := by simp [twT]; omega
        have e2 : flatT (twT ts) = flatT [(7, 2)] ++ flatT ts ++ flatT ts := by rw [← flatT_app, ← flatT_app]; rfl
        rw [e1, e2]; exact hown3
      clear hown3 hgrow3 hat3 hlt3 hlt2
      go_wp2_with fail
      go_meet
      case rel => simpa [Nat.add_assoc] using HX.out
  case rest =>
    obtain ⟨⟨ta, tn, tc, rfl⟩, hot, hbt⟩ := hcut
    have HOT : Hid (wc.ownsRow w.heap.size 37 2 (.slice ta tn tc) (twT ts).length (flatT (twT ts))) := hot
    have HBT : Hid (Below w.heap.size w wc) := hbt
    have hwc : w.heap.size ≤ wc.heap.size := hbt.size
    have HIc : Hid (OwnIt base wc (.slice bd vs.length cI) vs) := own_keepX HI.out (fun g hg => hbt.block g (World.ownsRow.lt HI.out g hg).2)
    clear hot hbt fT
    rename World => wt
    go_upto_region 2 with fail
    go_cut [10] (fun x wz => TwX vs wt.heap.size wt x wz)
    case first =>
      have HO1 : Hid ((wt.alloc (.cells #[.int .i64 7, .int .u64 2, .string ⟨#[]⟩] 40)).ownsRow wt.heap.size 40 3 (.slice (some ⟨wt.heap.size, 0, none⟩) 1 1) 1 (flatI [⟨7, 2, ⟨#[]⟩⟩])) := World.ownsRow_lit wt #[.int .i64 7, .int .u64 2, .string ⟨#[]⟩] 1 (Nat.le_refl _) (by decide) rfl
      by_cases f0 : vs.length = 0
      · have HX : Hid (TwX vs wt.heap.size wt (.slice (some ⟨wt.heap.size, 0, none⟩) 1 1) (wt.alloc (.cells #[.int .i64 7, .int .u64 2, .string ⟨#[]⟩] 40))) := by
          have hvs : vs = [] := List.eq_nil_of_length_eq_zero f0
          subst hvs
          exact ⟨⟨_, _, rfl⟩, HO1.out, bel1 _ _⟩
        have HF0 : Hid (vs.length = 0) := f0
        clear fI f0
        go_wp2_with (at_builtin; refine wpList_append_none rfl _ _ 25 rfl 40 j0 Tryd.underlying25 hj (some ⟨wt.heap.size, 0, none⟩) bd 1 1 cI (Nat.le_refl _) rfl (by show Value.slice bd vs.length cI = _; rw [HF0.out]) ?_)
        go_meet
        case rel => exact HX.out
      · obtain ⟨g, rfl, hg⟩ := fI.resolve_left f0
        have hpos : 0 < vs.length := by omega
        have hgc : g < wt.heap.size := by omega
        have HC : Hid (∀ w' : World, w'.heap[g]? = wt.heap[g]? → ∀ j u, (flatI vs)[j]? = some u → w'.cell? ((⟨g, 0, none⟩ : Addr).add j) = some u) := fun w' hk j u hu => World.ownsRow.cells (own_keepX HIc.out (fun g' hg' => by cases hg'; exact hk)) (g := g) rfl j u hu
        go_wp2_with (at_builtin; refine wpList_append_lies _ rfl _ _ 25 rfl wt.heap.size 40 j0 (.agg #[.int .i64 0, .int .u64 0, .string ByteArray.empty]) 3 32 Tryd.underlying25 hj jz0 jz1 jz2 rfl (by decide) _ 1 (flatI [⟨7, 2, ⟨#[]⟩⟩]) rfl HO1.out ⟨g, 0, none⟩ vs.length cI (flatI vs) rfl (flatI_len vs) (HC.out _ (Below.heap_alloc _ _ _ hgc)) (flatI_one _) hpos (by unfold maxLen; omega) (by omega) (by simp) _ rfl ?_)
        intro g2 cap2 w2 hown2 hgrow2 hat2 hlt2
        have hg2 : wt.heap.size ≤ g2 := by
          rcases hat2 with h | h
          · simp [Value.ownBlock] at h; omega
          · first | omega | (simp at h; omega)
        have HO2 : Hid (w2.ownsRow wt.heap.size 40 3 (.slice (some ⟨g2, 0, none⟩) (1 + vs.length) cap2) (1 + vs.length) (flatI [⟨7, 2, ⟨#[]⟩⟩] ++ flatI vs)) := hown2
        have HB2 : Hid (Below wt.heap.size wt w2) := (bel1 _ _).grown hgrow2 (by simp) (fun q hq => by simp [Value.ownBlock] at hq; omega)
        clear hown2 hgrow2 hat2
        go_wp2_with (at_builtin; refine wpList_append_lies _ rfl _ _ 25 rfl wt.heap.size 40 j0 (.agg #[.int .i64 0, .int .u64 0, .string ByteArray.empty]) 3 32 Tryd.underlying25 hj jz0 jz1 jz2 rfl (by decide) _ (1 + vs.length) (flatI [⟨7, 2, ⟨#[]⟩⟩] ++ flatI vs) rfl HO2.out ⟨g, 0, none⟩ vs.length cI (flatI vs) rfl (flatI_len vs) (HC.out _ (HB2.out.block g hgc)) (flatI_one _) hpos (by unfold maxLen; omega) (by omega) HB2.out.size _ rfl ?_)
        intro g3 cap3 w3 hown3 hgrow3 hat3 hlt3
        have HX : Hid (TwX vs wt.heap.size wt (.slice (some ⟨g3, 0, none⟩) (1 + vs.length + vs.length) cap3) w3) := by
          have e1 : (twX 7 vs).length = 1 + vs.length + vs.length := by simp [twX]; omega
          have e2 : flatI (twX 7 vs) = flatI [⟨7, 2, ⟨#[]⟩⟩] ++ flatI vs ++ flatI vs := by rw [← flatI_app, ← flatI_app]; rfl
          refine ⟨⟨_, _, by rw [e1]⟩, ?_, HB2.out.grown hgrow3 HB2.out.size (fun q hq => by simp [Value.ownBlock] at hq; omega)⟩
          unfold OwnIt
          rw [e1, e2]; exact hown3
        clear hown3 hgrow3 hat3 hlt3 hlt2
        go_wp2_with fail
        go_meet
        case rel => simpa [Nat.add_assoc] using HX.out
    case rest =>
      obtain ⟨⟨xa, xc, rfl⟩, hox, hbx⟩ := hcut
      have HOX : Hid (OwnIt wt.heap.size wc (.slice xa (twX 7 vs).length xc) (twX 7 vs)) := hox
      have HB : Hid (Below w.heap.size w wc) := HBT.out.trans (hbx.mono HBT.out.size)
      have HOT2 : Hid (wc.ownsRow w.heap.size 37 2 (.slice ta tn tc) (twT ts).length (flatT (twT ts))) := own_keepX HOT.out (fun g hg => hbx.block g (World.ownsRow.lt HOT.out g hg).2)
      have HLT : Hid ((twT ts).length ≤ 83) := by show (twT ts).length ≤ 83; simp [twT]; omega
      have HS : Hid (Calls Tryd.prog 17 #[.slice ta tn tc] wc fun e w' => e = .returned (.bool (schOk (twT ts))) ∧ Below wc.heap.size wc w') := specSchemaOk_any (twT ts) _ wc (own_typs HOT2.out (by have := HLT.out; omega) (wfT_tw HWF.out))
      have hxl : (twX 7 vs).length ≤ 3001 := by simp [twX]; omega
      obtain ⟨L, hL⟩ : ∃ L, (twX 7 vs).length = L := ⟨_, rfl⟩
      have HL : Hid ((twX 7 vs).length = L) := hL
      rw [hL] at hxl ⊢
      clear hox hbx HOT hL HI HIc HBT
      obtain ⟨q, hq⟩ : ∃ q, schOk (twT ts) = q := ⟨_, rfl⟩
      have HQ : Hid (schOk (twT ts) = q) := hq
      rw [hq] at HS
      clear hq
      go_wp2_with fail
      refine Calls.mono HS.out ?_
      rintro e w5 ⟨rfl, hb5⟩
      have HFIN : Hid (w5.ownsRow w.heap.size 37 2 (.slice ta tn tc) (twT ts).length (flatT (twT ts)) ∧ OwnIt w.heap.size w5 (.slice xa L xc) (twX 7 vs) ∧ Below w.heap.size w w5) := ⟨own_keepX HOT2.out (fun g hg => hb5.block g (World.ownsRow.lt HOT2.out g hg).2), by
        have h1 := own_keepX HOX.out (fun g hg => hb5.block g (World.ownsRow.lt HOX.out g hg).2)
        have h2 := own_base h1 hwc
        show w5.ownsRow w.heap.size 40 3 (.slice xa L xc) (twX 7 vs).length (flatI (twX 7 vs))
        rw [← HL.out]
        exact h2, HB.out.trans (hb5.mono HB.out.size)⟩
      clear hb5 HOT2 HOX HB
      by_cases h2 : L ≤ 200
      · have hd : decide ((L : Int) ≤ 200) = true := by simpa using (by omega : (L : Int) ≤ 200)
        have hd2 : decide (L ≤ 200) = true := by simpa using h2
        cases q with
        | true =>
          go_wp2_with fail
          go_ret3
          exact ⟨.slice ta tn tc, .slice xa L xc, by rw [HQ.out, HL.out, hd2]; rfl, HFIN.out.1, HFIN.out.2.1, HFIN.out.2.2⟩
        | false =>
          go_wp2_with fail
          go_ret3
          exact ⟨_, _, by rw [HQ.out]; rfl, HFIN.out.1, HFIN.out.2.1, HFIN.out.2.2⟩
      · have hd : decide ((L : Int) ≤ 200) = false := by simpa using (by omega : ¬ (L : Int) ≤ 200)
        have hd2 : decide (L ≤ 200) = false := by simpa using h2
        cases q with
        | true =>
          go_wp2_with fail
          go_ret3
          exact ⟨.slice ta tn tc, .slice xa L xc, by rw [HQ.out, HL.out, hd2]; rfl, HFIN.out.1, HFIN.out.2.1, HFIN.out.2.2⟩
        | false =>
          go_wp2_with fail
          go_ret3
          exact ⟨_, _, by rw [HQ.out]; rfl, HFIN.out.1, HFIN.out.2.1, HFIN.out.2.2⟩
end Go.Proofs.YtjpdhenmhffmeaaDoor
