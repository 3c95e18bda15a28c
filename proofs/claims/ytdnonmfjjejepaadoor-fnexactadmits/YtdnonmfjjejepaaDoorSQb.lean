/- The map of codecs; what a format admits, both sides: contracts. -/
import Derived.Test.YtdnonmfjjejepaaDoorSQa
import Derived.WideMake
import Derived.Carry
import Derived.Laws.EntriesVeiled
namespace Go.Proofs.YtdnonmfjjejepaaDoor
open Go.RowKit Go.Sort
set_option linter.unusedVariables false
theorem run_mapUpdate_new {P : Program} (w : World) (mty kt et : TypeId) (r clock : Nat) (es : Array MapEntry) (k : Int) (val : Value) (hm : P.underlying mty = some (.map kt et)) (hk : P.underlying kt = some (.int .i64)) (hb : w.heap[r]? = some (.map es clock)) (hf : Instr.findNow (.int .i64) (.int .i64 k) es.toList 0 = some none) :
    (Instr.mapUpdate mty (.map (some r)) (.int .i64 k) val).run P w = .ok () { w with heap := w.heap.setIfInBounds r (.map (es.push { key := .int .i64 k, val := val, born := clock }) (clock + 1)) } := by
  have hc : (Instr.checkKey false 10000 kt (.int .i64 k)).run P w = .ok () w := MapKept.run_checkKey (k := .int .i64 k) hk (by simp [MapKept.IsKey]) false 9999
  simp [Instr.mapUpdate, run_underlying hm, MapKept.run_getObj_map hb, hc, MapKept.run_findKey hk hf, MapKept.run_setObj_map _ hb, Result.andThen]
theorem run_lookup_at {P : Program} (w : World) (mty kt et : TypeId) (r clock : Nat) (es : Array MapEntry) (k : Int) (i : Nat) (v : Value) (hm : P.underlying mty = some (.map kt et)) (hk : P.underlying kt = some (.int .i64)) (hb : w.heap[r]? = some (.map es clock)) (hf : Instr.findNow (.int .i64) (.int .i64 k) es.toList 0 = some (some (i, v))) :
    (Instr.lookup mty (.map (some r)) (.int .i64 k) true).run P w = .ok (.tuple #[v, .bool true]) w := by
  have hc : ∀ b, (Instr.checkKey b 10000 kt (.int .i64 k)).run P w = .ok () w := fun b => MapKept.run_checkKey (k := .int .i64 k) hk (by simp [MapKept.IsKey]) b 9999
  simp [Instr.lookup, run_underlying hm, MapKept.run_getObj_map hb, hc, MapKept.run_findKey hk hf, Result.andThen]
theorem run_lookup_not {P : Program} (w : World) (mty kt et : TypeId) (r clock : Nat) (es : Array MapEntry) (k : Int) (z : Value) (hm : P.underlying mty = some (.map kt et)) (hk : P.underlying kt = some (.int .i64)) (hb : w.heap[r]? = some (.map es clock)) (hf : Instr.findNow (.int .i64) (.int .i64 k) es.toList 0 = some none) (hz : (zeroValue et).run P w = .ok z w) :
    (Instr.lookup mty (.map (some r)) (.int .i64 k) true).run P w = .ok (.tuple #[z, .bool false]) w := by
  have hc : ∀ b, (Instr.checkKey b 10000 kt (.int .i64 k)).run P w = .ok () w := fun b => MapKept.run_checkKey (k := .int .i64 k) hk (by simp [MapKept.IsKey]) b 9999
  simp [Instr.lookup, run_underlying hm, MapKept.run_getObj_map hb, hc, MapKept.run_findKey hk hf, hz, Result.andThen]
theorem upd {P : Program} {w W : World} {r c : Nat} {es : Array MapEntry} {mty kt et : TypeId} (hm : P.underlying mty = some (.map kt et)) (hk : P.underlying kt = some (.int .i64)) (hb : W.heap[r]? = some (.map es c)) (hB : Below w.heap.size w W) (hr : w.heap.size ≤ r) (k : Int) (v : Value) (hf : Instr.findNow (.int .i64) (.int .i64 k) es.toList 0 = some none) :
    ∃ W1, (Instr.mapUpdate mty (.map (some r)) (.int .i64 k) v).run P W = .ok () W1 ∧ Below w.heap.size w W1 ∧ W1.heap[r]? = some (.map (es.push ⟨.int .i64 k, v, c⟩) (c + 1)) := by
  refine ⟨_, run_mapUpdate_new W mty kt et r c es k v hm hk hb hf, ?_, (MapKept.heap_set hb).1⟩
  have h2 := (MapKept.heap_set (o' := .map (es.push ⟨.int .i64 k, v, c⟩) (c + 1)) hb).2
  refine ⟨?_, ?_, ?_, ?_, ?_⟩ <;> first | exact hB.os | exact hB.tape | exact hB.output | (have := hB.size; simpa using this) | skip
  · intro q hq
    exact (h2 q (by omega)).trans (hB.block q hq)
def cdE : Array MapEntry := #[⟨.int .i64 1, .iface 48 (.agg #[]), 0⟩, ⟨.int .i64 2, .iface 51 (.agg #[]), 1⟩, ⟨.int .i64 3, .iface 57 (.agg #[.func (.func 26) #[] #[], .func (.func 27) #[] #[]]), 2⟩, ⟨.int .i64 4, .iface 59 (.agg #[]), 3⟩, ⟨.int .i64 5, .iface 61 (.agg #[.func (.func 28) #[] #[], .func (.func 29) #[] #[]]), 4⟩]
theorem newScale_q (w : World) : Calls Tryd.prog 19 #[] w fun e w' => e = .returned (.agg #[.func (.func 26) #[] #[], .func (.func 27) #[] #[]]) ∧ Below w.heap.size w w' := by
  go_enter Tryd.func19, Tryd.ntmps19
  go_wp2_with fail
  refine bodyPost_ret (v := .agg #[.func (.func 26) #[] #[], .func (.func 27) #[] #[]]) (results_cell_row Tryd.results19 _ _ w.heap.size _ _ _ _ rfl (heap_alloc_new w _) Tryd.underlying57 rfl (show (Tryd.prog.info? 57).map (·.size) = some 2 by kernel_rfl)) rfl ?_
  exact ⟨rfl, bel1 _ _⟩
theorem newBitcoin_q (w : World) : Calls Tryd.prog 20 #[] w fun e w' => e = .returned (.agg #[.func (.func 28) #[] #[], .func (.func 29) #[] #[]]) ∧ Below w.heap.size w w' := by
  go_enter Tryd.func20, Tryd.ntmps20
  go_wp2_with fail
  refine bodyPost_ret (v := .agg #[.func (.func 28) #[] #[], .func (.func 29) #[] #[]]) (results_cell_row Tryd.results20 _ _ w.heap.size _ _ _ _ rfl (heap_alloc_new w _) Tryd.underlying61 rfl (show (Tryd.prog.info? 61).map (·.size) = some 2 by kernel_rfl)) rfl ?_
  exact ⟨rfl, bel1 _ _⟩
set_option maxRecDepth 100000 in
set_option maxHeartbeats 2000000 in
theorem codecs_any (w : World) : Calls Tryd.prog 14 #[] w fun e w' => e = .returned (.map (some w.heap.size)) ∧ w'.heap[w.heap.size]? = some (.map cdE 5) ∧ Below w.heap.size w w' := by
  have hmm := @run_makeMap Tryd.prog
  obtain ⟨W1, u1, B1, m1⟩ := upd (w := w) (W := w.alloc (.map #[] 0)) Tryd.underlying38 Tryd.underlying2 (heap_alloc_new w _) (bel1 _ _) (Nat.le_refl _) 1 (.iface 48 (.agg #[])) rfl
  obtain ⟨W2, u2, B2, m2⟩ := upd (w := w) (W := W1) Tryd.underlying38 Tryd.underlying2 m1 B1 (Nat.le_refl _) 2 (.iface 51 (.agg #[])) (by simp [Instr.findNow, Instr.sameNow])
  have HM2 : Hid _ := (show Hid _ from m2)
  have HB2 : Hid _ := (show Hid _ from B2)
  clear m1 B1 m2 B2
  go_enter Tryd.func14, Tryd.ntmps14
  go_wp2_with fail
  refine (newScale_q _).mono ?_
  rintro e W3 ⟨rfl, hb3⟩
  have hl2 := blk_lt HM2.out
  obtain ⟨W4, u4, B4, m4⟩ := upd (w := w) (W := W3) Tryd.underlying38 Tryd.underlying2 ((hb3.block _ hl2).trans HM2.out) (HB2.out.trans (hb3.mono HB2.out.size)) (Nat.le_refl _) 3 (.iface 57 (.agg #[.func (.func 26) #[] #[], .func (.func 27) #[] #[]])) (by simp [Instr.findNow, Instr.sameNow])
  obtain ⟨W5, u5, B5, m5⟩ := upd (w := w) (W := W4) Tryd.underlying38 Tryd.underlying2 m4 B4 (Nat.le_refl _) 4 (.iface 59 (.agg #[])) (by simp [Instr.findNow, Instr.sameNow])
  have HM5 : Hid _ := (show Hid _ from m5)
  have HB5 : Hid _ := (show Hid _ from B5)
  clear m4 B4 m5 B5 hb3 hl2 u1 u2
  go_wp2_with fail
  refine (newBitcoin_q _).mono ?_
  rintro e W6 ⟨rfl, hb6⟩
  have hl5 := blk_lt HM5.out
  obtain ⟨W7, u7, B7, m7⟩ := upd (w := w) (W := W6) Tryd.underlying38 Tryd.underlying2 ((hb6.block _ hl5).trans HM5.out) (HB5.out.trans (hb6.mono HB5.out.size)) (Nat.le_refl _) 5 (.iface 61 (.agg #[.func (.func 28) #[] #[], .func (.func 29) #[] #[]])) (by simp [Instr.findNow, Instr.sameNow])
  have HM7 : Hid _ := (show Hid _ from m7)
  have HB7 : Hid _ := (show Hid _ from B7)
  clear m7 B7 hb6 hl5 u4 u5
  go_wp2_with fail
  go_ret
  exact ⟨rfl, HM7.out, HB7.out⟩
/-- What a format admits. -/
def adm (k : Int) (ts : List (Int × Int)) : Bool := if k = 1 ∨ k = 2 ∨ k = 3 then schOk ts else if k = 4 then (schOk ts && pm ts 7 0) else if k = 5 then (schOk ts && btOk ts) else false
set_option maxRecDepth 100000 in
set_option maxHeartbeats 2000000 in
theorem implAdmits_any (k : Int) (ts : List (Int × Int)) (v : Value) (w : World) (hv : IsTyps w.heap.size w v ts) (hw : KR w) (he : ET w) : Calls Tryd.prog 7 #[.int .i64 k, v] w fun e w' => e = .returned (.bool (adm k ts)) ∧ Below w.heap.size w w' := by
  have HV : Hid (∀ w', Below w.heap.size w w' → IsTyps w'.heap.size w' v ts) := fun w' hb => (hv.below hb).up hb.size
  have HK : Hid (∀ w', Below w.heap.size w w' → KR w') := fun w' hb => hw.below hb
  have HE : Hid (∀ w', Below w.heap.size w w' → ET w') := fun w' hb => ET.below (B := 0) he hb
  clear hv hw he
  by_cases hk : k = 1 ∨ k = 2 ∨ k = 3 ∨ k = 4 ∨ k = 5
  · rcases hk with rfl | rfl | rfl | rfl | rfl
    · have HR : Hid (adm 1 ts = (schOk ts && true)) := by show _ = _; simp [adm]
      go_enter Tryd.func7, Tryd.ntmps7
      go_wp2_with fail
      refine (codecs_any _).mono ?_
      rintro e w1 ⟨rfl, hm1, hb1⟩
      have HB1 : Hid (Below w.heap.size w w1) := hb1
      have hlk := run_lookup_at w1 38 2 36 w.heap.size 5 cdE 1 0 (.iface 48 (.agg #[])) Tryd.underlying38 Tryd.underlying2 hm1 (by simp [cdE, Instr.findNow, Instr.sameNow])
      clear hm1 hb1
      go_wp2_with fail
      refine (admitsBy_rl ts v w1 (HV.out _ HB1.out) (HK.out _ HB1.out) (HE.out _ HB1.out)).mono ?_
      rintro e w2 ⟨rfl, hb2⟩
      have HB2 : Hid (Below w.heap.size w w2) := HB1.out.trans (hb2.mono HB1.out.size)
      clear hb2
      go_wp2_with fail
      go_ret
      exact ⟨by rw [HR.out]; first | rfl | simp, HB2.out⟩
    · have HR : Hid (adm 2 ts = (schOk ts && true)) := by show _ = _; simp [adm]
      go_enter Tryd.func7, Tryd.ntmps7
      go_wp2_with fail
      refine (codecs_any _).mono ?_
      rintro e w1 ⟨rfl, hm1, hb1⟩
      have HB1 : Hid (Below w.heap.size w w1) := hb1
      have hlk := run_lookup_at w1 38 2 36 w.heap.size 5 cdE 2 1 (.iface 51 (.agg #[])) Tryd.underlying38 Tryd.underlying2 hm1 (by simp [cdE, Instr.findNow, Instr.sameNow])
      clear hm1 hb1
      go_wp2_with fail
      refine (admitsBy_ss ts v w1 (HV.out _ HB1.out) (HK.out _ HB1.out) (HE.out _ HB1.out)).mono ?_
      rintro e w2 ⟨rfl, hb2⟩
      have HB2 : Hid (Below w.heap.size w w2) := HB1.out.trans (hb2.mono HB1.out.size)
      clear hb2
      go_wp2_with fail
      go_ret
      exact ⟨by rw [HR.out]; first | rfl | simp, HB2.out⟩
    · have HR : Hid (adm 3 ts = (schOk ts && true)) := by show _ = _; simp [adm]
      go_enter Tryd.func7, Tryd.ntmps7
      go_wp2_with fail
      refine (codecs_any _).mono ?_
      rintro e w1 ⟨rfl, hm1, hb1⟩
      have HB1 : Hid (Below w.heap.size w w1) := hb1
      have hlk := run_lookup_at w1 38 2 36 w.heap.size 5 cdE 3 2 (.iface 57 (.agg #[.func (.func 26) #[] #[], .func (.func 27) #[] #[]])) Tryd.underlying38 Tryd.underlying2 hm1 (by simp [cdE, Instr.findNow, Instr.sameNow])
      clear hm1 hb1
      go_wp2_with fail
      refine (admitsBy_sc ts v w1 (HV.out _ HB1.out) (HK.out _ HB1.out) (HE.out _ HB1.out)).mono ?_
      rintro e w2 ⟨rfl, hb2⟩
      have HB2 : Hid (Below w.heap.size w w2) := HB1.out.trans (hb2.mono HB1.out.size)
      clear hb2
      go_wp2_with fail
      go_ret
      exact ⟨by rw [HR.out]; first | rfl | simp, HB2.out⟩
    · have HR : Hid (adm 4 ts = (schOk ts && pm ts 7 0)) := by show _ = _; simp [adm]
      go_enter Tryd.func7, Tryd.ntmps7
      go_wp2_with fail
      refine (codecs_any _).mono ?_
      rintro e w1 ⟨rfl, hm1, hb1⟩
      have HB1 : Hid (Below w.heap.size w w1) := hb1
      have hlk := run_lookup_at w1 38 2 36 w.heap.size 5 cdE 4 3 (.iface 59 (.agg #[])) Tryd.underlying38 Tryd.underlying2 hm1 (by simp [cdE, Instr.findNow, Instr.sameNow])
      clear hm1 hb1
      go_wp2_with fail
      refine (admitsBy_pr ts v w1 (HV.out _ HB1.out) (HK.out _ HB1.out) (HE.out _ HB1.out)).mono ?_
      rintro e w2 ⟨rfl, hb2⟩
      have HB2 : Hid (Below w.heap.size w w2) := HB1.out.trans (hb2.mono HB1.out.size)
      clear hb2
      go_wp2_with fail
      go_ret
      exact ⟨by rw [HR.out]; first | rfl | simp, HB2.out⟩
    · have HR : Hid (adm 5 ts = (schOk ts && btOk ts)) := by show _ = _; simp [adm]
      go_enter Tryd.func7, Tryd.ntmps7
      go_wp2_with fail
      refine (codecs_any _).mono ?_
      rintro e w1 ⟨rfl, hm1, hb1⟩
      have HB1 : Hid (Below w.heap.size w w1) := hb1
      have hlk := run_lookup_at w1 38 2 36 w.heap.size 5 cdE 5 4 (.iface 61 (.agg #[.func (.func 28) #[] #[], .func (.func 29) #[] #[]])) Tryd.underlying38 Tryd.underlying2 hm1 (by simp [cdE, Instr.findNow, Instr.sameNow])
      clear hm1 hb1
      go_wp2_with fail
      refine (admitsBy_bc ts v w1 (HV.out _ HB1.out) (HK.out _ HB1.out) (HE.out _ HB1.out)).mono ?_
      rintro e w2 ⟨rfl, hb2⟩
      have HB2 : Hid (Below w.heap.size w w2) := HB1.out.trans (hb2.mono HB1.out.size)
      clear hb2
      go_wp2_with fail
      go_ret
      exact ⟨by rw [HR.out]; first | rfl | simp, HB2.out⟩
  · have HR : Hid (adm k ts = false) := by show _ = _; unfold adm; rw [if_neg (by omega), if_neg (by omega), if_neg (by omega)]
    have q1 : k ≠ 1 := by omega
    have q2 : k ≠ 2 := by omega
    have q3 : k ≠ 3 := by omega
    have q4 : k ≠ 4 := by omega
    have q5 : k ≠ 5 := by omega
    have b1 : (k == 1) = false := beqF q1
    have b2 : (k == 2) = false := beqF q2
    have b3 : (k == 3) = false := beqF q3
    have b4 : (k == 4) = false := beqF q4
    have b5 : (k == 5) = false := beqF q5
    have hfn : Instr.findNow (.int .i64) (.int .i64 k) cdE.toList 0 = some none := by simp [cdE, Instr.findNow, Instr.sameNow, b1, b2, b3, b4, b5]
    have HF : Hid (Instr.findNow (.int .i64) (.int .i64 k) cdE.toList 0 = some none) := hfn
    clear hk q1 q2 q3 q4 q5 hfn b1 b2 b3 b4 b5
    go_enter Tryd.func7, Tryd.ntmps7
    go_wp2_with fail
    refine (codecs_any _).mono ?_
    rintro e w1 ⟨rfl, hm1, hb1⟩
    have HB1 : Hid (Below w.heap.size w w1) := hb1
    have hlk := run_lookup_not w1 38 2 36 w.heap.size 5 cdE k .nilIface Tryd.underlying38 Tryd.underlying2 hm1 HF.out (Tryd.zeroValue36 w1)
    clear hm1 hb1
    go_wp2_with fail
    go_ret
    exact ⟨by rw [HR.out]; try rfl, HB1.out⟩
set_option maxRecDepth 100000 in
set_option maxHeartbeats 2000000 in
theorem specAdmits_any (k : Int) (ts : List (Int × Int)) (v : Value) (w : World) (hv : IsTyps w.heap.size w v ts) : Calls Tryd.prog 5 #[.int .i64 k, v] w fun e w' => e = .returned (.bool (adm k ts)) ∧ Below w.heap.size w w' := by
  by_cases h4 : k = 4
  · subst h4
    have HR : Hid (adm 4 ts = (schOk ts && pm ts 7 0)) := by show _ = _; simp [adm]
    have HC : Hid _ := (show Hid _ from specProtoOk_any ts v w hv)
    clear hv
    go_enter Tryd.func5, Tryd.ntmps5
    go_wp2_with fail
    refine Calls.mono HC.out ?_
    rintro e w1 ⟨rfl, hb1⟩
    have HB1 : Hid _ := (show Hid _ from hb1)
    clear hb1
    go_wp2_with fail
    go_ret
    exact ⟨by rw [HR.out]; try rfl, HB1.out⟩
  · have q4 := beqF h4
    by_cases h5 : k = 5
    · subst h5
      have HR : Hid (adm 5 ts = (schOk ts && btOk ts)) := by show _ = _; simp [adm]
      have HC : Hid _ := (show Hid _ from specBitcoinOk_any ts v w hv)
      clear hv
      go_enter Tryd.func5, Tryd.ntmps5
      go_wp2_with fail
      refine Calls.mono HC.out ?_
      rintro e w1 ⟨rfl, hb1⟩
      have HB1 : Hid _ := (show Hid _ from hb1)
      clear hb1
      go_wp2_with fail
      go_ret
      exact ⟨by rw [HR.out]; try rfl, HB1.out⟩
    · have q5 := beqF h5
      have HI : Hid (∀ w, Calls Tryd.prog 11 #[.int .i64 k, .int .i64 1, .int .i64 3] w fun e w' => e = .returned (.bool (decide (1 ≤ k ∧ k ≤ 3))) ∧ w' = w) := fun w => l1InW_any k 1 3 w
      by_cases hin : 1 ≤ k ∧ k ≤ 3
      · have HR : Hid (adm k ts = schOk ts) := by show _ = _; unfold adm; rw [if_pos (by omega)]
        have hd : decide (1 ≤ k ∧ k ≤ 3) = true := by simp [hin]
        rw [hd] at HI
        have HC : Hid _ := (show Hid _ from specSchemaOk_any ts v w hv)
        clear hv hd hin h4 h5
        go_enter Tryd.func5, Tryd.ntmps5
        go_wp2_with fail
        refine (HI.out _).mono ?_
        rintro e w0 ⟨rfl, rfl⟩
        go_wp2_with fail
        refine Calls.mono HC.out ?_
        rintro e w1 ⟨rfl, hb1⟩
        have HB1 : Hid _ := (show Hid _ from hb1)
        clear hb1
        go_wp2_with fail
        go_ret
        exact ⟨by rw [HR.out]; try rfl, HB1.out⟩
      · have HR : Hid (adm k ts = false) := by show _ = _; unfold adm; rw [if_neg (by omega), if_neg (by omega), if_neg (by omega)]
        have hd : decide (1 ≤ k ∧ k ≤ 3) = false := by simp; omega
        rw [hd] at HI
        clear hv hd hin h4 h5
        go_enter Tryd.func5, Tryd.ntmps5
        go_wp2_with fail
        refine (HI.out _).mono ?_
        rintro e w0 ⟨rfl, rfl⟩
        go_wp2_with fail
        go_ret
        exact ⟨by rw [HR.out]; try rfl, Below.refl _ _⟩
end Go.Proofs.YtdnonmfjjejepaaDoor
