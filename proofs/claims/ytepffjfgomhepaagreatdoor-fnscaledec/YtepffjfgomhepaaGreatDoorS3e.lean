/- parseValue where the item fits: contract. -/
import Derived.Test.YtepffjfgomhepaaGreatDoorS3d
import Derived.Deep.DeepCutAuto
import Derived.Deep.CutBlock
namespace Go.Proofs.YtepffjfgomhepaaGreatDoor
open Go.RowKit Go.Sort
set_option linter.unusedVariables false
set_option maxRecDepth 100000 in
set_option maxHeartbeats 4000000 in
theorem parse_yes (ts : List (Int × Int)) (vs : List It) (b o C f : Nat) (hp : PvHyp ts vs b o C f) (a q u : Nat) (S0 : Nat → Prop) (v : Value) (w : World) (ht : TreeAt ts (f + 1) w S0 u a) (hS0 : ∀ c, S0 c → c < w.heap.size) (hI : ItemsAt w.heap.size w b o C vs) (hv : FromQ b o C vs q v)
    (ha : a < ts.length) (hqe : q < vs.length) (hfi : fitsI ts[a].1 ts[a].2 vs[q] = true) :
    Calls Tryz.prog 53 #[.pointer (some ⟨u, 0, none⟩), v] w fun e w' => PvPost ts vs (f + 1) a q b o C S0 w e w' := by
  obtain ⟨_, e0, ad0, cap0, hok, _, _, c0, c1, _⟩ := ht.openT
  have hvv := hv.at hqe
  obtain ⟨i0, i1, i2⟩ := hI.cells q hqe
  obtain ⟨wk, wn, ws⟩ := hI.wf vs[q] (List.getElem_mem hqe)
  have hbB : b < w.heap.size := hI.low.resolve_left (by omega)
  have HNF : Hid (∀ w, Calls Tryz.prog 80 #[.agg #[.int .i64 ts[a].1, .int .i64 ts[a].2], .int .u64 vs[q].n] w fun e w' => e = .returned (.bool (fitsN ts[a].1 ts[a].2 vs[q].n)) ∧ Below w.heap.size w w') := fun w => numberFits_any _ _ _ w hok wn
  have HBF : Hid (∀ w, Calls Tryz.prog 81 #[.agg #[.int .i64 ts[a].1, .int .i64 ts[a].2], .string vs[q].s] w fun e w' => e = .returned (.bool (fitsS ts[a].1 ts[a].2 vs[q].s.size)) ∧ Below w.heap.size w w') := fun w => bytesFit_any _ _ _ w hok ws
  have hfi' : vs[q].k = ts[a].1 ∧ fitsN ts[a].1 ts[a].2 vs[q].n = true ∧ fitsS ts[a].1 ts[a].2 vs[q].s.size = true := by simpa [fitsI] using hfi
  obtain ⟨hk, hfn, hfs⟩ := hfi'
  rw [hfn] at HNF
  rw [hfs] at HBF
  rw [hk] at i0
  have hl1 : 1 ≤ vs.length - q := by omega
  have hl2 : vs.length - q ≤ C - q := by have := hI.room; omega
  have hl3 : C - q ≤ 9223372036854775807 := by have := hI.most; unfold maxLen at this; omega
  have HT : Hid (TreeAt ts (f + 1) w S0 u a) := ht
  have HS : Hid (∀ c, S0 c → c < w.heap.size) := hS0
  have HI : Hid (ItemsAt w.heap.size w b o C vs) := hI
  have HP : Hid (PvHyp ts vs b o C f) := hp
  have HFI : Hid (fitsI ts[a].1 ts[a].2 vs[q] = true) := hfi
  have HF1 : Hid (∀ ad, (vs.length ≤ q + 1 ∨ ad = some ⟨b, o + (q + 1) * 3, none⟩) → FromQ b o C vs (q + 1) (.slice ad (vs.length - q - 1) (C - q - 1))) := fun ad h => ⟨ad, rfl, h⟩
  have HL : Hid (vs.length - q = 1 → vs.length ≤ q + 1) := fun h => by omega
  have hadd : o + q * 3 + 3 = o + (q + 1) * 3 := by omega
  have HA : Hid (o + q * 3 + 3 = o + (q + 1) * 3) := hadd
  obtain ⟨k, hke⟩ : ∃ k, ts[a].1 = k := ⟨_, rfl⟩
  obtain ⟨n, hne⟩ : ∃ n, ts[a].2 = n := ⟨_, rfl⟩
  obtain ⟨m, hme⟩ : ∃ m, vs[q].n = m := ⟨_, rfl⟩
  obtain ⟨s, hse⟩ : ∃ s, vs[q].s = s := ⟨_, rfl⟩
  have HKE : Hid (ts[a].1 = k) := hke
  have HME : Hid (vs[q].n = m) := hme
  have HSE : Hid (vs[q].s = s) := hse
  rw [hke, hne, hme] at HNF
  rw [hke, hne, hse] at HBF
  rw [hke] at i0 c0 hok
  rw [hne] at c1 hok
  rw [hme] at i1 wn
  rw [hse] at i2 ws
  clear hke hne hme hse hadd ht hS0 hI hp hfi hk hfn hfs hv wk
  obtain ⟨l, hle⟩ : ∃ l, vs.length - q = l := ⟨_, rfl⟩
  obtain ⟨cc, hce⟩ : ∃ cc, C - q = cc := ⟨_, rfl⟩
  rw [hle, hce] at hvv HF1
  rw [hle] at hl1 hl2 HL
  rw [hce] at hl2 hl3
  clear hle hce
  generalize hof : o + q * 3 = off at *
  have HOF : Hid (o + q * 3 = off) := hof
  subst hvv
  have r0 := cells_re3 c0
  have r1 := cells_re3 c1
  have s0 := cells_re3 i0
  have s1 := cells_re3 i1
  have s2 := cells_re3 i2
  have hl0 : ((l : Int) == 0) = false := beqF (by omega)
  have hli : (0 : Int) < (l : Int) := by omega
  have hkk : (k != k) = false := by simp
  clear hof
  go_enter Tryz.func53, Tryz.ntmps53
  go_wp2_with fail
  refine wp_region_quiet_below (by kernel_rfl) (by kernel_rfl) ?_
  repeat (go_big_quiet_step (first | (go_at_call 80; exact Calls.regrown_of (HNF.out _)) | (go_at_call 81; exact Calls.regrown_of (HBF.out _))))
  refine wpQuiet_nil ?_
  intro w6 hw'
  obtain ⟨⟨dq, osq⟩, hw''⟩ := hw'
  have hb6 : Below w.heap.size w w6 := by rw [hw'']; exact below_regrown _ dq osq
  have t0 : w6.cell? ⟨b, off, none⟩ = some (.int .i64 k) := by rw [hb6.cell (p := ⟨b, off, none⟩) hbB]; exact i0
  have t1 : w6.cell? ⟨b, off + 1, none⟩ = some (.int .u64 m) := by rw [hb6.cell (p := ⟨b, off + 1, none⟩) hbB]; exact i1
  have t2 : w6.cell? ⟨b, off + 2, none⟩ = some (.string s) := by rw [hb6.cell (p := ⟨b, off + 2, none⟩) hbB]; exact i2
  have hb6s : b < w6.heap.size := by have := hb6.size; omega
  have HB6 : Hid (Below w.heap.size w w6) := hb6
  clear hw'' r0 r1 s0 s1 s2 HNF HBF i0 i1 i2 c0 c1 hb6
  go_wp2_with fail
  go_cut [7, 8] (fun p r wz => p = .pointer (some ⟨w6.heap.size, 0, none⟩) ∧ (∃ ad, r = .slice ad (l - 1) (cc - 1) ∧ (cc = 1 ∨ ad = some ⟨b, off + 3, none⟩)) ∧ wz.cell? ⟨w6.heap.size, 0, none⟩ = some (.int .i64 k) ∧ wz.cell? ⟨w6.heap.size, 1, none⟩ = some (.int .u64 m) ∧ wz.cell? ⟨w6.heap.size, 2, none⟩ = some (.string s) ∧ Below w6.heap.size w6 wz)
  case first =>
    have hl1' : (1 : Int) ≤ (l : Int) := by omega
    have hcc1 : (1 : Int) ≤ (cc : Int) := by omega
    have hlc : (l : Int) ≤ (cc : Int) := by omega
    by_cases hcc : cc = 1
    · subst hcc
      have hl1e : l = 1 := by omega
      subst hl1e
      go_region
      go_wp2_with fail
      go_meet
      case rel => exact ⟨rfl, ⟨_, rfl, by simp⟩, by simp [go_sem], by simp [go_sem], by simp [go_sem], by first | exact bel1 _ _ | exact (bel1 _ _).drew⟩
    · go_region
      go_wp2_with fail
      go_meet
      case rel => exact ⟨rfl, ⟨_, rfl, .inr rfl⟩, by simp [go_sem], by simp [go_sem], by simp [go_sem], by first | exact bel1 _ _ | exact (bel1 _ _).drew⟩
  case rest =>
    obtain ⟨rfl, ⟨ad, rfl, had⟩, d0, d1, d2, hb7⟩ := hcut
    have HFQ : Hid (FromQ b o C vs (q + 1) (.slice ad (l - 1) (cc - 1))) := HF1.out ad (by
      rcases had with h | h
      · exact .inl (HL.out (by omega))
      · refine .inr ?_
        rw [h, HA.out])
    have hBw : Below w.heap.size w wc := HB6.out.trans (hb7.mono HB6.out.size)
    have HBW : Hid (Below w.heap.size w wc) := hBw
    have HTw : Hid (TreeAt ts (f + 1) wc S0 u a) := HT.out.bel HS.out hBw
    have HSw : Hid (∀ c, S0 c → c < wc.heap.size) := fun c hc => by have := HS.out c hc; have := hBw.size; omega
    have HIw : Hid (ItemsAt wc.heap.size wc b o C vs) := (HI.out.below hBw).up hBw.size
    clear had t0 t1 t2 hb7 hBw HF1 HL HA HOF HB6 hl0 hli hkk hb6s
    by_cases hsr : k = 5 ∨ k = 6 ∨ k = 7
    · have HSer : Hid (Calls Tryz.prog 82 #[.pointer (some ⟨u, 0, none⟩), .int .u64 m, .slice ad (l - 1) (cc - 1)] wc fun e w' => PvPost ts vs (f + 1) a q b o C S0 wc e w') := by
        have := series_any ts vs b o C f HP.out a q u S0 _ wc HTw.out HSw.out HIw.out ha hqe HFI.out (by rw [HKE.out]; exact hsr) HFQ.out
        rw [HME.out] at this
        exact this
      clear hok
      rcases hsr with rfl | rfl | rfl
      all_goals
        go_wp2_with fail
        refine Calls.mono HSer.out ?_
        rintro e w8 ⟨hb8, ⟨he, y, hy1, rfl⟩ | ⟨q', T, yv, v3, he, hfq3, rfl, hva⟩⟩
        · go_wp2_with fail
          go_ret3
          exact ⟨HBW.out.trans (hb8.mono HBW.out.size), .inl ⟨he, _, hy1, rfl⟩⟩
        · have HF3 : Hid (FromQ b o C vs q' v3 ∧ ve ts vs (f + 1) a q = some q' ∧ VAt ts vs (f + 1) w8 (fun c => S0 c ∨ (wc.heap.size ≤ c ∧ c < w8.heap.size)) (.iface T yv) a q) := ⟨hfq3, he, hva⟩
          clear hfq3 he hva
          go_wp2_with fail
          go_ret3
          exact ⟨HBW.out.trans (hb8.mono HBW.out.size), .inr ⟨q', _, _, _, HF3.out.2.1, HF3.out.1, rfl, HF3.out.2.2.keep (fun c hc => hc.imp id (fun ⟨r1, r2⟩ => ⟨by have := HBW.out.size; omega, r2⟩)) (fun _ _ => rfl)⟩⟩
    · by_cases hch : k = 8 ∨ k = 9
      · have HSer : Hid (Calls Tryz.prog 83 #[.pointer (some ⟨u, 0, none⟩), .int .u64 m, .slice ad (l - 1) (cc - 1)] wc fun e w' => PvPost ts vs (f + 1) a q b o C S0 wc e w') := by
          have := choice_any ts vs b o C f HP.out a q u S0 _ wc HTw.out HSw.out HIw.out ha hqe HFI.out (by rw [HKE.out]; exact hch) HFQ.out
          rw [HME.out] at this
          exact this
        clear hok hsr
        rcases hch with rfl | rfl
        all_goals
          go_wp2_with fail
          refine Calls.mono HSer.out ?_
          rintro e w8 ⟨hb8, ⟨he, y, hy1, rfl⟩ | ⟨q', T, yv, v3, he, hfq3, rfl, hva⟩⟩
          · go_wp2_with fail
            go_ret3
            exact ⟨HBW.out.trans (hb8.mono HBW.out.size), .inl ⟨he, _, hy1, rfl⟩⟩
          · have HF3 : Hid (FromQ b o C vs q' v3 ∧ ve ts vs (f + 1) a q = some q' ∧ VAt ts vs (f + 1) w8 (fun c => S0 c ∨ (wc.heap.size ≤ c ∧ c < w8.heap.size)) (.iface T yv) a q) := ⟨hfq3, he, hva⟩
            clear hfq3 he hva
            go_wp2_with fail
            go_ret3
            exact ⟨HBW.out.trans (hb8.mono HBW.out.size), .inr ⟨q', _, _, _, HF3.out.2.1, HF3.out.1, rfl, HF3.out.2.2.keep (fun c hc => hc.imp id (fun ⟨r1, r2⟩ => ⟨by have := HBW.out.size; omega, r2⟩)) (fun _ _ => rfl)⟩⟩
      · have HVE : Hid (ve ts vs (f + 1) a q = some (q + 1)) := by
          show _ = _
          have e : np ts[a].1 vs[q].n = 0 := by rw [HKE.out]; unfold np; rw [if_neg (by omega), if_neg (by omega)]
          rw [ve_ok ha hqe HFI.out, e]; rfl
        simp only [tyOk, decide_eq_true_eq] at hok
        have h14 : k = 1 ∨ k = 2 ∨ k = 3 ∨ k = 4 := by omega
        clear hok hsr hch
        rcases h14 with rfl | rfl | rfl | rfl
        · go_wp2_with fail
          go_ret3
          exact ⟨HBW.out, .inr ⟨q + 1, _, _, _, HVE.out, HFQ.out, rfl, ⟨u, ha, hqe, HTw.out.keep (fun c hc => .inl hc) (fun _ _ => rfl), HFI.out, .inl ⟨.inl HKE.out, by rw [HME.out]; try rfl⟩⟩⟩⟩
        · go_wp2_with fail
          go_ret3
          exact ⟨HBW.out, .inr ⟨q + 1, _, _, _, HVE.out, HFQ.out, rfl, ⟨u, ha, hqe, HTw.out.keep (fun c hc => .inl hc) (fun _ _ => rfl), HFI.out, .inl ⟨.inr HKE.out, by rw [HME.out]; try rfl⟩⟩⟩⟩
        · go_wp2_with fail
          go_ret3
          exact ⟨HBW.out, .inr ⟨q + 1, _, _, _, HVE.out, HFQ.out, rfl, ⟨u, ha, hqe, HTw.out.keep (fun c hc => .inl hc) (fun _ _ => rfl), HFI.out, .inr (.inl ⟨.inl HKE.out, by rw [HSE.out]; try rfl⟩)⟩⟩⟩
        · go_wp2_with fail
          go_ret3
          exact ⟨HBW.out, .inr ⟨q + 1, _, _, _, HVE.out, HFQ.out, rfl, ⟨u, ha, hqe, HTw.out.keep (fun c hc => .inl hc) (fun _ _ => rfl), HFI.out, .inr (.inl ⟨.inr HKE.out, by rw [HSE.out]; try rfl⟩)⟩⟩⟩
theorem parse_all (ts : List (Int × Int)) (vs : List It) (b o C : Nat) : ∀ f, PvHyp ts vs b o C f := by
  intro f
  induction f with
  | zero => exact parse_zero ts vs b o C
  | succ f ih =>
    intro a q u S0 v w ht hS0 hI hq hv
    have ha : a < ts.length := by obtain ⟨ha, _⟩ := ht.openT; exact ha
    by_cases hqe : q < vs.length
    · cases hfi : fitsI ts[a].1 ts[a].2 vs[q] with
      | true => exact parse_yes ts vs b o C f ih a q u S0 v w ht hS0 hI hv ha hqe hfi
      | false => exact parse_no ts vs b o C f a q u S0 v w ht hI hq hv ha (fun _ => hfi)
    · exact parse_no ts vs b o C f a q u S0 v w ht hI hq hv ha (fun h => absurd h hqe)
end Go.Proofs.YtepffjfgomhepaaGreatDoor
