/- The frames of a log, by the specification: contract. -/
import Derived.Test.YtgidjhgaeghanaaDoorTFa
namespace Go.Proofs.YtgidjhgaeghanaaDoor
open Go.RowKit Go.Sort
set_option linter.unusedVariables false
theorem Tryd.infoStr : (Tryd.prog.info? 9).map (fun i => (i.zero, i.size, i.bytes)) = some (some (.string ByteArray.empty), 1, 16) := by kernel_rfl
/-- What TakeFrames holds between two rounds. -/
structure TfB (s : ByteArray) (w0 : World) (w : World) (v : Value) (X : List ByteArray) (p : Nat) : Prop where
  at_ : RdF s p X
  own : w.ownsRow w0.heap.size 9 1 v X.length (strv X)
  bel : Below w0.heap.size w0 w
theorem own_kept {w w' : World} {B t : Nat} {sz n : Nat} {v : Value} {xs : List Value} (h : w.ownsRow B t sz v n xs) (hb : Below w.heap.size w w') : w'.ownsRow B t sz v n xs := World.ownsRow.kept h (gb_bel hb) (by cases v.ownBlock <;> simp)
theorem TfB.below {s : ByteArray} {w0 w w' : World} {v : Value} {X : List ByteArray} {p : Nat} (h : TfB s w0 w v X p) (hb : Below w.heap.size w w') : TfB s w0 w' v X p := ⟨h.at_, own_kept h.own hb, h.bel.trans (hb.mono h.bel.size)⟩
theorem TfB.appended {s : ByteArray} {w0 w : World} {v : Value} {X : List ByteArray} {p : Nat} (h : TfB s w0 w v X p) {o : Obj} {w' : World} {g cap : Nat} {x : ByteArray} {q : Nat} (hat : RdF s q (X ++ [x])) (hown : w'.ownsRow w0.heap.size 9 1 (.slice (some ⟨g, 0, none⟩) (X.length + 1) cap) (X.length + 1) (strv X ++ [.string x])) (hg : (w.alloc o).grownBy w' v.ownBlock) : TfB s w0 w' (.slice (some ⟨g, 0, none⟩) (X.length + 1) cap) (X ++ [x]) q := by
  have b1 := h.bel.trans ((bel1 w o).mono h.bel.size)
  have hs1 := (bel1 w o).size
  have hs0 := h.bel.size
  refine ⟨hat, ?_, ⟨hg.os.trans b1.os, hg.tape.trans b1.tape, hg.output.trans b1.output, Nat.le_trans b1.size hg.size, fun k hk => ?_⟩⟩
  · rw [strv_app, List.length_append]; exact hown
  · rw [hg.block k (by omega) (fun e => by have := (World.ownsRow.lt h.own k e.symm).1; omega)]; exact b1.block k hk
set_option maxRecDepth 100000 in
set_option maxHeartbeats 4000000 in
theorem specTakeFrames_any (s : ByteArray) (w : World) (hs : s.size ≤ 1048576) : Calls Tryd.prog 7 #[.string s] w fun e w' => TfE s w.heap.size w' e ∧ Below w.heap.size w w' := by
  obtain ⟨i0, hi, hz0, hz1, hz2⟩ := info_parts Tryd.infoStr
  have HII : Hid (Tryd.prog.info? 9 = some i0) := hi
  clear hi
  have HS : Hid (TfB s w (w.alloc (.cells #[] 9)) (.slice (some ⟨w.heap.size, 0, none⟩) 0 0) [] 0) := ⟨RdF.zero s, World.ownsRow_made w #[] 0 (Nat.le_refl _) (by simp [maxLen]) rfl, bel1 _ _⟩
  go_enter Tryd.func7, Tryd.ntmps7
  go_wp2_with fail
  go_loopg [4, 5] s.size (fun gk v i wr => ∃ (X : List ByteArray) (p : Nat), p + gk = s.size ∧ i = .int .i64 p ∧ TfB s w wr v X p)
  case atStart => exact ⟨[], 0, by omega, rfl, HS.out⟩
  case round =>
    obtain ⟨X, p, hgk, rfl, hB⟩ := hrel
    have HB : Hid (TfB s w wr u4 X p) := hB
    have HG : Hid (p + gk = s.size) := hgk
    have hXl : X.length * 8 ≤ p := hB.at_.2.2
    have hps : p ≤ s.size := by omega
    clear hgk hB
    by_cases h8 : p + 8 ≤ s.size
    · have d8 : decide ((p : Int) + 8 ≤ (s.size : Int)) = true := by simp; omega
      obtain ⟨L, hL⟩ : ∃ L, s.data.toList.drop p = L := ⟨_, rfl⟩
      have HL : Hid (s.data.toList.drop p = L) := hL
      have HLl : Hid (L.length = s.size - p) := by show _ = _; rw [← hL]; exact dropLen s p
      have HJ : Hid (∀ j : Nat, (h : j < 4) → hJ L (j + 1) = 256 * hJ L j + (s[p + j]'(by omega)).toNat) := fun j hj => by
        have hlt : j < L.length := by have := HLl.out; omega
        rw [hJ_next hlt]
        congr 1
        subst hL
        rw [List.getElem_drop]
        rfl
      clear hL
      obtain ⟨W, rfl⟩ : ∃ W, W = wr := ⟨_, rfl⟩
      obtain ⟨G, rfl⟩ : ∃ G, G = gk := ⟨_, rfl⟩
      go_wp2_with fail
      go_loopg [6, 7] 4 (fun gj n i wq => ∃ j : Nat, j + gj = 4 ∧ i = .int .i64 j ∧ n = .int .i64 (hJ L j : Nat) ∧ wq = W)
      case atStart => exact ⟨0, rfl, rfl, rfl, rfl⟩
      case round =>
        obtain ⟨j, hj', rfl, rfl, hw⟩ := hrel
        subst hw
        have HJJ : Hid (j + gk = 4) := hj'
        have hj : j ≤ 4 := by omega
        clear hj'
        by_cases hlt : j < 4
        · have HN : Hid (hJ L (j + 1) = 256 * hJ L j + (s[p + j]'(by omega)).toNat) := HJ.out j hlt
          obtain ⟨q, hq⟩ : ∃ q, hJ L j = q := ⟨_, rfl⟩
          have hql : q < 4294967296 := by rw [← hq]; exact hJ_lt L (by omega)
          have hqn : (s[p + j]'(by omega)).toNat < 256 := (s[p + j]'(by omega)).toNat_lt
          rw [hq] at HN ⊢
          clear hq
          go_wp2_with fail
          go_roundg (gk - 1)
          case rel => exact ⟨j + 1, by have := HJJ.out; omega, by go_num, by rw [HN.out]; go_num, rfl⟩
          case measure => have := HJJ.out; omega
        · have ej : j = 4 := by omega
          subst ej
          have HNq : Hid (hN L = hJ L 4) := rfl
          obtain ⟨n, hn⟩ : ∃ n, hJ L 4 = n := ⟨_, rfl⟩
          rw [hn] at HNq ⊢
          have hnl : n < 4294967296 := by rw [← hn]; exact hJ_lt L (by omega)
          clear hn hlt hj
          by_cases h1 : 100000 < n
          · have HE : Hid (FEnd s p X) := ⟨HB.out.at_, by rw [HL.out]; exact nx_none (.inl (by rw [HNq.out]; exact h1))⟩
            have d1 : decide (100000 < (n : Int)) = true := by simp; omega
            go_wp2_with fail
            refine wp_region_quiet_below (by kernel_rfl) (by kernel_rfl) ?_
            repeat (go_big_quiet_step (fail))
            refine wpQuiet_nil ?_
            intro w6 hw'
            obtain ⟨⟨dq, osq⟩, hw''⟩ := hw'
            have HB6 : Hid (TfB s w w6 u4 X p) := by show TfB _ _ _ _ _ _; rw [hw'']; exact HB.out.below (below_regrown wr dq osq)
            clear hw''
            go_wp2_with fail
            go_ret2
            exact ⟨⟨_, _, _, rfl, HE.out, HB6.out.own⟩, HB6.out.bel⟩
          · have d1 : decide (100000 < (n : Int)) = false := by simp; omega
            by_cases h2 : s.size < p + 8 + n
            · have HE : Hid (FEnd s p X) := ⟨HB.out.at_, by rw [HL.out]; exact nx_none (.inr (.inl (by rw [HNq.out, HLl.out]; omega)))⟩
              have d2 : decide ((s.size : Int) < (p : Int) + 8 + (n : Int)) = true := by simp; omega
              go_wp2_with fail
              refine wp_region_quiet_below (by kernel_rfl) (by kernel_rfl) ?_
              repeat (go_big_quiet_step (fail))
              refine wpQuiet_nil ?_
              intro w6 hw'
              obtain ⟨⟨dq, osq⟩, hw''⟩ := hw'
              have HB6 : Hid (TfB s w w6 u4 X p) := by show TfB _ _ _ _ _ _; rw [hw'']; exact HB.out.below (below_regrown wr dq osq)
              clear hw''
              go_wp2_with fail
              go_ret2
              exact ⟨⟨_, _, _, rfl, HE.out, HB6.out.own⟩, HB6.out.bel⟩
            · have d2 : decide ((s.size : Int) < (p : Int) + 8 + (n : Int)) = false := by simp; omega
              obtain ⟨D, hDD⟩ : ∃ D, s.extract (p + 8) (p + 8 + n) = D := ⟨_, rfl⟩
              obtain ⟨S4, hS4⟩ : ∃ D, s.extract (p + 4) (p + 8) = D := ⟨_, rfl⟩
              have hDs : D.size = n := by rw [← hDD]; simp; omega
              have HDe : Hid (D = ⟨(hD L n).toArray⟩) := by show _ = _; rw [← hDD, exD, HL.out]
              obtain ⟨c, hc⟩ : ∃ c, crc D.data.toList = c := ⟨_, rfl⟩
              obtain ⟨C, hC⟩ : ∃ C : ByteArray, ⟨(leL c 4).toArray⟩ = C := ⟨_, rfl⟩
              have HC : Hid (∀ w, Calls Tryd.prog 17 #[.string D] w fun e w' => e = .returned (.string C) ∧ Below w.heap.size w w') := fun w => by have := l15Sum_any D w (by omega); rwa [hc, hC] at this
              have hcl : c < 4294967296 := by rw [← hc]; exact crc_lt _
              have h4l : S4.data.toList.length = 4 := by show S4.size = 4; rw [← hS4]; simp; omega
              have h4v : leV S4.data.toList = hS L := by rw [← hS4, exS, HL.out]
              have hcD : crc (hD L n) = c := by rw [← hc, HDe.out]
              have hce : (C.toList == S4.toList) = decide (c = hS L) := by
                have e := sum_text h4l hcl
                rw [h4v] at e
                rw [ByteArray.toList_eq, ByteArray.toList_eq, ← hC]
                by_cases hx : c = hS L
                · rw [decide_eq_true hx]; simp [e.2 hx]
                · rw [decide_eq_false hx]; simp; exact fun hh => hx (e.1 hh)
              by_cases h3 : c = hS L
              · rw [decide_eq_true h3] at hce
                have HX : Hid (RdF s (p + (8 + n)) (X ++ [D])) := by
                  show RdF _ _ _
                  rw [HDe.out, ← HL.out]
                  have hnx := nx_some (l := L) (by rw [HLl.out]; omega) (by rw [HNq.out]; omega) (by rw [HNq.out, HLl.out]; omega) (by rw [HNq.out, hcD]; exact h3)
                  rw [HNq.out, ← HL.out] at hnx
                  exact HB.out.at_.next hnx
                clear hcD hC hc h4l h4v HDe
                go_wp2_with fail
                refine wp_region_quiet_below (by kernel_rfl) (by kernel_rfl) ?_
                repeat (go_big_quiet_step (exact Calls.regrown_of (HC.out _)))
                refine wpQuiet_nil ?_
                intro w6 hw'
                obtain ⟨⟨dq, osq⟩, hw''⟩ := hw'
                have HB6 : Hid (TfB s w w6 u4 X p) := by show TfB _ _ _ _ _ _; rw [hw'']; exact HB.out.below (below_regrown wr dq osq)
                clear hw''
                have hWs : w.heap.size ≤ w6.heap.size := HB6.out.bel.size
                have hc1 : ∀ j u, ([Value.string D] : List Value)[j]? = some u → (w6.alloc (.cells #[.string D] 9)).cell? ((⟨w6.heap.size, 0, none⟩ : Addr).add j) = some u := World.news_of_block (heap_alloc_new w6 (.cells #[.string D] 9))
                go_wp2_with (at_builtin; refine wpList_append_lies _ rfl _ _ 25 rfl w.heap.size 9 i0 (.string ByteArray.empty) 1 16 Tryd.underlying25 HII.out hz0 hz1 hz2 rfl (by decide) u4 X.length (strv X) rfl (HB6.out.own.alloc _) ⟨w6.heap.size, 0, none⟩ 1 1 [.string D] rfl rfl hc1 (by intro u hu; simp at hu; subst hu; rfl) (by omega) ?c3 ?c4 ?c5 (w6.heap.size + 1) (by simp) ?_)
                case c3 => unfold maxLen; omega
                case c4 => omega
                case c5 => simp; omega
                intro g cap w5 hown hgrow hat hlt
                have HB5 : Hid (TfB s w w5 (.slice (some ⟨g, 0, none⟩) (X.length + 1) cap) (X ++ [D]) (p + (8 + n))) := HB6.out.appended HX.out hown hgrow
                clear hown hgrow hat hlt hc1
                go_wp2_with fail
                go_roundg (G - (8 + n))
                case rel => exact ⟨_, p + (8 + n), by have := HG.out; omega, by go_num, HB5.out⟩
                case measure => have := HG.out; omega
              · rw [decide_eq_false h3] at hce
                have HE : Hid (FEnd s p X) := ⟨HB.out.at_, by rw [HL.out]; exact nx_none (.inr (.inr (by rw [HNq.out, hcD]; exact h3)))⟩
                clear hcD hC hc h4l h4v HDe
                go_wp2_with fail
                refine wp_region_quiet_below (by kernel_rfl) (by kernel_rfl) ?_
                repeat (go_big_quiet_step (exact Calls.regrown_of (HC.out _)))
                refine wpQuiet_nil ?_
                intro w6 hw'
                obtain ⟨⟨dq, osq⟩, hw''⟩ := hw'
                have HB6 : Hid (TfB s w w6 u4 X p) := by show TfB _ _ _ _ _ _; rw [hw'']; exact HB.out.below (below_regrown wr dq osq)
                clear hw''
                go_wp2_with fail
                go_ret2
                exact ⟨⟨_, _, _, rfl, HE.out, HB6.out.own⟩, HB6.out.bel⟩
    · have HE : Hid (FEnd s p X) := ⟨HB.out.at_, nx_short (by rw [dropLen]; omega)⟩
      go_wp2_with fail
      go_ret2
      exact ⟨⟨_, _, _, rfl, HE.out, HB.out.own⟩, HB.out.bel⟩
end Go.Proofs.YtgidjhgaeghanaaDoor
