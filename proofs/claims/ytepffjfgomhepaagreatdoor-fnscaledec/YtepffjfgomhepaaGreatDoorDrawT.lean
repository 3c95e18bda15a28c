/- The draw of a type and what it is of: contract. -/
import Derived.Test.YtepffjfgomhepaaGreatDoorDrawS
import Derived.Test.YtepffjfgomhepaaGreatDoorPu
import Derived.Deep.DeepCutAuto
import Derived.Deep.CutBlock
namespace Go.Proofs.YtepffjfgomhepaaGreatDoor
open Go.RowKit
set_option linter.unusedVariables false
def Lb : Nat → Nat
  | 0 => 1
  | d + 1 => 1 + 3 * Lb d
/-- All of it is one type that lies no deeper than so. -/
def wfG (d : Nat) (ts : List (Int × Int)) : Prop := wfT ts ∧ en ts (d + 1) 0 = some ts.length
/-- A type's first j parts are there. -/
def wfJ (d : Nat) (k n : Int) (j : Nat) (ts : List (Int × Int)) : Prop := wfT ts ∧ ts[0]? = some (k, n) ∧ iter (en ts (d + 1)) 1 j = some ts.length
theorem flat_good {k n : Int} (h : tyOk k n = true ∧ kids k n = 0) (d : Nat) : en [(k, n)] (d + 1) 0 = some 1 := by
  rw [en_ok (ts := [(k, n)]) (by simp) (by simpa using h.1)]
  simp [h.2, iter]
theorem en_pre {ts l : List (Int × Int)} {f a e : Nat} (h : en ts f a = some e) : en (ts ++ l) f a = some e := by
  have h1 := (en_lt h).2
  have := (en_move (ts := ts) (ts' := ts ++ l) (s := 0) (s' := 0) (f := f) (a := a) (e := e) (by simpa using h) (fun i _ hi => by rw [Nat.add_zero, List.getElem?_append_left (by omega)])).1
  simpa using this
theorem en_post {ts l : List (Int × Int)} {f e : Nat} (h : en l f 0 = some e) : en (ts ++ l) f ts.length = some (ts.length + e) := by
  have := (en_move (ts := l) (ts' := ts ++ l) (s := 0) (s' := ts.length) (f := f) (a := 0) (e := e) (by simpa using h) (fun i _ hi => by rw [List.getElem?_append_right (by omega)]; simp)).1
  rw [Nat.zero_add] at this
  rw [this, Nat.add_comm]
theorem wfJ.next {d j : Nat} {k n : Int} {ts l : List (Int × Int)} (h : wfJ d k n j ts) (hl : wfG d l) : wfJ d k n (j + 1) (ts ++ l) := by
  obtain ⟨h1, h2, h3⟩ := h
  refine ⟨wfT_app h1 hl.1, ?_, ?_⟩
  · rw [List.getElem?_append_left (by
      rcases Nat.eq_zero_or_pos ts.length with h0 | h0
      · rw [List.eq_nil_of_length_eq_zero h0] at h2; cases h2
      · exact h0)]
    exact h2
  · rw [iter_succ, iter_mono (g' := en (ts ++ l) (d + 1)) (fun a e h => en_pre h) h3]
    show en (ts ++ l) (d + 1) ts.length = _
    rw [en_post hl.2, List.length_append]
theorem wfJ.done {d j : Nat} {k n : Int} {ts : List (Int × Int)} (h : wfJ d k n j ts) (hok : tyOk k n = true) (hk : kids k n = j) : wfG (d + 1) ts := by
  obtain ⟨h1, h2, h3⟩ := h
  have h0 : 0 < ts.length := by
    rcases Nat.eq_zero_or_pos ts.length with h0 | h0
    · rw [List.eq_nil_of_length_eq_zero h0] at h2; cases h2
    · exact h0
  have e0 : ts[0] = (k, n) := by rw [List.getElem?_eq_getElem h0] at h2; exact Option.some.inj h2
  refine ⟨h1, ?_⟩
  rw [en_ok h0 (by rw [e0]; exact hok), e0]
  show iter _ 1 (kids k n) = _
  rw [hk]; exact h3
/-- What typ leaves. -/
def TypPost (B0 B : Nat) (a : Option Addr) (len cap : Nat) (d : Nat) (w : World) (e : Ending) (w' : World) : Prop :=
  (∃ v ts, e = .returned v ∧ w'.ownsRow w.heap.size 83 2 v ts.length (flatT ts) ∧ 0 < ts.length ∧ ts.length ≤ Lb d ∧ wfG d ts) ∧ RdAt B0 B a len cap w' ∧ w.grownBy w' (some B)
/-- A slice of one type of one's own. -/
theorem own_one (w : World) (k n : Int) (hk : inI k) (hn : inI n) : (w.alloc (.cells #[.int .i64 k, .int .i64 n] 83)).ownsRow w.heap.size 83 2 (.slice (some ⟨w.heap.size, 0, none⟩) 1 1) 1 (flatT [(k, n)]) ∧ wfT [(k, n)] :=
  ⟨World.ownsRow_lit w #[.int .i64 k, .int .i64 n] 1 (Nat.le_refl _) (by decide) rfl, fun t ht => by simp at ht; subst ht; exact ⟨hk, hn⟩⟩
theorem own_base {w : World} {b b' e size : Nat} {v : Value} {n : Nat} {xs : List Value} (h : w.ownsRow b e size v n xs) (hb : b' ≤ b) : w.ownsRow b' e size v n xs := by
  refine ⟨h.1, ?_⟩
  rcases h.2 with h2 | ⟨g, cap, cur, hv, hg, r⟩
  · exact .inl h2
  · exact .inr ⟨g, cap, cur, hv, by omega, r⟩
theorem Tryz.infoTyp2 : (Tryz.prog.info? 83).map (fun i => (i.zero, i.size, i.bytes)) = some (some (.agg #[.int .i64 0, .int .i64 0]), 2, 16) := by kernel_rfl
theorem own_ne2 {w : World} {base e size : Nat} {v : Value} {n : Nat} {xs : List Value} {B : Nat} (h : w.ownsRow base e size v n xs) (hB : B < base) : v.ownBlock = none ∨ v.ownBlock ≠ some B := by
  cases hv : v.ownBlock with
  | none => exact .inl rfl
  | some k => exact .inr (fun e => by cases e; have := (h.lt B hv).1; omega)
/-- Where the draw of a type stands once its own type is known: in block N. -/
def TyAt (B0 B : Nat) (a : Option Addr) (len cap N : Nat) (w wz : World) : Prop :=
  ∃ k n : Int, tyOk k n = true ∧ kids k n ≤ 3 ∧ 0 ≤ k ∧ k ≤ 9 ∧ 0 ≤ n ∧ n ≤ 64 ∧ wz.heap[N]? = some (.cells #[.int .i64 k, .int .i64 n] 83 (0, 0)) ∧ RdAt B0 B a len cap wz ∧ w.grownBy wz (some B)
theorem TyAt.set {B0 B : Nat} {a : Option Addr} {len cap N : Nat} {w wz wz' : World} (hB : B < N) (hw : w.heap.size ≤ N) (h : TyAt B0 B a len cap N w wz) (hr : RdAt B0 B a len cap wz') (hg : wz.grownBy wz' (some B)) (k n : Int) (h1 : tyOk k n = true) (h2 : kids k n ≤ 3) (h3 : 0 ≤ k) (h4 : k ≤ 9) (h5 : 0 ≤ n) (h6 : n ≤ 64) :
    TyAt B0 B a len cap N w ((wz'.setCell ⟨N, 0, none⟩ (.int .i64 k)).setCell ⟨N, 1, none⟩ (.int .i64 n)) := by
  obtain ⟨k0, n0, _, _, _, _, _, _, hN, _, hgw⟩ := h
  have hN' : wz'.heap[N]? = some (.cells #[.int .i64 k0, .int .i64 n0] 83 (0, 0)) := by rw [hg.block N (blk_lt hN) (by simp; omega)]; exact hN
  have hp := pair_set hN' hr hB hw (gb_trans hgw hg) (.int .i64 k) (.int .i64 n)
  exact ⟨k, n, h1, h2, h3, h4, h5, h6, hp⟩
theorem TyAt.cells {B0 B : Nat} {a : Option Addr} {len cap N : Nat} {w wz wz' : World} (hB : B < N) (h : TyAt B0 B a len cap N w wz) (hg : wz.grownBy wz' (some B)) : ∃ k n : Int, wz'.cell? ⟨N, 0, none⟩ = some (.int .i64 k) ∧ wz'.cell? ⟨N, 1, none⟩ = some (.int .i64 n) ∧ wz'.frozen? ⟨N, 0, none⟩ = false ∧ wz'.frozen? ⟨N, 1, none⟩ = false := by
  obtain ⟨k0, n0, _, _, _, _, _, _, hN, _, hgw⟩ := h
  have hN' : wz'.heap[N]? = some (.cells #[.int .i64 k0, .int .i64 n0] 83 (0, 0)) := by rw [hg.block N (blk_lt hN) (by simp; omega)]; exact hN
  exact ⟨k0, n0, pair_cells hN'⟩
set_option maxRecDepth 100000 in
set_option maxHeartbeats 2000000 in
theorem typ_any (B0 B : Nat) (a : Option Addr) (len cap : Nat) : ∀ (d : Nat) (plain : Bool) (w : World), d ≤ 3 → RdAt B0 B a len cap w → Calls Tryz.prog 42 #[.pointer (some ⟨B, 0, none⟩), .int .i64 d, .bool plain] w fun e w' => TypPost B0 B a len cap d w e w' := by
  intro d
  induction d with
  | zero =>
    intro plain w hd h
    go_enter Tryz.func42, Tryz.ntmps42
    go_wp2_with fail
    refine (flat_any B0 B a len cap _ h).mono ?_
    rintro e w1 ⟨⟨k, n, hk, hn, hf, rfl⟩, hr1, hg1⟩
    have HF : Hid (tyOk k n = true ∧ kids k n = 0) := hf
    clear hf
    go_wp2_with fail
    go_ret
    have ho := own_one w1 k n hk hn
    exact ⟨⟨_, [(k, n)], rfl, own_base ho.1 hg1.size, by simp, by simp [Lb], ho.2, flat_good HF.out 0⟩, hr1.full (bel1 _ _), gb_trans hg1 (gb_alloc _ _ _)⟩
  | succ d ih =>
    intro plain w hd h
    have HI : Hid (∀ (plain : Bool) (w : World), d ≤ 3 → RdAt B0 B a len cap w → Calls Tryz.prog 42 #[.pointer (some ⟨B, 0, none⟩), .int .i64 d, .bool plain] w fun e w' => TypPost B0 B a len cap d w e w') := ih
    clear ih
    have hd0 : (((d + 1 : Nat) : Int) == 0) = false := beqF (by omega)
    go_enter Tryz.func42, Tryz.ntmps42
    go_wp2_with fail
    refine (once_any B0 B a len cap 3 _ h (by decide) (by decide)).mono ?_
    rintro e w1 ⟨⟨b, rfl⟩, hr1, hg1⟩
    have hsz := h.size
    clear h
    cases b
    · go_wp2_with fail
      refine (below_any B0 B a len cap 3 _ hr1 (by decide) (by decide)).mono ?_
      rintro e w2 ⟨⟨x, hx, rfl⟩, hr2, hg2⟩
      have hg12 := gb_trans hg1 hg2
      have hsz2 : B < w2.heap.size := hr2.size
      have hwz : w.heap.size ≤ w2.heap.size := hg12.size
      have HT0 : Hid (TyAt B0 B a len cap w2.heap.size w (w2.alloc (.cells #[.int .i64 7, .int .i64 (1 + (x : Int))] 83))) :=
        ⟨7, 1 + x, by simp [tyOk]; omega, by simp [kids]; omega, by omega, by omega, by omega, by omega, heap_alloc_new w2 _, hr2.full (bel1 _ _), gb_trans hg12 (gb_alloc _ _ _)⟩
      have HR2 : Hid (RdAt B0 B a len cap (w2.alloc (.cells #[.int .i64 7, .int .i64 (1 + (x : Int))] 83))) := hr2.full (bel1 _ _)
      clear hr1 hr2 hg2 hg12 hg1
      go_wp2_with fail
      refine (below_any B0 B a len cap 8 _ HR2.out (by decide) (by decide)).mono ?_
      rintro e w3 ⟨⟨y, hy, rfl⟩, hr3, hg3⟩
      have HT3 : Hid (TyAt B0 B a len cap w2.heap.size w w3) := by
        obtain ⟨k, n, q1, q2, q3, q4, q5, q6, q7, q8, q9⟩ := HT0.out
        exact ⟨k, n, q1, q2, q3, q4, q5, q6, by rw [hg3.block _ (by simp) (by simp; omega)]; exact q7, hr3, gb_trans q9 hg3⟩
      have HR3 : Hid (RdAt B0 B a len cap w3) := hr3
      clear hr3 hg3 HT0 HR2
      go_upto_block 0 with fail
      go_cut [] (fun wz => TyAt B0 B a len cap w2.heap.size w wz)
      case first =>
        by_cases y0 : y = 0
        · subst y0
          go_wp2_with fail
          refine (below_any B0 B a len cap 4 _ HR3.out (by decide) (by decide)).mono ?_
          rintro e w4 ⟨⟨z, hz, rfl⟩, hr4, hg4⟩
          obtain ⟨k0, n0, c0, c1, f0, f1⟩ := HT3.out.cells hsz2 hg4
          have HS : Hid (TyAt B0 B a len cap w2.heap.size w ((w4.setCell ⟨w2.heap.size, 0, none⟩ (.int .i64 5)).setCell ⟨w2.heap.size, 1, none⟩ (.int .i64 (1 + (z : Int))))) := HT3.out.set hsz2 hwz hr4 hg4 5 (1 + z) (by simp [tyOk]; omega) (by simp [kids] <;> omega) (by omega) (by omega) (by omega) (by omega)
          clear hr4 hg4
          go_wp2_with fail
          go_meet
          case rel => exact HS.out
        have q0 := beqN y0
        by_cases y1 : y = 1
        · subst y1
          go_wp2_with fail
          refine (below_any B0 B a len cap 4 _ HR3.out (by decide) (by decide)).mono ?_
          rintro e w4 ⟨⟨z, hz, rfl⟩, hr4, hg4⟩
          obtain ⟨k0, n0, c0, c1, f0, f1⟩ := HT3.out.cells hsz2 hg4
          have HS : Hid (TyAt B0 B a len cap w2.heap.size w ((w4.setCell ⟨w2.heap.size, 0, none⟩ (.int .i64 5)).setCell ⟨w2.heap.size, 1, none⟩ (.int .i64 (1 + (z : Int))))) := HT3.out.set hsz2 hwz hr4 hg4 5 (1 + z) (by simp [tyOk]; omega) (by simp [kids] <;> omega) (by omega) (by omega) (by omega) (by omega)
          clear hr4 hg4
          go_wp2_with fail
          go_meet
          case rel => exact HS.out
        have q1 := beqN y1
        by_cases y2 : y = 2
        · subst y2
          go_wp2_with fail
          refine (below_any B0 B a len cap 3 _ HR3.out (by decide) (by decide)).mono ?_
          rintro e w4 ⟨⟨z, hz, rfl⟩, hr4, hg4⟩
          obtain ⟨k0, n0, c0, c1, f0, f1⟩ := HT3.out.cells hsz2 hg4
          have HS : Hid (TyAt B0 B a len cap w2.heap.size w ((w4.setCell ⟨w2.heap.size, 0, none⟩ (.int .i64 6)).setCell ⟨w2.heap.size, 1, none⟩ (.int .i64 (1 + (z : Int))))) := HT3.out.set hsz2 hwz hr4 hg4 6 (1 + z) (by simp [tyOk]; omega) (by simp [kids] <;> omega) (by omega) (by omega) (by omega) (by omega)
          clear hr4 hg4
          go_wp2_with fail
          go_meet
          case rel => exact HS.out
        have q2 := beqN y2
        by_cases y3 : y = 3
        · subst y3
          obtain ⟨k0, n0, c0, c1, f0, f1⟩ := HT3.out.cells hsz2 (gb_refl _ _)
          have HS : Hid (TyAt B0 B a len cap w2.heap.size w ((w3.setCell ⟨w2.heap.size, 0, none⟩ (.int .i64 8)).setCell ⟨w2.heap.size, 1, none⟩ (.int .i64 0))) := HT3.out.set hsz2 hwz HR3.out (gb_refl _ _) 8 0 (by simp [tyOk]) (by simp [kids]) (by omega) (by omega) (by omega) (by omega)
          go_wp2_with fail
          go_meet
          case rel => exact HS.out
        have q3 := beqN y3
        by_cases y4 : y = 4
        · subst y4
          go_wp2_with fail
          refine (below_any B0 B a len cap 3 _ HR3.out (by decide) (by decide)).mono ?_
          rintro e w4 ⟨⟨z, hz, rfl⟩, hr4, hg4⟩
          obtain ⟨k0, n0, c0, c1, f0, f1⟩ := HT3.out.cells hsz2 hg4
          have HS : Hid (TyAt B0 B a len cap w2.heap.size w ((w4.setCell ⟨w2.heap.size, 0, none⟩ (.int .i64 9)).setCell ⟨w2.heap.size, 1, none⟩ (.int .i64 (1 + (z : Int))))) := HT3.out.set hsz2 hwz hr4 hg4 9 (1 + z) (by simp [tyOk]; omega) (by simp [kids] <;> omega) (by omega) (by omega) (by omega) (by omega)
          clear hr4 hg4
          go_wp2_with fail
          go_meet
          case rel => exact HS.out
        have q4 := beqN y4
        go_wp2_with fail
        go_meet
        case rel => exact HT3.out
      case rest =>
        have HC : Hid (TyAt B0 B a len cap w2.heap.size w wc) := hcut
        clear hcut HT3 HR3
        go_upto_region 14 with fail
        go_cut [52] (fun c wz => (∃ b, c = .bool b) ∧ TyAt B0 B a len cap w2.heap.size w wz)
        case first =>
          obtain ⟨k0, n0, c0, c1, f0, f1⟩ := HC.out.cells hsz2 (gb_refl _ _)
          cases plain
          · go_wp2_with fail
            go_meet
            case rel => exact ⟨⟨_, rfl⟩, HC.out⟩
          · go_wp2_with fail
            go_meet
            case rel => exact ⟨⟨_, rfl⟩, HC.out⟩
        case rest =>
          clear HC
          obtain ⟨⟨b, rfl⟩, hT⟩ := hcut
          have HC : Hid (TyAt B0 B a len cap w2.heap.size w wc) := hT
          clear hT
          go_upto_if 52 with fail
          go_cut [] (fun wz => TyAt B0 B a len cap w2.heap.size w wz)
          case first =>
            cases b
            · go_wp2_with fail
              go_meet
              case rel => exact HC.out
            · have HR3 : Hid (RdAt B0 B a len cap wc) := by obtain ⟨_, _, _, _, _, _, _, _, _, hr, _⟩ := HC.out; exact hr
              go_wp2_with fail
              refine (below_any B0 B a len cap 3 _ HR3.out (by decide) (by decide)).mono ?_
              rintro e w4 ⟨⟨z, hz, rfl⟩, hr4, hg4⟩
              obtain ⟨k0, n0, c0, c1, f0, f1⟩ := HC.out.cells hsz2 hg4
              have HS : Hid (TyAt B0 B a len cap w2.heap.size w ((w4.setCell ⟨w2.heap.size, 0, none⟩ (.int .i64 7)).setCell ⟨w2.heap.size, 1, none⟩ (.int .i64 (1 + (z : Int))))) := HC.out.set hsz2 hwz hr4 hg4 7 (1 + z) (by simp [tyOk]; omega) (by simp [kids] <;> omega) (by omega) (by omega) (by omega) (by omega)
              clear hr4 hg4
              go_wp2_with fail
              go_meet
              case rel => exact HS.out
          case rest =>
            clear HC
            obtain ⟨k, n, hok, hkd, hk0, hk9, hn0, hn64, hN, hrc, hgc⟩ := hcut
            have HN : Hid (_ = some (Obj.cells #[.int .i64 k, .int .i64 n] 83 (0, 0))) := hN
            obtain ⟨c0, c1, f0, f1⟩ := pair_cells hN
            have hNc : w2.heap.size < wc.heap.size := blk_lt hN
            clear hN
            obtain ⟨K, hK⟩ : ∃ K, kids k n = K := ⟨_, rfl⟩
            have HK : Hid (kids k n = K) := hK
            have HOK : Hid (tyOk k n = true) := hok
            rw [hK] at hkd
            clear hK
            have ho := own_one wc k n (inI_of hk0 (by omega)) (inI_of hn0 (by omega))
            have HO : Hid ((wc.alloc (.cells #[.int .i64 k, .int .i64 n] 83)).ownsRow (w2.heap.size + 1) 83 2 (.slice (some ⟨wc.heap.size, 0, none⟩) 1 1) 1 (flatT [(k, n)]) ∧ wfT [(k, n)]) := ⟨own_base ho.1 (by omega), ho.2⟩
            have HRc : Hid (RdAt B0 B a len cap (wc.alloc (.cells #[.int .i64 k, .int .i64 n] 83)) ∧ w.grownBy (wc.alloc (.cells #[.int .i64 k, .int .i64 n] 83)) (some B)) := ⟨hrc.full (bel1 _ _), gb_trans hgc (gb_alloc _ _ _)⟩
            have HNc : Hid ((wc.alloc (.cells #[.int .i64 k, .int .i64 n] 83)).heap[w2.heap.size]? = some (Obj.cells #[.int .i64 k, .int .i64 n] 83 (0, 0))) := by show _ = _; rw [Below.heap_alloc _ _ _ hNc]; exact HN.out
            obtain ⟨i0, hi, hz0, hz1, hz2⟩ := info_parts Tryz.infoTyp2
            obtain ⟨lb, hlb⟩ : ∃ m, Lb d = m := ⟨_, rfl⟩
            have hlb1 : 1 ≤ lb := by rw [← hlb]; cases d <;> simp [Lb]
            have hlb40 : lb ≤ 13 := by
              rw [← hlb]
              match d, hd with
              | 0, _ => simp [Lb]
              | 1, _ => simp [Lb]
              | 2, _ => simp [Lb]
            have HLB : Hid (Lb d = lb) := hlb
            clear ho hrc hgc HN hlb
            go_wp2_with fail
            go_loopg [8, 9] K (fun gk v i wr => ∃ (j : Nat) (ts : List (Int × Int)), j + gk = K ∧ i = .int .i64 j ∧ wr.ownsRow (w2.heap.size + 1) 83 2 v ts.length (flatT ts) ∧ 0 < ts.length ∧ ts.length ≤ 1 + j * lb ∧ wfJ d k n j ts ∧ RdAt B0 B a len cap wr ∧ w.grownBy wr (some B) ∧ wr.heap[w2.heap.size]? = some (Obj.cells #[.int .i64 k, .int .i64 n] 83 (0, 0)))
            case atStart => exact ⟨0, [(k, n)], by omega, rfl, HO.out.1, by simp, by simp, ⟨HO.out.2, rfl, rfl⟩, HRc.out.1, HRc.out.2, HNc.out⟩
            case round =>
              clear c0 c1 f0 f1
              obtain ⟨j, ts, hj', rfl, hown, hlen, hlen2, hwf, hr, hg, hN⟩ := hrel
              have HJ : Hid (j + gk = K) := hj'
              have hj : j ≤ K := by omega
              clear hj'
              have HN : Hid (wr.heap[w2.heap.size]? = some (Obj.cells #[.int .i64 k, .int .i64 n] 83 (0, 0))) := hN
              obtain ⟨c0, c1, _, _⟩ := pair_cells hN
              have HO1 : Hid (wr.ownsRow (w2.heap.size + 1) 83 2 u8 ts.length (flatT ts)) := hown
              have HW : Hid (wfJ d k n j ts) := hwf
              have HR : Hid (RdAt B0 B a len cap wr) := hr
              have HG : Hid (w.grownBy wr (some B)) := hg
              have hNr : w2.heap.size < wr.heap.size := blk_lt hN
              clear hN hown hwf hr hg
              go_wp2_with fail
              refine (l2Kids_any _ _ _ (by assumption)).mono ?_
              rintro e w5 ⟨rfl, hb5⟩
              rw [HK.out]
              have HO5 : Hid (w5.ownsRow (w2.heap.size + 1) 83 2 u8 ts.length (flatT ts)) := HO1.out.kept (gb_full hb5 none) (by cases u8.ownBlock <;> simp)
              have HR5 : Hid (RdAt B0 B a len cap w5) := HR.out.full hb5
              have HG5 : Hid (w.grownBy w5 (some B)) := gb_trans HG.out (gb_full hb5 _)
              have HN5 : Hid (w5.heap[w2.heap.size]? = some (Obj.cells #[.int .i64 k, .int .i64 n] 83 (0, 0))) := (hb5.block _ hNr).trans HN.out
              have hN5 : w2.heap.size < w5.heap.size := blk_lt HN5.out
              clear hb5 c0 c1
              by_cases hjk : j < K
              · go_wp2_with fail
                refine (HI.out plain w5 (by omega) HR5.out).mono ?_
                rintro e w6 ⟨⟨v6, ts6, rfl, hown6, hl6, hl6', hwf6⟩, hr6, hg6⟩
                rw [HLB.out] at hl6'
                obtain ⟨g6, cap6, rfl, hg6b, hg6l⟩ := hown6.form hl6
                have HO6 : Hid (w6.ownsRow (w2.heap.size + 1) 83 2 u8 ts.length (flatT ts)) := HO5.out.kept hg6 (own_ne2 HO5.out (by omega))
                have HC6 : Hid (w6.ownsRow w5.heap.size 83 2 (.slice (some ⟨g6, 0, none⟩) ts6.length cap6) ts6.length (flatT ts6)) := hown6
                have HR6 : Hid (RdAt B0 B a len cap w6 ∧ w.grownBy w6 (some B)) := ⟨hr6, gb_trans HG5.out hg6⟩
                have HN6 : Hid (w6.heap[w2.heap.size]? = some (Obj.cells #[.int .i64 k, .int .i64 n] 83 (0, 0))) := (hg6.block _ hN5 (by simp; omega)).trans HN5.out
                have HW6 : Hid (wfG d ts6) := hwf6
                have h6s : w2.heap.size < w6.heap.size := blk_lt HN6.out
                have hjl : j * lb ≤ 3 * 13 := Nat.mul_le_mul (by omega) hlb40
                have hlenA : ts.length + ts6.length ≤ 1000 := by omega
                have hjl2 : ts.length + ts6.length ≤ 1 + (j + 1) * lb := by rw [Nat.add_mul]; omega
                clear hown6 hr6 hg6 hwf6 HO1 HO5 HR HR5 HG HG5 HN HN5
                go_wp2_with (at_builtin; refine wpList_append_lies _ rfl _ _ 24 rfl (w2.heap.size + 1) 83 i0 (.agg #[.int .i64 0, .int .i64 0]) 2 16 Tryz.underlying24 hi hz0 hz1 hz2 rfl (by decide) u8 ts.length (flatT ts) rfl HO6.out ⟨g6, 0, none⟩ ts6.length cap6 (flatT ts6) rfl (flatT_len ts6) (fun j u hu => HC6.out.cells (g := g6) rfl j u hu) (fun u hu => by obtain ⟨z, rfl⟩ := flatT_int ts6 u hu; rfl) hl6 (by unfold maxLen; omega) (by omega) (by omega) _ rfl ?_)
                intro g7 cap7 w7 hown7 hgrow hat hlt7
                have R1 : w.grownBy w7 (some B) := gb_app HR6.out.2 hgrow (fun q hq => by have := HO6.out.lt q hq; omega)
                have R2 : RdAt B0 B a len cap w7 := HR6.out.1.app hgrow (fun q hq => by have := HO6.out.lt q hq; omega)
                have R3 : w7.heap[w2.heap.size]? = some (Obj.cells #[.int .i64 k, .int .i64 n] 83 (0, 0)) := by rw [hgrow.block _ h6s (fun e => by have := HO6.out.lt _ e.symm; omega)]; exact HN6.out
                have R4 : w7.ownsRow (w2.heap.size + 1) 83 2 (.slice (some ⟨g7, 0, none⟩) (ts.length + ts6.length) cap7) (ts ++ ts6).length (flatT (ts ++ ts6)) := by rw [flatT_app, List.length_append]; exact hown7
                have HX : Hid ((w7.ownsRow (w2.heap.size + 1) 83 2 (.slice (some ⟨g7, 0, none⟩) (ts.length + ts6.length) cap7) (ts ++ ts6).length (flatT (ts ++ ts6))) ∧ wfJ d k n (j + 1) (ts ++ ts6) ∧ RdAt B0 B a len cap w7 ∧ w.grownBy w7 (some B) ∧ w7.heap[w2.heap.size]? = some (Obj.cells #[.int .i64 k, .int .i64 n] 83 (0, 0))) := ⟨R4, HW.out.next HW6.out, R2, R1, R3⟩
                clear R1 R2 R3 R4 hown7 hgrow hat hlt7
                go_wp2_with fail
                go_roundg (gk - 1)
                case rel => exact ⟨j + 1, ts ++ ts6, by have := HJ.out; omega, by go_num, HX.out.1, by simp; omega, by simp; omega, HX.out.2⟩
                case measure => have := HJ.out; omega
              · have HFG : Hid (wfG (d + 1) ts) := HW.out.done HOK.out (by rw [HK.out]; omega)
                have hfin : ts.length ≤ Lb (d + 1) := by
                  have e1 : j = K := by omega
                  have e2 : j * lb ≤ 3 * lb := Nat.mul_le_mul_right _ (by omega)
                  simp only [Lb]; rw [HLB.out]; omega
                go_wp2_with fail
                go_ret
                exact ⟨⟨_, ts, rfl, own_base HO5.out (by omega), hlen, hfin, HFG.out⟩, HR5.out, HG5.out⟩
    · go_wp2_with fail
      refine (flat_any B0 B a len cap _ hr1).mono ?_
      rintro e w2 ⟨⟨k, n, hk, hn, hf, rfl⟩, hr2, hg2⟩
      have HF : Hid (tyOk k n = true ∧ kids k n = 0) := hf
      clear hf
      go_wp2_with fail
      go_ret
      have ho := own_one w2 k n hk hn
      have hg := gb_trans hg1 hg2
      exact ⟨⟨_, [(k, n)], rfl, own_base ho.1 hg.size, by simp, by simp [Lb], ho.2, flat_good HF.out (d + 1)⟩, hr2.full (bel1 _ _), gb_trans hg (gb_alloc _ _ _)⟩
end Go.Proofs.YtepffjfgomhepaaGreatDoor
