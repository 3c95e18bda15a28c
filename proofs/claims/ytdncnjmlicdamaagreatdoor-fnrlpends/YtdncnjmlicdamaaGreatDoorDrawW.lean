/- The draw of a value: contract. -/
import Derived.Test.YtdncnjmlicdamaaGreatDoorDrawV
import Derived.Test.YtdncnjmlicdamaaGreatDoorSBq
import Derived.Test.YtdncnjmlicdamaaGreatDoorS3j
import Derived.Deep.RegionHeld3
import Derived.Deep.OwnRows
namespace Go.Proofs.YtdncnjmlicdamaaGreatDoor
open Go.RowKit Go.Sort
set_option linter.unusedVariables false
/-- Items whose numbers are numbers, and whose bytes are not many. -/
def wfI (vs : List It) : Prop := ∀ x ∈ vs, inI x.k ∧ x.n < 18446744073709551616 ∧ x.s.size ≤ 1000
theorem wfI_app {a b : List It} (ha : wfI a) (hb : wfI b) : wfI (a ++ b) := fun x hx => (List.mem_append.1 hx).elim (ha x) (hb x)
/-- What value leaves. -/
def VaPost (B0 B : Nat) (a : Option Addr) (len cap f : Nat) (w : World) (e : Ending) (w' : World) : Prop :=
  (∃ v vs, e = .returned v ∧ OwnIt w.heap.size w' v vs ∧ 0 < vs.length ∧ vs.length ≤ 200 * f + 1 ∧ wfI vs) ∧ RdAt B0 B a len cap w' ∧ w.grownBy w' (some B)
/-- The world in which an item is drawn: its type in one block, it in the next one. -/
def vaW (w : World) (k n : Int) : World := (w.alloc (.cells #[.int .i64 k, .int .i64 n] 88)).alloc (.cells #[.int .i64 k, .int .u64 0, .string ⟨#[]⟩] 52)
/-- Where the draw of a value stands once its own item is known. -/
def VxAt (B0 B : Nat) (a : Option Addr) (len cap : Nat) (k n : Int) (w wz : World) : Prop :=
  ∃ x : It, x.k = k ∧ fitsN k n x.n = true ∧ x.n < 18446744073709551616 ∧ x.s.size ≤ 1000 ∧ wz.heap[w.heap.size + 1]? = some (.cells #[.int .i64 k, .int .u64 x.n, .string x.s] 52 (0, 0)) ∧ RdAt B0 B a len cap wz ∧ w.grownBy wz (some B)
theorem va_cells {B : Nat} {k n : Int} {w wz : World} (hB : B < w.heap.size) (hg : (vaW w k n).grownBy wz (some B)) :
    wz.heap[w.heap.size]? = some (.cells #[.int .i64 k, .int .i64 n] 88 (0, 0)) ∧ wz.heap[w.heap.size + 1]? = some (.cells #[.int .i64 k, .int .u64 0, .string ⟨#[]⟩] 52 (0, 0)) := by
  constructor
  · rw [hg.block _ (by simp [vaW]; omega) (by simp; omega)]
    show ((w.alloc _).alloc _).heap[w.heap.size]? = _
    rw [Below.heap_alloc _ _ _ (by simp), heap_alloc_new]
  · rw [hg.block _ (by simp [vaW]) (by simp; omega)]
    have := heap_alloc_new (w.alloc (.cells #[.int .i64 k, .int .i64 n] 88)) (.cells #[.int .i64 k, .int .u64 0, .string ⟨#[]⟩] 52)
    simpa [vaW] using this
theorem row_facts {wz : World} {N : Nat} {cs : Array Value} {T : TypeId} (h : wz.heap[N]? = some (.cells cs T (0, 0))) : (∀ i, wz.cell? ⟨N, i, none⟩ = cs[i]?) ∧ ∀ i, wz.frozen? ⟨N, i, none⟩ = false :=
  ⟨fun i => cell_of_row wz N i cs T (0, 0) h, fun i => by simp [World.frozen?, h]⟩
theorem gb_vaW {B : Nat} {k n : Int} {w wz : World} (hg : (vaW w k n).grownBy wz (some B)) : w.grownBy wz (some B) := gb_trans (gb_trans (gb_alloc w (some B) _) (gb_alloc _ _ _)) hg
theorem rd_set {B0 B : Nat} {a : Option Addr} {len cap : Nat} {wz : World} {N i : Nat} {v : Value} (hr : RdAt B0 B a len cap wz) (hN : B < N) : RdAt B0 B a len cap (wz.setCell ⟨N, i, none⟩ v) :=
  hr.keep ((Below.refl _ _).setCell (p := ⟨N, i, none⟩) (by show B + 1 ≤ N; omega) _)
theorem gb_set {w wz : World} {B N i : Nat} {v : Value} (hg : w.grownBy wz (some B)) (hN : w.heap.size ≤ N) : w.grownBy (wz.setCell ⟨N, i, none⟩ v) (some B) :=
  ⟨hg.os, hg.tape, hg.output, by simpa using hg.size, fun q hq hne => by rw [Below.heap_setCell _ _ _ _ (show q ≠ N by omega)]; exact hg.block q hq hne⟩
theorem vx_num {B0 B : Nat} {a : Option Addr} {len cap : Nat} {k n : Int} {w wz : World} (hB : B < w.heap.size) {n0 : Value} (hN : wz.heap[w.heap.size + 1]? = some (.cells #[.int .i64 k, n0, .string ⟨#[]⟩] 52 (0, 0))) (hr : RdAt B0 B a len cap wz) (hg : w.grownBy wz (some B)) (m : Nat) (hf : fitsN k n m = true) (hm : m < 18446744073709551616) : VxAt B0 B a len cap k n w (wz.setCell ⟨w.heap.size + 1, 1, none⟩ (.int .u64 m)) :=
  ⟨⟨k, m, ⟨#[]⟩⟩, rfl, hf, hm, by show (0 : Nat) ≤ 1000; omega, by rw [set_block hN]; rfl, rd_set hr (by omega), gb_set hg (by omega)⟩
theorem vx_str {B0 B : Nat} {a : Option Addr} {len cap : Nat} {k n : Int} {w wz : World} (hB : B < w.heap.size) (hN : wz.heap[w.heap.size + 1]? = some (.cells #[.int .i64 k, .int .u64 0, .string ⟨#[]⟩] 52 (0, 0))) (hr : RdAt B0 B a len cap wz) (hg : w.grownBy wz (some B)) (t : ByteArray) (hf : fitsN k n 0 = true) (ht : t.size ≤ 1000) : VxAt B0 B a len cap k n w (wz.setCell ⟨w.heap.size + 1, 2, none⟩ (.string t)) :=
  ⟨⟨k, 0, t⟩, rfl, hf, by show (0 : Nat) < _; omega, ht, by rw [set_block hN]; rfl, rd_set hr (by omega), gb_set hg (by omega)⟩
theorem VxAt.alloc {B0 B : Nat} {a : Option Addr} {len cap : Nat} {k n : Int} {w wz : World} (h : VxAt B0 B a len cap k n w wz) (ob : Obj) : VxAt B0 B a len cap k n w (wz.alloc ob) := by
  obtain ⟨x, h1, h2, h3, h4, h5, h6, h7⟩ := h
  exact ⟨x, h1, h2, h3, h4, by rw [Below.heap_alloc _ _ _ (blk_lt h5)]; exact h5, h6.full (bel1 _ _), gb_trans h7 (gb_alloc _ _ _)⟩
theorem cell_al {W : World} {o : Obj} {p : Addr} {v : Value} (h : W.cell? p = some v) : (W.alloc o).cell? p = some v := by rw [(bel1 W o).cell (block_lt_of_cell h)]; exact h
theorem cell_set {W : World} {N N' i i' : Nat} {v u : Value} (h : W.cell? ⟨N, i, none⟩ = some v) (hne : N ≠ N' := by omega) : (W.setCell ⟨N', i', none⟩ u).cell? ⟨N, i, none⟩ = some v :=
  (World.cell?_of_block (w := W) (a := ⟨N, i, none⟩) (Below.heap_setCell _ _ _ _ hne)).trans h
theorem row_atV {ts : List (Int × Int)} {f a : Nat} {k : Int} {m : Nat} {w : World} {B g cap N : Nat} (h : w.ownsRow B 2 1 (.slice (some ⟨g, 0, none⟩) N cap) (np k m) (plRow ts f a k m)) {i : Nat} (hi : i < np k m) : w.cell? ⟨g, i, none⟩ = some (.int .i64 (pl ts f a k m i : Nat)) := by
  have := h.cells (g := g) rfl i (.int .i64 (pl ts f a k m i : Nat)) (by unfold plRow; simp [hi])
  have hadd : (⟨g, 0, none⟩ : Addr).add i = ⟨g, i, none⟩ := by unfold Addr.add; split <;> simp_all
  rwa [hadd] at this
theorem conv_zeros {W : World} {g N : Nat} (h : W.heap[g]? = some (.cells (madeCells #[.int .u8 0] N) 5 (0, 0))) : (convert 22 9 (.slice (some ⟨g, 0, none⟩) N N)).run Tryz.prog W = .ok (.string ⟨(List.replicate N (0 : UInt8)).toArray⟩) W := by
  have := run_convert_bytes_back (P := Tryz.prog) W 22 9 5 ⟨g, 0, none⟩ N (List.replicate N (0 : UInt8)) Tryz.underlying22 Tryz.underlying5 Tryz.underlying9 (fun j hj => by
    have hj' : j < N := by simpa using hj
    have hadd : (⟨g, 0, none⟩ : Addr).add j = ⟨g, j, none⟩ := by unfold Addr.add; split <;> simp_all
    rw [hadd, cell_of_row W g j _ _ _ h]
    simp [madeCells, hj', Nat.mod_one])
  rw [List.length_replicate] at this
  exact this
set_option maxRecDepth 100000 in
set_option maxHeartbeats 4000000 in
theorem value_any (B0 B : Nat) (a : Option Addr) (len cap : Nat) (ts : List (Int × Int)) : ∀ (f p e0 : Nat) (vt : Value) (w : World), f ≤ 7 → en ts f p = some e0 → RdAt B0 B a len cap w → (∀ w', w.grownBy w' (some B) → IsTyps w'.heap.size w' vt ts) →
    Calls Tryz.prog 24 #[.pointer (some ⟨B, 0, none⟩), vt, .int .i64 p] w fun e w' => VaPost B0 B a len cap f w e w' := by
  intro f
  induction f with
  | zero => intro p e0 vt w _ he; cases he
  | succ f ih =>
    intro p e0 vt w hf7 he hr hT
    obtain ⟨hp, hok, hit⟩ := en_inv he
    have HI : Hid (∀ (p e0 : Nat) (vt : Value) (w : World), f ≤ 7 → en ts f p = some e0 → RdAt B0 B a len cap w → (∀ w', w.grownBy w' (some B) → IsTyps w'.heap.size w' vt ts) → Calls Tryz.prog 24 #[.pointer (some ⟨B, 0, none⟩), vt, .int .i64 p] w fun e w' => VaPost B0 B a len cap f w e w') := ih
    have HT : Hid (∀ w', w.grownBy w' (some B) → IsTyps w'.heap.size w' vt ts) := hT
    have HPN : Hid (∀ (x : It) w', w.grownBy w' (some B) → fitsN ts[p].1 ts[p].2 x.n = true → Calls Tryz.prog 37 #[vt, .int .i64 p, .agg #[.int .i64 x.k, .int .u64 x.n, .string x.s]] w' fun e w'' => PlPost ts f p ts[p].1 x.n w' e w'') := fun x w' hg hfn => l3Plan_any ts f p e0 x vt w' (by omega) (hT w' hg) hp hok hit hfn
    have HPL : Hid (∀ m, fitsN ts[p].1 ts[p].2 m = true → ∀ j, j < np ts[p].1 m → ∃ e', en ts f (pl ts f p ts[p].1 m j) = some e') := fun m hfn j hj => pl_ok hp hok hit hfn hj
    have HNP : Hid (∀ m, fitsN ts[p].1 ts[p].2 m = true → np ts[p].1 m ≤ 20) := fun m hfn => np_le hok hfn
    obtain ⟨bt', o, capT, hv', hbt, h1, h2, c0, c1⟩ := (hT w (gb_refl _ _)).at hp
    have hst := (hT w (gb_refl _ _)).small
    have hB := hr.size
    have HR : Hid (RdAt B0 B a len cap w) := hr
    obtain ⟨k, hk⟩ : ∃ k, ts[p].1 = k := ⟨_, rfl⟩
    obtain ⟨n, hn⟩ : ∃ n, ts[p].2 = n := ⟨_, rfl⟩
    rw [hk] at c0 hok HPN HPL HNP
    rw [hn] at c1 hok HPN HPL HNP
    clear hit hT hr ih hk hn he
    subst hv'
    go_enter Tryz.func24, Tryz.ntmps24
    go_upto_block 0 with fail
    go_cut [] (fun wz => VxAt B0 B a len cap k n w wz)
    case first =>
      have HR0 : Hid (RdAt B0 B a len cap (vaW w k n)) := (HR.out.full (bel1 _ _)).full (bel1 _ _)
      have HG0 : Hid ((vaW w k n).grownBy (vaW w k n) (some B)) := gb_refl _ _
      simp only [tyOk, decide_eq_true_eq] at hok
      have hkk : k = 1 ∨ k = 2 ∨ k = 3 ∨ k = 4 ∨ k = 5 ∨ k = 6 ∨ k = 7 ∨ k = 8 ∨ k = 9 := by omega
      rcases hkk with rfl | rfl | rfl | rfl | rfl | rfl | rfl | rfl | rfl
      · have hn4 : n = 8 ∨ n = 16 ∨ n = 32 ∨ n = 64 := by omega
        rcases hn4 with rfl | rfl | rfl | rfl
        · go_wp2_with fail
          refine (num_any B0 B a len cap _ HR0.out).mono ?_
          rintro e w4 ⟨⟨v, hv, rfl⟩, hr4, hg4⟩
          obtain ⟨hN1, hN2⟩ := va_cells hB hg4
          have g1 := (row_facts hN2).1 1
          have g2 := (row_facts hN2).1 2
          have z1 := (row_facts hN2).2 1
          have z2 := (row_facts hN2).2 2
          have t1 := (row_facts hN1).1 1
          simp only [List.getElem?_toArray, List.getElem?_cons_succ, List.getElem?_cons_zero] at g1 g2 t1
          have hN3 := set_block (i := 1) hN2 (.int .u64 (v : Int))
          have s1 : (w4.setCell ⟨w.heap.size + 1, 1, none⟩ (.int .u64 v)).cell? ⟨w.heap.size + 1, 1, none⟩ = some (.int .u64 v) := by have := (row_facts hN3).1 1; simpa using this
          have s2 : (w4.setCell ⟨w.heap.size + 1, 1, none⟩ (.int .u64 v)).cell? ⟨w.heap.size, 1, none⟩ = some (.int .i64 8) := by rw [World.cell?_of_block (w := w4) (a := ⟨w.heap.size, 1, none⟩) (Below.heap_setCell _ _ _ _ (show w.heap.size ≠ w.heap.size + 1 by omega))]; exact t1
          have s3 := (row_facts hN3).2 1
          have HS : Hid (VxAt B0 B a len cap 1 8 w ((w4.setCell ⟨w.heap.size + 1, 1, none⟩ (.int .u64 v)).setCell ⟨w.heap.size + 1, 1, none⟩ (.int .u64 ((v % 256 : Nat) : Int)))) := vx_num hB (n0 := .int .u64 v) (by rw [hN3]; rfl) (rd_set hr4 (by omega)) (gb_set (gb_vaW hg4) (by omega)) (v % 256) (by simp [fitsN]; omega) (by omega)
          clear hN1 hN2 hN3 hr4 hg4
          go_wp2_with fail
          go_meet
          case rel => simpa using HS.out
        · go_wp2_with fail
          refine (num_any B0 B a len cap _ HR0.out).mono ?_
          rintro e w4 ⟨⟨v, hv, rfl⟩, hr4, hg4⟩
          obtain ⟨hN1, hN2⟩ := va_cells hB hg4
          have g1 := (row_facts hN2).1 1
          have g2 := (row_facts hN2).1 2
          have z1 := (row_facts hN2).2 1
          have z2 := (row_facts hN2).2 2
          have t1 := (row_facts hN1).1 1
          simp only [List.getElem?_toArray, List.getElem?_cons_succ, List.getElem?_cons_zero] at g1 g2 t1
          have hN3 := set_block (i := 1) hN2 (.int .u64 (v : Int))
          have s1 : (w4.setCell ⟨w.heap.size + 1, 1, none⟩ (.int .u64 v)).cell? ⟨w.heap.size + 1, 1, none⟩ = some (.int .u64 v) := by have := (row_facts hN3).1 1; simpa using this
          have s2 : (w4.setCell ⟨w.heap.size + 1, 1, none⟩ (.int .u64 v)).cell? ⟨w.heap.size, 1, none⟩ = some (.int .i64 16) := by rw [World.cell?_of_block (w := w4) (a := ⟨w.heap.size, 1, none⟩) (Below.heap_setCell _ _ _ _ (show w.heap.size ≠ w.heap.size + 1 by omega))]; exact t1
          have s3 := (row_facts hN3).2 1
          have HS : Hid (VxAt B0 B a len cap 1 16 w ((w4.setCell ⟨w.heap.size + 1, 1, none⟩ (.int .u64 v)).setCell ⟨w.heap.size + 1, 1, none⟩ (.int .u64 ((v % 65536 : Nat) : Int)))) := vx_num hB (n0 := .int .u64 v) (by rw [hN3]; rfl) (rd_set hr4 (by omega)) (gb_set (gb_vaW hg4) (by omega)) (v % 65536) (by simp [fitsN]; omega) (by omega)
          clear hN1 hN2 hN3 hr4 hg4
          go_wp2_with fail
          go_meet
          case rel => simpa using HS.out
        · go_wp2_with fail
          refine (num_any B0 B a len cap _ HR0.out).mono ?_
          rintro e w4 ⟨⟨v, hv, rfl⟩, hr4, hg4⟩
          obtain ⟨hN1, hN2⟩ := va_cells hB hg4
          have g1 := (row_facts hN2).1 1
          have g2 := (row_facts hN2).1 2
          have z1 := (row_facts hN2).2 1
          have z2 := (row_facts hN2).2 2
          have t1 := (row_facts hN1).1 1
          simp only [List.getElem?_toArray, List.getElem?_cons_succ, List.getElem?_cons_zero] at g1 g2 t1
          have hN3 := set_block (i := 1) hN2 (.int .u64 (v : Int))
          have s1 : (w4.setCell ⟨w.heap.size + 1, 1, none⟩ (.int .u64 v)).cell? ⟨w.heap.size + 1, 1, none⟩ = some (.int .u64 v) := by have := (row_facts hN3).1 1; simpa using this
          have s2 : (w4.setCell ⟨w.heap.size + 1, 1, none⟩ (.int .u64 v)).cell? ⟨w.heap.size, 1, none⟩ = some (.int .i64 32) := by rw [World.cell?_of_block (w := w4) (a := ⟨w.heap.size, 1, none⟩) (Below.heap_setCell _ _ _ _ (show w.heap.size ≠ w.heap.size + 1 by omega))]; exact t1
          have s3 := (row_facts hN3).2 1
          have HS : Hid (VxAt B0 B a len cap 1 32 w ((w4.setCell ⟨w.heap.size + 1, 1, none⟩ (.int .u64 v)).setCell ⟨w.heap.size + 1, 1, none⟩ (.int .u64 ((v % 4294967296 : Nat) : Int)))) := vx_num hB (n0 := .int .u64 v) (by rw [hN3]; rfl) (rd_set hr4 (by omega)) (gb_set (gb_vaW hg4) (by omega)) (v % 4294967296) (by simp [fitsN]; omega) (by omega)
          clear hN1 hN2 hN3 hr4 hg4
          go_wp2_with fail
          go_meet
          case rel => simpa using HS.out
        · go_wp2_with fail
          refine (num_any B0 B a len cap _ HR0.out).mono ?_
          rintro e w4 ⟨⟨v, hv, rfl⟩, hr4, hg4⟩
          obtain ⟨hN1, hN2⟩ := va_cells hB hg4
          have g1 := (row_facts hN2).1 1
          have g2 := (row_facts hN2).1 2
          have z1 := (row_facts hN2).2 1
          have z2 := (row_facts hN2).2 2
          have t1 := (row_facts hN1).1 1
          simp only [List.getElem?_toArray, List.getElem?_cons_succ, List.getElem?_cons_zero] at g1 g2 t1
          have s2 : (w4.setCell ⟨w.heap.size + 1, 1, none⟩ (.int .u64 v)).cell? ⟨w.heap.size, 1, none⟩ = some (.int .i64 64) := by rw [World.cell?_of_block (w := w4) (a := ⟨w.heap.size, 1, none⟩) (Below.heap_setCell _ _ _ _ (show w.heap.size ≠ w.heap.size + 1 by omega))]; exact t1
          have HS : Hid (VxAt B0 B a len cap 1 64 w (w4.setCell ⟨w.heap.size + 1, 1, none⟩ (.int .u64 v))) := vx_num hB hN2 hr4 (gb_vaW hg4) v (by simp [fitsN]; omega) hv
          clear hN1 hN2 hr4 hg4
          go_wp2_with fail
          go_meet
          case rel => exact HS.out
      · obtain rfl : n = 0 := by omega
        go_wp2_with fail
        refine (below_any B0 B a len cap 2 _ HR0.out (by omega) (by omega)).mono ?_
        rintro e w4 ⟨⟨z, hz, rfl⟩, hr4, hg4⟩
        obtain ⟨hN1, hN2⟩ := va_cells hB hg4
        have g1 := (row_facts hN2).1 1
        have g2 := (row_facts hN2).1 2
        have z1 := (row_facts hN2).2 1
        have z2 := (row_facts hN2).2 2
        have t1 := (row_facts hN1).1 1
        simp only [List.getElem?_toArray, List.getElem?_cons_succ, List.getElem?_cons_zero] at g1 g2 t1
        have HS : Hid (VxAt B0 B a len cap 2 0 w (w4.setCell ⟨w.heap.size + 1, 1, none⟩ (.int .u64 z))) := vx_num hB hN2 hr4 (gb_vaW hg4) z (by simp [fitsN]; omega) (by omega)
        clear hN1 hN2 hr4 hg4
        go_wp2_with fail
        go_meet
        case rel => exact HS.out
      · obtain ⟨N, rfl⟩ := Int.eq_ofNat_of_zero_le (show 0 ≤ n by omega)
        go_wp2_with fail
        refine (bytes_any B0 B a len cap N _ HR0.out (by omega)).mono ?_
        rintro e w4 ⟨⟨l, hl, rfl⟩, hr4, hg4⟩
        obtain ⟨hN1, hN2⟩ := va_cells hB hg4
        have g1 := (row_facts hN2).1 1
        have g2 := (row_facts hN2).1 2
        have z1 := (row_facts hN2).2 1
        have z2 := (row_facts hN2).2 2
        have t1 := (row_facts hN1).1 1
        simp only [List.getElem?_toArray, List.getElem?_cons_succ, List.getElem?_cons_zero] at g1 g2 t1
        have HS : Hid (VxAt B0 B a len cap 3 N w (w4.setCell ⟨w.heap.size + 1, 2, none⟩ (.string ⟨l.toArray⟩))) := vx_str hB hN2 hr4 (gb_vaW hg4) _ (by simp [fitsN]) (by show l.toArray.size ≤ 1000; simp; omega)
        clear hN1 hN2 hr4 hg4
        go_wp2_with fail
        go_meet
        case rel => exact HS.out
      · obtain ⟨N, rfl⟩ := Int.eq_ofNat_of_zero_le (show 0 ≤ n by omega)
        go_wp2_with fail
        have hmk := run_make_row' (P := Tryz.prog) 22 5 (.int .u8 0) 1 Tryz.underlying22 Tryz.infoU8 rfl .i64 .i64 N (by omega) (by omega)
        obtain ⟨Zs, hZs, hcv⟩ : ∃ Zs : ByteArray, Zs.size = N ∧ ∀ (W : World) (g : Nat), W.heap[g]? = some (.cells (madeCells #[.int .u8 0] N) 5 (0, 0)) → (convert 22 9 (.slice (some ⟨g, 0, none⟩) N N)).run Tryz.prog W = .ok (.string Zs) W := ⟨⟨(List.replicate N (0 : UInt8)).toArray⟩, by show (List.replicate N (0 : UInt8)).toArray.size = N; simp, fun W g hg => conv_zeros hg⟩
        have hcn : ∀ W : World, (convert 22 9 (.slice (some ⟨W.heap.size, 0, none⟩) N N)).run Tryz.prog (W.alloc (.cells (madeCells #[.int .u8 0] N) 5)) = .ok (.string Zs) (W.alloc (.cells (madeCells #[.int .u8 0] N) 5)) := fun W => hcv _ _ (heap_alloc_new W _)
        have HCV : Hid (∀ (W : World) (g : Nat), W.heap[g]? = some (.cells (madeCells #[.int .u8 0] N) 5 (0, 0)) → (convert 22 9 (.slice (some ⟨g, 0, none⟩) N N)).run Tryz.prog W = .ok (.string Zs) W) := hcv
        clear hcv
        have HRb : Hid (∀ W : World, RdAt B0 B a len cap W → Calls Tryz.prog 44 #[.pointer (some ⟨B, 0, none⟩), .int .i64 (N : Int)] W fun e w' => (∃ D : ByteArray, D.size ≤ N ∧ e = .returned (.string D)) ∧ RdAt B0 B a len cap w' ∧ W.grownBy w' (some B)) := fun W h => (bytes_any B0 B a len cap N W h (by omega)).mono fun e w' ⟨⟨l, hl, he⟩, h2⟩ => ⟨⟨⟨l.toArray⟩, by show l.toArray.size ≤ N; simpa using hl, he⟩, h2⟩
        have HWF : Hid (∀ W w4 : World, Below ((w.alloc (.cells #[.int .i64 4, .int .i64 (N : Int)] 88)).alloc (.cells #[.int .i64 4, .int .u64 0, .string ⟨#[]⟩] 52)).heap.size ((w.alloc (.cells #[.int .i64 4, .int .i64 (N : Int)] 88)).alloc (.cells #[.int .i64 4, .int .u64 0, .string ⟨#[]⟩] 52)) W → W.grownBy w4 (some B) → w4.cell? ⟨w.heap.size, 1, none⟩ = some (.int .i64 (N : Int)) ∧ w4.cell? ⟨w.heap.size + 1, 2, none⟩ = some (.string ⟨#[]⟩) ∧ w4.frozen? ⟨w.heap.size + 1, 2, none⟩ = false ∧ w.heap.size + 1 < w4.heap.size ∧ w4.heap[w.heap.size + 1]? = some (.cells #[.int .i64 4, .int .u64 0, .string ⟨#[]⟩] 52 (0, 0)) ∧ w.grownBy w4 (some B)) := fun W w4 hb hg => by
          have hg' : (vaW w 4 N).grownBy w4 (some B) := gb_trans (gb_full hb (some B)) hg
          obtain ⟨hN1, hN2⟩ := va_cells hB hg'
          have t1 := (row_facts hN1).1 1
          have g2 := (row_facts hN2).1 2
          simp only [List.getElem?_toArray, List.getElem?_cons_succ, List.getElem?_cons_zero] at t1 g2
          exact ⟨t1, g2, (row_facts hN2).2 2, blk_lt hN2, hN2, gb_vaW hg'⟩
        have HA1 : Hid (Below ((w.alloc (.cells #[.int .i64 4, .int .i64 (N : Int)] 88)).alloc (.cells #[.int .i64 4, .int .u64 0, .string ⟨#[]⟩] 52)).heap.size ((w.alloc (.cells #[.int .i64 4, .int .i64 (N : Int)] 88)).alloc (.cells #[.int .i64 4, .int .u64 0, .string ⟨#[]⟩] 52)) ((w.alloc (.cells #[.int .i64 4, .int .i64 (N : Int)] 88)).alloc (.cells #[.int .i64 4, .int .u64 0, .string ⟨#[]⟩] 52)).drew) := (Below.refl _ _).drew
        have HA2 : Hid (Below ((w.alloc (.cells #[.int .i64 4, .int .i64 (N : Int)] 88)).alloc (.cells #[.int .i64 4, .int .u64 0, .string ⟨#[]⟩] 52)).heap.size ((w.alloc (.cells #[.int .i64 4, .int .i64 (N : Int)] 88)).alloc (.cells #[.int .i64 4, .int .u64 0, .string ⟨#[]⟩] 52)) (((w.alloc (.cells #[.int .i64 4, .int .i64 (N : Int)] 88)).alloc (.cells #[.int .i64 4, .int .u64 0, .string ⟨#[]⟩] 52)).alloc (.cells (madeCells #[.int .u8 0] N) 5)).drew) := (bel1 _ _).drew
        have hn9 : (((w.alloc (.cells #[.int .i64 4, .int .i64 (N : Int)] 88)).alloc (.cells #[.int .i64 4, .int .u64 0, .string ⟨#[]⟩] 52)).alloc (.cells (madeCells #[.int .u8 0] N) 5)).drew.heap[w.heap.size + 1 + 1]? = some (.cells (madeCells #[.int .u8 0] N) 5 (0, 0)) := by
          have h9 := heap_alloc_new ((w.alloc (.cells #[.int .i64 4, .int .i64 (N : Int)] 88)).alloc (.cells #[.int .i64 4, .int .u64 0, .string ⟨#[]⟩] 52)) (.cells (madeCells #[.int .u8 0] N) 5)
          have e9 : ((w.alloc (.cells #[.int .i64 4, .int .i64 (N : Int)] 88)).alloc (.cells #[.int .i64 4, .int .u64 0, .string ⟨#[]⟩] 52)).heap.size = w.heap.size + 1 + 1 := by simp
          rw [e9] at h9
          exact h9
        have HN9 : Hid ((((w.alloc (.cells #[.int .i64 4, .int .i64 (N : Int)] 88)).alloc (.cells #[.int .i64 4, .int .u64 0, .string ⟨#[]⟩] 52)).alloc (.cells (madeCells #[.int .u8 0] N) 5)).drew.heap[w.heap.size + 1 + 1]? = some (.cells (madeCells #[.int .u8 0] N) 5 (0, 0))) := hn9
        clear hn9
        have hcd := HCV.out (((w.alloc (.cells #[.int .i64 4, .int .i64 (N : Int)] 88)).alloc (.cells #[.int .i64 4, .int .u64 0, .string ⟨#[]⟩] 52)).alloc (.cells (madeCells #[.int .u8 0] N) 5)).drew (w.heap.size + 1 + 1) HN9.out
        have HFIN : Hid (∀ (D : ByteArray) (W w4 : World), D.size ≤ N → Below ((w.alloc (.cells #[.int .i64 4, .int .i64 (N : Int)] 88)).alloc (.cells #[.int .i64 4, .int .u64 0, .string ⟨#[]⟩] 52)).heap.size ((w.alloc (.cells #[.int .i64 4, .int .i64 (N : Int)] 88)).alloc (.cells #[.int .i64 4, .int .u64 0, .string ⟨#[]⟩] 52)) W → W.grownBy w4 (some B) → RdAt B0 B a len cap w4 → VxAt B0 B a len cap 4 N w (w4.setCell ⟨w.heap.size + 1, 2, none⟩ (.string ((D ++ Zs).extract 0 N))) ∧ VxAt B0 B a len cap 4 N w ((w4.setCell ⟨w.heap.size + 1, 2, none⟩ (.string ((D ++ Zs).extract 0 N))).alloc (.cells (madeCells #[.int .u8 0] N) 5))) := fun D W w4 hD hb hg hr => by
          obtain ⟨_, _, _, hlt, hN2, hgw⟩ := HWF.out W w4 hb hg
          have hs : ((D ++ Zs).extract 0 N).size ≤ 1000 := by simp; omega
          exact ⟨vx_str hB hN2 hr hgw _ (by simp [fitsN]) hs, (vx_str hB hN2 hr hgw _ (by simp [fitsN]) hs).alloc _⟩
        have HX1 : Hid (Calls Tryz.prog 44 #[.pointer (some ⟨B, 0, none⟩), .int .i64 (N : Int)] ((w.alloc (.cells #[.int .i64 4, .int .i64 (N : Int)] 88)).alloc (.cells #[.int .i64 4, .int .u64 0, .string ⟨#[]⟩] 52)).drew fun e w4 => ∃ D : ByteArray, e = .returned (.string D) ∧ w4.cell? ⟨w.heap.size, 1, none⟩ = some (.int .i64 (N : Int)) ∧ w4.cell? ⟨w.heap.size + 1, 2, none⟩ = some (.string ⟨#[]⟩) ∧ w4.frozen? ⟨w.heap.size + 1, 2, none⟩ = false ∧ w.heap.size < w4.heap.size ∧ w.heap.size + 1 < w4.heap.size ∧ ¬ (9223372036854775807 < D.size + N) ∧ (N : Int) ≤ (D.size : Int) + (N : Int) ∧ Hid (VxAt B0 B a len cap 4 N w (w4.setCell ⟨w.heap.size + 1, 2, none⟩ (.string ((D ++ Zs).extract 0 N))) ∧ VxAt B0 B a len cap 4 N w ((w4.setCell ⟨w.heap.size + 1, 2, none⟩ (.string ((D ++ Zs).extract 0 N))).alloc (.cells (madeCells #[.int .u8 0] N) 5)))) := by
          refine (HRb.out _ (HR0.out.full HA1.out)).mono ?_
          rintro e w4 ⟨⟨D, hD, rfl⟩, hr4, hg4⟩
          obtain ⟨u1, u2, u3, u4, _, _⟩ := HWF.out _ w4 HA1.out hg4
          exact ⟨D, rfl, u1, u2, u3, by omega, u4, by omega, by omega, HFIN.out D _ w4 hD HA1.out hg4 hr4⟩
        have HX2 : Hid (Calls Tryz.prog 44 #[.pointer (some ⟨B, 0, none⟩), .int .i64 (N : Int)] (((w.alloc (.cells #[.int .i64 4, .int .i64 (N : Int)] 88)).alloc (.cells #[.int .i64 4, .int .u64 0, .string ⟨#[]⟩] 52)).alloc (.cells (madeCells #[.int .u8 0] N) 5)).drew fun e w4 => (∃ D : ByteArray, e = .returned (.string D) ∧ w4.cell? ⟨w.heap.size, 1, none⟩ = some (.int .i64 (N : Int)) ∧ w4.cell? ⟨w.heap.size + 1, 2, none⟩ = some (.string ⟨#[]⟩) ∧ w4.frozen? ⟨w.heap.size + 1, 2, none⟩ = false ∧ w.heap.size < w4.heap.size ∧ w.heap.size + 1 < w4.heap.size ∧ ¬ (9223372036854775807 < D.size + N) ∧ (N : Int) ≤ (D.size : Int) + (N : Int) ∧ Hid (VxAt B0 B a len cap 4 N w (w4.setCell ⟨w.heap.size + 1, 2, none⟩ (.string ((D ++ Zs).extract 0 N))) ∧ VxAt B0 B a len cap 4 N w ((w4.setCell ⟨w.heap.size + 1, 2, none⟩ (.string ((D ++ Zs).extract 0 N))).alloc (.cells (madeCells #[.int .u8 0] N) 5)))) ∧ (convert 22 9 (.slice (some ⟨w.heap.size + 1 + 1, 0, none⟩) N N)).run Tryz.prog w4 = .ok (.string Zs) w4) := by
          refine (HRb.out _ (HR0.out.full HA2.out)).mono ?_
          rintro e w4 ⟨⟨D, hD, rfl⟩, hr4, hg4⟩
          obtain ⟨u1, u2, u3, u4, _, _⟩ := HWF.out _ w4 HA2.out hg4
          exact ⟨⟨D, rfl, u1, u2, u3, by omega, u4, by omega, by omega, HFIN.out D _ w4 hD HA2.out hg4 hr4⟩, HCV.out w4 (w.heap.size + 1 + 1) ((hg4.block _ (by simp) (by simp; omega)).trans HN9.out)⟩
        clear HFIN HWF HRb HCV HA1 HA2 HN9
        refine wp_region_noPanic ?_
        refine wp_region_held_drew (S := fun W => W.cell? ⟨w.heap.size, 1, none⟩ = some (.int .i64 (N : Int))) (by kernel_rfl) (by simp [go_sem]) (fun hHeld => ?_)
        refine wpAnyH_take (i := 0) (oi := ({ dst := some 57, op := Go.Op.move (Go.Operand.tmp 0), type := 53, pos := "l03_values.go:244", after := #[], guard := none })) (v := ?v0) rfl (by kernel_rfl) (by kernel_rfl) (by kernel_rfl) (fun _ _ _ h => h) (Or.inl ⟨by rfl, ?y0⟩) (by assumption) ?r0
        case y0 => (intro W hSw; (try dsimp only at hSw); go_simp; first | done | with_reducible rfl)
        try simp only [Act.put, List.setIfInBounds_toArray, List.set_cons_zero, List.set_cons_succ]
        refine wpAnyH_take (i := 1) (oi := ({ dst := some 58, op := Go.Op.fieldAddr 88 (Go.Operand.tmp 7) 1, type := 0, pos := "l03_values.go:244", after := #[], guard := none })) (v := ?v1) rfl (by kernel_rfl) (by kernel_rfl) (by kernel_rfl) (fun _ _ _ h => h) (Or.inl ⟨by rfl, ?y1⟩) (by assumption) ?r1
        case y1 => (intro W hSw; (try dsimp only at hSw); go_simp; first | done | with_reducible rfl)
        try simp only [Act.put, List.setIfInBounds_toArray, List.set_cons_zero, List.set_cons_succ]
        refine wpAnyH_take (i := 2) (oi := ({ dst := some 59, op := Go.Op.load 2 (Go.Operand.tmp 58), type := 2, pos := "l03_values.go:244", after := #[{ on := 1, ground := Go.Ground.data }], guard := none })) (v := ?v2) rfl (by kernel_rfl) (by kernel_rfl) (by kernel_rfl) (fun _ _ _ h => h) (Or.inl ⟨by rfl, ?y2⟩) (by assumption) ?r2
        case y2 => (intro W hSw; (try dsimp only at hSw); go_simp; first | done | with_reducible rfl)
        try simp only [Act.put, List.setIfInBounds_toArray, List.set_cons_zero, List.set_cons_succ]
        refine wpAnyH_take (i := 4) (oi := ({ dst := some 61, op := Go.Op.fieldAddr 88 (Go.Operand.tmp 7) 1, type := 0, pos := "l03_values.go:244", after := #[], guard := none })) (v := ?v4) rfl (by kernel_rfl) (by kernel_rfl) (by kernel_rfl) (fun _ _ _ h => h) (Or.inl ⟨by rfl, ?y4⟩) (by assumption) ?r4
        case y4 => (intro W hSw; (try dsimp only at hSw); go_simp; first | done | with_reducible rfl)
        try simp only [Act.put, List.setIfInBounds_toArray, List.set_cons_zero, List.set_cons_succ]
        refine wpAnyH_take (i := 5) (oi := ({ dst := some 62, op := Go.Op.load 2 (Go.Operand.tmp 61), type := 2, pos := "l03_values.go:244", after := #[{ on := 4, ground := Go.Ground.data }], guard := none })) (v := ?v5) rfl (by kernel_rfl) (by kernel_rfl) (by kernel_rfl) (fun _ _ _ h => h) (Or.inl ⟨by rfl, ?y5⟩) (by assumption) ?r5
        case y5 => (intro W hSw; (try dsimp only at hSw); go_simp; first | done | with_reducible rfl)
        try simp only [Act.put, List.setIfInBounds_toArray, List.set_cons_zero, List.set_cons_succ]
        refine wpAnyH_take (i := 9) (oi := ({ dst := some 66, op := Go.Op.fieldAddr 88 (Go.Operand.tmp 7) 1, type := 0, pos := "l03_values.go:244", after := #[], guard := none })) (v := ?v9) rfl (by kernel_rfl) (by kernel_rfl) (by kernel_rfl) (fun _ _ _ h => h) (Or.inl ⟨by rfl, ?y9⟩) (by assumption) ?r9
        case y9 => (intro W hSw; (try dsimp only at hSw); go_simp; first | done | with_reducible rfl)
        try simp only [Act.put, List.setIfInBounds_toArray, List.set_cons_zero, List.set_cons_succ]
        refine wpAnyH_take (i := 10) (oi := ({ dst := some 67, op := Go.Op.load 2 (Go.Operand.tmp 66), type := 2, pos := "l03_values.go:244", after := #[{ on := 9, ground := Go.Ground.data }], guard := none })) (v := ?v10) rfl (by kernel_rfl) (by kernel_rfl) (by kernel_rfl) (fun _ _ _ h => h) (Or.inl ⟨by rfl, ?y10⟩) (by assumption) ?r10
        case y10 => (intro W hSw; (try dsimp only at hSw); go_simp; first | done | with_reducible rfl)
        try simp only [Act.put, List.setIfInBounds_toArray, List.set_cons_zero, List.set_cons_succ]
        refine wpAnyH_ready (rs := [3, 6]) (by kernel_rfl) (by simp) ?_
        refine AllReadyH.cons (o := ({ dst := some 60, op := Go.Op.call { callee := Go.Callee.value (Go.Operand.func 44), args := #[Go.Operand.tmp 57, Go.Operand.tmp 59], argTypes := #[53, 3] }, type := 9, pos := "l03_values.go:244", after := #[{ on := 0, ground := Go.Ground.data }, { on := 2, ground := Go.Ground.data }], guard := none })) rfl (fun K hK => ?_) ?_
        · -- the bytes first
          go_wp2_with (go_at_call 44; refine Calls.mono HX1.out ?_; rintro e w4 ⟨D, rfl, q1, q2, q3, q4, q5, k1, k3, HV5⟩)
          refine hK.out _ _ (by first | exact q1 | exact cell_al q1 | exact cell_al (cell_set q1) | exact cell_set q1 | exact cell_set (cell_al q1) | assumption | (simp [go_sem]; done)) (fun hHeld => ?_)
          clear hK K
          try simp only [Act.put, List.setIfInBounds_toArray, List.set_cons_zero, List.set_cons_succ]
          refine wpAnyH_ready (rs := [6]) (by kernel_rfl) (by simp) (AllReadyH.cons (o := ({ dst := some 63, op := Go.Op.makeSlice 22 (Go.Operand.tmp 62) (Go.Operand.tmp 62), type := 22, pos := "l03_values.go:244", after := #[{ on := 5, ground := Go.Ground.data }, { on := 5, ground := Go.Ground.data }], guard := none })) rfl (fun K hK => ?_) AllReadyH.nil)
          go_simp
          refine hK.out _ _ (by first | exact q1 | exact cell_al q1 | exact cell_al (cell_set q1) | exact cell_set q1 | exact cell_set (cell_al q1) | assumption | (simp [go_sem]; done)) (fun hHeld => ?_)
          clear hK K
          try simp only [Act.put, List.setIfInBounds_toArray, List.set_cons_zero, List.set_cons_succ]
          refine wpAnyH_ready (rs := [7]) (by kernel_rfl) (by simp) (AllReadyH.cons (o := ({ dst := some 64, op := Go.Op.convert 22 9 (Go.Operand.tmp 63), type := 9, pos := "l03_values.go:244", after := #[{ on := 6, ground := Go.Ground.data }], guard := none })) rfl (fun K hK => ?_) AllReadyH.nil)
          go_simp
          refine hK.out _ _ (by first | exact q1 | exact cell_al q1 | exact cell_al (cell_set q1) | exact cell_set q1 | exact cell_set (cell_al q1) | assumption | (simp [go_sem]; done)) (fun hHeld => ?_)
          clear hK K
          try simp only [Act.put, List.setIfInBounds_toArray, List.set_cons_zero, List.set_cons_succ]
          refine wpAnyH_ready (rs := [8]) (by kernel_rfl) (by simp) (AllReadyH.cons (o := ({ dst := some 65, op := Go.Op.binOp Go.BinOp.add 9 (Go.Operand.tmp 60) (Go.Operand.tmp 64) 9, type := 9, pos := "l03_values.go:244", after := #[{ on := 3, ground := Go.Ground.data }, { on := 7, ground := Go.Ground.data }], guard := none })) rfl (fun K hK => ?_) AllReadyH.nil)
          go_simp
          refine hK.out _ _ (by first | exact q1 | exact cell_al q1 | exact cell_al (cell_set q1) | exact cell_set q1 | exact cell_set (cell_al q1) | assumption | (simp [go_sem]; done)) (fun hHeld => ?_)
          clear hK K
          try simp only [Act.put, List.setIfInBounds_toArray, List.set_cons_zero, List.set_cons_succ]
          refine wpAnyH_ready (rs := [11]) (by kernel_rfl) (by simp) (AllReadyH.cons (o := ({ dst := some 68, op := Go.Op.slice 9 (Go.Operand.tmp 65) none (some (Go.Operand.tmp 67)) none, type := 9, pos := "l03_values.go:244", after := #[{ on := 8, ground := Go.Ground.data }, { on := 10, ground := Go.Ground.data }], guard := none })) rfl (fun K hK => ?_) AllReadyH.nil)
          go_simp
          refine hK.out _ _ (by first | exact q1 | exact cell_al q1 | exact cell_al (cell_set q1) | exact cell_set q1 | exact cell_set (cell_al q1) | assumption | (simp [go_sem]; done)) (fun hHeld => ?_)
          clear hK K
          try simp only [Act.put, List.setIfInBounds_toArray, List.set_cons_zero, List.set_cons_succ]
          refine wpAnyH_ready (rs := [12]) (by kernel_rfl) (by simp) (AllReadyH.cons (o := ({ dst := some 69, op := Go.Op.fieldAddr 52 (Go.Operand.tmp 8) 2, type := 0, pos := "l03_values.go:244", after := #[{ on := 0, ground := Go.Ground.phase }, { on := 1, ground := Go.Ground.phase }, { on := 2, ground := Go.Ground.phase }, { on := 3, ground := Go.Ground.phase }, { on := 4, ground := Go.Ground.phase }, { on := 5, ground := Go.Ground.phase }, { on := 6, ground := Go.Ground.phase }, { on := 7, ground := Go.Ground.phase }, { on := 8, ground := Go.Ground.phase }, { on := 9, ground := Go.Ground.phase }, { on := 10, ground := Go.Ground.phase }, { on := 11, ground := Go.Ground.phase }], guard := none })) rfl (fun K hK => ?_) AllReadyH.nil)
          go_simp
          refine hK.out _ _ (by first | exact q1 | exact cell_al q1 | exact cell_al (cell_set q1) | exact cell_set q1 | exact cell_set (cell_al q1) | assumption | (simp [go_sem]; done)) (fun hHeld => ?_)
          clear hK K
          try simp only [Act.put, List.setIfInBounds_toArray, List.set_cons_zero, List.set_cons_succ]
          refine wpAnyH_ready (rs := [13]) (by kernel_rfl) (by simp) (AllReadyH.cons (o := ({ dst := none, op := Go.Op.store 9 (Go.Operand.tmp 69) (Go.Operand.tmp 68), type := 0, pos := "l03_values.go:244", after := #[{ on := 12, ground := Go.Ground.data }, { on := 11, ground := Go.Ground.data }, { on := 3, ground := Go.Ground.chain }, { on := 0, ground := Go.Ground.phase }, { on := 1, ground := Go.Ground.phase }, { on := 2, ground := Go.Ground.phase }, { on := 3, ground := Go.Ground.phase }, { on := 4, ground := Go.Ground.phase }, { on := 5, ground := Go.Ground.phase }, { on := 6, ground := Go.Ground.phase }, { on := 7, ground := Go.Ground.phase }, { on := 8, ground := Go.Ground.phase }, { on := 9, ground := Go.Ground.phase }, { on := 10, ground := Go.Ground.phase }, { on := 11, ground := Go.Ground.phase }], guard := none })) rfl (fun K hK => ?_) AllReadyH.nil)
          go_simp
          refine hK.out _ _ (by first | exact q1 | exact cell_al q1 | exact cell_al (cell_set q1) | exact cell_set q1 | exact cell_set (cell_al q1) | assumption | (simp [go_sem]; done)) (fun hHeld => ?_)
          clear hK K
          try simp only [Act.put, List.setIfInBounds_toArray, List.set_cons_zero, List.set_cons_succ]
          refine wpAnyH_done (by kernel_rfl) ?_ _
          refine NoPanic.normal ?_
          go_wp2_with fail
          go_meet
          case rel => first | exact HV5.out.2 | simpa using HV5.out.2
        refine AllReadyH.cons (o := ({ dst := some 63, op := Go.Op.makeSlice 22 (Go.Operand.tmp 62) (Go.Operand.tmp 62), type := 22, pos := "l03_values.go:244", after := #[{ on := 5, ground := Go.Ground.data }, { on := 5, ground := Go.Ground.data }], guard := none })) rfl (fun K hK => ?_) AllReadyH.nil
        go_simp
        refine hK.out _ _ (by simp [go_sem]) (fun hHeld => ?_)
        clear hK K
        try simp only [Act.put, List.setIfInBounds_toArray, List.set_cons_zero, List.set_cons_succ]
        refine wpAnyH_ready (rs := [3, 7]) (by kernel_rfl) (by simp) ?_
        refine AllReadyH.cons (o := ({ dst := some 60, op := Go.Op.call { callee := Go.Callee.value (Go.Operand.func 44), args := #[Go.Operand.tmp 57, Go.Operand.tmp 59], argTypes := #[53, 3] }, type := 9, pos := "l03_values.go:244", after := #[{ on := 0, ground := Go.Ground.data }, { on := 2, ground := Go.Ground.data }], guard := none })) rfl (fun K hK => ?_) ?_
        · -- then the bytes
          go_wp2_with (go_at_call 44; refine Calls.mono HX2.out ?_; rintro e w4 ⟨⟨D, rfl, q1, q2, q3, q4, q5, k1, k3, HV5⟩, hck⟩)
          refine hK.out _ _ (by first | exact q1 | exact cell_al q1 | exact cell_al (cell_set q1) | exact cell_set q1 | exact cell_set (cell_al q1) | assumption | (simp [go_sem]; done)) (fun hHeld => ?_)
          clear hK K
          try simp only [Act.put, List.setIfInBounds_toArray, List.set_cons_zero, List.set_cons_succ]
          refine wpAnyH_ready (rs := [7]) (by kernel_rfl) (by simp) (AllReadyH.cons (o := ({ dst := some 64, op := Go.Op.convert 22 9 (Go.Operand.tmp 63), type := 9, pos := "l03_values.go:244", after := #[{ on := 6, ground := Go.Ground.data }], guard := none })) rfl (fun K hK => ?_) AllReadyH.nil)
          go_simp
          refine hK.out _ _ (by first | exact q1 | exact cell_al q1 | exact cell_al (cell_set q1) | exact cell_set q1 | exact cell_set (cell_al q1) | assumption | (simp [go_sem]; done)) (fun hHeld => ?_)
          clear hK K
          try simp only [Act.put, List.setIfInBounds_toArray, List.set_cons_zero, List.set_cons_succ]
          refine wpAnyH_ready (rs := [8]) (by kernel_rfl) (by simp) (AllReadyH.cons (o := ({ dst := some 65, op := Go.Op.binOp Go.BinOp.add 9 (Go.Operand.tmp 60) (Go.Operand.tmp 64) 9, type := 9, pos := "l03_values.go:244", after := #[{ on := 3, ground := Go.Ground.data }, { on := 7, ground := Go.Ground.data }], guard := none })) rfl (fun K hK => ?_) AllReadyH.nil)
          go_simp
          refine hK.out _ _ (by first | exact q1 | exact cell_al q1 | exact cell_al (cell_set q1) | exact cell_set q1 | exact cell_set (cell_al q1) | assumption | (simp [go_sem]; done)) (fun hHeld => ?_)
          clear hK K
          try simp only [Act.put, List.setIfInBounds_toArray, List.set_cons_zero, List.set_cons_succ]
          refine wpAnyH_ready (rs := [11]) (by kernel_rfl) (by simp) (AllReadyH.cons (o := ({ dst := some 68, op := Go.Op.slice 9 (Go.Operand.tmp 65) none (some (Go.Operand.tmp 67)) none, type := 9, pos := "l03_values.go:244", after := #[{ on := 8, ground := Go.Ground.data }, { on := 10, ground := Go.Ground.data }], guard := none })) rfl (fun K hK => ?_) AllReadyH.nil)
          go_simp
          refine hK.out _ _ (by first | exact q1 | exact cell_al q1 | exact cell_al (cell_set q1) | exact cell_set q1 | exact cell_set (cell_al q1) | assumption | (simp [go_sem]; done)) (fun hHeld => ?_)
          clear hK K
          try simp only [Act.put, List.setIfInBounds_toArray, List.set_cons_zero, List.set_cons_succ]
          refine wpAnyH_ready (rs := [12]) (by kernel_rfl) (by simp) (AllReadyH.cons (o := ({ dst := some 69, op := Go.Op.fieldAddr 52 (Go.Operand.tmp 8) 2, type := 0, pos := "l03_values.go:244", after := #[{ on := 0, ground := Go.Ground.phase }, { on := 1, ground := Go.Ground.phase }, { on := 2, ground := Go.Ground.phase }, { on := 3, ground := Go.Ground.phase }, { on := 4, ground := Go.Ground.phase }, { on := 5, ground := Go.Ground.phase }, { on := 6, ground := Go.Ground.phase }, { on := 7, ground := Go.Ground.phase }, { on := 8, ground := Go.Ground.phase }, { on := 9, ground := Go.Ground.phase }, { on := 10, ground := Go.Ground.phase }, { on := 11, ground := Go.Ground.phase }], guard := none })) rfl (fun K hK => ?_) AllReadyH.nil)
          go_simp
          refine hK.out _ _ (by first | exact q1 | exact cell_al q1 | exact cell_al (cell_set q1) | exact cell_set q1 | exact cell_set (cell_al q1) | assumption | (simp [go_sem]; done)) (fun hHeld => ?_)
          clear hK K
          try simp only [Act.put, List.setIfInBounds_toArray, List.set_cons_zero, List.set_cons_succ]
          refine wpAnyH_ready (rs := [13]) (by kernel_rfl) (by simp) (AllReadyH.cons (o := ({ dst := none, op := Go.Op.store 9 (Go.Operand.tmp 69) (Go.Operand.tmp 68), type := 0, pos := "l03_values.go:244", after := #[{ on := 12, ground := Go.Ground.data }, { on := 11, ground := Go.Ground.data }, { on := 3, ground := Go.Ground.chain }, { on := 0, ground := Go.Ground.phase }, { on := 1, ground := Go.Ground.phase }, { on := 2, ground := Go.Ground.phase }, { on := 3, ground := Go.Ground.phase }, { on := 4, ground := Go.Ground.phase }, { on := 5, ground := Go.Ground.phase }, { on := 6, ground := Go.Ground.phase }, { on := 7, ground := Go.Ground.phase }, { on := 8, ground := Go.Ground.phase }, { on := 9, ground := Go.Ground.phase }, { on := 10, ground := Go.Ground.phase }, { on := 11, ground := Go.Ground.phase }], guard := none })) rfl (fun K hK => ?_) AllReadyH.nil)
          go_simp
          refine hK.out _ _ (by first | exact q1 | exact cell_al q1 | exact cell_al (cell_set q1) | exact cell_set q1 | exact cell_set (cell_al q1) | assumption | (simp [go_sem]; done)) (fun hHeld => ?_)
          clear hK K
          try simp only [Act.put, List.setIfInBounds_toArray, List.set_cons_zero, List.set_cons_succ]
          refine wpAnyH_done (by kernel_rfl) ?_ _
          refine NoPanic.normal ?_
          go_wp2_with fail
          go_meet
          case rel => first | exact HV5.out.1 | simpa using HV5.out.1
        refine AllReadyH.cons (o := ({ dst := some 64, op := Go.Op.convert 22 9 (Go.Operand.tmp 63), type := 9, pos := "l03_values.go:244", after := #[{ on := 6, ground := Go.Ground.data }], guard := none })) rfl (fun K hK => ?_) AllReadyH.nil
        go_simp
        refine hK.out _ _ (by simp [go_sem]) (fun hHeld => ?_)
        clear hK K
        try simp only [Act.put, List.setIfInBounds_toArray, List.set_cons_zero, List.set_cons_succ]
        refine wpAnyH_ready (rs := [3]) (by kernel_rfl) (by simp) (AllReadyH.cons (o := ({ dst := some 60, op := Go.Op.call { callee := Go.Callee.value (Go.Operand.func 44), args := #[Go.Operand.tmp 57, Go.Operand.tmp 59], argTypes := #[53, 3] }, type := 9, pos := "l03_values.go:244", after := #[{ on := 0, ground := Go.Ground.data }, { on := 2, ground := Go.Ground.data }], guard := none })) rfl (fun K hK => ?_) AllReadyH.nil)
        go_wp2_with (go_at_call 44; refine Calls.mono HX2.out ?_; rintro e w4 ⟨⟨D, rfl, q1, q2, q3, q4, q5, k1, k3, HV5⟩, hck⟩)
        refine hK.out _ _ (by first | exact q1 | exact cell_al q1 | exact cell_al (cell_set q1) | exact cell_set q1 | exact cell_set (cell_al q1) | assumption | (simp [go_sem]; done)) (fun hHeld => ?_)
        clear hK K
        try simp only [Act.put, List.setIfInBounds_toArray, List.set_cons_zero, List.set_cons_succ]
        refine wpAnyH_ready (rs := [8]) (by kernel_rfl) (by simp) (AllReadyH.cons (o := ({ dst := some 65, op := Go.Op.binOp Go.BinOp.add 9 (Go.Operand.tmp 60) (Go.Operand.tmp 64) 9, type := 9, pos := "l03_values.go:244", after := #[{ on := 3, ground := Go.Ground.data }, { on := 7, ground := Go.Ground.data }], guard := none })) rfl (fun K hK => ?_) AllReadyH.nil)
        go_simp
        refine hK.out _ _ (by first | exact q1 | exact cell_al q1 | exact cell_al (cell_set q1) | exact cell_set q1 | exact cell_set (cell_al q1) | assumption | (simp [go_sem]; done)) (fun hHeld => ?_)
        clear hK K
        try simp only [Act.put, List.setIfInBounds_toArray, List.set_cons_zero, List.set_cons_succ]
        refine wpAnyH_ready (rs := [11]) (by kernel_rfl) (by simp) (AllReadyH.cons (o := ({ dst := some 68, op := Go.Op.slice 9 (Go.Operand.tmp 65) none (some (Go.Operand.tmp 67)) none, type := 9, pos := "l03_values.go:244", after := #[{ on := 8, ground := Go.Ground.data }, { on := 10, ground := Go.Ground.data }], guard := none })) rfl (fun K hK => ?_) AllReadyH.nil)
        go_simp
        refine hK.out _ _ (by first | exact q1 | exact cell_al q1 | exact cell_al (cell_set q1) | exact cell_set q1 | exact cell_set (cell_al q1) | assumption | (simp [go_sem]; done)) (fun hHeld => ?_)
        clear hK K
        try simp only [Act.put, List.setIfInBounds_toArray, List.set_cons_zero, List.set_cons_succ]
        refine wpAnyH_ready (rs := [12]) (by kernel_rfl) (by simp) (AllReadyH.cons (o := ({ dst := some 69, op := Go.Op.fieldAddr 52 (Go.Operand.tmp 8) 2, type := 0, pos := "l03_values.go:244", after := #[{ on := 0, ground := Go.Ground.phase }, { on := 1, ground := Go.Ground.phase }, { on := 2, ground := Go.Ground.phase }, { on := 3, ground := Go.Ground.phase }, { on := 4, ground := Go.Ground.phase }, { on := 5, ground := Go.Ground.phase }, { on := 6, ground := Go.Ground.phase }, { on := 7, ground := Go.Ground.phase }, { on := 8, ground := Go.Ground.phase }, { on := 9, ground := Go.Ground.phase }, { on := 10, ground := Go.Ground.phase }, { on := 11, ground := Go.Ground.phase }], guard := none })) rfl (fun K hK => ?_) AllReadyH.nil)
        go_simp
        refine hK.out _ _ (by first | exact q1 | exact cell_al q1 | exact cell_al (cell_set q1) | exact cell_set q1 | exact cell_set (cell_al q1) | assumption | (simp [go_sem]; done)) (fun hHeld => ?_)
        clear hK K
        try simp only [Act.put, List.setIfInBounds_toArray, List.set_cons_zero, List.set_cons_succ]
        refine wpAnyH_ready (rs := [13]) (by kernel_rfl) (by simp) (AllReadyH.cons (o := ({ dst := none, op := Go.Op.store 9 (Go.Operand.tmp 69) (Go.Operand.tmp 68), type := 0, pos := "l03_values.go:244", after := #[{ on := 12, ground := Go.Ground.data }, { on := 11, ground := Go.Ground.data }, { on := 3, ground := Go.Ground.chain }, { on := 0, ground := Go.Ground.phase }, { on := 1, ground := Go.Ground.phase }, { on := 2, ground := Go.Ground.phase }, { on := 3, ground := Go.Ground.phase }, { on := 4, ground := Go.Ground.phase }, { on := 5, ground := Go.Ground.phase }, { on := 6, ground := Go.Ground.phase }, { on := 7, ground := Go.Ground.phase }, { on := 8, ground := Go.Ground.phase }, { on := 9, ground := Go.Ground.phase }, { on := 10, ground := Go.Ground.phase }, { on := 11, ground := Go.Ground.phase }], guard := none })) rfl (fun K hK => ?_) AllReadyH.nil)
        go_simp
        refine hK.out _ _ (by first | exact q1 | exact cell_al q1 | exact cell_al (cell_set q1) | exact cell_set q1 | exact cell_set (cell_al q1) | assumption | (simp [go_sem]; done)) (fun hHeld => ?_)
        clear hK K
        try simp only [Act.put, List.setIfInBounds_toArray, List.set_cons_zero, List.set_cons_succ]
        refine wpAnyH_done (by kernel_rfl) ?_ _
        refine NoPanic.normal ?_
        go_wp2_with fail
        go_meet
        case rel => first | exact HV5.out.1 | simpa using HV5.out.1
      · obtain ⟨N, rfl⟩ := Int.eq_ofNat_of_zero_le (show 0 ≤ n by omega)
        go_wp2_with fail
        refine (below_any B0 B a len cap ((N : Int) + 1) _ HR0.out (by omega) (by omega)).mono ?_
        rintro e w4 ⟨⟨z, hz, rfl⟩, hr4, hg4⟩
        obtain ⟨hN1, hN2⟩ := va_cells hB hg4
        have g1 := (row_facts hN2).1 1
        have g2 := (row_facts hN2).1 2
        have z1 := (row_facts hN2).2 1
        have z2 := (row_facts hN2).2 2
        have t1 := (row_facts hN1).1 1
        simp only [List.getElem?_toArray, List.getElem?_cons_succ, List.getElem?_cons_zero] at g1 g2 t1
        have HS : Hid (VxAt B0 B a len cap 5 N w (w4.setCell ⟨w.heap.size + 1, 1, none⟩ (.int .u64 z))) := vx_num hB hN2 hr4 (gb_vaW hg4) z (by simp [fitsN]; omega) (by omega)
        clear hN1 hN2 hr4 hg4
        go_wp2_with fail
        go_meet
        case rel => exact HS.out
      · obtain ⟨N, rfl⟩ := Int.eq_ofNat_of_zero_le (show 0 ≤ n by omega)
        have HS : Hid (VxAt B0 B a len cap 6 N w ((w.alloc (.cells #[.int .i64 6, .int .i64 (N : Int)] 88)).alloc (.cells #[.int .i64 6, .int .u64 (N : Int), .string ⟨#[]⟩] 52))) :=
          ⟨⟨6, N, ⟨#[]⟩⟩, rfl, by simp [fitsN], by show N < _; omega, by show (0 : Nat) ≤ 1000; omega, by have := heap_alloc_new (w.alloc (.cells #[.int .i64 6, .int .i64 (N : Int)] 88)) (.cells #[.int .i64 6, .int .u64 (N : Int), .string ⟨#[]⟩] 52); simpa using this, (HR.out.full (bel1 _ _)).full (bel1 _ _), gb_trans (gb_alloc w (some B) _) (gb_alloc _ _ _)⟩
        go_wp2_with fail
        go_meet
        case rel => exact HS.out
      · obtain ⟨N, rfl⟩ := Int.eq_ofNat_of_zero_le (show 0 ≤ n by omega)
        have HS : Hid (VxAt B0 B a len cap 7 N w ((w.alloc (.cells #[.int .i64 7, .int .i64 (N : Int)] 88)).alloc (.cells #[.int .i64 7, .int .u64 (N : Int), .string ⟨#[]⟩] 52))) :=
          ⟨⟨7, N, ⟨#[]⟩⟩, rfl, by simp [fitsN], by show N < _; omega, by show (0 : Nat) ≤ 1000; omega, by have := heap_alloc_new (w.alloc (.cells #[.int .i64 7, .int .i64 (N : Int)] 88)) (.cells #[.int .i64 7, .int .u64 (N : Int), .string ⟨#[]⟩] 52); simpa using this, (HR.out.full (bel1 _ _)).full (bel1 _ _), gb_trans (gb_alloc w (some B) _) (gb_alloc _ _ _)⟩
        go_wp2_with fail
        go_meet
        case rel => exact HS.out
      · obtain rfl : n = 0 := by omega
        go_wp2_with fail
        refine (below_any B0 B a len cap 2 _ HR0.out (by omega) (by omega)).mono ?_
        rintro e w4 ⟨⟨z, hz, rfl⟩, hr4, hg4⟩
        obtain ⟨hN1, hN2⟩ := va_cells hB hg4
        have g1 := (row_facts hN2).1 1
        have g2 := (row_facts hN2).1 2
        have z1 := (row_facts hN2).2 1
        have z2 := (row_facts hN2).2 2
        have t1 := (row_facts hN1).1 1
        simp only [List.getElem?_toArray, List.getElem?_cons_succ, List.getElem?_cons_zero] at g1 g2 t1
        have HS : Hid (VxAt B0 B a len cap 8 0 w (w4.setCell ⟨w.heap.size + 1, 1, none⟩ (.int .u64 z))) := vx_num hB hN2 hr4 (gb_vaW hg4) z (by simp [fitsN]; omega) (by omega)
        clear hN1 hN2 hr4 hg4
        go_wp2_with fail
        go_meet
        case rel => exact HS.out
      · obtain ⟨N, rfl⟩ := Int.eq_ofNat_of_zero_le (show 0 ≤ n by omega)
        go_wp2_with fail
        refine (below_any B0 B a len cap (N : Int) _ HR0.out (by omega) (by omega)).mono ?_
        rintro e w4 ⟨⟨z, hz, rfl⟩, hr4, hg4⟩
        obtain ⟨hN1, hN2⟩ := va_cells hB hg4
        have g1 := (row_facts hN2).1 1
        have g2 := (row_facts hN2).1 2
        have z1 := (row_facts hN2).2 1
        have z2 := (row_facts hN2).2 2
        have t1 := (row_facts hN1).1 1
        simp only [List.getElem?_toArray, List.getElem?_cons_succ, List.getElem?_cons_zero] at g1 g2 t1
        have HS : Hid (VxAt B0 B a len cap 9 N w (w4.setCell ⟨w.heap.size + 1, 1, none⟩ (.int .u64 z))) := vx_num hB hN2 hr4 (gb_vaW hg4) z (by simp [fitsN]; omega) (by omega)
        clear hN1 hN2 hr4 hg4
        go_wp2_with fail
        go_meet
        case rel => exact HS.out
    case rest =>
      obtain ⟨x, hxk, hfn, hxn, hxs, hN2, hrc, hgc⟩ := hcut
      obtain ⟨i0, hi, hz0, hz1, hz2⟩ := info_parts Tryz.infoItem
      have g0 := (row_facts hN2).1 0
      have g1 := (row_facts hN2).1 1
      have g2 := (row_facts hN2).1 2
      simp only [List.getElem?_toArray, List.getElem?_cons_succ, List.getElem?_cons_zero] at g0 g1 g2
      have g0' := cell_al (o := .cells #[.int .i64 k, .int .u64 (x.n : Int), .string x.s] 52) g0
      have g1' := cell_al (o := .cells #[.int .i64 k, .int .u64 (x.n : Int), .string x.s] 52) g1
      have g2' := cell_al (o := .cells #[.int .i64 k, .int .u64 (x.n : Int), .string x.s] 52) g2
      have hwc : w.heap.size ≤ wc.heap.size := hgc.size
      have HG1 : Hid (w.grownBy (wc.alloc (.cells #[.int .i64 k, .int .u64 (x.n : Int), .string x.s] 52)) (some B)) := gb_trans hgc (gb_alloc _ _ _)
      have HR1 : Hid (RdAt B0 B a len cap (wc.alloc (.cells #[.int .i64 k, .int .u64 (x.n : Int), .string x.s] 52))) := hrc.full (bel1 _ _)
      have HO1 : Hid (OwnIt w.heap.size (wc.alloc (.cells #[.int .i64 k, .int .u64 (x.n : Int), .string x.s] 52)) (.slice (some ⟨wc.heap.size, 0, none⟩) 1 1) [x]) := by
        have h1 := World.ownsRow_lit (base := wc.heap.size) (e := 52) (size := 3) wc #[.int .i64 k, .int .u64 (x.n : Int), .string x.s] 1 (Nat.le_refl _) (by decide) rfl
        have h2 := own_b h1 hwc
        rw [← hxk] at h2 ⊢
        exact h2
      have HPC : Hid (Calls Tryz.prog 37 #[.slice (some ⟨bt', o, none⟩) ts.length capT, .int .i64 p, .agg #[.int .i64 k, .int .u64 (x.n : Int), .string x.s]] (wc.alloc (.cells #[.int .i64 k, .int .u64 (x.n : Int), .string x.s] 52)) fun e w'' => PlPost ts f p k x.n (wc.alloc (.cells #[.int .i64 k, .int .u64 (x.n : Int), .string x.s] 52)) e w'') := by
        have h1 := HPN.out x _ HG1.out hfn
        rw [hxk] at h1
        exact h1
      have HWX : Hid (wfI [x]) := fun y hy => by
        simp only [List.mem_singleton] at hy
        subst hy
        have hk9 : 1 ≤ k ∧ k ≤ 9 := by simp only [tyOk, decide_eq_true_eq] at hok; omega
        exact ⟨⟨by rw [hxk]; omega, by rw [hxk]; omega⟩, hxn, hxs⟩
      have HPL2 : Hid (∀ j, j < np k x.n → ∃ e', en ts f (pl ts f p k x.n j) = some e') := HPL.out x.n hfn
      have hnp : np k x.n ≤ 20 := HNP.out x.n hfn
      obtain ⟨N, hN⟩ : ∃ N, np k x.n = N := ⟨_, rfl⟩
      have HNE : Hid (np k x.n = N) := hN
      rw [hN] at hnp
      clear hN2 hrc hgc hfn hN c0 c1 hok HPN HPL HNP
      go_wp2_with fail
      refine Calls.mono HPC.out ?_
      rintro e w7 ⟨vp, rfl, hown, hb7⟩
      have HB7 : Hid (Below (wc.alloc (.cells #[.int .i64 k, .int .u64 (x.n : Int), .string x.s] 52)).heap.size (wc.alloc (.cells #[.int .i64 k, .int .u64 (x.n : Int), .string x.s] 52)) w7) := hb7
      have HG7 : Hid (w.grownBy w7 (some B)) := gb_trans HG1.out (gb_full hb7 _)
      have HR7 : Hid (RdAt B0 B a len cap w7) := HR1.out.full hb7
      have HO7 : Hid (OwnIt w.heap.size w7 (.slice (some ⟨wc.heap.size, 0, none⟩) 1 1) [x]) := HO1.out.kept hb7
      -- the plan's places, wherever the row lies
      have HPR : Hid (∃ ad cp, vp = .slice ad N cp ∧ N ≤ cp ∧ cp ≤ maxLen ∧ (N = 0 ∨ ∃ g, ad = some ⟨g, 0, none⟩ ∧ wc.heap.size < g ∧ g < w7.heap.size ∧ ∀ i, i < N → w7.cell? ⟨g, i, none⟩ = some (.int .i64 (pl ts f p k x.n i : Nat)))) := by
        have hlt := hown.lt
        have h2 := hown.2
        rw [HNE.out] at h2
        rcases h2 with ⟨hv, h0⟩ | ⟨g, cp, cur, hv, hg, _, h1, h2, _, _⟩
        · exact ⟨none, 0, by rw [hv, h0], by omega, by simp [maxLen], .inl h0⟩
        · refine ⟨_, cp, hv, h1, h2, .inr ⟨g, rfl, by simp at hg; omega, ?_, fun i hi => ?_⟩⟩
          · exact (hlt g (by rw [hv]; rfl)).2
          · rw [hv] at hown
            rw [← HNE.out] at hown hi
            exact row_atV hown hi
      obtain ⟨ad, cp, rfl, hcp1, hcp2, hcells⟩ := HPR.out
      have HCL : Hid (N = 0 ∨ ∃ g, ad = some ⟨g, 0, none⟩ ∧ wc.heap.size < g ∧ g < w7.heap.size ∧ ∀ i, i < N → w7.cell? ⟨g, i, none⟩ = some (.int .i64 (pl ts f p k x.n i : Nat))) := hcells
      unfold maxLen at hcp2
      clear hown hb7 HPR hcells HPC HB7 g0 g1 g2 g0' g1' g2' hxn hxs
      go_wp2_with fail
      go_loopg [9, 11] N (fun gk u i wr => ∃ (j : Nat) (vs : List It), j + gk = N ∧ i = .int .i64 j ∧ OwnIt w.heap.size wr u vs ∧ 0 < vs.length ∧ vs.length ≤ 200 * (f + 1) + 1 ∧ wfI vs ∧ RdAt B0 B a len cap wr ∧ w.grownBy wr (some B) ∧ w7.heap.size ≤ wr.heap.size ∧ (∀ q, wc.heap.size < q → q < w7.heap.size → wr.heap[q]? = w7.heap[q]? ∧ some q ≠ u.ownBlock))
      case atStart => exact ⟨0, [x], by omega, rfl, HO7.out, by simp, by show 1 ≤ _; omega, HWX.out, HR7.out, HG7.out, Nat.le_refl _, fun q h1 h2 => ⟨rfl, fun e => absurd (show q = wc.heap.size by simpa [Value.ownBlock] using e) (by omega)⟩⟩
      case round =>
        obtain ⟨j, vs, hj', rfl, hown, hlen, hlen2, hwf, hr, hg, hg7, hkeep⟩ := hrel
        have HJ : Hid (j + gk = N) := hj'
        have hj : j ≤ N := by omega
        have HOv : Hid (OwnIt w.heap.size wr u9 vs) := hown
        have HWF : Hid (wfI vs) := hwf
        have HRr : Hid (RdAt B0 B a len cap wr) := hr
        have HGr : Hid (w.grownBy wr (some B)) := hg
        have HKP : Hid (∀ q, wc.heap.size < q → q < w7.heap.size → wr.heap[q]? = w7.heap[q]? ∧ some q ≠ u9.ownBlock) := hkeep
        have hsr : w.heap.size ≤ wr.heap.size := hg.size
        have hs7 : w7.heap.size ≤ wr.heap.size := hg7
        obtain ⟨adu, capu, rfl, hu1, hu2, hu3⟩ := hown.form
        unfold maxLen at hu2
        have HFIN : Hid (VaPost B0 B a len cap (f + 1) w (.returned (.slice adu vs.length capu)) wr) := ⟨⟨_, vs, rfl, hown, hlen, hlen2, hwf⟩, hr, hg⟩
        clear hj' hown hwf hr hg hg7 hkeep hu3
        by_cases hjN : j < N
        · by_cases h200 : vs.length ≤ 200
          · obtain ⟨g, rfl, hgw, hgl, hc⟩ := HCL.out.resolve_left (by omega)
            have cj : wr.cell? ⟨g, j, none⟩ = some (.int .i64 (pl ts f p k x.n j : Nat)) := (World.cell?_of_block (w := w7) (a := ⟨g, j, none⟩) (HKP.out g hgw hgl).1).trans (hc j hjN)
            have hgr : g < wr.heap.size := by omega
            obtain ⟨e', he'⟩ := HPL2.out j (by rw [HNE.out]; exact hjN)
            have hpj : pl ts f p k x.n j ≤ 1048577 := by have := en_lt he'; omega
            have HC : Hid (Calls Tryz.prog 24 #[.pointer (some ⟨B, 0, none⟩), .slice (some ⟨bt', o, none⟩) ts.length capT, .int .i64 (pl ts f p k x.n j : Nat)] wr fun e w' => VaPost B0 B a len cap f wr e w') := HI.out _ e' _ wr (by omega) he' HRr.out (fun w' hg' => HT.out w' (gb_trans HGr.out hg'))
            have hd : decide (vs.length ≤ 200) = true := by simpa using h200
            generalize pl ts f p k x.n j = pj at cj HC hpj
            clear hc he'
            go_wp2_with fail
            refine Calls.mono HC.out ?_
            rintro e w8 ⟨⟨v8, vs8, rfl, hown8, hl8, hl8', hwf8⟩, hr8, hg8⟩
            obtain ⟨g8, cap8, rfl, hg8b, hg8l⟩ := World.ownsRow.form hown8 hl8
            have HO8 : Hid (OwnIt w.heap.size w8 (.slice adu vs.length capu) vs) := World.ownsRow.kept HOv.out hg8 (own_ne2 HOv.out hB)
            have HC8 : Hid (w8.ownsRow wr.heap.size 52 3 (.slice (some ⟨g8, 0, none⟩) vs8.length cap8) vs8.length (flatI vs8)) := hown8
            have HR8 : Hid (RdAt B0 B a len cap w8) := hr8
            have HG8 : Hid (w.grownBy w8 (some B)) := gb_trans HGr.out hg8
            have HK8 : Hid (∀ q, wc.heap.size < q → q < w7.heap.size → w8.heap[q]? = w7.heap[q]? ∧ some q ≠ (Value.slice adu vs.length capu).ownBlock) := fun q h1 h2 => ⟨by rw [hg8.block q (by omega) (by simp; omega)]; exact (HKP.out q h1 h2).1, (HKP.out q h1 h2).2⟩
            have hs8 : wr.heap.size ≤ w8.heap.size := hg8.size
            have HW8 : Hid (wfI (vs ++ vs8)) := wfI_app HWF.out hwf8
            have hsum : vs.length + vs8.length ≤ 200 * (f + 1) + 1 := by omega
            have hf77 : 200 * (f + 1) ≤ 1400 := by omega
            clear hown8 hr8 hg8 hwf8 HRr HGr HKP HOv HWF cj
            go_wp2_with (at_builtin; refine wpList_append_lies _ rfl _ _ 25 rfl w.heap.size 52 i0 (.agg #[.int .i64 0, .int .u64 0, .string ByteArray.empty]) 3 32 Tryz.underlying25 hi hz0 hz1 hz2 rfl (by decide) (.slice adu vs.length capu) vs.length (flatI vs) rfl HO8.out ⟨g8, 0, none⟩ vs8.length cap8 (flatI vs8) rfl (flatI_len vs8) (fun j u hu => HC8.out.cells (g := g8) rfl j u hu) (flatI_one _) hl8 (by unfold maxLen; omega) (by omega) (by omega) _ rfl ?_)
            intro g9 cap9 w9 hown9 hgrow hat hlt9
            have R1 : w.grownBy w9 (some B) := gb_app HG8.out hgrow (fun q hq => (World.ownsRow.lt HO8.out q hq).1)
            have R2 : RdAt B0 B a len cap w9 := HR8.out.app hgrow (fun q hq => by have := (World.ownsRow.lt HO8.out q hq).1; omega)
            have R3 : OwnIt w.heap.size w9 (.slice (some ⟨g9, 0, none⟩) (vs.length + vs8.length) cap9) (vs ++ vs8) := by unfold OwnIt; rw [flatI_app, List.length_append]; exact hown9
            have R4 : ∀ q, wc.heap.size < q → q < w7.heap.size → w9.heap[q]? = w7.heap[q]? ∧ some q ≠ (Value.slice (some ⟨g9, 0, none⟩) (vs.length + vs8.length) cap9).ownBlock := fun q h1 h2 => by
              have h3 := HK8.out q h1 h2
              refine ⟨by rw [hgrow.block q (by omega) h3.2]; exact h3.1, fun e => ?_⟩
              have e' : q = g9 := by simpa [Value.ownBlock] using e
              rcases hat with h | h
              · exact h3.2 (by rw [e', h])
              · omega
            have R5 : w7.heap.size ≤ w9.heap.size := by have := hgrow.size; omega
            have HX : Hid (OwnIt w.heap.size w9 (.slice (some ⟨g9, 0, none⟩) (vs.length + vs8.length) cap9) (vs ++ vs8) ∧ RdAt B0 B a len cap w9 ∧ w.grownBy w9 (some B) ∧ w7.heap.size ≤ w9.heap.size ∧ ∀ q, wc.heap.size < q → q < w7.heap.size → w9.heap[q]? = w7.heap[q]? ∧ some q ≠ (Value.slice (some ⟨g9, 0, none⟩) (vs.length + vs8.length) cap9).ownBlock) := ⟨R3, R2, R1, R5, R4⟩
            clear R1 R2 R3 R4 R5 hown9 hgrow hat hlt9
            go_wp2_with fail
            go_roundg (gk - 1)
            case rel => exact ⟨j + 1, vs ++ vs8, by have := HJ.out; omega, by go_num, HX.out.1, by simp; omega, by simp; omega, HW8.out, HX.out.2⟩
            case measure => have := HJ.out; omega
          · have hd : decide (vs.length ≤ 200) = false := by simpa using h200
            go_wp2_with fail
            go_ret
            exact HFIN.out
        · go_wp2_with fail
          go_ret
          exact HFIN.out
end Go.Proofs.YtdncnjmlicdamaaGreatDoor
