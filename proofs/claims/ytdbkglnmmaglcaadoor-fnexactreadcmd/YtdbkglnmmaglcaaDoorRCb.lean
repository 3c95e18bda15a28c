/- The command that has a text, by the specification: contracts. -/
import Derived.Test.YtdbkglnmmaglcaaDoorRCa
import Derived.Lib.QuietBelow
import Derived.BigQuiet
import Derived.Deep.RegionHeld3
import Derived.Deep.RegionLaw
import Derived.Deep.AppendLies
import Derived.Deep.LoopGhost
namespace Go.Proofs.YtdbkglnmmaglcaaDoor
open Go.RowKit Go.Sort
set_option linter.unusedVariables false
theorem belA (w : World) (o : Obj) : Below w.heap.size w (w.alloc o) := (Below.refl _ _).alloc (Nat.le_refl _) _

def CutOk (s x y : ByteArray) (b : Bool) : Prop := (32 : UInt8) ∉ x.data.toList ∧ ((b = true ∧ s.data.toList = x.data.toList ++ 32 :: y.data.toList) ∨ (b = false ∧ x = s ∧ y.size = 0))
theorem ba_get (s : ByteArray) (j : Nat) (h : j < s.size) : s.data.toList[j]'(by simpa using h) = s[j] := rfl
theorem ba_len (s : ByteArray) : s.data.toList.length = s.size := Array.length_toList
theorem take_no {s : ByteArray} {j : Nat} (h : j < s.size) (hn : (32 : UInt8) ∉ s.data.toList.take j) (h32 : s[j].toNat ≠ 32) : (32 : UInt8) ∉ s.data.toList.take (j + 1) := by
  have hl : j < s.data.toList.length := by rw [ba_len]; exact h
  rw [List.take_succ_eq_append_getElem hl]
  intro hm
  rcases List.mem_append.1 hm with hm | hm
  · exact hn hm
  · simp at hm
    apply h32
    show (s.data.toList[j]'hl).toNat = 32
    simp [← hm]
theorem cut_at {s : ByteArray} {j : Nat} (h : j < s.size) (h32 : s[j].toNat = 32) : s.data.toList = (s.extract 0 j).data.toList ++ 32 :: (s.extract (j + 1) s.size).data.toList := by
  have hl : j < s.data.toList.length := by rw [ba_len]; exact h
  rw [Lib.extract_data, Lib.extract_data]
  have e : s.data.toList[j]'hl = 32 := by apply UInt8.toNat_inj.1; rw [ba_get s j h, h32]; rfl
  have e2 := List.drop_eq_getElem_cons hl
  rw [e] at e2
  have e3 : List.take (s.size - (j + 1)) (List.drop (j + 1) s.data.toList) = List.drop (j + 1) s.data.toList := List.take_of_length_le (by simp)
  rw [e3, ← e2]
  simp
set_option maxRecDepth 100000 in
set_option maxHeartbeats 1000000 in
theorem l1Cut_any (s : ByteArray) (w : World) (hs : s.size ≤ 1048576) : Calls Tryd.prog 17 #[.string s, .int .u8 32] w fun e w' => (∃ x y b, e = .returned (.tuple #[.string x, .string y, .bool b]) ∧ CutOk s x y b) ∧ Below w.heap.size w w' := by
  go_enter Tryd.func17, Tryd.ntmps17
  go_wp2_with fail
  go_loopg [7] s.size (fun gk i wr => ∃ j : Nat, j + gk = s.size ∧ i = .int .i64 j ∧ (32 : UInt8) ∉ s.data.toList.take j ∧ wr = w)
  case atStart => exact ⟨0, by omega, rfl, by simp, rfl⟩
  case round =>
    obtain ⟨j, hj', rfl, hno, hw⟩ := hrel
    subst hw
    have HJ : Hid (j + gk = s.size) := hj'
    have HN : Hid ((32 : UInt8) ∉ s.data.toList.take j) := hno
    have hj : j ≤ s.size := by omega
    clear hj' hno
    by_cases hlt : j < s.size
    · by_cases h32 : s[j].toNat = 32
      · have HC : Hid (CutOk s (s.extract 0 j) (s.extract (j + 1) s.size) true) := ⟨by rw [Lib.extract_data]; simpa using HN.out, .inl ⟨rfl, cut_at hlt h32⟩⟩
        have hq : ((s[j].toNat : Int) == 32) = true := by simp [h32]
        clear h32
        go_wp2_with fail
        go_quiet (fail)
        go_wp2_with fail
        go_ret3
        exact ⟨⟨_, _, _, rfl, HC.out⟩, below_drewN (Below.refl _ _) _⟩
      · have HC : Hid ((32 : UInt8) ∉ s.data.toList.take (j + 1)) := take_no hlt HN.out h32
        have hq : ((s[j].toNat : Int) == 32) = false := by simp; omega
        clear h32
        go_wp2_with fail
        go_roundg (gk - 1)
        case rel => exact ⟨j + 1, by have := HJ.out; omega, by go_num, HC.out, rfl⟩
        case measure => have := HJ.out; omega
    · have HC : Hid (CutOk s s ⟨#[]⟩ false) := ⟨by have := HN.out; rwa [List.take_of_length_le (by rw [ba_len]; omega)] at this, .inr ⟨rfl, rfl, rfl⟩⟩
      go_wp2_with fail
      go_ret3
      exact ⟨⟨_, _, _, rfl, HC.out⟩, Below.refl _ _⟩

theorem cut_two {x p q y : List UInt8} (h : x ++ 32 :: y = p ++ 32 :: q) (hx : (32 : UInt8) ∉ x) (hp : (32 : UInt8) ∉ p) : x = p ∧ y = q := by
  induction x generalizing p with
  | nil =>
    cases p with
    | nil => simp at h; exact ⟨rfl, h⟩
    | cons a p => simp at h; simp [← h.1] at hp
  | cons b x ih =>
    cases p with
    | nil => simp at h; simp [h.1] at hx
    | cons a p =>
      simp at h hx hp
      obtain ⟨h1, h2⟩ := ih h.2 hx.2 hp.2
      exact ⟨by rw [h.1, h1], h2⟩
/-- Which branch a text with a command takes. -/
theorem cutGood {s x y d : ByteArray} {b : Bool} {k a : Int} (hc : CutOk s x y b) (h : Good k a d s) : (x = ⟨#[116, 111]⟩ ∧ k = 1 ∧ a = fmtIx y ∧ d = ByteArray.empty) ∨ (x = ⟨#[102, 101, 101, 100]⟩ ∧ k = 2 ∧ a = 0 ∧ y = hexW d) ∨ (x = ⟨#[114, 101, 115, 101, 116]⟩ ∧ k = 3 ∧ a = 0 ∧ d = ByteArray.empty) := by
  obtain ⟨hx, hc⟩ := hc
  have key : ∀ p q : ByteArray, (32 : UInt8) ∉ p.data.toList → s.data.toList = p.data.toList ++ 32 :: q.data.toList → x = p ∧ y = q := fun p q hp hs => by
    rcases hc with ⟨_, hc⟩ | ⟨_, hc, _⟩
    · obtain ⟨h1, h2⟩ := cut_two (hc.symm.trans hs) hx hp
      exact ⟨ba_ext h1, ba_ext h2⟩
    · rw [hc, hs] at hx; simp at hx
  rcases h.cases with ⟨rfl, rfl, r, hr, rfl, e⟩ | ⟨rfl, rfl, _, e⟩ | ⟨rfl, rfl, rfl, e⟩
  · obtain ⟨h1, h2⟩ := key ⟨#[116, 111]⟩ (fmtS r) (by decide) (by rw [e, cat_dl']; rfl)
    exact .inl ⟨h1, rfl, by rw [h2, fmtIx_fmt r hr], rfl⟩
  · obtain ⟨h1, h2⟩ := key ⟨#[102, 101, 101, 100]⟩ (hexW d) (by decide) (by rw [e, cat_dl']; rfl)
    exact .inr (.inl ⟨h1, rfl, rfl, h2⟩)
  · refine .inr (.inr ⟨?_, rfl, rfl, rfl⟩)
    rcases hc with ⟨_, hc⟩ | ⟨_, hc, _⟩
    · exfalso
      have : (32 : UInt8) ∈ s.data.toList := by rw [hc]; simp
      rw [e] at this
      revert this; decide
    · rw [hc, e]
def digN (n : Nat) : Int := if 48 ≤ n ∧ n ≤ 57 then (n : Int) - 48 else if 97 ≤ n ∧ n ≤ 102 then (n : Int) - 87 else -1
theorem digI_N (b : UInt8) : digI b = digN b.toNat := by
  unfold digI digN dg
  by_cases h1 : 48 ≤ b.toNat ∧ b.toNat ≤ 57
  · rw [if_pos h1, if_pos h1]; simp; omega
  · rw [if_neg h1, if_neg h1]
    by_cases h2 : 97 ≤ b.toNat ∧ b.toNat ≤ 102
    · rw [if_pos h2, if_pos h2]; simp; omega
    · rw [if_neg h2, if_neg h2]
theorem digI_in (b : UInt8) : -1 ≤ digI b ∧ digI b ≤ 15 := by
  rw [digI_N]; unfold digN
  split
  · omega
  · split <;> omega
theorem beq_toList (a b : ByteArray) : (a.toList == b.toList) = decide (a = b) := by
  rw [ByteArray.toList_eq, ByteArray.toList_eq]
  by_cases h : a = b
  · subst h; simp
  · have : ¬ a.data = b.data := fun e => h (ByteArray.ext e)
    simp [h, this]
set_option maxHeartbeats 1000000 in
theorem l3Digit_any (b : UInt8) (w : World) : Calls Tryd.prog 32 #[.int .u8 b.toNat] w fun e w' => e = .returned (.int .i64 (digI b)) ∧ w' = w := by
  have hb := b.toNat_lt
  rw [digI_N]
  generalize b.toNat = n at *
  by_cases h1 : 48 ≤ n
  · by_cases h2 : n ≤ 57
    · have e : digN n = (n : Int) - 48 := by unfold digN; rw [if_pos ⟨h1, h2⟩]
      rw [e]
      go_enter Tryd.func32, Tryd.ntmps32
      go_wp2
      go_ret
      exact ⟨rfl, rfl⟩
    · by_cases h3 : 97 ≤ n
      · by_cases h4 : n ≤ 102
        · have e : digN n = (n : Int) - 87 := by unfold digN; rw [if_neg (by omega), if_pos ⟨h3, h4⟩]
          have e2 : (n : Int) - 97 + 10 = (n : Int) - 87 := by omega
          rw [e]
          go_enter Tryd.func32, Tryd.ntmps32
          go_wp2
          go_ret
          exact ⟨by simp <;> omega, rfl⟩
        · have e : digN n = -1 := by unfold digN; rw [if_neg (by omega), if_neg (by omega)]
          rw [e]
          go_enter Tryd.func32, Tryd.ntmps32
          go_wp2
          go_ret
          exact ⟨rfl, rfl⟩
      · have e : digN n = -1 := by unfold digN; rw [if_neg (by omega), if_neg (by omega)]
        rw [e]
        go_enter Tryd.func32, Tryd.ntmps32
        go_wp2
        go_ret
        exact ⟨rfl, rfl⟩
  · have e : digN n = -1 := by unfold digN; rw [if_neg (by omega), if_neg (by omega)]
    rw [e]
    go_enter Tryd.func32, Tryd.ntmps32
    go_wp2
    go_ret
    exact ⟨rfl, rfl⟩
theorem take_snocB (s : ByteArray) (k : Nat) (h : k < s.size) : s.data.toList.take (k + 1) = s.data.toList.take k ++ [s[k]] := by
  have h' : k < s.data.toList.length := by simpa using h
  rw [List.take_succ_eq_append_getElem h']; rfl
theorem two_take (s : ByteArray) (j : Nat) (h : 2 * j + 1 < s.size) : s.data.toList.take (2 * (j + 1)) = s.data.toList.take (2 * j) ++ [s[2 * j], s[2 * j + 1]] := by
  rw [show 2 * (j + 1) = 2 * j + 1 + 1 from by omega, take_snocB s (2 * j + 1) h, take_snocB s (2 * j) (by omega), List.append_assoc]
  rfl
theorem unhS_rest : ∀ (j : Nat) (l : List UInt8), 2 * j ≤ l.length → l.length ≤ 2 * j + 1 → unhS (l.take (2 * j)) = unhS l
  | 0, [], _, _ => rfl
  | 0, [_], _, _ => by simp [unhS]
  | 0, _ :: _ :: _, _, h => by simp at h
  | j + 1, [], h, _ => by simp at h
  | j + 1, [_], h, _ => by simp at h; omega
  | j + 1, a :: b :: r, h1, h2 => by
    have := unhS_rest j r (by simp at h1; omega) (by simp at h2; omega)
    rw [show 2 * (j + 1) = 2 * j + 1 + 1 from by omega]
    simp only [List.take_succ_cons, unhS, this]
set_option maxRecDepth 100000 in
set_option maxHeartbeats 2000000 in
theorem l3Unhex_any (s : ByteArray) (w : World) (hs : s.size ≤ 1048577) : Calls Tryd.prog 26 #[.string s] w fun e w' => e = .returned (.string ⟨(unhS s.data.toList).toArray⟩) ∧ Below w.heap.size w w' := by
  obtain ⟨i0, hi, hz0, hz1, hz2⟩ := info_parts Tryd.infoB8
  have hsl : s.data.toList.length = s.size := Array.length_toList
  go_enter Tryd.func26, Tryd.ntmps26
  go_wp2_with fail
  go_loopg [3, 4] (s.size / 2) (fun gk v i wr => ∃ j : Nat, j + gk = s.size / 2 ∧ i = .int .i64 ((2 * j : Nat) : Int) ∧ wr.ownsRow w.heap.size 5 1 v j ((unhS (s.data.toList.take (2 * j))).map bv) ∧ Below w.heap.size w wr)
  case atStart => exact ⟨0, by omega, rfl, by have ho := World.ownsRow_lit (base := w.heap.size) (e := 5) (size := 1) w #[] 0 (Nat.le_refl _) (by decide) rfl; simpa [unhS] using ho, (Below.refl _ _).alloc (Nat.le_refl _) _⟩
  case round =>
    obtain ⟨j, hj', rfl, hown, hbel⟩ := hrel
    have HJ : Hid (j + gk = s.size / 2) := hj'
    have hj : j ≤ s.size / 2 := by omega
    have HO : Hid (wr.ownsRow w.heap.size 5 1 u3 j ((unhS (s.data.toList.take (2 * j))).map bv)) := hown
    have HB : Hid (Below w.heap.size w wr) := hbel
    have hsr := hbel.size
    clear hj' hbel
    by_cases hlt : 2 * j + 1 < s.size
    · clear hown
      obtain ⟨x1, hx1⟩ : ∃ x, s[2 * j] = x := ⟨_, rfl⟩
      obtain ⟨x2, hx2⟩ : ∃ x, s[2 * j + 1] = x := ⟨_, rfl⟩
      obtain ⟨D, hD⟩ : ∃ D : UInt8 → Int, digI = D := ⟨_, rfl⟩
      have b1 := digI_in x1
      have b2 := digI_in x2
      rw [hD] at b1 b2
      obtain ⟨z, hz⟩ : ∃ z : Nat, (16 * D x1 + D x2) % 256 = (z : Int) := ⟨((16 * D x1 + D x2) % 256).toNat, by omega⟩
      have hz256 : z < 256 := by omega
      have HS : Hid (unhS (s.data.toList.take (2 * (j + 1))) = unhS (s.data.toList.take (2 * j)) ++ [UInt8.ofNat z]) := by
        show _ = _
        rw [two_take s j hlt, hx1, hx2, unhS_two j _ x1 x2 (by rw [List.length_take]; omega), hD, hz]; simp
      have hw8 : IntKind.u8.wrap (16 * D x1 + D x2) = (z : Int) := by rw [IntKind.wrap_u8]; exact hz
      have HD : Hid (∀ x w, Calls Tryd.prog 32 #[.int .u8 (UInt8.toNat x)] w fun e w' => e = .returned (.int .i64 (D x)) ∧ w' = w) := fun x w => by rw [← hD]; exact l3Digit_any x w
      obtain ⟨J, hJ⟩ : ∃ J, 2 * j = J := ⟨_, rfl⟩
      have HJE : Hid (2 * j = J) := hJ
      rw [hJ]
      have hJs : J + 1 < s.size := by omega
      have hJs0 : J < s.size := by omega
      have g1 : s[J]'hJs0 = x1 := by simp only [← hJ]; exact hx1
      have g2' : s[J + 1]'hJs = x2 := by simp only [← hJ]; exact hx2
      obtain ⟨U, hU⟩ : ∃ U, J + 1 = U := ⟨_, rfl⟩
      have hUs : U < s.size := by omega
      have g2 : s[U]'hUs = x2 := by simp only [← hU]; exact g2'
      have hUi : (J : Int) + 1 = (U : Int) := by omega
      have hUw : IntKind.i64.wrap (U : Int) = (U : Int) := by rw [IntKind.wrap_i64]; omega
      have hw16 : IntKind.i64.wrap (16 * D x1) = 16 * D x1 := by rw [IntKind.wrap_i64]; omega
      have hw17 : IntKind.i64.wrap (16 * D x1 + D x2) = 16 * D x1 + D x2 := by rw [IntKind.wrap_i64]; omega
      clear g2' hU
      clear hD hz hx1 hx2 hlt hJ
      go_wp2_with fail
      go_region_held3 (fun _ => True) (trivial) (first
        | (go_at_call 32; refine (HD.out _ _).mono ?_; rintro e w21 ⟨rfl, rfl⟩)
        | (refine step_append_lies _ rfl (.tmp 13) (.tmp 26) 48 rfl w.heap.size 5 i0 (.int .u8 0) 1 1 Tryd.underlying48 hi hz0 hz1 hz2 rfl (by decide) u3 j ((unhS (s.data.toList.take (2 * j))).map bv) (by simp [Act.eval]) ((show wr.drew.ownsRow w.heap.size 5 1 u3 j ((unhS (s.data.toList.take (2 * j))).map bv) from HO.out).alloc _) ⟨wr.heap.size, 0, none⟩ 1 1 [bv (UInt8.ofNat z)] (by simp [Act.eval]) rfl (fun i u hu => by match i, hu with | 0, hu => (simp at hu; subst hu; simp [Addr.add, bv] <;> omega)) (fun u hu => by simp at hu; subst hu; rfl) (by omega) (by unfold maxLen; omega) (by omega) (by simp; omega) (wr.heap.size + 1) (by simp) ?_; intro g cap2 w4 hown' hgrow hat hlt'))
      all_goals
        have HX : Hid (w4.ownsRow w.heap.size 5 1 (.slice (some ⟨g, 0, none⟩) (j + 1) cap2) (j + 1) ((unhS (s.data.toList.take (2 * (j + 1)))).map bv) ∧ Below w.heap.size w w4) := by
          refine ⟨by rw [HS.out, List.map_append]; exact hown', ((HB.out.drew).alloc hsr _).grown hgrow (by simp; omega) (fun q hq => (HO.out.lt q hq).1)⟩
        clear hown' hgrow hat hlt'
        go_wp2_with fail
        go_roundg (gk - 1)
        case rel => exact ⟨j + 1, by have := HJ.out; have := HJE.out; omega, by have := HJE.out; first | (congr 1; omega) | go_num, HX.out.1, HX.out.2⟩
        case measure => have := HJ.out; have := HJE.out; omega
    · have hc := conv_own (P := Tryd.prog) 48 9 Tryd.underlying48 Tryd.underlying5 Tryd.underlying9 hown
      have HE : Hid (unhS (s.data.toList.take (2 * j)) = unhS s.data.toList) := unhS_rest j _ (by omega) (by omega)
      obtain ⟨J, hJ⟩ : ∃ J, 2 * j = J := ⟨_, rfl⟩
      have hJs : ¬ (J + 1 < s.size) := by omega
      have hJb : J ≤ s.size := by omega
      rw [hJ] at hc HE ⊢
      clear hown hJ hlt
      go_wp2_with fail
      go_ret
      exact ⟨by rw [← HE.out]; try rfl, HB.out⟩
end Go.Proofs.YtdbkglnmmaglcaaDoor
