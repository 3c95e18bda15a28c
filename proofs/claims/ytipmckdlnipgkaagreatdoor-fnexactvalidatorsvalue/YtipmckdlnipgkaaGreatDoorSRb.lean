/- The specification's words of a text: contracts. -/
import Derived.Test.YtipmckdlnipgkaaGreatDoorSRa
import Derived.Test.YtipmckdlnipgkaaGreatDoorSRt
import Derived.Lib.QuietBelow
import Derived.BigQuiet
import Derived.Lib.Split
namespace Go.Proofs.YtipmckdlnipgkaaGreatDoor
open Go.RowKit Go.Sort
set_option linter.unusedVariables false
/-- Strings as values. -/
def strv (xs : List ByteArray) : List Value := xs.map fun x => .string x
def lst (xs : List ByteArray) : List (List UInt8) := xs.map fun x => x.data.toList
def CutOk (s x y : ByteArray) (b : Bool) : Prop := (32 : UInt8) ∉ x.data.toList ∧ ((b = true ∧ s.data.toList = x.data.toList ++ 32 :: y.data.toList) ∨ (b = false ∧ x = s ∧ y.size = 0))
theorem ba_get (s : ByteArray) (j : Nat) (h : j < s.size) : s.data.toList[j]'(by simpa using h) = s[j] := rfl
theorem ba_len (s : ByteArray) : s.data.toList.length = s.size := Array.length_toList
theorem take_no {s : ByteArray} {j : Nat} (h : j < s.size) (hn : (32 : UInt8) ∉ s.data.toList.take j) (h32 : s[j].toNat ≠ 32) : (32 : UInt8) ∉ s.data.toList.take (j + 1) := by
  have hl : j < s.data.toList.length := by rw [ba_len]; exact h
  rw [List.take_succ_eq_append_getElem hl]
  intro hm
  rcases List.mem_append.1 hm with hm | hm
  · exact hn hm
  · simp at hm
    apply h32
    show (s.data.toList[j]'hl).toNat = 32
    simp [← hm]
theorem cut_at {s : ByteArray} {j : Nat} (h : j < s.size) (h32 : s[j].toNat = 32) : s.data.toList = (s.extract 0 j).data.toList ++ 32 :: (s.extract (j + 1) s.size).data.toList := by
  have hl : j < s.data.toList.length := by rw [ba_len]; exact h
  rw [Lib.extract_data, Lib.extract_data]
  have e : s.data.toList[j]'hl = 32 := by apply UInt8.toNat_inj.1; rw [ba_get s j h, h32]; rfl
  have e2 := List.drop_eq_getElem_cons hl
  rw [e] at e2
  have e3 : List.take (s.size - (j + 1)) (List.drop (j + 1) s.data.toList) = List.drop (j + 1) s.data.toList := List.take_of_length_le (by simp)
  rw [e3, ← e2]
  simp
set_option maxRecDepth 100000 in
set_option maxHeartbeats 1000000 in
theorem l1Cut_any (s : ByteArray) (w : World) (hs : s.size ≤ 1048576) : Calls Tryz.prog 95 #[.string s, .int .u8 32] w fun e w' => (∃ x y b, e = .returned (.tuple #[.string x, .string y, .bool b]) ∧ CutOk s x y b) ∧ Below w.heap.size w w' := by
  go_enter Tryz.func95, Tryz.ntmps95
  go_wp2_with fail
  go_loopg [7] s.size (fun gk i wr => ∃ j : Nat, j + gk = s.size ∧ i = .int .i64 j ∧ (32 : UInt8) ∉ s.data.toList.take j ∧ wr = w)
  case atStart => exact ⟨0, by omega, rfl, by simp, rfl⟩
  case round =>
    obtain ⟨j, hj', rfl, hno, hw⟩ := hrel
    subst hw
    have HJ : Hid (j + gk = s.size) := hj'
    have HN : Hid ((32 : UInt8) ∉ s.data.toList.take j) := hno
    have hj : j ≤ s.size := by omega
    clear hj' hno
    by_cases hlt : j < s.size
    · by_cases h32 : s[j].toNat = 32
      · have HC : Hid (CutOk s (s.extract 0 j) (s.extract (j + 1) s.size) true) := ⟨by rw [Lib.extract_data]; simpa using HN.out, .inl ⟨rfl, cut_at hlt h32⟩⟩
        have hq : ((s[j].toNat : Int) == 32) = true := by simp [h32]
        clear h32
        go_wp2_with fail
        go_quiet (fail)
        go_wp2_with fail
        go_ret3
        exact ⟨⟨_, _, _, rfl, HC.out⟩, below_drewN (Below.refl _ _) _⟩
      · have HC : Hid ((32 : UInt8) ∉ s.data.toList.take (j + 1)) := take_no hlt HN.out h32
        have hq : ((s[j].toNat : Int) == 32) = false := by simp; omega
        clear h32
        go_wp2_with fail
        go_roundg (gk - 1)
        case rel => exact ⟨j + 1, by have := HJ.out; omega, by go_num, HC.out, rfl⟩
        case measure => have := HJ.out; omega
    · have HC : Hid (CutOk s s ⟨#[]⟩ false) := ⟨by have := HN.out; rwa [List.take_of_length_le (by rw [ba_len]; omega)] at this, .inr ⟨rfl, rfl, rfl⟩⟩
      go_wp2_with fail
      go_ret3
      exact ⟨⟨_, _, _, rfl, HC.out⟩, Below.refl _ _⟩
theorem join_snoc2 (ws : List (List UInt8)) (x y : List UInt8) : Lib.join (ws ++ [x ++ 32 :: y]) [32] = Lib.join ((ws ++ [x]) ++ [y]) [32] := by
  cases ws with
  | nil => simp [join_one', join_cons2]
  | cons a r =>
    rw [join_snoc (by simp), join_snoc (by simp), join_snoc (by simp)]
    simp [List.append_assoc]
theorem lst_app (a : List ByteArray) (x : ByteArray) : lst (a ++ [x]) = lst a ++ [x.data.toList] := by simp [lst]
theorem strv_app (a : List ByteArray) (x : ByteArray) : strv (a ++ [x]) = strv a ++ [.string x] := by simp [strv]
/-- The words so far, and what is left. -/
structure SpInv (s : ByteArray) (ws : List ByteArray) (S : ByteArray) (m : Bool) : Prop where
  wd : Wd (lst ws)
  len : ws.length + S.size + (if m then 1 else 0) ≤ s.size + 1
  more : m = true → Lib.join (lst ws ++ [S.data.toList]) [32] = s.data.toList
  last : m = false → ws ≠ [] ∧ Lib.join (lst ws) [32] = s.data.toList
theorem Wd.snoc {xs : List (List UInt8)} {x : List UInt8} (h : Wd xs) (hx : (32 : UInt8) ∉ x) : Wd (xs ++ [x]) := fun y hy => by
  rcases List.mem_append.1 hy with hy | hy
  · exact h y hy
  · simp at hy; rw [hy]; exact hx
theorem SpInv.next {s S x y : ByteArray} {ws : List ByteArray} {b : Bool} (h : SpInv s ws S true) (hc : CutOk S x y b) : SpInv s (ws ++ [x]) y b ∧ y.size + (if b then 1 else 0) < S.size + 1 := by
  obtain ⟨hx, ⟨rfl, he⟩ | ⟨rfl, rfl, hy⟩⟩ := hc
  · have hl := congrArg List.length he
    rw [List.length_append, List.length_cons, ba_len, ba_len, ba_len] at hl
    have h1 := h.len
    have h2 := h.more rfl
    simp only [if_true] at h1 ⊢
    refine ⟨⟨by rw [lst_app]; exact h.wd.snoc hx, by simp; omega, fun _ => ?_, (by intro e; cases e)⟩, by omega⟩
    rw [← h2, he, join_snoc2, lst_app]
  · have h1 := h.len
    have h2 := h.more rfl
    simp only [if_true] at h1
    refine ⟨⟨by rw [lst_app]; exact h.wd.snoc hx, by simp; omega, (by intro e; cases e), fun _ => ⟨by simp, by rw [lst_app]; exact h2⟩⟩, by simp [hy]⟩
theorem Tryz.infoStrR : (Tryz.prog.info? 9).map (fun i => (i.zero, i.size, i.bytes)) = some (some (.string ByteArray.empty), 1, 16) := by kernel_rfl
set_option maxRecDepth 100000 in
set_option maxHeartbeats 2000000 in
theorem l1Split_any (s : ByteArray) (w : World) (hs : s.size ≤ 1000) : Calls Tryz.prog 83 #[.string s] w fun e w' => (∃ v, e = .returned v ∧ ∃ ws, w'.ownsRow w.heap.size 9 1 v ws.length (strv ws) ∧ SpInv s ws ⟨#[]⟩ false) ∧ Below w.heap.size w w' := by
  obtain ⟨i0, hi, hz0, hz1, hz2⟩ := info_parts Tryz.infoStrR
  go_enter Tryz.func83, Tryz.ntmps83
  go_wp2_with fail
  go_loopg [0, 3, 4] (s.size + 1) (fun gk sv v mv wr => ∃ (S : ByteArray) (ws : List ByteArray) (m : Bool), sv = .string S ∧ mv = .bool m ∧ S.size + (if m then 1 else 0) ≤ gk ∧ wr.ownsRow w.heap.size 9 1 v ws.length (strv ws) ∧ SpInv s ws S m ∧ (m = false → S.size = 0) ∧ Below w.heap.size w wr)
  case atStart => exact ⟨s, [], true, rfl, rfl, by simp, World.ownsRow_lit w #[] 0 (Nat.le_refl _) (by decide) rfl, ⟨fun x hx => by simp [lst] at hx, by simp, fun _ => by simp [lst, join_one'], (by intro e; cases e)⟩, (by intro e; cases e), (Below.refl _ _).alloc (Nat.le_refl _) _⟩
  case round =>
    obtain ⟨S, ws, m, rfl, rfl, hm, hown, hsp, hz, hb⟩ := hrel
    have HM : Hid (S.size + (if m then 1 else 0) ≤ gk) := hm
    have HO : Hid (wr.ownsRow w.heap.size 9 1 u3 ws.length (strv ws)) := hown
    have HS : Hid (SpInv s ws S m) := hsp
    have HB : Hid (Below w.heap.size w wr) := hb
    have HZ : Hid (m = false → S.size = 0) := hz
    have hlen : ws.length + S.size ≤ 1001 := by have := hsp.len; omega
    have hsr : w.heap.size ≤ wr.heap.size := hb.size
    clear hm hown hsp hb hz
    cases m with
    | false =>
      have e0 : S = ⟨#[]⟩ := by have := HZ.out rfl; exact str_of (List.eq_nil_of_length_eq_zero (by rw [ba_len]; exact this))
      subst e0
      go_wp2_with fail
      go_ret
      refine ⟨?_, HB.out⟩
      exact ⟨_, rfl, ws, HO.out, HS.out⟩
    | true =>
      go_wp2_with fail
      refine (l1Cut_any S wr (by omega)).mono ?_
      rintro e w3 ⟨⟨x, y, b, rfl, hc⟩, hb3⟩
      have HN : Hid (SpInv s (ws ++ [x]) y b ∧ y.size + (if b then 1 else 0) < S.size + 1) := HS.out.next hc
      have HY : Hid (b = false → y.size = 0) := by
        intro hb'
        rcases hc.2 with ⟨h1, _⟩ | ⟨_, _, h1⟩
        · rw [h1] at hb'; cases hb'
        · exact h1
      have HO3 : Hid (w3.ownsRow w.heap.size 9 1 u3 ws.length (strv ws)) := HO.out.kept (gb_bel hb3) (by cases u3.ownBlock <;> simp)
      have HB3 : Hid (Below w.heap.size w w3) := HB.out.trans (hb3.mono hsr)
      have hs3 : w.heap.size ≤ w3.heap.size := HB3.out.size
      clear hb3 hc
      go_wp2_with (at_builtin; refine wpList_append_lies _ rfl _ _ 57 rfl w.heap.size 9 i0 (.string ByteArray.empty) 1 16 Tryz.underlying57 hi hz0 hz1 hz2 rfl (by decide) u3 ws.length _ rfl (HO3.out.alloc _) ⟨w3.heap.size, 0, none⟩ 1 1 [.string x] rfl rfl ?c1 ?c2 (by omega) ?c3 ?c4 ?c5 (w3.heap.size + 1) (by simp) ?_)
      case c1 =>
        intro i u hi
        match i, hi with
        | 0, hi => simp at hi; subst hi; simp [Addr.add]
      case c2 => intro u hu; simp at hu; subst hu; rfl
      case c3 => unfold maxLen; omega
      case c4 => omega
      case c5 => simp; omega
      intro g cap2 w4 hown' hgrow hat hlt'
      have HX : Hid (w4.ownsRow w.heap.size 9 1 (.slice (some ⟨g, 0, none⟩) (ws.length + 1) cap2) (ws ++ [x]).length (strv (ws ++ [x])) ∧ Below w.heap.size w w4) := by
        refine ⟨by rw [strv_app, List.length_append]; exact hown', (HB3.out.alloc hs3 _).grown hgrow (by simp; omega) (fun q hq => (HO3.out.lt q hq).1)⟩
      clear hown' hgrow hat hlt'
      go_wp2_with fail
      go_roundg (gk - 1)
      case rel => exact ⟨y, ws ++ [x], b, rfl, rfl, by have h1 := HM.out; have h2 := HN.out.2; simp only [if_true] at h1; omega, HX.out.1, HN.out.1, HY.out, HX.out.2⟩
      case measure => have h1 := HM.out; simp only [if_true] at h1; omega
end Go.Proofs.YtipmckdlnipgkaaGreatDoor
