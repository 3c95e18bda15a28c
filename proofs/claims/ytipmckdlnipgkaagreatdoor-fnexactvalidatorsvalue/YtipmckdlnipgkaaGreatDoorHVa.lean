/- The specification's value of a header: contract. -/
import Derived.Test.YtipmckdlnipgkaaGreatDoorSNa
import Derived.Test.YtipmckdlnipgkaaGreatDoorS3j
import Derived.Test.YtipmckdlnipgkaaGreatDoorSAi
import Derived.Deep.RegionHeld3
import Derived.Deep.RegionWith
namespace Go.Proofs.YtipmckdlnipgkaaGreatDoor
open Go.RowKit Go.Sort
set_option linter.unusedVariables false
theorem belA (w : World) (o : Obj) : Below w.heap.size w (w.alloc o) := (Below.refl _ _).alloc (Nat.le_refl _) _
theorem l10Num_any (n : Nat) (w : World) : Calls Tryz.prog 34 #[.int .u64 n] w fun e w' => e = .returned (.agg #[.int .i64 1, .int .u64 n, .string ⟨#[]⟩]) ∧ Below w.heap.size w w' := by
  go_enter Tryz.func34, Tryz.ntmps34
  go_wp2
  exact bodyPost_ret (v := .agg #[.int .i64 1, .int .u64 n, .string ⟨#[]⟩]) (by simp [results, Tryz.results34, go_sem]) rfl ⟨rfl, by repeat (first | exact Below.refl _ _ | refine Below.drew ?_ | refine Below.setCell ?_ (by simp) _ | refine Below.alloc ?_ (by simp) _)⟩
theorem l10Fixed_any (s : ByteArray) (w : World) : Calls Tryz.prog 35 #[.string s] w fun e w' => e = .returned (.agg #[.int .i64 4, .int .u64 0, .string s]) ∧ Below w.heap.size w w' := by
  go_enter Tryz.func35, Tryz.ntmps35
  go_wp2
  exact bodyPost_ret (v := .agg #[.int .i64 4, .int .u64 0, .string s]) (by simp [results, Tryz.results35, go_sem]) rfl ⟨rfl, by repeat (first | exact Below.refl _ _ | refine Below.drew ?_ | refine Below.setCell ?_ (by simp) _ | refine Below.alloc ?_ (by simp) _)⟩
theorem l10Many_any (k : Int) (n : Nat) (w : World) (hn : n ≤ 2000000) : Calls Tryz.prog 33 #[.int .i64 k, .int .i64 n] w fun e w' => e = .returned (.agg #[.int .i64 k, .int .u64 n, .string ⟨#[]⟩]) ∧ Below w.heap.size w w' := by
  go_enter Tryz.func33, Tryz.ntmps33
  go_wp2
  exact bodyPost_ret (v := .agg #[.int .i64 k, .int .u64 n, .string ⟨#[]⟩]) (by simp [results, Tryz.results33, go_sem]) rfl ⟨rfl, by repeat (first | exact Below.refl _ _ | refine Below.drew ?_ | refine Below.setCell ?_ (by simp) _ | refine Below.alloc ?_ (by simp) _)⟩
/-- The items of a header. -/
def hdVs (a c : Nat) (d f g : ByteArray) : List It := [⟨7, 5, ⟨#[]⟩⟩, ⟨1, a, ⟨#[]⟩⟩, ⟨1, c, ⟨#[]⟩⟩, ⟨4, 0, d⟩, ⟨4, 0, f⟩, ⟨3, 0, g⟩]
/-- What a value of items is, when it is one of its kind. -/
def vlR (k : Int) (vs : List It) : List It := if typedB (msgS k) vs then vs else []
set_option maxRecDepth 100000 in
theorem l10Of_any (k : Int) (vs : List It) (base : Nat) (v : Value) (w : World) (hb : base ≤ w.heap.size) (hv : OwnIt base w v vs) (hs : vs.length ≤ 1048577) (hwf : ∀ x ∈ vs, inI x.k ∧ x.n < 18446744073709551616 ∧ x.s.size ≤ 1048577) : Calls Tryz.prog 32 #[.int .i64 k, v] w fun e w' => (∃ v', e = .returned v' ∧ OwnIt base w' v' (vlR k vs)) ∧ Below w.heap.size w w' := by
  have HI : Hid (IsItems w.heap.size w v vs) := hv.items hs hwf
  have HO : Hid (OwnIt base w v vs) := hv
  obtain ⟨ad, cap, rfl, _, _, _⟩ := hv.form
  clear hv hs hwf hb
  go_enter Tryz.func32, Tryz.ntmps32
  go_wp2_with fail
  refine (specMsgSchema_any k _).mono ?_
  rintro e w2 ⟨⟨v2, rfl, _, hi2⟩, hb2⟩
  have HB2 : Hid (Below w.heap.size w w2) := hb2
  have HI2 : Hid (IsTyps w2.heap.size w2 v2 (msgS k)) := hi2
  clear hb2 hi2
  go_wp2_with fail
  refine (specTyped_any (msgS k) vs v2 _ w2 HI2.out ((HI.out.below HB2.out).up HB2.out.size)).mono ?_
  rintro e w3 ⟨rfl, hb3⟩
  have HB3 : Hid (Below w.heap.size w w3) := HB2.out.trans (hb3.mono HB2.out.size)
  clear hb3
  cases ht : typedB (msgS k) vs with
  | true =>
    have HX : Hid (OwnIt base w3 (.slice ad vs.length cap) (vlR k vs)) := by show OwnIt _ _ _ _; unfold vlR; rw [if_pos ht]; exact HO.out.kept HB3.out
    clear ht
    go_wp2_with fail
    go_ret
    exact ⟨⟨_, rfl, HX.out⟩, HB3.out⟩
  | false =>
    have HX : Hid (OwnIt base w3 (.slice none 0 0) (vlR k vs)) := by show OwnIt _ _ _ _; unfold vlR; rw [ht]; exact OwnIt.nil _ _
    clear ht
    go_wp2_with fail
    go_ret
    exact ⟨⟨_, rfl, HX.out⟩, HB3.out⟩
theorem own_downI {w : World} {base base' : Nat} {v : Value} {l : List It} (h : OwnIt base w v l) (hb : base' ≤ base) : OwnIt base' w v l := by
  refine ⟨h.1, ?_⟩
  rcases h.2 with h | ⟨g, cap, cur, a1, a2, a3⟩
  · exact .inl h
  · exact .inr ⟨g, cap, cur, a1, by omega, a3⟩
set_option maxRecDepth 100000 in
set_option maxHeartbeats 4000000 in
theorem specHeaderValue_any (a c : Nat) (d f g : ByteArray) (w : World) (ha : a < 18446744073709551616) (hc : c < 18446744073709551616) (hd : d.size ≤ 1048577) (hf : f.size ≤ 1048577) (hg : g.size ≤ 1048577) :
    Calls Tryz.prog 8 #[.agg #[.int .u64 a, .int .u64 c, .string d, .string f, .string g]] w fun e w' => (∃ v', e = .returned v' ∧ OwnIt w.heap.size w' v' (vlR 1 (hdVs a c d f g))) ∧ Below w.heap.size w w' := by
  obtain ⟨W, hW⟩ : ∃ W, w.alloc (.cells #[.int .u64 a, .int .u64 c, .string d, .string f, .string g] 28) = W := ⟨_, rfl⟩
  have hN : W.heap[w.heap.size]? = some (.cells #[.int .u64 a, .int .u64 c, .string d, .string f, .string g] 28 (0, 0)) := by rw [← hW]; exact heap_alloc_new w _
  have hlt : w.heap.size < W.heap.size := by rw [← hW]; simp
  have HBW : Hid (Below w.heap.size w W) := by show Below _ _ _; rw [← hW]; exact belA _ _
  obtain ⟨H, hH⟩ : ∃ H, w.heap.size = H := ⟨_, rfl⟩
  have HHE : Hid (w.heap.size = H) := hH
  have HK : Hid (∀ w3, Below W.heap.size W.drew w3 → w3.cell? ⟨H, 0, none⟩ = some (.int .u64 a) ∧ w3.cell? ⟨H, 1, none⟩ = some (.int .u64 c) ∧ w3.cell? ⟨H, 2, none⟩ = some (.string d) ∧ w3.cell? ⟨H, 3, none⟩ = some (.string f) ∧ w3.cell? ⟨H, 4, none⟩ = some (.string g)) := fun w3 hb => by
    subst hH
    have e : ∀ i, w3.cell? ⟨w.heap.size, i, none⟩ = W.cell? ⟨w.heap.size, i, none⟩ := fun i => hb.cell (p := ⟨w.heap.size, i, none⟩) hlt
    refine ⟨?_, ?_, ?_, ?_, ?_⟩ <;> (rw [e, cell_of_row _ _ _ _ _ _ hN]; rfl)
  have HS0 : Hid _ := HK.out W.drew (Below.refl _ _)
  have HG0 : Hid (Below W.heap.size W.drew W.drew) := Below.refl _ _
  have HM : Hid (∀ w, Calls Tryz.prog 33 #[.int .i64 7, .int .i64 5] w fun e w' => e = .returned (.agg #[.int .i64 7, .int .u64 5, .string ⟨#[]⟩]) ∧ Below w.heap.size w w') := fun w => l10Many_any 7 5 w (by decide)
  have HN1 : Hid (∀ w, Calls Tryz.prog 34 #[.int .u64 a] w fun e w' => e = .returned (.agg #[.int .i64 1, .int .u64 a, .string ⟨#[]⟩]) ∧ Below w.heap.size w w') := fun w => l10Num_any a w
  have HN2 : Hid (∀ w, Calls Tryz.prog 34 #[.int .u64 c] w fun e w' => e = .returned (.agg #[.int .i64 1, .int .u64 c, .string ⟨#[]⟩]) ∧ Below w.heap.size w w') := fun w => l10Num_any c w
  have HF1 : Hid (∀ w, Calls Tryz.prog 35 #[.string d] w fun e w' => e = .returned (.agg #[.int .i64 4, .int .u64 0, .string d]) ∧ Below w.heap.size w w') := fun w => l10Fixed_any d w
  have HF2 : Hid (∀ w, Calls Tryz.prog 35 #[.string f] w fun e w' => e = .returned (.agg #[.int .i64 4, .int .u64 0, .string f]) ∧ Below w.heap.size w w') := fun w => l10Fixed_any f w
  have HOF : Hid (∀ w7 : World, Calls Tryz.prog 32 #[.int .i64 1, .slice (some ⟨w7.heap.size, 0, none⟩) 6 6] (w7.alloc (.cells #[.int .i64 7, .int .u64 5, .string ⟨#[]⟩, .int .i64 1, .int .u64 a, .string ⟨#[]⟩, .int .i64 1, .int .u64 c, .string ⟨#[]⟩, .int .i64 4, .int .u64 0, .string d, .int .i64 4, .int .u64 0, .string f, .int .i64 3, .int .u64 0, .string g] 69)) fun e w'' => (∃ v', e = .returned v' ∧ OwnIt w7.heap.size w'' v' (vlR 1 (hdVs a c d f g))) ∧ Below (w7.alloc (.cells #[.int .i64 7, .int .u64 5, .string ⟨#[]⟩, .int .i64 1, .int .u64 a, .string ⟨#[]⟩, .int .i64 1, .int .u64 c, .string ⟨#[]⟩, .int .i64 4, .int .u64 0, .string d, .int .i64 4, .int .u64 0, .string f, .int .i64 3, .int .u64 0, .string g] 69)).heap.size (w7.alloc (.cells #[.int .i64 7, .int .u64 5, .string ⟨#[]⟩, .int .i64 1, .int .u64 a, .string ⟨#[]⟩, .int .i64 1, .int .u64 c, .string ⟨#[]⟩, .int .i64 4, .int .u64 0, .string d, .int .i64 4, .int .u64 0, .string f, .int .i64 3, .int .u64 0, .string g] 69)) w'') := fun w7 => by
    refine l10Of_any 1 (hdVs a c d f g) w7.heap.size _ _ (by simp) ?_ (by simp [hdVs]) ?_
    · exact World.ownsRow_lit (base := w7.heap.size) (e := 69) (size := 3) w7 _ 6 (Nat.le_refl _) (by simp [maxLen]) rfl
    · intro x hx
      simp only [hdVs, List.mem_cons, List.not_mem_nil, or_false] at hx
      rcases hx with rfl | rfl | rfl | rfl | rfl | rfl <;> (refine ⟨?_, ?_, ?_⟩ <;> first | (unfold inI; simp; done) | (unfold inI; decide) | assumption | (simp; done) | exact Nat.zero_le _ | decide)
  clear hN
  go_enter Tryz.func8, Tryz.ntmps8
  go_wp2_with fail
  first | rw [hW, hH] | rw [hH] | skip
  clear hW hH
  go_region_held3 (fun W => W.cell? ⟨H, 0, none⟩ = some (.int .u64 a) ∧ W.cell? ⟨H, 1, none⟩ = some (.int .u64 c) ∧ W.cell? ⟨H, 2, none⟩ = some (.string d) ∧ W.cell? ⟨H, 3, none⟩ = some (.string f) ∧ W.cell? ⟨H, 4, none⟩ = some (.string g)) (first | exact HS0.out | exact HS8.out | exact HK.out _ (HG7.out.alloc HG7.out.size _) | exact HS7.out | exact HS6.out | exact HS5.out | exact HS4.out | exact HS3.out) (first
    | (go_at_call 33; refine (HM.out _).mono ?_; rintro e w3 ⟨rfl, hb3⟩; have HG3 : Hid (Below W.heap.size W.drew w3) := HG0.out.trans (hb3.mono (Nat.le_refl _)); have HS3 : Hid _ := HK.out w3 HG3.out; clear hb3)
    | (go_at_call 34; refine (HN1.out _).mono ?_; rintro e w4 ⟨rfl, hb4⟩; have HG4 : Hid (Below W.heap.size W.drew w4) := HG3.out.trans (hb4.mono HG3.out.size); have HS4 : Hid _ := HK.out w4 HG4.out; clear hb4)
    | (go_at_call 34; refine (HN2.out _).mono ?_; rintro e w5 ⟨rfl, hb5⟩; have HG5 : Hid (Below W.heap.size W.drew w5) := HG4.out.trans (hb5.mono HG4.out.size); have HS5 : Hid _ := HK.out w5 HG5.out; clear hb5)
    | (go_at_call 35; refine (HF1.out _).mono ?_; rintro e w6 ⟨rfl, hb6⟩; have HG6 : Hid (Below W.heap.size W.drew w6) := HG5.out.trans (hb6.mono HG5.out.size); have HS6 : Hid _ := HK.out w6 HG6.out; clear hb6)
    | (go_at_call 35; refine (HF2.out _).mono ?_; rintro e w7 ⟨rfl, hb7⟩; have HG7 : Hid (Below W.heap.size W.drew w7) := HG6.out.trans (hb7.mono HG6.out.size); have HS7 : Hid _ := HK.out w7 HG7.out; clear hb7)
    | (go_at_call 32; refine (HOF.out _).mono ?_; rintro e w8 ⟨⟨v8, rfl, ho8⟩, hb8⟩; have HO8 : Hid (OwnIt w7.heap.size w8 v8 (vlR 1 (hdVs a c d f g))) := ho8; have HG8 : Hid (Below W.heap.size W.drew w8) := (HG7.out.alloc HG7.out.size _).trans (hb8.mono (HG7.out.alloc HG7.out.size _).size); have HS8 : Hid _ := HK.out w8 HG8.out; clear hb8 ho8))
  have HBD : Hid (Below w.heap.size w W.drew) := HBW.out.drew
  have HF8 : Hid ((∃ v', Ending.returned v8 = .returned v' ∧ OwnIt w.heap.size w8 v' (vlR 1 (hdVs a c d f g))) ∧ Below w.heap.size w w8) := ⟨⟨v8, rfl, own_downI HO8.out (Nat.le_trans HBD.out.size HG7.out.size)⟩, HBD.out.trans (HG8.out.mono HBD.out.size)⟩
  clear HS0 HG0
  go_wp2_with fail
  go_ret
  exact HF8.out
end Go.Proofs.YtipmckdlnipgkaaGreatDoor
