/- The program's value of a header: contract. -/
import Derived.Test.YtipmckdlnipgkaaGreatDoorHVc
namespace Go.Proofs.YtipmckdlnipgkaaGreatDoor
open Go.RowKit Go.Sort
set_option linter.unusedVariables false
theorem cells5 {W : World} {b : Nat} {a c : Nat} {d f g : ByteArray} {t : Nat} (h : W.heap[b]? = some (.cells #[.int .u64 a, .int .u64 c, .string d, .string f, .string g] t (0, 0))) : W.cell? ⟨b, 0, none⟩ = some (.int .u64 a) ∧ W.cell? ⟨b, 1, none⟩ = some (.int .u64 c) ∧ W.cell? ⟨b, 2, none⟩ = some (.string d) ∧ W.cell? ⟨b, 3, none⟩ = some (.string f) ∧ W.cell? ⟨b, 4, none⟩ = some (.string g) := by
  refine ⟨?_, ?_, ?_, ?_, ?_⟩ <;> (rw [cell_of_row _ _ _ _ _ _ h]; rfl)
set_option maxRecDepth 100000 in
set_option maxHeartbeats 4000000 in
theorem implHeaderValue_any (a c : Nat) (d f g : ByteArray) (w : World) (hw : EV w) (ha : a < 18446744073709551616) (hc : c < 18446744073709551616) (hd : d.size ≤ 1048577) (hf : f.size ≤ 1048577) (hg : g.size ≤ 1048577) :
    Calls Tryz.prog 10 #[.agg #[.int .u64 a, .int .u64 c, .string d, .string f, .string g]] w fun e w' => (∃ v', e = .returned v' ∧ OwnIt w.heap.size w' v' (vlR 1 (hdVs a c d f g))) ∧ Below w.heap.size w w' := by
  obtain ⟨W, hW⟩ : ∃ W, w.alloc (.cells #[.int .u64 a, .int .u64 c, .string d, .string f, .string g] 28) = W := ⟨_, rfl⟩
  obtain ⟨X, hX⟩ : ∃ X, W.alloc (.cells #[.slice none 0 0] 74) = X := ⟨_, rfl⟩
  have hWs : W.heap.size = w.heap.size + 1 := by rw [← hW]; simp
  have hXs : X.heap.size = w.heap.size + 2 := by rw [← hX]; simp [hWs]
  have HBX : Hid (Below w.heap.size w X) := by
    show Below _ _ _
    have h1 : Below w.heap.size w W := by rw [← hW]; exact belA _ _
    have h2 : Below W.heap.size W X := by rw [← hX]; exact belA _ _
    exact h1.trans (h2.mono h1.size)
  have HBXB : Hid (X.heap[w.heap.size]? = some (.cells #[.int .u64 a, .int .u64 c, .string d, .string f, .string g] 28 (0, 0))) := by
    show _ = _
    have h2 : Below W.heap.size W X := by rw [← hX]; exact belA _ _
    rw [h2.block w.heap.size (by omega), ← hW]; exact heap_alloc_new w _
  have HWR : Hid (WrAt W.heap.size X.heap.size X []) := ⟨by omega, Nat.le_refl _, .slice none 0 0, by rw [← hX]; exact heap_alloc_new W _, OwnIt.nil _ _⟩
  have HWs : Hid (W.heap.size = w.heap.size + 1) := hWs
  have HXs : Hid (X.heap.size = w.heap.size + 2) := hXs
  have HCF : Hid (∀ w' l, WrAt W.heap.size X.heap.size w' l → l.length ≤ 1000 → Calls Tryz.prog 36 #[.pointer (some ⟨W.heap.size, 0, none⟩), .int .u64 5] w' fun e w'' => e = .returned (.tuple #[]) ∧ WrAt W.heap.size X.heap.size w'' (l ++ [⟨7, 5, ⟨#[]⟩⟩]) ∧ Below W.heap.size w' w'') := fun w' l h hl => w_fields_any _ _ l 5 w' h hl
  have HCN : Hid (∀ w' l (n : Nat), WrAt W.heap.size X.heap.size w' l → l.length ≤ 1000 → Calls Tryz.prog 37 #[.pointer (some ⟨W.heap.size, 0, none⟩), .int .u64 n] w' fun e w'' => e = .returned (.tuple #[]) ∧ WrAt W.heap.size X.heap.size w'' (l ++ [⟨1, n, ⟨#[]⟩⟩]) ∧ Below W.heap.size w' w'') := fun w' l n h hl => w_number_any _ _ l n w' h hl
  have HCX : Hid (∀ w' l s, WrAt W.heap.size X.heap.size w' l → l.length ≤ 1000 → Calls Tryz.prog 38 #[.pointer (some ⟨W.heap.size, 0, none⟩), .string s] w' fun e w'' => e = .returned (.tuple #[]) ∧ WrAt W.heap.size X.heap.size w'' (l ++ [⟨4, 0, s⟩]) ∧ Below W.heap.size w' w'') := fun w' l s h hl => w_fixed_any _ _ l s w' h hl
  have HCT : Hid (∀ w' l s, WrAt W.heap.size X.heap.size w' l → l.length ≤ 1000 → Calls Tryz.prog 39 #[.pointer (some ⟨W.heap.size, 0, none⟩), .string s] w' fun e w'' => e = .returned (.tuple #[]) ∧ WrAt W.heap.size X.heap.size w'' (l ++ [⟨3, 0, s⟩]) ∧ Below W.heap.size w' w'') := fun w' l s h hl => w_text_any _ _ l s w' h hl
  have HCV : Hid (∀ w', WrAt W.heap.size X.heap.size w' (hdVs a c d f g) → EV w' → Calls Tryz.prog 40 #[.pointer (some ⟨W.heap.size, 0, none⟩), .int .i64 1] w' fun e w'' => (∃ v', e = .returned v' ∧ OwnIt X.heap.size w'' v' (vlR 1 (hdVs a c d f g))) ∧ Below W.heap.size w' w'') := fun w' h hv => value_any _ _ (hdVs a c d f g) 1 w' h hv (by simp [hdVs]) (by
    intro x hx
    simp only [hdVs, List.mem_cons, List.not_mem_nil, or_false] at hx
    rcases hx with rfl | rfl | rfl | rfl | rfl | rfl <;> (refine ⟨?_, ?_, ?_⟩ <;> first | (unfold inI; simp; done) | (unfold inI; decide) | assumption | (simp; done) | exact Nat.zero_le _ | decide))
  have HEV : Hid (EV w) := hw
  have HL : Hid ((([] : List It) ++ [⟨7, 5, ⟨#[]⟩⟩] ++ [⟨1, a, ⟨#[]⟩⟩] ++ [⟨1, c, ⟨#[]⟩⟩] ++ [⟨4, 0, d⟩] ++ [⟨4, 0, f⟩] ++ [⟨3, 0, g⟩]) = hdVs a c d f g) := rfl
  obtain ⟨R, hR⟩ : ∃ R, W.heap.size = R := ⟨_, rfl⟩
  obtain ⟨H, hH⟩ : ∃ H, w.heap.size = H := ⟨_, rfl⟩
  have HHE : Hid (w.heap.size = H) := hH
  rw [hH] at HBXB HBX HWs HXs
  rw [hR] at HWR HWs HCF HCN HCX HCT HCV
  have HRr : Hid (R = H + 1) := HWs.out
  clear hw hWs hXs ha hc hd hf hg
  go_enter Tryz.func10, Tryz.ntmps10
  go_wp2_with fail
  clear hX hW hR hH
  refine (HCF.out X [] HWR.out (by simp)).mono ?_
  rintro e w1 ⟨rfl, hr, hb⟩
  have HR1 : Hid (WrAt R X.heap.size w1 ([] ++ [⟨7, 5, ⟨#[]⟩⟩])) := hr
  have HB1 : Hid (Below R X w1) := hb
  have HN1 : Hid (w1.heap[H]? = some (.cells #[.int .u64 a, .int .u64 c, .string d, .string f, .string g] 28 (0, 0))) := (HB1.out.block H (by have := HRr.out; omega)).trans HBXB.out
  clear hr hb
  obtain ⟨x0, x1, x2, x3, x4⟩ := cells5 HN1.out
  go_wp2_with fail
  refine (HCN.out w1 _ a HR1.out (by simp)).mono ?_
  rintro e w2 ⟨rfl, hr, hb⟩
  have HR2 : Hid (WrAt R X.heap.size w2 _) := hr
  have HB2 : Hid (Below R X w2) := HB1.out.trans hb
  have HN2 : Hid (w2.heap[H]? = some (.cells #[.int .u64 a, .int .u64 c, .string d, .string f, .string g] 28 (0, 0))) := (HB2.out.block H (by have := HRr.out; omega)).trans HBXB.out
  clear hr hb x0 x1 x2 x3 x4
  obtain ⟨x0, x1, x2, x3, x4⟩ := cells5 HN2.out
  go_wp2_with fail
  refine (HCN.out w2 _ c HR2.out (by simp)).mono ?_
  rintro e w3 ⟨rfl, hr, hb⟩
  have HR3 : Hid (WrAt R X.heap.size w3 _) := hr
  have HB3 : Hid (Below R X w3) := HB2.out.trans hb
  have HN3 : Hid (w3.heap[H]? = some (.cells #[.int .u64 a, .int .u64 c, .string d, .string f, .string g] 28 (0, 0))) := (HB3.out.block H (by have := HRr.out; omega)).trans HBXB.out
  clear hr hb x0 x1 x2 x3 x4
  obtain ⟨x0, x1, x2, x3, x4⟩ := cells5 HN3.out
  go_wp2_with fail
  refine (HCX.out w3 _ d HR3.out (by simp)).mono ?_
  rintro e w4 ⟨rfl, hr, hb⟩
  have HR4 : Hid (WrAt R X.heap.size w4 _) := hr
  have HB4 : Hid (Below R X w4) := HB3.out.trans hb
  have HN4 : Hid (w4.heap[H]? = some (.cells #[.int .u64 a, .int .u64 c, .string d, .string f, .string g] 28 (0, 0))) := (HB4.out.block H (by have := HRr.out; omega)).trans HBXB.out
  clear hr hb x0 x1 x2 x3 x4
  obtain ⟨x0, x1, x2, x3, x4⟩ := cells5 HN4.out
  go_wp2_with fail
  refine (HCX.out w4 _ f HR4.out (by simp)).mono ?_
  rintro e w5 ⟨rfl, hr, hb⟩
  have HR5 : Hid (WrAt R X.heap.size w5 _) := hr
  have HB5 : Hid (Below R X w5) := HB4.out.trans hb
  have HN5 : Hid (w5.heap[H]? = some (.cells #[.int .u64 a, .int .u64 c, .string d, .string f, .string g] 28 (0, 0))) := (HB5.out.block H (by have := HRr.out; omega)).trans HBXB.out
  clear hr hb x0 x1 x2 x3 x4
  obtain ⟨x0, x1, x2, x3, x4⟩ := cells5 HN5.out
  go_wp2_with fail
  refine (HCT.out w5 _ g HR5.out (by simp)).mono ?_
  rintro e w6 ⟨rfl, hr, hb⟩
  have HR6 : Hid (WrAt R X.heap.size w6 _) := hr
  have HB6 : Hid (Below R X w6) := HB5.out.trans hb
  have HN6 : Hid (w6.heap[H]? = some (.cells #[.int .u64 a, .int .u64 c, .string d, .string f, .string g] 28 (0, 0))) := (HB6.out.block H (by have := HRr.out; omega)).trans HBXB.out
  clear hr hb x0 x1 x2 x3 x4
  rw [HL.out] at HR6
  have HBF : Hid (Below H w w6) := HBX.out.trans (HB6.out.mono (by have := HRr.out; omega))
  have HE6 : Hid (EV w6) := HEV.out.below (by have := HBF.out; rw [← HHE.out] at this; exact this)
  go_wp2_with fail
  refine (HCV.out w6 HR6.out HE6.out).mono ?_
  rintro e w7 ⟨⟨v7, rfl, ho⟩, hb⟩
  have HF : Hid ((∃ v', Ending.returned v7 = .returned v' ∧ OwnIt w.heap.size w7 v' (vlR 1 (hdVs a c d f g))) ∧ Below w.heap.size w w7) := ⟨⟨v7, rfl, own_downI ho (by have := HXs.out; have := HHE.out; omega)⟩, by rw [HHE.out]; exact HBF.out.trans (hb.mono (by have := HRr.out; omega))⟩
  clear ho hb
  go_wp2_with fail
  go_ret
  exact HF.out
end Go.Proofs.YtipmckdlnipgkaaGreatDoor
