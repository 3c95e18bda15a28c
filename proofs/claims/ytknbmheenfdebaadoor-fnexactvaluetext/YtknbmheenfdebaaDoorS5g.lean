/- The specification's text of an item: contracts. -/
import Derived.Test.YtknbmheenfdebaaDoorS5f
import Derived.Deep.RegionHeld3
namespace Go.Proofs.YtknbmheenfdebaaDoor
open Go.RowKit Go.Sort
set_option linter.unusedVariables false
/-- The word ahead of a number. -/
def wordOf (k : Int) : List UInt8 := if k = 5 then [108] else if k = 6 then [118] else if k = 7 then [115] else if k = 9 then [99] else []
theorem lit_cell {w : World} {g i : Nat} {cs : Array Value} {v : Value} (h : w.heap[g]? = some (.cells cs 9 (0, 0))) (hc : cs[i]? = some v) : w.cell? ⟨g, i, none⟩ = some v := by
  rw [cell_of_row w g i cs _ _ h]; exact hc
/-- The cells of a list that is written out, behind a call. -/
theorem lit_kept {w w' : World} {cs : Array Value} {n : Nat} (i : Nat) (S : ByteArray) (hn : w.heap.size = n) (hb : Below (w.alloc (.cells cs 9)).heap.size (w.alloc (.cells cs 9)) w') (hc : cs[i]? = some (.string S)) : w'.cell? ⟨n, i, none⟩ = some (.string S) :=
  lit_cell (by subst hn; rw [hb.block _ (by simp)]; exact heap_alloc_new w _) hc
set_option maxRecDepth 100000 in
set_option maxHeartbeats 1000000 in
theorem l3Text_1 (m : Nat) (s D : ByteArray) (w : World) (hm : m < 18446744073709551616) (hDs : D.size ≤ 20) (hc : ∀ w, Calls Tryd.prog 18 #[.int .u64 m] w fun e w' => e = .returned (.string D) ∧ Below w.heap.size w w') :
    Calls Tryd.prog 11 #[.agg #[.int .i64 1, .int .u64 m, .string s]] w fun e w' => e = .returned (.string ((⟨#[ ]⟩ : ByteArray) ++ D)) ∧ Below w.heap.size w w' := by
  have HC : Hid (∀ w, Calls Tryd.prog 18 #[.int .u64 m] w fun e w' => e = .returned (.string D) ∧ Below w.heap.size w w') := hc
  have HL : Hid (∀ w' : World, Below ((w.alloc (.cells #[.int .i64 1, .int .u64 (m : Int), .string s] 34)).alloc (.cells #[.string ⟨#[]⟩, .string ⟨#[]⟩, .string ⟨#[]⟩, .string ⟨#[]⟩, .string ⟨#[108]⟩, .string ⟨#[118]⟩, .string ⟨#[115]⟩, .string ⟨#[]⟩, .string ⟨#[99]⟩] 9)).drew.heap.size ((w.alloc (.cells #[.int .i64 1, .int .u64 (m : Int), .string s] 34)).alloc (.cells #[.string ⟨#[]⟩, .string ⟨#[]⟩, .string ⟨#[]⟩, .string ⟨#[]⟩, .string ⟨#[108]⟩, .string ⟨#[118]⟩, .string ⟨#[115]⟩, .string ⟨#[]⟩, .string ⟨#[99]⟩] 9)).drew w' → w'.cell? ⟨w.heap.size + 1, 0, none⟩ = some (.string ⟨#[ ]⟩)) := fun w' hb => by
    refine lit_cell (cs := #[.string ⟨#[]⟩, .string ⟨#[]⟩, .string ⟨#[]⟩, .string ⟨#[]⟩, .string ⟨#[108]⟩, .string ⟨#[118]⟩, .string ⟨#[115]⟩, .string ⟨#[]⟩, .string ⟨#[99]⟩]) ?_ rfl
    rw [hb.block _ (by show _ < ((w.heap.push _).push _).size; simp)]
    show ((w.heap.push _).push _)[w.heap.size + 1]? = _
    rw [show w.heap.size + 1 = (w.heap.push (Obj.cells #[.int .i64 1, .int .u64 (m : Int), .string s] 34)).size by simp, Array.getElem?_push_size]
  have hD2 : ¬ (9223372036854775807 < D.size) := by omega
  have hD3 : ¬ (9223372036854775807 < 1 + D.size) := by omega
  clear hc
  go_enter Tryd.func11, Tryd.ntmps11
  go_wp2_with fail
  refine wp_region_held_drew (S := fun w' => w'.cell? ⟨w.heap.size, 0, none⟩ = some (.int .i64 1) ∧ w'.cell? ⟨w.heap.size, 1, none⟩ = some (.int .u64 (m : Int))) (by kernel_rfl) (by (try dsimp only); go_keep) (fun hHeld => ?_)
  refine wpAnyH_take (i := 1) (v := .pointer (some ⟨w.heap.size, 0, none⟩)) rfl (by kernel_rfl) (by kernel_rfl) (by kernel_rfl) (fun _ _ _ h => h) (Or.inl ⟨by rfl, fun w' hSw => by (try dsimp only at hSw); go_simp <;> first | with_reducible rfl | rfl | omega⟩) (by assumption) ?_
  (try simp only [Act.put, List.setIfInBounds_toArray])
  refine wpAnyH_take (i := 2) (v := .int .i64 1) rfl (by kernel_rfl) (by kernel_rfl) (by kernel_rfl) (fun _ _ _ h => h) (Or.inl ⟨by rfl, fun w' hSw => by (try dsimp only at hSw); go_simp <;> first | with_reducible rfl | rfl | omega⟩) (by assumption) ?_
  (try simp only [Act.put])
  refine wpAnyH_take (i := 3) (v := .int .i64 0) rfl (by kernel_rfl) (by kernel_rfl) (by kernel_rfl) (fun _ _ _ h => h) (Or.inl ⟨by rfl, fun w' hSw => by (try dsimp only at hSw); go_simp <;> first | with_reducible rfl | rfl | omega⟩) (by assumption) ?_
  (try simp only [Act.put])
  refine wpAnyH_take (i := 6) (v := .pointer (some ⟨w.heap.size, 1, none⟩)) rfl (by kernel_rfl) (by kernel_rfl) (by kernel_rfl) (fun _ _ _ h => h) (Or.inl ⟨by rfl, fun w' hSw => by (try dsimp only at hSw); go_simp <;> first | with_reducible rfl | rfl | omega⟩) (by assumption) ?_
  (try simp only [Act.put])
  refine wpAnyH_take (i := 7) (v := .int .u64 (m : Int)) rfl (by kernel_rfl) (by kernel_rfl) (by kernel_rfl) (fun _ _ _ h => h) (Or.inl ⟨by rfl, fun w' hSw => by (try dsimp only at hSw); go_simp <;> first | with_reducible rfl | rfl | omega⟩) (by assumption) ?_
  (try simp only [Act.put])
  refine wpAnyH_ready (rs := [0, 8]) (by kernel_rfl) (by simp) ?_
  refine AllReadyH.cons rfl (fun K hK => ?_) ?_
  · skip
    go_simp
    refine hK.out _ _ (by first | exact hHeld | ((try dsimp only); go_keep)) (fun hHeld => ?_)
    clear hK K
    refine wpAnyH_take (i := 4) (v := .pointer (some ⟨w.heap.size + 1, 0, none⟩)) rfl (by kernel_rfl) (by kernel_rfl) (by kernel_rfl) (fun _ _ _ h => h) (Or.inl ⟨by rfl, fun w' hSw => by (try dsimp only at hSw); go_simp <;> first | with_reducible rfl | rfl | omega⟩) (by assumption) ?_
    (try simp only [Act.put, List.setIfInBounds_toArray])
    refine wpAnyH_ready (rs := [5, 8]) (by kernel_rfl) (by simp) ?_
    refine AllReadyH.cons rfl (fun K hK => ?_) ?_
    · skip
      go_simp
      refine hK.out _ _ (by first | exact hHeld | ((try dsimp only); go_keep)) (fun hHeld => ?_)
      clear hK K
      refine wpAnyH_ready (rs := [8]) (by kernel_rfl) (by simp) ?_
      refine AllReadyH.cons rfl (fun K hK => ?_) ?_
      · skip
        go_simp
        go_wp2_with (go_at_call 18; refine (HC.out _).mono ?_; rintro e w3 ⟨rfl, hb3⟩; have q0 : w3.cell? ⟨w.heap.size, 0, none⟩ = some (.int .i64 1) := (by rw [hb3.cell (by simp <;> omega)]; simp [go_sem]); have q1 : w3.cell? ⟨w.heap.size, 1, none⟩ = some (.int .u64 m) := (by rw [hb3.cell (by simp <;> omega)]; simp [go_sem]))
        refine hK.out _ _ (by first | exact hHeld | ((try dsimp only); go_keep)) (fun hHeld => ?_)
        clear hK K
        refine wpAnyH_ready (rs := [9]) (by kernel_rfl) (by simp) ?_
        refine AllReadyH.cons rfl (fun K hK => ?_) ?_
        · skip
          go_simp
          refine hK.out _ _ (by first | exact hHeld | ((try dsimp only); go_keep)) (fun hHeld => ?_)
          clear hK K
          refine wpAnyH_ready (rs := [10]) (by kernel_rfl) (by simp) ?_
          refine AllReadyH.cons rfl (fun K hK => ?_) ?_
          · skip
            go_simp
            refine hK.out _ _ (by first | exact hHeld | ((try dsimp only); go_keep)) (fun hHeld => ?_)
            clear hK K
            refine wpAnyH_done (by kernel_rfl) ?_ _
            go_wp2_with fail
            go_ret
            exact ⟨rfl, ((((Below.refl _ _).alloc (Nat.le_refl _) _).alloc (by simp) _).drew).trans (hb3.mono (by show w.heap.size ≤ ((w.heap.push _).push _).size; simp; omega))⟩
          exact AllReadyH.nil
        exact AllReadyH.nil
      exact AllReadyH.nil
    refine AllReadyH.cons rfl (fun K hK => ?_) ?_
    · skip
      go_simp
      go_wp2_with (go_at_call 18; refine (HC.out _).mono ?_; rintro e w3 ⟨rfl, hb3⟩; have q0 : w3.cell? ⟨w.heap.size, 0, none⟩ = some (.int .i64 1) := (by rw [hb3.cell (by simp <;> omega)]; simp [go_sem]); have q1 : w3.cell? ⟨w.heap.size, 1, none⟩ = some (.int .u64 m) := (by rw [hb3.cell (by simp <;> omega)]; simp [go_sem]); have qL := HL.out _ hb3)
      refine hK.out _ _ (by first | exact hHeld | ((try dsimp only); go_keep)) (fun hHeld => ?_)
      clear hK K
      refine wpAnyH_ready (rs := [5]) (by kernel_rfl) (by simp) ?_
      refine AllReadyH.cons rfl (fun K hK => ?_) ?_
      · skip
        go_simp
        refine hK.out _ _ (by first | exact hHeld | ((try dsimp only); go_keep)) (fun hHeld => ?_)
        clear hK K
        refine wpAnyH_ready (rs := [9]) (by kernel_rfl) (by simp) ?_
        refine AllReadyH.cons rfl (fun K hK => ?_) ?_
        · skip
          go_simp
          refine hK.out _ _ (by first | exact hHeld | ((try dsimp only); go_keep)) (fun hHeld => ?_)
          clear hK K
          refine wpAnyH_ready (rs := [10]) (by kernel_rfl) (by simp) ?_
          refine AllReadyH.cons rfl (fun K hK => ?_) ?_
          · skip
            go_simp
            refine hK.out _ _ (by first | exact hHeld | ((try dsimp only); go_keep)) (fun hHeld => ?_)
            clear hK K
            refine wpAnyH_done (by kernel_rfl) ?_ _
            go_wp2_with fail
            go_ret
            exact ⟨rfl, ((((Below.refl _ _).alloc (Nat.le_refl _) _).alloc (by simp) _).drew).trans (hb3.mono (by show w.heap.size ≤ ((w.heap.push _).push _).size; simp; omega))⟩
          exact AllReadyH.nil
        exact AllReadyH.nil
      exact AllReadyH.nil
    exact AllReadyH.nil
  refine AllReadyH.cons rfl (fun K hK => ?_) ?_
  · skip
    go_simp
    go_wp2_with (go_at_call 18; refine (HC.out _).mono ?_; rintro e w3 ⟨rfl, hb3⟩; have q0 : w3.cell? ⟨w.heap.size, 0, none⟩ = some (.int .i64 1) := (by rw [hb3.cell (by simp <;> omega)]; simp [go_sem]); have q1 : w3.cell? ⟨w.heap.size, 1, none⟩ = some (.int .u64 m) := (by rw [hb3.cell (by simp <;> omega)]; simp [go_sem]))
    refine hK.out _ _ (by first | exact hHeld | ((try dsimp only); go_keep)) (fun hHeld => ?_)
    clear hK K
    refine wpAnyH_ready (rs := [0]) (by kernel_rfl) (by simp) ?_
    refine AllReadyH.cons rfl (fun K hK => ?_) ?_
    · skip
      go_simp
      refine hK.out _ _ (by first | exact hHeld | ((try dsimp only); go_keep)) (fun hHeld => ?_)
      clear hK K
      refine wpAnyH_take (i := 4) (v := .pointer (some ⟨w3.heap.size, 0, none⟩)) rfl (by kernel_rfl) (by kernel_rfl) (by kernel_rfl) (fun _ _ _ h => h) (Or.inl ⟨by rfl, fun w' hSw => by (try dsimp only at hSw); go_simp <;> first | with_reducible rfl | rfl | omega⟩) (by assumption) ?_
      (try simp only [Act.put, List.setIfInBounds_toArray])
      refine wpAnyH_ready (rs := [5]) (by kernel_rfl) (by simp) ?_
      refine AllReadyH.cons rfl (fun K hK => ?_) ?_
      · skip
        go_simp
        refine hK.out _ _ (by first | exact hHeld | ((try dsimp only); go_keep)) (fun hHeld => ?_)
        clear hK K
        refine wpAnyH_ready (rs := [9]) (by kernel_rfl) (by simp) ?_
        refine AllReadyH.cons rfl (fun K hK => ?_) ?_
        · skip
          go_simp
          refine hK.out _ _ (by first | exact hHeld | ((try dsimp only); go_keep)) (fun hHeld => ?_)
          clear hK K
          refine wpAnyH_ready (rs := [10]) (by kernel_rfl) (by simp) ?_
          refine AllReadyH.cons rfl (fun K hK => ?_) ?_
          · skip
            go_simp
            refine hK.out _ _ (by first | exact hHeld | ((try dsimp only); go_keep)) (fun hHeld => ?_)
            clear hK K
            refine wpAnyH_done (by kernel_rfl) ?_ _
            go_wp2_with fail
            go_ret
            exact ⟨rfl, ((((Below.refl _ _).alloc (Nat.le_refl _) _).drew).trans (hb3.mono (by show w.heap.size ≤ (w.heap.push _).size; simp))).alloc (by have := hb3.size; simp at this; omega) _⟩
          exact AllReadyH.nil
        exact AllReadyH.nil
      exact AllReadyH.nil
    exact AllReadyH.nil
  exact AllReadyH.nil
set_option maxRecDepth 100000 in
set_option maxHeartbeats 1000000 in
theorem l3Text_5 (m : Nat) (s D : ByteArray) (w : World) (hm : m < 18446744073709551616) (hDs : D.size ≤ 20) (hc : ∀ w, Calls Tryd.prog 18 #[.int .u64 m] w fun e w' => e = .returned (.string D) ∧ Below w.heap.size w w') :
    Calls Tryd.prog 11 #[.agg #[.int .i64 5, .int .u64 m, .string s]] w fun e w' => e = .returned (.string ((⟨#[108]⟩ : ByteArray) ++ D)) ∧ Below w.heap.size w w' := by
  have HC : Hid (∀ w, Calls Tryd.prog 18 #[.int .u64 m] w fun e w' => e = .returned (.string D) ∧ Below w.heap.size w w') := hc
  have HL : Hid (∀ w' : World, Below ((w.alloc (.cells #[.int .i64 5, .int .u64 (m : Int), .string s] 34)).alloc (.cells #[.string ⟨#[]⟩, .string ⟨#[]⟩, .string ⟨#[]⟩, .string ⟨#[]⟩, .string ⟨#[108]⟩, .string ⟨#[118]⟩, .string ⟨#[115]⟩, .string ⟨#[]⟩, .string ⟨#[99]⟩] 9)).drew.heap.size ((w.alloc (.cells #[.int .i64 5, .int .u64 (m : Int), .string s] 34)).alloc (.cells #[.string ⟨#[]⟩, .string ⟨#[]⟩, .string ⟨#[]⟩, .string ⟨#[]⟩, .string ⟨#[108]⟩, .string ⟨#[118]⟩, .string ⟨#[115]⟩, .string ⟨#[]⟩, .string ⟨#[99]⟩] 9)).drew w' → w'.cell? ⟨w.heap.size + 1, 4, none⟩ = some (.string ⟨#[108]⟩)) := fun w' hb => by
    refine lit_cell (cs := #[.string ⟨#[]⟩, .string ⟨#[]⟩, .string ⟨#[]⟩, .string ⟨#[]⟩, .string ⟨#[108]⟩, .string ⟨#[118]⟩, .string ⟨#[115]⟩, .string ⟨#[]⟩, .string ⟨#[99]⟩]) ?_ rfl
    rw [hb.block _ (by show _ < ((w.heap.push _).push _).size; simp)]
    show ((w.heap.push _).push _)[w.heap.size + 1]? = _
    rw [show w.heap.size + 1 = (w.heap.push (Obj.cells #[.int .i64 5, .int .u64 (m : Int), .string s] 34)).size by simp, Array.getElem?_push_size]
  have hD2 : ¬ (9223372036854775807 < D.size) := by omega
  have hD3 : ¬ (9223372036854775807 < 1 + D.size) := by omega
  clear hc
  go_enter Tryd.func11, Tryd.ntmps11
  go_wp2_with fail
  refine wp_region_held_drew (S := fun w' => w'.cell? ⟨w.heap.size, 0, none⟩ = some (.int .i64 5) ∧ w'.cell? ⟨w.heap.size, 1, none⟩ = some (.int .u64 (m : Int))) (by kernel_rfl) (by (try dsimp only); go_keep) (fun hHeld => ?_)
  refine wpAnyH_take (i := 1) (v := .pointer (some ⟨w.heap.size, 0, none⟩)) rfl (by kernel_rfl) (by kernel_rfl) (by kernel_rfl) (fun _ _ _ h => h) (Or.inl ⟨by rfl, fun w' hSw => by (try dsimp only at hSw); go_simp <;> first | with_reducible rfl | rfl | omega⟩) (by assumption) ?_
  (try simp only [Act.put, List.setIfInBounds_toArray])
  refine wpAnyH_take (i := 2) (v := .int .i64 5) rfl (by kernel_rfl) (by kernel_rfl) (by kernel_rfl) (fun _ _ _ h => h) (Or.inl ⟨by rfl, fun w' hSw => by (try dsimp only at hSw); go_simp <;> first | with_reducible rfl | rfl | omega⟩) (by assumption) ?_
  (try simp only [Act.put])
  refine wpAnyH_take (i := 3) (v := .int .i64 4) rfl (by kernel_rfl) (by kernel_rfl) (by kernel_rfl) (fun _ _ _ h => h) (Or.inl ⟨by rfl, fun w' hSw => by (try dsimp only at hSw); go_simp <;> first | with_reducible rfl | rfl | omega⟩) (by assumption) ?_
  (try simp only [Act.put])
  refine wpAnyH_take (i := 6) (v := .pointer (some ⟨w.heap.size, 1, none⟩)) rfl (by kernel_rfl) (by kernel_rfl) (by kernel_rfl) (fun _ _ _ h => h) (Or.inl ⟨by rfl, fun w' hSw => by (try dsimp only at hSw); go_simp <;> first | with_reducible rfl | rfl | omega⟩) (by assumption) ?_
  (try simp only [Act.put])
  refine wpAnyH_take (i := 7) (v := .int .u64 (m : Int)) rfl (by kernel_rfl) (by kernel_rfl) (by kernel_rfl) (fun _ _ _ h => h) (Or.inl ⟨by rfl, fun w' hSw => by (try dsimp only at hSw); go_simp <;> first | with_reducible rfl | rfl | omega⟩) (by assumption) ?_
  (try simp only [Act.put])
  refine wpAnyH_ready (rs := [0, 8]) (by kernel_rfl) (by simp) ?_
  refine AllReadyH.cons rfl (fun K hK => ?_) ?_
  · skip
    go_simp
    refine hK.out _ _ (by first | exact hHeld | ((try dsimp only); go_keep)) (fun hHeld => ?_)
    clear hK K
    refine wpAnyH_take (i := 4) (v := .pointer (some ⟨w.heap.size + 1, 4, none⟩)) rfl (by kernel_rfl) (by kernel_rfl) (by kernel_rfl) (fun _ _ _ h => h) (Or.inl ⟨by rfl, fun w' hSw => by (try dsimp only at hSw); go_simp <;> first | with_reducible rfl | rfl | omega⟩) (by assumption) ?_
    (try simp only [Act.put, List.setIfInBounds_toArray])
    refine wpAnyH_ready (rs := [5, 8]) (by kernel_rfl) (by simp) ?_
    refine AllReadyH.cons rfl (fun K hK => ?_) ?_
    · skip
      go_simp
      refine hK.out _ _ (by first | exact hHeld | ((try dsimp only); go_keep)) (fun hHeld => ?_)
      clear hK K
      refine wpAnyH_ready (rs := [8]) (by kernel_rfl) (by simp) ?_
      refine AllReadyH.cons rfl (fun K hK => ?_) ?_
      · skip
        go_simp
        go_wp2_with (go_at_call 18; refine (HC.out _).mono ?_; rintro e w3 ⟨rfl, hb3⟩; have q0 : w3.cell? ⟨w.heap.size, 0, none⟩ = some (.int .i64 5) := (by rw [hb3.cell (by simp <;> omega)]; simp [go_sem]); have q1 : w3.cell? ⟨w.heap.size, 1, none⟩ = some (.int .u64 m) := (by rw [hb3.cell (by simp <;> omega)]; simp [go_sem]))
        refine hK.out _ _ (by first | exact hHeld | ((try dsimp only); go_keep)) (fun hHeld => ?_)
        clear hK K
        refine wpAnyH_ready (rs := [9]) (by kernel_rfl) (by simp) ?_
        refine AllReadyH.cons rfl (fun K hK => ?_) ?_
        · skip
          go_simp
          refine hK.out _ _ (by first | exact hHeld | ((try dsimp only); go_keep)) (fun hHeld => ?_)
          clear hK K
          refine wpAnyH_ready (rs := [10]) (by kernel_rfl) (by simp) ?_
          refine AllReadyH.cons rfl (fun K hK => ?_) ?_
          · skip
            go_simp
            refine hK.out _ _ (by first | exact hHeld | ((try dsimp only); go_keep)) (fun hHeld => ?_)
            clear hK K
            refine wpAnyH_done (by kernel_rfl) ?_ _
            go_wp2_with fail
            go_ret
            exact ⟨rfl, ((((Below.refl _ _).alloc (Nat.le_refl _) _).alloc (by simp) _).drew).trans (hb3.mono (by show w.heap.size ≤ ((w.heap.push _).push _).size; simp; omega))⟩
          exact AllReadyH.nil
        exact AllReadyH.nil
      exact AllReadyH.nil
    refine AllReadyH.cons rfl (fun K hK => ?_) ?_
    · skip
      go_simp
      go_wp2_with (go_at_call 18; refine (HC.out _).mono ?_; rintro e w3 ⟨rfl, hb3⟩; have q0 : w3.cell? ⟨w.heap.size, 0, none⟩ = some (.int .i64 5) := (by rw [hb3.cell (by simp <;> omega)]; simp [go_sem]); have q1 : w3.cell? ⟨w.heap.size, 1, none⟩ = some (.int .u64 m) := (by rw [hb3.cell (by simp <;> omega)]; simp [go_sem]); have qL := HL.out _ hb3)
      refine hK.out _ _ (by first | exact hHeld | ((try dsimp only); go_keep)) (fun hHeld => ?_)
      clear hK K
      refine wpAnyH_ready (rs := [5]) (by kernel_rfl) (by simp) ?_
      refine AllReadyH.cons rfl (fun K hK => ?_) ?_
      · skip
        go_simp
        refine hK.out _ _ (by first | exact hHeld | ((try dsimp only); go_keep)) (fun hHeld => ?_)
        clear hK K
        refine wpAnyH_ready (rs := [9]) (by kernel_rfl) (by simp) ?_
        refine AllReadyH.cons rfl (fun K hK => ?_) ?_
        · skip
          go_simp
          refine hK.out _ _ (by first | exact hHeld | ((try dsimp only); go_keep)) (fun hHeld => ?_)
          clear hK K
          refine wpAnyH_ready (rs := [10]) (by kernel_rfl) (by simp) ?_
          refine AllReadyH.cons rfl (fun K hK => ?_) ?_
          · skip
            go_simp
            refine hK.out _ _ (by first | exact hHeld | ((try dsimp only); go_keep)) (fun hHeld => ?_)
            clear hK K
            refine wpAnyH_done (by kernel_rfl) ?_ _
            go_wp2_with fail
            go_ret
            exact ⟨rfl, ((((Below.refl _ _).alloc (Nat.le_refl _) _).alloc (by simp) _).drew).trans (hb3.mono (by show w.heap.size ≤ ((w.heap.push _).push _).size; simp; omega))⟩
          exact AllReadyH.nil
        exact AllReadyH.nil
      exact AllReadyH.nil
    exact AllReadyH.nil
  refine AllReadyH.cons rfl (fun K hK => ?_) ?_
  · skip
    go_simp
    go_wp2_with (go_at_call 18; refine (HC.out _).mono ?_; rintro e w3 ⟨rfl, hb3⟩; have q0 : w3.cell? ⟨w.heap.size, 0, none⟩ = some (.int .i64 5) := (by rw [hb3.cell (by simp <;> omega)]; simp [go_sem]); have q1 : w3.cell? ⟨w.heap.size, 1, none⟩ = some (.int .u64 m) := (by rw [hb3.cell (by simp <;> omega)]; simp [go_sem]))
    refine hK.out _ _ (by first | exact hHeld | ((try dsimp only); go_keep)) (fun hHeld => ?_)
    clear hK K
    refine wpAnyH_ready (rs := [0]) (by kernel_rfl) (by simp) ?_
    refine AllReadyH.cons rfl (fun K hK => ?_) ?_
    · skip
      go_simp
      refine hK.out _ _ (by first | exact hHeld | ((try dsimp only); go_keep)) (fun hHeld => ?_)
      clear hK K
      refine wpAnyH_take (i := 4) (v := .pointer (some ⟨w3.heap.size, 4, none⟩)) rfl (by kernel_rfl) (by kernel_rfl) (by kernel_rfl) (fun _ _ _ h => h) (Or.inl ⟨by rfl, fun w' hSw => by (try dsimp only at hSw); go_simp <;> first | with_reducible rfl | rfl | omega⟩) (by assumption) ?_
      (try simp only [Act.put, List.setIfInBounds_toArray])
      refine wpAnyH_ready (rs := [5]) (by kernel_rfl) (by simp) ?_
      refine AllReadyH.cons rfl (fun K hK => ?_) ?_
      · skip
        go_simp
        refine hK.out _ _ (by first | exact hHeld | ((try dsimp only); go_keep)) (fun hHeld => ?_)
        clear hK K
        refine wpAnyH_ready (rs := [9]) (by kernel_rfl) (by simp) ?_
        refine AllReadyH.cons rfl (fun K hK => ?_) ?_
        · skip
          go_simp
          refine hK.out _ _ (by first | exact hHeld | ((try dsimp only); go_keep)) (fun hHeld => ?_)
          clear hK K
          refine wpAnyH_ready (rs := [10]) (by kernel_rfl) (by simp) ?_
          refine AllReadyH.cons rfl (fun K hK => ?_) ?_
          · skip
            go_simp
            refine hK.out _ _ (by first | exact hHeld | ((try dsimp only); go_keep)) (fun hHeld => ?_)
            clear hK K
            refine wpAnyH_done (by kernel_rfl) ?_ _
            go_wp2_with fail
            go_ret
            exact ⟨rfl, ((((Below.refl _ _).alloc (Nat.le_refl _) _).drew).trans (hb3.mono (by show w.heap.size ≤ (w.heap.push _).size; simp))).alloc (by have := hb3.size; simp at this; omega) _⟩
          exact AllReadyH.nil
        exact AllReadyH.nil
      exact AllReadyH.nil
    exact AllReadyH.nil
  exact AllReadyH.nil
set_option maxRecDepth 100000 in
set_option maxHeartbeats 1000000 in
theorem l3Text_6 (m : Nat) (s D : ByteArray) (w : World) (hm : m < 18446744073709551616) (hDs : D.size ≤ 20) (hc : ∀ w, Calls Tryd.prog 18 #[.int .u64 m] w fun e w' => e = .returned (.string D) ∧ Below w.heap.size w w') :
    Calls Tryd.prog 11 #[.agg #[.int .i64 6, .int .u64 m, .string s]] w fun e w' => e = .returned (.string ((⟨#[118]⟩ : ByteArray) ++ D)) ∧ Below w.heap.size w w' := by
  have HC : Hid (∀ w, Calls Tryd.prog 18 #[.int .u64 m] w fun e w' => e = .returned (.string D) ∧ Below w.heap.size w w') := hc
  have HL : Hid (∀ w' : World, Below ((w.alloc (.cells #[.int .i64 6, .int .u64 (m : Int), .string s] 34)).alloc (.cells #[.string ⟨#[]⟩, .string ⟨#[]⟩, .string ⟨#[]⟩, .string ⟨#[]⟩, .string ⟨#[108]⟩, .string ⟨#[118]⟩, .string ⟨#[115]⟩, .string ⟨#[]⟩, .string ⟨#[99]⟩] 9)).drew.heap.size ((w.alloc (.cells #[.int .i64 6, .int .u64 (m : Int), .string s] 34)).alloc (.cells #[.string ⟨#[]⟩, .string ⟨#[]⟩, .string ⟨#[]⟩, .string ⟨#[]⟩, .string ⟨#[108]⟩, .string ⟨#[118]⟩, .string ⟨#[115]⟩, .string ⟨#[]⟩, .string ⟨#[99]⟩] 9)).drew w' → w'.cell? ⟨w.heap.size + 1, 5, none⟩ = some (.string ⟨#[118]⟩)) := fun w' hb => by
    refine lit_cell (cs := #[.string ⟨#[]⟩, .string ⟨#[]⟩, .string ⟨#[]⟩, .string ⟨#[]⟩, .string ⟨#[108]⟩, .string ⟨#[118]⟩, .string ⟨#[115]⟩, .string ⟨#[]⟩, .string ⟨#[99]⟩]) ?_ rfl
    rw [hb.block _ (by show _ < ((w.heap.push _).push _).size; simp)]
    show ((w.heap.push _).push _)[w.heap.size + 1]? = _
    rw [show w.heap.size + 1 = (w.heap.push (Obj.cells #[.int .i64 6, .int .u64 (m : Int), .string s] 34)).size by simp, Array.getElem?_push_size]
  have hD2 : ¬ (9223372036854775807 < D.size) := by omega
  have hD3 : ¬ (9223372036854775807 < 1 + D.size) := by omega
  clear hc
  go_enter Tryd.func11, Tryd.ntmps11
  go_wp2_with fail
  refine wp_region_held_drew (S := fun w' => w'.cell? ⟨w.heap.size, 0, none⟩ = some (.int .i64 6) ∧ w'.cell? ⟨w.heap.size, 1, none⟩ = some (.int .u64 (m : Int))) (by kernel_rfl) (by (try dsimp only); go_keep) (fun hHeld => ?_)
  refine wpAnyH_take (i := 1) (v := .pointer (some ⟨w.heap.size, 0, none⟩)) rfl (by kernel_rfl) (by kernel_rfl) (by kernel_rfl) (fun _ _ _ h => h) (Or.inl ⟨by rfl, fun w' hSw => by (try dsimp only at hSw); go_simp <;> first | with_reducible rfl | rfl | omega⟩) (by assumption) ?_
  (try simp only [Act.put, List.setIfInBounds_toArray])
  refine wpAnyH_take (i := 2) (v := .int .i64 6) rfl (by kernel_rfl) (by kernel_rfl) (by kernel_rfl) (fun _ _ _ h => h) (Or.inl ⟨by rfl, fun w' hSw => by (try dsimp only at hSw); go_simp <;> first | with_reducible rfl | rfl | omega⟩) (by assumption) ?_
  (try simp only [Act.put])
  refine wpAnyH_take (i := 3) (v := .int .i64 5) rfl (by kernel_rfl) (by kernel_rfl) (by kernel_rfl) (fun _ _ _ h => h) (Or.inl ⟨by rfl, fun w' hSw => by (try dsimp only at hSw); go_simp <;> first | with_reducible rfl | rfl | omega⟩) (by assumption) ?_
  (try simp only [Act.put])
  refine wpAnyH_take (i := 6) (v := .pointer (some ⟨w.heap.size, 1, none⟩)) rfl (by kernel_rfl) (by kernel_rfl) (by kernel_rfl) (fun _ _ _ h => h) (Or.inl ⟨by rfl, fun w' hSw => by (try dsimp only at hSw); go_simp <;> first | with_reducible rfl | rfl | omega⟩) (by assumption) ?_
  (try simp only [Act.put])
  refine wpAnyH_take (i := 7) (v := .int .u64 (m : Int)) rfl (by kernel_rfl) (by kernel_rfl) (by kernel_rfl) (fun _ _ _ h => h) (Or.inl ⟨by rfl, fun w' hSw => by (try dsimp only at hSw); go_simp <;> first | with_reducible rfl | rfl | omega⟩) (by assumption) ?_
  (try simp only [Act.put])
  refine wpAnyH_ready (rs := [0, 8]) (by kernel_rfl) (by simp) ?_
  refine AllReadyH.cons rfl (fun K hK => ?_) ?_
  · skip
    go_simp
    refine hK.out _ _ (by first | exact hHeld | ((try dsimp only); go_keep)) (fun hHeld => ?_)
    clear hK K
    refine wpAnyH_take (i := 4) (v := .pointer (some ⟨w.heap.size + 1, 5, none⟩)) rfl (by kernel_rfl) (by kernel_rfl) (by kernel_rfl) (fun _ _ _ h => h) (Or.inl ⟨by rfl, fun w' hSw => by (try dsimp only at hSw); go_simp <;> first | with_reducible rfl | rfl | omega⟩) (by assumption) ?_
    (try simp only [Act.put, List.setIfInBounds_toArray])
    refine wpAnyH_ready (rs := [5, 8]) (by kernel_rfl) (by simp) ?_
    refine AllReadyH.cons rfl (fun K hK => ?_) ?_
    · skip
      go_simp
      refine hK.out _ _ (by first | exact hHeld | ((try dsimp only); go_keep)) (fun hHeld => ?_)
      clear hK K
      refine wpAnyH_ready (rs := [8]) (by kernel_rfl) (by simp) ?_
      refine AllReadyH.cons rfl (fun K hK => ?_) ?_
      · skip
        go_simp
        go_wp2_with (go_at_call 18; refine (HC.out _).mono ?_; rintro e w3 ⟨rfl, hb3⟩; have q0 : w3.cell? ⟨w.heap.size, 0, none⟩ = some (.int .i64 6) := (by rw [hb3.cell (by simp <;> omega)]; simp [go_sem]); have q1 : w3.cell? ⟨w.heap.size, 1, none⟩ = some (.int .u64 m) := (by rw [hb3.cell (by simp <;> omega)]; simp [go_sem]))
        refine hK.out _ _ (by first | exact hHeld | ((try dsimp only); go_keep)) (fun hHeld => ?_)
        clear hK K
        refine wpAnyH_ready (rs := [9]) (by kernel_rfl) (by simp) ?_
        refine AllReadyH.cons rfl (fun K hK => ?_) ?_
        · skip
          go_simp
          refine hK.out _ _ (by first | exact hHeld | ((try dsimp only); go_keep)) (fun hHeld => ?_)
          clear hK K
          refine wpAnyH_ready (rs := [10]) (by kernel_rfl) (by simp) ?_
          refine AllReadyH.cons rfl (fun K hK => ?_) ?_
          · skip
            go_simp
            refine hK.out _ _ (by first | exact hHeld | ((try dsimp only); go_keep)) (fun hHeld => ?_)
            clear hK K
            refine wpAnyH_done (by kernel_rfl) ?_ _
            go_wp2_with fail
            go_ret
            exact ⟨rfl, ((((Below.refl _ _).alloc (Nat.le_refl _) _).alloc (by simp) _).drew).trans (hb3.mono (by show w.heap.size ≤ ((w.heap.push _).push _).size; simp; omega))⟩
          exact AllReadyH.nil
        exact AllReadyH.nil
      exact AllReadyH.nil
    refine AllReadyH.cons rfl (fun K hK => ?_) ?_
    · skip
      go_simp
      go_wp2_with (go_at_call 18; refine (HC.out _).mono ?_; rintro e w3 ⟨rfl, hb3⟩; have q0 : w3.cell? ⟨w.heap.size, 0, none⟩ = some (.int .i64 6) := (by rw [hb3.cell (by simp <;> omega)]; simp [go_sem]); have q1 : w3.cell? ⟨w.heap.size, 1, none⟩ = some (.int .u64 m) := (by rw [hb3.cell (by simp <;> omega)]; simp [go_sem]); have qL := HL.out _ hb3)
      refine hK.out _ _ (by first | exact hHeld | ((try dsimp only); go_keep)) (fun hHeld => ?_)
      clear hK K
      refine wpAnyH_ready (rs := [5]) (by kernel_rfl) (by simp) ?_
      refine AllReadyH.cons rfl (fun K hK => ?_) ?_
      · skip
        go_simp
        refine hK.out _ _ (by first | exact hHeld | ((try dsimp only); go_keep)) (fun hHeld => ?_)
        clear hK K
        refine wpAnyH_ready (rs := [9]) (by kernel_rfl) (by simp) ?_
        refine AllReadyH.cons rfl (fun K hK => ?_) ?_
        · skip
          go_simp
          refine hK.out _ _ (by first | exact hHeld | ((try dsimp only); go_keep)) (fun hHeld => ?_)
          clear hK K
          refine wpAnyH_ready (rs := [10]) (by kernel_rfl) (by simp) ?_
          refine AllReadyH.cons rfl (fun K hK => ?_) ?_
          · skip
            go_simp
            refine hK.out _ _ (by first | exact hHeld | ((try dsimp only); go_keep)) (fun hHeld => ?_)
            clear hK K
            refine wpAnyH_done (by kernel_rfl) ?_ _
            go_wp2_with fail
            go_ret
            exact ⟨rfl, ((((Below.refl _ _).alloc (Nat.le_refl _) _).alloc (by simp) _).drew).trans (hb3.mono (by show w.heap.size ≤ ((w.heap.push _).push _).size; simp; omega))⟩
          exact AllReadyH.nil
        exact AllReadyH.nil
      exact AllReadyH.nil
    exact AllReadyH.nil
  refine AllReadyH.cons rfl (fun K hK => ?_) ?_
  · skip
    go_simp
    go_wp2_with (go_at_call 18; refine (HC.out _).mono ?_; rintro e w3 ⟨rfl, hb3⟩; have q0 : w3.cell? ⟨w.heap.size, 0, none⟩ = some (.int .i64 6) := (by rw [hb3.cell (by simp <;> omega)]; simp [go_sem]); have q1 : w3.cell? ⟨w.heap.size, 1, none⟩ = some (.int .u64 m) := (by rw [hb3.cell (by simp <;> omega)]; simp [go_sem]))
    refine hK.out _ _ (by first | exact hHeld | ((try dsimp only); go_keep)) (fun hHeld => ?_)
    clear hK K
    refine wpAnyH_ready (rs := [0]) (by kernel_rfl) (by simp) ?_
    refine AllReadyH.cons rfl (fun K hK => ?_) ?_
    · skip
      go_simp
      refine hK.out _ _ (by first | exact hHeld | ((try dsimp only); go_keep)) (fun hHeld => ?_)
      clear hK K
      refine wpAnyH_take (i := 4) (v := .pointer (some ⟨w3.heap.size, 5, none⟩)) rfl (by kernel_rfl) (by kernel_rfl) (by kernel_rfl) (fun _ _ _ h => h) (Or.inl ⟨by rfl, fun w' hSw => by (try dsimp only at hSw); go_simp <;> first | with_reducible rfl | rfl | omega⟩) (by assumption) ?_
      (try simp only [Act.put, List.setIfInBounds_toArray])
      refine wpAnyH_ready (rs := [5]) (by kernel_rfl) (by simp) ?_
      refine AllReadyH.cons rfl (fun K hK => ?_) ?_
      · skip
        go_simp
        refine hK.out _ _ (by first | exact hHeld | ((try dsimp only); go_keep)) (fun hHeld => ?_)
        clear hK K
        refine wpAnyH_ready (rs := [9]) (by kernel_rfl) (by simp) ?_
        refine AllReadyH.cons rfl (fun K hK => ?_) ?_
        · skip
          go_simp
          refine hK.out _ _ (by first | exact hHeld | ((try dsimp only); go_keep)) (fun hHeld => ?_)
          clear hK K
          refine wpAnyH_ready (rs := [10]) (by kernel_rfl) (by simp) ?_
          refine AllReadyH.cons rfl (fun K hK => ?_) ?_
          · skip
            go_simp
            refine hK.out _ _ (by first | exact hHeld | ((try dsimp only); go_keep)) (fun hHeld => ?_)
            clear hK K
            refine wpAnyH_done (by kernel_rfl) ?_ _
            go_wp2_with fail
            go_ret
            exact ⟨rfl, ((((Below.refl _ _).alloc (Nat.le_refl _) _).drew).trans (hb3.mono (by show w.heap.size ≤ (w.heap.push _).size; simp))).alloc (by have := hb3.size; simp at this; omega) _⟩
          exact AllReadyH.nil
        exact AllReadyH.nil
      exact AllReadyH.nil
    exact AllReadyH.nil
  exact AllReadyH.nil
set_option maxRecDepth 100000 in
set_option maxHeartbeats 1000000 in
theorem l3Text_7 (m : Nat) (s D : ByteArray) (w : World) (hm : m < 18446744073709551616) (hDs : D.size ≤ 20) (hc : ∀ w, Calls Tryd.prog 18 #[.int .u64 m] w fun e w' => e = .returned (.string D) ∧ Below w.heap.size w w') :
    Calls Tryd.prog 11 #[.agg #[.int .i64 7, .int .u64 m, .string s]] w fun e w' => e = .returned (.string ((⟨#[115]⟩ : ByteArray) ++ D)) ∧ Below w.heap.size w w' := by
  have HC : Hid (∀ w, Calls Tryd.prog 18 #[.int .u64 m] w fun e w' => e = .returned (.string D) ∧ Below w.heap.size w w') := hc
  have HL : Hid (∀ w' : World, Below ((w.alloc (.cells #[.int .i64 7, .int .u64 (m : Int), .string s] 34)).alloc (.cells #[.string ⟨#[]⟩, .string ⟨#[]⟩, .string ⟨#[]⟩, .string ⟨#[]⟩, .string ⟨#[108]⟩, .string ⟨#[118]⟩, .string ⟨#[115]⟩, .string ⟨#[]⟩, .string ⟨#[99]⟩] 9)).drew.heap.size ((w.alloc (.cells #[.int .i64 7, .int .u64 (m : Int), .string s] 34)).alloc (.cells #[.string ⟨#[]⟩, .string ⟨#[]⟩, .string ⟨#[]⟩, .string ⟨#[]⟩, .string ⟨#[108]⟩, .string ⟨#[118]⟩, .string ⟨#[115]⟩, .string ⟨#[]⟩, .string ⟨#[99]⟩] 9)).drew w' → w'.cell? ⟨w.heap.size + 1, 6, none⟩ = some (.string ⟨#[115]⟩)) := fun w' hb => by
    refine lit_cell (cs := #[.string ⟨#[]⟩, .string ⟨#[]⟩, .string ⟨#[]⟩, .string ⟨#[]⟩, .string ⟨#[108]⟩, .string ⟨#[118]⟩, .string ⟨#[115]⟩, .string ⟨#[]⟩, .string ⟨#[99]⟩]) ?_ rfl
    rw [hb.block _ (by show _ < ((w.heap.push _).push _).size; simp)]
    show ((w.heap.push _).push _)[w.heap.size + 1]? = _
    rw [show w.heap.size + 1 = (w.heap.push (Obj.cells #[.int .i64 7, .int .u64 (m : Int), .string s] 34)).size by simp, Array.getElem?_push_size]
  have hD2 : ¬ (9223372036854775807 < D.size) := by omega
  have hD3 : ¬ (9223372036854775807 < 1 + D.size) := by omega
  clear hc
  go_enter Tryd.func11, Tryd.ntmps11
  go_wp2_with fail
  refine wp_region_held_drew (S := fun w' => w'.cell? ⟨w.heap.size, 0, none⟩ = some (.int .i64 7) ∧ w'.cell? ⟨w.heap.size, 1, none⟩ = some (.int .u64 (m : Int))) (by kernel_rfl) (by (try dsimp only); go_keep) (fun hHeld => ?_)
  refine wpAnyH_take (i := 1) (v := .pointer (some ⟨w.heap.size, 0, none⟩)) rfl (by kernel_rfl) (by kernel_rfl) (by kernel_rfl) (fun _ _ _ h => h) (Or.inl ⟨by rfl, fun w' hSw => by (try dsimp only at hSw); go_simp <;> first | with_reducible rfl | rfl | omega⟩) (by assumption) ?_
  (try simp only [Act.put, List.setIfInBounds_toArray])
  refine wpAnyH_take (i := 2) (v := .int .i64 7) rfl (by kernel_rfl) (by kernel_rfl) (by kernel_rfl) (fun _ _ _ h => h) (Or.inl ⟨by rfl, fun w' hSw => by (try dsimp only at hSw); go_simp <;> first | with_reducible rfl | rfl | omega⟩) (by assumption) ?_
  (try simp only [Act.put])
  refine wpAnyH_take (i := 3) (v := .int .i64 6) rfl (by kernel_rfl) (by kernel_rfl) (by kernel_rfl) (fun _ _ _ h => h) (Or.inl ⟨by rfl, fun w' hSw => by (try dsimp only at hSw); go_simp <;> first | with_reducible rfl | rfl | omega⟩) (by assumption) ?_
  (try simp only [Act.put])
  refine wpAnyH_take (i := 6) (v := .pointer (some ⟨w.heap.size, 1, none⟩)) rfl (by kernel_rfl) (by kernel_rfl) (by kernel_rfl) (fun _ _ _ h => h) (Or.inl ⟨by rfl, fun w' hSw => by (try dsimp only at hSw); go_simp <;> first | with_reducible rfl | rfl | omega⟩) (by assumption) ?_
  (try simp only [Act.put])
  refine wpAnyH_take (i := 7) (v := .int .u64 (m : Int)) rfl (by kernel_rfl) (by kernel_rfl) (by kernel_rfl) (fun _ _ _ h => h) (Or.inl ⟨by rfl, fun w' hSw => by (try dsimp only at hSw); go_simp <;> first | with_reducible rfl | rfl | omega⟩) (by assumption) ?_
  (try simp only [Act.put])
  refine wpAnyH_ready (rs := [0, 8]) (by kernel_rfl) (by simp) ?_
  refine AllReadyH.cons rfl (fun K hK => ?_) ?_
  · skip
    go_simp
    refine hK.out _ _ (by first | exact hHeld | ((try dsimp only); go_keep)) (fun hHeld => ?_)
    clear hK K
    refine wpAnyH_take (i := 4) (v := .pointer (some ⟨w.heap.size + 1, 6, none⟩)) rfl (by kernel_rfl) (by kernel_rfl) (by kernel_rfl) (fun _ _ _ h => h) (Or.inl ⟨by rfl, fun w' hSw => by (try dsimp only at hSw); go_simp <;> first | with_reducible rfl | rfl | omega⟩) (by assumption) ?_
    (try simp only [Act.put, List.setIfInBounds_toArray])
    refine wpAnyH_ready (rs := [5, 8]) (by kernel_rfl) (by simp) ?_
    refine AllReadyH.cons rfl (fun K hK => ?_) ?_
    · skip
      go_simp
      refine hK.out _ _ (by first | exact hHeld | ((try dsimp only); go_keep)) (fun hHeld => ?_)
      clear hK K
      refine wpAnyH_ready (rs := [8]) (by kernel_rfl) (by simp) ?_
      refine AllReadyH.cons rfl (fun K hK => ?_) ?_
      · skip
        go_simp
        go_wp2_with (go_at_call 18; refine (HC.out _).mono ?_; rintro e w3 ⟨rfl, hb3⟩; have q0 : w3.cell? ⟨w.heap.size, 0, none⟩ = some (.int .i64 7) := (by rw [hb3.cell (by simp <;> omega)]; simp [go_sem]); have q1 : w3.cell? ⟨w.heap.size, 1, none⟩ = some (.int .u64 m) := (by rw [hb3.cell (by simp <;> omega)]; simp [go_sem]))
        refine hK.out _ _ (by first | exact hHeld | ((try dsimp only); go_keep)) (fun hHeld => ?_)
        clear hK K
        refine wpAnyH_ready (rs := [9]) (by kernel_rfl) (by simp) ?_
        refine AllReadyH.cons rfl (fun K hK => ?_) ?_
        · skip
          go_simp
          refine hK.out _ _ (by first | exact hHeld | ((try dsimp only); go_keep)) (fun hHeld => ?_)
          clear hK K
          refine wpAnyH_ready (rs := [10]) (by kernel_rfl) (by simp) ?_
          refine AllReadyH.cons rfl (fun K hK => ?_) ?_
          · skip
            go_simp
            refine hK.out _ _ (by first | exact hHeld | ((try dsimp only); go_keep)) (fun hHeld => ?_)
            clear hK K
            refine wpAnyH_done (by kernel_rfl) ?_ _
            go_wp2_with fail
            go_ret
            exact ⟨rfl, ((((Below.refl _ _).alloc (Nat.le_refl _) _).alloc (by simp) _).drew).trans (hb3.mono (by show w.heap.size ≤ ((w.heap.push _).push _).size; simp; omega))⟩
          exact AllReadyH.nil
        exact AllReadyH.nil
      exact AllReadyH.nil
    refine AllReadyH.cons rfl (fun K hK => ?_) ?_
    · skip
      go_simp
      go_wp2_with (go_at_call 18; refine (HC.out _).mono ?_; rintro e w3 ⟨rfl, hb3⟩; have q0 : w3.cell? ⟨w.heap.size, 0, none⟩ = some (.int .i64 7) := (by rw [hb3.cell (by simp <;> omega)]; simp [go_sem]); have q1 : w3.cell? ⟨w.heap.size, 1, none⟩ = some (.int .u64 m) := (by rw [hb3.cell (by simp <;> omega)]; simp [go_sem]); have qL := HL.out _ hb3)
      refine hK.out _ _ (by first | exact hHeld | ((try dsimp only); go_keep)) (fun hHeld => ?_)
      clear hK K
      refine wpAnyH_ready (rs := [5]) (by kernel_rfl) (by simp) ?_
      refine AllReadyH.cons rfl (fun K hK => ?_) ?_
      · skip
        go_simp
        refine hK.out _ _ (by first | exact hHeld | ((try dsimp only); go_keep)) (fun hHeld => ?_)
        clear hK K
        refine wpAnyH_ready (rs := [9]) (by kernel_rfl) (by simp) ?_
        refine AllReadyH.cons rfl (fun K hK => ?_) ?_
        · skip
          go_simp
          refine hK.out _ _ (by first | exact hHeld | ((try dsimp only); go_keep)) (fun hHeld => ?_)
          clear hK K
          refine wpAnyH_ready (rs := [10]) (by kernel_rfl) (by simp) ?_
          refine AllReadyH.cons rfl (fun K hK => ?_) ?_
          · skip
            go_simp
            refine hK.out _ _ (by first | exact hHeld | ((try dsimp only); go_keep)) (fun hHeld => ?_)
            clear hK K
            refine wpAnyH_done (by kernel_rfl) ?_ _
            go_wp2_with fail
            go_ret
            exact ⟨rfl, ((((Below.refl _ _).alloc (Nat.le_refl _) _).alloc (by simp) _).drew).trans (hb3.mono (by show w.heap.size ≤ ((w.heap.push _).push _).size; simp; omega))⟩
          exact AllReadyH.nil
        exact AllReadyH.nil
      exact AllReadyH.nil
    exact AllReadyH.nil
  refine AllReadyH.cons rfl (fun K hK => ?_) ?_
  · skip
    go_simp
    go_wp2_with (go_at_call 18; refine (HC.out _).mono ?_; rintro e w3 ⟨rfl, hb3⟩; have q0 : w3.cell? ⟨w.heap.size, 0, none⟩ = some (.int .i64 7) := (by rw [hb3.cell (by simp <;> omega)]; simp [go_sem]); have q1 : w3.cell? ⟨w.heap.size, 1, none⟩ = some (.int .u64 m) := (by rw [hb3.cell (by simp <;> omega)]; simp [go_sem]))
    refine hK.out _ _ (by first | exact hHeld | ((try dsimp only); go_keep)) (fun hHeld => ?_)
    clear hK K
    refine wpAnyH_ready (rs := [0]) (by kernel_rfl) (by simp) ?_
    refine AllReadyH.cons rfl (fun K hK => ?_) ?_
    · skip
      go_simp
      refine hK.out _ _ (by first | exact hHeld | ((try dsimp only); go_keep)) (fun hHeld => ?_)
      clear hK K
      refine wpAnyH_take (i := 4) (v := .pointer (some ⟨w3.heap.size, 6, none⟩)) rfl (by kernel_rfl) (by kernel_rfl) (by kernel_rfl) (fun _ _ _ h => h) (Or.inl ⟨by rfl, fun w' hSw => by (try dsimp only at hSw); go_simp <;> first | with_reducible rfl | rfl | omega⟩) (by assumption) ?_
      (try simp only [Act.put, List.setIfInBounds_toArray])
      refine wpAnyH_ready (rs := [5]) (by kernel_rfl) (by simp) ?_
      refine AllReadyH.cons rfl (fun K hK => ?_) ?_
      · skip
        go_simp
        refine hK.out _ _ (by first | exact hHeld | ((try dsimp only); go_keep)) (fun hHeld => ?_)
        clear hK K
        refine wpAnyH_ready (rs := [9]) (by kernel_rfl) (by simp) ?_
        refine AllReadyH.cons rfl (fun K hK => ?_) ?_
        · skip
          go_simp
          refine hK.out _ _ (by first | exact hHeld | ((try dsimp only); go_keep)) (fun hHeld => ?_)
          clear hK K
          refine wpAnyH_ready (rs := [10]) (by kernel_rfl) (by simp) ?_
          refine AllReadyH.cons rfl (fun K hK => ?_) ?_
          · skip
            go_simp
            refine hK.out _ _ (by first | exact hHeld | ((try dsimp only); go_keep)) (fun hHeld => ?_)
            clear hK K
            refine wpAnyH_done (by kernel_rfl) ?_ _
            go_wp2_with fail
            go_ret
            exact ⟨rfl, ((((Below.refl _ _).alloc (Nat.le_refl _) _).drew).trans (hb3.mono (by show w.heap.size ≤ (w.heap.push _).size; simp))).alloc (by have := hb3.size; simp at this; omega) _⟩
          exact AllReadyH.nil
        exact AllReadyH.nil
      exact AllReadyH.nil
    exact AllReadyH.nil
  exact AllReadyH.nil
set_option maxRecDepth 100000 in
set_option maxHeartbeats 1000000 in
theorem l3Text_9 (m : Nat) (s D : ByteArray) (w : World) (hm : m < 18446744073709551616) (hDs : D.size ≤ 20) (hc : ∀ w, Calls Tryd.prog 18 #[.int .u64 m] w fun e w' => e = .returned (.string D) ∧ Below w.heap.size w w') :
    Calls Tryd.prog 11 #[.agg #[.int .i64 9, .int .u64 m, .string s]] w fun e w' => e = .returned (.string ((⟨#[99]⟩ : ByteArray) ++ D)) ∧ Below w.heap.size w w' := by
  have HC : Hid (∀ w, Calls Tryd.prog 18 #[.int .u64 m] w fun e w' => e = .returned (.string D) ∧ Below w.heap.size w w') := hc
  have HL : Hid (∀ w' : World, Below ((w.alloc (.cells #[.int .i64 9, .int .u64 (m : Int), .string s] 34)).alloc (.cells #[.string ⟨#[]⟩, .string ⟨#[]⟩, .string ⟨#[]⟩, .string ⟨#[]⟩, .string ⟨#[108]⟩, .string ⟨#[118]⟩, .string ⟨#[115]⟩, .string ⟨#[]⟩, .string ⟨#[99]⟩] 9)).drew.heap.size ((w.alloc (.cells #[.int .i64 9, .int .u64 (m : Int), .string s] 34)).alloc (.cells #[.string ⟨#[]⟩, .string ⟨#[]⟩, .string ⟨#[]⟩, .string ⟨#[]⟩, .string ⟨#[108]⟩, .string ⟨#[118]⟩, .string ⟨#[115]⟩, .string ⟨#[]⟩, .string ⟨#[99]⟩] 9)).drew w' → w'.cell? ⟨w.heap.size + 1, 8, none⟩ = some (.string ⟨#[99]⟩)) := fun w' hb => by
    refine lit_cell (cs := #[.string ⟨#[]⟩, .string ⟨#[]⟩, .string ⟨#[]⟩, .string ⟨#[]⟩, .string ⟨#[108]⟩, .string ⟨#[118]⟩, .string ⟨#[115]⟩, .string ⟨#[]⟩, .string ⟨#[99]⟩]) ?_ rfl
    rw [hb.block _ (by show _ < ((w.heap.push _).push _).size; simp)]
    show ((w.heap.push _).push _)[w.heap.size + 1]? = _
    rw [show w.heap.size + 1 = (w.heap.push (Obj.cells #[.int .i64 9, .int .u64 (m : Int), .string s] 34)).size by simp, Array.getElem?_push_size]
  have hD2 : ¬ (9223372036854775807 < D.size) := by omega
  have hD3 : ¬ (9223372036854775807 < 1 + D.size) := by omega
  clear hc
  go_enter Tryd.func11, Tryd.ntmps11
  go_wp2_with fail
  refine wp_region_held_drew (S := fun w' => w'.cell? ⟨w.heap.size, 0, none⟩ = some (.int .i64 9) ∧ w'.cell? ⟨w.heap.size, 1, none⟩ = some (.int .u64 (m : Int))) (by kernel_rfl) (by (try dsimp only); go_keep) (fun hHeld => ?_)
  refine wpAnyH_take (i := 1) (v := .pointer (some ⟨w.heap.size, 0, none⟩)) rfl (by kernel_rfl) (by kernel_rfl) (by kernel_rfl) (fun _ _ _ h => h) (Or.inl ⟨by rfl, fun w' hSw => by (try dsimp only at hSw); go_simp <;> first | with_reducible rfl | rfl | omega⟩) (by assumption) ?_
  (try simp only [Act.put, List.setIfInBounds_toArray])
  refine wpAnyH_take (i := 2) (v := .int .i64 9) rfl (by kernel_rfl) (by kernel_rfl) (by kernel_rfl) (fun _ _ _ h => h) (Or.inl ⟨by rfl, fun w' hSw => by (try dsimp only at hSw); go_simp <;> first | with_reducible rfl | rfl | omega⟩) (by assumption) ?_
  (try simp only [Act.put])
  refine wpAnyH_take (i := 3) (v := .int .i64 8) rfl (by kernel_rfl) (by kernel_rfl) (by kernel_rfl) (fun _ _ _ h => h) (Or.inl ⟨by rfl, fun w' hSw => by (try dsimp only at hSw); go_simp <;> first | with_reducible rfl | rfl | omega⟩) (by assumption) ?_
  (try simp only [Act.put])
  refine wpAnyH_take (i := 6) (v := .pointer (some ⟨w.heap.size, 1, none⟩)) rfl (by kernel_rfl) (by kernel_rfl) (by kernel_rfl) (fun _ _ _ h => h) (Or.inl ⟨by rfl, fun w' hSw => by (try dsimp only at hSw); go_simp <;> first | with_reducible rfl | rfl | omega⟩) (by assumption) ?_
  (try simp only [Act.put])
  refine wpAnyH_take (i := 7) (v := .int .u64 (m : Int)) rfl (by kernel_rfl) (by kernel_rfl) (by kernel_rfl) (fun _ _ _ h => h) (Or.inl ⟨by rfl, fun w' hSw => by (try dsimp only at hSw); go_simp <;> first | with_reducible rfl | rfl | omega⟩) (by assumption) ?_
  (try simp only [Act.put])
  refine wpAnyH_ready (rs := [0, 8]) (by kernel_rfl) (by simp) ?_
  refine AllReadyH.cons rfl (fun K hK => ?_) ?_
  · skip
    go_simp
    refine hK.out _ _ (by first | exact hHeld | ((try dsimp only); go_keep)) (fun hHeld => ?_)
    clear hK K
    refine wpAnyH_take (i := 4) (v := .pointer (some ⟨w.heap.size + 1, 8, none⟩)) rfl (by kernel_rfl) (by kernel_rfl) (by kernel_rfl) (fun _ _ _ h => h) (Or.inl ⟨by rfl, fun w' hSw => by (try dsimp only at hSw); go_simp <;> first | with_reducible rfl | rfl | omega⟩) (by assumption) ?_
    (try simp only [Act.put, List.setIfInBounds_toArray])
    refine wpAnyH_ready (rs := [5, 8]) (by kernel_rfl) (by simp) ?_
    refine AllReadyH.cons rfl (fun K hK => ?_) ?_
    · skip
      go_simp
      refine hK.out _ _ (by first | exact hHeld | ((try dsimp only); go_keep)) (fun hHeld => ?_)
      clear hK K
      refine wpAnyH_ready (rs := [8]) (by kernel_rfl) (by simp) ?_
      refine AllReadyH.cons rfl (fun K hK => ?_) ?_
      · skip
        go_simp
        go_wp2_with (go_at_call 18; refine (HC.out _).mono ?_; rintro e w3 ⟨rfl, hb3⟩; have q0 : w3.cell? ⟨w.heap.size, 0, none⟩ = some (.int .i64 9) := (by rw [hb3.cell (by simp <;> omega)]; simp [go_sem]); have q1 : w3.cell? ⟨w.heap.size, 1, none⟩ = some (.int .u64 m) := (by rw [hb3.cell (by simp <;> omega)]; simp [go_sem]))
        refine hK.out _ _ (by first | exact hHeld | ((try dsimp only); go_keep)) (fun hHeld => ?_)
        clear hK K
        refine wpAnyH_ready (rs := [9]) (by kernel_rfl) (by simp) ?_
        refine AllReadyH.cons rfl (fun K hK => ?_) ?_
        · skip
          go_simp
          refine hK.out _ _ (by first | exact hHeld | ((try dsimp only); go_keep)) (fun hHeld => ?_)
          clear hK K
          refine wpAnyH_ready (rs := [10]) (by kernel_rfl) (by simp) ?_
          refine AllReadyH.cons rfl (fun K hK => ?_) ?_
          · skip
            go_simp
            refine hK.out _ _ (by first | exact hHeld | ((try dsimp only); go_keep)) (fun hHeld => ?_)
            clear hK K
            refine wpAnyH_done (by kernel_rfl) ?_ _
            go_wp2_with fail
            go_ret
            exact ⟨rfl, ((((Below.refl _ _).alloc (Nat.le_refl _) _).alloc (by simp) _).drew).trans (hb3.mono (by show w.heap.size ≤ ((w.heap.push _).push _).size; simp; omega))⟩
          exact AllReadyH.nil
        exact AllReadyH.nil
      exact AllReadyH.nil
    refine AllReadyH.cons rfl (fun K hK => ?_) ?_
    · skip
      go_simp
      go_wp2_with (go_at_call 18; refine (HC.out _).mono ?_; rintro e w3 ⟨rfl, hb3⟩; have q0 : w3.cell? ⟨w.heap.size, 0, none⟩ = some (.int .i64 9) := (by rw [hb3.cell (by simp <;> omega)]; simp [go_sem]); have q1 : w3.cell? ⟨w.heap.size, 1, none⟩ = some (.int .u64 m) := (by rw [hb3.cell (by simp <;> omega)]; simp [go_sem]); have qL := HL.out _ hb3)
      refine hK.out _ _ (by first | exact hHeld | ((try dsimp only); go_keep)) (fun hHeld => ?_)
      clear hK K
      refine wpAnyH_ready (rs := [5]) (by kernel_rfl) (by simp) ?_
      refine AllReadyH.cons rfl (fun K hK => ?_) ?_
      · skip
        go_simp
        refine hK.out _ _ (by first | exact hHeld | ((try dsimp only); go_keep)) (fun hHeld => ?_)
        clear hK K
        refine wpAnyH_ready (rs := [9]) (by kernel_rfl) (by simp) ?_
        refine AllReadyH.cons rfl (fun K hK => ?_) ?_
        · skip
          go_simp
          refine hK.out _ _ (by first | exact hHeld | ((try dsimp only); go_keep)) (fun hHeld => ?_)
          clear hK K
          refine wpAnyH_ready (rs := [10]) (by kernel_rfl) (by simp) ?_
          refine AllReadyH.cons rfl (fun K hK => ?_) ?_
          · skip
            go_simp
            refine hK.out _ _ (by first | exact hHeld | ((try dsimp only); go_keep)) (fun hHeld => ?_)
            clear hK K
            refine wpAnyH_done (by kernel_rfl) ?_ _
            go_wp2_with fail
            go_ret
            exact ⟨rfl, ((((Below.refl _ _).alloc (Nat.le_refl _) _).alloc (by simp) _).drew).trans (hb3.mono (by show w.heap.size ≤ ((w.heap.push _).push _).size; simp; omega))⟩
          exact AllReadyH.nil
        exact AllReadyH.nil
      exact AllReadyH.nil
    exact AllReadyH.nil
  refine AllReadyH.cons rfl (fun K hK => ?_) ?_
  · skip
    go_simp
    go_wp2_with (go_at_call 18; refine (HC.out _).mono ?_; rintro e w3 ⟨rfl, hb3⟩; have q0 : w3.cell? ⟨w.heap.size, 0, none⟩ = some (.int .i64 9) := (by rw [hb3.cell (by simp <;> omega)]; simp [go_sem]); have q1 : w3.cell? ⟨w.heap.size, 1, none⟩ = some (.int .u64 m) := (by rw [hb3.cell (by simp <;> omega)]; simp [go_sem]))
    refine hK.out _ _ (by first | exact hHeld | ((try dsimp only); go_keep)) (fun hHeld => ?_)
    clear hK K
    refine wpAnyH_ready (rs := [0]) (by kernel_rfl) (by simp) ?_
    refine AllReadyH.cons rfl (fun K hK => ?_) ?_
    · skip
      go_simp
      refine hK.out _ _ (by first | exact hHeld | ((try dsimp only); go_keep)) (fun hHeld => ?_)
      clear hK K
      refine wpAnyH_take (i := 4) (v := .pointer (some ⟨w3.heap.size, 8, none⟩)) rfl (by kernel_rfl) (by kernel_rfl) (by kernel_rfl) (fun _ _ _ h => h) (Or.inl ⟨by rfl, fun w' hSw => by (try dsimp only at hSw); go_simp <;> first | with_reducible rfl | rfl | omega⟩) (by assumption) ?_
      (try simp only [Act.put, List.setIfInBounds_toArray])
      refine wpAnyH_ready (rs := [5]) (by kernel_rfl) (by simp) ?_
      refine AllReadyH.cons rfl (fun K hK => ?_) ?_
      · skip
        go_simp
        refine hK.out _ _ (by first | exact hHeld | ((try dsimp only); go_keep)) (fun hHeld => ?_)
        clear hK K
        refine wpAnyH_ready (rs := [9]) (by kernel_rfl) (by simp) ?_
        refine AllReadyH.cons rfl (fun K hK => ?_) ?_
        · skip
          go_simp
          refine hK.out _ _ (by first | exact hHeld | ((try dsimp only); go_keep)) (fun hHeld => ?_)
          clear hK K
          refine wpAnyH_ready (rs := [10]) (by kernel_rfl) (by simp) ?_
          refine AllReadyH.cons rfl (fun K hK => ?_) ?_
          · skip
            go_simp
            refine hK.out _ _ (by first | exact hHeld | ((try dsimp only); go_keep)) (fun hHeld => ?_)
            clear hK K
            refine wpAnyH_done (by kernel_rfl) ?_ _
            go_wp2_with fail
            go_ret
            exact ⟨rfl, ((((Below.refl _ _).alloc (Nat.le_refl _) _).drew).trans (hb3.mono (by show w.heap.size ≤ (w.heap.push _).size; simp))).alloc (by have := hb3.size; simp at this; omega) _⟩
          exact AllReadyH.nil
        exact AllReadyH.nil
      exact AllReadyH.nil
    exact AllReadyH.nil
  exact AllReadyH.nil
set_option maxRecDepth 100000 in
set_option maxHeartbeats 2000000 in
theorem l3Text_any (x : It) (w : World) (hm : x.n < 18446744073709551616) (hs : x.s.size ≤ 1048577) (ha : aloneI x = true) : Calls Tryd.prog 11 #[.agg #[.int .i64 x.k, .int .u64 x.n, .string x.s]] w fun e w' => e = .returned (.string ⟨(itText x).toArray⟩) ∧ Below w.heap.size w w' := by
  obtain ⟨k, m, s⟩ := x
  simp only at hm hs ⊢
  obtain ⟨A, hA⟩ : ∃ A, itText ⟨k, m, s⟩ = A := ⟨_, rfl⟩
  have HA : Hid (itText ⟨k, m, s⟩ = A) := hA
  rw [hA]
  clear hA
  by_cases hk28 : k = 2 ∨ k = 8
  · have hm1 : m = 0 ∨ m = 1 := by
      unfold aloneI at ha
      rw [if_pos hk28] at ha
      simp at ha
      omega
    clear ha
    rcases hk28 with rfl | rfl <;> rcases hm1 with rfl | rfl
    all_goals
      go_enter Tryd.func11, Tryd.ntmps11
      go_wp2_with fail
      go_ret
      exact ⟨by rw [← HA.out]; try rfl, bel2 _ _ _⟩
  by_cases hk34 : k = 3 ∨ k = 4
  · obtain ⟨D, hD⟩ : ∃ D : ByteArray, (⟨(hexL s.data.toList).toArray⟩ : ByteArray) = D := ⟨_, rfl⟩
    have HC : Hid (∀ w, Calls Tryd.prog 17 #[.string s] w fun e w' => e = .returned (.string D) ∧ Below w.heap.size w w') := fun w => by have := l3Hex_any s w (by omega); rwa [hD] at this
    have hDs : D.size ≤ 2097154 := by
      rw [← hD]
      have h1 := hexL_len s.data.toList
      have h2 : s.data.toList.length = s.size := Array.length_toList
      show (hexL s.data.toList).toArray.size ≤ _
      simp only [List.size_toArray]; omega
    have HAD : Hid (k = 3 → (⟨#[98, 58]⟩ : ByteArray) ++ D = ⟨A.toArray⟩) := fun h => by
      rw [← hD, ← HA.out, h]; exact cat_mk [98, 58] _
    have HAD4 : Hid (k = 4 → (⟨#[120, 58]⟩ : ByteArray) ++ D = ⟨A.toArray⟩) := fun h => by
      rw [← hD, ← HA.out, h]; exact cat_mk [120, 58] _
    clear ha hk28 hD
    rcases hk34 with rfl | rfl
    · have H3 : Hid ((⟨#[98, 58]⟩ : ByteArray) ++ D = ⟨A.toArray⟩) := HAD.out rfl
      clear HAD HAD4
      go_enter Tryd.func11, Tryd.ntmps11
      go_wp2_with fail
      refine (HC.out _).mono ?_
      rintro e w1 ⟨rfl, hb1⟩
      go_wp2_with fail
      go_ret
      exact ⟨by rw [← H3.out]; try rfl, (bel1 _ _).trans (hb1.mono (by simp))⟩
    · have H4 : Hid ((⟨#[120, 58]⟩ : ByteArray) ++ D = ⟨A.toArray⟩) := HAD4.out rfl
      clear HAD HAD4
      go_enter Tryd.func11, Tryd.ntmps11
      go_wp2_with fail
      refine (HC.out _).mono ?_
      rintro e w1 ⟨rfl, hb1⟩
      go_wp2_with fail
      go_ret
      exact ⟨by rw [← H4.out]; try rfl, (bel1 _ _).trans (hb1.mono (by simp))⟩
  · have hk9 : k = 1 ∨ k = 5 ∨ k = 6 ∨ k = 7 ∨ k = 9 := by
      unfold aloneI at ha
      rw [if_neg hk28, if_neg hk34] at ha
      simp at ha
      omega
    obtain ⟨D, hD⟩ : ∃ D : ByteArray, (⟨(Lib.decDigits m).toArray⟩ : ByteArray) = D := ⟨_, rfl⟩
    have HC : Hid (∀ w, Calls Tryd.prog 18 #[.int .u64 m] w fun e w' => e = .returned (.string D) ∧ Below w.heap.size w w') := fun w => by have := l3Num_any m w hm; rwa [hD] at this
    have hDs : D.size ≤ 20 := by rw [← hD]; exact decDigits_len hm
    have HAD : Hid ((⟨(wordOf k).toArray⟩ : ByteArray) ++ D = ⟨A.toArray⟩) := by
      show _ = _
      rw [← hD, ← HA.out, cat_mk]
      rcases hk9 with rfl | rfl | rfl | rfl | rfl <;> rfl
    clear ha hk28 hk34 hD HA
    rcases hk9 with rfl | rfl | rfl | rfl | rfl
    · refine (l3Text_1 m s D w hm hDs HC.out).mono ?_
      rintro e w' ⟨rfl, hb⟩
      exact ⟨congrArg (fun x => Ending.returned (Value.string x)) HAD.out, hb⟩
    · refine (l3Text_5 m s D w hm hDs HC.out).mono ?_
      rintro e w' ⟨rfl, hb⟩
      exact ⟨congrArg (fun x => Ending.returned (Value.string x)) HAD.out, hb⟩
    · refine (l3Text_6 m s D w hm hDs HC.out).mono ?_
      rintro e w' ⟨rfl, hb⟩
      exact ⟨congrArg (fun x => Ending.returned (Value.string x)) HAD.out, hb⟩
    · refine (l3Text_7 m s D w hm hDs HC.out).mono ?_
      rintro e w' ⟨rfl, hb⟩
      exact ⟨congrArg (fun x => Ending.returned (Value.string x)) HAD.out, hb⟩
    · refine (l3Text_9 m s D w hm hDs HC.out).mono ?_
      rintro e w' ⟨rfl, hb⟩
      exact ⟨congrArg (fun x => Ending.returned (Value.string x)) HAD.out, hb⟩
end Go.Proofs.YtknbmheenfdebaaDoor
