/- The specification's value of a message with parts (Validators): contract. -/
import Derived.Test.YtipmckdlnipgkaaGreatDoorPVVa
import Derived.Deep.RegionHeld3
import Derived.Deep.RegionLaw
import Derived.Deep.AppendLies
import Derived.Deep.RegionWith
import Derived.Test.YtipmckdlnipgkaaGreatDoorPVSc
namespace Go.Proofs.YtipmckdlnipgkaaGreatDoor
open Go.RowKit Go.Sort
set_option linter.unusedVariables false

/-- The items of a part, of parts. -/
def itV (x : Pa) : List It := [⟨7, 2, ⟨#[]⟩⟩, ⟨4, 0, x.2⟩, ⟨1, x.1, ⟨#[]⟩⟩]
def itsV (l : List Pa) : List It := l.flatMap itV
theorem itsV_len (l : List Pa) : (itsV l).length = l.length * 3 := by
  induction l with
  | nil => rfl
  | cons x r ih => simp [itsV, itV] at ih ⊢; omega
theorem itsV_take {l : List Pa} {j : Nat} (h : j < l.length) : itsV (l.take (j + 1)) = itsV (l.take j) ++ itV l[j] := by
  unfold itsV
  rw [List.take_succ_eq_append_getElem h, List.flatMap_append]
  simp only [List.flatMap_cons, List.flatMap_nil, List.append_nil]
/-- The items of the message. -/
def hdV (u : Nat) (n : Nat) : List It := [⟨7, 2, ⟨#[]⟩⟩, ⟨1, u, ⟨#[]⟩⟩, ⟨5, n, ⟨#[]⟩⟩]
def msV (u : Nat) (l : List Pa) : List It := hdV u l.length ++ itsV l
theorem msV_wf {u : Nat} {l : List Pa} (hl : l.length ≤ 1048576) (h : smP l) (hu : u < 18446744073709551616) : ∀ x ∈ msV u l, inI x.k ∧ x.n < 18446744073709551616 ∧ x.s.size ≤ 1048577 := by
  intro x hx
  unfold msV at hx
  rcases List.mem_append.1 hx with hx | hx
  · simp only [hdV, List.mem_cons, List.not_mem_nil, or_false] at hx
    rcases hx with rfl | rfl | rfl <;> (refine ⟨?_, ?_, ?_⟩ <;> first | (unfold inI; simp; done) | (unfold inI; decide) | assumption | (simp; done) | exact Nat.zero_le _ | decide | (simp; omega))
  · obtain ⟨y, hy, hx⟩ := List.mem_flatMap.1 hx
    obtain ⟨h1, h2⟩ := h y hy
    simp only [itV, List.mem_cons, List.not_mem_nil, or_false] at hx
    rcases hx with rfl | rfl | rfl <;> (refine ⟨?_, ?_, ?_⟩ <;> first | (unfold inI; simp; done) | (unfold inI; decide) | assumption | (simp; done) | exact Nat.zero_le _ | decide | (simp; omega) | omega)
set_option maxRecDepth 100000 in
set_option maxHeartbeats 4000000 in
theorem specValidatorsValue_any (u : Nat) (l : List Pa) (v : Value) (w : World) (hu : u < 18446744073709551616) (hl : l.length ≤ 1048576) (hsm : smP l) (hv : IsV w.heap.size w v l) :
    Calls Tryz.prog 21 #[.agg #[.int .u64 u, v]] w fun e w' => (∃ v', e = .returned v' ∧ OwnIt w.heap.size w' v' (vlR 3 (msV u l))) ∧ Below w.heap.size w w' := by
  obtain ⟨i0, hi, hz0, hz1, hz2⟩ := info_parts Tryz.infoItm
  have HII : Hid (Tryz.prog.info? 69 = some i0) := hi
  have HV : Hid (IsV w.heap.size w v l) := hv
  have HSM : Hid (smP l) := hsm
  have HWF : Hid (∀ x ∈ msV u l, inI x.k ∧ x.n < 18446744073709551616 ∧ x.s.size ≤ 1048577) := msV_wf hl hsm hu
  obtain ⟨ad, C, rfl, hC, hCm, _⟩ := hv
  unfold maxLen at hCm
  obtain ⟨W, hW⟩ : ∃ W, w.alloc (.cells #[.int .u64 u, .slice ad l.length C] 52) = W := ⟨_, rfl⟩
  have hN : W.heap[w.heap.size]? = some (.cells #[.int .u64 u, .slice ad l.length C] 52 (0, 0)) := by rw [← hW]; exact heap_alloc_new w _
  have hlt : w.heap.size < W.heap.size := by rw [← hW]; simp
  have HWs : Hid (W.heap.size = w.heap.size + 1) := by show _ = _; rw [← hW]; simp
  have HBW : Hid (Below w.heap.size w W) := by show Below _ _ _; rw [← hW]; exact belA _ _
  obtain ⟨H, hH⟩ : ∃ H, w.heap.size = H := ⟨_, rfl⟩
  have HHE : Hid (w.heap.size = H) := hH
  have HK : Hid (∀ w3, Below W.heap.size W w3 → w3.cell? ⟨H, 0, none⟩ = some (.int .u64 u) ∧ w3.cell? ⟨H, 1, none⟩ = some (.slice ad l.length C)) := fun w3 hb => by
    subst hH
    have e : ∀ i, w3.cell? ⟨w.heap.size, i, none⟩ = W.cell? ⟨w.heap.size, i, none⟩ := fun i => hb.cell (p := ⟨w.heap.size, i, none⟩) hlt
    refine ⟨?_, ?_⟩ <;> (rw [e, cell_of_row _ _ _ _ _ _ hN]; rfl)
  have HDR : Hid (Below W.heap.size W W.drew) := (Below.refl _ _).drew
  have HS0 : Hid _ := HK.out W.drew HDR.out
  have HG0 : Hid (Below W.heap.size W W.drew) := HDR.out
  have HM : Hid (∀ w, Calls Tryz.prog 33 #[.int .i64 7, .int .i64 2] w fun e w' => e = .returned (.agg #[.int .i64 7, .int .u64 2, .string ⟨#[]⟩]) ∧ Below w.heap.size w w') := fun w => l10Many_any 7 2 w (by decide)
  have HML : Hid (∀ w, Calls Tryz.prog 33 #[.int .i64 5, .int .i64 (l.length : Nat)] w fun e w' => e = .returned (.agg #[.int .i64 5, .int .u64 (l.length : Nat), .string ⟨#[]⟩]) ∧ Below w.heap.size w w') := fun w => l10Many_any 5 l.length w (by omega)
  have HF0 : Hid (∀ w, Calls Tryz.prog 34 #[.int .u64 u] w fun e w' => e = .returned (.agg #[.int .i64 1, .int .u64 u, .string ⟨#[]⟩]) ∧ Below w.heap.size w w') := fun w => l10Num_any u w
  clear hN hu hsm
  go_enter Tryz.func21, Tryz.ntmps21
  go_wp2_with fail
  first | rw [hW, hH] | rw [hH] | skip
  clear hW hH
  go_region_held3 (fun W => W.cell? ⟨H, 0, none⟩ = some (.int .u64 u) ∧ W.cell? ⟨H, 1, none⟩ = some (.slice ad l.length C)) (first | exact HS0.out | exact HK.out _ (HG5.out.alloc HG5.out.size _) | exact HS5.out | exact HS4.out | exact HS3.out) (first
    | (go_at_call 33; refine (HM.out _).mono ?_; rintro e w3 ⟨rfl, hb3⟩; have HG3 : Hid (Below W.heap.size W w3) := HG0.out.trans (hb3.mono HG0.out.size); have HS3 : Hid _ := HK.out w3 HG3.out; clear hb3)
    | (go_at_call 34; refine (HF0.out _).mono ?_; rintro e w4 ⟨rfl, hb4⟩; have HG4 : Hid (Below W.heap.size W w4) := HG3.out.trans (hb4.mono HG3.out.size); have HS4 : Hid _ := HK.out w4 HG4.out; clear hb4)
    | (go_at_call 33; refine (HML.out _).mono ?_; rintro e w5 ⟨rfl, hb5⟩; have HG5 : Hid (Below W.heap.size W w5) := HG4.out.trans (hb5.mono HG4.out.size); have HS5 : Hid _ := HK.out w5 HG5.out; clear hb5))
  obtain ⟨X, hX⟩ : ∃ X, w5.alloc (.cells #[.int .i64 7, .int .u64 2, .string ⟨#[]⟩, .int .i64 1, .int .u64 u, .string ⟨#[]⟩, .int .i64 5, .int .u64 (l.length : Nat), .string ⟨#[]⟩] 69) = X := ⟨_, rfl⟩
  have HBX : Hid (Below W.heap.size W X) := by show Below _ _ _; rw [← hX]; exact HG5.out.alloc HG5.out.size _
  have HOX : Hid (OwnIt W.heap.size X (.slice (some ⟨w5.heap.size, 0, none⟩) 3 3) (hdV u l.length ++ itsV (l.take 0))) := by
    show OwnIt _ _ _ _
    rw [← hX]
    exact World.ownsRow_lit (base := W.heap.size) (e := 69) (size := 3) w5 _ 3 HG5.out.size (by simp [maxLen]) rfl
  have HD : Hid (∀ j, (hdV u l.length ++ itsV (l.take j)).length = 3 + 3 * (l.take j).length) := fun j => by rw [List.length_append, itsV_len]; show 3 + _ = _; omega
  clear HS0 HG0
  go_wp2_with fail
  try rw [hX]
  clear hX
  go_wp2_with fail
  go_loopg [3, 4] l.length (fun gk out i wr => ∃ j : Nat, j + gk = l.length ∧ i = .int .i64 j ∧ OwnIt W.heap.size wr out (hdV u l.length ++ itsV (l.take j)) ∧ Below W.heap.size W wr)
  case atStart => exact ⟨0, by omega, rfl, HOX.out, HBX.out⟩
  case round =>
    obtain ⟨j, hj', rfl, ho, hb⟩ := hrel
    have HJ : Hid (j + gk = l.length) := hj'
    have HO : Hid (OwnIt W.heap.size wr u3 (hdV u l.length ++ itsV (l.take j))) := ho
    have HB : Hid (Below W.heap.size W wr) := hb
    have hj : j ≤ l.length := by omega
    have HSr : Hid _ := HK.out wr hb
    obtain ⟨b0, b1⟩ := HSr.out
    have hHr : H < wr.heap.size := by have := hb.size; have := HWs.out; have := HHE.out; omega
    clear hj' ho
    by_cases hlt : j < l.length
    · have HLE : Hid ((hdV u l.length ++ itsV (l.take j)).length = 3 + 3 * j) := by show _ = _; rw [HD.out, List.length_take, Nat.min_eq_left hj]
      have HNX : Hid (hdV u l.length ++ itsV (l.take (j + 1)) = (hdV u l.length ++ itsV (l.take j)) ++ itV l[j]) := by show _ = _; rw [itsV_take hlt, List.append_assoc]
      obtain ⟨ad', C', hv', _, _, h0 | ⟨b, o, hb0, hbl, hcs⟩⟩ := HV.out.below (HBW.out.trans (hb.mono (by have := HWs.out; omega)))
      · omega
      cases hv'
      subst hb0
      obtain ⟨c0, c1⟩ := hcs j hlt
      have hsm2 := HSM.out l[j] (List.getElem_mem hlt)
      generalize l[j] = it at *
      obtain ⟨pn, ps⟩ := it
      obtain ⟨psz1, psz2⟩ := hsm2
      simp only at c0 c1 HNX psz1 psz2
      obtain ⟨P, hP⟩ : ∃ P, hdV u l.length ++ itsV (l.take j) = P := ⟨_, rfl⟩
      obtain ⟨P', hP'⟩ : ∃ P, hdV u l.length ++ itsV (l.take (j + 1)) = P := ⟨_, rfl⟩
      rw [hP] at HLE HNX HO
      rw [hP'] at HNX
      have HP' : Hid (hdV u l.length ++ itsV (l.take (j + 1)) = P') := hP'
      obtain ⟨ad2, cap2, hv2, q1, q2, _⟩ := HO.out.form
      obtain ⟨L, hL⟩ : ∃ L, P.length = L := ⟨_, rfl⟩
      have HLL : Hid (P.length = L) := hL
      have hLs : L ≤ 4000000 := by have := HLE.out; omega
      rw [hL] at hv2 q1
      have HV2 : Hid (u3 = .slice ad2 L cap2) := hv2
      unfold maxLen at q2
      subst hv2
      clear hcs hb hP hP' hL
      have HQ0 : Hid (∀ w, Calls Tryz.prog 33 #[.int .i64 7, .int .i64 2] w fun e w' => e = .returned (.agg #[.int .i64 7, .int .u64 2, .string ⟨#[]⟩]) ∧ Below w.heap.size w w') := fun w => l10Many_any 7 2 w (by decide)
      have HQ1 : Hid (∀ w, Calls Tryz.prog 35 #[.string ps] w fun e w' => e = .returned (.agg #[.int .i64 4, .int .u64 0, .string ps]) ∧ Below w.heap.size w w') := fun w => l10Fixed_any ps w
      have HQ2 : Hid (∀ w, Calls Tryz.prog 34 #[.int .u64 pn] w fun e w' => e = .returned (.agg #[.int .i64 1, .int .u64 pn, .string ⟨#[]⟩]) ∧ Below w.heap.size w w') := fun w => l10Num_any pn w
      have hbH : b < wr.heap.size := by have := HHE.out; omega
      have hHW : H < W.heap.size := by have := HWs.out; have := HHE.out; omega
      have hbW : b < W.heap.size := by have := HWs.out; have := HHE.out; omega
      have HT : Hid (∀ w3, Below W.heap.size wr w3 → w3.cell? ⟨H, 1, none⟩ = some (.slice (some ⟨b, o, none⟩) l.length C) ∧ w3.cell? ⟨b, o + j * 2, none⟩ = some (.string ps) ∧ w3.cell? ⟨b, o + j * 2 + 1, none⟩ = some (.int .u64 pn)) := fun w3 hb3 => ⟨by rw [hb3.cell (p := ⟨H, 1, none⟩) hHW]; exact b1, by rw [hb3.cell (p := ⟨b, o + j * 2, none⟩) hbW]; exact c0, by rw [hb3.cell (p := ⟨b, o + j * 2 + 1, none⟩) hbW]; exact c1⟩
      have HS20 : Hid _ := HT.out wr.drew ((Below.refl _ _).drew)
      have HG20 : Hid (Below wr.heap.size wr wr.drew) := (Below.refl _ _).drew
      have HOW : Hid (∀ w3, Below wr.heap.size wr w3 → w3.ownsRow W.heap.size 69 3 (.slice ad2 L cap2) L (flatI P)) := fun w3 h3 => by have h := HO.out.kept h3; unfold OwnIt at h; rw [HLL.out] at h; exact h
      go_wp2_with fail
      clear b0 b1 c0 c1
      go_region_held3 (fun W => W.cell? ⟨H, 1, none⟩ = some (.slice (some ⟨b, o, none⟩) l.length C) ∧ W.cell? ⟨b, o + j * 2, none⟩ = some (.string ps) ∧ W.cell? ⟨b, o + j * 2 + 1, none⟩ = some (.int .u64 pn)) (first | exact HS20.out | exact HS77.out | exact HT.out _ ((HG23.out.mono HB.out.size).alloc (Nat.le_trans HB.out.size HG23.out.size) _) | exact HS23.out | exact HS22.out | exact HS21.out) (first
        | (go_at_call 33; refine (HQ0.out _).mono ?_; rintro e w21 ⟨rfl, hb21⟩; have HG21 : Hid (Below wr.heap.size wr w21) := HG20.out.trans (hb21.mono HG20.out.size); have HS21 : Hid _ := HT.out w21 (HG21.out.mono HB.out.size); clear hb21)
        | (go_at_call 35; refine (HQ1.out _).mono ?_; rintro e w22 ⟨rfl, hb22⟩; have HG22 : Hid (Below wr.heap.size wr w22) := HG21.out.trans (hb22.mono HG21.out.size); have HS22 : Hid _ := HT.out w22 (HG22.out.mono HB.out.size); clear hb22)
        | (go_at_call 34; refine (HQ2.out _).mono ?_; rintro e w23 ⟨rfl, hb23⟩; have HG23 : Hid (Below wr.heap.size wr w23) := HG22.out.trans (hb23.mono HG22.out.size); have HS23 : Hid _ := HT.out w23 (HG23.out.mono HB.out.size); clear hb23)
        | (refine step_append_lies _ rfl (.tmp 21) (.tmp 37) 26 rfl W.heap.size 69 i0 (.agg #[.int .i64 0, .int .u64 0, .string ByteArray.empty]) 3 32 Tryz.underlying26 HII.out hz0 hz1 hz2 rfl (by decide) (.slice ad2 L cap2) L (flatI P) (by simp [Act.eval]) ((HOW.out w23 HG23.out).alloc _) ⟨w23.heap.size, 0, none⟩ 3 3 (flatI [⟨7, 2, ⟨#[]⟩⟩, ⟨4, 0, ps⟩, ⟨1, pn, ⟨#[]⟩⟩]) (by simp [Act.eval]) rfl (World.news_of_block (heap_alloc_new w23 _)) (flatI_one _) (by omega) (by unfold maxLen; omega) (by omega) (by have := HB.out.size; have := HG23.out.size; simp; omega) (w23.heap.size + 1) (by simp) ?_; intro g cap7 w7 hown hgrow hat hlt7; have HS77 : Hid _ := HT.out w7 (((HG23.out.mono HB.out.size).alloc (Nat.le_trans HB.out.size HG23.out.size) _).grown hgrow (by have := HB.out.size; have := HG23.out.size; simp; omega) (fun q hq => (World.ownsRow.lt HO.out q hq).1))))
      have HX7 : Hid (OwnIt W.heap.size w7 (.slice (some ⟨g, 0, none⟩) (L + 3) cap7) P') := by
        show OwnIt _ _ _ _
        rw [HNX.out]
        unfold OwnIt
        rw [flatI_app, List.length_append, HLL.out]
        exact hown
      have HBL : Hid (Below W.heap.size W w23) := HB.out.trans (HG23.out.mono HB.out.size)
      have HB7 : Hid (Below W.heap.size W w7) := (HBL.out.alloc HBL.out.size _).grown hgrow (by have := HBL.out.size; simp; omega) (fun q hq => (World.ownsRow.lt HO.out q hq).1)
      clear hown hgrow hat hlt7
      go_wp2_with fail
      go_roundg (gk - 1)
      case rel => exact ⟨j + 1, by have := HJ.out; omega, by go_num, by rw [HP'.out]; exact HX7.out, HB7.out⟩
      case measure => have := HJ.out; omega
    · have e1 : j = l.length := by omega
      subst e1
      rw [List.take_length] at HO
      have HBR : Hid (Below w.heap.size w wr) := HBW.out.trans (hb.mono (by have := HWs.out; omega))
      have HML2 : Hid ((msV u l).length ≤ 4000000) := by show _ ≤ _; have := HD.out l.length; rw [List.take_length] at this; unfold msV; omega
      have HC : Hid (Calls Tryz.prog 32 #[.int .i64 3, u3] wr fun e w' => (∃ v', e = .returned v' ∧ OwnIt W.heap.size w' v' (vlR 3 (msV u l))) ∧ Below wr.heap.size wr w') := l10Of_all 3 (msV u l) W.heap.size u3 wr (by have := hb.size; omega) HO.out HML2.out (fun _ => HWF.out)
      clear hlt hb
      go_wp2_with fail
      refine Calls.mono HC.out ?_
      rintro e w8 ⟨⟨v8, rfl, ho8⟩, hb8⟩
      have HF8 : Hid ((∃ v', Ending.returned v8 = .returned v' ∧ OwnIt w.heap.size w8 v' (vlR 3 (msV u l))) ∧ Below w.heap.size w w8) := ⟨⟨v8, rfl, own_downI ho8 (by have := HWs.out; omega)⟩, HBR.out.trans (hb8.mono HBR.out.size)⟩
      clear ho8 hb8
      go_wp2_with fail
      go_ret
      exact HF8.out
end Go.Proofs.YtipmckdlnipgkaaGreatDoor
