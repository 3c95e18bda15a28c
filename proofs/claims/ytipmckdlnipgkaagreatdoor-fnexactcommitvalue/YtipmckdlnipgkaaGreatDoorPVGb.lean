/- The specification's value of a message with parts (Commit): contract. -/
import Derived.Test.YtipmckdlnipgkaaGreatDoorPVGa
import Derived.Deep.RegionHeld3
import Derived.Deep.RegionLaw
import Derived.Deep.AppendLies
import Derived.Deep.RegionWith
import Derived.Test.YtipmckdlnipgkaaGreatDoorPVSc
namespace Go.Proofs.YtipmckdlnipgkaaGreatDoor
open Go.RowKit Go.Sort
set_option linter.unusedVariables false

/-- The items of a part, of parts. -/
def itG (x : Pa) : List It := [⟨7, 2, ⟨#[]⟩⟩, ⟨1, x.1, ⟨#[]⟩⟩, ⟨4, 0, x.2⟩]
def itsG (l : List Pa) : List It := l.flatMap itG
theorem itsG_len (l : List Pa) : (itsG l).length = l.length * 3 := by
  induction l with
  | nil => rfl
  | cons x r ih => simp [itsG, itG] at ih ⊢; omega
theorem itsG_take {l : List Pa} {j : Nat} (h : j < l.length) : itsG (l.take (j + 1)) = itsG (l.take j) ++ itG l[j] := by
  unfold itsG
  rw [List.take_succ_eq_append_getElem h, List.flatMap_append]
  simp only [List.flatMap_cons, List.flatMap_nil, List.append_nil]
/-- The items of the message. -/
def hdG (u : Nat) (t : Nat) (zz : ByteArray) (n : Nat) : List It := [⟨7, 4, ⟨#[]⟩⟩, ⟨1, u, ⟨#[]⟩⟩, ⟨1, t, ⟨#[]⟩⟩, ⟨4, 0, zz⟩, ⟨5, n, ⟨#[]⟩⟩]
def msG (u : Nat) (t : Nat) (zz : ByteArray) (l : List Pa) : List It := hdG u t zz l.length ++ itsG l
theorem msG_wf {u : Nat} {t : Nat} {zz : ByteArray} {l : List Pa} (hl : l.length ≤ 1048576) (h : smP l) (hu : u < 18446744073709551616) (ht : t < 18446744073709551616) (hzz : zz.size ≤ 1048577) : ∀ x ∈ msG u t zz l, inI x.k ∧ x.n < 18446744073709551616 ∧ x.s.size ≤ 1048577 := by
  intro x hx
  unfold msG at hx
  rcases List.mem_append.1 hx with hx | hx
  · simp only [hdG, List.mem_cons, List.not_mem_nil, or_false] at hx
    rcases hx with rfl | rfl | rfl | rfl | rfl <;> (refine ⟨?_, ?_, ?_⟩ <;> first | (unfold inI; simp; done) | (unfold inI; decide) | assumption | (simp; done) | exact Nat.zero_le _ | decide | (simp; omega))
  · obtain ⟨y, hy, hx⟩ := List.mem_flatMap.1 hx
    obtain ⟨h1, h2⟩ := h y hy
    simp only [itG, List.mem_cons, List.not_mem_nil, or_false] at hx
    rcases hx with rfl | rfl | rfl <;> (refine ⟨?_, ?_, ?_⟩ <;> first | (unfold inI; simp; done) | (unfold inI; decide) | assumption | (simp; done) | exact Nat.zero_le _ | decide | (simp; omega) | omega)
set_option maxRecDepth 100000 in
set_option maxHeartbeats 4000000 in
theorem specCommitValue_any (u : Nat) (t : Nat) (zz : ByteArray) (l : List Pa) (v : Value) (w : World) (hu : u < 18446744073709551616) (ht : t < 18446744073709551616) (hzz : zz.size ≤ 1048577) (hl : l.length ≤ 1048576) (hsm : smP l) (hv : IsG w.heap.size w v l) :
    Calls Tryz.prog 15 #[.agg #[.int .u64 u, .int .u64 t, .string zz, v]] w fun e w' => (∃ v', e = .returned v' ∧ OwnIt w.heap.size w' v' (vlR 2 (msG u t zz l))) ∧ Below w.heap.size w w' := by
  obtain ⟨i0, hi, hz0, hz1, hz2⟩ := info_parts Tryz.infoItm
  have HII : Hid (Tryz.prog.info? 69 = some i0) := hi
  have HV : Hid (IsG w.heap.size w v l) := hv
  have HSM : Hid (smP l) := hsm
  have HWF : Hid (∀ x ∈ msG u t zz l, inI x.k ∧ x.n < 18446744073709551616 ∧ x.s.size ≤ 1048577) := msG_wf hl hsm hu ht hzz
  obtain ⟨ad, C, rfl, hC, hCm, _⟩ := hv
  unfold maxLen at hCm
  obtain ⟨W, hW⟩ : ∃ W, w.alloc (.cells #[.int .u64 u, .int .u64 t, .string zz, .slice ad l.length C] 40) = W := ⟨_, rfl⟩
  have hN : W.heap[w.heap.size]? = some (.cells #[.int .u64 u, .int .u64 t, .string zz, .slice ad l.length C] 40 (0, 0)) := by rw [← hW]; exact heap_alloc_new w _
  have hlt : w.heap.size < W.heap.size := by rw [← hW]; simp
  have HWs : Hid (W.heap.size = w.heap.size + 1) := by show _ = _; rw [← hW]; simp
  have HBW : Hid (Below w.heap.size w W) := by show Below _ _ _; rw [← hW]; exact belA _ _
  obtain ⟨H, hH⟩ : ∃ H, w.heap.size = H := ⟨_, rfl⟩
  have HHE : Hid (w.heap.size = H) := hH
  have HK : Hid (∀ w3, Below W.heap.size W w3 → w3.cell? ⟨H, 0, none⟩ = some (.int .u64 u) ∧ w3.cell? ⟨H, 1, none⟩ = some (.int .u64 t) ∧ w3.cell? ⟨H, 2, none⟩ = some (.string zz) ∧ w3.cell? ⟨H, 3, none⟩ = some (.slice ad l.length C)) := fun w3 hb => by
    subst hH
    have e : ∀ i, w3.cell? ⟨w.heap.size, i, none⟩ = W.cell? ⟨w.heap.size, i, none⟩ := fun i => hb.cell (p := ⟨w.heap.size, i, none⟩) hlt
    refine ⟨?_, ?_, ?_, ?_⟩ <;> (rw [e, cell_of_row _ _ _ _ _ _ hN]; rfl)
  have HDR : Hid (Below W.heap.size W W.drew) := (Below.refl _ _).drew
  have HS0 : Hid _ := HK.out W.drew HDR.out
  have HG0 : Hid (Below W.heap.size W W.drew) := HDR.out
  have HM : Hid (∀ w, Calls Tryz.prog 33 #[.int .i64 7, .int .i64 4] w fun e w' => e = .returned (.agg #[.int .i64 7, .int .u64 4, .string ⟨#[]⟩]) ∧ Below w.heap.size w w') := fun w => l10Many_any 7 4 w (by decide)
  have HML : Hid (∀ w, Calls Tryz.prog 33 #[.int .i64 5, .int .i64 (l.length : Nat)] w fun e w' => e = .returned (.agg #[.int .i64 5, .int .u64 (l.length : Nat), .string ⟨#[]⟩]) ∧ Below w.heap.size w w') := fun w => l10Many_any 5 l.length w (by omega)
  have HF0 : Hid (∀ w, Calls Tryz.prog 34 #[.int .u64 u] w fun e w' => e = .returned (.agg #[.int .i64 1, .int .u64 u, .string ⟨#[]⟩]) ∧ Below w.heap.size w w') := fun w => l10Num_any u w
  have HF1 : Hid (∀ w, Calls Tryz.prog 34 #[.int .u64 t] w fun e w' => e = .returned (.agg #[.int .i64 1, .int .u64 t, .string ⟨#[]⟩]) ∧ Below w.heap.size w w') := fun w => l10Num_any t w
  have HF2 : Hid (∀ w, Calls Tryz.prog 35 #[.string zz] w fun e w' => e = .returned (.agg #[.int .i64 4, .int .u64 0, .string zz]) ∧ Below w.heap.size w w') := fun w => l10Fixed_any zz w
  clear hN hu ht hzz hsm
  go_enter Tryz.func15, Tryz.ntmps15
  go_wp2_with fail
  first | rw [hW, hH] | rw [hH] | skip
  clear hW hH
  go_region_held3 (fun W => W.cell? ⟨H, 0, none⟩ = some (.int .u64 u) ∧ W.cell? ⟨H, 1, none⟩ = some (.int .u64 t) ∧ W.cell? ⟨H, 2, none⟩ = some (.string zz) ∧ W.cell? ⟨H, 3, none⟩ = some (.slice ad l.length C)) (first | exact HS0.out | exact HK.out _ (HG7.out.alloc HG7.out.size _) | exact HS7.out | exact HS6.out | exact HS5.out | exact HS4.out | exact HS3.out) (first
    | (go_at_call 33; refine (HM.out _).mono ?_; rintro e w3 ⟨rfl, hb3⟩; have HG3 : Hid (Below W.heap.size W w3) := HG0.out.trans (hb3.mono HG0.out.size); have HS3 : Hid _ := HK.out w3 HG3.out; clear hb3)
    | (go_at_call 34; refine (HF0.out _).mono ?_; rintro e w4 ⟨rfl, hb4⟩; have HG4 : Hid (Below W.heap.size W w4) := HG3.out.trans (hb4.mono HG3.out.size); have HS4 : Hid _ := HK.out w4 HG4.out; clear hb4)
    | (go_at_call 34; refine (HF1.out _).mono ?_; rintro e w5 ⟨rfl, hb5⟩; have HG5 : Hid (Below W.heap.size W w5) := HG4.out.trans (hb5.mono HG4.out.size); have HS5 : Hid _ := HK.out w5 HG5.out; clear hb5)
    | (go_at_call 35; refine (HF2.out _).mono ?_; rintro e w6 ⟨rfl, hb6⟩; have HG6 : Hid (Below W.heap.size W w6) := HG5.out.trans (hb6.mono HG5.out.size); have HS6 : Hid _ := HK.out w6 HG6.out; clear hb6)
    | (go_at_call 33; refine (HML.out _).mono ?_; rintro e w7 ⟨rfl, hb7⟩; have HG7 : Hid (Below W.heap.size W w7) := HG6.out.trans (hb7.mono HG6.out.size); have HS7 : Hid _ := HK.out w7 HG7.out; clear hb7))
  obtain ⟨X, hX⟩ : ∃ X, w7.alloc (.cells #[.int .i64 7, .int .u64 4, .string ⟨#[]⟩, .int .i64 1, .int .u64 u, .string ⟨#[]⟩, .int .i64 1, .int .u64 t, .string ⟨#[]⟩, .int .i64 4, .int .u64 0, .string zz, .int .i64 5, .int .u64 (l.length : Nat), .string ⟨#[]⟩] 69) = X := ⟨_, rfl⟩
  have HBX : Hid (Below W.heap.size W X) := by show Below _ _ _; rw [← hX]; exact HG7.out.alloc HG7.out.size _
  have HOX : Hid (OwnIt W.heap.size X (.slice (some ⟨w7.heap.size, 0, none⟩) 5 5) (hdG u t zz l.length ++ itsG (l.take 0))) := by
    show OwnIt _ _ _ _
    rw [← hX]
    exact World.ownsRow_lit (base := W.heap.size) (e := 69) (size := 3) w7 _ 5 HG7.out.size (by simp [maxLen]) rfl
  have HD : Hid (∀ j, (hdG u t zz l.length ++ itsG (l.take j)).length = 5 + 3 * (l.take j).length) := fun j => by rw [List.length_append, itsG_len]; show 5 + _ = _; omega
  clear HS0 HG0
  go_wp2_with fail
  try rw [hX]
  clear hX
  go_wp2_with fail
  go_loopg [3, 4] l.length (fun gk out i wr => ∃ j : Nat, j + gk = l.length ∧ i = .int .i64 j ∧ OwnIt W.heap.size wr out (hdG u t zz l.length ++ itsG (l.take j)) ∧ Below W.heap.size W wr)
  case atStart => exact ⟨0, by omega, rfl, HOX.out, HBX.out⟩
  case round =>
    obtain ⟨j, hj', rfl, ho, hb⟩ := hrel
    have HJ : Hid (j + gk = l.length) := hj'
    have HO : Hid (OwnIt W.heap.size wr u3 (hdG u t zz l.length ++ itsG (l.take j))) := ho
    have HB : Hid (Below W.heap.size W wr) := hb
    have hj : j ≤ l.length := by omega
    have HSr : Hid _ := HK.out wr hb
    obtain ⟨b0, b1, b2, b3⟩ := HSr.out
    have hHr : H < wr.heap.size := by have := hb.size; have := HWs.out; have := HHE.out; omega
    clear hj' ho
    by_cases hlt : j < l.length
    · have HLE : Hid ((hdG u t zz l.length ++ itsG (l.take j)).length = 5 + 3 * j) := by show _ = _; rw [HD.out, List.length_take, Nat.min_eq_left hj]
      have HNX : Hid (hdG u t zz l.length ++ itsG (l.take (j + 1)) = (hdG u t zz l.length ++ itsG (l.take j)) ++ itG l[j]) := by show _ = _; rw [itsG_take hlt, List.append_assoc]
      obtain ⟨ad', C', hv', _, _, h0 | ⟨b, o, hb0, hbl, hcs⟩⟩ := HV.out.below (HBW.out.trans (hb.mono (by have := HWs.out; omega)))
      · omega
      cases hv'
      subst hb0
      obtain ⟨c0, c1⟩ := hcs j hlt
      have hsm2 := HSM.out l[j] (List.getElem_mem hlt)
      generalize l[j] = it at *
      obtain ⟨pn, ps⟩ := it
      obtain ⟨psz1, psz2⟩ := hsm2
      simp only at c0 c1 HNX psz1 psz2
      obtain ⟨P, hP⟩ : ∃ P, hdG u t zz l.length ++ itsG (l.take j) = P := ⟨_, rfl⟩
      obtain ⟨P', hP'⟩ : ∃ P, hdG u t zz l.length ++ itsG (l.take (j + 1)) = P := ⟨_, rfl⟩
      rw [hP] at HLE HNX HO
      rw [hP'] at HNX
      have HP' : Hid (hdG u t zz l.length ++ itsG (l.take (j + 1)) = P') := hP'
      obtain ⟨ad2, cap2, hv2, q1, q2, _⟩ := HO.out.form
      obtain ⟨L, hL⟩ : ∃ L, P.length = L := ⟨_, rfl⟩
      have HLL : Hid (P.length = L) := hL
      have hLs : L ≤ 4000000 := by have := HLE.out; omega
      rw [hL] at hv2 q1
      have HV2 : Hid (u3 = .slice ad2 L cap2) := hv2
      unfold maxLen at q2
      subst hv2
      clear hcs hb hP hP' hL
      have HQ0 : Hid (∀ w, Calls Tryz.prog 33 #[.int .i64 7, .int .i64 2] w fun e w' => e = .returned (.agg #[.int .i64 7, .int .u64 2, .string ⟨#[]⟩]) ∧ Below w.heap.size w w') := fun w => l10Many_any 7 2 w (by decide)
      have HQ1 : Hid (∀ w, Calls Tryz.prog 34 #[.int .u64 pn] w fun e w' => e = .returned (.agg #[.int .i64 1, .int .u64 pn, .string ⟨#[]⟩]) ∧ Below w.heap.size w w') := fun w => l10Num_any pn w
      have HQ2 : Hid (∀ w, Calls Tryz.prog 35 #[.string ps] w fun e w' => e = .returned (.agg #[.int .i64 4, .int .u64 0, .string ps]) ∧ Below w.heap.size w w') := fun w => l10Fixed_any ps w
      have hbH : b < wr.heap.size := by have := HHE.out; omega
      have hHW : H < W.heap.size := by have := HWs.out; have := HHE.out; omega
      have hbW : b < W.heap.size := by have := HWs.out; have := HHE.out; omega
      have HT : Hid (∀ w3, Below W.heap.size wr w3 → w3.cell? ⟨H, 3, none⟩ = some (.slice (some ⟨b, o, none⟩) l.length C) ∧ w3.cell? ⟨b, o + j * 2, none⟩ = some (.int .u64 pn) ∧ w3.cell? ⟨b, o + j * 2 + 1, none⟩ = some (.string ps)) := fun w3 hb3 => ⟨by rw [hb3.cell (p := ⟨H, 3, none⟩) hHW]; exact b3, by rw [hb3.cell (p := ⟨b, o + j * 2, none⟩) hbW]; exact c0, by rw [hb3.cell (p := ⟨b, o + j * 2 + 1, none⟩) hbW]; exact c1⟩
      have HS20 : Hid _ := HT.out wr.drew ((Below.refl _ _).drew)
      have HG20 : Hid (Below wr.heap.size wr wr.drew) := (Below.refl _ _).drew
      have HOW : Hid (∀ w3, Below wr.heap.size wr w3 → w3.ownsRow W.heap.size 69 3 (.slice ad2 L cap2) L (flatI P)) := fun w3 h3 => by have h := HO.out.kept h3; unfold OwnIt at h; rw [HLL.out] at h; exact h
      go_wp2_with fail
      clear b0 b1 b2 b3 c0 c1
      go_region_held3 (fun W => W.cell? ⟨H, 3, none⟩ = some (.slice (some ⟨b, o, none⟩) l.length C) ∧ W.cell? ⟨b, o + j * 2, none⟩ = some (.int .u64 pn) ∧ W.cell? ⟨b, o + j * 2 + 1, none⟩ = some (.string ps)) (first | exact HS20.out | exact HS77.out | exact HT.out _ ((HG23.out.mono HB.out.size).alloc (Nat.le_trans HB.out.size HG23.out.size) _) | exact HS23.out | exact HS22.out | exact HS21.out) (first
        | (go_at_call 33; refine (HQ0.out _).mono ?_; rintro e w21 ⟨rfl, hb21⟩; have HG21 : Hid (Below wr.heap.size wr w21) := HG20.out.trans (hb21.mono HG20.out.size); have HS21 : Hid _ := HT.out w21 (HG21.out.mono HB.out.size); clear hb21)
        | (go_at_call 34; refine (HQ1.out _).mono ?_; rintro e w22 ⟨rfl, hb22⟩; have HG22 : Hid (Below wr.heap.size wr w22) := HG21.out.trans (hb22.mono HG21.out.size); have HS22 : Hid _ := HT.out w22 (HG22.out.mono HB.out.size); clear hb22)
        | (go_at_call 35; refine (HQ2.out _).mono ?_; rintro e w23 ⟨rfl, hb23⟩; have HG23 : Hid (Below wr.heap.size wr w23) := HG22.out.trans (hb23.mono HG22.out.size); have HS23 : Hid _ := HT.out w23 (HG23.out.mono HB.out.size); clear hb23)
        | (refine step_append_lies _ rfl (.tmp 27) (.tmp 43) 26 rfl W.heap.size 69 i0 (.agg #[.int .i64 0, .int .u64 0, .string ByteArray.empty]) 3 32 Tryz.underlying26 HII.out hz0 hz1 hz2 rfl (by decide) (.slice ad2 L cap2) L (flatI P) (by simp [Act.eval]) ((HOW.out w23 HG23.out).alloc _) ⟨w23.heap.size, 0, none⟩ 3 3 (flatI [⟨7, 2, ⟨#[]⟩⟩, ⟨1, pn, ⟨#[]⟩⟩, ⟨4, 0, ps⟩]) (by simp [Act.eval]) rfl (World.news_of_block (heap_alloc_new w23 _)) (flatI_one _) (by omega) (by unfold maxLen; omega) (by omega) (by have := HB.out.size; have := HG23.out.size; simp; omega) (w23.heap.size + 1) (by simp) ?_; intro g cap7 w7 hown hgrow hat hlt7; have HS77 : Hid _ := HT.out w7 (((HG23.out.mono HB.out.size).alloc (Nat.le_trans HB.out.size HG23.out.size) _).grown hgrow (by have := HB.out.size; have := HG23.out.size; simp; omega) (fun q hq => (World.ownsRow.lt HO.out q hq).1))))
      have HX7 : Hid (OwnIt W.heap.size w7 (.slice (some ⟨g, 0, none⟩) (L + 3) cap7) P') := by
        show OwnIt _ _ _ _
        rw [HNX.out]
        unfold OwnIt
        rw [flatI_app, List.length_append, HLL.out]
        exact hown
      have HBL : Hid (Below W.heap.size W w23) := HB.out.trans (HG23.out.mono HB.out.size)
      have HB7 : Hid (Below W.heap.size W w7) := (HBL.out.alloc HBL.out.size _).grown hgrow (by have := HBL.out.size; simp; omega) (fun q hq => (World.ownsRow.lt HO.out q hq).1)
      clear hown hgrow hat hlt7
      go_wp2_with fail
      go_roundg (gk - 1)
      case rel => exact ⟨j + 1, by have := HJ.out; omega, by go_num, by rw [HP'.out]; exact HX7.out, HB7.out⟩
      case measure => have := HJ.out; omega
    · have e1 : j = l.length := by omega
      subst e1
      rw [List.take_length] at HO
      have HBR : Hid (Below w.heap.size w wr) := HBW.out.trans (hb.mono (by have := HWs.out; omega))
      have HML2 : Hid ((msG u t zz l).length ≤ 4000000) := by show _ ≤ _; have := HD.out l.length; rw [List.take_length] at this; unfold msG; omega
      have HC : Hid (Calls Tryz.prog 32 #[.int .i64 2, u3] wr fun e w' => (∃ v', e = .returned v' ∧ OwnIt W.heap.size w' v' (vlR 2 (msG u t zz l))) ∧ Below wr.heap.size wr w') := l10Of_all 2 (msG u t zz l) W.heap.size u3 wr (by have := hb.size; omega) HO.out HML2.out (fun _ => HWF.out)
      clear hlt hb
      go_wp2_with fail
      refine Calls.mono HC.out ?_
      rintro e w8 ⟨⟨v8, rfl, ho8⟩, hb8⟩
      have HF8 : Hid ((∃ v', Ending.returned v8 = .returned v' ∧ OwnIt w.heap.size w8 v' (vlR 2 (msG u t zz l))) ∧ Below w.heap.size w w8) := ⟨⟨v8, rfl, own_downI ho8 (by have := HWs.out; omega)⟩, HBR.out.trans (hb8.mono HBR.out.size)⟩
      clear ho8 hb8
      go_wp2_with fail
      go_ret
      exact HF8.out
end Go.Proofs.YtipmckdlnipgkaaGreatDoor
