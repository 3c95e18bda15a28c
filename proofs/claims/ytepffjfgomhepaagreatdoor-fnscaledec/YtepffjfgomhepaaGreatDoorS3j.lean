/- Typed, both sides: contracts. -/
import Derived.Test.YtepffjfgomhepaaGreatDoorS3i
namespace Go.Proofs.YtepffjfgomhepaaGreatDoor
open Go.RowKit Go.Sort
set_option linter.unusedVariables false
theorem vei_eq {ts : List (Int × Int)} {vs : List It} (hs : schOk ts = true) (hl : vs.length ≤ 200) : (vei (ve ts vs 7 0 0) == (vs.length : Int)) = typedB ts vs := by
  have hl' : decide (vs.length ≤ 200) = true := by simpa using hl
  unfold typedB
  rw [hs, hl']
  simp only [Bool.true_and]
  cases ve ts vs 7 0 0 with
  | none =>
    have e1 : (vei none == (vs.length : Int)) = false := beqF (by unfold vei; simp)
    rw [e1]; rfl
  | some q =>
    rw [Bool.eq_iff_iff]
    simp [vei]
    omega
set_option maxRecDepth 100000 in
set_option maxHeartbeats 2000000 in
theorem specTyped_any (ts : List (Int × Int)) (vs : List It) (v v' : Value) (w : World) (hv : IsTyps w.heap.size w v ts) (hv' : IsItems w.heap.size w v' vs) : Calls Tryz.prog 20 #[v, v'] w fun e w' => e = .returned (.bool (typedB ts vs)) ∧ Below w.heap.size w w' := by
  have HC : Hid (Calls Tryz.prog 27 #[v] w fun e w' => e = .returned (.bool (schOk ts)) ∧ Below w.heap.size w w') := specSchemaOk_any ts v w hv
  have HV : Hid (IsTyps w.heap.size w v ts) := hv
  have HI : Hid (IsItems w.heap.size w v' vs) := hv'
  have HE : Hid (schOk ts = true → ∀ w', Below w.heap.size w w' → Calls Tryz.prog 37 #[v, .int .i64 0, v', .int .i64 0] w' fun e w'' => e = .returned (.int .i64 (vei (ve ts vs 7 0 0))) ∧ Below w'.heap.size w' w'') := fun hs w' hb => by
    have h7 := (schOk_iff.1 hs).2
    exact l3End_all ts vs 7 0 0 ts.length v v' w' (Nat.le_refl _) h7 ((HV.out.below hb).up hb.size) ((HI.out.below hb).up hb.size) (Nat.zero_le _)
  obtain ⟨b, o, C, hI, ad, rfl, _⟩ := hv'
  rw [Nat.sub_zero, Nat.sub_zero] at HE HI ⊢
  have hsm := hI.small
  clear hI hv
  cases hs : schOk ts with
  | false =>
    have HR : Hid (typedB ts vs = false) := typedB_no hs
    rw [hs] at HC
    clear HE hs
    go_enter Tryz.func20, Tryz.ntmps20
    go_wp2_with fail
    refine Calls.mono HC.out ?_
    rintro e w1 ⟨rfl, hb1⟩
    go_wp2_with fail
    go_ret
    exact ⟨by rw [HR.out]; first | rfl | simp, hb1⟩
  | true =>
    by_cases h200 : vs.length ≤ 200
    · have HR : Hid ((vei (ve ts vs 7 0 0) == (vs.length : Int)) = typedB ts vs) := vei_eq hs h200
      have HE' := HE.out hs
      rw [hs] at HC
      have HE2 : Hid (∀ w', Below w.heap.size w w' → Calls Tryz.prog 37 #[v, .int .i64 0, .slice ad vs.length C, .int .i64 0] w' fun e w'' => e = .returned (.int .i64 (vei (ve ts vs 7 0 0))) ∧ Below w'.heap.size w' w'') := HE'
      clear HE HE' hs
      have hd : decide (vs.length ≤ 200) = true := by simpa using h200
      go_enter Tryz.func20, Tryz.ntmps20
      go_wp2_with fail
      refine Calls.mono HC.out ?_
      rintro e w1 ⟨rfl, hb1⟩
      have HB1 : Hid (Below w.heap.size w w1) := hb1
      clear hb1
      go_wp2_with fail
      refine (HE2.out w1 HB1.out).mono ?_
      rintro e w2 ⟨rfl, hb2⟩
      have HB2 : Hid (Below w.heap.size w w2) := HB1.out.trans (hb2.mono HB1.out.size)
      generalize vei (ve ts vs 7 0 0) = z at HR ⊢
      clear hb2
      go_wp2_with fail
      go_ret
      exact ⟨by rw [← HR.out]; first | rfl | simp, HB2.out⟩
    · have HR : Hid (typedB ts vs = false) := typedB_big (by omega)
      rw [hs] at HC
      clear HE hs
      have hd : decide (vs.length ≤ 200) = false := by simpa using h200
      go_enter Tryz.func20, Tryz.ntmps20
      go_wp2_with fail
      refine Calls.mono HC.out ?_
      rintro e w1 ⟨rfl, hb1⟩
      go_wp2_with fail
      go_ret
      exact ⟨by rw [HR.out]; first | rfl | simp, hb1⟩
set_option maxHeartbeats 1000000 in
theorem implTyped_any (ts : List (Int × Int)) (vs : List It) (v v' : Value) (w : World) (hv : IsTyps w.heap.size w v ts) (hv' : IsItems w.heap.size w v' vs) (hw : KR w) : Calls Tryz.prog 14 #[v, v'] w fun e w' => e = .returned (.bool (typedB ts vs)) ∧ Below w.heap.size w w' := by
  have HC : Hid (Calls Tryz.prog 29 #[v] w fun e w' => PsPost ts w e w') := parseSchema_any ts v w hv hw
  have HI : Hid (IsItems w.heap.size w v' vs) := hv'
  clear hv hv' hw
  go_enter Tryz.func14, Tryz.ntmps14
  go_wp2_with fail
  refine Calls.mono HC.out ?_
  rintro e w1 ⟨hb1, ⟨hs, rfl⟩ | ⟨hs, u, rfl, htr⟩⟩
  · have HR : Hid (typedB ts vs = false) := typedB_no hs
    clear hs
    go_wp2_with fail
    go_ret
    exact ⟨by rw [HR.out]; first | rfl | simp, hb1⟩
  · have HV : Hid (Calls Tryz.prog 30 #[.pointer (some ⟨u, 0, none⟩), v'] w1 fun e w' => VoPost ts vs (fun b => w.heap.size ≤ b ∧ b < w1.heap.size) w1 e w') := valueOf_any ts vs u _ v' w1 hs htr (fun c hc => hc.2) ((HI.out.below hb1).up hb1.size)
    have HB1 : Hid (Below w.heap.size w w1) := hb1
    clear hs htr hb1
    go_wp2_with fail
    refine Calls.mono HV.out ?_
    rintro e w2 ⟨hb2, x, rfl, _⟩
    have HB2 : Hid (Below w.heap.size w w2) := HB1.out.trans (hb2.mono HB1.out.size)
    clear hb2
    go_wp2_with fail
    go_ret
    exact ⟨by first | rfl | simp, HB2.out⟩
end Go.Proofs.YtepffjfgomhepaaGreatDoor
