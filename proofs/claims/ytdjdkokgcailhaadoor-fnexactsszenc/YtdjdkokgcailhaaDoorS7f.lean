/- SCALE's encoding, both sides: contracts. -/
import Derived.Test.YtdjdkokgcailhaaDoorS7e
namespace Go.Proofs.YtdjdkokgcailhaaDoor
open Go.RowKit Go.Sort
set_option linter.unusedVariables false
/-- The variable that says what is wrong with a schema or a value holds an error. -/
def ET (w : World) : Prop := 0 < w.heap.size ∧ ∃ T z, w.cell? ⟨0, 0, none⟩ = some (.iface T z)
theorem ET.below {w w' : World} {B : Nat} (h : ET w) (hb : Below w.heap.size w w') : ET w' := by
  obtain ⟨h1, T, z, h2⟩ := h
  exact ⟨by have := hb.size; omega, T, z, by rw [hb.cell (p := ⟨0, 0, none⟩) h1]; exact h2⟩
theorem typed_ve {ts : List (Int × Int)} {vs : List It} (h : typedB ts vs = true) : schOk ts = true ∧ vs.length ≤ 200 ∧ ve ts vs 7 0 0 = some vs.length := by
  unfold typedB at h
  simp only [Bool.and_eq_true, decide_eq_true_eq, beq_iff_eq] at h
  exact ⟨h.1, h.2.1, h.2.2⟩
theorem items_wf {B : Nat} {w : World} {v : Value} {vs : List It} (h : IsItems B w v vs) : ∀ x ∈ vs, x.n < 18446744073709551616 ∧ x.s.size ≤ 1048577 := by
  obtain ⟨b, o, C, h1, _⟩ := h
  exact fun x hx => (h1.wf x hx).2
/-- What an encoding answers: the bytes, if it is a value. -/
def encB (ts : List (Int × Int)) (vs : List It) (l : List UInt8) : ByteArray := if typedB ts vs then ⟨l.toArray⟩ else ⟨#[]⟩
/-- What encodeBy leaves. -/
def EncPost (ts : List (Int × Int)) (vs : List It) (l : List UInt8) (w : World) (e : Ending) (w' : World) : Prop :=
  (∃ x, e = .returned (.tuple #[.string (encB ts vs l), x]) ∧ ((typedB ts vs = true ∧ x = .nilIface) ∨ (typedB ts vs = false ∧ ∃ T z, x = .iface T z))) ∧ Below w.heap.size w w'
def encL (ts : List (Int × Int)) (vs : List It) : List UInt8 := scE cb_sc ts vs 7 0 0
set_option maxHeartbeats 1000000 in
theorem specScaleEnc_any (ts : List (Int × Int)) (vs : List It) (v v' : Value) (w : World) (hv : IsTyps w.heap.size w v ts) (hv' : IsItems w.heap.size w v' vs) :
    Calls Tryd.prog 29 #[v, v'] w fun e w' => e = .returned (.tuple #[.string (encB ts vs (encL ts vs)), .bool (typedB ts vs)]) ∧ Below w.heap.size w w' := by
  have HC : Hid (Calls Tryd.prog 44 #[v, v'] w fun e w' => e = .returned (.bool (typedB ts vs)) ∧ Below w.heap.size w w') := specTyped_any ts vs v v' w hv hv'
  cases ht : typedB ts vs with
  | false =>
    have HR : Hid (encB ts vs (encL ts vs) = ⟨#[]⟩) := by show _ = _; unfold encB; rw [ht]; rfl
    rw [ht] at HC
    clear hv hv' ht
    go_enter Tryd.func29, Tryd.ntmps29
    go_wp2_with fail
    refine Calls.mono HC.out ?_
    rintro e w1 ⟨rfl, hb1⟩
    go_wp2_with fail
    go_ret2
    exact ⟨by rw [HR.out]; try rfl, hb1⟩
  | true =>
    obtain ⟨hs, hl, hve⟩ := typed_ve ht
    have HE : Hid (∀ w', Below w.heap.size w w' → Calls Tryd.prog 52 #[v, .int .i64 0, v', .int .i64 0, .bool false] w' fun e w'' => e = .returned (.tuple #[.string ⟨(encL ts vs).toArray⟩, .int .i64 vs.length]) ∧ Below w'.heap.size w' w'') := fun w' hb =>
      l6Enc_all ts vs hl 7 0 0 vs.length ts.length v v' w' (Nat.le_refl _) (schOk_iff.1 hs).2 hve ((hv.below hb).up hb.size) ((hv'.below hb).up hb.size)
    have HR : Hid (encB ts vs (encL ts vs) = ⟨(encL ts vs).toArray⟩) := by show _ = _; unfold encB; rw [ht]; rfl
    rw [ht] at HC
    clear hv hv' ht hs hl hve
    go_enter Tryd.func29, Tryd.ntmps29
    go_wp2_with fail
    refine Calls.mono HC.out ?_
    rintro e w1 ⟨rfl, hb1⟩
    have HB1 : Hid (Below w.heap.size w w1) := hb1
    clear hb1
    go_wp2_with fail
    refine (HE.out w1 HB1.out).mono ?_
    rintro e w2 ⟨rfl, hb2⟩
    have HB2 : Hid (Below w.heap.size w w2) := HB1.out.trans (hb2.mono HB1.out.size)
    clear hb2
    go_wp2_with fail
    go_ret2
    exact ⟨by rw [HR.out]; try rfl, HB2.out⟩
set_option maxHeartbeats 2000000 in
theorem encodeBy_sc (ts : List (Int × Int)) (vs : List It) (v v' : Value) (w : World) (hv : IsTyps w.heap.size w v ts) (hv' : IsItems w.heap.size w v' vs) (hw : KR w) (he : ET w) :
    Calls Tryd.prog 47 #[.iface 87 (.agg #[.func (.func 77) #[] #[], .func (.func 78) #[] #[]]), v, v'] w fun e w' => EncPost ts vs (encL ts vs) w e w' := by
  have HC : Hid (Calls Tryd.prog 65 #[v, v'] w fun e w' => VoPost ts vs w e w') := valueOf_any ts vs v v' w hv hv' hw
  have HE : Hid (ET w) := he
  have hvs := items_wf hv'
  clear hv hv' hw he
  cases ht : typedB ts vs with
  | false =>
    have HR : Hid (encB ts vs (encL ts vs) = ⟨#[]⟩) := by show _ = _; unfold encB; rw [ht]; rfl
    go_enter Tryd.func47, Tryd.ntmps47
    go_wp2_with fail
    refine Calls.mono HC.out ?_
    rintro e w1 ⟨hb1, x, rfl, _⟩
    rw [ht]
    obtain ⟨e1, T, z, e2⟩ := ET.below (B := 0) HE.out hb1
    have HB1 : Hid (Below w.heap.size w w1) := hb1
    have HTB : Hid (typedB ts vs = false) := ht
    clear hb1 hvs ht
    go_wp2_with fail
    go_region
    all_goals
      go_wp2_with fail
      go_ret2
      exact ⟨⟨_, by rw [HR.out]; try rfl, .inr ⟨HTB.out, T, z, rfl⟩⟩, by first | exact HB1.out | exact HB1.out.drew⟩
  | true =>
    obtain ⟨hs, hl, hve⟩ := typed_ve ht
    have HR : Hid (encB ts vs (encL ts vs) = ⟨(encL ts vs).toArray⟩) := by show _ = _; unfold encB; rw [ht]; rfl
    have hsz : (encL ts vs).length ≤ 1000000000 := scE_le cb_len_sc (fun x h => (hvs x h).2) hl (schOk_iff.1 hs).2 hve
    have hsz2 : ByteArray.size ⟨(encL ts vs).toArray⟩ ≤ 1000000000 := by rw [ba_size]; exact hsz
    have HCL : Hid (∀ w, Calls Tryd.prog 66 #[.string ⟨(encL ts vs).toArray⟩] w fun e w' => e = .returned (.string ⟨(encL ts vs).toArray⟩) ∧ Below w.heap.size w w') := fun w => clone_any _ w (by omega)
    have HW : Hid (∀ x w' w'', Below w.heap.size w w' → VAt ts vs 7 w' (fun c => w.heap.size ≤ c ∧ c < w'.heap.size) x 0 0 → w'' = w' → Calls Tryd.prog 192 #[.agg #[.func (.func 77) #[] #[], .func (.func 78) #[] #[]], x] w'' fun e w3 => e = .returned (.string ⟨(encL ts vs).toArray⟩) ∧ Below w''.heap.size w'' w3) := fun x w' w'' hb hx hww => by
      subst hww
      exact write_sc ts vs hvs hl 7 0 0 vs.length _ x w'' hve hx (fun c hc => hc.2)
    clear hsz hsz2 hs hl hve hvs
    go_enter Tryd.func47, Tryd.ntmps47
    go_wp2_with fail
    refine Calls.mono HC.out ?_
    rintro e w1 ⟨hb1, x, rfl, hx⟩
    obtain ⟨⟨T, z, rfl⟩, hva⟩ := hx ht
    rw [ht]
    have HB1 : Hid (Below w.heap.size w w1) := hb1
    have HX : Hid (VAt ts vs 7 w1 (fun c => w.heap.size ≤ c ∧ c < w1.heap.size) (.iface T z) 0 0) := hva
    have HTB : Hid (typedB ts vs = true) := ht
    clear hb1 hva hx ht
    go_wp2_with fail
    refine (HW.out _ w1 _ HB1.out HX.out rfl).mono ?_
    rintro e w2 ⟨rfl, hb2⟩
    have HB2 : Hid (Below w.heap.size w w2) := HB1.out.trans (hb2.mono HB1.out.size)
    clear hb2
    go_wp2_with fail
    refine (HCL.out _).mono ?_
    rintro e w3 ⟨rfl, hb3⟩
    have HB3 : Hid (Below w.heap.size w w3) := HB2.out.trans (hb3.mono HB2.out.size)
    clear hb3
    go_wp2_with fail
    go_ret2
    exact ⟨⟨_, by rw [HR.out]; try rfl, .inl ⟨HTB.out, rfl⟩⟩, HB3.out⟩
set_option maxHeartbeats 2000000 in
theorem implScaleEnc_any (ts : List (Int × Int)) (vs : List It) (v v' : Value) (w : World) (hv : IsTyps w.heap.size w v ts) (hv' : IsItems w.heap.size w v' vs) (hw : KR w) (he : ET w) :
    Calls Tryd.prog 30 #[v, v'] w fun e w' => e = .returned (.tuple #[.string (encB ts vs (encL ts vs)), .bool (typedB ts vs)]) ∧ Below w.heap.size w w' := by
  have HN : Hid (∀ w, Calls Tryd.prog 53 #[] w fun e w' => e = .returned (.agg #[.func (.func 77) #[] #[], .func (.func 78) #[] #[]]) ∧ Below w.heap.size w w') := fun w => newScale_any w
  have HC : Hid (∀ w', Below w.heap.size w w' → Calls Tryd.prog 47 #[.iface 87 (.agg #[.func (.func 77) #[] #[], .func (.func 78) #[] #[]]), v, v'] w' fun e w'' => EncPost ts vs (encL ts vs) w' e w'') := fun w' hb => encodeBy_sc ts vs v v' w' ((hv.below hb).up hb.size) ((hv'.below hb).up hb.size) (hw.below hb) (ET.below (B := 0) he hb)
  clear hv hv' hw he
  go_enter Tryd.func30, Tryd.ntmps30
  go_wp2_with fail
  refine (HN.out _).mono ?_
  rintro e w1 ⟨rfl, hb1⟩
  have HB1 : Hid (Below w.heap.size w w1) := hb1
  clear hb1
  go_wp2_with fail
  refine (HC.out w1 HB1.out).mono ?_
  rintro e w2 ⟨⟨x, rfl, hx⟩, hb2⟩
  have HB2 : Hid (Below w.heap.size w w2) := HB1.out.trans (hb2.mono HB1.out.size)
  clear hb2
  rcases hx with ⟨ht, rfl⟩ | ⟨ht, T, z, rfl⟩
  all_goals
    have HTB : Hid (typedB ts vs = _) := ht
    clear ht
    go_wp2_with fail
    go_region
    all_goals
      go_wp2_with fail
      go_ret2
      exact ⟨by rw [HTB.out]; try rfl, by first | exact HB2.out | exact HB2.out.drew⟩
end Go.Proofs.YtdjdkokgcailhaaDoor
