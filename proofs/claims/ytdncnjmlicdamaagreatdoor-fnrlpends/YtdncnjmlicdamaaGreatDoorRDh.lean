/- A body, a value read as RLP: contracts. -/
import Derived.Test.YtdncnjmlicdamaaGreatDoorRDg
import Derived.Test.YtdncnjmlicdamaaGreatDoorSBi
namespace Go.Proofs.YtdncnjmlicdamaaGreatDoor
open Go.RowKit Go.Sort
set_option linter.unusedVariables false
theorem kids_of {k n : Int} (hok : tyOk k n = true) : (¬ 5 ≤ k → kids k n = 0) ∧ (5 ≤ k → 0 < kids k n) := by
  simp only [tyOk, decide_eq_true_eq] at hok
  unfold kids
  constructor
  · intro h
    split
    · omega
    · split <;> omega
  · intro h
    split
    · omega
    · split <;> omega
set_option maxRecDepth 100000 in
set_option maxHeartbeats 4000000 in
theorem readBody_wrong (T : TypeId) (z : Value) (ts : List (Int × Int)) (f a u : Nat) (S0 : Nat → Prop) (list : Bool) (b : ByteArray) (w : World) (ht : TreeAt ts (f + 1) w S0 u a) (hS0 : ∀ c, S0 c → c < w.heap.size) (ha : a < ts.length) (hl : list ≠ decide (5 ≤ ts[a].1)) (he : EFv T z w) :
    Calls Tryz.prog 130 #[.agg #[], .pointer (some ⟨u, 0, none⟩), .bool list, .string b] w fun e w' => RrPost T z none ts (f + 1) a S0 w e w' := by
  obtain ⟨_, e0, ad0, cap0, hok, hit, hu, c0, c1, _⟩ := ht.openT
  have hul := hS0 u hu
  have HB0 : Hid (Below w.heap.size w (w.alloc (.cells #[] 45))) := bel1 _ _
  have HE : Hid (EFv T z w) := he
  obtain ⟨hk1, hk2⟩ := kids_of hok
  have s0 := cell_1i c0 hul (.cells #[] 45)
  have s1 := cell_1i c1 hul (.cells #[] 45)
  have HPO : Hid (∀ w, Calls Tryz.prog 66 #[.agg #[.int .i64 ts[a].1, .int .i64 ts[a].2]] w fun e w' => e = .returned (.int .i64 (kids ts[a].1 ts[a].2)) ∧ Below w.heap.size w w') := fun w => partsOf_any _ _ w hok
  clear ht hS0 he hok hit c0 c1
  by_cases h5 : 5 ≤ ts[a].1
  · have hlf : list = false := by
      rw [decide_eq_true h5] at hl
      cases list with
      | false => rfl
      | true => exact absurd rfl hl
    subst hlf
    have hkk := hk2 h5
    generalize kids ts[a].1 ts[a].2 = K at *
    have hkI : (0 : Int) < (K : Int) := by omega
    clear hl h5 hk1 hk2
    generalize ts[a].1 = k at s0 HPO
    generalize ts[a].2 = n at s1 HPO
    go_enter Tryz.func130, Tryz.ntmps130
    go_wp2_with fail
    refine (HPO.out _).mono ?_
    rintro e w1 ⟨rfl, hb1⟩
    have HB1 : Hid (Below w.heap.size w w1) := HB0.out.trans (hb1.mono HB0.out.size)
    obtain ⟨e1, e2⟩ := EFv.below HE.out HB1.out
    clear hb1
    go_wp2_with fail
    go_region
    all_goals
      go_wp2_with fail
      go_ret2
      exact ⟨by first | exact HB1.out | exact HB1.out.drew, .inl ⟨rfl, _, .inl rfl, rfl⟩⟩
  · have hlf : list = true := by
      rw [decide_eq_false h5] at hl
      cases list with
      | true => rfl
      | false => exact absurd rfl hl
    subst hlf
    rw [hk1 h5] at HPO
    clear hl h5 hk1 hk2
    generalize ts[a].1 = k at s0 HPO
    generalize ts[a].2 = n at s1 HPO
    go_enter Tryz.func130, Tryz.ntmps130
    go_wp2_with fail
    refine (HPO.out _).mono ?_
    rintro e w1 ⟨rfl, hb1⟩
    have HB1 : Hid (Below w.heap.size w w1) := HB0.out.trans (hb1.mono HB0.out.size)
    obtain ⟨e1, e2⟩ := EFv.below HE.out HB1.out
    clear hb1
    go_wp2_with fail
    go_region
    all_goals
      go_wp2_with fail
      go_ret2
      exact ⟨by first | exact HB1.out | exact HB1.out.drew, .inl ⟨rfl, _, .inl rfl, rfl⟩⟩
set_option maxRecDepth 100000 in
set_option maxHeartbeats 4000000 in
theorem readBody_bytes (T : TypeId) (z : Value) (ts : List (Int × Int)) (f a u : Nat) (S0 : Nat → Prop) (b : ByteArray) (w : World) (ht : TreeAt ts (f + 1) w S0 u a) (hS0 : ∀ c, S0 c → c < w.heap.size) (ha : a < ts.length) (hk : ts[a].1 = 3 ∨ ts[a].1 = 4) (o : Option (List It))
    (hc : ∀ w', Below w.heap.size w w' → Calls Tryz.prog 133 #[.pointer (some ⟨u, 0, none⟩), .string b] w' fun e w'' => RrPost T z o ts (f + 1) a S0 w' e w'') :
    Calls Tryz.prog 130 #[.agg #[], .pointer (some ⟨u, 0, none⟩), .bool false, .string b] w fun e w' => RrPost T z o ts (f + 1) a S0 w e w' := by
  obtain ⟨_, e0, ad0, cap0, hok, hit, hu, c0, c1, _⟩ := ht.openT
  have hul := hS0 u hu
  have HB0 : Hid (Below w.heap.size w (w.alloc (.cells #[] 45))) := bel1 _ _
  obtain ⟨hk1, hk2⟩ := kids_of hok
  have HC : Hid (∀ w', Below w.heap.size w w' → Calls Tryz.prog 133 #[.pointer (some ⟨u, 0, none⟩), .string b] w' fun e w'' => RrPost T z o ts (f + 1) a S0 w' e w'') := hc
  have HPO : Hid (∀ w, Calls Tryz.prog 66 #[.agg #[.int .i64 ts[a].1, .int .i64 ts[a].2]] w fun e w' => e = .returned (.int .i64 (kids ts[a].1 ts[a].2)) ∧ Below w.heap.size w w') := fun w => partsOf_any _ _ w hok
  rw [hk1 (by omega)] at HPO
  clear hk1 hk2
  have s0 := cell_1i c0 hul (.cells #[] 45)
  have s1 := cell_1i c1 hul (.cells #[] 45)
  clear ht hS0 hok hit hc
  generalize ts[a].1 = k at c0 s0 HPO hk
  generalize ts[a].2 = n at c1 s1 HPO
  rcases hk with rfl | rfl
  all_goals
    go_enter Tryz.func130, Tryz.ntmps130
    go_wp2_with fail
    refine (HPO.out _).mono ?_
    rintro e w1 ⟨rfl, hb1⟩
    have HB1 : Hid (Below w.heap.size w w1) := HB0.out.trans (hb1.mono HB0.out.size)
    have x0 := (HB1.out.cell (p := ⟨u, 0, none⟩) hul).trans c0
    have x1 := (HB1.out.cell (p := ⟨u, 1, none⟩) hul).trans c1
    clear hb1
    go_wp2_with fail
    refine (HC.out _ HB1.out).mono ?_
    intro e w2 hpo
    obtain ⟨x, er, rfl⟩ := hpo.form
    have HPO2 : Hid (RrPost T z o ts (f + 1) a S0 w (.returned (.tuple #[x, er])) w2) := hpo.up HB1.out
    clear hpo s0 s1 x0 x1
    go_wp2_with fail
    go_ret2
    exact HPO2.out
set_option maxRecDepth 100000 in
set_option maxHeartbeats 4000000 in
theorem readBody_opt (T : TypeId) (z : Value) (ts : List (Int × Int)) (f a u : Nat) (S0 : Nat → Prop) (b : ByteArray) (w : World) (ht : TreeAt ts (f + 1) w S0 u a) (hS0 : ∀ c, S0 c → c < w.heap.size) (ha : a < ts.length) (hk : ts[a].1 = 8) (o : Option (List It))
    (hc : ∀ w', Below w.heap.size w w' → Calls Tryz.prog 134 #[.agg #[], .pointer (some ⟨u, 0, none⟩), .string b] w' fun e w'' => RrPost T z o ts (f + 1) a S0 w' e w'') :
    Calls Tryz.prog 130 #[.agg #[], .pointer (some ⟨u, 0, none⟩), .bool true, .string b] w fun e w' => RrPost T z o ts (f + 1) a S0 w e w' := by
  obtain ⟨_, e0, ad0, cap0, hok, hit, hu, c0, c1, _⟩ := ht.openT
  have hul := hS0 u hu
  have HB0 : Hid (Below w.heap.size w (w.alloc (.cells #[] 45))) := bel1 _ _
  obtain ⟨hk1, hk2⟩ := kids_of hok
  have HC : Hid (∀ w', Below w.heap.size w w' → Calls Tryz.prog 134 #[.agg #[], .pointer (some ⟨u, 0, none⟩), .string b] w' fun e w'' => RrPost T z o ts (f + 1) a S0 w' e w'') := hc
  have HPO : Hid (∀ w, Calls Tryz.prog 66 #[.agg #[.int .i64 ts[a].1, .int .i64 ts[a].2]] w fun e w' => e = .returned (.int .i64 (kids ts[a].1 ts[a].2)) ∧ Below w.heap.size w w') := fun w => partsOf_any _ _ w hok
  have hkk := hk2 (by omega)
  generalize kids ts[a].1 ts[a].2 = K at *
  have hkI : (0 : Int) < (K : Int) := by omega
  clear hk1 hk2
  have s0 := cell_1i c0 hul (.cells #[] 45)
  have s1 := cell_1i c1 hul (.cells #[] 45)
  clear ht hS0 hok hit hc
  generalize ts[a].1 = k at c0 s0 HPO hk
  generalize ts[a].2 = n at c1 s1 HPO
  rcases hk with rfl
  all_goals
    go_enter Tryz.func130, Tryz.ntmps130
    go_wp2_with fail
    refine (HPO.out _).mono ?_
    rintro e w1 ⟨rfl, hb1⟩
    have HB1 : Hid (Below w.heap.size w w1) := HB0.out.trans (hb1.mono HB0.out.size)
    have x0 := (HB1.out.cell (p := ⟨u, 0, none⟩) hul).trans c0
    have x1 := (HB1.out.cell (p := ⟨u, 1, none⟩) hul).trans c1
    clear hb1
    go_wp2_with fail
    refine (HC.out _ HB1.out).mono ?_
    intro e w2 hpo
    obtain ⟨x, er, rfl⟩ := hpo.form
    have HPO2 : Hid (RrPost T z o ts (f + 1) a S0 w (.returned (.tuple #[x, er])) w2) := hpo.up HB1.out
    clear hpo s0 s1 x0 x1
    go_wp2_with fail
    go_ret2
    exact HPO2.out
set_option maxRecDepth 100000 in
set_option maxHeartbeats 4000000 in
theorem readBody_uni (T : TypeId) (z : Value) (ts : List (Int × Int)) (f a u : Nat) (S0 : Nat → Prop) (b : ByteArray) (w : World) (ht : TreeAt ts (f + 1) w S0 u a) (hS0 : ∀ c, S0 c → c < w.heap.size) (ha : a < ts.length) (hk : ts[a].1 = 9) (o : Option (List It))
    (hc : ∀ w', Below w.heap.size w w' → Calls Tryz.prog 135 #[.agg #[], .pointer (some ⟨u, 0, none⟩), .string b] w' fun e w'' => RrPost T z o ts (f + 1) a S0 w' e w'') :
    Calls Tryz.prog 130 #[.agg #[], .pointer (some ⟨u, 0, none⟩), .bool true, .string b] w fun e w' => RrPost T z o ts (f + 1) a S0 w e w' := by
  obtain ⟨_, e0, ad0, cap0, hok, hit, hu, c0, c1, _⟩ := ht.openT
  have hul := hS0 u hu
  have HB0 : Hid (Below w.heap.size w (w.alloc (.cells #[] 45))) := bel1 _ _
  obtain ⟨hk1, hk2⟩ := kids_of hok
  have HC : Hid (∀ w', Below w.heap.size w w' → Calls Tryz.prog 135 #[.agg #[], .pointer (some ⟨u, 0, none⟩), .string b] w' fun e w'' => RrPost T z o ts (f + 1) a S0 w' e w'') := hc
  have HPO : Hid (∀ w, Calls Tryz.prog 66 #[.agg #[.int .i64 ts[a].1, .int .i64 ts[a].2]] w fun e w' => e = .returned (.int .i64 (kids ts[a].1 ts[a].2)) ∧ Below w.heap.size w w') := fun w => partsOf_any _ _ w hok
  have hkk := hk2 (by omega)
  generalize kids ts[a].1 ts[a].2 = K at *
  have hkI : (0 : Int) < (K : Int) := by omega
  clear hk1 hk2
  have s0 := cell_1i c0 hul (.cells #[] 45)
  have s1 := cell_1i c1 hul (.cells #[] 45)
  clear ht hS0 hok hit hc
  generalize ts[a].1 = k at c0 s0 HPO hk
  generalize ts[a].2 = n at c1 s1 HPO
  rcases hk with rfl
  all_goals
    go_enter Tryz.func130, Tryz.ntmps130
    go_wp2_with fail
    refine (HPO.out _).mono ?_
    rintro e w1 ⟨rfl, hb1⟩
    have HB1 : Hid (Below w.heap.size w w1) := HB0.out.trans (hb1.mono HB0.out.size)
    have x0 := (HB1.out.cell (p := ⟨u, 0, none⟩) hul).trans c0
    have x1 := (HB1.out.cell (p := ⟨u, 1, none⟩) hul).trans c1
    clear hb1
    go_wp2_with fail
    refine (HC.out _ HB1.out).mono ?_
    intro e w2 hpo
    obtain ⟨x, er, rfl⟩ := hpo.form
    have HPO2 : Hid (RrPost T z o ts (f + 1) a S0 w (.returned (.tuple #[x, er])) w2) := hpo.up HB1.out
    clear hpo s0 s1 x0 x1
    go_wp2_with fail
    go_ret2
    exact HPO2.out
set_option maxRecDepth 100000 in
set_option maxHeartbeats 4000000 in
theorem readBody_ser (T : TypeId) (z : Value) (ts : List (Int × Int)) (f a u : Nat) (S0 : Nat → Prop) (b : ByteArray) (w : World) (ht : TreeAt ts (f + 1) w S0 u a) (hS0 : ∀ c, S0 c → c < w.heap.size) (ha : a < ts.length) (hk : ts[a].1 = 5 ∨ ts[a].1 = 6 ∨ ts[a].1 = 7) (o : Option (List It))
    (hc : ∀ w', Below w.heap.size w w' → Calls Tryz.prog 136 #[.iface 45 (.agg #[]), .pointer (some ⟨u, 0, none⟩), .string b] w' fun e w'' => RrPost T z o ts (f + 1) a S0 w' e w'') :
    Calls Tryz.prog 130 #[.agg #[], .pointer (some ⟨u, 0, none⟩), .bool true, .string b] w fun e w' => RrPost T z o ts (f + 1) a S0 w e w' := by
  obtain ⟨_, e0, ad0, cap0, hok, hit, hu, c0, c1, _⟩ := ht.openT
  have hul := hS0 u hu
  have HB0 : Hid (Below w.heap.size w (w.alloc (.cells #[] 45))) := bel1 _ _
  obtain ⟨hk1, hk2⟩ := kids_of hok
  have HC : Hid (∀ w', Below w.heap.size w w' → Calls Tryz.prog 136 #[.iface 45 (.agg #[]), .pointer (some ⟨u, 0, none⟩), .string b] w' fun e w'' => RrPost T z o ts (f + 1) a S0 w' e w'') := hc
  have HPO : Hid (∀ w, Calls Tryz.prog 66 #[.agg #[.int .i64 ts[a].1, .int .i64 ts[a].2]] w fun e w' => e = .returned (.int .i64 (kids ts[a].1 ts[a].2)) ∧ Below w.heap.size w w') := fun w => partsOf_any _ _ w hok
  have hkk := hk2 (by omega)
  generalize kids ts[a].1 ts[a].2 = K at *
  have hkI : (0 : Int) < (K : Int) := by omega
  clear hk1 hk2
  have s0 := cell_1i c0 hul (.cells #[] 45)
  have s1 := cell_1i c1 hul (.cells #[] 45)
  clear ht hS0 hok hit hc
  generalize ts[a].1 = k at c0 s0 HPO hk
  generalize ts[a].2 = n at c1 s1 HPO
  rcases hk with rfl | rfl | rfl
  all_goals
    go_enter Tryz.func130, Tryz.ntmps130
    go_wp2_with fail
    refine (HPO.out _).mono ?_
    rintro e w1 ⟨rfl, hb1⟩
    have HB1 : Hid (Below w.heap.size w w1) := HB0.out.trans (hb1.mono HB0.out.size)
    have x0 := (HB1.out.cell (p := ⟨u, 0, none⟩) hul).trans c0
    have x1 := (HB1.out.cell (p := ⟨u, 1, none⟩) hul).trans c1
    clear hb1
    go_wp2_with fail
    refine (HC.out _ HB1.out).mono ?_
    intro e w2 hpo
    obtain ⟨x, er, rfl⟩ := hpo.form
    have HPO2 : Hid (RrPost T z o ts (f + 1) a S0 w (.returned (.tuple #[x, er])) w2) := hpo.up HB1.out
    clear hpo s0 s1 x0 x1
    go_wp2_with fail
    go_ret2
    exact HPO2.out
set_option maxRecDepth 100000 in
set_option maxHeartbeats 4000000 in
theorem readBody_num_yes (T : TypeId) (z : Value) (ts : List (Int × Int)) (f a u m : Nat) (S0 : Nat → Prop) (b : ByteArray) (w : World) (ht : TreeAt ts (f + 1) w S0 u a) (hS0 : ∀ c, S0 c → c < w.heap.size) (ha : a < ts.length) (hk : ts[a].1 = 1 ∨ ts[a].1 = 2) (hb : b.size ≤ 1048576) (he : EFv T z w) (hn : numD ts[a].1 ts[a].2 b.data.toList true = some m) :
    Calls Tryz.prog 130 #[.agg #[], .pointer (some ⟨u, 0, none⟩), .bool false, .string b] w fun e w' => RrPost T z (some [⟨ts[a].1, m, ⟨#[]⟩⟩]) ts (f + 1) a S0 w e w' := by
  obtain ⟨_, e0, ad0, cap0, hok, hit, hu, c0, c1, _⟩ := ht.openT
  have hul := hS0 u hu
  have HT : Hid (TreeAt ts (f + 1) w S0 u a) := ht
  have HS : Hid (∀ c, S0 c → c < w.heap.size) := hS0
  have HB0 : Hid (Below w.heap.size w (w.alloc (.cells #[] 45))) := bel1 _ _
  obtain ⟨hk1, hk2⟩ := kids_of hok
  have HC : Hid (∀ w', Below w.heap.size w w' → Calls Tryz.prog 132 #[.agg #[.int .i64 ts[a].1, .int .i64 ts[a].2], .string b] w' fun e w'' => e = .returned (.tuple #[.int .u64 m, .nilIface]) ∧ Below w'.heap.size w' w'') := fun w' hbw => numberOf_some _ _ b m w' hok hn
  have HPO : Hid (∀ w, Calls Tryz.prog 66 #[.agg #[.int .i64 ts[a].1, .int .i64 ts[a].2]] w fun e w' => e = .returned (.int .i64 (kids ts[a].1 ts[a].2)) ∧ Below w.heap.size w w') := fun w => partsOf_any _ _ w hok
  rw [hk1 (by omega)] at HPO
  clear hk1 hk2
  have HM8 : Hid (m < 18446744073709551616) := (numD_back hn).2.1
  have HFI : Hid (fitsI ts[a].1 ts[a].2 ⟨ts[a].1, m, ⟨#[]⟩⟩ = true) := by rw [Hid, fitsI_num (by omega) (by omega)]; exact (numD_back hn).2.2 rfl
  have s0 := cell_1i c0 hul (.cells #[] 45)
  have s1 := cell_1i c1 hul (.cells #[] 45)
  have HKK : Hid (ts[a].1 = 1 ∨ ts[a].1 = 2) := hk
  clear ht hS0 hok hit hn he
  generalize hkE : ts[a].1 = k at c0 s0 HPO HC hk
  generalize ts[a].2 = n at c1 s1 HPO HC
  rcases hk with rfl | rfl
  all_goals
    go_enter Tryz.func130, Tryz.ntmps130
    go_wp2_with fail
    refine (HPO.out _).mono ?_
    rintro e w1 ⟨rfl, hb1⟩
    have HB1 : Hid (Below w.heap.size w w1) := HB0.out.trans (hb1.mono HB0.out.size)
    have x0 := (HB1.out.cell (p := ⟨u, 0, none⟩) hul).trans c0
    have x1 := (HB1.out.cell (p := ⟨u, 1, none⟩) hul).trans c1
    clear hb1
    go_wp2_with fail
    refine (HC.out _ HB1.out).mono ?_
    rintro e w2 ⟨rfl, hb2⟩
    have HB2 : Hid (Below w.heap.size w w2) := HB1.out.trans (hb2.mono HB1.out.size)
    clear hb2 s0 s1 x0 x1
    go_wp2_with fail
    go_ret2
    exact ⟨HB2.out, .inr ⟨_, _, _, rfl, rfl, u, ⟨ts[a].1, m, ⟨#[]⟩⟩, ha, (HT.out.bel HS.out HB2.out).keep (fun c hc => .inl hc) (fun _ _ => rfl), HFI.out, HM8.out, .inl ⟨HKK.out, rfl, by rw [hkE]⟩⟩⟩
set_option maxRecDepth 100000 in
set_option maxHeartbeats 4000000 in
theorem readBody_num_no (T : TypeId) (z : Value) (ts : List (Int × Int)) (f a u : Nat) (S0 : Nat → Prop) (b : ByteArray) (w : World) (ht : TreeAt ts (f + 1) w S0 u a) (hS0 : ∀ c, S0 c → c < w.heap.size) (ha : a < ts.length) (hk : ts[a].1 = 1 ∨ ts[a].1 = 2) (hb : b.size ≤ 1048576) (he : EFv T z w) (hn : numD ts[a].1 ts[a].2 b.data.toList true = none) :
    Calls Tryz.prog 130 #[.agg #[], .pointer (some ⟨u, 0, none⟩), .bool false, .string b] w fun e w' => RrPost T z (none) ts (f + 1) a S0 w e w' := by
  obtain ⟨_, e0, ad0, cap0, hok, hit, hu, c0, c1, _⟩ := ht.openT
  have hul := hS0 u hu
  have HT : Hid (TreeAt ts (f + 1) w S0 u a) := ht
  have HS : Hid (∀ c, S0 c → c < w.heap.size) := hS0
  have HB0 : Hid (Below w.heap.size w (w.alloc (.cells #[] 45))) := bel1 _ _
  obtain ⟨hk1, hk2⟩ := kids_of hok
  have HC : Hid (∀ w', Below w.heap.size w w' → Calls Tryz.prog 132 #[.agg #[.int .i64 ts[a].1, .int .i64 ts[a].2], .string b] w' fun e w'' => e = .returned (.tuple #[.int .u64 0, .iface T z]) ∧ Below w'.heap.size w' w'') := fun w' hbw => numberOf_none _ _ b w' hok hb hn T z (he.below hbw)
  have HPO : Hid (∀ w, Calls Tryz.prog 66 #[.agg #[.int .i64 ts[a].1, .int .i64 ts[a].2]] w fun e w' => e = .returned (.int .i64 (kids ts[a].1 ts[a].2)) ∧ Below w.heap.size w w') := fun w => partsOf_any _ _ w hok
  rw [hk1 (by omega)] at HPO
  clear hk1 hk2
  skip
  have s0 := cell_1i c0 hul (.cells #[] 45)
  have s1 := cell_1i c1 hul (.cells #[] 45)
  have HKK : Hid (ts[a].1 = 1 ∨ ts[a].1 = 2) := hk
  clear ht hS0 hok hit hn he
  generalize hkE : ts[a].1 = k at c0 s0 HPO HC hk
  generalize ts[a].2 = n at c1 s1 HPO HC
  rcases hk with rfl | rfl
  all_goals
    go_enter Tryz.func130, Tryz.ntmps130
    go_wp2_with fail
    refine (HPO.out _).mono ?_
    rintro e w1 ⟨rfl, hb1⟩
    have HB1 : Hid (Below w.heap.size w w1) := HB0.out.trans (hb1.mono HB0.out.size)
    have x0 := (HB1.out.cell (p := ⟨u, 0, none⟩) hul).trans c0
    have x1 := (HB1.out.cell (p := ⟨u, 1, none⟩) hul).trans c1
    clear hb1
    go_wp2_with fail
    refine (HC.out _ HB1.out).mono ?_
    rintro e w2 ⟨rfl, hb2⟩
    have HB2 : Hid (Below w.heap.size w w2) := HB1.out.trans (hb2.mono HB1.out.size)
    clear hb2 s0 s1 x0 x1
    go_wp2_with fail
    go_ret2
    exact ⟨HB2.out, .inl ⟨rfl, .iface 124 (.agg #[.pointer (some ⟨u, 0, none⟩), .int .u64 0]), .inr ⟨_, _, rfl⟩, rfl⟩⟩
theorem readBytes_rl (T : TypeId) (z : Value) (ts : List (Int × Int)) (f a u : Nat) (S0 : Nat → Prop) (b : ByteArray) (w : World) (ht : TreeAt ts (f + 1) w S0 u a) (hS0 : ∀ c, S0 c → c < w.heap.size) (ha : a < ts.length) (hk : ts[a].1 = 3 ∨ ts[a].1 = 4) (hb : b.size ≤ 1048576) (he : EFv T z w) :
    Calls Tryz.prog 133 #[.pointer (some ⟨u, 0, none⟩), .string b] w fun e w' => RrPost T z (if fitsS ts[a].1 ts[a].2 b.size = true then some [⟨ts[a].1, 0, b⟩] else none) ts (f + 1) a S0 w e w' := by
  obtain ⟨_, e0, ad0, cap0, hok, hit, hu, c0, c1, _⟩ := ht.openT
  cases hf : fitsS ts[a].1 ts[a].2 b.size with
  | false =>
    refine (readBytes_no u _ _ b w c0 c1 hok (by omega) hf T z he).mono ?_
    rintro e w1 ⟨rfl, hb1⟩
    exact ⟨hb1, .inl ⟨rfl, _, .inl rfl, rfl⟩⟩
  | true =>
    refine (readBytes_yes u _ _ b w c0 c1 hok (by omega) hf).mono ?_
    rintro e w1 ⟨rfl, hb1⟩
    exact ⟨hb1, .inr ⟨_, _, _, rfl, rfl, u, ⟨ts[a].1, 0, b⟩, ha, (ht.bel hS0 hb1).keep (fun c hc => .inl hc) (fun _ _ => rfl), by rw [fitsI_str hk]; exact hf, by show (0 : Nat) < _; omega, .inr (.inl ⟨hk, rfl, rfl⟩)⟩⟩
theorem readBody_any (T : TypeId) (z : Value) (ts : List (Int × Int)) (f : Nat) (hp : RkHyp T z ts f) (a u : Nat) (S0 : Nat → Prop) (list : Bool) (b : ByteArray) (w : World) (ht : TreeAt ts (f + 1) w S0 u a) (hS0 : ∀ c, S0 c → c < w.heap.size) (ha : a < ts.length) (hb : b.size ≤ 1048576) (he : EFv T z w) :
    Calls Tryz.prog 130 #[.agg #[], .pointer (some ⟨u, 0, none⟩), .bool list, .string b] w fun e w' => RrPost T z (rlB true ts[a].1 ts[a].2 (rlD true ts f) (pl ts f a ts[a].1) list b.data.toList) ts (f + 1) a S0 w e w' := by
  obtain ⟨_, e0, ad0, cap0, hok, hit, hu, c0, c1, _⟩ := ht.openT
  have hS1 : ∀ w', Below w.heap.size w w' → ∀ c, S0 c → c < w'.heap.size := fun w' hbw c hc => Nat.lt_of_lt_of_le (hS0 c hc) hbw.size
  have hul := hS0 u hu
  have hok' := hok
  simp only [tyOk, decide_eq_true_eq] at hok'
  unfold rlB
  by_cases hl : list ≠ decide (5 ≤ ts[a].1)
  · rw [if_pos hl]
    exact readBody_wrong T z ts f a u S0 list b w ht hS0 ha hl he
  · rw [if_neg hl]
    have hl' : list = decide (5 ≤ ts[a].1) := by simpa using hl
    by_cases h12 : ts[a].1 = 1 ∨ ts[a].1 = 2
    · rw [if_pos h12]
      rw [decide_eq_false (by omega)] at hl'
      subst hl'
      cases hn : numD ts[a].1 ts[a].2 b.data.toList true with
      | none => exact readBody_num_no T z ts f a u S0 b w ht hS0 ha h12 hb he hn
      | some m => exact readBody_num_yes T z ts f a u m S0 b w ht hS0 ha h12 hb he hn
    · rw [if_neg h12]
      by_cases h34 : ts[a].1 = 3 ∨ ts[a].1 = 4
      · rw [if_pos h34]
        rw [decide_eq_false (by omega)] at hl'
        subst hl'
        have e1 : (if true = true → fitsS ts[a].1 ts[a].2 b.data.toList.length = true then some [(⟨ts[a].1, 0, ⟨b.data.toList.toArray⟩⟩ : It)] else none) = if fitsS ts[a].1 ts[a].2 b.size = true then some [⟨ts[a].1, 0, b⟩] else none := by
          rw [lst_len, ba_data]
          simp
        rw [e1]
        exact readBody_bytes T z ts f a u S0 b w ht hS0 ha h34 _ (fun w' hbw => readBytes_rl T z ts f a u S0 b w' (ht.bel hS0 hbw) (hS1 w' hbw) ha h34 hb (he.below hbw))
      · rw [if_neg h34]
        rw [decide_eq_true (by omega)] at hl'
        subst hl'
        by_cases k8 : ts[a].1 = 8
        · rw [if_pos k8]
          by_cases hb0 : b.size = 0
          · have hnil : b.data.toList = [] := List.eq_nil_of_length_eq_zero (by rw [lst_len]; exact hb0)
            rw [if_pos hnil]
            exact readBody_opt T z ts f a u S0 b w ht hS0 ha k8 _ (fun w' hbw => readOption_no T z ts f a u S0 b w' (ht.bel hS0 hbw) (hS1 w' hbw) ha k8 hb0)
          · have hne : b.data.toList ≠ [] := fun e => hb0 (by rw [← lst_len, e]; rfl)
            rw [if_neg hne]
            exact readBody_opt T z ts f a u S0 b w ht hS0 ha k8 _ (fun w' hbw => readOption_some T z ts f (read_step T z ts f hp) a u S0 b w' (ht.bel hS0 hbw) (hS1 w' hbw) ha k8 hb0 hb (he.below hbw))
        · rw [if_neg k8]
          by_cases k9 : ts[a].1 = 9
          · rw [if_pos k9]
            refine readBody_uni T z ts f a u S0 b w ht hS0 ha k9 _ (fun w' hbw => ?_)
            have ht' := ht.bel hS0 hbw
            have hS' := hS1 w' hbw
            have he' := he.below hbw
            cases hts : tk true b.data.toList with
            | none => exact readUnion_no T z ts f a u S0 b w' hb he' hts
            | some y =>
              obtain ⟨l2, num, more⟩ := y
              obtain ⟨B, hB⟩ : ∃ B : ByteArray, B.data.toList = num := ⟨⟨num.toArray⟩, rfl⟩
              obtain ⟨R, hR⟩ : ∃ R : ByteArray, R.data.toList = more := ⟨⟨more.toArray⟩, rfl⟩
              have hlen := (tk_len hts).1
              subst hB hR
              rw [lst_len, lst_len, lst_len] at hlen
              simp only [Option.bind_some]
              cases l2 with
              | true => exact readUnion_list T z ts f a u S0 b B R w' hb he' hts
              | false =>
                simp only [Bool.false_eq_true, if_false]
                cases hn : numD ts[a].1 ts[a].2 B.data.toList true with
                | none =>
                  obtain ⟨_, _, _, _, _, _, hu', c0', c1', _⟩ := ht'.openT
                  exact readUnion_num T z ts f a u _ _ S0 b B R w' hb he' (by omega) hok c0' c1' (hS' u hu') hts hn
                | some m => exact readUnion_part T z ts f (read_step T z ts f hp) a u m S0 b B R w' ht' hS' ha k9 hts hn (by omega) hb he'
          · rw [if_neg k9]
            have h567 : ts[a].1 = 5 ∨ ts[a].1 = 6 ∨ ts[a].1 = 7 := by omega
            exact readBody_ser T z ts f a u S0 b w ht hS0 ha h567 _ (fun w' hbw => readParts_any T z ts f hp a u S0 b w' (ht.bel hS0 hbw) (hS1 w' hbw) ha h567 hb (he.below hbw))
set_option maxRecDepth 100000 in
set_option maxHeartbeats 4000000 in
theorem take_no (T : TypeId) (z : Value) (ts : List (Int × Int)) (f a u : Nat) (S0 : Nat → Prop) (b : ByteArray) (w : World) (hb : b.size ≤ 1048576) (he : EFv T z w) (hno : rlD true ts (f + 1) a b.data.toList = none) (h : tk true b.data.toList = none) :
    Calls Tryz.prog 128 #[.agg #[], .pointer (some ⟨u, 0, none⟩), .string b] w fun e w' => RkPost T z ts (f + 1) a S0 b w e w' := by
  have HB0 : Hid (Below w.heap.size w (w.alloc (.cells #[] 45))) := bel1 _ _
  have HSP : Hid (∀ w', Below w.heap.size w w' → Calls Tryz.prog 129 #[.string b] w' fun e w'' => e = .returned (.tuple #[.bool false, .string ⟨#[]⟩, .string ⟨#[]⟩, .iface T z]) ∧ Below w'.heap.size w' w'') := fun w' hbw => rlpSplit_no b w' hb h T z (he.below hbw)
  have HN : Hid (rlD true ts (f + 1) a b.data.toList = none) := hno
  clear he h hb hno
  go_enter Tryz.func128, Tryz.ntmps128
  go_wp2_with fail
  refine (HSP.out _ HB0.out).mono ?_
  rintro e w1 ⟨rfl, hb1⟩
  have HB1 : Hid (Below w.heap.size w w1) := HB0.out.trans (hb1.mono HB0.out.size)
  clear hb1
  go_wp2_with fail
  go_ret3
  exact ⟨HB1.out, .inl ⟨HN.out, _, _, .inl rfl, rfl⟩⟩
set_option maxRecDepth 100000 in
set_option maxHeartbeats 4000000 in
theorem take_body (T : TypeId) (z : Value) (ts : List (Int × Int)) (f : Nat) (hp : RkHyp T z ts f) (a u : Nat) (S0 : Nat → Prop) (b B R : ByteArray) (list : Bool) (w : World) (ht : TreeAt ts (f + 1) w S0 u a) (hS0 : ∀ c, S0 c → c < w.heap.size) (ha : a < ts.length) (hb : b.size ≤ 1048576) (he : EFv T z w) (h : tk true b.data.toList = some (list, B.data.toList, R.data.toList)) :
    Calls Tryz.prog 128 #[.agg #[], .pointer (some ⟨u, 0, none⟩), .string b] w fun e w' => RkPost T z ts (f + 1) a S0 b w e w' := by
  have hBs : B.size ≤ 1048576 := by
    have := (tk_len h).1
    rw [lst_len, lst_len, lst_len] at this
    omega
  have HB0 : Hid (Below w.heap.size w (w.alloc (.cells #[] 45))) := bel1 _ _
  have HSP : Hid (∀ w', Below w.heap.size w w' → Calls Tryz.prog 129 #[.string b] w' fun e w'' => e = .returned (.tuple #[.bool list, .string B, .string R, .nilIface]) ∧ Below w'.heap.size w' w'') := fun w' hbw => rlpSplit_yes b B R list w' hb h
  have HBD : Hid (∀ w', Below w.heap.size w w' → Calls Tryz.prog 130 #[.agg #[], .pointer (some ⟨u, 0, none⟩), .bool list, .string B] w' fun e w'' => RrPost T z (rlB true ts[a].1 ts[a].2 (rlD true ts f) (pl ts f a ts[a].1) list B.data.toList) ts (f + 1) a S0 w' e w'') := fun w' hbw => readBody_any T z ts f hp a u S0 list B w' (ht.bel hS0 hbw) (fun c hc => Nat.lt_of_lt_of_le (hS0 c hc) hbw.size) ha hBs (he.below hbw)
  have HRL : Hid (rlD true ts (f + 1) a b.data.toList = (rlB true ts[a].1 ts[a].2 (rlD true ts f) (pl ts f a ts[a].1) list B.data.toList).map fun l => (l, R.data.toList)) := by
    show _ = _
    rw [rlD_at ha, h]; rfl
  clear he h hb hp ht hS0
  go_enter Tryz.func128, Tryz.ntmps128
  go_wp2_with fail
  refine (HSP.out _ HB0.out).mono ?_
  rintro e w1 ⟨rfl, hb1⟩
  have HB1 : Hid (Below w.heap.size w w1) := HB0.out.trans (hb1.mono HB0.out.size)
  clear hb1
  go_wp2_with fail
  refine (HBD.out _ HB1.out).mono ?_
  intro e w2 hpo
  obtain ⟨hb2, ⟨hno, x, hx, rfl⟩ | ⟨l, T', y, hsd, rfl, hd⟩⟩ := hpo.up HB1.out
  · have HN : Hid (rlD true ts (f + 1) a b.data.toList = none) := by show _ = _; rw [HRL.out, hno]; rfl
    clear hno hpo
    rcases hx with rfl | ⟨T1, z1, rfl⟩
    all_goals
      go_wp2_with fail
      go_ret3
      exact ⟨hb2, .inl ⟨HN.out, _, _, by first | exact .inl rfl | exact .inr ⟨_, _, rfl⟩, rfl⟩⟩
  · have HN : Hid (rlD true ts (f + 1) a b.data.toList = some (l, R.data.toList)) := by show _ = _; rw [HRL.out, hsd]; rfl
    have HD : Hid (DAt ts (f + 1) w2 (fun c => S0 c ∨ (w.heap.size ≤ c ∧ c < w2.heap.size)) (.iface T' y) a l) := hd
    clear hsd hpo hd
    go_wp2_with fail
    go_ret3
    exact ⟨hb2, .inr ⟨_, _, _, _, HN.out, rfl, HD.out⟩⟩
theorem take_rl_step (T : TypeId) (z : Value) (ts : List (Int × Int)) (f : Nat) (hp : RkHyp T z ts f) : RkHyp T z ts (f + 1) := by
  intro a u S0 b w ht hS0 hb he
  obtain ⟨ha, _⟩ := ht.openT
  cases h : tk true b.data.toList with
  | none => exact take_no T z ts f a u S0 b w hb he (by rw [rlD_at ha, h]; rfl) h
  | some y =>
    obtain ⟨list, body, rest⟩ := y
    exact take_body T z ts f hp a u S0 b ⟨body.toArray⟩ ⟨rest.toArray⟩ list w ht hS0 ha hb he h
theorem take_rl (T : TypeId) (z : Value) (ts : List (Int × Int)) : ∀ f, RkHyp T z ts f := by
  intro f
  induction f with
  | zero => intro a u S0 b w ht; exact ht.elim
  | succ f ih => exact take_rl_step T z ts f ih
end Go.Proofs.YtdncnjmlicdamaaGreatDoor
