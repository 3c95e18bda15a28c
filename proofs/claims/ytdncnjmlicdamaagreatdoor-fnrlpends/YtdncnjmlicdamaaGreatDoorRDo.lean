/- The specification's reading of RLP: lists. -/
import Derived.Test.YtdncnjmlicdamaaGreatDoorRDn
namespace Go.Proofs.YtdncnjmlicdamaaGreatDoor
open Go.RowKit Go.Sort
set_option linter.unusedVariables false
set_option maxRecDepth 100000 in
set_option maxHeartbeats 16000000 in
theorem l4Dec_list (ts : List (Int × Int)) (f : Nat) (hp : D4Hyp ts f) (a e0 : Nat) (vt : Value) (b B R : ByteArray) (w : World) (hf7 : f + 1 ≤ 7) (hT : IsTyps w.heap.size w vt ts) (hb : b.size ≤ 1048576) (ha : a < ts.length) (hok : tyOk ts[a].1 ts[a].2 = true) (hit : iter (en ts f) (a + 1) (kids ts[a].1 ts[a].2) = some e0)
    (hk : ts[a].1 = 5) (h : tk false b.data.toList = some (true, B.data.toList, R.data.toList)) :
    Calls Tryz.prog 27 #[vt, .int .i64 a, .string b] w fun e w' => D4Post ts (f + 1) a b w e w' := by
  have hBs : B.size ≤ 1048576 := by
    have := (tk_len h).1
    rw [lst_len, lst_len, lst_len] at this
    omega
  have HRD : Hid (rlD false ts (f + 1) a b.data.toList = (rlB false ts[a].1 ts[a].2 (rlD false ts f) (pl ts f a ts[a].1) true B.data.toList).map fun l => (l, R.data.toList)) := by
    show _ = _
    rw [rlD_at ha, h]; rfl
  have HTK : Hid (∀ w, Calls Tryz.prog 47 #[.string b] w fun e w' => e = .returned (.tuple #[.bool true, .string B, .string R, .bool true]) ∧ Below w.heap.size w w') := fun w => l4Take_yes b B R true w hb h
  have HT : Hid (IsTyps w.heap.size w vt ts) := hT
  have HP : Hid (D4Hyp ts f) := hp
  have hDN : ∀ p, rlD false ts f p [] = none := rlD_nil false ts f
  obtain ⟨bt', o, capT, hv', hbt, h1, h2, c0, c1⟩ := hT.at ha
  have hst := hT.small
  unfold maxLen at h2
  obtain ⟨n, hn⟩ : ∃ n, ts[a].2 = n := ⟨_, rfl⟩
  rw [hk] at c0 hok HRD hit
  rw [hn] at c1 hok HRD hit
  have hok' := hok
  simp only [tyOk, decide_eq_true_eq] at hok'
  obtain ⟨N, rfl⟩ := Int.eq_ofNat_of_zero_le (show 0 ≤ n by omega)
  have hN20 : N ≤ 20 := by omega
  have hN1 : 1 ≤ N := by omega
  obtain ⟨e', he'⟩ : ∃ e', en ts f (a + 1) = some e' := by
    have hki : kids 5 (N : Int) = 1 := rfl
    rw [hki] at hit
    simp only [iter] at hit
    exact ⟨e0, hit⟩
  have hRB := rlB_list (st := false) (n := (N : Int)) (rlD false ts f) (pl ts f a 5) B.data.toList (by omega)
  rw [Int.toNat_natCast] at hRB
  have HRL : Hid (rlD false ts (f + 1) a b.data.toList = ((partsL (rlD false ts f) (fun _ => a + 1) N 0 B.data.toList).map fun ls => ⟨5, ls.length, ⟨#[]⟩⟩ :: ls.flatten).map fun l => (l, R.data.toList)) := by
    show _ = _
    rw [HRD.out, hRB]; rfl
  have hp21 : 20 * 21 ^ f ≤ 1801088540 := by
    have : 21 ^ f ≤ 21 ^ 6 := Nat.pow_le_pow_right (by decide) (by omega)
    omega
  obtain ⟨L21, hL21⟩ : ∃ L, 21 ^ f = L := ⟨_, rfl⟩
  have HM2 : Hid (∀ c l r, rlD false ts f (a + 1) c = some (l, r) → 0 < l.length ∧ l.length ≤ L21) := fun c l r hd => by have := rlD_many he' hd; rw [hL21] at this; exact ⟨by omega, this.2.1⟩
  rw [hL21] at hp21
  obtain ⟨i0, hi, hz0, hz1, hz2⟩ := info_parts Tryz.infoItem
  have HC0 : Hid (∀ J w', J.size ≤ 1048576 → Below w.heap.size w w' → Calls Tryz.prog 27 #[vt, .int .i64 ((a : Int) + 1), .string J] w' fun e w'' => D4Post ts f (a + 1) J w' e w'') := fun J w' hJs hb' => HP.out (a + 1) e' vt J w' (by omega) he' ((HT.out.below hb').up hb'.size) hJs
  have ha1 : (a : Int) + 1 ≤ 1048578 := by omega
  clear hit hT hp hn h hb hRB hL21 he' hok hok' HRD hk hDN
  subst hv'
  go_enter Tryz.func27, Tryz.ntmps27
  go_wp2_with fail
  refine (HTK.out _).mono ?_
  rintro e w1 ⟨rfl, hb1⟩
  have HB1 : Hid (Below w.heap.size w w1) := (bel1 _ _).trans (hb1.mono (by simp))
  have HT1 : Hid (w1.heap[w.heap.size]? = some (.cells #[.int .i64 5, .int .i64 (N : Int)] 88 (0, 0))) := (hb1.block _ (by simp)).trans (heap_alloc_new w _)
  have hx1 : w.heap.size < w1.heap.size := blk_lt HT1.out
  have x0 : w1.cell? ⟨w.heap.size, 0, none⟩ = some (.int .i64 5) := by rw [hb1.cell (p := ⟨w.heap.size, 0, none⟩) (by simp)]; simp [go_sem]
  have x1 : w1.cell? ⟨w.heap.size, 1, none⟩ = some (.int .i64 (N : Int)) := by rw [hb1.cell (p := ⟨w.heap.size, 1, none⟩) (by simp)]; simp [go_sem]
  have y0 := cell_alD (o := .cells #[.int .i64 5, .int .u64 0, .string ⟨#[]⟩] 52) x0
  have z0 := cell_alD (o := .cells #[] 52) y0
  clear hb1
  obtain ⟨wd, hwd0⟩ : ∃ wd, (w1.alloc (.cells #[.int .i64 5, .int .u64 0, .string ⟨#[]⟩] 52)).alloc (.cells #[] 52) = wd := ⟨_, rfl⟩
  have HBD : Hid (Below w.heap.size w wd) := by rw [← hwd0]; exact (HB1.out.alloc HB1.out.size _).alloc (by simp; omega) _
  have HTD : Hid (wd.heap[w.heap.size]? = some (.cells #[.int .i64 5, .int .i64 (N : Int)] 88 (0, 0))) := by
    show _ = _
    rw [← hwd0, Below.heap_alloc _ _ _ (by simp; omega), Below.heap_alloc _ _ _ hx1]; exact HT1.out
  have HXD : Hid (wd.heap[w1.heap.size]? = some (.cells #[.int .i64 5, .int .u64 ((0 : Nat) : Int), .string ⟨#[]⟩] 52 (0, 0))) := by
    show _ = _
    rw [← hwd0, Below.heap_alloc _ _ _ (by simp)]; exact heap_alloc_new w1 _
  have HOD : Hid (OwnIt (w1.heap.size + 1) wd (.slice (some ⟨w1.heap.size + 1, 0, none⟩) 0 0) []) := by
    have h1 := World.ownsRow_lit (base := w1.heap.size + 1) (e := 52) (size := 3) (w1.alloc (.cells #[.int .i64 5, .int .u64 0, .string ⟨#[]⟩] 52)) #[] 0 (by simp) (by decide) rfl
    rw [hwd0, show (w1.alloc (.cells #[.int .i64 5, .int .u64 0, .string ⟨#[]⟩] 52)).heap.size = w1.heap.size + 1 by simp] at h1
    exact h1
  have hd5 : decide ((5 : Int) ≤ 5) = true := rfl
  have hwd : Hid ((w1.alloc (.cells #[.int .i64 5, .int .u64 0, .string ⟨#[]⟩] 52)).alloc (.cells #[] 52) = wd) := hwd0
  clear HB1 HT1 hwd0
  go_wp2_with fail
  go_loopg [11, 23] (N + 1) (fun gk inv u wr => ∃ (j : Nat) (J : ByteArray) (ls : List (List It)), j + gk = N + 1 ∧ j ≤ N ∧ inv = .string J ∧ J.size ≤ 1048576 ∧ partsL (rlD false ts f) (fun _ => a + 1) N 0 B.data.toList = (partsL (rlD false ts f) (fun _ => a + 1) (N - j) j J.data.toList).map (ls ++ ·) ∧ ls.length = j ∧ ls.flatten.length ≤ j * L21 ∧ j ≤ ls.flatten.length ∧ OwnIt (w1.heap.size + 1) wr u ls.flatten ∧ Below w.heap.size w wr ∧ wr.heap[w.heap.size]? = some (.cells #[.int .i64 5, .int .i64 (N : Int)] 88 (0, 0)) ∧ wr.heap[w1.heap.size]? = some (.cells #[.int .i64 5, .int .u64 (j : Nat), .string ⟨#[]⟩] 52 (0, 0)) ∧ (j = 0 → u = .slice (some ⟨w1.heap.size + 1, 0, none⟩) 0 0))
  case atStart =>
    rw [hwd.out]
    exact ⟨0, B, [], by omega, by omega, rfl, hBs, by simp, rfl, by simp, by simp, HOD.out, HBD.out, HTD.out, HXD.out, fun _ => rfl⟩
  case round =>
    obtain ⟨j, J, ls, hj', hj, rfl, hJs, hpd, hll, hlen0, hlen1, hown, hbw, htb, hxb, hu0⟩ := hrel
    have HJ : Hid (j + gk = N + 1) := hj'
    have hjL : j * L21 ≤ 20 * L21 := Nat.mul_le_mul_right _ (by omega)
    obtain ⟨vs, hvs⟩ : ∃ vs, ls.flatten = vs := ⟨_, rfl⟩
    have HVS : Hid (ls.flatten = vs) := hvs
    rw [hvs] at hown hlen0 hlen1
    have hvl : vs.length ≤ 1801088540 := by omega
    have HL0 : Hid (vs.length ≤ j * L21) := hlen0
    have HL1 : Hid (j ≤ vs.length) := hlen1
    have HLL : Hid (ls.length = j) := hll
    have HOv : Hid (OwnIt (w1.heap.size + 1) wr u23 vs) := hown
    have HPD : Hid (partsL (rlD false ts f) (fun _ => a + 1) N 0 B.data.toList = (partsL (rlD false ts f) (fun _ => a + 1) (N - j) j J.data.toList).map (ls ++ ·)) := hpd
    have HBr : Hid (Below w.heap.size w wr) := hbw
    have HTB : Hid (wr.heap[w.heap.size]? = some (.cells #[.int .i64 5, .int .i64 (N : Int)] 88 (0, 0))) := htb
    have HXB : Hid (wr.heap[w1.heap.size]? = some (.cells #[.int .i64 5, .int .u64 (j : Nat), .string ⟨#[]⟩] 52 (0, 0))) := hxb
    have HU0 : Hid (j = 0 → u23 = .slice (some ⟨w1.heap.size + 1, 0, none⟩) 0 0) := hu0
    have hsr : w.heap.size ≤ wr.heap.size := HBr.out.size
    have hxr : w1.heap.size < wr.heap.size := blk_lt hxb
    obtain ⟨adu, capu, rfl, hu1, hu2, hu3⟩ := hown.form
    unfold maxLen at hu2
    clear hj' hown hbw hu3 hpd hlen0 hlen1 hjL hvs hu0 hll htb hxb
    by_cases hJ0 : J.size = 0
    · have hemp : J.toList.isEmpty = true := by rw [str_empty]; exact decide_eq_true hJ0
      have hnil : J.data.toList = [] := List.eq_nil_of_length_eq_zero (by rw [lst_len]; exact hJ0)
      have HFIN : Hid (rlD false ts (f + 1) a b.data.toList = some (⟨5, j, ⟨#[]⟩⟩ :: vs, R.data.toList)) := by
        show _ = _
        have e1 : partsL (rlD false ts f) (fun _ => a + 1) (N - j) j [] = some [] := by cases N - j <;> simp [partsL]
        rw [HRL.out, HPD.out, hnil, e1]
        simp only [Option.map_some, List.append_nil]
        rw [HVS.out, HLL.out]
      have g0 := (row_factsD HXB.out).1 0
      have g1 := (row_factsD HXB.out).1 1
      have g2 := (row_factsD HXB.out).1 2
      simp only [List.getElem?_toArray, List.getElem?_cons_succ, List.getElem?_cons_zero] at g0 g1 g2
      have g0' := cell_alD (o := .cells #[.int .i64 5, .int .u64 (j : Int), .string ⟨#[]⟩] 52) g0
      have g1' := cell_alD (o := .cells #[.int .i64 5, .int .u64 (j : Int), .string ⟨#[]⟩] 52) g1
      have g2' := cell_alD (o := .cells #[.int .i64 5, .int .u64 (j : Int), .string ⟨#[]⟩] 52) g2
      have hsa : (wr.alloc (.cells #[.int .i64 5, .int .u64 (j : Int), .string ⟨#[]⟩] 52)).heap.size = wr.heap.size + 1 := by simp
      have HLI : Hid (OwnIt w.heap.size (wr.alloc (.cells #[.int .i64 5, .int .u64 (j : Int), .string ⟨#[]⟩] 52)) (.slice (some ⟨wr.heap.size, 0, none⟩) 1 1) [⟨5, j, ⟨#[]⟩⟩]) := lit_own wr ⟨5, j, ⟨#[]⟩⟩ hsr
      have HBL : Hid (Below w.heap.size w (wr.alloc (.cells #[.int .i64 5, .int .u64 (j : Int), .string ⟨#[]⟩] 52))) := HBr.out.alloc hsr _
      clear hnil
      by_cases hv0 : vs.length = 0
      · have hj0 : j = 0 := by have := HL1.out; omega
        have hvn : vs = [] := List.eq_nil_of_length_eq_zero hv0
        have hue := HU0.out hj0
        rw [hv0] at hue
        simp only [Value.slice.injEq] at hue
        obtain ⟨rfl, _, rfl⟩ := hue
        subst hvn
        clear hv0 hJ0 hj0
        go_wp2_with fail
        go_ret3
        exact ⟨.inr ⟨_, _, _, HFIN.out, rfl, HLI.out⟩, HBL.out⟩
      · obtain ⟨g8, cap8, hsl, hg8b, hg8l⟩ := World.ownsRow.form HOv.out (by omega)
        simp only [Value.slice.injEq] at hsl
        obtain ⟨rfl, _, rfl⟩ := hsl
        have HC8 : Hid ((wr.alloc (.cells #[.int .i64 5, .int .u64 (j : Int), .string ⟨#[]⟩] 52)).ownsRow (w1.heap.size + 1) 52 3 (.slice (some ⟨g8, 0, none⟩) vs.length capu) vs.length (flatI vs)) := HOv.out.alloc _
        have fin : ∀ g9 cap9 (w9 : World), w9.ownsRow w.heap.size 52 3 (.slice (some ⟨g9, 0, none⟩) (1 + vs.length) cap9) (1 + vs.length) (flatI [⟨5, j, ⟨#[]⟩⟩] ++ flatI vs) → (wr.alloc (.cells #[.int .i64 5, .int .u64 (j : Int), .string ⟨#[]⟩] 52)).grownBy w9 (Value.slice (some ⟨wr.heap.size, 0, none⟩) 1 1).ownBlock → OwnIt w.heap.size w9 (.slice (some ⟨g9, 0, none⟩) (1 + vs.length) cap9) (⟨5, j, ⟨#[]⟩⟩ :: vs) ∧ Below w.heap.size w w9 := fun g9 cap9 w9 hown9 hgrow => by
          refine ⟨?_, HBL.out.grown hgrow HBL.out.size (fun q hq => (World.ownsRow.lt HLI.out q hq).1)⟩
          unfold OwnIt
          rw [show (⟨5, j, ⟨#[]⟩⟩ :: vs : List It) = [⟨5, j, ⟨#[]⟩⟩] ++ vs from rfl, flatI_app, List.length_append]
          exact hown9
        have HF : Hid _ := fin
        clear fin hJ0
        go_wp2_with (at_builtin; refine wpList_append_lies _ rfl _ _ 25 rfl w.heap.size 52 i0 (.agg #[.int .i64 0, .int .u64 0, .string ByteArray.empty]) 3 32 Tryz.underlying25 hi hz0 hz1 hz2 rfl (by decide) (.slice (some ⟨wr.heap.size, 0, none⟩) 1 1) 1 (flatI [⟨5, j, ⟨#[]⟩⟩]) rfl HLI.out ⟨g8, 0, none⟩ vs.length capu (flatI vs) rfl (flatI_len vs) (fun j u hu => HC8.out.cells (g := g8) rfl j u hu) (flatI_one _) (by omega) (by unfold maxLen; omega) (by omega) (by simp; omega) _ rfl ?_)
        intro g9 cap9 w9 hown9 hgrow hat hlt9
        have HX : Hid _ := HF.out g9 cap9 w9 hown9 hgrow
        clear hown9 hgrow hat hlt9
        go_wp2_with fail
        go_ret3
        exact ⟨.inr ⟨_, _, _, HFIN.out, rfl, HX.out.1⟩, HX.out.2⟩
    · have hemp : J.toList.isEmpty = false := by rw [str_empty]; exact decide_eq_false hJ0
      have hne : J.data.toList ≠ [] := fun e => hJ0 (by rw [← lst_len, e]; rfl)
      cases hsc : rlD false ts f (a + 1) J.data.toList with
      | none =>
        have HC : Hid (∀ w', Below wr.heap.size wr w' → Calls Tryz.prog 27 #[.slice (some ⟨bt', o, none⟩) ts.length capT, .int .i64 ((a : Int) + 1), .string J] w' fun e w'' => (∃ v y, e = .returned (.tuple #[v, .string y, .bool false])) ∧ Below w'.heap.size w' w'') := fun w' hb' => (HC0.out J w' hJs (HBr.out.trans (hb'.mono hsr))).mono (by
          rintro e w'' ⟨⟨_, v, y, rfl⟩ | ⟨l, q, v, hd, _⟩, hb2⟩
          · exact ⟨⟨v, y, rfl⟩, hb2⟩
          · rw [hsc] at hd; cases hd)
        have HNN : Hid (rlD false ts (f + 1) a b.data.toList = none) := by
          show _ = _
          have e1 : partsL (rlD false ts f) (fun _ => a + 1) (N - j) j J.data.toList = none := by
            cases N - j with
            | zero => simp [partsL, hne]
            | succ r => simp only [partsL]; rw [if_neg hne, hsc]; rfl
          rw [HRL.out, HPD.out, e1]; rfl
        clear hsc hne hJ0
        go_wp2_with fail
        refine (HC.out _ (Below.refl _ _)).mono ?_
        rintro e w3 ⟨⟨v3, y3, rfl⟩, hb3⟩
        have HB3 : Hid (Below wr.heap.size wr w3) := hb3
        clear hb3
        go_wp2_with fail
        go_ret3
        exact ⟨.inl ⟨HNN.out, _, _, rfl⟩, HBr.out.trans (HB3.out.mono hsr)⟩
      | some lq =>
        obtain ⟨l, RL⟩ := lq
        obtain ⟨J2, hJ2⟩ : ∃ J2 : ByteArray, J2.data.toList = RL := ⟨⟨RL.toArray⟩, rfl⟩
        have hJ2s : J2.size ≤ 1048576 := by
          have h1 := rlD_rest hsc
          rw [← hJ2, lst_len, lst_len] at h1
          omega
        have HC : Hid (∀ w', Below wr.heap.size wr w' → Calls Tryz.prog 27 #[.slice (some ⟨bt', o, none⟩) ts.length capT, .int .i64 ((a : Int) + 1), .string J] w' fun e w'' => (∃ v, e = .returned (.tuple #[v, .string J2, .bool true]) ∧ OwnIt w'.heap.size w'' v l) ∧ Below w'.heap.size w' w'') := fun w' hb' => (HC0.out J w' hJs (HBr.out.trans (hb'.mono hsr))).mono (by
          rintro e w'' ⟨⟨hd, _⟩ | ⟨l1, q1, v, hd, rfl, ho⟩, hb2⟩
          · rw [hsc] at hd; cases hd
          · rw [hsc] at hd
            simp only [Option.some.injEq, Prod.mk.injEq] at hd
            obtain ⟨rfl, hq⟩ := hd
            have e1 : q1 = J2 := ba_ext (by rw [hJ2, hq])
            exact ⟨⟨v, by rw [e1], ho⟩, hb2⟩)
        obtain ⟨hl8, hl21⟩ := HM2.out _ l RL hsc
        by_cases hjN : j < N
        · have HPOS : Hid (partsL (rlD false ts f) (fun _ => a + 1) N 0 B.data.toList = (partsL (rlD false ts f) (fun _ => a + 1) (N - (j + 1)) (j + 1) J2.data.toList).map ((ls ++ [l]) ++ ·)) := by
            show _ = _
            rw [HPD.out, show N - j = (N - (j + 1)) + 1 by omega]
            simp only [partsL]
            rw [if_neg hne, hsc, hJ2]
            simp only [Option.bind_some, Option.map_map]
            congr 1
            funext y
            simp
          have i1 : decide ((N : Int) ≤ (j : Int)) = false := decide_eq_false (by omega)
          clear hsc hne hJ0 hJ2
          go_wp2_with fail
          refine (HC.out _ (Below.refl _ _)).mono ?_
          rintro e w3 ⟨⟨v8, rfl, ho3⟩, hb3⟩
          have HB3 : Hid (Below wr.heap.size wr w3) := hb3
          have HO3 : Hid (OwnIt wr.heap.size w3 v8 l) := ho3
          clear hb3 ho3
          obtain ⟨g8, cap8, rfl, hg8b, hg8l⟩ := World.ownsRow.form HO3.out hl8
          have HO8 : Hid (OwnIt (w1.heap.size + 1) w3 (.slice adu vs.length capu) vs) := HOv.out.kept HB3.out
          have HC8 : Hid (w3.ownsRow wr.heap.size 52 3 (.slice (some ⟨g8, 0, none⟩) l.length cap8) l.length (flatI l)) := HO3.out
          have HB8 : Hid (Below w.heap.size w w3) := HBr.out.trans (HB3.out.mono hsr)
          have hs8 : wr.heap.size ≤ w3.heap.size := HB3.out.size
          have HT3 : Hid (w3.heap[w.heap.size]? = some (.cells #[.int .i64 5, .int .i64 (N : Int)] 88 (0, 0))) := (HB3.out.block _ (blk_lt HTB.out)).trans HTB.out
          have HX3 : Hid (w3.heap[w1.heap.size]? = some (.cells #[.int .i64 5, .int .u64 (j : Nat), .string ⟨#[]⟩] 52 (0, 0))) := (HB3.out.block _ hxr).trans HXB.out
          have t1 := (row_factsD HT3.out).1 1
          have q1 := (row_factsD HX3.out).1 1
          simp only [List.getElem?_toArray, List.getElem?_cons_succ, List.getElem?_cons_zero] at t1 q1
          have hsum : vs.length + l.length ≤ 3700000000 := by omega
          have HL8 : Hid (0 < l.length) := hl8
          have HL21 : Hid (l.length ≤ L21) := hl21
          clear ha1 hl8 hl21
          go_wp2_with (at_builtin; refine wpList_append_lies _ rfl _ _ 25 rfl (w1.heap.size + 1) 52 i0 (.agg #[.int .i64 0, .int .u64 0, .string ByteArray.empty]) 3 32 Tryz.underlying25 hi hz0 hz1 hz2 rfl (by decide) (.slice adu vs.length capu) vs.length (flatI vs) rfl HO8.out ⟨g8, 0, none⟩ l.length cap8 (flatI l) rfl (flatI_len l) (fun j u hu => HC8.out.cells (g := g8) rfl j u hu) (flatI_one _) HL8.out (by unfold maxLen; omega) (by omega) (by omega) _ rfl ?_)
          intro g9 cap9 w9 hown9 hgrow hat hlt9
          have hou : ∀ q, (Value.slice adu vs.length capu).ownBlock = some q → w1.heap.size + 1 ≤ q := fun q hq => (World.ownsRow.lt HO8.out q hq).1
          have hX9 : w9.heap[w1.heap.size]? = some (.cells #[.int .i64 5, .int .u64 (j : Nat), .string ⟨#[]⟩] 52 (0, 0)) := (hgrow.block _ (by omega) (fun e => by have := hou _ e.symm; omega)).trans HX3.out
          have hT9 : w9.heap[w.heap.size]? = some (.cells #[.int .i64 5, .int .i64 (N : Int)] 88 (0, 0)) := (hgrow.block _ (by omega) (fun e => by have := hou _ e.symm; omega)).trans HT3.out
          have m1 := (row_factsD hX9).1 1
          have f1 := (row_factsD hX9).2 1
          simp only [List.getElem?_toArray, List.getElem?_cons_succ, List.getElem?_cons_zero] at m1
          have R1 : Below w.heap.size w w9 := HB8.out.grown hgrow HB8.out.size (fun q hq => by have := hou q hq; omega)
          have R3 : OwnIt (w1.heap.size + 1) w9 (.slice (some ⟨g9, 0, none⟩) (vs.length + l.length) cap9) (ls ++ [l]).flatten := by
            have e1 : (ls ++ [l]).flatten = vs ++ l := by rw [← HVS.out]; simp
            rw [e1]
            unfold OwnIt; rw [flatI_app, List.length_append]; exact hown9
          have R6 : (ls ++ [l]).flatten.length ≤ (j + 1) * L21 ∧ j + 1 ≤ (ls ++ [l]).flatten.length := by
            have e1 : (ls ++ [l]).flatten = vs ++ l := by rw [← HVS.out]; simp
            rw [e1, List.length_append, Nat.succ_mul]
            have := HL0.out
            have := HL1.out
            have := HL8.out
            have := HL21.out
            omega
          have HX : Hid ((ls ++ [l]).length = j + 1 ∧ (ls ++ [l]).flatten.length ≤ (j + 1) * L21 ∧ j + 1 ≤ (ls ++ [l]).flatten.length ∧ OwnIt (w1.heap.size + 1) (w9.setCell ⟨w1.heap.size, 1, none⟩ (.int .u64 ((j + 1 : Nat) : Int))) (.slice (some ⟨g9, 0, none⟩) (vs.length + l.length) cap9) (ls ++ [l]).flatten ∧ Below w.heap.size w (w9.setCell ⟨w1.heap.size, 1, none⟩ (.int .u64 ((j + 1 : Nat) : Int))) ∧ (w9.setCell ⟨w1.heap.size, 1, none⟩ (.int .u64 ((j + 1 : Nat) : Int))).heap[w.heap.size]? = some (.cells #[.int .i64 5, .int .i64 (N : Int)] 88 (0, 0)) ∧ (w9.setCell ⟨w1.heap.size, 1, none⟩ (.int .u64 ((j + 1 : Nat) : Int))).heap[w1.heap.size]? = some (.cells #[.int .i64 5, .int .u64 ((j + 1 : Nat) : Int), .string ⟨#[]⟩] 52 (0, 0)) ∧ (j + 1 = 0 → (Value.slice (some ⟨g9, 0, none⟩) (vs.length + l.length) cap9) = .slice (some ⟨w1.heap.size + 1, 0, none⟩) 0 0)) :=
            ⟨by rw [List.length_append, HLL.out]; rfl, R6.1, R6.2, ownsRow_setCell_below R3 (a := ⟨w1.heap.size, 1, none⟩) (by simp) _, R1.setCell (p := ⟨w1.heap.size, 1, none⟩) (by simp; omega) _, by rw [Below.heap_setCell _ _ _ _ (show w.heap.size ≠ w1.heap.size by omega)]; exact hT9, set_block (i := 1) hX9 _, fun h => by omega⟩
          clear R1 R3 R6 hown9 hgrow hat hlt9 hX9 hT9
          go_wp2_with fail
          go_roundg (gk - 1)
          case rel => exact ⟨j + 1, J2, ls ++ [l], by have := HJ.out; omega, by omega, rfl, hJ2s, HPOS.out, HX.out⟩
          case measure => have := HJ.out; omega
        · have ej : j = N := by omega
          have HNN : Hid (rlD false ts (f + 1) a b.data.toList = none) := by
            show _ = _
            rw [HRL.out, HPD.out, show N - j = 0 by omega]
            simp [partsL, hne]
          have i1 : decide ((N : Int) ≤ (j : Int)) = true := decide_eq_true (by omega)
          clear hsc hne hJ0 hJ2
          go_wp2_with fail
          refine (HC.out _ (Below.refl _ _)).mono ?_
          rintro e w3 ⟨⟨v8, rfl, ho3⟩, hb3⟩
          have HB3 : Hid (Below wr.heap.size wr w3) := hb3
          have HT3 : Hid (w3.heap[w.heap.size]? = some (.cells #[.int .i64 5, .int .i64 (N : Int)] 88 (0, 0))) := (hb3.block _ (blk_lt HTB.out)).trans HTB.out
          have HX3 : Hid (w3.heap[w1.heap.size]? = some (.cells #[.int .i64 5, .int .u64 (j : Nat), .string ⟨#[]⟩] 52 (0, 0))) := (hb3.block _ hxr).trans HXB.out
          have t1 := (row_factsD HT3.out).1 1
          have q1 := (row_factsD HX3.out).1 1
          simp only [List.getElem?_toArray, List.getElem?_cons_succ, List.getElem?_cons_zero] at t1 q1
          clear hb3 ho3
          go_wp2_with fail
          go_ret3
          exact ⟨.inl ⟨HNN.out, _, _, rfl⟩, HBr.out.trans (HB3.out.mono hsr)⟩
theorem l4Dec_step (ts : List (Int × Int)) (f : Nat) (hp : D4Hyp ts f) : D4Hyp ts (f + 1) := by
  intro a e0 vt b w hf7 he hT hb
  obtain ⟨ha, hok, hit⟩ := en_inv he
  have hok' := hok
  simp only [tyOk, decide_eq_true_eq] at hok'
  cases h : tk false b.data.toList with
  | none => exact l4Dec_tk ts f a vt b w hT hb ha h
  | some y =>
    obtain ⟨list, cl, dl⟩ := y
    obtain ⟨B, hB⟩ : ∃ B : ByteArray, B.data.toList = cl := ⟨⟨cl.toArray⟩, rfl⟩
    obtain ⟨R, hR⟩ : ∃ R : ByteArray, R.data.toList = dl := ⟨⟨dl.toArray⟩, rfl⟩
    subst hB hR
    by_cases hl : list = decide (5 ≤ ts[a].1)
    · by_cases h5 : 5 ≤ ts[a].1
      · rw [decide_eq_true h5] at hl
        subst hl
        by_cases hk5 : ts[a].1 = 5
        · exact l4Dec_list ts f hp a e0 vt b B R w hf7 hT hb ha hok hit hk5 h
        · exact l4Dec_plan ts f hp a e0 vt b B R w hf7 hT hb ha hok hit (by omega) h
      · rw [decide_eq_false h5] at hl
        subst hl
        by_cases h12 : ts[a].1 = 1 ∨ ts[a].1 = 2
        · cases hn : numD ts[a].1 ts[a].2 B.data.toList false with
          | none => exact l4Dec_num ts f a 0 false vt b B R w hT hb ha h12 h (.inl ⟨rfl, hn⟩) (fun w => l4Parse_no B w hn)
          | some m => exact l4Dec_num ts f a m true vt b B R w hT hb ha h12 h (.inr ⟨rfl, hn⟩) (fun w => l4Parse_some B m w hn)
        · exact l4Dec_str ts f a vt b B R w hT hb ha (by omega) h
    · exact l4Dec_wrong ts f a vt b B R list w hT hb ha h hl
theorem l4Dec_all (ts : List (Int × Int)) : ∀ f, D4Hyp ts f := by
  intro f
  induction f with
  | zero => intro a e0 vt b w _ h; cases h
  | succ f ih => exact l4Dec_step ts f ih
end Go.Proofs.YtdncnjmlicdamaaGreatDoor
