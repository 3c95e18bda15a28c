/- S9b, S9c, S9d: one text. -/
import Derived.Test.YtjpdhenmhffmeaaDoorS7b
import Derived.Shelf.Strings.Builder1
import Derived.Test.YtjpdhenmhffmeaaDoorS9a
import Derived.Test.YtjpdhenmhffmeaaDoorS6c
import Derived.Test.YtjpdhenmhffmeaaDoorS7c
namespace Go.Proofs.YtjpdhenmhffmeaaDoor
open Go.RowKit Go.Sort Go.Shelf
set_option linter.unusedVariables false
theorem Tryd.lays240 : Go.Proofs.Lays.n240 Tryd.prog Tryd.lays166_ren := { mixed := Tryd.lays166.mixed, f240 := Tryd.lays166.f240, f276 := Tryd.lays166.f276, t0 := Tryd.lays166.t0, a0 := Tryd.lays166.a0, z0 := Tryd.lays166.z0, v0 := Tryd.lays166.v0, t4 := Tryd.lays166.t4, a4 := Tryd.lays166.a4, z4 := Tryd.lays166.z4, v4 := Tryd.lays166.v4, t9 := Tryd.lays166.t9, a9 := Tryd.lays166.a9, z9 := Tryd.lays166.z9, v9 := Tryd.lays166.v9, t20 := Tryd.lays166.t20, a20 := Tryd.lays166.a20, z20 := Tryd.lays166.z20, v20 := Tryd.lays166.v20, t70 := Tryd.lays166.t70, a70 := Tryd.lays166.a70, z70 := Tryd.lays166.z70, v70 := Tryd.lays166.v70, t72 := Tryd.lays166.t72, a72 := Tryd.lays166.a72, z72 := Tryd.lays166.z72, v72 := Tryd.lays166.v72, t164 := Tryd.lays166.t164, a164 := Tryd.lays166.a164, z164 := Tryd.lays166.z164, v164 := Tryd.lays166.v164 }
theorem ba_none {X : ByteArray} {n : Nat} (h : X.size = n) : X = ByteArray.empty ↔ n = 0 := by
  constructor
  · intro e
    rw [e] at h
    exact h.symm
  · intro e
    rw [e] at h
    obtain ⟨⟨m⟩⟩ := X
    have : m = [] := by simpa [ByteArray.size] using h
    subst this; rfl
/-- Where what has been appended to lies: where it lay, or in a new block. -/
theorem append_at {P : Program} {w : World} {base : Nat} {t u ty e : TypeId} {i : TypeInfo} (ht : P.underlying t = some (.slice e)) (hu : P.underlying u = some .string) (hi : P.info? e = some i) (hz : i.zero = some (.int .u8 0)) (hsize : i.size = 1) (hby : i.bytes = 1)
    {v : Value} {n : Nat} {xs : List Value} (hown : w.ownsRow base e 1 v n xs) (s : ByteArray) (h63 : n + s.size ≤ maxLen) (hbytes : n + s.size ≤ 140737488355328) (hbase : base ≤ w.heap.size) {v' : Value} {w' : World}
    (hr : (Builtin.append_ #[t, u] ty #[v, .string s]).run P w = .ok v' w') (hn : v' = .slice none 0 0 ↔ v = .slice none 0 0 ∧ s.size = 0) : ∀ g, v'.ownBlock = some g → v.ownBlock = some g ∨ w.heap.size ≤ g := by
  intro g hg
  unfold maxLen at h63
  have hxl : xs.length = n := by simpa using hown.1
  rcases hown.2 with ⟨rfl, rfl⟩ | ⟨g0, cap, cur, rfl, hbg, hgg, hnc, hcm, hcs, htake⟩
  · by_cases hm : s.size = 0
    · rw [hn.2 ⟨rfl, hm⟩] at hg
      simp [Value.ownBlock] at hg
    · have h2 := run_append_nil_string (P := P) w t u ty e i (.int .u8 0) ht hu hi hz s (by omega) (by omega) (by rw [hby]; omega)
      rw [h2] at hr
      injection hr with h3 h4
      subst h3
      have : w.heap.size = g := by simpa [Value.ownBlock] using hg
      exact .inr (by omega)
  · by_cases hroom : n + s.size ≤ cap
    · have hcs' : cur.size = cap := by simpa using hcs
      have h2 := Lib.run_append_room_string (P := P) w t u ty e i ht hu hi hsize g0 n cap cur hgg s hroom (by omega)
      rw [h2] at hr
      injection hr with h3 h4
      subst h3
      exact .inl (by simpa [Value.ownBlock] using hg)
    · have holds : ∀ j u, xs[j]? = some u → w.cell? ((⟨g0, 0, none⟩ : Addr).add j) = some u := hown.cells (g := g0) rfl
      have h2 := Lib.run_append_grow_string (P := P) w t u ty e i (.int .u8 0) ht hu hi hz ⟨g0, 0, none⟩ n cap xs (by rw [hsize]; simpa using hxl) holds s (by omega) (by omega) (by rw [hby]; exact growslice_fits (by omega) (by omega))
      rw [h2] at hr
      injection hr with h3 h4
      subst h3
      have : w.heap.size = g := by simpa [Value.ownBlock] using hg
      exact .inr (by omega)
theorem wpList_append_at {P : Program} {w : World} {ops : Array Oper} {rest : List Oper} {o : Oper} {a : Act} {Q : Exit → Act → World → Prop} (hgd : o.guard = none) (sl x : Operand) (t u : TypeId)
    (ho : o.op = .call { callee := .builtin .append, args := #[sl, x], argTypes := #[t, u] }) (base : Nat) (e : TypeId) (i : TypeInfo) (ht : P.underlying t = some (.slice e)) (hu : P.underlying u = some .string) (hi : P.info? e = some i) (hz : i.zero = some (.int .u8 0)) (hsize : i.size = 1) (hby : i.bytes = 1)
    (v : Value) (n : Nat) (xs : List Value) (hs : a.eval sl = v) (hown : w.ownsRow base e 1 v n xs) (s : ByteArray) (hx : a.eval x = .string s) (h63 : n + s.size ≤ maxLen) (hbytes : n + s.size ≤ 140737488355328) (hbase : base ≤ w.heap.size)
    (h : ∀ v' w', w'.ownsRow base e 1 v' (n + s.size) (xs ++ Lib.strCells s) → w.grownBy w' v.ownBlock → (v' = .slice none 0 0 ↔ v = .slice none 0 0 ∧ s.size = 0) → (∀ g, v'.ownBlock = some g → v.ownBlock = some g ∨ w.heap.size ≤ g) → wpList P ops Q rest (a.put o.dst v') w') : wpList P ops Q (o :: rest) a w := by
  obtain ⟨v', w', hr, h2, h3, h4⟩ := Lib.run_append_own_string (P := P) w base t u o.type e i ht hu hi hz hsize hby v n xs hown s h63 hbytes hbase
  have h5 := append_at ht hu hi hz hsize hby hown s h63 hbytes hbase hr h4
  refine wpList_plain hgd fun K hK => ?_
  have key := h v' w' h2 h3 h4 h5
  subst hs
  unfold Oper.wp execOp
  simp only [ho, resolve, invoke, builtin, Sem.run_bind, Sem.run_pure, Result.andThen_ok, List.map_toArray, List.map_cons, List.map_nil, hx, hr]
  exact hK _ _ key
/-- A builder of its own: its block, what it holds there, its bytes. -/
structure BAt (B b : Nat) (p v : Value) (l : List UInt8) (w : World) : Prop where
  low : B ≤ b
  blk : w.heap[b]? = some (.cells #[p, v] 157 (0, 0))
  own : w.ownsRow B 5 1 v l.length (Lib.byteCells l)
  ne : v.ownBlock ≠ some b
  at0 : p = .pointer none ∨ p = .pointer (some ⟨b, 0, none⟩)
  nil : v = .slice none 0 0 ↔ l = []
theorem BAt.new (w : World) (B : Nat) (hB : B ≤ w.heap.size) : BAt B w.heap.size (.pointer none) (.slice none 0 0) [] (w.alloc (.cells #[.pointer none, .slice none 0 0] 157)) :=
  ⟨hB, heap_alloc_new w _, World.ownsRow_nil _ _ _ _, by simp [Value.ownBlock], .inl rfl, by simp⟩
theorem BAt.keep {B b : Nat} {p v : Value} {l : List UInt8} {w w' : World} {row : Option Nat} (h : BAt B b p v l w) (hg : w.grownBy w' row) (h1 : some b ≠ row) (h2 : v.ownBlock = none ∨ v.ownBlock ≠ row) : BAt B b p v l w' :=
  ⟨h.low, (hg.block b (blk_lt h.blk) h1).trans h.blk, h.own.kept hg h2, h.ne, h.at0, h.nil⟩
theorem BAt.isB {B b : Nat} {p v : Value} {l : List UInt8} {w : World} (h : BAt B b p v l w) : Lib.IsBuilder 157 5 B b (Lib.byteCells l) w := by
  have e : (Lib.byteCells l).length = l.length := byteCells_len l
  rcases h.at0 with e1 | e1
  · exact .inl ⟨h.low, v, by rw [← e1]; exact h.blk, by rw [e]; exact h.own, h.ne⟩
  · exact .inr ⟨h.low, v, by rw [← e1]; exact h.blk, by rw [e]; exact h.own, h.ne⟩
/-- What copyCheck leaves. -/
theorem check_at {B b : Nat} {p v : Value} {l : List UInt8} {w : World} (h : BAt B b p v l w) : Calls Tryd.prog 110 #[.pointer (some ⟨b, 0, none⟩)] w fun e w' => e = .returned (.tuple #[]) ∧ BAt B b (.pointer (some ⟨b, 0, none⟩)) v l w' ∧ w.grownBy w' (some b) := by
  have hlt := blk_lt h.blk
  rcases h.at0 with e1 | e1
  · subst e1
    refine (Any.Builder_copyCheck_fresh Tryd.lays240 Tryd.Builder_Extra_166.toX72 b w (by rw [Lib.cell_of_heap h.blk]; rfl) (by simp [World.shape?, h.blk]; rfl) (Lib.frozen_of_heap h.blk 0)).mono ?_
    rintro e w' ⟨rfl, rfl⟩
    have hg : w.grownBy (w.setCell ⟨b, 0, none⟩ (.pointer (some ⟨b, 0, none⟩))) (some b) := ⟨rfl, rfl, rfl, by simp [World.setCell], fun k hk hne => Below.heap_setCell _ _ _ _ (fun e => hne (by rw [e]))⟩
    refine ⟨rfl, ⟨h.low, ?_, h.own.kept hg (.inr h.ne), h.ne, .inr rfl, h.nil⟩, hg⟩
    rw [set_block h.blk]
    rfl
  · subst e1
    refine (Any.Builder_copyCheck_used Tryd.lays240 Tryd.Builder_Extra_166.toX72 b w (by rw [Lib.cell_of_heap h.blk]; rfl)).mono ?_
    rintro e w' ⟨rfl, rfl⟩
    exact ⟨rfl, h, ⟨rfl, rfl, rfl, Nat.le_refl _, fun _ _ _ => rfl⟩⟩
set_option maxRecDepth 100000 in
set_option maxHeartbeats 2000000 in
/-- WriteString: only the builder's block and what it owns change. -/
theorem write_at {B b : Nat} {p v : Value} {l : List UInt8} (x : List UInt8) {w : World} (h : BAt B b p v l w) (hB : B ≤ w.heap.size) (hl : l.length + x.length ≤ 1000000000000) :
    Calls Tryd.prog 108 #[.pointer (some ⟨b, 0, none⟩), .string ⟨x.toArray⟩] w fun e w' => e = .returned (.tuple #[.int .i64 x.length, .nilIface]) ∧ (∃ v', BAt B b (.pointer (some ⟨b, 0, none⟩)) v' (l ++ x) w' ∧ (∀ g, v'.ownBlock = some g → v.ownBlock = some g ∨ w.heap.size ≤ g)) ∧
      (∀ k, k < w.heap.size → k ≠ b → some k ≠ v.ownBlock → w'.heap[k]? = w.heap[k]?) ∧ Below B w w' ∧ w.heap.size ≤ w'.heap.size := by
  obtain ⟨i0, hi, hz0, hz1, hz2⟩ := info_parts Tryd.infoU8
  have HC : Hid (Calls Tryd.prog 110 #[.pointer (some ⟨b, 0, none⟩)] w fun e w' => e = .returned (.tuple #[]) ∧ BAt B b (.pointer (some ⟨b, 0, none⟩)) v l w' ∧ w.grownBy w' (some b)) := check_at h
  have HOV : Hid (∀ k, v.ownBlock = some k → B ≤ k) := fun k hk => (h.own.lt k hk).1
  have hlow := h.low
  have hxs : ByteArray.size ⟨x.toArray⟩ = x.length := by show x.toArray.size = _; simp
  obtain ⟨X, hX⟩ : ∃ X : ByteArray, (⟨x.toArray⟩ : ByteArray) = X := ⟨_, rfl⟩
  have HXC : Hid (Lib.byteCells l ++ Lib.strCells X = Lib.byteCells (l ++ x)) := by show _ = _; rw [← hX]; exact byteCells_cat _ _
  rw [hX] at hxs ⊢
  have HXS : Hid (X.size = x.length) := hxs
  have hXb : l.length + X.size ≤ 1000000000000 := by omega
  clear h hX hxs
  go_enter Tryd.func108, Tryd.ntmps108
  go_wp2_with fail
  refine Calls.mono HC.out ?_
  rintro e w1 ⟨rfl, hb1, hg1⟩
  have HB1 : Hid (BAt B b (.pointer (some ⟨b, 0, none⟩)) v l w1) := hb1
  have HG1 : Hid (w.grownBy w1 (some b)) := hg1
  have hs1 : w.heap.size ≤ w1.heap.size := hg1.size
  have c1 : w1.cell? ⟨b, 1, none⟩ = some v := by rw [Lib.cell_of_heap hb1.blk]; rfl
  clear hb1 hg1
  go_wp2_with (at_builtin; refine wpList_append_at rfl _ _ 22 9 rfl B 5 i0 Tryd.underlying22 Tryd.underlying9 hi hz0 hz1 hz2 v l.length (Lib.byteCells l) rfl HB1.out.own X rfl ?c3 ?c4 ?c5 ?_)
  case c3 => unfold maxLen; omega
  case c4 => omega
  case c5 => omega
  intro v' w2 hown' hgrow hnil hloc
  have hbl : b < w1.heap.size := blk_lt HB1.out.blk
  have hb2 : w2.heap[b]? = some (.cells #[.pointer (some ⟨b, 0, none⟩), v] 157 (0, 0)) := by rw [hgrow.block b hbl (fun e => HB1.out.ne e.symm)]; exact HB1.out.blk
  have d1 : w2.cell? ⟨b, 1, none⟩ = some v := by rw [Lib.cell_of_heap hb2]; rfl
  have f1 : w2.frozen? ⟨b, 1, none⟩ = false := Lib.frozen_of_heap hb2 1
  have hv'f : ∃ ao n' cp, v' = .slice ao n' cp := by
    rcases hown'.2 with ⟨hv, _⟩ | ⟨g, cap, cur, hv, _⟩
    · exact ⟨_, _, _, hv⟩
    · exact ⟨_, _, _, hv⟩
  obtain ⟨ao, n', cp, rfl⟩ := hv'f
  have HF : Hid ((∃ v', BAt B b (.pointer (some ⟨b, 0, none⟩)) v' (l ++ x) (w2.setCell ⟨b, 1, none⟩ (.slice ao n' cp)) ∧ (∀ g, v'.ownBlock = some g → v.ownBlock = some g ∨ w.heap.size ≤ g)) ∧
      (∀ k, k < w.heap.size → k ≠ b → some k ≠ v.ownBlock → (w2.setCell ⟨b, 1, none⟩ (.slice ao n' cp)).heap[k]? = w.heap[k]?) ∧ Below B w (w2.setCell ⟨b, 1, none⟩ (.slice ao n' cp)) ∧ w.heap.size ≤ (w2.setCell ⟨b, 1, none⟩ (.slice ao n' cp)).heap.size) := by
    have hg2 : w2.grownBy (w2.setCell ⟨b, 1, none⟩ (.slice ao n' cp)) (some b) := ⟨rfl, rfl, rfl, by simp [World.setCell], fun k hk hne => Below.heap_setCell _ _ _ _ (fun e => hne (by rw [e]))⟩
    have hs2 := hgrow.size
    have hne' : (Value.slice ao n' cp).ownBlock ≠ some b := fun e => by
      rcases hloc b e with h | h
      · exact HB1.out.ne h
      · omega
    refine ⟨⟨.slice ao n' cp, ⟨hlow, by rw [set_block hb2]; rfl, ?_, hne', .inr rfl, ?_⟩, fun g hg => ?_⟩, fun k hk hkb hkv => ?_, ?_, by have := hg2.size; omega⟩
    · have h1 := hown'.kept hg2 (.inr hne')
      rw [HXC.out, HXS.out, ← List.length_append] at h1
      exact h1
    · rw [hnil, HB1.out.nil]
      have hz : X = ByteArray.empty ↔ x = [] := by rw [ba_none HXS.out]; exact List.length_eq_zero_iff
      rw [hz]
      simp
    · rcases hloc g hg with h | h
      · exact .inl h
      · exact .inr (by omega)
    · rw [hg2.block k (by omega) (by simpa using hkb), hgrow.block k (by omega) hkv, HG1.out.block k hk (by simpa using hkb)]
    · have b1 : Below B w w1 := (Below.refl B w).grown HG1.out hB (fun k hk => by injection hk with hk; omega)
      have b2 : Below B w w2 := b1.grown hgrow (by omega) (fun k hk => HOV.out k hk)
      exact b2.grown hg2 (by omega) (fun k hk => by injection hk with hk; omega)
  clear hown' hgrow hnil hloc hb2
  go_wp2_with fail
  go_ret2
  exact ⟨by rw [HXS.out]; try rfl, HF.out⟩
end Go.Proofs.YtjpdhenmhffmeaaDoor
namespace Go.Proofs.YtjpdhenmhffmeaaDoor
open Go.RowKit Go.Sort Go.Shelf
set_option linter.unusedVariables false
def Tryd.lays170_ren : Go.Shelf.Ren := ⟨fun | 170 => 118 | n => n, fun | 3 => 3 | 5 => 5 | 37 => 22 | 70 => 155 | 72 => 157 | n => n, fun | n => n⟩
theorem Tryd.lays170 : Go.Proofs.Lays.n170 Tryd.prog Tryd.lays170_ren := { mixed := by kernel_rfl, f170 := Tryd.func118.trans (congrArg some (by kernel_rfl)), t0 := Tryd.underlying0, a0 := Tryd.isAgg0, z0 := Tryd.sizeOf0, v0 := Tryd.zeroValue0, t3 := Tryd.underlying3, a3 := Tryd.isAgg3, z3 := Tryd.sizeOf3, v3 := Tryd.zeroValue3, t37 := Tryd.underlying22, a37 := Tryd.isAgg22, z37 := Tryd.sizeOf22, v37 := Tryd.zeroValue22, t70 := Tryd.underlying155, a70 := Tryd.isAgg155, z70 := Tryd.sizeOf155, v70 := Tryd.zeroValue155, t72 := Tryd.underlying157, a72 := Tryd.isAgg157, z72 := Tryd.sizeOf157, v72 := Tryd.zeroValue157 }
theorem len_at {B b : Nat} {p v : Value} {l : List UInt8} {w : World} (h : BAt B b p v l w) : Calls Tryd.prog 118 #[.pointer (some ⟨b, 0, none⟩)] w fun e w' => e = .returned (.int .i64 l.length) ∧ w' = w := by
  have := Any.Builder_Len Tryd.lays170 B b (Lib.byteCells l) w h.isB
  rw [byteCells_len] at this
  exact this
set_option maxRecDepth 100000 in
set_option maxHeartbeats 2000000 in
/-- String: only what the builder owns changes (it is frozen). -/
theorem str_at {B b : Nat} {p v : Value} {l : List UInt8} {w : World} (h : BAt B b p v l w) :
    Calls Tryd.prog 109 #[.pointer (some ⟨b, 0, none⟩)] w fun e w' => e = .returned (.string ⟨l.toArray⟩) ∧ w.grownBy w' v.ownBlock ∧ Below B w w' := by
  by_cases h0 : l = []
  · have hv := h.nil.2 h0
    subst hv h0
    refine (Any.Builder_String_nil Tryd.lays169 Tryd.Builder_Extra_169 w.heap.size b p w h.blk).mono ?_
    rintro e w' ⟨rfl, hb⟩
    exact ⟨rfl, ⟨hb.os, hb.tape, hb.output, hb.size, fun k hk _ => hb.block k hk⟩, hb.mono (Nat.le_trans h.low (Nat.le_of_lt (blk_lt h.blk)))⟩
  · have hl0 : l.length ≠ 0 := by simpa using h0
    have hown := h.own
    have hbk := h.blk
    obtain ⟨g, cap, cur, rfl, hbg, hg, hnc, hcm, hcs, htake⟩ : ∃ g cap cur, v = .slice (some ⟨g, 0, none⟩) l.length cap ∧ B ≤ g ∧ w.heap[g]? = some (.cells cur 5 (0, 0)) ∧ l.length ≤ cap ∧ cap ≤ maxLen ∧ cur.size = cap * 1 ∧ cur.toList.take (l.length * 1) = Lib.byteCells l := by
      rcases hown.2 with ⟨_, hz⟩ | ⟨g, cap, cur, hv, r⟩
      · exact absurd hz hl0
      · exact ⟨g, cap, cur, hv, r⟩
    have c1 : w.drew.cell? ⟨b, 1, none⟩ = some (.slice (some ⟨g, 0, none⟩) l.length cap) := by
      have h' : w.drew.heap[b]? = some (.cells #[p, .slice (some ⟨g, 0, none⟩) l.length cap] 157 (0, 0)) := hbk
      rw [Lib.cell_of_heap h']; rfl
    have hSD : (Builtin.unsafeSliceData_ #[22] 124 #[.slice (some ⟨g, 0, none⟩) l.length cap]).run Tryd.prog w.drew = .ok (.pointer (some ⟨g, 0, none⟩)) w.drew := Lib.run_unsafeSliceData_row _ _ _ _ _ _ (by omega)
    have hUS : (Builtin.unsafeString_ #[124, 3] 9 #[.pointer (some ⟨g, 0, none⟩), .int .i64 l.length]).run Tryd.prog w.drew = .ok (.string ⟨l.toArray⟩) (w.drew.freeze ⟨g, 0, none⟩ l.length) := by
      refine Lib.run_unsafeString_row w.drew 124 3 9 5 Tryd.underlying124 (by kernel_rfl) g cur.size (by have hg' : w.drew.heap[g]? = some (.cells cur 5 (0, 0)) := hg; simp [World.shape?, hg']) l h0 (by omega) (by unfold maxLen at hcm; omega) ?_
      intro j x hx
      exact hown.cells (g := g) rfl j (.int .u8 x.toNat) (by simp [Lib.byteCells, hx])
    have HF : Hid (w.grownBy (w.drew.freeze ⟨g, 0, none⟩ l.length) (some g) ∧ Below B w (w.drew.freeze ⟨g, 0, none⟩ l.length)) := by
      refine ⟨?_, Lib.below_freeze (Below.drew (Below.refl B w)) (p := ⟨g, 0, none⟩) hbg _⟩
      unfold World.freeze
      rw [if_neg hl0]
      exact ⟨rfl, rfl, rfl, by simp, fun k hk hne => by
        simp only [Array.getElem?_modify]
        rw [if_neg (fun e => hne (by rw [e]))]
        rfl⟩
    have mixed := Tryd.lays169.mixed
    have HQ : Hid ((Value.slice (some ⟨g, 0, none⟩) l.length cap).ownBlock = some g) := rfl
    clear h hown hbk htake hcs hg
    go_enter Tryd.func109, Tryd.ntmps109
    go_wp2
    go_region_o
    all_goals (go_wp2; go_ret; exact ⟨rfl, by rw [HQ.out]; exact HF.out.1, HF.out.2⟩)
/-- Two builders that share no memory. -/
def TwoB (B b1 b2 : Nat) (l1 l2 : List UInt8) (w : World) : Prop := ∃ p1 v1 p2 v2, BAt B b1 p1 v1 l1 w ∧ BAt B b2 p2 v2 l2 w ∧ b1 ≠ b2 ∧ v1.ownBlock ≠ some b2 ∧ v2.ownBlock ≠ some b1 ∧ ∀ g, v1.ownBlock = some g → v2.ownBlock ≠ some g
theorem TwoB.swap {B b1 b2 : Nat} {l1 l2 : List UInt8} {w : World} (h : TwoB B b1 b2 l1 l2 w) : TwoB B b2 b1 l2 l1 w := by
  obtain ⟨p1, v1, p2, v2, h1, h2, h3, h4, h5, h6⟩ := h
  exact ⟨p2, v2, p1, v1, h2, h1, fun e => h3 e.symm, h5, h4, fun g hg e => h6 g e hg⟩
theorem TwoB.below {B b1 b2 : Nat} {l1 l2 : List UInt8} {w w' : World} (h : TwoB B b1 b2 l1 l2 w) (hb : Below w.heap.size w w') : TwoB B b1 b2 l1 l2 w' := by
  obtain ⟨p1, v1, p2, v2, h1, h2, h3⟩ := h
  exact ⟨p1, v1, p2, v2, h1.keep (gb_bel hb) (by simp) (by cases v1.ownBlock <;> simp), h2.keep (gb_bel hb) (by simp) (by cases v2.ownBlock <;> simp), h3⟩
theorem TwoB.new (w : World) : TwoB w.heap.size w.heap.size (w.heap.size + 1) [] [] ((w.alloc (.cells #[.pointer none, .slice none 0 0] 157)).alloc (.cells #[.pointer none, .slice none 0 0] 157)) := by
  have h1 := BAt.new w w.heap.size (Nat.le_refl _)
  have h2 := BAt.new (w.alloc (.cells #[.pointer none, .slice none 0 0] 157)) w.heap.size (by simp)
  have e : (w.alloc (.cells #[.pointer none, .slice none 0 0] 157)).heap.size = w.heap.size + 1 := by simp
  rw [e] at h2
  exact ⟨_, _, _, _, h1.keep (gb_bel (bel1 _ _)) (by simp) (.inl rfl), h2, by omega, by simp [Value.ownBlock], by simp [Value.ownBlock], fun g hg => by simp [Value.ownBlock] at hg⟩
theorem two_write {B b1 b2 : Nat} {l1 l2 : List UInt8} (x : List UInt8) {w : World} (h : TwoB B b1 b2 l1 l2 w) (hB : B ≤ w.heap.size) (hl : l1.length + x.length ≤ 1000000000000) :
    Calls Tryd.prog 108 #[.pointer (some ⟨b1, 0, none⟩), .string ⟨x.toArray⟩] w fun e w' => e = .returned (.tuple #[.int .i64 x.length, .nilIface]) ∧ TwoB B b1 b2 (l1 ++ x) l2 w' ∧ Below B w w' := by
  obtain ⟨p1, v1, p2, v2, h1, h2, h3, h4, h5, h6⟩ := h
  refine (write_at x h1 hB hl).mono ?_
  rintro e w' ⟨rfl, ⟨v', hb', hloc⟩, hfr, hbel, hsz⟩
  have hlt2 := blk_lt h2.blk
  have hlt1 := blk_lt h1.blk
  refine ⟨rfl, ⟨_, v', p2, v2, hb', ?_, h3, fun e => ?_, h5, fun g hg e => ?_⟩, hbel⟩
  · refine ⟨h2.low, (hfr b2 hlt2 (fun e => h3 e.symm) (fun e => h4 e.symm)).trans h2.blk, ⟨h2.own.1, ?_⟩, h2.ne, h2.at0, h2.nil⟩
    rcases h2.own.2 with hn | ⟨g, cap, cur, hv, hbg, hgg, rest⟩
    · exact .inl hn
    · have e1 : v2.ownBlock = some g := by rw [hv]; rfl
      exact .inr ⟨g, cap, cur, hv, hbg, (hfr g (blk_lt hgg) (fun e => h5 (by rw [e1, e])) (fun e => h6 g e.symm e1)).trans hgg, rest⟩
  · rcases hloc b2 e with h | h
    · exact h4 h
    · omega
  · rcases hloc g hg with h | h
    · exact h6 g h e
    · have := (h2.own.lt g e).2; omega
end Go.Proofs.YtjpdhenmhffmeaaDoor
namespace Go.Proofs.YtjpdhenmhffmeaaDoor
open Go.RowKit Go.Sort
set_option linter.unusedVariables false
theorem slt_var {z : Int} (h : z < 0) : slt z = 4 := if_pos h
theorem slt_fix {z : Int} (h : ¬ z < 0) : (slt z : Int) = z := by unfold slt; rw [if_neg h]; omega
set_option maxHeartbeats 1000000 in
theorem slot_any (ts : List (Int × Int)) (f u a : Nat) (w : World) (S : Nat → Prop) (hf : f ≤ 7) (ht : TreeAt ts f w S u a) (hS : ∀ c, S c → c < w.heap.size) :
    Calls Tryd.prog 120 #[.agg #[], .pointer (some ⟨u, 0, none⟩)] w fun e w' => e = .returned (.int .i64 (slt (szT ts f a))) ∧ Below w.heap.size w w' := by
  have HC : Hid (∀ w', Below w.heap.size w w' → Calls Tryd.prog 28 #[.agg #[], .pointer (some ⟨u, 0, none⟩)] w' fun e w'' => e = .returned (.int .i64 (szT ts f a)) ∧ Below w'.heap.size w' w'') := fun w' hb => size_any ts f hf u a w' S (ht.belK hS hb) (fun c hc => by have := hS c hc; have := hb.size; omega)
  have HW : Hid (∀ w, Calls Tryd.prog 122 #[] w fun e w' => e = .returned (.int .i64 4) ∧ w' = w) := fun w => widthOf_u32_any w
  have hz := szT_small (ts := ts) (f := f) (a := a) hf
  by_cases hv : szT ts f a < 0
  · have HR : Hid (slt (szT ts f a) = 4) := slt_var hv
    have ez : szT ts f a = -1 := by omega
    rw [ez] at HC
    clear hz hv ez ht hS
    go_enter Tryd.func120, Tryd.ntmps120
    go_wp2_with fail
    refine (HC.out _ (bel1 _ _)).mono ?_
    rintro e w1 ⟨rfl, hb1⟩
    have HB1 : Hid (Below w.heap.size w w1) := (bel1 _ _).trans (hb1.mono (by simp))
    clear hb1
    go_wp2_with fail
    refine (HW.out _).mono ?_
    rintro e w2 ⟨rfl, rfl⟩
    go_wp2_with fail
    go_ret
    exact ⟨by rw [HR.out]; try rfl, HB1.out⟩
  · have HR : Hid ((slt (szT ts f a) : Int) = szT ts f a) := slt_fix hv
    obtain ⟨z, hze⟩ : ∃ z, szT ts f a = z := ⟨_, rfl⟩
    have HZ : Hid (szT ts f a = z) := hze
    rw [hze] at HC hz hv
    have hz1 : (z == -1) = false := beqF (by omega)
    have hz2 : (z != -1) = true := by rw [bne_iff_ne]; omega
    clear hze ht hS
    go_enter Tryd.func120, Tryd.ntmps120
    go_wp2_with fail
    refine (HC.out _ (bel1 _ _)).mono ?_
    rintro e w1 ⟨rfl, hb1⟩
    have HB1 : Hid (Below w.heap.size w w1) := (bel1 _ _).trans (hb1.mono (by simp))
    clear hb1
    go_wp2_with fail
    go_ret
    exact ⟨by rw [HR.out, HZ.out]; try rfl, HB1.out⟩
set_option maxHeartbeats 1000000 in
/-- The type of a series' j-th part: one place in memory, whatever has been laid since. -/
theorem part_c (ts : List (Int × Int)) (f u a : Nat) (w : World) (S : Nat → Prop) (M j : Nat) (h : TreeAt ts (f + 1) w S u a) (hS : ∀ c, S c → c < w.heap.size) (ha : a < ts.length) (hf : fitsN ts[a].1 ts[a].2 M = true) (hk : ts[a].1 = 5 ∨ ts[a].1 = 6 ∨ ts[a].1 = 7) (hj : j < M) (hj20 : j ≤ 20) :
    ∃ c, TreeAt ts f w S c (pl ts f a ts[a].1 M j) ∧ ∀ w', Below w.heap.size w w' → Calls Tryd.prog 82 #[.pointer (some ⟨u, 0, none⟩), .int .u64 j] w' fun e w'' => e = .returned (.pointer (some ⟨c, 0, none⟩)) ∧ w'' = w' := by
  obtain ⟨hu, _, e0, ad, cap, hok, _, c0, c1, c2, c3, c4, c5, h3, h4, h5⟩ := h
  have hul := hS u hu
  have hkl := kids_le hok
  have hex : ts[a].1 = 7 → kids ts[a].1 ts[a].2 = M := fun h7 => by
    unfold fitsN at hf
    rw [if_neg (by omega), if_neg (by omega), if_neg (by omega), if_pos (by omega)] at hf
    have := of_decide_eq_true hf
    unfold kids
    rw [if_neg (by omega), if_pos (by omega)]
    omega
  have hone : ts[a].1 ≠ 7 → kids ts[a].1 ts[a].2 = 1 := fun h7 => kids_one (by omega)
  by_cases h7 : ts[a].1 = 7
  · obtain ⟨g, rfl, hg, hp⟩ := h5.resolve_left (by rw [hex h7]; omega)
    obtain ⟨c, p, hp1, hc, htr⟩ := hp j (by rw [hex h7]; exact hj)
    have hgl := hS g hg
    have epl : pl ts f a ts[a].1 M j = p := by unfold pl; rw [if_pos h7, hp1]; rfl
    refine ⟨c, by rw [epl]; exact htr, fun w' hb => ?_⟩
    have d0 : w'.cell? ⟨u, 0, none⟩ = some (.int .i64 7) := by rw [hb.cell (p := ⟨u, 0, none⟩) hul, c0, h7]
    have d5 : w'.cell? ⟨u, 5, none⟩ = some (.slice (some ⟨g, 0, none⟩) M cap) := by rw [hb.cell (p := ⟨u, 5, none⟩) hul, c5, hex h7]
    have dg : w'.cell? ⟨g, j, none⟩ = some (.pointer (some ⟨c, 0, none⟩)) := by rw [hb.cell (p := ⟨g, j, none⟩) hgl]; exact hc
    rw [hex h7] at h3
    clear hp hc htr hp1 c0 c1 c2 c3 c4 c5 h5 hf hex hone hok epl hkl
    go_enter Tryd.func82, Tryd.ntmps82
    go_wp2_with fail
    go_ret
    exact ⟨rfl, rfl⟩
  · obtain ⟨g, rfl, hg, hp⟩ := h5.resolve_left (by rw [hone h7]; omega)
    obtain ⟨c, p, hp1, hc, htr⟩ := hp 0 (by rw [hone h7]; omega)
    cases hp1
    have hgl := hS g hg
    have epl : pl ts f a ts[a].1 M j = a + 1 := by unfold pl; rw [if_neg h7, if_neg (by omega)]
    refine ⟨c, by rw [epl]; exact htr, fun w' hb => ?_⟩
    have k7 : (ts[a].1 == 7) = false := beqF h7
    have k9 : (ts[a].1 == 9) = false := beqF (by omega)
    have d0 : w'.cell? ⟨u, 0, none⟩ = some (.int .i64 ts[a].1) := by rw [hb.cell (p := ⟨u, 0, none⟩) hul, c0]
    have d5 : w'.cell? ⟨u, 5, none⟩ = some (.slice (some ⟨g, 0, none⟩) 1 cap) := by rw [hb.cell (p := ⟨u, 5, none⟩) hul, c5, hone h7]
    have dg : w'.cell? ⟨g, 0, none⟩ = some (.pointer (some ⟨c, 0, none⟩)) := by rw [hb.cell (p := ⟨g, 0, none⟩) hgl]; exact hc
    rw [hone h7] at h3
    generalize ts[a].1 = k at *
    clear hp hc htr c0 c1 c2 c3 c4 c5 h5 hf hex hone hok epl hkl hk h7
    go_enter Tryd.func82, Tryd.ntmps82
    go_wp2_with fail
    go_ret
    exact ⟨rfl, rfl⟩
set_option maxRecDepth 100000 in
set_option maxHeartbeats 2000000 in
theorem front_any (ts : List (Int × Int)) (f u a : Nat) (w : World) (S : Nat → Prop) (M : Nat) (hf7 : f ≤ 7) (h : TreeAt ts (f + 1) w S u a) (hS : ∀ c, S c → c < w.heap.size) (ha : a < ts.length) (hf : fitsN ts[a].1 ts[a].2 M = true) (hk : ts[a].1 = 5 ∨ ts[a].1 = 6 ∨ ts[a].1 = 7) (hM : M ≤ 20) :
    Calls Tryd.prog 116 #[.agg #[], .pointer (some ⟨u, 0, none⟩), .int .i64 M] w fun e w' => e = .returned (.int .i64 (frt (fun j => slt (szT ts f (pl ts f a ts[a].1 M j))) M)) ∧ Below w.heap.size w w' := by
  have HP : Hid (∀ j, j < M → ∃ c, (∀ w', Below w.heap.size w w' → Calls Tryd.prog 82 #[.pointer (some ⟨u, 0, none⟩), .int .u64 j] w' fun e w'' => e = .returned (.pointer (some ⟨c, 0, none⟩)) ∧ w'' = w') ∧
      ∀ w', Below w.heap.size w w' → Calls Tryd.prog 120 #[.agg #[], .pointer (some ⟨c, 0, none⟩)] w' fun e w'' => e = .returned (.int .i64 (slt (szT ts f (pl ts f a ts[a].1 M j)))) ∧ Below w'.heap.size w' w'') := fun j hj => by
    obtain ⟨c, htc, hc⟩ := part_c ts f u a w S M j h hS ha hf hk hj (by omega)
    exact ⟨c, hc, fun w' hb => slot_any ts f c _ w' S hf7 (htc.belK hS hb) (fun c hc => by have := hS c hc; have := hb.size; omega)⟩
  obtain ⟨sl, hsl⟩ : ∃ sl : Nat → Nat, (fun j => slt (szT ts f (pl ts f a ts[a].1 M j))) = sl := ⟨_, rfl⟩
  have hsle : ∀ j, sl j ≤ 134217728 := fun j => by rw [← hsl]; exact slt_le hf7
  have HSL : Hid (∀ j, slt (szT ts f (pl ts f a ts[a].1 M j)) = sl j) := fun j => by rw [← hsl]
  rw [hsl]
  have HFR : Hid (∀ j, j ≤ M → frt sl j ≤ j * 134217728) := frt_le (n := M) (fun j _ => hsle j)
  clear h hS hf hk hsl
  go_enter Tryd.func116, Tryd.ntmps116
  go_wp2_with fail
  go_loopg [7, 11] M (fun gk s i wr => ∃ j : Nat, j + gk = M ∧ i = .int .u64 j ∧ s = .int .i64 (frt sl j : Nat) ∧ Below (w.alloc (.cells #[] 59)).heap.size (w.alloc (.cells #[] 59)) wr)
  case atStart => exact ⟨0, by omega, rfl, rfl, Below.refl _ _⟩
  case round =>
    obtain ⟨j, hj', rfl, rfl, hbel⟩ := hrel
    have HJ : Hid (j + gk = M) := hj'
    have hj : j ≤ M := by omega
    have HBL : Hid (Below (w.alloc (.cells #[] 59)).heap.size (w.alloc (.cells #[] 59)) wr) := hbel
    have HBW : Hid (Below w.heap.size w wr) := (bel1 _ _).trans (hbel.mono (by simp))
    have hfr := HFR.out j hj
    have hfr2 : j * 134217728 ≤ 20 * 134217728 := Nat.mul_le_mul_right _ (by omega)
    clear hj'
    by_cases hjM : j < M
    · obtain ⟨c, hpc, hsc⟩ := HP.out j hjM
      rw [HSL.out] at hsc
      have HPC : Hid (∀ w', Below w.heap.size w w' → Calls Tryd.prog 82 #[.pointer (some ⟨u, 0, none⟩), .int .u64 j] w' fun e w'' => e = .returned (.pointer (some ⟨c, 0, none⟩)) ∧ Below w'.heap.size w' w'') := fun w' hb => (hpc w' hb).mono fun e w'' ⟨h1, h2⟩ => ⟨h1, by rw [h2]; exact Below.refl _ _⟩
      have HSC : Hid (∀ w', Below w.heap.size w w' → Calls Tryd.prog 120 #[.agg #[], .pointer (some ⟨c, 0, none⟩)] w' fun e w'' => e = .returned (.int .i64 (sl j)) ∧ Below w'.heap.size w' w'') := hsc
      have HBR : Hid (∀ d os, Below w.heap.size w (grow (redrawn wr d) os)) := fun d os => HBW.out.trans ((below_regrown _ d os).mono HBW.out.size)
      have HBE : Hid (∀ d os, Below (w.alloc (.cells #[] 59)).heap.size (w.alloc (.cells #[] 59)) (grow (redrawn wr d) os)) := fun d os => HBL.out.trans ((below_regrown _ d os).mono HBL.out.size)
      have hsj := hsle j
      have HFS : Hid (frt sl (j + 1) = frt sl j + sl j) := rfl
      generalize sl j = sj at *
      generalize frt sl j = fj at *
      clear hpc hsc hsle hbel
      go_wp2_with fail
      refine wp_region_quiet_below (by kernel_rfl) (by kernel_rfl) ?_
      repeat (go_big_quiet_step (first | (go_at_call 82; exact Calls.regrown_of (HPC.out _ (HBR.out _ _))) | (go_at_call 120; exact Calls.regrown_of (HSC.out _ (HBR.out _ _)))))
      refine wpQuiet_nil ?_
      intro w6 hw'
      obtain ⟨⟨dq, osq⟩, hw''⟩ := hw'
      have HB6 : Hid (Below (w.alloc (.cells #[] 59)).heap.size (w.alloc (.cells #[] 59)) w6) := by rw [hw'']; exact HBE.out _ _
      clear hw''
      go_wp2_with fail
      go_roundg (gk - 1)
      case rel => exact ⟨j + 1, by have := HJ.out; omega, by go_num, by rw [HFS.out]; go_num, HB6.out⟩
      case measure => have := HJ.out; omega
    · have ej : j = M := by omega
      have HF : Hid (frt sl M = frt sl j) := by rw [ej]; exact rfl
      clear hbel ej
      generalize frt sl j = fj at *
      go_wp2_with fail
      go_ret
      exact ⟨by rw [HF.out]; try rfl, HBW.out⟩
end Go.Proofs.YtjpdhenmhffmeaaDoor
