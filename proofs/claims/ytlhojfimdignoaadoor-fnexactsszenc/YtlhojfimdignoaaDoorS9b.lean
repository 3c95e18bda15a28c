/- A builder's contracts that say which blocks change: two builders at once. -/
import Derived.Test.YtlhojfimdignoaaDoorS7b
import Derived.Shelf.Strings.Builder1
namespace Go.Proofs.YtlhojfimdignoaaDoor
open Go.RowKit Go.Sort Go.Shelf
set_option linter.unusedVariables false
theorem Tryd.lays240 : Go.Proofs.Lays.n240 Tryd.prog Tryd.lays166_ren := { mixed := Tryd.lays166.mixed, f240 := Tryd.lays166.f240, f276 := Tryd.lays166.f276, t0 := Tryd.lays166.t0, a0 := Tryd.lays166.a0, z0 := Tryd.lays166.z0, v0 := Tryd.lays166.v0, t4 := Tryd.lays166.t4, a4 := Tryd.lays166.a4, z4 := Tryd.lays166.z4, v4 := Tryd.lays166.v4, t9 := Tryd.lays166.t9, a9 := Tryd.lays166.a9, z9 := Tryd.lays166.z9, v9 := Tryd.lays166.v9, t20 := Tryd.lays166.t20, a20 := Tryd.lays166.a20, z20 := Tryd.lays166.z20, v20 := Tryd.lays166.v20, t70 := Tryd.lays166.t70, a70 := Tryd.lays166.a70, z70 := Tryd.lays166.z70, v70 := Tryd.lays166.v70, t72 := Tryd.lays166.t72, a72 := Tryd.lays166.a72, z72 := Tryd.lays166.z72, v72 := Tryd.lays166.v72, t164 := Tryd.lays166.t164, a164 := Tryd.lays166.a164, z164 := Tryd.lays166.z164, v164 := Tryd.lays166.v164 }
theorem ba_none {X : ByteArray} {n : Nat} (h : X.size = n) : X = ByteArray.empty ↔ n = 0 := by
  constructor
  · intro e
    rw [e] at h
    exact h.symm
  · intro e
    rw [e] at h
    obtain ⟨⟨m⟩⟩ := X
    have : m = [] := by simpa [ByteArray.size] using h
    subst this; rfl
/-- Where what has been appended to lies: where it lay, or in a new block. -/
theorem append_at {P : Program} {w : World} {base : Nat} {t u ty e : TypeId} {i : TypeInfo} (ht : P.underlying t = some (.slice e)) (hu : P.underlying u = some .string) (hi : P.info? e = some i) (hz : i.zero = some (.int .u8 0)) (hsize : i.size = 1) (hby : i.bytes = 1)
    {v : Value} {n : Nat} {xs : List Value} (hown : w.ownsRow base e 1 v n xs) (s : ByteArray) (h63 : n + s.size ≤ maxLen) (hbytes : n + s.size ≤ 140737488355328) (hbase : base ≤ w.heap.size) {v' : Value} {w' : World}
    (hr : (Builtin.append_ #[t, u] ty #[v, .string s]).run P w = .ok v' w') (hn : v' = .slice none 0 0 ↔ v = .slice none 0 0 ∧ s.size = 0) : ∀ g, v'.ownBlock = some g → v.ownBlock = some g ∨ w.heap.size ≤ g := by
  intro g hg
  unfold maxLen at h63
  have hxl : xs.length = n := by simpa using hown.1
  rcases hown.2 with ⟨rfl, rfl⟩ | ⟨g0, cap, cur, rfl, hbg, hgg, hnc, hcm, hcs, htake⟩
  · by_cases hm : s.size = 0
    · rw [hn.2 ⟨rfl, hm⟩] at hg
      simp [Value.ownBlock] at hg
    · have h2 := run_append_nil_string (P := P) w t u ty e i (.int .u8 0) ht hu hi hz s (by omega) (by omega) (by rw [hby]; omega)
      rw [h2] at hr
      injection hr with h3 h4
      subst h3
      have : w.heap.size = g := by simpa [Value.ownBlock] using hg
      exact .inr (by omega)
  · by_cases hroom : n + s.size ≤ cap
    · have hcs' : cur.size = cap := by simpa using hcs
      have h2 := Lib.run_append_room_string (P := P) w t u ty e i ht hu hi hsize g0 n cap cur hgg s hroom (by omega)
      rw [h2] at hr
      injection hr with h3 h4
      subst h3
      exact .inl (by simpa [Value.ownBlock] using hg)
    · have holds : ∀ j u, xs[j]? = some u → w.cell? ((⟨g0, 0, none⟩ : Addr).add j) = some u := hown.cells (g := g0) rfl
      have h2 := Lib.run_append_grow_string (P := P) w t u ty e i (.int .u8 0) ht hu hi hz ⟨g0, 0, none⟩ n cap xs (by rw [hsize]; simpa using hxl) holds s (by omega) (by omega) (by rw [hby]; exact growslice_fits (by omega) (by omega))
      rw [h2] at hr
      injection hr with h3 h4
      subst h3
      have : w.heap.size = g := by simpa [Value.ownBlock] using hg
      exact .inr (by omega)
theorem wpList_append_at {P : Program} {w : World} {ops : Array Oper} {rest : List Oper} {o : Oper} {a : Act} {Q : Exit → Act → World → Prop} (hgd : o.guard = none) (sl x : Operand) (t u : TypeId)
    (ho : o.op = .call { callee := .builtin .append, args := #[sl, x], argTypes := #[t, u] }) (base : Nat) (e : TypeId) (i : TypeInfo) (ht : P.underlying t = some (.slice e)) (hu : P.underlying u = some .string) (hi : P.info? e = some i) (hz : i.zero = some (.int .u8 0)) (hsize : i.size = 1) (hby : i.bytes = 1)
    (v : Value) (n : Nat) (xs : List Value) (hs : a.eval sl = v) (hown : w.ownsRow base e 1 v n xs) (s : ByteArray) (hx : a.eval x = .string s) (h63 : n + s.size ≤ maxLen) (hbytes : n + s.size ≤ 140737488355328) (hbase : base ≤ w.heap.size)
    (h : ∀ v' w', w'.ownsRow base e 1 v' (n + s.size) (xs ++ Lib.strCells s) → w.grownBy w' v.ownBlock → (v' = .slice none 0 0 ↔ v = .slice none 0 0 ∧ s.size = 0) → (∀ g, v'.ownBlock = some g → v.ownBlock = some g ∨ w.heap.size ≤ g) → wpList P ops Q rest (a.put o.dst v') w') : wpList P ops Q (o :: rest) a w := by
  obtain ⟨v', w', hr, h2, h3, h4⟩ := Lib.run_append_own_string (P := P) w base t u o.type e i ht hu hi hz hsize hby v n xs hown s h63 hbytes hbase
  have h5 := append_at ht hu hi hz hsize hby hown s h63 hbytes hbase hr h4
  refine wpList_plain hgd fun K hK => ?_
  have key := h v' w' h2 h3 h4 h5
  subst hs
  unfold Oper.wp execOp
  simp only [ho, resolve, invoke, builtin, Sem.run_bind, Sem.run_pure, Result.andThen_ok, List.map_toArray, List.map_cons, List.map_nil, hx, hr]
  exact hK _ _ key
/-- A builder of its own: its block, what it holds there, its bytes. -/
structure BAt (B b : Nat) (p v : Value) (l : List UInt8) (w : World) : Prop where
  low : B ≤ b
  blk : w.heap[b]? = some (.cells #[p, v] 133 (0, 0))
  own : w.ownsRow B 5 1 v l.length (Lib.byteCells l)
  ne : v.ownBlock ≠ some b
  at0 : p = .pointer none ∨ p = .pointer (some ⟨b, 0, none⟩)
  nil : v = .slice none 0 0 ↔ l = []
theorem BAt.new (w : World) (B : Nat) (hB : B ≤ w.heap.size) : BAt B w.heap.size (.pointer none) (.slice none 0 0) [] (w.alloc (.cells #[.pointer none, .slice none 0 0] 133)) :=
  ⟨hB, heap_alloc_new w _, World.ownsRow_nil _ _ _ _, by simp [Value.ownBlock], .inl rfl, by simp⟩
theorem BAt.keep {B b : Nat} {p v : Value} {l : List UInt8} {w w' : World} {row : Option Nat} (h : BAt B b p v l w) (hg : w.grownBy w' row) (h1 : some b ≠ row) (h2 : v.ownBlock = none ∨ v.ownBlock ≠ row) : BAt B b p v l w' :=
  ⟨h.low, (hg.block b (blk_lt h.blk) h1).trans h.blk, h.own.kept hg h2, h.ne, h.at0, h.nil⟩
theorem BAt.isB {B b : Nat} {p v : Value} {l : List UInt8} {w : World} (h : BAt B b p v l w) : Lib.IsBuilder 133 5 B b (Lib.byteCells l) w := by
  have e : (Lib.byteCells l).length = l.length := byteCells_len l
  rcases h.at0 with e1 | e1
  · exact .inl ⟨h.low, v, by rw [← e1]; exact h.blk, by rw [e]; exact h.own, h.ne⟩
  · exact .inr ⟨h.low, v, by rw [← e1]; exact h.blk, by rw [e]; exact h.own, h.ne⟩
/-- What copyCheck leaves. -/
theorem check_at {B b : Nat} {p v : Value} {l : List UInt8} {w : World} (h : BAt B b p v l w) : Calls Tryd.prog 81 #[.pointer (some ⟨b, 0, none⟩)] w fun e w' => e = .returned (.tuple #[]) ∧ BAt B b (.pointer (some ⟨b, 0, none⟩)) v l w' ∧ w.grownBy w' (some b) := by
  have hlt := blk_lt h.blk
  rcases h.at0 with e1 | e1
  · subst e1
    refine (Any.Builder_copyCheck_fresh Tryd.lays240 Tryd.Builder_Extra_166.toX72 b w (by rw [Lib.cell_of_heap h.blk]; rfl) (by simp [World.shape?, h.blk]; rfl) (Lib.frozen_of_heap h.blk 0)).mono ?_
    rintro e w' ⟨rfl, rfl⟩
    have hg : w.grownBy (w.setCell ⟨b, 0, none⟩ (.pointer (some ⟨b, 0, none⟩))) (some b) := ⟨rfl, rfl, rfl, by simp [World.setCell], fun k hk hne => Below.heap_setCell _ _ _ _ (fun e => hne (by rw [e]))⟩
    refine ⟨rfl, ⟨h.low, ?_, h.own.kept hg (.inr h.ne), h.ne, .inr rfl, h.nil⟩, hg⟩
    rw [set_block h.blk]
    rfl
  · subst e1
    refine (Any.Builder_copyCheck_used Tryd.lays240 Tryd.Builder_Extra_166.toX72 b w (by rw [Lib.cell_of_heap h.blk]; rfl)).mono ?_
    rintro e w' ⟨rfl, rfl⟩
    exact ⟨rfl, h, ⟨rfl, rfl, rfl, Nat.le_refl _, fun _ _ _ => rfl⟩⟩
set_option maxRecDepth 100000 in
set_option maxHeartbeats 2000000 in
/-- WriteString: only the builder's block and what it owns change. -/
theorem write_at {B b : Nat} {p v : Value} {l : List UInt8} (x : List UInt8) {w : World} (h : BAt B b p v l w) (hB : B ≤ w.heap.size) (hl : l.length + x.length ≤ 1000000000000) :
    Calls Tryd.prog 73 #[.pointer (some ⟨b, 0, none⟩), .string ⟨x.toArray⟩] w fun e w' => e = .returned (.tuple #[.int .i64 x.length, .nilIface]) ∧ (∃ v', BAt B b (.pointer (some ⟨b, 0, none⟩)) v' (l ++ x) w' ∧ (∀ g, v'.ownBlock = some g → v.ownBlock = some g ∨ w.heap.size ≤ g)) ∧
      (∀ k, k < w.heap.size → k ≠ b → some k ≠ v.ownBlock → w'.heap[k]? = w.heap[k]?) ∧ Below B w w' ∧ w.heap.size ≤ w'.heap.size := by
  obtain ⟨i0, hi, hz0, hz1, hz2⟩ := info_parts Tryd.infoU8
  have HC : Hid (Calls Tryd.prog 81 #[.pointer (some ⟨b, 0, none⟩)] w fun e w' => e = .returned (.tuple #[]) ∧ BAt B b (.pointer (some ⟨b, 0, none⟩)) v l w' ∧ w.grownBy w' (some b)) := check_at h
  have HOV : Hid (∀ k, v.ownBlock = some k → B ≤ k) := fun k hk => (h.own.lt k hk).1
  have hlow := h.low
  have hxs : ByteArray.size ⟨x.toArray⟩ = x.length := by show x.toArray.size = _; simp
  obtain ⟨X, hX⟩ : ∃ X : ByteArray, (⟨x.toArray⟩ : ByteArray) = X := ⟨_, rfl⟩
  have HXC : Hid (Lib.byteCells l ++ Lib.strCells X = Lib.byteCells (l ++ x)) := by show _ = _; rw [← hX]; exact byteCells_cat _ _
  rw [hX] at hxs ⊢
  have HXS : Hid (X.size = x.length) := hxs
  have hXb : l.length + X.size ≤ 1000000000000 := by omega
  clear h hX hxs
  go_enter Tryd.func73, Tryd.ntmps73
  go_wp2_with fail
  refine Calls.mono HC.out ?_
  rintro e w1 ⟨rfl, hb1, hg1⟩
  have HB1 : Hid (BAt B b (.pointer (some ⟨b, 0, none⟩)) v l w1) := hb1
  have HG1 : Hid (w.grownBy w1 (some b)) := hg1
  have hs1 : w.heap.size ≤ w1.heap.size := hg1.size
  have c1 : w1.cell? ⟨b, 1, none⟩ = some v := by rw [Lib.cell_of_heap hb1.blk]; rfl
  clear hb1 hg1
  go_wp2_with (at_builtin; refine wpList_append_at rfl _ _ 80 9 rfl B 5 i0 Tryd.underlying80 Tryd.underlying9 hi hz0 hz1 hz2 v l.length (Lib.byteCells l) rfl HB1.out.own X rfl ?c3 ?c4 ?c5 ?_)
  case c3 => unfold maxLen; omega
  case c4 => omega
  case c5 => omega
  intro v' w2 hown' hgrow hnil hloc
  have hbl : b < w1.heap.size := blk_lt HB1.out.blk
  have hb2 : w2.heap[b]? = some (.cells #[.pointer (some ⟨b, 0, none⟩), v] 133 (0, 0)) := by rw [hgrow.block b hbl (fun e => HB1.out.ne e.symm)]; exact HB1.out.blk
  have d1 : w2.cell? ⟨b, 1, none⟩ = some v := by rw [Lib.cell_of_heap hb2]; rfl
  have f1 : w2.frozen? ⟨b, 1, none⟩ = false := Lib.frozen_of_heap hb2 1
  have hv'f : ∃ ao n' cp, v' = .slice ao n' cp := by
    rcases hown'.2 with ⟨hv, _⟩ | ⟨g, cap, cur, hv, _⟩
    · exact ⟨_, _, _, hv⟩
    · exact ⟨_, _, _, hv⟩
  obtain ⟨ao, n', cp, rfl⟩ := hv'f
  have HF : Hid ((∃ v', BAt B b (.pointer (some ⟨b, 0, none⟩)) v' (l ++ x) (w2.setCell ⟨b, 1, none⟩ (.slice ao n' cp)) ∧ (∀ g, v'.ownBlock = some g → v.ownBlock = some g ∨ w.heap.size ≤ g)) ∧
      (∀ k, k < w.heap.size → k ≠ b → some k ≠ v.ownBlock → (w2.setCell ⟨b, 1, none⟩ (.slice ao n' cp)).heap[k]? = w.heap[k]?) ∧ Below B w (w2.setCell ⟨b, 1, none⟩ (.slice ao n' cp)) ∧ w.heap.size ≤ (w2.setCell ⟨b, 1, none⟩ (.slice ao n' cp)).heap.size) := by
    have hg2 : w2.grownBy (w2.setCell ⟨b, 1, none⟩ (.slice ao n' cp)) (some b) := ⟨rfl, rfl, rfl, by simp [World.setCell], fun k hk hne => Below.heap_setCell _ _ _ _ (fun e => hne (by rw [e]))⟩
    have hs2 := hgrow.size
    have hne' : (Value.slice ao n' cp).ownBlock ≠ some b := fun e => by
      rcases hloc b e with h | h
      · exact HB1.out.ne h
      · omega
    refine ⟨⟨.slice ao n' cp, ⟨hlow, by rw [set_block hb2]; rfl, ?_, hne', .inr rfl, ?_⟩, fun g hg => ?_⟩, fun k hk hkb hkv => ?_, ?_, by have := hg2.size; omega⟩
    · have h1 := hown'.kept hg2 (.inr hne')
      rw [HXC.out, HXS.out, ← List.length_append] at h1
      exact h1
    · rw [hnil, HB1.out.nil]
      have hz : X = ByteArray.empty ↔ x = [] := by rw [ba_none HXS.out]; exact List.length_eq_zero_iff
      rw [hz]
      simp
    · rcases hloc g hg with h | h
      · exact .inl h
      · exact .inr (by omega)
    · rw [hg2.block k (by omega) (by simpa using hkb), hgrow.block k (by omega) hkv, HG1.out.block k hk (by simpa using hkb)]
    · have b1 : Below B w w1 := (Below.refl B w).grown HG1.out hB (fun k hk => by injection hk with hk; omega)
      have b2 : Below B w w2 := b1.grown hgrow (by omega) (fun k hk => HOV.out k hk)
      exact b2.grown hg2 (by omega) (fun k hk => by injection hk with hk; omega)
  clear hown' hgrow hnil hloc hb2
  go_wp2_with fail
  go_ret2
  exact ⟨by rw [HXS.out]; try rfl, HF.out⟩
end Go.Proofs.YtlhojfimdignoaaDoor
