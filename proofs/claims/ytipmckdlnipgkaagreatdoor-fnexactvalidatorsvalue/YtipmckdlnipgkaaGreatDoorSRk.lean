/- What the program's text lays into the variables that are read; a contract that is handed the world's shape. -/
import Derived.Test.YtipmckdlnipgkaaGreatDoorSRf
import Derived.Test.YtipmckdlnipgkaaGreatDoorS2k
import Derived.Lib.LaidTab
import Derived.Stop.LaidErr
import Derived.Shelf.Vars
import Derived.SizedLaws
namespace Go.Proofs.YtipmckdlnipgkaaGreatDoor
open Go.RowKit Go.Sort Go.ChangeShapes Go.WideShapes
set_option linter.unusedVariables false
abbrev laidM : List (String × DataW Unit) := [("math/bits.deBruijn32tab", Rows.laid_math_bits_deBruijn32tab), ("math/bits.deBruijn64tab", Rows.laid_math_bits_deBruijn64tab), ("internal/strconv.uint64pow10", Rows.laid_internal_strconv_uint64pow10), ("unicode/utf8.acceptRanges", Rows.laid_unicode_utf8_acceptRanges), ("strconv.ErrRange", Rows.laid_strconv_ErrRange), ("strconv.ErrSyntax", Rows.laid_strconv_ErrSyntax), ("loop.example/g00774/impl.kindRows", Rows.laid_loop_example_g00774_impl_kindRows), ("unicode/utf8.first", Rows.laid_unicode_utf8_first)]
theorem laidMet_headM {P : Program} {x : String × DataW Unit} {r : List (String × DataW Unit)} {w : World} (h : laidMet P (x :: r) w) : laidMet P [x] w := by
  obtain ⟨ps, hv, hnd, hrows⟩ := h
  obtain ⟨n, d⟩ := x
  obtain ⟨g, t, cs, fuel, p, q, a1, a2, a3, a4, hq, rfl⟩ := hv
  exact ⟨MemPlace.row ⟨g, 0, none⟩ cs.size ++ p ++ [], ⟨g, t, cs, fuel, p, [], a1, a2, a3, a4, rfl, rfl⟩, by simpa using List.Nodup.sublist (List.sublist_append_left _ _) hnd, fun b off hm => hrows b off (by simp at hm ⊢; rcases hm with hm | hm <;> simp [hm])⟩
theorem laidM_kr {W : World} (h : laidMetH Tryz.prog laidM W) : laidMetH Tryz.prog laidKR W := by
  rw [MakeChecks.laidMetH_plain _ _ _ (by kernel_rfl)] at h ⊢
  exact laidMet_headM h.tail.tail.tail.tail.tail.tail
theorem powM {W : World} (h : laidMetH Tryz.prog laidM W) : Lib.TabIs Tryz.prog W "internal/strconv.uint64pow10" .u64 Lib.pow10Tab := by
  rw [MakeChecks.laidMetH_plain _ _ _ (by kernel_rfl)] at h
  have h := h.tail.tail
  have e : (Rows.laid_internal_strconv_uint64pow10 : DataW Unit) = Lib.tabData .u64 Lib.pow10Tab := by kernel_rfl
  rw [e] at h
  exact Lib.tabIs_of_head Tryz.gPW (show (Tryz.prog.globals[6]?).map (·.type) = some 215 by kernel_rfl) Tryz.underlying215 Tryz.underlying22 (by kernel_rfl) (by kernel_rfl) h
theorem Tryz.starM : "*" ++ "errors.errorString" = "*errors.errorString" := by decide
theorem Tryz.rowM (u : TypeId) (h : Tryz.prog.typeName? 3 u = some "*errors.errorString") : u = 219 :=
  typeName_ptr_named (nm := "errors.errorString") (by rw [Tryz.starM]; kernel_rfl) (by kernel_rfl) (by decide) u (by rw [Tryz.starM]; exact h)
theorem Tryz.cellsEM : Tryz.prog.cellsOf 221 = 1 := by kernel_rfl
theorem Tryz.cellsSM : Tryz.prog.cellsOf 9 = 1 := by kernel_rfl
theorem Tryz.gErrRange : Tryz.prog.globalNamed "strconv.ErrRange" = some 5 := by kernel_rfl
theorem Tryz.tErrRange : (Tryz.prog.globals[5]?).map (·.type) = some 182 := by kernel_rfl
theorem Tryz.gErrSyntax : Tryz.prog.globalNamed "strconv.ErrSyntax" = some 4 := by kernel_rfl
theorem Tryz.tErrSyntax : (Tryz.prog.globals[4]?).map (·.type) = some 182 := by kernel_rfl
theorem EV.of_laid {W : World} (h : laidMetH Tryz.prog laidM W) (hsh : W.ShapedOpen Tryz.prog) : EV W := by
  have hkr : KR W := KR.of_laid (laidM_kr h)
  have hp : PW W := powM h
  rw [MakeChecks.laidMetH_plain _ _ _ (by kernel_rfl)] at h
  obtain ⟨a, s, h1, _⟩ := laid_sentinel h.tail.tail.tail.tail Tryz.gErrRange Tryz.tErrRange Tryz.underlying182 Tryz.rowM Tryz.underlying219 Tryz.underlying221 rfl rfl Tryz.underlying9 Tryz.cellsEM Tryz.cellsSM
  obtain ⟨a', s', h2, _⟩ := laid_sentinel h.tail.tail.tail.tail.tail Tryz.gErrSyntax Tryz.tErrSyntax Tryz.underlying182 Tryz.rowM Tryz.underlying219 Tryz.underlying221 rfl rfl Tryz.underlying9 Tryz.cellsEM Tryz.cellsSM
  refine ⟨?_, ⟨_, by simpa using World.var?_cell Tryz.gErrSyntax h2 0, .inr ⟨_, _, rfl⟩⟩, ⟨_, by simpa using World.var?_cell Tryz.gErrRange h1 0, .inr ⟨_, _, rfl⟩⟩, hp, hkr⟩
  exact cell_of_shapedOpen_int (P := Tryz.prog) (g := 1) (t := 3) (zero := #[.int .i64 0]) hsh (of_decide_eq_true (by kernel_rfl)) (by kernel_rfl) rfl (by kernel_rfl) (by kernel_rfl) Tryz.underlying3
theorem returnsInHanded_sh {H : Type} {enc : TypeId × Value → H} {a : Assume} {C : Checked} {os : Os} {f : FuncId} {fn : Func} {s : ChangeSpec} {conds : List PathCond} {apart fresh handsOn again : Bool} {X : World → Array Value → Prop}
    (hX : ∀ (w w' : World) (args : Array Value), w.heap = w'.heap → X w args → X w' args)
    (own : ownKnob C.prog.godebug = none) (started : os.Started) (noInit : C.prog.inits.idxOf? f = none) (hfn : C.prog.funcs[f]? = some fn)
    (witness : ∃ (w : World) (tape : Tape) (i : Input), w.os = os ∧ (w.forCall tape i).Shaped C.prog ∧ i.vars = [] ∧ Input.okWide C.prog (w.forCall tape i) .any w.heap.size f i ∧
      ((s.pre enc C.prog fn conds apart (w.forCall tape i).memory i.args ∧ X (w.forCall tape i).memory i.args) ∧ sizedMet enc C.prog fn (OpenSpec.ofChange s) apart (w.forCall tape i).memory i.args) ∧ a.holds C.prog (lone (Frame.enter C.prog f i.args .normal) [] (w.forCall tape i)))
    (contract : ∀ (W : World) (base : Nat) (args : Array Value) (ds gs : List (DataW H)) (before : List MemPlace),
      (∀ (j : Nat) t v, fn.params[j]? = some t → args[j]? = some v → Value.okWide C.prog W .any base t v) →
      DataW.Whole enc C.prog fn.params.toList s.vars apart W args.toList ds gs before → X W args → W.ShapedOpen C.prog →
      Calls C.prog f args W fun e W' => ∃ v, e = .returned v ∧ s.post enc C.prog fn apart fresh handsOn again W args v W') :
    ReturnsInHanded a C os f .any (fun w args => (s.pre enc C.prog fn conds apart w args ∧ X w args) ∧ sizedMet enc C.prog fn (OpenSpec.ofChange s) apart w args) (s.post enc C.prog fn apart fresh handsOn again) := by
  refine returnsInHanded_of_calls own started noInit witness ?_
  intro w tape i _ hsh _ hok hpre hholds
  obtain ⟨_, _, _, fn', hfn', _, _, _, _, hval⟩ := hok
  obtain rfl : fn' = fn := Option.some.inj (hfn'.symm.trans hfn)
  obtain ⟨⟨⟨ds, gs, before, hw, _⟩, hx⟩, _⟩ := hpre
  refine (contract (w.forCall tape i) w.heap.size i.args ds gs before hval (DataW.Whole.of_heap (w' := w.forCall tape i) (by rfl) hw) (hX _ _ _ (by rfl) hx) hsh).mono fun e W' ⟨v, he, hp⟩ => ?_
  subst he
  exact ChangeSpec.post_blind hp
end Go.Proofs.YtipmckdlnipgkaaGreatDoor
