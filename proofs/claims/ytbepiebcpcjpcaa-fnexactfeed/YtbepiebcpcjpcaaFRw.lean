/- A right framer, by the program; what is fed, both sides: contracts. -/
import Derived.Test.YtbepiebcpcjpcaaFRu
import Derived.Test.YtbepiebcpcjpcaaFRv
namespace Go.Proofs.Ytbepiebcpcjpcaa
open Go.RowKit Go.Sort
set_option linter.unusedVariables false
theorem tkm_fs (l : List UInt8) : tkm l = (decide ((fs l).2.1 = 0) && (fs l).2.2) := by
  unfold tkm
  cases e : tk l with
  | none => rw [fs_none e]; rfl
  | more => rw [fs_more e]; rfl
  | whole a k n h =>
    have hw := tk_whole e
    rw [fs_whole e]
    have : decide (h + n + (fs (l.drop (h + n))).2.1 = 0) = false := by simp; omega
    simp only [this]
    rfl
theorem tkD_more {a k n h : Nat} {r : List UInt8} (e : tkD a k n h r = .more) : r.length < n := by
  unfold tkD at e
  split at e
  · assumption
  · cases e
theorem tk_more {l : List UInt8} (e : tk l = .more) : l.length ≤ 1003 := by
  match l with
  | [] => simp
  | a :: r =>
    rw [tk] at e
    split at e
    · cases e
    · match r with
      | [] => simp
      | k :: r =>
        rw [tkK] at e
        split at e
        · cases e
        · match r with
          | [] => simp
          | c :: r =>
            rw [tkL] at e
            split at e
            · have := tkD_more e; simp only [List.length_cons]; omega
            · match r with
              | [] => simp
              | d :: r =>
                rw [tkM] at e
                split at e
                · cases e
                · have := tkD_more e; simp only [List.length_cons]; omega
theorem fkB_size {s : ByteArray} {n : Int} {b : Bool} (h : fkB s n b = true) : s.size ≤ 1003 ∧ 0 ≤ n ∧ n ≤ 1000000000 := by
  unfold fkB tkm at h
  cases e : tk s.data.toList with
  | more =>
    have := tk_more e
    rw [e] at h
    simp at h this
    omega
  | none => rw [e] at h; simp at h
  | whole _ _ _ _ => rw [e] at h; simp at h
set_option maxRecDepth 100000 in
set_option maxHeartbeats 2000000 in
theorem implFramerOk_any (s : ByteArray) (n : Int) (b : Bool) (w : World) (hs : s.size ≤ 2097152) : Calls Try.prog 14 #[.agg #[.string s, .int .i64 n, .bool b]] w fun e w' => e = .returned (.bool (fkB s n b)) ∧ Below w.heap.size w w' := by
  obtain ⟨c0, c1, c2⟩ := boxR w s n b (w.alloc (.cells #[.string s, .int .i64 n, .bool b] 33)) (heap_alloc_new w _)
  have HB : Hid (Below w.heap.size w (w.alloc (.cells #[.string s, .int .i64 n, .bool b] 33))) := bel1 _ _
  by_cases h1 : n < 0
  · have HR : Hid (fkB s n b = false) := by show _ = _; unfold fkB; rw [show decide (0 ≤ n ∧ n ≤ 1000000000) = false by simp; omega]; simp
    rw [HR.out]
    go_enter Try.func14, Try.ntmps14
    go_wp2_with fail
    go_ret
    exact ⟨rfl, HB.out⟩
  · by_cases h2 : 1000000000 < n
    · have HR : Hid (fkB s n b = false) := by show _ = _; unfold fkB; rw [show decide (0 ≤ n ∧ n ≤ 1000000000) = false by simp; omega]; simp
      rw [HR.out]
      go_enter Try.func14, Try.ntmps14
      go_wp2_with fail
      go_ret
      exact ⟨rfl, HB.out⟩
    · have hd : decide (0 ≤ n ∧ n ≤ 1000000000) = true := by simp; omega
      have hz : s.toList.isEmpty = decide (s.size = 0) := str_empty s
      obtain ⟨E, hE⟩ : ∃ E : Nat, (fs s.data.toList).2.1 = E := ⟨_, rfl⟩
      obtain ⟨g, hg⟩ : ∃ g, (fs s.data.toList).2.2 = g := ⟨_, rfl⟩
      have HC : Hid (∀ w : World, Calls Try.prog 31 #[.string s] w fun e w' => (∃ v, e = .returned (.tuple #[v, .int .i64 (E : Nat), .bool g])) ∧ Below w.heap.size w w') := fun w => by
        refine (runFramer_any s w hs).mono ?_
        rintro e w' ⟨⟨v, rfl, _⟩, hb⟩
        rw [hE, hg]
        exact ⟨⟨v, rfl⟩, hb⟩
      have HT : Hid (tkm s.data.toList = (decide (E = 0) && g)) := by show _ = _; rw [tkm_fs, hE, hg]
      clear hE hg
      cases b with
      | true =>
        by_cases h3 : s.size = 0
        · have HR : Hid (fkB s n true = (decide (E = 0) && g)) := by show _ = _; unfold fkB; rw [HT.out, hd]; simp [h3]
          have hz' : s.toList.isEmpty = true := by rw [hz]; simpa using h3
          rw [HR.out]
          clear hz hd h3 HT HR
          by_cases h4 : E = 0
          · have h4' : ((E : Int) == 0) = true := by simp; omega
            rw [show decide (E = 0) = true by simpa using h4]
            clear h4
            cases g
            all_goals
              go_enter Try.func14, Try.ntmps14
              go_wp2_with fail
              refine (HC.out _).mono ?_
              rintro e w1 ⟨⟨v, rfl⟩, hb1⟩
              have HB1 : Hid (Below w.heap.size w w1) := HB.out.trans (hb1.mono (by simp))
              clear hb1
              go_wp2_with fail
              go_ret
              exact ⟨rfl, HB1.out⟩
          · have h4' : ((E : Int) == 0) = false := by simp; omega
            rw [show decide (E = 0) = false by simpa using h4]
            clear h4
            go_enter Try.func14, Try.ntmps14
            go_wp2_with fail
            refine (HC.out _).mono ?_
            rintro e w1 ⟨⟨v, rfl⟩, hb1⟩
            have HB1 : Hid (Below w.heap.size w w1) := HB.out.trans (hb1.mono (by simp))
            clear hb1
            go_wp2_with fail
            go_ret
            exact ⟨rfl, HB1.out⟩
        · have HR : Hid (fkB s n true = false) := by show _ = _; unfold fkB; simp [h3]
          have hz' : s.toList.isEmpty = false := by rw [hz]; simpa using h3
          rw [HR.out]
          clear hz hd h3 HT HR HC
          go_enter Try.func14, Try.ntmps14
          go_wp2_with fail
          go_ret
          exact ⟨rfl, HB.out⟩
      | false =>
        have HR : Hid (fkB s n false = (decide (E = 0) && g)) := by show _ = _; unfold fkB; rw [HT.out, hd]; simp
        rw [HR.out]
        clear hz hd HT HR
        by_cases h4 : E = 0
        · have h4' : ((E : Int) == 0) = true := by simp; omega
          rw [show decide (E = 0) = true by simpa using h4]
          clear h4
          cases g
          all_goals
            go_enter Try.func14, Try.ntmps14
            go_wp2_with fail
            refine (HC.out _).mono ?_
            rintro e w1 ⟨⟨v, rfl⟩, hb1⟩
            have HB1 : Hid (Below w.heap.size w w1) := HB.out.trans (hb1.mono (by simp))
            clear hb1
            go_wp2_with fail
            go_ret
            exact ⟨rfl, HB1.out⟩
        · have h4' : ((E : Int) == 0) = false := by simp; omega
          rw [show decide (E = 0) = false by simpa using h4]
          clear h4
          go_enter Try.func14, Try.ntmps14
          go_wp2_with fail
          refine (HC.out _).mono ?_
          rintro e w1 ⟨⟨v, rfl⟩, hb1⟩
          have HB1 : Hid (Below w.heap.size w w1) := HB.out.trans (hb1.mono (by simp))
          clear hb1
          go_wp2_with fail
          go_ret
          exact ⟨rfl, HB1.out⟩
end Go.Proofs.Ytbepiebcpcjpcaa
