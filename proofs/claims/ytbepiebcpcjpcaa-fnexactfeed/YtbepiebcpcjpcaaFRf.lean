/- The frame of the framer's run: what its slots hold at each label. -/
import Derived.Test.YtbepiebcpcjpcaaFRs
import Derived.Test.YtbepiebcpcjpcaaFRb
namespace Go.Proofs.Ytbepiebcpcjpcaa
open Go.RowKit
set_option linter.unusedVariables false
def FrameIs (a : Act) (s : ByteArray) (v x3 : Value) (F : Nat) (x6 x7 x8 : Value) (R : ByteArray) : Prop := ∃ u10 u11 u12 u13 u14 u15 u16 u17 u18 u19 u20 u21 u22 u23 u24 u25 u26 u27 u28 u29 u30 u31 u32 u33 u34 u35 u36 u37 u38 u39 u40 u41 u42 u43 u44 u45 u46 u47 u48 u49 u50 u51 u52 u53 u54 u55 u56 u57 u58 u59 u60 u61 u62 u63 u64 u65 u66 u67 u68 u69 u70 u71 u72 u73 u74 u75 u76 u77 u78 u79 u80 u81 u82 u83 u84 u85 u86 u87 u88 u89 u90 : Value, a = { tmps := #[.string s, undef, v, x3, .bool false, .pointer (some ⟨F, 0, none⟩), x6, x7, x8, .string R, u10, u11, u12, u13, u14, u15, u16, u17, u18, u19, u20, u21, u22, u23, u24, u25, u26, u27, u28, u29, u30, u31, u32, u33, u34, u35, u36, u37, u38, u39, u40, u41, u42, u43, u44, u45, u46, u47, u48, u49, u50, u51, u52, u53, u54, u55, u56, u57, u58, u59, u60, u61, u62, u63, u64, u65, u66, u67, u68, u69, u70, u71, u72, u73, u74, u75, u76, u77, u78, u79, u80, u81, u82, u83, u84, u85, u86, u87, u88, u89, u90], defers := [] }
theorem FrameIs.mk {s : ByteArray} {v x3 : Value} {F : Nat} {x6 x7 x8 : Value} {R : ByteArray} {u10 u11 u12 u13 u14 u15 u16 u17 u18 u19 u20 u21 u22 u23 u24 u25 u26 u27 u28 u29 u30 u31 u32 u33 u34 u35 u36 u37 u38 u39 u40 u41 u42 u43 u44 u45 u46 u47 u48 u49 u50 u51 u52 u53 u54 u55 u56 u57 u58 u59 u60 u61 u62 u63 u64 u65 u66 u67 u68 u69 u70 u71 u72 u73 u74 u75 u76 u77 u78 u79 u80 u81 u82 u83 u84 u85 u86 u87 u88 u89 u90 : Value} : FrameIs { tmps := #[.string s, undef, v, x3, .bool false, .pointer (some ⟨F, 0, none⟩), x6, x7, x8, .string R, u10, u11, u12, u13, u14, u15, u16, u17, u18, u19, u20, u21, u22, u23, u24, u25, u26, u27, u28, u29, u30, u31, u32, u33, u34, u35, u36, u37, u38, u39, u40, u41, u42, u43, u44, u45, u46, u47, u48, u49, u50, u51, u52, u53, u54, u55, u56, u57, u58, u59, u60, u61, u62, u63, u64, u65, u66, u67, u68, u69, u70, u71, u72, u73, u74, u75, u76, u77, u78, u79, u80, u81, u82, u83, u84, u85, u86, u87, u88, u89, u90], defers := [] } s v x3 F x6 x7 x8 R := ⟨u10, u11, u12, u13, u14, u15, u16, u17, u18, u19, u20, u21, u22, u23, u24, u25, u26, u27, u28, u29, u30, u31, u32, u33, u34, u35, u36, u37, u38, u39, u40, u41, u42, u43, u44, u45, u46, u47, u48, u49, u50, u51, u52, u53, u54, u55, u56, u57, u58, u59, u60, u61, u62, u63, u64, u65, u66, u67, u68, u69, u70, u71, u72, u73, u74, u75, u76, u77, u78, u79, u80, u81, u82, u83, u84, u85, u86, u87, u88, u89, u90, rfl⟩
/-- What holds at every label: the frames told, l, end at p; v is the slice of these; block F is the frame that is read. -/
structure FrB (s : ByteArray) (w0 : World) (F : Nat) (w : World) (v : Value) (l : List Fr) (p : Nat) (X Y Z : Value) : Prop where
  at_ : At s.data.toList l p
  own : OwnF (F + 1) w v l
  blk : w.heap[F]? = some (.cells #[X, Y, Z] 26 (0, 0))
  bel : Below w0.heap.size w0 w
  hF : w0.heap.size = F
theorem FrB.p_le {s : ByteArray} {w0 : World} {F : Nat} {w : World} {v : Value} {l : List Fr} {p : Nat} {X Y Z : Value} (h : FrB s w0 F w v l p X Y Z) : p ≤ s.size := by have := h.at_.1; simpa using this
/-- What holds at a label, and how much is left. -/
def FrI (s : ByteArray) (w0 : World) (F : Nat) : Nat → Nat → Act → World → Prop
  | 0, n, a, w => ∃ v l p R x3 x6 x7 x8 X Y Z, FrameIs a s v x3 F x6 x7 x8 R ∧ FrB s w0 F w v l p X (.int .i64 Y) (.string Z) ∧ (∃ q, X = .int .i64 q) ∧ R.data.toList = s.data.toList.drop p ∧ n = 4 * R.size + 3
  | 1, n, a, w => ∃ v l p R x6 x7 x8 X Y Z, FrameIs a s v (.int .i64 (p : Nat)) F x6 x7 x8 R ∧ FrB s w0 F w v l p X Y Z ∧ tk (s.data.toList.drop p) = .more ∧ n = 0
  | 2, n, a, w => ∃ v l p R x6 x7 x8 X Y Z, FrameIs a s v (.int .i64 (p : Nat)) F x6 x7 x8 R ∧ FrB s w0 F w v l p X Y Z ∧ tk (s.data.toList.drop p) = .none ∧ n = 0
  | 3, n, a, w => ∃ (v : Value) (l : List Fr) (p : Nat) (R : ByteArray) (x6 : Value) (A K c : Nat) (C : Int) (Z : ByteArray), FrameIs a s v (.int .i64 (p : Nat)) F x6 (.int .i64 C) (.int .i64 128) R ∧ C = ((c % 128 : Nat) : Int) ∧ FrB s w0 F w v l p (.int .i64 A) (.int .i64 K) (.string Z) ∧ tk (s.data.toList.drop p) = tkM A K c R.data.toList ∧ R.data.toList = s.data.toList.drop (p + 3) ∧ p + 3 ≤ s.size ∧ n = 4 * R.size + 2
  | 4, n, a, w => ∃ (v : Value) (l : List Fr) (p : Nat) (R : ByteArray) (A K c m h : Nat) (M wt : Int) (Z : ByteArray), FrameIs a s v (.int .i64 (p : Nat)) F (.int .i64 (c : Nat)) (.int .i64 M) (.int .i64 wt) R ∧ M = ((m : Nat) : Int) ∧ FrB s w0 F w v l p (.int .i64 A) (.int .i64 K) (.string Z) ∧ tk (s.data.toList.drop p) = (if 1000 < m ∨ (c = 0 ∧ 128 < wt) then .none else tkD A K m h R.data.toList) ∧ R.data.toList = s.data.toList.drop (p + h) ∧ p + h ≤ s.size ∧ c < 128 ∧ m < 16384 ∧ wt ≤ 16384 ∧ n = 4 * R.size + 4
  | _ + 5, _, _, _ => False
end Go.Proofs.Ytbepiebcpcjpcaa
