/- Values that lie boxed: a list of them, kept over what is done behind. -/
import Derived.Test.YtmoomdikgfeifaaVJ
import Derived.Deep.CutRange
namespace Go.Proofs.Ytmoomdikgfeifaa
open Go.ChangeShapes Go.WideShapes Go.ChangeAt Go.RowKit
set_option linter.unusedVariables false

/-- A call that answers a value and an error. -/
abbrev CV (F : FuncId) (xs : Array Value) (A B C : Int) : Prop := ∀ W, Calls Try.prog F xs W fun e w' => e = rv A B C ∧ Old W w'
/-- A call that answers a truth. -/
abbrev CB (F : FuncId) (xs : Array Value) (b : Bool) : Prop := ∀ W, Calls Try.prog F xs W fun e w' => e = .returned (.bool b) ∧ Old W w'
/-- A call that answers a number. -/
abbrev CI (F : FuncId) (xs : Array Value) (n : Int) : Prop := ∀ W, Calls Try.prog F xs W fun e w' => e = .returned (.int .i64 n) ∧ Old W w'
/-- A call that answers a number and a truth. -/
abbrev CP2 (F : FuncId) (xs : Array Value) (n : Int) (b : Bool) : Prop := ∀ W, Calls Try.prog F xs W fun e w' => e = pb n b ∧ Old W w'

/-- These values lie boxed in these blocks. -/
def Hs (W : World) : List (Nat × Int × Int × ByteArray) → Prop
  | [] => True
  | (p, k, n, s) :: l => Three W p (.int .u8 k) (.int .i64 n) (.string s) ∧ Hs W l
theorem Hs.old {W W' : World} (ho : Old W W') : ∀ {l : List (Nat × Int × Int × ByteArray)}, Hs W l → Hs W' l
  | [], _ => trivial
  | (p, k, n, s) :: l, h => ⟨h.1.old ho, Hs.old ho h.2⟩
theorem Hs.add {W : World} {l : List (Nat × Int × Int × ByteArray)} (h : Hs W l) (k n : Int) (s : ByteArray) : Hs (W.alloc (.cells #[.int .u8 k, .int .i64 n, .string s] 23)) ((W.heap.size, k, n, s) :: l) :=
  ⟨Three.new W _ _ _, h.old ((Old.refl W).alloc _)⟩
theorem Hs.two (w : World) (k n : Int) (s : ByteArray) (k' n' : Int) (s' : ByteArray) : Hs ((w.alloc (.cells #[.int .u8 k, .int .i64 n, .string s] 23)).alloc (.cells #[.int .u8 k', .int .i64 n', .string s'] 23)) [(w.heap.size, k, n, s), (w.heap.size + 1, k', n', s')] :=
  ⟨(Bx2.new w k n s k' n' s').t0, (Bx2.new w k n s k' n' s').t1, trivial⟩
theorem Hs.three (w : World) (k n : Int) (s : ByteArray) (k' n' : Int) (s' : ByteArray) (k'' n'' : Int) (s'' : ByteArray) : Hs (((w.alloc (.cells #[.int .u8 k, .int .i64 n, .string s] 23)).alloc (.cells #[.int .u8 k', .int .i64 n', .string s'] 23)).alloc (.cells #[.int .u8 k'', .int .i64 n'', .string s''] 23)) [(w.heap.size, k, n, s), (w.heap.size + 1, k', n', s'), (w.heap.size + 1 + 1, k'', n'', s'')] := by
  have b := (Bx2.new w k n s k' n' s').old ((Old.refl _).alloc (.cells #[.int .u8 k'', .int .i64 n'', .string s''] 23))
  refine ⟨b.t0, b.t1, ?_, trivial⟩
  have := Three.new ((w.alloc (.cells #[.int .u8 k, .int .i64 n, .string s] 23)).alloc (.cells #[.int .u8 k', .int .i64 n', .string s'] 23)) (.int .u8 k'') (.int .i64 n'') (.string s'')
  rwa [sz_alloc, sz_alloc] at this

end Go.Proofs.Ytmoomdikgfeifaa
