/- The calls of layer num, handed on over a world that has only grown. -/
import Derived.Test.YtmoomdikgfeifaaF
namespace Go.Proofs.Ytmoomdikgfeifaa
open Go.ChangeShapes Go.WideShapes Go.ChangeAt Go.RowKit Go.Lib

/-- A pair's ending. -/
abbrev pr (v e : Int) : Ending := .returned (.tuple #[.int .i64 v, .int .i64 e])

theorem onto {F : FuncId} {xs : Array Value} {e0 : Ending} {w w1 : World} (h : Calls Try.prog F xs w1 fun e w' => e = e0 ∧ Grown w1 w') (hg : Grown w w1) : Calls Try.prog F xs w1 fun e w' => e = e0 ∧ Grown w w' :=
  h.mono fun _ _ ⟨he, hw⟩ => ⟨he, Grown.trans hg hw⟩
theorem onSame {F : FuncId} {xs : Array Value} {e0 : Ending} {w w1 : World} (h : Calls Try.prog F xs w1 fun e w' => e = e0 ∧ w1 = w') (hg : Grown w w1) : Calls Try.prog F xs w1 fun e w' => e = e0 ∧ Grown w w' :=
  h.mono fun _ _ ⟨he, hw⟩ => ⟨he, hw ▸ hg⟩

instance (n : Int) : Decidable (I64 n) := inferInstanceAs (Decidable (_ ∧ _))
end Go.Proofs.Ytmoomdikgfeifaa
