/- The statements' own helper known(): it returns true; and the calls of layer num, handed on over a world that has only grown. -/
import Derived.Test.YtajpjkajmliffaaF
namespace Go.Proofs.Ytajpjkajmliffaa
open Go.ChangeShapes Go.WideShapes Go.ChangeAt Go.RowKit Go.Lib

/-- A pair's ending. -/
abbrev pr (v e : Int) : Ending := .returned (.tuple #[.int .i64 v, .int .i64 e])

theorem onto {F : FuncId} {xs : Array Value} {e0 : Ending} {w w1 : World} (h : Calls Try.prog F xs w1 fun e w' => e = e0 ∧ Grown w1 w') (hg : Grown w w1) : Calls Try.prog F xs w1 fun e w' => e = e0 ∧ Grown w w' :=
  h.mono fun _ _ ⟨he, hw⟩ => ⟨he, Grown.trans hg hw⟩
theorem onSame {F : FuncId} {xs : Array Value} {e0 : Ending} {w w1 : World} (h : Calls Try.prog F xs w1 fun e w' => e = e0 ∧ w1 = w') (hg : Grown w w1) : Calls Try.prog F xs w1 fun e w' => e = e0 ∧ Grown w w' :=
  h.mono fun _ _ ⟨he, hw⟩ => ⟨he, hw ▸ hg⟩

instance (n : Int) : Decidable (I64 n) := inferInstanceAs (Decidable (_ ∧ _))
theorem known_any (w : World) : Calls Try.prog 22 #[] w fun e w' => e = .returned (.bool true) ∧ Grown w w' := by
  have k1 : ∀ w1, Grown w w1 → Calls Try.prog 19 #[.int .i64 (-7), .int .i64 2] w1 fun e w' => e = pr (-3) 0 ∧ Grown w w' := fun w1 h =>
    onto (quo_any (-7) 2 w1 (by decide) (by decide) (by decide)) h
  have k2 : ∀ w1, Grown w w1 → Calls Try.prog 20 #[.int .i64 (-7), .int .i64 2] w1 fun e w' => e = pr (-1) 0 ∧ Grown w w' := fun w1 h =>
    onSame (mod_any (-7) 2 w1 (by decide) (by decide)) h
  have k3 : ∀ w1, Grown w w1 → Calls Try.prog 13 #[.int .i64 15000, .int .i64 1] w1 fun e w' => e = pr 2 0 ∧ Grown w w' := fun w1 h =>
    onto (muldec_any 15000 1 w1 (by decide) (by decide)) h
  have k4 : ∀ w1, Grown w w1 → Calls Try.prog 21 #[.int .i64 10000, .int .i64 30000] w1 fun e w' => e = pr 3333 0 ∧ Grown w w' := fun w1 h =>
    onto (divdec_any 10000 30000 w1 (by decide) (by decide) (by decide)) h
  have k5 : ∀ w1, Grown w w1 → Calls Try.prog 19 #[.int .i64 (-9223372036854775808), .int .i64 (-1)] w1 fun e w' => e = pr 0 9 ∧ Grown w w' := fun w1 h =>
    onto (quo_any (-9223372036854775808) (-1) w1 (by decide) (by decide) (by decide)) h
  have hg := Grown.refl w
  go_enter Try.func22, Try.ntmps22
  go_wp2_with (first
    | (go_at_call 19; first | ((with_reducible refine (k1 _ hg).mono ?_); clear hg; rintro e w' ⟨rfl, hg⟩) | ((with_reducible refine (k5 _ hg).mono ?_); clear hg; rintro e w' ⟨rfl, hg⟩))
    | (go_at_call 20; (with_reducible refine (k2 _ hg).mono ?_); clear hg; rintro e w' ⟨rfl, hg⟩)
    | (go_at_call 13; (with_reducible refine (k3 _ hg).mono ?_); clear hg; rintro e w' ⟨rfl, hg⟩)
    | (go_at_call 21; (with_reducible refine (k4 _ hg).mono ?_); clear hg; rintro e w' ⟨rfl, hg⟩))
  go_ret
  exact ⟨rfl, hg⟩

end Go.Proofs.Ytajpjkajmliffaa
