/- NumBack returns true for every two int64: the walk of its text over the contracts of layer num. -/
import Derived.Test.YtajpjkajmliffaaG
namespace Go.Proofs.Ytajpjkajmliffaa.numBack
set_option linter.unusedVariables false
open Go.ChangeShapes Go.WideShapes Go.ChangeAt Go.RowKit Go.Lib

set_option maxHeartbeats 2000000 in
set_option maxRecDepth 100000 in
theorem core (a b S P Q R : Int) (w : World)
    (hA : (∀ w1, Grown w w1 → Calls Try.prog 9 #[.int .i64 a, .int .i64 b] w1 fun e w' => e = pr 0 9 ∧ Grown w w') ∨ ((∀ w1, Grown w w1 → Calls Try.prog 9 #[.int .i64 a, .int .i64 b] w1 fun e w' => e = pr S 0 ∧ Grown w w') ∧ (∀ w1, Grown w w1 → Calls Try.prog 10 #[.int .i64 S, .int .i64 b] w1 fun e w' => e = pr a 0 ∧ Grown w w')))
    (hB : (∀ w1, Grown w w1 → Calls Try.prog 11 #[.int .i64 a, .int .i64 b] w1 fun e w' => e = pr 0 9 ∧ Grown w w') ∨ ((∀ w1, Grown w w1 → Calls Try.prog 11 #[.int .i64 a, .int .i64 b] w1 fun e w' => e = pr P 0 ∧ Grown w w') ∧ (b == 0) = true ∧ (b != 0) = false) ∨ ((∀ w1, Grown w w1 → Calls Try.prog 11 #[.int .i64 a, .int .i64 b] w1 fun e w' => e = pr P 0 ∧ Grown w w') ∧ (b == 0) = false ∧ (b != 0) = true ∧ (∀ w1, Grown w w1 → Calls Try.prog 19 #[.int .i64 P, .int .i64 b] w1 fun e w' => e = pr a 0 ∧ Grown w w')))
    (hC : ((∀ w1, Grown w w1 → Calls Try.prog 19 #[.int .i64 a, .int .i64 b] w1 fun e w' => e = pr 0 9 ∧ Grown w w') ∨ (∀ w1, Grown w w1 → Calls Try.prog 19 #[.int .i64 a, .int .i64 b] w1 fun e w' => e = pr 0 10 ∧ Grown w w')) ∨ ((∀ w1, Grown w w1 → Calls Try.prog 19 #[.int .i64 a, .int .i64 b] w1 fun e w' => e = pr Q 0 ∧ Grown w w') ∧ (∀ w1, Grown w w1 → Calls Try.prog 20 #[.int .i64 a, .int .i64 b] w1 fun e w' => e = pr R 0 ∧ Grown w w') ∧ -9223372036854775808 ≤ Q * b ∧ Q * b ≤ 9223372036854775807 ∧ Q * b + R = a))
    (c7 : (∀ w1, Grown w w1 → Calls Try.prog 13 #[.int .i64 a, .int .i64 10000] w1 fun e w' => e = pr a 0 ∧ Grown w w'))
    (hD : ((∀ w1, Grown w w1 → Calls Try.prog 21 #[.int .i64 a, .int .i64 a] w1 fun e w' => e = pr 0 10 ∧ Grown w w') ∧ (a == 0) = true ∧ (a != 0) = false) ∨ ((∀ w1, Grown w w1 → Calls Try.prog 21 #[.int .i64 a, .int .i64 a] w1 fun e w' => e = pr 10000 0 ∧ Grown w w') ∧ (a == 0) = false ∧ (a != 0) = true)) (ba : -9223372036854775808 ≤ a) (ba' : a ≤ 9223372036854775807) :
    Calls Try.prog 4 #[.int .i64 a, .int .i64 b] w fun e w' => e = .returned (.bool true) ∧ Grown w w' := by
  have c10 : ∀ w1, Grown w w1 → Calls Try.prog 22 #[] w1 fun e w' => e = .returned (.bool true) ∧ Grown w w' := fun w1 h => onto (known_any w1) h
  have hg := Grown.refl w
  rcases hA with c1 | ⟨c1, c2⟩
  all_goals rcases hB with c3 | ⟨c3, hb, hb'⟩ | ⟨c3, hb, hb', c4⟩
  all_goals rcases hC with (c5 | c5) | ⟨c5, c6, q1, q2, q3⟩
  all_goals rcases hD with ⟨c8, ha, ha'⟩ | ⟨c8, ha, ha'⟩
  all_goals
    go_enter Try.func4, Try.ntmps4
    go_wp2_with (first
      | (go_at_call 9; first | ((with_reducible refine (c1 _ hg).mono ?_); clear hg; rintro e w' ⟨rfl, hg⟩))
      | (go_at_call 10; first | ((with_reducible refine (c2 _ hg).mono ?_); clear hg; rintro e w' ⟨rfl, hg⟩))
      | (go_at_call 11; first | ((with_reducible refine (c3 _ hg).mono ?_); clear hg; rintro e w' ⟨rfl, hg⟩))
      | (go_at_call 19; first | ((with_reducible refine (c5 _ hg).mono ?_); clear hg; rintro e w' ⟨rfl, hg⟩) | ((with_reducible refine (c4 _ hg).mono ?_); clear hg; rintro e w' ⟨rfl, hg⟩))
      | (go_at_call 20; first | ((with_reducible refine (c6 _ hg).mono ?_); clear hg; rintro e w' ⟨rfl, hg⟩))
      | (go_at_call 13; first | ((with_reducible refine (c7 _ hg).mono ?_); clear hg; rintro e w' ⟨rfl, hg⟩))
      | (go_at_call 21; first | ((with_reducible refine (c8 _ hg).mono ?_); clear hg; rintro e w' ⟨rfl, hg⟩))
      | (go_at_call 22; first | ((with_reducible refine (c10 _ hg).mono ?_); clear hg; rintro e w' ⟨rfl, hg⟩)))
    go_ret
    exact ⟨rfl, hg⟩

end Go.Proofs.Ytajpjkajmliffaa.numBack
