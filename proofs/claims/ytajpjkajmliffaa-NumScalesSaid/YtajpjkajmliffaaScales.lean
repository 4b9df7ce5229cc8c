/- NumScales returns true for every two int64: the walk of its text over the contracts of layer num. -/
import Derived.Test.YtajpjkajmliffaaG
import Derived.Test.YtajpjkajmliffaaH
namespace Go.Proofs.Ytajpjkajmliffaa.numScales
set_option linter.unusedVariables false
open Go.ChangeShapes Go.WideShapes Go.ChangeAt Go.RowKit Go.Lib

set_option maxHeartbeats 2000000 in
set_option maxRecDepth 100000 in
theorem core0 (a b X Y F : Int) (w : World)
    (h : ((∀ w1, Grown w w1 → Calls Try.prog 12 #[.int .i64 a] w1 fun e w' => e = pr 0 9 ∧ Grown w w') ∧ (∀ w1, Grown w w1 → Calls Try.prog 12 #[.int .i64 b] w1 fun e w' => e = pr Y F ∧ Grown w w')) ∨ ((∀ w1, Grown w w1 → Calls Try.prog 12 #[.int .i64 a] w1 fun e w' => e = pr X 0 ∧ Grown w w') ∧ (∀ w1, Grown w w1 → Calls Try.prog 12 #[.int .i64 b] w1 fun e w' => e = pr 0 9 ∧ Grown w w'))) :
    Calls Try.prog 6 #[.int .i64 a, .int .i64 b] w fun e w' => e = .returned (.bool true) ∧ Grown w w' := by
  have k : ∀ w1, Grown w w1 → Calls Try.prog 22 #[] w1 fun e w' => e = .returned (.bool true) ∧ Grown w w' := fun w1 h => onto (known_any w1) h
  have hg := Grown.refl w
  rcases h with ⟨c1, c2⟩ | ⟨c1, c2⟩
  all_goals
    go_enter Try.func6, Try.ntmps6
    go_wp2_with (first
      | (go_at_call 12; first | ((with_reducible refine (c1 _ hg).mono ?_); clear hg; rintro e w' ⟨rfl, hg⟩) | ((with_reducible refine (c2 _ hg).mono ?_); clear hg; rintro e w' ⟨rfl, hg⟩))
      | (go_at_call 22; first | ((with_reducible refine (k _ hg).mono ?_); clear hg; rintro e w' ⟨rfl, hg⟩)))
    go_ret
    exact ⟨rfl, hg⟩

set_option maxHeartbeats 2000000 in
set_option maxRecDepth 100000 in
theorem core (a b X Y S T H P Q J V K D E : Int) (w : World)
    (c1 : (∀ w1, Grown w w1 → Calls Try.prog 12 #[.int .i64 a] w1 fun e w' => e = pr X 0 ∧ Grown w w'))
    (c2 : (∀ w1, Grown w w1 → Calls Try.prog 12 #[.int .i64 b] w1 fun e w' => e = pr Y 0 ∧ Grown w w'))
    (c3 : (∀ w1, Grown w w1 → Calls Try.prog 9 #[.int .i64 a, .int .i64 b] w1 fun e w' => e = pr S 0 ∧ Grown w w'))
    (c4 : (∀ w1, Grown w w1 → Calls Try.prog 9 #[.int .i64 X, .int .i64 Y] w1 fun e w' => e = pr T H ∧ Grown w w'))
    (c5 : (∀ w1, Grown w w1 → Calls Try.prog 12 #[.int .i64 S] w1 fun e w' => e = pr T H ∧ Grown w w'))
    (h : ((∀ w1, Grown w w1 → Calls Try.prog 11 #[.int .i64 a, .int .i64 b] w1 fun e w' => e = pr P 0 ∧ Grown w w') ∧ (∀ w1, Grown w w1 → Calls Try.prog 13 #[.int .i64 X, .int .i64 Y] w1 fun e w' => e = pr Q J ∧ Grown w w') ∧ (∀ w1, Grown w w1 → Calls Try.prog 12 #[.int .i64 P] w1 fun e w' => e = pr Q J ∧ Grown w w')) ∨ ((∀ w1, Grown w w1 → Calls Try.prog 11 #[.int .i64 a, .int .i64 b] w1 fun e w' => e = pr 0 9 ∧ Grown w w') ∧ (∀ w1, Grown w w1 → Calls Try.prog 13 #[.int .i64 X, .int .i64 Y] w1 fun e w' => e = pr 0 9 ∧ Grown w w') ∧ (∀ w1, Grown w w1 → Calls Try.prog 12 #[.int .i64 0] w1 fun e w' => e = pr V K ∧ Grown w w')))
    (c9 : (∀ w1, Grown w w1 → Calls Try.prog 21 #[.int .i64 X, .int .i64 Y] w1 fun e w' => e = pr D E ∧ Grown w w'))
    (c10 : (∀ w1, Grown w w1 → Calls Try.prog 21 #[.int .i64 a, .int .i64 b] w1 fun e w' => e = pr D E ∧ Grown w w')) :
    Calls Try.prog 6 #[.int .i64 a, .int .i64 b] w fun e w' => e = .returned (.bool true) ∧ Grown w w' := by
  have k : ∀ w1, Grown w w1 → Calls Try.prog 22 #[] w1 fun e w' => e = .returned (.bool true) ∧ Grown w w' := fun w1 h => onto (known_any w1) h
  have hg := Grown.refl w
  rcases h with ⟨c6, c7, c8⟩ | ⟨c6, c7, c8⟩
  all_goals
    go_enter Try.func6, Try.ntmps6
    go_wp2_with (first
      | (go_at_call 12; first | ((with_reducible refine (c1 _ hg).mono ?_); clear hg; rintro e w' ⟨rfl, hg⟩) | ((with_reducible refine (c2 _ hg).mono ?_); clear hg; rintro e w' ⟨rfl, hg⟩) | ((with_reducible refine (c5 _ hg).mono ?_); clear hg; rintro e w' ⟨rfl, hg⟩) | ((with_reducible refine (c8 _ hg).mono ?_); clear hg; rintro e w' ⟨rfl, hg⟩))
      | (go_at_call 9; first | ((with_reducible refine (c3 _ hg).mono ?_); clear hg; rintro e w' ⟨rfl, hg⟩) | ((with_reducible refine (c4 _ hg).mono ?_); clear hg; rintro e w' ⟨rfl, hg⟩))
      | (go_at_call 11; first | ((with_reducible refine (c6 _ hg).mono ?_); clear hg; rintro e w' ⟨rfl, hg⟩))
      | (go_at_call 13; first | ((with_reducible refine (c7 _ hg).mono ?_); clear hg; rintro e w' ⟨rfl, hg⟩))
      | (go_at_call 21; first | ((with_reducible refine (c9 _ hg).mono ?_); clear hg; rintro e w' ⟨rfl, hg⟩) | ((with_reducible refine (c10 _ hg).mono ?_); clear hg; rintro e w' ⟨rfl, hg⟩))
      | (go_at_call 22; first | ((with_reducible refine (k _ hg).mono ?_); clear hg; rintro e w' ⟨rfl, hg⟩)))
    go_ret
    exact ⟨rfl, hg⟩

end Go.Proofs.Ytajpjkajmliffaa.numScales
