/- NumTurns returns true for every two int64: the walk of its text over the contracts of layer num. -/
import Derived.Test.YtajpjkajmliffaaG
namespace Go.Proofs.Ytajpjkajmliffaa.numTurns
open Go.ChangeShapes Go.WideShapes Go.ChangeAt Go.RowKit Go.Lib

theorem sgn_comm (a b : Int) (n : Nat) : sgn a b n = sgn b a n := by
  unfold sgn
  by_cases ha : a < 0 <;> by_cases hb : b < 0 <;> simp [ha, hb]

set_option maxHeartbeats 1000000 in
set_option maxRecDepth 100000 in
theorem core0 (a b S E P G M I D K O L : Int) (w : World)
    (c1 : ∀ w1, Grown w w1 → Calls Try.prog 9 #[.int .i64 a, .int .i64 b] w1 fun e w' => e = pr S E ∧ Grown w w')
    (c2 : ∀ w1, Grown w w1 → Calls Try.prog 9 #[.int .i64 b, .int .i64 a] w1 fun e w' => e = pr S E ∧ Grown w w')
    (c3 : ∀ w1, Grown w w1 → Calls Try.prog 11 #[.int .i64 a, .int .i64 b] w1 fun e w' => e = pr P G ∧ Grown w w')
    (c4 : ∀ w1, Grown w w1 → Calls Try.prog 11 #[.int .i64 b, .int .i64 a] w1 fun e w' => e = pr P G ∧ Grown w w')
    (c5 : ∀ w1, Grown w w1 → Calls Try.prog 13 #[.int .i64 a, .int .i64 b] w1 fun e w' => e = pr M I ∧ Grown w w')
    (c6 : ∀ w1, Grown w w1 → Calls Try.prog 13 #[.int .i64 b, .int .i64 a] w1 fun e w' => e = pr M I ∧ Grown w w')
    (c7 : ∀ w1, Grown w w1 → Calls Try.prog 10 #[.int .i64 a, .int .i64 b] w1 fun e w' => e = pr D K ∧ Grown w w')
    (c8 : ∀ w1, Grown w w1 → Calls Try.prog 10 #[.int .i64 b, .int .i64 a] w1 fun e w' => e = pr O L ∧ Grown w w')
    (c9 : ∀ w1, Grown w w1 → Calls Try.prog 20 #[.int .i64 a, .int .i64 b] w1 fun e w' => e = pr 0 10 ∧ Grown w w')
    (hs : (K == 0) = false ∨ ((K == 0) = true ∧ (L == 0) = false) ∨ ((K == 0) = true ∧ (L == 0) = true ∧ (D == -O) = true ∧ -9223372036854775807 ≤ O ∧ O ≤ 9223372036854775807))
    (hb : (b == 0) = true) :
    Calls Try.prog 5 #[.int .i64 a, .int .i64 b] w fun e w' => e = .returned (.bool true) ∧ Grown w w' := by
  have c10 : ∀ w1, Grown w w1 → Calls Try.prog 22 #[] w1 fun e w' => e = .returned (.bool true) ∧ Grown w w' := fun w1 h => onto (known_any w1) h
  have hg := Grown.refl w
  rcases hs with hs | ⟨hs1, hs⟩ | ⟨hs1, hs2, hs3, hs4, hs5⟩
  all_goals go_enter Try.func5, Try.ntmps5
  all_goals
    go_wp2_with (first
      | (go_at_call 9; first | ((with_reducible refine (c1 _ hg).mono ?_); clear hg; rintro e w' ⟨rfl, hg⟩) | ((with_reducible refine (c2 _ hg).mono ?_); clear hg; rintro e w' ⟨rfl, hg⟩))
      | (go_at_call 11; first | ((with_reducible refine (c3 _ hg).mono ?_); clear hg; rintro e w' ⟨rfl, hg⟩) | ((with_reducible refine (c4 _ hg).mono ?_); clear hg; rintro e w' ⟨rfl, hg⟩))
      | (go_at_call 13; first | ((with_reducible refine (c5 _ hg).mono ?_); clear hg; rintro e w' ⟨rfl, hg⟩) | ((with_reducible refine (c6 _ hg).mono ?_); clear hg; rintro e w' ⟨rfl, hg⟩))
      | (go_at_call 10; first | ((with_reducible refine (c7 _ hg).mono ?_); clear hg; rintro e w' ⟨rfl, hg⟩) | ((with_reducible refine (c8 _ hg).mono ?_); clear hg; rintro e w' ⟨rfl, hg⟩))
      | (go_at_call 20; (with_reducible refine (c9 _ hg).mono ?_); clear hg; rintro e w' ⟨rfl, hg⟩)
      | (go_at_call 22; (with_reducible refine (c10 _ hg).mono ?_); clear hg; rintro e w' ⟨rfl, hg⟩))
    go_ret
    exact ⟨rfl, hg⟩

set_option maxHeartbeats 1000000 in
set_option maxRecDepth 100000 in
theorem corePos (a b S E P G M I D K O L R : Int) (w : World)
    (c1 : ∀ w1, Grown w w1 → Calls Try.prog 9 #[.int .i64 a, .int .i64 b] w1 fun e w' => e = pr S E ∧ Grown w w')
    (c2 : ∀ w1, Grown w w1 → Calls Try.prog 9 #[.int .i64 b, .int .i64 a] w1 fun e w' => e = pr S E ∧ Grown w w')
    (c3 : ∀ w1, Grown w w1 → Calls Try.prog 11 #[.int .i64 a, .int .i64 b] w1 fun e w' => e = pr P G ∧ Grown w w')
    (c4 : ∀ w1, Grown w w1 → Calls Try.prog 11 #[.int .i64 b, .int .i64 a] w1 fun e w' => e = pr P G ∧ Grown w w')
    (c5 : ∀ w1, Grown w w1 → Calls Try.prog 13 #[.int .i64 a, .int .i64 b] w1 fun e w' => e = pr M I ∧ Grown w w')
    (c6 : ∀ w1, Grown w w1 → Calls Try.prog 13 #[.int .i64 b, .int .i64 a] w1 fun e w' => e = pr M I ∧ Grown w w')
    (c7 : ∀ w1, Grown w w1 → Calls Try.prog 10 #[.int .i64 a, .int .i64 b] w1 fun e w' => e = pr D K ∧ Grown w w')
    (c8 : ∀ w1, Grown w w1 → Calls Try.prog 10 #[.int .i64 b, .int .i64 a] w1 fun e w' => e = pr O L ∧ Grown w w')
    (c9 : ∀ w1, Grown w w1 → Calls Try.prog 20 #[.int .i64 a, .int .i64 b] w1 fun e w' => e = pr R 0 ∧ Grown w w')
    (hs : (K == 0) = false ∨ ((K == 0) = true ∧ (L == 0) = false) ∨ ((K == 0) = true ∧ (L == 0) = true ∧ (D == -O) = true ∧ -9223372036854775807 ≤ O ∧ O ≤ 9223372036854775807))
    (hb : 0 < b) (hb0 : (b == 0) = false) (hb' : b ≤ 9223372036854775807) (hr1 : -b < R) (hr2 : R < b) (hr : (R == 0) = true ∨ ((R == 0) = false ∧ R < 0 ∧ a < 0) ∨ ((R == 0) = false ∧ ¬ R < 0 ∧ ¬ a < 0)) :
    Calls Try.prog 5 #[.int .i64 a, .int .i64 b] w fun e w' => e = .returned (.bool true) ∧ Grown w w' := by
  have c10 : ∀ w1, Grown w w1 → Calls Try.prog 22 #[] w1 fun e w' => e = .returned (.bool true) ∧ Grown w w' := fun w1 h => onto (known_any w1) h
  have hg := Grown.refl w
  rcases hr with hr | ⟨hr, hr3, hr4⟩ | ⟨hr, hr3, hr4⟩
  all_goals rcases hs with hs | ⟨hs1, hs⟩ | ⟨hs1, hs2, hs3, hs4, hs5⟩
  all_goals go_enter Try.func5, Try.ntmps5
  all_goals
    go_wp2_with (first
      | (go_at_call 9; first | ((with_reducible refine (c1 _ hg).mono ?_); clear hg; rintro e w' ⟨rfl, hg⟩) | ((with_reducible refine (c2 _ hg).mono ?_); clear hg; rintro e w' ⟨rfl, hg⟩))
      | (go_at_call 11; first | ((with_reducible refine (c3 _ hg).mono ?_); clear hg; rintro e w' ⟨rfl, hg⟩) | ((with_reducible refine (c4 _ hg).mono ?_); clear hg; rintro e w' ⟨rfl, hg⟩))
      | (go_at_call 13; first | ((with_reducible refine (c5 _ hg).mono ?_); clear hg; rintro e w' ⟨rfl, hg⟩) | ((with_reducible refine (c6 _ hg).mono ?_); clear hg; rintro e w' ⟨rfl, hg⟩))
      | (go_at_call 10; first | ((with_reducible refine (c7 _ hg).mono ?_); clear hg; rintro e w' ⟨rfl, hg⟩) | ((with_reducible refine (c8 _ hg).mono ?_); clear hg; rintro e w' ⟨rfl, hg⟩))
      | (go_at_call 20; (with_reducible refine (c9 _ hg).mono ?_); clear hg; rintro e w' ⟨rfl, hg⟩)
      | (go_at_call 22; (with_reducible refine (c10 _ hg).mono ?_); clear hg; rintro e w' ⟨rfl, hg⟩))
    go_ret
    exact ⟨rfl, hg⟩

set_option maxHeartbeats 1000000 in
set_option maxRecDepth 100000 in
theorem coreNeg (a b S E P G M I D K O L R : Int) (w : World)
    (c1 : ∀ w1, Grown w w1 → Calls Try.prog 9 #[.int .i64 a, .int .i64 b] w1 fun e w' => e = pr S E ∧ Grown w w')
    (c2 : ∀ w1, Grown w w1 → Calls Try.prog 9 #[.int .i64 b, .int .i64 a] w1 fun e w' => e = pr S E ∧ Grown w w')
    (c3 : ∀ w1, Grown w w1 → Calls Try.prog 11 #[.int .i64 a, .int .i64 b] w1 fun e w' => e = pr P G ∧ Grown w w')
    (c4 : ∀ w1, Grown w w1 → Calls Try.prog 11 #[.int .i64 b, .int .i64 a] w1 fun e w' => e = pr P G ∧ Grown w w')
    (c5 : ∀ w1, Grown w w1 → Calls Try.prog 13 #[.int .i64 a, .int .i64 b] w1 fun e w' => e = pr M I ∧ Grown w w')
    (c6 : ∀ w1, Grown w w1 → Calls Try.prog 13 #[.int .i64 b, .int .i64 a] w1 fun e w' => e = pr M I ∧ Grown w w')
    (c7 : ∀ w1, Grown w w1 → Calls Try.prog 10 #[.int .i64 a, .int .i64 b] w1 fun e w' => e = pr D K ∧ Grown w w')
    (c8 : ∀ w1, Grown w w1 → Calls Try.prog 10 #[.int .i64 b, .int .i64 a] w1 fun e w' => e = pr O L ∧ Grown w w')
    (c9 : ∀ w1, Grown w w1 → Calls Try.prog 20 #[.int .i64 a, .int .i64 b] w1 fun e w' => e = pr R 0 ∧ Grown w w')
    (hs : (K == 0) = false ∨ ((K == 0) = true ∧ (L == 0) = false) ∨ ((K == 0) = true ∧ (L == 0) = true ∧ (D == -O) = true ∧ -9223372036854775807 ≤ O ∧ O ≤ 9223372036854775807))
    (hb : b < 0) (hb0 : (b == 0) = false) (hb' : -9223372036854775808 ≤ b) (hr1 : b < R) (hr2 : R < -b) (hr : (R == 0) = true ∨ ((R == 0) = false ∧ R < 0 ∧ a < 0) ∨ ((R == 0) = false ∧ ¬ R < 0 ∧ ¬ a < 0)) :
    Calls Try.prog 5 #[.int .i64 a, .int .i64 b] w fun e w' => e = .returned (.bool true) ∧ Grown w w' := by
  have c10 : ∀ w1, Grown w w1 → Calls Try.prog 22 #[] w1 fun e w' => e = .returned (.bool true) ∧ Grown w w' := fun w1 h => onto (known_any w1) h
  have hg := Grown.refl w
  rcases hr with hr | ⟨hr, hr3, hr4⟩ | ⟨hr, hr3, hr4⟩
  all_goals rcases hs with hs | ⟨hs1, hs⟩ | ⟨hs1, hs2, hs3, hs4, hs5⟩
  all_goals go_enter Try.func5, Try.ntmps5
  all_goals
    go_wp2_with (first
      | (go_at_call 9; first | ((with_reducible refine (c1 _ hg).mono ?_); clear hg; rintro e w' ⟨rfl, hg⟩) | ((with_reducible refine (c2 _ hg).mono ?_); clear hg; rintro e w' ⟨rfl, hg⟩))
      | (go_at_call 11; first | ((with_reducible refine (c3 _ hg).mono ?_); clear hg; rintro e w' ⟨rfl, hg⟩) | ((with_reducible refine (c4 _ hg).mono ?_); clear hg; rintro e w' ⟨rfl, hg⟩))
      | (go_at_call 13; first | ((with_reducible refine (c5 _ hg).mono ?_); clear hg; rintro e w' ⟨rfl, hg⟩) | ((with_reducible refine (c6 _ hg).mono ?_); clear hg; rintro e w' ⟨rfl, hg⟩))
      | (go_at_call 10; first | ((with_reducible refine (c7 _ hg).mono ?_); clear hg; rintro e w' ⟨rfl, hg⟩) | ((with_reducible refine (c8 _ hg).mono ?_); clear hg; rintro e w' ⟨rfl, hg⟩))
      | (go_at_call 20; (with_reducible refine (c9 _ hg).mono ?_); clear hg; rintro e w' ⟨rfl, hg⟩)
      | (go_at_call 22; (with_reducible refine (c10 _ hg).mono ?_); clear hg; rintro e w' ⟨rfl, hg⟩))
    go_ret
    exact ⟨rfl, hg⟩

end Go.Proofs.Ytajpjkajmliffaa.numTurns
