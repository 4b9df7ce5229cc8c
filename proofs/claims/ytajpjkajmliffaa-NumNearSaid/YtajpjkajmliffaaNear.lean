/- NumNear returns true for every two int32: the walk of its text over the contracts of layer num. -/
import Derived.Test.YtajpjkajmliffaaG
import Derived.Test.YtajpjkajmliffaaH
namespace Go.Proofs.Ytajpjkajmliffaa.numNear
set_option linter.unusedVariables false
open Go.ChangeShapes Go.WideShapes Go.ChangeAt Go.RowKit Go.Lib

set_option maxHeartbeats 2000000 in
set_option maxRecDepth 100000 in
theorem core0 (a b m : Int) (w : World)
    (c1 : (∀ w1, Grown w w1 → Calls Try.prog 13 #[.int .i64 a, .int .i64 b] w1 fun e w' => e = pr m 0 ∧ Grown w w'))
    (c2 : (∀ w1, Grown w w1 → Calls Try.prog 21 #[.int .i64 a, .int .i64 b] w1 fun e w' => e = pr 0 10 ∧ Grown w w')) (hb : (b == 0) = true)
    (ba : -2147483648 ≤ a) (ba' : a ≤ 2147483647) (bb : -2147483648 ≤ b) (bb' : b ≤ 2147483647)
    (bp : -4611686018427387904 ≤ a * b) (bp' : a * b ≤ 4611686018427387904) (bm : -461168601842739 ≤ m) (bm' : m ≤ 461168601842739)
    (hM : (-5000 < m * 10000 - a * b ∧ m * 10000 - a * b < 5000) ∨ (m * 10000 - a * b = -5000 ∧ (m.tmod 2 != 0) = false) ∨ (m * 10000 - a * b = 5000 ∧ (m.tmod 2 != 0) = false)) :
    Calls Try.prog 7 #[.int .i32 a, .int .i32 b] w fun e w' => e = .returned (.bool true) ∧ Grown w w' := by
  have c3 : ∀ w1, Grown w w1 → Calls Try.prog 22 #[] w1 fun e w' => e = .returned (.bool true) ∧ Grown w w' := fun w1 h => onto (known_any w1) h
  have hg := Grown.refl w
  rcases hM with ⟨m1, m2⟩ | ⟨m1, m2⟩ | ⟨m1, m2⟩
  all_goals
    go_enter Try.func7, Try.ntmps7
    go_wp2_with (first
      | (go_at_call 13; first | ((with_reducible refine (c1 _ hg).mono ?_); clear hg; rintro e w' ⟨rfl, hg⟩))
      | (go_at_call 21; first | ((with_reducible refine (c2 _ hg).mono ?_); clear hg; rintro e w' ⟨rfl, hg⟩))
      | (go_at_call 22; first | ((with_reducible refine (c3 _ hg).mono ?_); clear hg; rintro e w' ⟨rfl, hg⟩)))
    go_ret
    exact ⟨rfl, hg⟩

set_option maxHeartbeats 2000000 in
set_option maxRecDepth 100000 in
theorem corePos (a b m q : Int) (w : World)
    (c1 : (∀ w1, Grown w w1 → Calls Try.prog 13 #[.int .i64 a, .int .i64 b] w1 fun e w' => e = pr m 0 ∧ Grown w w'))
    (c2 : (∀ w1, Grown w w1 → Calls Try.prog 21 #[.int .i64 a, .int .i64 b] w1 fun e w' => e = pr q 0 ∧ Grown w w')) (hb : 0 < b) (hb0 : (b == 0) = false)
    (ba : -2147483648 ≤ a) (ba' : a ≤ 2147483647) (bb : -2147483648 ≤ b) (bb' : b ≤ 2147483647)
    (bp : -4611686018427387904 ≤ a * b) (bp' : a * b ≤ 4611686018427387904) (bm : -461168601842739 ≤ m) (bm' : m ≤ 461168601842739)
    (hM : (-5000 < m * 10000 - a * b ∧ m * 10000 - a * b < 5000) ∨ (m * 10000 - a * b = -5000 ∧ (m.tmod 2 != 0) = false) ∨ (m * 10000 - a * b = 5000 ∧ (m.tmod 2 != 0) = false))
    (bq : -30000000000000 ≤ q * b) (bq' : q * b ≤ 30000000000000)
    (hQ : (2 * (q * b - a * 10000) < 0 ∧ -(2 * (q * b - a * 10000)) < b) ∨ (2 * (q * b - a * 10000) < 0 ∧ -(2 * (q * b - a * 10000)) = b ∧ (q.tmod 2 == 0) = true) ∨ (0 ≤ 2 * (q * b - a * 10000) ∧ 2 * (q * b - a * 10000) < b) ∨ (0 ≤ 2 * (q * b - a * 10000) ∧ 2 * (q * b - a * 10000) = b ∧ (q.tmod 2 == 0) = true)) :
    Calls Try.prog 7 #[.int .i32 a, .int .i32 b] w fun e w' => e = .returned (.bool true) ∧ Grown w w' := by
  have c3 : ∀ w1, Grown w w1 → Calls Try.prog 22 #[] w1 fun e w' => e = .returned (.bool true) ∧ Grown w w' := fun w1 h => onto (known_any w1) h
  have hg := Grown.refl w
  rcases hM with ⟨m1, m2⟩ | ⟨m1, m2⟩ | ⟨m1, m2⟩
  all_goals rcases hQ with ⟨q1, q2⟩ | ⟨q1, q2, q3⟩ | ⟨q1, q2⟩ | ⟨q1, q2, q3⟩
  all_goals
    go_enter Try.func7, Try.ntmps7
    go_wp2_with (first
      | (go_at_call 13; first | ((with_reducible refine (c1 _ hg).mono ?_); clear hg; rintro e w' ⟨rfl, hg⟩))
      | (go_at_call 21; first | ((with_reducible refine (c2 _ hg).mono ?_); clear hg; rintro e w' ⟨rfl, hg⟩))
      | (go_at_call 22; first | ((with_reducible refine (c3 _ hg).mono ?_); clear hg; rintro e w' ⟨rfl, hg⟩)))
    go_ret
    exact ⟨rfl, hg⟩

set_option maxHeartbeats 2000000 in
set_option maxRecDepth 100000 in
theorem coreNeg (a b m q : Int) (w : World)
    (c1 : (∀ w1, Grown w w1 → Calls Try.prog 13 #[.int .i64 a, .int .i64 b] w1 fun e w' => e = pr m 0 ∧ Grown w w'))
    (c2 : (∀ w1, Grown w w1 → Calls Try.prog 21 #[.int .i64 a, .int .i64 b] w1 fun e w' => e = pr q 0 ∧ Grown w w')) (hb : b < 0) (hb0 : (b == 0) = false)
    (ba : -2147483648 ≤ a) (ba' : a ≤ 2147483647) (bb : -2147483648 ≤ b) (bb' : b ≤ 2147483647)
    (bp : -4611686018427387904 ≤ a * b) (bp' : a * b ≤ 4611686018427387904) (bm : -461168601842739 ≤ m) (bm' : m ≤ 461168601842739)
    (hM : (-5000 < m * 10000 - a * b ∧ m * 10000 - a * b < 5000) ∨ (m * 10000 - a * b = -5000 ∧ (m.tmod 2 != 0) = false) ∨ (m * 10000 - a * b = 5000 ∧ (m.tmod 2 != 0) = false))
    (bq : -30000000000000 ≤ q * b) (bq' : q * b ≤ 30000000000000)
    (hQ : (2 * (q * b - a * 10000) < 0 ∧ -(2 * (q * b - a * 10000)) < -b) ∨ (2 * (q * b - a * 10000) < 0 ∧ -(2 * (q * b - a * 10000)) = -b ∧ (q.tmod 2 == 0) = true) ∨ (0 ≤ 2 * (q * b - a * 10000) ∧ 2 * (q * b - a * 10000) < -b) ∨ (0 ≤ 2 * (q * b - a * 10000) ∧ 2 * (q * b - a * 10000) = -b ∧ (q.tmod 2 == 0) = true)) :
    Calls Try.prog 7 #[.int .i32 a, .int .i32 b] w fun e w' => e = .returned (.bool true) ∧ Grown w w' := by
  have c3 : ∀ w1, Grown w w1 → Calls Try.prog 22 #[] w1 fun e w' => e = .returned (.bool true) ∧ Grown w w' := fun w1 h => onto (known_any w1) h
  have hg := Grown.refl w
  rcases hM with ⟨m1, m2⟩ | ⟨m1, m2⟩ | ⟨m1, m2⟩
  all_goals rcases hQ with ⟨q1, q2⟩ | ⟨q1, q2, q3⟩ | ⟨q1, q2⟩ | ⟨q1, q2, q3⟩
  all_goals
    go_enter Try.func7, Try.ntmps7
    go_wp2_with (first
      | (go_at_call 13; first | ((with_reducible refine (c1 _ hg).mono ?_); clear hg; rintro e w' ⟨rfl, hg⟩))
      | (go_at_call 21; first | ((with_reducible refine (c2 _ hg).mono ?_); clear hg; rintro e w' ⟨rfl, hg⟩))
      | (go_at_call 22; first | ((with_reducible refine (c3 _ hg).mono ?_); clear hg; rintro e w' ⟨rfl, hg⟩)))
    go_ret
    exact ⟨rfl, hg⟩

end Go.Proofs.Ytajpjkajmliffaa.numNear
