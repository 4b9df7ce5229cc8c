/- Contracts of layer num's calls Mul, Scale, Quo, MulDec, DivDec, for every input. -/
import Derived.Test.YtmoomdikgfeifaaE
namespace Go.Proofs.Ytmoomdikgfeifaa
open Go.ChangeShapes Go.WideShapes Go.ChangeAt Go.RowKit Go.Lib

theorem sgn_mul (a b : Int) : sgn a b (a.natAbs * b.natAbs) = a * b := by
  unfold sgn
  rw [Int.natCast_mul]
  by_cases ha : a < 0 <;> by_cases hb : b < 0
  · rw [if_pos (by simp [ha, hb]), show (a.natAbs : Int) = -a by omega, show (b.natAbs : Int) = -b by omega, Int.neg_mul_neg]
  · rw [if_neg (by simp [ha, hb]), show (a.natAbs : Int) = -a by omega, show (b.natAbs : Int) = b by omega, Int.neg_mul, Int.neg_neg]
  · rw [if_neg (by simp [ha, hb]), show (a.natAbs : Int) = a by omega, show (b.natAbs : Int) = -b by omega, Int.mul_neg, Int.neg_neg]
  · rw [if_pos (by simp [ha, hb]), show (a.natAbs : Int) = a by omega, show (b.natAbs : Int) = b by omega]
theorem sgn_div (a b : Int) : sgn a b (a.natAbs / b.natAbs) = a.tdiv b := by
  unfold sgn
  rw [Int.natCast_ediv]
  by_cases ha : a < 0 <;> by_cases hb : b < 0
  · rw [if_pos (by simp [ha, hb]), show (a.natAbs : Int) = -a by omega, show (b.natAbs : Int) = -b by omega, ← Int.tdiv_eq_ediv_of_nonneg (by omega), Int.neg_tdiv, Int.tdiv_neg, Int.neg_neg]
  · rw [if_neg (by simp [ha, hb]), show (a.natAbs : Int) = -a by omega, show (b.natAbs : Int) = b by omega, ← Int.tdiv_eq_ediv_of_nonneg (by omega), Int.neg_tdiv, Int.neg_neg]
  · rw [if_neg (by simp [ha, hb]), show (a.natAbs : Int) = a by omega, show (b.natAbs : Int) = -b by omega, ← Int.tdiv_eq_ediv_of_nonneg (by omega), Int.tdiv_neg, Int.neg_neg]
  · rw [if_pos (by simp [ha, hb]), show (a.natAbs : Int) = a by omega, show (b.natAbs : Int) = b by omega, ← Int.tdiv_eq_ediv_of_nonneg (by omega)]
theorem sgn_great (a b : Int) (n : Nat) (h : 9223372036854775808 < n) : ¬ I64 (sgn a b n) := by
  unfold sgn I64
  split <;> omega
theorem abs_lt {a : Int} (h : I64 a) : a.natAbs ≤ 9223372036854775808 := by unfold I64 at h; omega

theorem mul_any (a b : Int) (w : World) (ha : I64 a) (hb : I64 b) :
    Calls Try.prog 49 #[.int .i64 a, .int .i64 b] w fun e w' => e = .returned (.tuple #[.int .i64 (fitV (a * b)), .int .i64 (fitE (a * b))]) ∧ Grown w w' := by
  have ba := abs_lt ha
  have bb := abs_lt hb
  have hm := fun w => mul64_any a.natAbs b.natAbs (by omega) (by omega) w
  rw [← sgn_mul a b]
  generalize a.natAbs * b.natAbs = P at *
  by_cases h : P < 18446744073709551616
  · rw [Nat.div_eq_of_lt h, Nat.mod_eq_of_lt h] at hm
    exact mul_walk a b P w ha hb h hm
  · have hg := sgn_great a b P (by omega)
    rw [fitV_out hg, fitE_out hg]
    refine mul_walk_over a b _ _ w ha hb ?_ hm
    have : ¬ ((P / 18446744073709551616 : Nat) : Int) = 0 := by omega
    simpa using this

theorem scale_any (a : Int) (w : World) (ha : I64 a) :
    Calls Try.prog 75 #[.int .i64 a] w fun e w' => e = .returned (.tuple #[.int .i64 (fitV (a * 10000)), .int .i64 (fitE (a * 10000))]) ∧ Grown w w' := by
  have hm := fun w => mul_any a 10000 w ha ⟨by omega, by omega⟩
  go_enter Try.func75, Try.ntmps75
  go_wp2_with (go_at_call 49; refine (hm _).mono ?_; rintro e w' ⟨rfl, hg⟩)
  go_ret2
  exact ⟨rfl, hg⟩

theorem quo_zero (a : Int) (w : World) :
    Calls Try.prog 51 #[.int .i64 a, .int .i64 0] w fun e w' => e = .returned (.tuple #[.int .i64 0, .int .i64 10]) ∧ Grown w w' := by
  go_enter Try.func51, Try.ntmps51
  go_wp2
  go_ret2
  exact ⟨rfl, Grown.refl _⟩
theorem quo_walk (a b A B : Int) (Q : Nat) (w : World) (h0 : (b == 0) = false) (hA : 0 ≤ A) (hA' : A ≤ 9223372036854775808) (hB : 1 ≤ B) (hq : A / B = (Q : Int)) (hQ : Q < 18446744073709551616)
    (hma : ∀ w, Calls Try.prog 72 #[.int .i64 a] w fun e w' => e = .returned (.int .u64 A) ∧ w = w')
    (hmb : ∀ w, Calls Try.prog 72 #[.int .i64 b] w fun e w' => e = .returned (.int .u64 B) ∧ w = w') :
    Calls Try.prog 51 #[.int .i64 a, .int .i64 b] w fun e w' => e = .returned (.tuple #[.int .i64 (fitV (sgn a b Q)), .int .i64 (fitE (sgn a b Q))]) ∧ Grown w w' := by
  go_enter Try.func51, Try.ntmps51
  go_wp2_with (first | (go_at_call 72; first | ((with_reducible refine (hma _).mono ?_); rintro e w' ⟨rfl, rfl⟩) | ((with_reducible refine (hmb _).mono ?_); rintro e w' ⟨rfl, rfl⟩)) | (go_at_call 73; go_in) | (go_at_call 76; rw [hq]; refine (sig_any a b Q _ _ _ hQ (by go_simp) (by go_simp)).mono ?_; rintro e w' ⟨rfl, rfl⟩))
  go_ret2
  exact ⟨rfl, by repeat (first | exact Grown.refl _ | apply Grown.drew | apply Grown.alloc)⟩
theorem eq0_false {b : Int} (h : ¬ b = 0) : (b == 0) = false := by simpa using h
theorem quo_any (a b : Int) (w : World) (ha : I64 a) (hb : I64 b) (h0 : ¬ b = 0) :
    Calls Try.prog 51 #[.int .i64 a, .int .i64 b] w fun e w' => e = .returned (.tuple #[.int .i64 (fitV (a.tdiv b)), .int .i64 (fitE (a.tdiv b))]) ∧ Grown w w' := by
  have ba := abs_lt ha
  rw [← sgn_div a b]
  refine quo_walk a b a.natAbs b.natAbs (a.natAbs / b.natAbs) w (eq0_false h0) (by omega) (by omega) (by omega) (Int.natCast_ediv _ _).symm ?_ (fun w => mag_any a w ha) (fun w => mag_any b w hb)
  have := Nat.div_le_self a.natAbs b.natAbs
  omega

theorem muldec_walk_over (a b : Int) (H L : Int) (w : World) (ha : I64 a) (hb : I64 b)
    (hm : ∀ w, Calls Try.prog 71 #[.int .u64 (a.natAbs : Int), .int .u64 (b.natAbs : Int)] w fun e w' => e = .returned (.tuple #[.int .u64 H, .int .u64 L]) ∧ w = w')
    (hr : ∀ w, Calls Try.prog 74 #[.int .u64 H, .int .u64 L, .int .u64 10000] w fun e w' => e = .returned (.tuple #[.int .u64 0, .int .i64 9]) ∧ Grown w w') :
    Calls Try.prog 50 #[.int .i64 a, .int .i64 b] w fun e w' => e = .returned (.tuple #[.int .i64 0, .int .i64 9]) ∧ Grown w w' := by
  go_enter Try.func50, Try.ntmps50
  go_wp2_with (first | (go_at_call 72; ((with_reducible refine (mag_any _ _ ?_).mono ?_); first | exact ha | exact hb); rintro e w' ⟨rfl, rfl⟩) | (go_at_call 71; (with_reducible refine (hm _).mono ?_); rintro e w' ⟨rfl, rfl⟩) | (go_at_call 74; (with_reducible refine (hr _).mono ?_); rintro e w' ⟨rfl, hg⟩))
  go_ret2
  exact ⟨rfl, hg⟩
theorem muldec_walk (a b : Int) (H L : Int) (Q : Nat) (w : World) (ha : I64 a) (hb : I64 b) (hQ : Q < 18446744073709551616)
    (hm : ∀ w, Calls Try.prog 71 #[.int .u64 (a.natAbs : Int), .int .u64 (b.natAbs : Int)] w fun e w' => e = .returned (.tuple #[.int .u64 H, .int .u64 L]) ∧ w = w')
    (hr : ∀ w, Calls Try.prog 74 #[.int .u64 H, .int .u64 L, .int .u64 10000] w fun e w' => e = .returned (.tuple #[.int .u64 Q, .int .i64 0]) ∧ Grown w w') :
    Calls Try.prog 50 #[.int .i64 a, .int .i64 b] w fun e w' => e = .returned (.tuple #[.int .i64 (fitV (sgn a b Q)), .int .i64 (fitE (sgn a b Q))]) ∧ Grown w w' := by
  go_enter Try.func50, Try.ntmps50
  go_wp2_with (first | (go_at_call 72; ((with_reducible refine (mag_any _ _ ?_).mono ?_); first | exact ha | exact hb); rintro e w' ⟨rfl, rfl⟩) | (go_at_call 71; (with_reducible refine (hm _).mono ?_); rintro e w' ⟨rfl, rfl⟩) | (go_at_call 74; (with_reducible refine (hr _).mono ?_); rintro e w' ⟨rfl, hg⟩) | (go_at_call 73; go_in) | (go_at_call 76; refine (sig_any a b Q _ _ _ hQ (by go_simp) (by go_simp)).mono ?_; rintro e w' ⟨rfl, rfl⟩))
  go_ret2
  exact ⟨rfl, Grown.alloc (Grown.alloc hg _ _) _ _⟩

theorem divdec_zero (a : Int) (w : World) :
    Calls Try.prog 52 #[.int .i64 a, .int .i64 0] w fun e w' => e = .returned (.tuple #[.int .i64 0, .int .i64 10]) ∧ Grown w w' := by
  go_enter Try.func52, Try.ntmps52
  go_wp2
  go_ret2
  exact ⟨rfl, Grown.refl _⟩
theorem divdec_walk_over (a b : Int) (A B H L : Int) (w : World) (h0 : (b == 0) = false)
    (hma : ∀ w, Calls Try.prog 72 #[.int .i64 a] w fun e w' => e = .returned (.int .u64 A) ∧ w = w')
    (hmb : ∀ w, Calls Try.prog 72 #[.int .i64 b] w fun e w' => e = .returned (.int .u64 B) ∧ w = w')
    (hm : ∀ w, Calls Try.prog 71 #[.int .u64 A, .int .u64 10000] w fun e w' => e = .returned (.tuple #[.int .u64 H, .int .u64 L]) ∧ w = w')
    (hr : ∀ w, Calls Try.prog 74 #[.int .u64 H, .int .u64 L, .int .u64 B] w fun e w' => e = .returned (.tuple #[.int .u64 0, .int .i64 9]) ∧ Grown w w') :
    Calls Try.prog 52 #[.int .i64 a, .int .i64 b] w fun e w' => e = .returned (.tuple #[.int .i64 0, .int .i64 9]) ∧ Grown w w' := by
  go_enter Try.func52, Try.ntmps52
  go_wp2_with (first | (go_at_call 72; first | ((with_reducible refine (hma _).mono ?_); rintro e w' ⟨rfl, rfl⟩) | ((with_reducible refine (hmb _).mono ?_); rintro e w' ⟨rfl, rfl⟩)) | (go_at_call 71; (with_reducible refine (hm _).mono ?_); rintro e w' ⟨rfl, rfl⟩) | (go_at_call 74; (with_reducible refine (hr _).mono ?_); rintro e w' ⟨rfl, hg⟩))
  go_ret2
  exact ⟨rfl, hg⟩
theorem divdec_walk (a b : Int) (A B H L : Int) (Q : Nat) (w : World) (h0 : (b == 0) = false) (hQ : Q < 18446744073709551616)
    (hma : ∀ w, Calls Try.prog 72 #[.int .i64 a] w fun e w' => e = .returned (.int .u64 A) ∧ w = w')
    (hmb : ∀ w, Calls Try.prog 72 #[.int .i64 b] w fun e w' => e = .returned (.int .u64 B) ∧ w = w')
    (hm : ∀ w, Calls Try.prog 71 #[.int .u64 A, .int .u64 10000] w fun e w' => e = .returned (.tuple #[.int .u64 H, .int .u64 L]) ∧ w = w')
    (hr : ∀ w, Calls Try.prog 74 #[.int .u64 H, .int .u64 L, .int .u64 B] w fun e w' => e = .returned (.tuple #[.int .u64 Q, .int .i64 0]) ∧ Grown w w') :
    Calls Try.prog 52 #[.int .i64 a, .int .i64 b] w fun e w' => e = .returned (.tuple #[.int .i64 (fitV (sgn a b Q)), .int .i64 (fitE (sgn a b Q))]) ∧ Grown w w' := by
  go_enter Try.func52, Try.ntmps52
  go_wp2_with (first | (go_at_call 72; first | ((with_reducible refine (hma _).mono ?_); rintro e w' ⟨rfl, rfl⟩) | ((with_reducible refine (hmb _).mono ?_); rintro e w' ⟨rfl, rfl⟩)) | (go_at_call 71; (with_reducible refine (hm _).mono ?_); rintro e w' ⟨rfl, rfl⟩) | (go_at_call 74; (with_reducible refine (hr _).mono ?_); rintro e w' ⟨rfl, hg⟩) | (go_at_call 73; go_in) | (go_at_call 76; refine (sig_any a b Q _ _ _ hQ (by go_simp) (by go_simp)).mono ?_; rintro e w' ⟨rfl, rfl⟩))
  go_ret2
  exact ⟨rfl, Grown.alloc (Grown.alloc hg _ _) _ _⟩

theorem rnd_ge (N d : Nat) : N / d ≤ rnd N d := by unfold rnd; split <;> omega
theorem rnd_le (N d : Nat) : rnd N d ≤ N / d + 1 := by unfold rnd; split <;> omega
theorem two_words (N : Nat) : N / 18446744073709551616 * 18446744073709551616 + N % 18446744073709551616 = N := Nat.div_add_mod' N 18446744073709551616

theorem muldec_any (a b : Int) (w : World) (ha : I64 a) (hb : I64 b) :
    Calls Try.prog 50 #[.int .i64 a, .int .i64 b] w fun e w' => e = .returned (.tuple #[.int .i64 (fitV (sgn a b (rnd (a.natAbs * b.natAbs) 10000))), .int .i64 (fitE (sgn a b (rnd (a.natAbs * b.natAbs) 10000)))]) ∧ Grown w w' := by
  have ba := abs_lt ha
  have bb := abs_lt hb
  have hm := fun w => mul64_any a.natAbs b.natAbs (by omega) (by omega) w
  generalize a.natAbs * b.natAbs = P at *
  have hP := two_words P
  have hl : P % 18446744073709551616 < 18446744073709551616 := Nat.mod_lt _ (by omega)
  by_cases h : P / 10000 ≤ 9223372036854775808
  · have hr := fun w => rq_any (P / 18446744073709551616) (P % 18446744073709551616) 10000 w (by omega) (by omega) hl (by rw [hP]; exact h)
    rw [hP] at hr
    have hle := rnd_le P 10000
    exact muldec_walk a b _ _ _ w ha hb (by omega) hm hr
  · have hr := fun w => rq_over (P / 18446744073709551616) (P % 18446744073709551616) 10000 w (by omega) hl (by rw [hP]; omega)
    have hge := rnd_ge P 10000
    have hg := sgn_great a b (rnd P 10000) (by omega)
    rw [fitV_out hg, fitE_out hg]
    exact muldec_walk_over a b _ _ w ha hb hm hr

theorem divdec_any (a b : Int) (w : World) (ha : I64 a) (hb : I64 b) (h0 : ¬ b = 0) :
    Calls Try.prog 52 #[.int .i64 a, .int .i64 b] w fun e w' => e = .returned (.tuple #[.int .i64 (fitV (sgn a b (rnd (a.natAbs * 10000) b.natAbs))), .int .i64 (fitE (sgn a b (rnd (a.natAbs * 10000) b.natAbs)))]) ∧ Grown w w' := by
  have ba := abs_lt ha
  have bb := abs_lt hb
  have hm := fun w => mul64_any a.natAbs 10000 (by omega) (by omega) w
  have hP := two_words (a.natAbs * 10000)
  have hl : a.natAbs * 10000 % 18446744073709551616 < 18446744073709551616 := Nat.mod_lt _ (by omega)
  by_cases h : a.natAbs * 10000 / b.natAbs ≤ 9223372036854775808
  · have hr := fun w => rq_any (a.natAbs * 10000 / 18446744073709551616) (a.natAbs * 10000 % 18446744073709551616) b.natAbs w (by omega) (by omega) hl (by rw [hP]; exact h)
    rw [hP] at hr
    have hle := rnd_le (a.natAbs * 10000) b.natAbs
    exact divdec_walk a b _ _ _ _ _ w (eq0_false h0) (by omega) (fun w => mag_any a w ha) (fun w => mag_any b w hb) hm hr
  · have hr := fun w => rq_over (a.natAbs * 10000 / 18446744073709551616) (a.natAbs * 10000 % 18446744073709551616) b.natAbs w (by omega) hl (by rw [hP]; omega)
    have hge := rnd_ge (a.natAbs * 10000) b.natAbs
    have hg := sgn_great a b (rnd (a.natAbs * 10000) b.natAbs) (by omega)
    rw [fitV_out hg, fitE_out hg]
    exact divdec_walk_over a b _ _ _ _ w (eq0_false h0) (fun w => mag_any a w ha) (fun w => mag_any b w hb) hm hr

end Go.Proofs.Ytmoomdikgfeifaa
