/- Contracts of layer num's products, quotients and decimals, for every input. -/
import Derived.Test.YtmoomdikgfeifaaD
namespace Go.Proofs.Ytmoomdikgfeifaa
open Go.ChangeShapes Go.WideShapes Go.ChangeAt Go.RowKit Go.Lib

theorem two_ui (a b c d : Int) (h1 : a = c) (h2 : b = d) : Ending.returned (.tuple #[.int .u64 a, .int .i64 b]) = .returned (.tuple #[.int .u64 c, .int .i64 d]) := by rw [h1, h2]

theorem rq_high (hi lo d : Int) (w : World) (h : d ≤ hi) :
    Calls Try.prog 74 #[.int .u64 hi, .int .u64 lo, .int .u64 d] w fun e w' => e = .returned (.tuple #[.int .u64 0, .int .i64 9]) ∧ Grown w w' := by
  go_enter Try.func74, Try.ntmps74
  go_wp2
  go_ret2
  exact ⟨rfl, Grown.refl _⟩
theorem rq_great (hi lo d q r : Int) (w : World) (h : hi < d) (hq : 9223372036854775808 < q)
    (hd : ∀ w, Calls Try.prog 77 #[.int .u64 hi, .int .u64 lo, .int .u64 d] w fun e w' => e = .returned (.tuple #[.int .u64 q, .int .u64 r]) ∧ Grown w w') :
    Calls Try.prog 74 #[.int .u64 hi, .int .u64 lo, .int .u64 d] w fun e w' => e = .returned (.tuple #[.int .u64 0, .int .i64 9]) ∧ Grown w w' := by
  go_enter Try.func74, Try.ntmps74
  go_wp2_with (go_at_call 77; refine (hd _).mono ?_; rintro e w' ⟨rfl, hg⟩)
  go_ret2
  exact ⟨rfl, hg⟩
theorem rq_down (hi lo d q r : Int) (w : World) (h : hi < d) (hq0 : 0 ≤ q) (hq : q ≤ 9223372036854775808) (hr : 0 ≤ r) (hr' : r < d) (hdd : d ≤ 18446744073709551615)
    (hc : 2 * r < d ∨ (2 * r = d ∧ q % 2 = 0))
    (hd : ∀ w, Calls Try.prog 77 #[.int .u64 hi, .int .u64 lo, .int .u64 d] w fun e w' => e = .returned (.tuple #[.int .u64 q, .int .u64 r]) ∧ Grown w w') :
    Calls Try.prog 74 #[.int .u64 hi, .int .u64 lo, .int .u64 d] w fun e w' => e = .returned (.tuple #[.int .u64 q, .int .i64 0]) ∧ Grown w w' := by
  have h1 : ¬ d - r < r := by omega
  by_cases h2 : r = d - r
  · have h3 : (q % 2 == 1) = false := by have : ¬ q % 2 = 1 := by omega
                                         simpa using this
    have h2' : (r == d - r) = true := by simpa using h2
    clear h2 hc
    go_enter Try.func74, Try.ntmps74
    go_wp2_with (go_at_call 77; refine (hd _).mono ?_; rintro e w' ⟨rfl, hg⟩)
    go_ret2
    exact ⟨rfl, hg⟩
  · have h2' : (r == d - r) = false := by simpa using h2
    clear h2 hc
    go_enter Try.func74, Try.ntmps74
    go_wp2_with (go_at_call 77; refine (hd _).mono ?_; rintro e w' ⟨rfl, hg⟩)
    go_ret2
    exact ⟨rfl, hg⟩
theorem rq_up (hi lo d q r : Int) (w : World) (h : hi < d) (hq0 : 0 ≤ q) (hq : q ≤ 9223372036854775808) (hr : 0 ≤ r) (hr' : r < d) (hdd : d ≤ 18446744073709551615)
    (hc : d < 2 * r ∨ (2 * r = d ∧ q % 2 = 1))
    (hd : ∀ w, Calls Try.prog 77 #[.int .u64 hi, .int .u64 lo, .int .u64 d] w fun e w' => e = .returned (.tuple #[.int .u64 q, .int .u64 r]) ∧ Grown w w') :
    Calls Try.prog 74 #[.int .u64 hi, .int .u64 lo, .int .u64 d] w fun e w' => e = .returned (.tuple #[.int .u64 (q + 1), .int .i64 0]) ∧ Grown w w' := by
  by_cases h1 : d - r < r
  · clear hc
    go_enter Try.func74, Try.ntmps74
    go_wp2_with (go_at_call 77; refine (hd _).mono ?_; rintro e w' ⟨rfl, hg⟩)
    go_ret2
    exact ⟨rfl, hg⟩
  · have h2' : (r == d - r) = true := by have : r = d - r := by omega
                                         simpa using this
    have h3 : (q % 2 == 1) = true := by have : q % 2 = 1 := by omega
                                        simpa using this
    clear hc
    go_enter Try.func74, Try.ntmps74
    go_wp2_with (go_at_call 77; refine (hd _).mono ?_; rintro e w' ⟨rfl, hg⟩)
    go_ret2
    exact ⟨rfl, hg⟩

/-- The quotient of two natural numbers, rounded to the nearest one; of two that are as near the even one. -/
def rnd (N d : Nat) : Nat := if d < 2 * (N % d) ∨ (2 * (N % d) = d ∧ N / d % 2 = 1) then N / d + 1 else N / d

theorem rq_any (hi lo d : Nat) (w : World) (hd0 : 0 < d) (hd : d < 18446744073709551616) (hl : lo < 18446744073709551616) (hq : (hi * 18446744073709551616 + lo) / d ≤ 9223372036854775808) :
    Calls Try.prog 74 #[.int .u64 hi, .int .u64 lo, .int .u64 d] w fun e w' => e = .returned (.tuple #[.int .u64 (rnd (hi * 18446744073709551616 + lo) d : Nat), .int .i64 0]) ∧ Grown w w' := by
  have hlt : hi < d := by
    rcases Nat.lt_or_ge hi d with h | h
    · exact h
    · have : 18446744073709551616 ≤ (hi * 18446744073709551616 + lo) / d := by
        rw [Nat.le_div_iff_mul_le hd0]
        have := Nat.mul_le_mul_left 18446744073709551616 h
        omega
      omega
  have hc := fun w => div64_any hi lo d w hlt hd hl
  have hr := Nat.mod_lt (hi * 18446744073709551616 + lo) hd0
  unfold rnd
  generalize (hi * 18446744073709551616 + lo) / d = q at *
  generalize (hi * 18446744073709551616 + lo) % d = r at *
  split
  · exact rq_up hi lo d q r w (by omega) (by omega) (by omega) (by omega) (by omega) (by omega) (by omega) hc
  · exact rq_down hi lo d q r w (by omega) (by omega) (by omega) (by omega) (by omega) (by omega) (by omega) hc
theorem rq_over (hi lo d : Nat) (w : World) (hd : d < 18446744073709551616) (hl : lo < 18446744073709551616) (hq : 9223372036854775808 < (hi * 18446744073709551616 + lo) / d) :
    Calls Try.prog 74 #[.int .u64 hi, .int .u64 lo, .int .u64 d] w fun e w' => e = .returned (.tuple #[.int .u64 0, .int .i64 9]) ∧ Grown w w' := by
  rcases Nat.lt_or_ge hi d with h | h
  · have hc := fun w => div64_any hi lo d w h hd hl
    exact rq_great hi lo d _ _ w (by omega) (by omega) hc
  · exact rq_high hi lo d w (by omega)

theorem Grown.trans {a b c : World} (h1 : Grown a b) (h2 : Grown b c) : Grown a c := ⟨World.keptBut_trans h1.1 h2.1, fun x => (h2.2.1 x).trans (h1.2.1 x), Nat.le_trans h1.2.2 h2.2.2⟩

theorem mul_walk_over (a b : Int) (H L : Int) (w : World) (ha : I64 a) (hb : I64 b) (hH : (H == 0) = false)
    (hm : ∀ w, Calls Try.prog 71 #[.int .u64 (a.natAbs : Int), .int .u64 (b.natAbs : Int)] w fun e w' => e = .returned (.tuple #[.int .u64 H, .int .u64 L]) ∧ w = w') :
    Calls Try.prog 49 #[.int .i64 a, .int .i64 b] w fun e w' => e = .returned (.tuple #[.int .i64 0, .int .i64 9]) ∧ Grown w w' := by
  go_enter Try.func49, Try.ntmps49
  go_wp2_with (first | (go_at_call 72; refine (mag_any _ _ (by assumption)).mono ?_; rintro e w' ⟨rfl, rfl⟩) | (go_at_call 71; refine (hm _).mono ?_; rintro e w' ⟨rfl, rfl⟩))
  go_ret2
  exact ⟨rfl, Grown.refl _⟩

theorem mul_walk (a b : Int) (L : Nat) (w : World) (ha : I64 a) (hb : I64 b) (hL : L < 18446744073709551616)
    (hm : ∀ w, Calls Try.prog 71 #[.int .u64 (a.natAbs : Int), .int .u64 (b.natAbs : Int)] w fun e w' => e = .returned (.tuple #[.int .u64 0, .int .u64 L]) ∧ w = w') :
    Calls Try.prog 49 #[.int .i64 a, .int .i64 b] w fun e w' => e = .returned (.tuple #[.int .i64 (fitV (sgn a b L)), .int .i64 (fitE (sgn a b L))]) ∧ Grown w w' := by
  go_enter Try.func49, Try.ntmps49
  go_wp2_with (first | (go_at_call 72; refine (mag_any _ _ (by assumption)).mono ?_; rintro e w' ⟨rfl, rfl⟩) | (go_at_call 71; refine (hm _).mono ?_; rintro e w' ⟨rfl, rfl⟩) | (go_at_call 73; go_in) | (go_at_call 76; refine (sig_any a b L _ _ _ hL (by go_simp) (by go_simp)).mono ?_; rintro e w' ⟨rfl, rfl⟩))
  go_ret2
  exact ⟨rfl, by repeat (first | exact Grown.refl _ | apply Grown.drew | apply Grown.alloc)⟩

end Go.Proofs.Ytmoomdikgfeifaa
