/- Plain facts on remainders, on rounding and on signs, for the laws of layer num. -/
import Derived.Test.YtcedcfkjoppjdaaGreatDoorRA
namespace Go.Proofs.YtcedcfkjoppjdaaGreatDoor

theorem rnd_exact (n d : Nat) (h : 0 < d) : rnd (n * d) d = n := by
  unfold rnd
  rw [Nat.mul_mod_left, Nat.mul_div_cancel n h, if_neg (by omega)]
theorem rnd_scale (n d k : Nat) (h : 0 < k) : rnd (n * k) (d * k) = rnd n d := by
  unfold rnd
  rw [Nat.mul_mod_mul_right, Nat.mul_div_mul_right n d h]
  have e1 : d * k < 2 * (n % d * k) ↔ d < 2 * (n % d) := by rw [← Nat.mul_assoc]; exact Nat.mul_lt_mul_right h
  have e2 : 2 * (n % d * k) = d * k ↔ 2 * (n % d) = d := by rw [← Nat.mul_assoc]; exact Nat.mul_left_inj (by omega)
  simp only [e1, e2]
theorem rnd_near (n d : Nat) (h : 0 < d) : 2 * (rnd n d * d) ≤ 2 * n + d ∧ 2 * n ≤ 2 * (rnd n d * d) + d ∧ ((2 * (rnd n d * d) = 2 * n + d ∨ 2 * n = 2 * (rnd n d * d) + d) → rnd n d % 2 = 0) := by
  have hd := Nat.div_add_mod' n d
  have hm := Nat.mod_lt n h
  unfold rnd
  generalize n / d = q at *
  generalize n % d = r at *
  split
  · rw [Nat.add_mul, Nat.one_mul]
    generalize q * d = A at *
    omega
  · generalize q * d = A at *
    omega

theorem tmod_size (a b : Int) : (a.tmod b).natAbs ≤ a.natAbs := by rw [Int.natAbs_tmod]; exact Nat.mod_le _ _
theorem tmod_side (a b : Int) : (0 ≤ a → 0 ≤ a.tmod b) ∧ (a ≤ 0 → a.tmod b ≤ 0) := by
  constructor
  · intro h; exact Int.tmod_nonneg b h
  · intro h
    have := Int.tmod_nonneg b (show 0 ≤ -a by omega)
    rw [Int.neg_tmod] at this
    omega
theorem quo_back (a b : Int) : a.tdiv b * b + a.tmod b = a := by rw [Int.mul_comm]; exact Int.mul_tdiv_add_tmod a b
theorem quo_in (a b : Int) (h : I64 a) : I64 (a.tdiv b * b) := by
  have e := quo_back a b
  have h1 := tmod_size a b
  have h2 := tmod_side a b
  unfold I64 at *
  generalize a.tdiv b * b = x at *
  by_cases ha : 0 ≤ a
  · have := h2.1 ha; omega
  · have := h2.2 (by omega); omega
theorem sgn_self_pos (a b : Int) (hb : 0 ≤ b) : sgn a b a.natAbs = a := by
  unfold sgn
  split <;> omega
theorem sgn_scale (a b : Int) (n : Nat) : sgn (a * 10000) (b * 10000) n = sgn a b n := by
  unfold sgn
  have e1 : a * 10000 < 0 ↔ a < 0 := by omega
  have e2 : b * 10000 < 0 ↔ b < 0 := by omega
  simp only [e1, e2]
theorem abs_scale (a : Int) : (a * 10000).natAbs = a.natAbs * 10000 := by omega
theorem sgn_times (a b : Int) (n : Nat) : sgn a b (n * 10000) = sgn a b n * 10000 := by
  unfold sgn
  split <;> omega

end Go.Proofs.YtcedcfkjoppjdaaGreatDoor
