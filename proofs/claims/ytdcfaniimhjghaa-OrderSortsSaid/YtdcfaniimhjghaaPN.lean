/- Blocks sorted, then merged by twos, said plainly. -/
import Derived.Test.YtdcfaniimhjghaaPM
namespace Go.Proofs.Ytdcfaniimhjghaa
open Go.Sort
set_option linter.unusedVariables false
set_option linter.unusedSimpArgs false
variable {α : Type} [Inhabited α] {lt : α → α → Bool}

theorem mul_step (q s : Nat) : (q + 1) * s = q * s + s := by rw [Nat.add_mul, Nat.one_mul]
theorem mul_lt_of {p q t : Nat} (h : p < q) : p * t + t ≤ q * t := by
  have := Nat.mul_le_mul_right t (show p + 1 ≤ q from h)
  rw [mul_step] at this
  exact this
/-- Blocks ahead of a, each sorted. -/
def B1 (lt : α → α → Bool) (s : Nat) (d : Array α) (a : Nat) : Prop := ∀ p, p * s + s ≤ a → SortedIn lt (p * s) (p * s + s) d
theorem B1.zero {s : Nat} (hs : 0 < s) (d : Array α) : B1 lt s d 0 := fun p h => by omega
theorem B1.step {s q a : Nat} {d d' : Array α} (h : B1 lt s d a) (ha : a = q * s) (hs : 0 < s) (m : Mg lt a (a + s) d d') : B1 lt s d' (a + s) := fun p hp => by
  by_cases h1 : p * s + s ≤ a
  · exact sorted_congr lt (h p h1) fun i h2 h3 => m.1.2.1 i (Or.inl (by omega))
  · have : p = q := by
      rcases Nat.lt_trichotomy p q with h2 | h2 | h2
      · have := mul_lt_of (t := s) h2
        omega
      · exact h2
      · have := mul_lt_of (t := s) h2
        omega
    subst this
    rw [← ha]
    exact m.2
theorem B1.last {s q a n : Nat} {d d' : Array α} (h : B1 lt s d a) (ha : a = q * s) (hs : 0 < s) (hn : n < a + s) (han : a ≤ n) (m : Mg lt a n d d') : Blk lt s d' n := fun p => by
  rcases Nat.lt_trichotomy p q with h2 | h2 | h2
  · have h3 := mul_lt_of (t := s) h2
    rw [Nat.min_eq_left (by omega)]
    exact sorted_congr lt (h p (by omega)) fun i h4 h5 => m.1.2.1 i (Or.inl (by omega))
  · subst h2
    rw [Nat.min_eq_right (by omega), ← ha]
    exact m.2
  · have h3 := mul_lt_of (t := s) h2
    exact sorted_one lt (by omega)
theorem Blks.left {s q a n : Nat} {d : Array α} (h : Blks lt s d n a) (ha : a = q * (2 * s)) (hn : a + s ≤ n) : SortedIn lt a (a + s) d := by
  have e : (2 * q) * s = a := by rw [ha, Nat.mul_comm 2 q, Nat.mul_assoc]
  have := h.one (2 * q) (by omega)
  rw [e, Nat.min_eq_left (by omega)] at this
  exact this
theorem Blks.right {s q a n : Nat} {d : Array α} (h : Blks lt s d n a) (ha : a = q * (2 * s)) : SortedIn lt (a + s) (min (a + s + s) n) d := by
  have e : (2 * q + 1) * s = a + s := by rw [mul_step, ha, Nat.mul_comm 2 q, Nat.mul_assoc]
  have := h.one (2 * q + 1) (by omega)
  rw [e] at this
  exact this
theorem Blks.step {s q a n : Nat} {d d' : Array α} (h : Blks lt s d n a) (ha : a = q * (2 * s)) (hs : 0 < s) (m : Mg lt a (a + 2 * s) d d') : Blks lt s d' n (a + 2 * s) :=
  ⟨B1.step (s := 2 * s) h.two ha (by omega) m, fun p hp => sorted_congr lt (h.one p (by omega)) fun i h1 h2 => m.1.2.1 i (Or.inr (by omega))⟩
theorem Blks.last {s q a n : Nat} {d d' : Array α} (h : Blks lt s d n a) (ha : a = q * (2 * s)) (hs : 0 < s) (hn : n < a + 2 * s) (han : a ≤ n) (m : Mg lt a n d d') : Blk lt (2 * s) d' n :=
  B1.last (s := 2 * s) h.two ha (by omega) hn han m
theorem Blks.rest {s q a n : Nat} {d : Array α} (h : Blks lt s d n a) (ha : a = q * (2 * s)) (hs : n ≤ a + s) : SortedIn lt a n d := by
  have e : (2 * q) * s = a := by rw [ha, Nat.mul_comm 2 q, Nat.mul_assoc]
  have := h.one (2 * q) (by omega)
  rw [e, Nat.min_eq_right (by omega)] at this
  exact this
theorem Blk.all {s n : Nat} {d : Array α} (h : Blk lt s d n) (hs : n ≤ s) : SortedIn lt 0 n d := by
  have := h 0
  rw [Nat.zero_mul, Nat.zero_add, Nat.min_eq_right hs] at this
  exact this
theorem Mg.size {a b : Nat} {d d' : Array α} (h : Mg lt a b d d') : d'.size = d.size := h.1.1
end Go.Proofs.Ytdcfaniimhjghaa
