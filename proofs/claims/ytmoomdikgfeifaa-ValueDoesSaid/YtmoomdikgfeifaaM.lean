/- Plain arithmetic under math/bits.Div64: the school division of two words by one, digit by digit to the base 2^32. -/
namespace Go.Proofs.Ytmoomdikgfeifaa

/-- The givens of one digit's division: y1, y0 the divisor's digits, un what is left so far, d the next digit, Q the digit that is sought. -/
def KF (un y1 y0 d Q : Nat) : Prop :=
  y0 < 4294967296 ∧ y1 < 4294967296 ∧ 2147483648 ≤ y1 ∧ un < y1 * 4294967296 + y0 ∧ d < 4294967296 ∧ Q = (un * 4294967296 + d) / (y1 * 4294967296 + y0)
/-- What holds at each round's head: q a guess that is not too small, r what it leaves of un. -/
def KI (un y1 Q q r : Nat) : Prop := q * y1 + r = un ∧ Q ≤ q ∧ q ≤ 4294967297 ∧ r < 4294967296

theorem k_le {q y1 y0 r d un : Nat} (hr : q * y1 + r = un) (h : q * y0 ≤ 4294967296 * r + d) : q * (y1 * 4294967296 + y0) ≤ un * 4294967296 + d := by
  rw [Nat.mul_add, ← Nat.mul_assoc, ← hr, Nat.add_mul]
  generalize q * y1 = A at *
  generalize q * y0 = C at *
  omega
theorem k_gt {q y1 y0 r d un : Nat} (hr : q * y1 + r = un) (h : 4294967296 * r + d < q * y0) : un * 4294967296 + d < q * (y1 * 4294967296 + y0) := by
  rw [Nat.mul_add, ← Nat.mul_assoc, ← hr, Nat.add_mul]
  generalize q * y1 = A at *
  generalize q * y0 = C at *
  omega
theorem k_Q {un y1 y0 d Q : Nat} (F : KF un y1 y0 d Q) : Q < 4294967296 := by
  obtain ⟨a, b, c, e, f, g⟩ := F
  rw [g, Nat.div_lt_iff_lt_mul (by omega)]
  omega
theorem k_stop {un y1 y0 d Q q r : Nat} (F : KF un y1 y0 d Q) (I : KI un y1 Q q r) (h : q * y0 ≤ 4294967296 * r + d) : q = Q := by
  obtain ⟨a, b, c, e, f, g⟩ := F
  have := k_le I.1 h
  have : q ≤ Q := by rw [g, Nat.le_div_iff_mul_le (by omega)]; exact this
  have := I.2.1
  omega
theorem k_more {un y1 y0 d Q q r : Nat} (F : KF un y1 y0 d Q) (I : KI un y1 Q q r) (h : 4294967296 ≤ q ∨ 4294967296 * r + d < q * y0) : Q < q := by
  rcases h with h | h
  · have := k_Q F; omega
  · obtain ⟨a, b, c, e, f, g⟩ := F
    have := k_gt I.1 h
    rw [g, Nat.div_lt_iff_lt_mul (by omega)]; exact this
theorem k_sub {q y1 r un : Nat} (h1 : 1 ≤ q) (h : q * y1 + r = un) : (q - 1) * y1 + (r + y1) = un := by
  obtain ⟨p, rfl⟩ : ∃ p, q = p + 1 := ⟨q - 1, by omega⟩
  rw [Nat.add_mul] at h
  simp only [Nat.add_sub_cancel]
  omega
theorem k_next {un y1 y0 d Q q r : Nat} (F : KF un y1 y0 d Q) (I : KI un y1 Q q r) (h : 4294967296 ≤ q ∨ 4294967296 * r + d < q * y0) (hr : r + y1 < 4294967296) : KI un y1 Q (q - 1) (r + y1) := by
  have hq := k_more F I h
  exact ⟨k_sub (by omega) I.1, by omega, by have := I.2.2.1; omega, hr⟩
theorem k_break {un y1 y0 d Q q r : Nat} (F : KF un y1 y0 d Q) (I : KI un y1 Q q r) (h : 4294967296 ≤ q ∨ 4294967296 * r + d < q * y0) (hr : 4294967296 ≤ r + y1) : q - 1 = Q := by
  have hq := k_more F I h
  have hs := k_sub (by omega) I.1
  have h3 := I.2.2.1
  have hy0 := F.1
  have hm : (q - 1) * y0 ≤ 4294967296 * 4294967295 := Nat.mul_le_mul (by omega) (by omega)
  have hl : (q - 1) * y0 ≤ 4294967296 * (r + y1) + d := by omega
  have hle := k_le hs hl
  obtain ⟨a, b, c, e, f, g⟩ := F
  have : q - 1 ≤ Q := by rw [g, Nat.le_div_iff_mul_le (by omega)]; exact hle
  omega
/-- The test of a round: the guess is too great. -/
def KGo (y0 d q r : Nat) : Prop := 4294967296 ≤ q ∨ 4294967296 * r + d < q * y0
theorem kgo_of {y0 d q r : Nat} (h : 4294967296 ≤ q ∨ 4294967296 * (r : Int) + d < (q : Int) * y0) : KGo y0 d q r := by
  rcases h with h | h
  · exact Or.inl h
  · rw [← Int.natCast_mul] at h; exact Or.inr (by omega)
theorem kgo_not {y0 d q r : Nat} (h : (q : Int) * y0 ≤ 4294967296 * (r : Int) + d) : q * y0 ≤ 4294967296 * r + d := by rw [← Int.natCast_mul] at h; omega
theorem k_prod {q y0 : Nat} (hq : q < 4294967296) (hy : y0 < 4294967296) : 0 ≤ (q : Int) * y0 ∧ (q : Int) * y0 ≤ 18446744065119617025 := by
  have h : q * y0 ≤ 4294967295 * 4294967295 := Nat.mul_le_mul (by omega) (by omega)
  rw [← Int.natCast_mul]; omega
theorem k_first {un y1 y0 d Q : Nat} (F : KF un y1 y0 d Q) : KI un y1 Q (un / y1) (un % y1) := by
  obtain ⟨a, b, c, e, f, g⟩ := F
  have hd : un / y1 * y1 + un % y1 = un := by rw [Nat.mul_comm]; exact Nat.div_add_mod un y1
  have hm := Nat.mod_lt un (show y1 > 0 by omega)
  have hq : un / y1 < 4294967298 := by rw [Nat.div_lt_iff_lt_mul (by omega)]; omega
  refine ⟨hd, ?_, by omega, by omega⟩
  rw [g]
  refine Nat.le_of_lt_succ ?_
  rw [Nat.succ_eq_add_one, Nat.div_lt_iff_lt_mul (by omega)]
  have e1 : (un / y1 + 1) * (y1 * 4294967296 + y0) = (un / y1 * y1 + y1) * 4294967296 + (un / y1 + 1) * y0 := by
    rw [Nat.mul_add, ← Nat.mul_assoc, Nat.add_mul, Nat.one_mul]
  rw [e1]
  generalize un / y1 * y1 = A at *
  generalize (un / y1 + 1) * y0 = C at *
  omega

/-- What the divisor leaves, as the code reckons it on words that wrap. -/
theorem k_left {un y1 y0 d Q : Nat} (F : KF un y1 y0 d Q) : Q * (y1 * 4294967296 + y0) + (un * 4294967296 + d) % (y1 * 4294967296 + y0) = un * 4294967296 + d ∧ (un * 4294967296 + d) % (y1 * 4294967296 + y0) < y1 * 4294967296 + y0 := by
  obtain ⟨a, b, c, e, f, g⟩ := F
  refine ⟨?_, Nat.mod_lt _ (by omega)⟩
  rw [g, Nat.mul_comm]
  exact Nat.div_add_mod _ _

theorem k_alg (A C U V1 V0 R1 R0 : Nat) (h1 : A + R1 = U * 4294967296 + V1) (h0 : C + R0 = R1 * 4294967296 + V0) : A * 4294967296 + C + R0 = U * 18446744073709551616 + (V1 * 4294967296 + V0) := by omega

/-- The quotient and what is left, out of the digits. -/
theorem k_whole {N y s U V V1 V0 Y Q1 R1 Q0 R0 : Nat} (hY : Y = y * 2 ^ s) (hN : U * 18446744073709551616 + V = N * 2 ^ s) (hV : V = V1 * 4294967296 + V0)
    (h1 : Q1 * Y + R1 = U * 4294967296 + V1) (h0 : Q0 * Y + R0 = R1 * 4294967296 + V0) (hR : R0 < Y) :
    Q1 * 4294967296 + Q0 = N / y ∧ R0 / 2 ^ s = N % y := by
  have hp : 0 < 2 ^ s := Nat.two_pow_pos s
  have e : (Q1 * 4294967296 + Q0) * Y + R0 = N * 2 ^ s := by
    rw [← hN, hV, ← k_alg (Q1 * Y) (Q0 * Y) U V1 V0 R1 R0 h1 h0, Nat.add_mul, Nat.mul_right_comm]
  have hd : N * 2 ^ s / (y * 2 ^ s) = N / y := Nat.mul_div_mul_right N y hp
  have hm : N * 2 ^ s % (y * 2 ^ s) = N % y * 2 ^ s := Nat.mul_mod_mul_right (2 ^ s) N y
  rw [← hY, ← e] at hd hm
  constructor
  · rw [← hd, Nat.add_comm _ R0, Nat.add_mul_div_right _ _ (by omega), Nat.div_eq_of_lt hR, Nat.zero_add]
  · rw [Nat.add_comm _ R0, Nat.add_mul_mod_self_right, Nat.mod_eq_of_lt hR] at hm
    rw [hm, Nat.mul_div_cancel _ hp]

/-- Two words, moved up by s bits. -/
theorem k_shift (hi lo s : Nat) (hs : s ≤ 63) : (hi * 2 ^ s + lo / 2 ^ (64 - s)) * 18446744073709551616 + lo * 2 ^ s % 18446744073709551616 = (hi * 18446744073709551616 + lo) * 2 ^ s := by
  have hp : 0 < 2 ^ s := Nat.two_pow_pos s
  have e : (18446744073709551616 : Nat) = 2 ^ (64 - s) * 2 ^ s := by rw [← Nat.pow_add, show 64 - s + s = 64 by omega]
  have hd : lo * 2 ^ s / 18446744073709551616 = lo / 2 ^ (64 - s) := by
    rw [e]; exact Nat.mul_div_mul_right lo (2 ^ (64 - s)) hp
  have hm := Nat.div_add_mod (lo * 2 ^ s) 18446744073709551616
  rw [hd] at hm
  rw [Nat.add_mul, Nat.add_mul, Nat.mul_right_comm, Nat.add_assoc]
  congr 1
  rw [Nat.mul_comm (lo / 2 ^ (64 - s))]
  exact hm
theorem k_or (hi lo s : Nat) (hs : s ≤ 63) (hl : lo < 18446744073709551616) : hi * 2 ^ s ||| lo / 2 ^ (64 - s) = hi * 2 ^ s + lo / 2 ^ (64 - s) := by
  have e : (18446744073709551616 : Nat) = 2 ^ s * 2 ^ (64 - s) := by rw [← Nat.pow_add, show s + (64 - s) = 64 by omega]
  have h : lo / 2 ^ (64 - s) < 2 ^ s := by rw [Nat.div_lt_iff_lt_mul (Nat.two_pow_pos _), ← e]; exact hl
  rw [Nat.mul_comm hi, Nat.two_pow_add_eq_or_of_lt h]

/-! The same over whole numbers, as the walk has them. -/
def KFi (un y1 y0 d Q : Int) : Prop := ∃ a b c e f : Nat, un = a ∧ y1 = b ∧ y0 = c ∧ d = e ∧ Q = f ∧ KF a b c e f
def KIi (un y1 Q q r : Int) : Prop := ∃ a b f g h : Nat, un = a ∧ y1 = b ∧ Q = f ∧ q = g ∧ r = h ∧ KI a b f g h
theorem kfi_b {un y1 y0 d Q : Int} (F : KFi un y1 y0 d Q) : (0 ≤ y0 ∧ y0 < 4294967296) ∧ (2147483648 ≤ y1 ∧ y1 < 4294967296) ∧ (0 ≤ d ∧ d < 4294967296) ∧ (0 ≤ Q ∧ Q < 4294967296) ∧ 0 ≤ un := by
  obtain ⟨a, b, c, e, f, rfl, rfl, rfl, rfl, rfl, F⟩ := F
  have hQ := k_Q F
  obtain ⟨F1, F2, F3, F4, F5, F6⟩ := F
  clear F6
  omega
theorem kii_b {un y1 Q q r : Int} (I : KIi un y1 Q q r) : (0 ≤ q ∧ q ≤ 4294967297) ∧ 0 ≤ r ∧ r < 4294967296 := by
  obtain ⟨a, b, f, g, h, rfl, rfl, rfl, rfl, rfl, I⟩ := I
  obtain ⟨I1, I2, I3, I4⟩ := I
  omega
theorem kiNext {un y1 y0 d Q q r : Int} (F : KFi un y1 y0 d Q) (I : KIi un y1 Q q r) (h : 4294967296 ≤ q ∨ 4294967296 * r + d < q * y0) : Q < q ∧ (r + y1 < 4294967296 → KIi un y1 Q (q - 1) (r + y1)) ∧ (4294967296 ≤ r + y1 → q = Q + 1) := by
  obtain ⟨a, b, c, e, f, rfl, rfl, rfl, rfl, rfl, F⟩ := F
  obtain ⟨a', b', f', g, h', ha, hb, hf, rfl, rfl, I⟩ := I
  obtain rfl : a = a' := by omega
  obtain rfl : b = b' := by omega
  obtain rfl : f = f' := by omega
  have hg : KGo c e g h' := kgo_of (h.imp (fun h => by omega) id)
  have hm := k_more F I hg
  refine ⟨by omega, fun hr => ⟨a, b, f, g - 1, h' + b, rfl, rfl, rfl, by omega, by omega, k_next F I hg (by omega)⟩, fun hr => ?_⟩
  have := k_break F I hg (by omega)
  omega
theorem kiStop {un y1 y0 d Q q r : Int} (F : KFi un y1 y0 d Q) (I : KIi un y1 Q q r) (h : q * y0 ≤ 4294967296 * r + d) : q = Q := by
  obtain ⟨a, b, c, e, f, rfl, rfl, rfl, rfl, rfl, F⟩ := F
  obtain ⟨a', b', f', g, h', ha, hb, hf, rfl, rfl, I⟩ := I
  obtain rfl : a = a' := by omega
  obtain rfl : b = b' := by omega
  obtain rfl : f = f' := by omega
  have := k_stop F I (kgo_not h)
  omega
theorem kiProd {q y0 : Int} (hq : 0 ≤ q) (hq' : q < 4294967296) (hy : 0 ≤ y0) (hy' : y0 < 4294967296) : 0 ≤ q * y0 ∧ q * y0 ≤ 18446744065119617025 := by
  obtain ⟨a, rfl⟩ := Int.eq_ofNat_of_zero_le hq
  obtain ⟨b, rfl⟩ := Int.eq_ofNat_of_zero_le hy
  exact k_prod (by omega) (by omega)

end Go.Proofs.Ytmoomdikgfeifaa
