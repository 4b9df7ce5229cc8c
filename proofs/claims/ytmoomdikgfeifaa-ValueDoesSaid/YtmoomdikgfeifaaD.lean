/- Contracts of math/bits.Div64, and of layer num's products, quotients and decimals, for every input. -/
import Derived.Test.YtmoomdikgfeifaaC
namespace Go.Proofs.Ytmoomdikgfeifaa
open Go.ChangeShapes Go.WideShapes Go.ChangeAt Go.RowKit Go.Lib

theorem wrap_left (U v P R : Int) (h : P + R = U * 4294967296 + v) (h0 : 0 ≤ R) (h1 : R ≤ 18446744073709551615) :
    IntKind.u64.wrap (IntKind.u64.wrap (IntKind.u64.wrap (U * 4294967296) + v) - IntKind.u64.wrap P) = R := by
  simp only [IntKind.wrap_u64]; omega
theorem cast_shl (a s : Nat) : (a : Int) * 2 ^ s = ((a * 2 ^ s : Nat) : Int) := by rw [Int.natCast_mul, Int.natCast_pow]; rfl
theorem cast_shr (a s : Nat) : (a : Int) / 2 ^ s = ((a / 2 ^ s : Nat) : Int) := by rw [Int.natCast_ediv, Int.natCast_pow]; rfl
theorem shl_top (hi lo y s : Nat) (h1 : hi < y) (hl : lo < 18446744073709551616) : (hi * 18446744073709551616 + lo) * 2 ^ s < y * 2 ^ s * 18446744073709551616 := by
  have h : hi * 18446744073709551616 + lo < y * 18446744073709551616 := by omega
  have := Nat.mul_lt_mul_of_pos_right h (Nat.two_pow_pos s)
  rw [Nat.mul_right_comm y] at this
  exact this
theorem lt_of_shl {U V Y N : Nat} (h : U * 18446744073709551616 + V = N) (h2 : N < Y * 18446744073709551616) : U < Y := by omega
theorem pow_le (hi y s : Nat) (h : hi < y) : hi * 2 ^ s ≤ y * 2 ^ s := Nat.mul_le_mul_right _ (by omega)
theorem kii_first {un y1 y0 d Q : Nat} (F : KF un y1 y0 d Q) : KIi un y1 Q ((un : Int) / y1) ((un : Int) - (un : Int) / y1 * y1) := by
  refine ⟨un, y1, Q, un / y1, un % y1, rfl, rfl, rfl, (Int.natCast_ediv _ _).symm, ?_, k_first F⟩
  have h := Nat.div_add_mod un y1
  rw [Nat.mul_comm] at h
  rw [← Int.natCast_ediv, ← Int.natCast_mul]
  omega
theorem div_back (un y1 : Nat) : (un : Int) / y1 * y1 ≤ un ∧ 0 ≤ (un : Int) / y1 * y1 := by
  rw [← Int.natCast_ediv, ← Int.natCast_mul]
  have := Nat.div_mul_le_self un y1
  omega

theorem div64_any (hi lo y : Nat) (w : World) (h1 : hi < y) (hy : y < 18446744073709551616) (hl : lo < 18446744073709551616) :
    Calls Try.prog 77 #[.int .u64 hi, .int .u64 lo, .int .u64 y] w fun e w' => e = .returned (.tuple #[.int .u64 (((hi * 18446744073709551616 + lo) / y : Nat) : Int), .int .u64 (((hi * 18446744073709551616 + lo) % y : Nat) : Int)]) ∧ Grown w w' := by
  by_cases h0 : hi = 0
  · subst h0
    have := div64_low lo y w h1 hl
    rw [Nat.zero_mul, Nat.zero_add]
    exact this
  · obtain ⟨hs, hn1, hn2⟩ := lz_norm y (by omega) hy
    have hlz := fun w => lz_any y w hy
    generalize hsE : lz y = s at *
    clear hsE
    have hsh := k_shift hi lo s hs
    have hor := k_or hi lo s hs hl
    have htop := shl_top hi lo y s h1 hl
    have hpl := pow_le hi y s h1
    rw [← hsh] at htop
    obtain ⟨Y, hY⟩ : ∃ Y, Y = y * 2 ^ s := ⟨_, rfl⟩
    obtain ⟨W, hW⟩ : ∃ W, W = hi * 2 ^ s := ⟨_, rfl⟩
    obtain ⟨U, hU⟩ : ∃ U, U = hi * 2 ^ s + lo / 2 ^ (64 - s) := ⟨_, rfl⟩
    obtain ⟨V, hV⟩ : ∃ V, V = lo * 2 ^ s % 18446744073709551616 := ⟨_, rfl⟩
    have hVl : V < 18446744073709551616 := by rw [hV]; exact Nat.mod_lt _ (by omega)
    rw [← hY] at hn1 hn2 htop hpl
    rw [← hU, ← hV] at hsh htop
    rw [← hU, ← hW] at hor
    rw [← hW] at hpl
    have hUY : U < Y := lt_of_shl rfl htop
    obtain ⟨y1, hy1⟩ : ∃ a, a = Y / 4294967296 := ⟨_, rfl⟩
    obtain ⟨y0, hy0⟩ : ∃ a, a = Y % 4294967296 := ⟨_, rfl⟩
    obtain ⟨v1, hv1⟩ : ∃ a, a = V / 4294967296 := ⟨_, rfl⟩
    obtain ⟨v0, hv0⟩ : ∃ a, a = V % 4294967296 := ⟨_, rfl⟩
    have hYd : Y = y1 * 4294967296 + y0 := by omega
    have hVd : V = v1 * 4294967296 + v0 := by omega
    obtain ⟨Q1, hQ1⟩ : ∃ a, a = (U * 4294967296 + v1) / (y1 * 4294967296 + y0) := ⟨_, rfl⟩
    have F1 : KF U y1 y0 v1 Q1 := ⟨by omega, by omega, by omega, by omega, by omega, hQ1⟩
    obtain ⟨l1, l2⟩ := k_left F1
    obtain ⟨R1, hR1⟩ : ∃ a, a = (U * 4294967296 + v1) % (y1 * 4294967296 + y0) := ⟨_, rfl⟩
    rw [← hR1] at l1 l2
    obtain ⟨Q0, hQ0⟩ : ∃ a, a = (R1 * 4294967296 + v0) / (y1 * 4294967296 + y0) := ⟨_, rfl⟩
    have F0 : KF R1 y1 y0 v0 Q0 := ⟨by omega, by omega, by omega, l2, by omega, hQ0⟩
    obtain ⟨m1, m2⟩ := k_left F0
    obtain ⟨R0, hR0⟩ : ∃ a, a = (R1 * 4294967296 + v0) % (y1 * 4294967296 + y0) := ⟨_, rfl⟩
    rw [← hR0] at m1 m2
    rw [← hYd] at l1 l2 m1 m2
    obtain ⟨w1, w2⟩ := k_whole hY hsh hVd l1 m1 m2
    clear hQ1 hR1 hQ0 hR0
    have c1 := div_back U y1
    have c0 := div_back R1 y1
    have hc := div64_core hi lo y s Y y1 y0 W U V v1 v0 Q1 Q0 R1 R0 w (by omega) h1 hy hl hlz hs
      (by rw [cast_shl, ← hY]; exact wrapN Y hn2) (by omega) (by rw [maskN Y hn2, ← hy0])
      (by rw [cast_shl, ← hW]; exact wrapN W (by omega))
      (by rw [cast_shr, bits_or_u64_nat W _ (by omega) (Nat.lt_of_le_of_lt (Nat.div_le_self _ _) hl), hor])
      (by rw [cast_shl, wrapM, ← hV]) (by omega) (by rw [maskN V hVl, ← hv0])
      (by omega) (by omega) c1.1 c1.2 ⟨U, y1, y0, v1, Q1, rfl, rfl, rfl, rfl, rfl, F1⟩ (kii_first F1) (by omega) (by omega)
      (wrap_left _ _ _ _ (by rw [← Int.natCast_mul]; omega) (by omega) (by omega)) (by omega) c0.1 c0.2 ⟨R1, y1, y0, v0, Q0, rfl, rfl, rfl, rfl, rfl, F0⟩ (kii_first F0)
      (wrap_left _ _ _ _ (by rw [← Int.natCast_mul]; omega) (by omega) (by omega)) (by omega)
    refine hc.mono fun e w' ⟨he, hw⟩ => ?_
    subst hw
    refine ⟨he.trans (two_u _ _ _ _ ?_ ?_), Grown.refl _⟩
    · rw [← w1]; omega
    · rw [cast_shr, w2]

end Go.Proofs.Ytmoomdikgfeifaa
