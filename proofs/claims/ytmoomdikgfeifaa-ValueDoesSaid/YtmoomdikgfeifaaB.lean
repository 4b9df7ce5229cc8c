/- Contracts of the functions of package math/bits that layer num calls: the product of two words, the number of bits, the quotient of two words by one. -/
import Derived.Test.YtmoomdikgfeifaaA
import Derived.Lib.Mul64
import Derived.Laws.Bits64b
import Derived.Lib.BitFns
import Derived.Lib.ItoaNum
import Derived.Lib.Walk
import Derived.LoopTactic
import Derived.Deep.QuietTactic
import Derived.BigQuiet
namespace Go.Proofs.Ytmoomdikgfeifaa
set_option linter.unusedVariables false
open Go.ChangeShapes Go.WideShapes Go.ChangeAt Go.RowKit Go.Lib

theorem maskN (a : Nat) (ha : a < 18446744073709551616) : bits .and .u64 (a : Int) 4294967295 = ((a % 4294967296 : Nat) : Int) := by
  have h := bits_and_u64_nat a 4294967295 ha (by omega)
  rw [show a &&& 4294967295 = a % 4294967296 from Nat.and_two_pow_sub_one_eq_mod a 32] at h
  exact h
theorem divN (a : Nat) : (a : Int) / 4294967296 = ((a / 4294967296 : Nat) : Int) := by omega
theorem mulN (a b : Nat) : (a : Int) * (b : Int) = ((a * b : Nat) : Int) := (Int.natCast_mul a b).symm
theorem addN (a b : Nat) : (a : Int) + (b : Int) = ((a + b : Nat) : Int) := (Int.natCast_add a b).symm
theorem wrapN (a : Nat) (ha : a < 18446744073709551616) : IntKind.u64.wrap (a : Int) = (a : Int) := by rw [IntKind.wrap_u64]; omega
theorem wrapM (a : Nat) : IntKind.u64.wrap (a : Int) = ((a % 18446744073709551616 : Nat) : Int) := by rw [IntKind.wrap_u64]; omega

set_option maxHeartbeats 1000000 in
theorem mul64_any (x y : Nat) (hx : x < 18446744073709551616) (hy : y < 18446744073709551616) (w : World) :
    Calls Try.prog 71 #[.int .u64 x, .int .u64 y] w fun e w' => e = .returned (.tuple #[.int .u64 ((x * y / 18446744073709551616 : Nat) : Int), .int .u64 ((x * y % 18446744073709551616 : Nat) : Int)]) ∧ w = w' := by
  obtain ⟨bd, bt, bw, hhi⟩ := Lib.mul64_hi x y hx hy
  have ba := Lib.half_mul_le (a := x / 4294967296) (b := y / 4294967296) (by omega) (by omega)
  have bb := Lib.half_mul_le (a := x / 4294967296) (b := y % 4294967296) (by omega) (by omega)
  have bc := Lib.half_mul_le (a := x % 4294967296) (b := y / 4294967296) (by omega) (by omega)
  have ba' : x / 4294967296 * (y / 4294967296) < 18446744073709551616 := by omega
  have bb' : x / 4294967296 * (y % 4294967296) < 18446744073709551616 := by omega
  have bc' : x % 4294967296 * (y / 4294967296) < 18446744073709551616 := by omega
  have bh1 : x / 4294967296 * (y / 4294967296) + (x / 4294967296 * (y % 4294967296) + x % 4294967296 * (y % 4294967296) / 4294967296) / 4294967296 < 18446744073709551616 := by omega
  have bh : x / 4294967296 * (y / 4294967296) + (x / 4294967296 * (y % 4294967296) + x % 4294967296 * (y % 4294967296) / 4294967296) / 4294967296 + ((x / 4294967296 * (y % 4294967296) + x % 4294967296 * (y % 4294967296) / 4294967296) % 4294967296 + x % 4294967296 * (y / 4294967296)) / 4294967296 < 18446744073709551616 := by omega
  go_enter Try.func71, Try.ntmps71
  go_wp2
  simp only [maskN x hx, maskN y hy, divN, mulN, addN, wrapN _ bd, wrapN _ bb', wrapN _ bt, maskN _ bt, wrapN _ bc', wrapN _ bw, wrapN _ ba', wrapN _ bh1, wrapN _ bh, wrapM (x * y)]
  rw [hhi]
  go_ret2
  exact ⟨rfl, rfl⟩

set_option maxRecDepth 100000 in
theorem len8tab_size : Lib.len8tab.size = 256 := by decide
theorem len8_get (y : Int) (h : y.toNat < Lib.len8tab.size) (h0 : 0 ≤ y) (h1 : y ≤ 255) : ((Lib.len8tab[y.toNat]'h).toNat : Int) = (Lib.bitLen y.toNat : Int) := by
  rw [← Lib.len8_of y h0 h1]
  unfold Lib.len8
  rw [getElem?_pos Lib.len8tab y.toNat h]
  rfl
theorem len_way (k : Int) (y : Int) (x : Nat) (h : y.toNat < Lib.len8tab.size) (hk : 0 ≤ k) (hk' : k ≤ 56) (h0 : 0 ≤ y) (h1 : y ≤ 255) (hb : (Lib.bitLen x : Int) = k + Lib.bitLen y.toNat) :
    wrap64 (k + wrap64 ((Lib.len8tab[y.toNat]'h).toNat : Int)) = (Lib.bitLen x : Int) := by
  rw [len8_get y h h0 h1, hb]
  have := Lib.bitLen_le8' y h0 h1
  unfold wrap64; omega
theorem len_way0 (y : Int) (h : y.toNat < Lib.len8tab.size) (h0 : 0 ≤ y) (h1 : y ≤ 255) :
    wrap64 (wrap64 ((Lib.len8tab[y.toNat]'h).toNat : Int)) = (Lib.bitLen y.toNat : Int) := by
  rw [len8_get y h h0 h1]
  have := Lib.bitLen_le8' y h0 h1
  unfold wrap64; omega
theorem sh8 (x : Int) (h0 : 0 ≤ x) (h : 256 ≤ x) (h1 : x ≤ 18446744073709551615) : (Lib.bitLen x.toNat : Int) = 8 + Lib.bitLen (x / 256).toNat := by
  have := Lib.bitLen_shift8 x.toNat (by omega) (by omega); rw [show (x / 256).toNat = x.toNat / 256 by omega]; omega
theorem sh16 (x : Int) (h0 : 0 ≤ x) (h : 65536 ≤ x) (h1 : x ≤ 18446744073709551615) : (Lib.bitLen x.toNat : Int) = 16 + Lib.bitLen (x / 65536).toNat := by
  have := Lib.bitLen_shift16 x.toNat (by omega) (by omega); rw [show (x / 65536).toNat = x.toNat / 65536 by omega]; omega
theorem sh24 (x : Int) (h0 : 0 ≤ x) (h : 256 ≤ x / 65536) (h1 : x ≤ 18446744073709551615) : (Lib.bitLen x.toNat : Int) = 24 + Lib.bitLen (x / 65536 / 256).toNat := by
  have a := sh16 x h0 (by omega) h1; have b := sh8 (x / 65536) (by omega) h (by omega); omega
theorem sh32 (x : Int) (h0 : 0 ≤ x) (h : 4294967296 ≤ x) (h1 : x ≤ 18446744073709551615) : (Lib.bitLen x.toNat : Int) = 32 + Lib.bitLen (x / 4294967296).toNat := by
  have := Lib.bitLen_shift32 x.toNat (by omega) (by omega); rw [show (x / 4294967296).toNat = x.toNat / 4294967296 by omega]; omega
theorem sh40 (x : Int) (h0 : 0 ≤ x) (h : 256 ≤ x / 4294967296) (h1 : x ≤ 18446744073709551615) : (Lib.bitLen x.toNat : Int) = 40 + Lib.bitLen (x / 4294967296 / 256).toNat := by
  have a := sh32 x h0 (by omega) h1; have b := sh8 (x / 4294967296) (by omega) h (by omega); omega
theorem sh48 (x : Int) (h0 : 0 ≤ x) (h : 65536 ≤ x / 4294967296) (h1 : x ≤ 18446744073709551615) : (Lib.bitLen x.toNat : Int) = 48 + Lib.bitLen (x / 4294967296 / 65536).toNat := by
  have a := sh32 x h0 (by omega) h1; have b := sh16 (x / 4294967296) (by omega) h (by omega); omega
theorem sh56 (x : Int) (h0 : 0 ≤ x) (h : 256 ≤ x / 4294967296 / 65536) (h1 : x ≤ 18446744073709551615) : (Lib.bitLen x.toNat : Int) = 56 + Lib.bitLen (x / 4294967296 / 65536 / 256).toNat := by
  have a := sh48 x h0 (by omega) h1; have b := sh8 (x / 4294967296 / 65536) (by omega) h (by omega); omega

set_option maxHeartbeats 4000000 in
set_option maxRecDepth 100000 in
theorem len64_any (x : Int) (w : World) (h0 : 0 ≤ x) (h1 : x ≤ 18446744073709551615) :
    Calls Try.prog 79 #[.int .u64 x] w fun e w' => e = .returned (.int .i64 (Lib.bitLen x.toNat)) ∧ w = w' := by
  have hs := len8tab_size
  go_enter Try.func79, Try.ntmps79
  go_wp2
  all_goals (go_ret; refine ⟨congrArg Ending.returned (congrArg (Value.int IntKind.i64) ?_), rfl⟩)
  · exact len_way 56 _ _ _ (by omega) (by omega) (by omega) (by omega) (sh56 x h0 (by omega) h1)
  · exact len_way 48 _ _ _ (by omega) (by omega) (by omega) (by omega) (sh48 x h0 (by omega) h1)
  · exact len_way 40 _ _ _ (by omega) (by omega) (by omega) (by omega) (sh40 x h0 (by omega) h1)
  · exact len_way 32 _ _ _ (by omega) (by omega) (by omega) (by omega) (sh32 x h0 (by omega) h1)
  · exact len_way 24 _ _ _ (by omega) (by omega) (by omega) (by omega) (sh24 x h0 (by omega) h1)
  · exact len_way 16 _ _ _ (by omega) (by omega) (by omega) (by omega) (sh16 x h0 (by omega) h1)
  · exact len_way 8 _ _ _ (by omega) (by omega) (by omega) (by omega) (sh8 x h0 (by omega) h1)
  · exact len_way0 _ _ (by omega) (by omega)

/-- How many noughts stand ahead of a word's first bit. -/
def lz (y : Nat) : Nat := 64 - Lib.bitLen y
theorem lz_norm (y : Nat) (h0 : 0 < y) (h : y < 18446744073709551616) : lz y ≤ 63 ∧ 9223372036854775808 ≤ y * 2 ^ lz y ∧ y * 2 ^ lz y < 18446744073709551616 := by
  obtain ⟨h1, h2, h3⟩ := Lib.bitLenAux_bounds 64 y h (by omega)
  have h4 := Lib.bitLen_le y 64 (by omega) h
  change 1 ≤ Lib.bitLen y at h1
  change 2 ^ (Lib.bitLen y - 1) ≤ y at h2
  change y < 2 ^ (Lib.bitLen y) at h3
  unfold lz
  generalize Lib.bitLen y = L at *
  refine ⟨by omega, ?_, ?_⟩
  · have := Nat.mul_le_mul_right (2 ^ (64 - L)) h2
    rw [← Nat.pow_add, show L - 1 + (64 - L) = 63 by omega] at this
    exact this
  · have := Nat.mul_lt_mul_of_pos_right h3 (Nat.two_pow_pos (64 - L))
    rw [← Nat.pow_add, show L + (64 - L) = 64 by omega] at this
    exact this

theorem lz_any (y : Nat) (w : World) (h : y < 18446744073709551616) :
    Calls Try.prog 78 #[.int .u64 y] w fun e w' => e = .returned (.int .i64 (lz y : Nat)) ∧ w = w' := by
  have h4 := Lib.bitLen_le y 64 (by omega) h
  go_enter Try.func78, Try.ntmps78
  go_wp2_with (go_at_call 79; refine (len64_any _ _ (by omega) (by omega)).mono ?_; rintro e w' ⟨rfl, rfl⟩)
  go_ret
  refine ⟨congrArg Ending.returned (congrArg (Value.int IntKind.i64) ?_), rfl⟩
  unfold lz
  omega

end Go.Proofs.Ytmoomdikgfeifaa
