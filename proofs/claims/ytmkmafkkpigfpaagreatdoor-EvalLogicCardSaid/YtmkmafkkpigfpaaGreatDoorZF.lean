/- Contract of math/bits.Div64: the quotient of two words by one, and what is left. Contracts of math/bits.Div64, and of layer num's products, quotients and decimals, for. Contracts of layer num's products, quotients and decimals, for every input. Contracts of layer num's calls Mul, Scale, Quo, MulDec, DivDec, for every input. -/
import Derived.Test.YtmkmafkkpigfpaaGreatDoorZB
set_option maxHeartbeats 1000000
namespace Go.Proofs.YtmkmafkkpigfpaaGreatDoor.V
set_option linter.unusedVariables false
open Go.ChangeShapes Go.WideShapes Go.ChangeAt Go.RowKit Go.Lib
theorem Grown.drewN {W w : World} (h : Grown W w) (n : Nat) : Grown W (w.drewN n) := h
theorem two_u (a b c d : Int) (h1 : a = c) (h2 : b = d) : Ending.returned (.tuple #[.int .u64 a, .int .u64 b]) = .returned (.tuple #[.int .u64 c, .int .u64 d]) := by rw [h1, h2]
theorem div64_low (lo y : Nat) (w : World) (h0 : 0 < y) (hl : lo < 18446744073709551616) :
    Calls Tryz.prog 173 #[.int .u64 (0 : Nat), .int .u64 lo, .int .u64 y] w fun e w' => e = .returned (.tuple #[.int .u64 ((lo / y : Nat) : Int), .int .u64 ((lo % y : Nat) : Int)]) ∧ Grown w w' := by
  go_enter Tryz.func173, Tryz.ntmps173
  go_wp2
  go_quiet (fail)
  go_wp2
  go_ret2
  refine ⟨two_u _ _ _ _ ?_ rfl, Grown.drewN (Grown.refl _) _⟩
  exact wrapN (lo / y) (Nat.lt_of_le_of_lt (Nat.div_le_self lo y) hl)
set_option maxRecDepth 100000 in
theorem div64_core (hi lo y s : Nat) (Y y1 y0 W U V v1 v0 Q1 Q0 R1 R0 : Int) (w : World) (h0 : 0 < hi) (h1 : hi < y) (hy : y < 18446744073709551616) (hl : lo < 18446744073709551616)
    (hlz : ∀ w, Calls Tryz.prog 187 #[.int .u64 y] w fun e w' => e = .returned (.int .i64 (s : Nat)) ∧ w = w') (hs : s ≤ 63)
    (hY : IntKind.u64.wrap ((y : Int) * 2 ^ s) = Y) (hY1 : Y / 4294967296 = y1) (hY0 : bits .and .u64 Y 4294967295 = y0)
    (hW : IntKind.u64.wrap ((hi : Int) * 2 ^ s) = W) (hU : bits .or .u64 W ((lo : Int) / 2 ^ (64 - s)) = U)
    (hV : IntKind.u64.wrap ((lo : Int) * 2 ^ s) = V) (hV1 : V / 4294967296 = v1) (hV0 : bits .and .u64 V 4294967295 = v0)
    (bU : 0 ≤ U) (bU' : U ≤ 18446744073709551615) (bq : U / y1 * y1 ≤ U) (bq0 : 0 ≤ U / y1 * y1)
    (F1 : KFi U y1 y0 v1 Q1) (I1 : KIi U y1 Q1 (U / y1) (U - U / y1 * y1)) (bY : 0 ≤ Y) (bV : 0 ≤ V)
    (hR1 : IntKind.u64.wrap (IntKind.u64.wrap (IntKind.u64.wrap (U * 4294967296) + v1) - IntKind.u64.wrap (Q1 * Y)) = R1) (bR1 : R1 ≤ 18446744073709551615) (bR : R1 / y1 * y1 ≤ R1) (bR' : 0 ≤ R1 / y1 * y1)
    (F0 : KFi R1 y1 y0 v0 Q0) (I0 : KIi R1 y1 Q0 (R1 / y1) (R1 - R1 / y1 * y1))
    (hR0 : IntKind.u64.wrap (IntKind.u64.wrap (IntKind.u64.wrap (R1 * 4294967296) + v0) - IntKind.u64.wrap (Q0 * Y)) = R0) (bR0 : 0 ≤ R0) :
    Calls Tryz.prog 173 #[.int .u64 hi, .int .u64 lo, .int .u64 y] w fun e w' => e = .returned (.tuple #[.int .u64 (Q1 * 4294967296 + Q0), .int .u64 (R0 / 2 ^ s)]) ∧ w = w' := by
  obtain ⟨⟨by0, by0'⟩, ⟨by1, by1'⟩, ⟨bv1, bv1'⟩, ⟨bQ1, bQ1'⟩, _⟩ := kfi_b F1
  obtain ⟨_, _, ⟨bv0, bv0'⟩, ⟨bQ0, bQ0'⟩, bR1'⟩ := kfi_b F0
  obtain ⟨⟨bbs, bbs'⟩, bbt, bbt'⟩ := kii_b I0
  obtain ⟨⟨bbq, bbq'⟩, bbr, bbr'⟩ := kii_b I1
  go_enter Tryz.func173, Tryz.ntmps173
  go_wp2_with (go_at_call 187; refine (hlz _).mono ?_; rintro e w' ⟨rfl, rfl⟩)
  clear hY hY1 hY0 hW hU hV hV1 hV0 hlz bq bq0
  go_loop [15, 16] (fun a b => ∃ q r : Int, KIi U y1 Q1 q r ∧ a = .int .u64 q ∧ b = .int .u64 r) (fun a _ => (RowKit.intOf a).toNat)
  case atStart => exact ⟨_, _, I1, rfl, rfl⟩
  case round =>
    clear I1 bbq' bbq bbr bbr'
    obtain ⟨q, r, I, rfl, rfl⟩ := hrel
    obtain ⟨⟨bbq, bbq'⟩, bbr, bbr'⟩ := kii_b I
    by_cases hA1 : 4294967296 ≤ q
    · obtain ⟨hm, hn, hk⟩ := kiNext F1 I (Or.inl hA1)
      by_cases hb : r + y1 < 4294967296
      · have HI := hid (hn hb)
        clear hn hk
        go_wp2
        go_round
        case rel => exact ⟨q - 1, r + y1, HI.out, rfl, rfl⟩
        case measure => simp [RowKit.intOf]; omega
      · have hk' := hk (by omega)
        clear hn hk
        obtain rfl : q = Q1 + 1 := hk'
        go_wp2
        go_loop [18, 16] (fun a b => ∃ q r : Int, KIi R1 y1 Q0 q r ∧ a = .int .u64 q ∧ b = .int .u64 r) (fun a _ => (RowKit.intOf a).toNat)
        case atStart => exact ⟨_, _, I0, rfl, rfl⟩
        case round =>
          clear I
          clear I0 bbs bbs' bbt bbt' bbq bbq' bbr bbr' bR bR' bU bU'
          obtain ⟨q, r, I, rfl, rfl⟩ := hrel
          obtain ⟨⟨bbq, bbq'⟩, bbr, bbr'⟩ := kii_b I
          by_cases hA1 : 4294967296 ≤ q
          · obtain ⟨hm, hn, hk⟩ := kiNext F0 I (Or.inl hA1)
            by_cases hb : r + y1 < 4294967296
            · have HI := hid (hn hb)
              clear hn hk
              go_wp2
              go_round
              case rel => exact ⟨q - 1, r + y1, HI.out, rfl, rfl⟩
              case measure => simp [RowKit.intOf]; omega
            · have hk' := hk (by omega)
              clear hn hk
              obtain rfl : q = Q0 + 1 := hk'
              go_wp2
              go_ret2
              exact ⟨rfl, rfl⟩
          · obtain ⟨p0, p1⟩ := kiProd bbq (by omega) by0 by0'
            by_cases hA2 : 4294967296 * r + v0 < q * y0
            · obtain ⟨hm, hn, hk⟩ := kiNext F0 I (Or.inr hA2)
              by_cases hb : r + y1 < 4294967296
              · have HI := hid (hn hb)
                clear hn hk
                go_wp2
                go_round
                case rel => exact ⟨q - 1, r + y1, HI.out, rfl, rfl⟩
                case measure => simp [RowKit.intOf]; omega
              · have hk' := hk (by omega)
                clear hn hk
                obtain rfl : q = Q0 + 1 := hk'
                go_wp2
                go_ret2
                exact ⟨rfl, rfl⟩
            · obtain rfl : Q0 = q := (kiStop F0 I (by omega)).symm
              go_wp2
              go_ret2
              exact ⟨rfl, rfl⟩
    · obtain ⟨p0, p1⟩ := kiProd bbq (by omega) by0 by0'
      by_cases hA2 : 4294967296 * r + v1 < q * y0
      · obtain ⟨hm, hn, hk⟩ := kiNext F1 I (Or.inr hA2)
        by_cases hb : r + y1 < 4294967296
        · have HI := hid (hn hb)
          clear hn hk
          go_wp2
          go_round
          case rel => exact ⟨q - 1, r + y1, HI.out, rfl, rfl⟩
          case measure => simp [RowKit.intOf]; omega
        · have hk' := hk (by omega)
          clear hn hk
          obtain rfl : q = Q1 + 1 := hk'
          go_wp2
          go_loop [18, 16] (fun a b => ∃ q r : Int, KIi R1 y1 Q0 q r ∧ a = .int .u64 q ∧ b = .int .u64 r) (fun a _ => (RowKit.intOf a).toNat)
          case atStart => exact ⟨_, _, I0, rfl, rfl⟩
          case round =>
            clear I
            clear I0 bbs bbs' bbt bbt' bbq bbq' bbr bbr' bR bR' bU bU'
            obtain ⟨q, r, I, rfl, rfl⟩ := hrel
            obtain ⟨⟨bbq, bbq'⟩, bbr, bbr'⟩ := kii_b I
            by_cases hA1 : 4294967296 ≤ q
            · obtain ⟨hm, hn, hk⟩ := kiNext F0 I (Or.inl hA1)
              by_cases hb : r + y1 < 4294967296
              · have HI := hid (hn hb)
                clear hn hk
                go_wp2
                go_round
                case rel => exact ⟨q - 1, r + y1, HI.out, rfl, rfl⟩
                case measure => simp [RowKit.intOf]; omega
              · have hk' := hk (by omega)
                clear hn hk
                obtain rfl : q = Q0 + 1 := hk'
                go_wp2
                go_ret2
                exact ⟨rfl, rfl⟩
            · obtain ⟨p0, p1⟩ := kiProd bbq (by omega) by0 by0'
              by_cases hA2 : 4294967296 * r + v0 < q * y0
              · obtain ⟨hm, hn, hk⟩ := kiNext F0 I (Or.inr hA2)
                by_cases hb : r + y1 < 4294967296
                · have HI := hid (hn hb)
                  clear hn hk
                  go_wp2
                  go_round
                  case rel => exact ⟨q - 1, r + y1, HI.out, rfl, rfl⟩
                  case measure => simp [RowKit.intOf]; omega
                · have hk' := hk (by omega)
                  clear hn hk
                  obtain rfl : q = Q0 + 1 := hk'
                  go_wp2
                  go_ret2
                  exact ⟨rfl, rfl⟩
              · obtain rfl : Q0 = q := (kiStop F0 I (by omega)).symm
                go_wp2
                go_ret2
                exact ⟨rfl, rfl⟩
      · obtain rfl : Q1 = q := (kiStop F1 I (by omega)).symm
        go_wp2
        go_loop [18, 16] (fun a b => ∃ q r : Int, KIi R1 y1 Q0 q r ∧ a = .int .u64 q ∧ b = .int .u64 r) (fun a _ => (RowKit.intOf a).toNat)
        case atStart => exact ⟨_, _, I0, rfl, rfl⟩
        case round =>
          clear I
          clear I0 bbs bbs' bbt bbt' bbq bbq' bbr bbr' bR bR' bU bU'
          obtain ⟨q, r, I, rfl, rfl⟩ := hrel
          obtain ⟨⟨bbq, bbq'⟩, bbr, bbr'⟩ := kii_b I
          by_cases hA1 : 4294967296 ≤ q
          · obtain ⟨hm, hn, hk⟩ := kiNext F0 I (Or.inl hA1)
            by_cases hb : r + y1 < 4294967296
            · have HI := hid (hn hb)
              clear hn hk
              go_wp2
              go_round
              case rel => exact ⟨q - 1, r + y1, HI.out, rfl, rfl⟩
              case measure => simp [RowKit.intOf]; omega
            · have hk' := hk (by omega)
              clear hn hk
              obtain rfl : q = Q0 + 1 := hk'
              go_wp2
              go_ret2
              exact ⟨rfl, rfl⟩
          · obtain ⟨p0, p1⟩ := kiProd bbq (by omega) by0 by0'
            by_cases hA2 : 4294967296 * r + v0 < q * y0
            · obtain ⟨hm, hn, hk⟩ := kiNext F0 I (Or.inr hA2)
              by_cases hb : r + y1 < 4294967296
              · have HI := hid (hn hb)
                clear hn hk
                go_wp2
                go_round
                case rel => exact ⟨q - 1, r + y1, HI.out, rfl, rfl⟩
                case measure => simp [RowKit.intOf]; omega
              · have hk' := hk (by omega)
                clear hn hk
                obtain rfl : q = Q0 + 1 := hk'
                go_wp2
                go_ret2
                exact ⟨rfl, rfl⟩
            · obtain rfl : Q0 = q := (kiStop F0 I (by omega)).symm
              go_wp2
              go_ret2
              exact ⟨rfl, rfl⟩
end Go.Proofs.YtmkmafkkpigfpaaGreatDoor.V
namespace Go.Proofs.YtmkmafkkpigfpaaGreatDoor.V
open Go.ChangeShapes Go.WideShapes Go.ChangeAt Go.RowKit Go.Lib
theorem wrap_left (U v P R : Int) (h : P + R = U * 4294967296 + v) (h0 : 0 ≤ R) (h1 : R ≤ 18446744073709551615) :
    IntKind.u64.wrap (IntKind.u64.wrap (IntKind.u64.wrap (U * 4294967296) + v) - IntKind.u64.wrap P) = R := by
  simp only [IntKind.wrap_u64]; omega
theorem cast_shl (a s : Nat) : (a : Int) * 2 ^ s = ((a * 2 ^ s : Nat) : Int) := by rw [Int.natCast_mul, Int.natCast_pow]; rfl
theorem cast_shr (a s : Nat) : (a : Int) / 2 ^ s = ((a / 2 ^ s : Nat) : Int) := by rw [Int.natCast_ediv, Int.natCast_pow]; rfl
theorem shl_top (hi lo y s : Nat) (h1 : hi < y) (hl : lo < 18446744073709551616) : (hi * 18446744073709551616 + lo) * 2 ^ s < y * 2 ^ s * 18446744073709551616 := by
  have h : hi * 18446744073709551616 + lo < y * 18446744073709551616 := by omega
  have := Nat.mul_lt_mul_of_pos_right h (Nat.two_pow_pos s)
  rw [Nat.mul_right_comm y] at this
  exact this
theorem lt_of_shl {U V Y N : Nat} (h : U * 18446744073709551616 + V = N) (h2 : N < Y * 18446744073709551616) : U < Y := by omega
theorem pow_le (hi y s : Nat) (h : hi < y) : hi * 2 ^ s ≤ y * 2 ^ s := Nat.mul_le_mul_right _ (by omega)
theorem kii_first {un y1 y0 d Q : Nat} (F : KF un y1 y0 d Q) : KIi un y1 Q ((un : Int) / y1) ((un : Int) - (un : Int) / y1 * y1) := by
  refine ⟨un, y1, Q, un / y1, un % y1, rfl, rfl, rfl, (Int.natCast_ediv _ _).symm, ?_, k_first F⟩
  have h := Nat.div_add_mod un y1
  rw [Nat.mul_comm] at h
  rw [← Int.natCast_ediv, ← Int.natCast_mul]
  omega
theorem div_back (un y1 : Nat) : (un : Int) / y1 * y1 ≤ un ∧ 0 ≤ (un : Int) / y1 * y1 := by
  rw [← Int.natCast_ediv, ← Int.natCast_mul]
  have := Nat.div_mul_le_self un y1
  omega
theorem div64_any (hi lo y : Nat) (w : World) (h1 : hi < y) (hy : y < 18446744073709551616) (hl : lo < 18446744073709551616) :
    Calls Tryz.prog 173 #[.int .u64 hi, .int .u64 lo, .int .u64 y] w fun e w' => e = .returned (.tuple #[.int .u64 (((hi * 18446744073709551616 + lo) / y : Nat) : Int), .int .u64 (((hi * 18446744073709551616 + lo) % y : Nat) : Int)]) ∧ Grown w w' := by
  by_cases h0 : hi = 0
  · subst h0
    have := div64_low lo y w h1 hl
    rw [Nat.zero_mul, Nat.zero_add]
    exact this
  · obtain ⟨hs, hn1, hn2⟩ := lz_norm y (by omega) hy
    have hlz := fun w => lz_any y w hy
    generalize hsE : lz y = s at *
    clear hsE
    have hsh := k_shift hi lo s hs
    have hor := k_or hi lo s hs hl
    have htop := shl_top hi lo y s h1 hl
    have hpl := pow_le hi y s h1
    rw [← hsh] at htop
    obtain ⟨Y, hY⟩ : ∃ Y, Y = y * 2 ^ s := ⟨_, rfl⟩
    obtain ⟨W, hW⟩ : ∃ W, W = hi * 2 ^ s := ⟨_, rfl⟩
    obtain ⟨U, hU⟩ : ∃ U, U = hi * 2 ^ s + lo / 2 ^ (64 - s) := ⟨_, rfl⟩
    obtain ⟨V, hV⟩ : ∃ V, V = lo * 2 ^ s % 18446744073709551616 := ⟨_, rfl⟩
    have hVl : V < 18446744073709551616 := by rw [hV]; exact Nat.mod_lt _ (by omega)
    rw [← hY] at hn1 hn2 htop hpl
    rw [← hU, ← hV] at hsh htop
    rw [← hU, ← hW] at hor
    rw [← hW] at hpl
    have hUY : U < Y := lt_of_shl rfl htop
    obtain ⟨y1, hy1⟩ : ∃ a, a = Y / 4294967296 := ⟨_, rfl⟩
    obtain ⟨y0, hy0⟩ : ∃ a, a = Y % 4294967296 := ⟨_, rfl⟩
    obtain ⟨v1, hv1⟩ : ∃ a, a = V / 4294967296 := ⟨_, rfl⟩
    obtain ⟨v0, hv0⟩ : ∃ a, a = V % 4294967296 := ⟨_, rfl⟩
    have hYd : Y = y1 * 4294967296 + y0 := by omega
    have hVd : V = v1 * 4294967296 + v0 := by omega
    obtain ⟨Q1, hQ1⟩ : ∃ a, a = (U * 4294967296 + v1) / (y1 * 4294967296 + y0) := ⟨_, rfl⟩
    have F1 : KF U y1 y0 v1 Q1 := ⟨by omega, by omega, by omega, by omega, by omega, hQ1⟩
    obtain ⟨l1, l2⟩ := k_left F1
    obtain ⟨R1, hR1⟩ : ∃ a, a = (U * 4294967296 + v1) % (y1 * 4294967296 + y0) := ⟨_, rfl⟩
    rw [← hR1] at l1 l2
    obtain ⟨Q0, hQ0⟩ : ∃ a, a = (R1 * 4294967296 + v0) / (y1 * 4294967296 + y0) := ⟨_, rfl⟩
    have F0 : KF R1 y1 y0 v0 Q0 := ⟨by omega, by omega, by omega, l2, by omega, hQ0⟩
    obtain ⟨m1, m2⟩ := k_left F0
    obtain ⟨R0, hR0⟩ : ∃ a, a = (R1 * 4294967296 + v0) % (y1 * 4294967296 + y0) := ⟨_, rfl⟩
    rw [← hR0] at m1 m2
    rw [← hYd] at l1 l2 m1 m2
    obtain ⟨w1, w2⟩ := k_whole hY hsh hVd l1 m1 m2
    clear hQ1 hR1 hQ0 hR0
    have c1 := div_back U y1
    have c0 := div_back R1 y1
    have hc := div64_core hi lo y s Y y1 y0 W U V v1 v0 Q1 Q0 R1 R0 w (by omega) h1 hy hl hlz hs
      (by rw [cast_shl, ← hY]; exact wrapN Y hn2) (by omega) (by rw [maskN Y hn2, ← hy0])
      (by rw [cast_shl, ← hW]; exact wrapN W (by omega))
      (by rw [cast_shr, bits_or_u64_nat W _ (by omega) (Nat.lt_of_le_of_lt (Nat.div_le_self _ _) hl), hor])
      (by rw [cast_shl, wrapM, ← hV]) (by omega) (by rw [maskN V hVl, ← hv0])
      (by omega) (by omega) c1.1 c1.2 ⟨U, y1, y0, v1, Q1, rfl, rfl, rfl, rfl, rfl, F1⟩ (kii_first F1) (by omega) (by omega)
      (wrap_left _ _ _ _ (by rw [← Int.natCast_mul]; omega) (by omega) (by omega)) (by omega) c0.1 c0.2 ⟨R1, y1, y0, v0, Q0, rfl, rfl, rfl, rfl, rfl, F0⟩ (kii_first F0)
      (wrap_left _ _ _ _ (by rw [← Int.natCast_mul]; omega) (by omega) (by omega)) (by omega)
    refine hc.mono fun e w' ⟨he, hw⟩ => ?_
    subst hw
    refine ⟨he.trans (two_u _ _ _ _ ?_ ?_), Grown.refl _⟩
    · rw [← w1]; omega
    · rw [cast_shr, w2]
theorem rq_high (hi lo d : Int) (w : World) (h : d ≤ hi) :
    Calls Tryz.prog 153 #[.int .u64 hi, .int .u64 lo, .int .u64 d] w fun e w' => e = .returned (.tuple #[.int .u64 0, .int .i64 9]) ∧ Grown w w' := by
  go_enter Tryz.func153, Tryz.ntmps153
  go_wp2
  go_ret2
  exact ⟨rfl, Grown.refl _⟩
theorem rq_great (hi lo d q r : Int) (w : World) (h : hi < d) (hq : 9223372036854775808 < q)
    (hd : ∀ w, Calls Tryz.prog 173 #[.int .u64 hi, .int .u64 lo, .int .u64 d] w fun e w' => e = .returned (.tuple #[.int .u64 q, .int .u64 r]) ∧ Grown w w') :
    Calls Tryz.prog 153 #[.int .u64 hi, .int .u64 lo, .int .u64 d] w fun e w' => e = .returned (.tuple #[.int .u64 0, .int .i64 9]) ∧ Grown w w' := by
  go_enter Tryz.func153, Tryz.ntmps153
  go_wp2_with (go_at_call 173; refine (hd _).mono ?_; rintro e w' ⟨rfl, hg⟩)
  go_ret2
  exact ⟨rfl, hg⟩
theorem rq_down (hi lo d q r : Int) (w : World) (h : hi < d) (hq0 : 0 ≤ q) (hq : q ≤ 9223372036854775808) (hr : 0 ≤ r) (hr' : r < d) (hdd : d ≤ 18446744073709551615)
    (hc : 2 * r < d ∨ (2 * r = d ∧ q % 2 = 0))
    (hd : ∀ w, Calls Tryz.prog 173 #[.int .u64 hi, .int .u64 lo, .int .u64 d] w fun e w' => e = .returned (.tuple #[.int .u64 q, .int .u64 r]) ∧ Grown w w') :
    Calls Tryz.prog 153 #[.int .u64 hi, .int .u64 lo, .int .u64 d] w fun e w' => e = .returned (.tuple #[.int .u64 q, .int .i64 0]) ∧ Grown w w' := by
  have h1 : ¬ d - r < r := by omega
  by_cases h2 : r = d - r
  · have h3 : (q % 2 == 1) = false := by have : ¬ q % 2 = 1 := by omega
                                         simpa using this
    have h2' : (r == d - r) = true := by simpa using h2
    clear h2 hc
    go_enter Tryz.func153, Tryz.ntmps153
    go_wp2_with (go_at_call 173; refine (hd _).mono ?_; rintro e w' ⟨rfl, hg⟩)
    go_ret2
    exact ⟨rfl, hg⟩
  · have h2' : (r == d - r) = false := by simpa using h2
    clear h2 hc
    go_enter Tryz.func153, Tryz.ntmps153
    go_wp2_with (go_at_call 173; refine (hd _).mono ?_; rintro e w' ⟨rfl, hg⟩)
    go_ret2
    exact ⟨rfl, hg⟩
theorem rq_up (hi lo d q r : Int) (w : World) (h : hi < d) (hq0 : 0 ≤ q) (hq : q ≤ 9223372036854775808) (hr : 0 ≤ r) (hr' : r < d) (hdd : d ≤ 18446744073709551615)
    (hc : d < 2 * r ∨ (2 * r = d ∧ q % 2 = 1))
    (hd : ∀ w, Calls Tryz.prog 173 #[.int .u64 hi, .int .u64 lo, .int .u64 d] w fun e w' => e = .returned (.tuple #[.int .u64 q, .int .u64 r]) ∧ Grown w w') :
    Calls Tryz.prog 153 #[.int .u64 hi, .int .u64 lo, .int .u64 d] w fun e w' => e = .returned (.tuple #[.int .u64 (q + 1), .int .i64 0]) ∧ Grown w w' := by
  by_cases h1 : d - r < r
  · clear hc
    go_enter Tryz.func153, Tryz.ntmps153
    go_wp2_with (go_at_call 173; refine (hd _).mono ?_; rintro e w' ⟨rfl, hg⟩)
    go_ret2
    exact ⟨rfl, hg⟩
  · have h2' : (r == d - r) = true := by have : r = d - r := by omega
                                         simpa using this
    have h3 : (q % 2 == 1) = true := by have : q % 2 = 1 := by omega
                                        simpa using this
    clear hc
    go_enter Tryz.func153, Tryz.ntmps153
    go_wp2_with (go_at_call 173; refine (hd _).mono ?_; rintro e w' ⟨rfl, hg⟩)
    go_ret2
    exact ⟨rfl, hg⟩
def rnd (N d : Nat) : Nat := if d < 2 * (N % d) ∨ (2 * (N % d) = d ∧ N / d % 2 = 1) then N / d + 1 else N / d
theorem rq_any (hi lo d : Nat) (w : World) (hd0 : 0 < d) (hd : d < 18446744073709551616) (hl : lo < 18446744073709551616) (hq : (hi * 18446744073709551616 + lo) / d ≤ 9223372036854775808) :
    Calls Tryz.prog 153 #[.int .u64 hi, .int .u64 lo, .int .u64 d] w fun e w' => e = .returned (.tuple #[.int .u64 (rnd (hi * 18446744073709551616 + lo) d : Nat), .int .i64 0]) ∧ Grown w w' := by
  have hlt : hi < d := by
    rcases Nat.lt_or_ge hi d with h | h
    · exact h
    · have : 18446744073709551616 ≤ (hi * 18446744073709551616 + lo) / d := by
        rw [Nat.le_div_iff_mul_le hd0]
        have := Nat.mul_le_mul_left 18446744073709551616 h
        omega
      omega
  have hc := fun w => div64_any hi lo d w hlt hd hl
  have hr := Nat.mod_lt (hi * 18446744073709551616 + lo) hd0
  unfold rnd
  generalize (hi * 18446744073709551616 + lo) / d = q at *
  generalize (hi * 18446744073709551616 + lo) % d = r at *
  split
  · exact rq_up hi lo d q r w (by omega) (by omega) (by omega) (by omega) (by omega) (by omega) (by omega) hc
  · exact rq_down hi lo d q r w (by omega) (by omega) (by omega) (by omega) (by omega) (by omega) (by omega) hc
theorem rq_over (hi lo d : Nat) (w : World) (hd : d < 18446744073709551616) (hl : lo < 18446744073709551616) (hq : 9223372036854775808 < (hi * 18446744073709551616 + lo) / d) :
    Calls Tryz.prog 153 #[.int .u64 hi, .int .u64 lo, .int .u64 d] w fun e w' => e = .returned (.tuple #[.int .u64 0, .int .i64 9]) ∧ Grown w w' := by
  rcases Nat.lt_or_ge hi d with h | h
  · have hc := fun w => div64_any hi lo d w h hd hl
    exact rq_great hi lo d _ _ w (by omega) (by omega) hc
  · exact rq_high hi lo d w (by omega)
theorem Grown.trans {a b c : World} (h1 : Grown a b) (h2 : Grown b c) : Grown a c := ⟨World.keptBut_trans h1.1 h2.1, fun x => (h2.2.1 x).trans (h1.2.1 x), Nat.le_trans h1.2.2 h2.2.2⟩
theorem mul_walk_over (a b : Int) (H L : Int) (w : World) (ha : I64 a) (hb : I64 b) (hH : (H == 0) = false)
    (hm : ∀ w, Calls Tryz.prog 150 #[.int .u64 (a.natAbs : Int), .int .u64 (b.natAbs : Int)] w fun e w' => e = .returned (.tuple #[.int .u64 H, .int .u64 L]) ∧ w = w') :
    Calls Tryz.prog 119 #[.int .i64 a, .int .i64 b] w fun e w' => e = .returned (.tuple #[.int .i64 0, .int .i64 9]) ∧ Grown w w' := by
  go_enter Tryz.func119, Tryz.ntmps119
  go_wp2_with (first | (go_at_call 151; refine (mag_any _ _ (by assumption)).mono ?_; rintro e w' ⟨rfl, rfl⟩) | (go_at_call 150; refine (hm _).mono ?_; rintro e w' ⟨rfl, rfl⟩))
  go_ret2
  exact ⟨rfl, Grown.refl _⟩
theorem mul_walk (a b : Int) (L : Nat) (w : World) (ha : I64 a) (hb : I64 b) (hL : L < 18446744073709551616)
    (hm : ∀ w, Calls Tryz.prog 150 #[.int .u64 (a.natAbs : Int), .int .u64 (b.natAbs : Int)] w fun e w' => e = .returned (.tuple #[.int .u64 0, .int .u64 L]) ∧ w = w') :
    Calls Tryz.prog 119 #[.int .i64 a, .int .i64 b] w fun e w' => e = .returned (.tuple #[.int .i64 (fitV (sgn a b L)), .int .i64 (fitE (sgn a b L))]) ∧ Grown w w' := by
  go_enter Tryz.func119, Tryz.ntmps119
  go_wp2_with (first | (go_at_call 151; refine (mag_any _ _ (by assumption)).mono ?_; rintro e w' ⟨rfl, rfl⟩) | (go_at_call 150; refine (hm _).mono ?_; rintro e w' ⟨rfl, rfl⟩) | (go_at_call 152; go_in) | (go_at_call 172; refine (sig_any a b L _ _ _ hL (by go_simp) (by go_simp)).mono ?_; rintro e w' ⟨rfl, rfl⟩))
  go_ret2
  exact ⟨rfl, by repeat (first | exact Grown.refl _ | apply Grown.drew | apply Grown.alloc)⟩
theorem sgn_mul (a b : Int) : sgn a b (a.natAbs * b.natAbs) = a * b := by
  unfold sgn
  rw [Int.natCast_mul]
  by_cases ha : a < 0 <;> by_cases hb : b < 0
  · rw [if_pos (by simp [ha, hb]), show (a.natAbs : Int) = -a by omega, show (b.natAbs : Int) = -b by omega, Int.neg_mul_neg]
  · rw [if_neg (by simp [ha, hb]), show (a.natAbs : Int) = -a by omega, show (b.natAbs : Int) = b by omega, Int.neg_mul, Int.neg_neg]
  · rw [if_neg (by simp [ha, hb]), show (a.natAbs : Int) = a by omega, show (b.natAbs : Int) = -b by omega, Int.mul_neg, Int.neg_neg]
  · rw [if_pos (by simp [ha, hb]), show (a.natAbs : Int) = a by omega, show (b.natAbs : Int) = b by omega]
theorem sgn_div (a b : Int) : sgn a b (a.natAbs / b.natAbs) = a.tdiv b := by
  unfold sgn
  rw [Int.natCast_ediv]
  by_cases ha : a < 0 <;> by_cases hb : b < 0
  · rw [if_pos (by simp [ha, hb]), show (a.natAbs : Int) = -a by omega, show (b.natAbs : Int) = -b by omega, ← Int.tdiv_eq_ediv_of_nonneg (by omega), Int.neg_tdiv, Int.tdiv_neg, Int.neg_neg]
  · rw [if_neg (by simp [ha, hb]), show (a.natAbs : Int) = -a by omega, show (b.natAbs : Int) = b by omega, ← Int.tdiv_eq_ediv_of_nonneg (by omega), Int.neg_tdiv, Int.neg_neg]
  · rw [if_neg (by simp [ha, hb]), show (a.natAbs : Int) = a by omega, show (b.natAbs : Int) = -b by omega, ← Int.tdiv_eq_ediv_of_nonneg (by omega), Int.tdiv_neg, Int.neg_neg]
  · rw [if_pos (by simp [ha, hb]), show (a.natAbs : Int) = a by omega, show (b.natAbs : Int) = b by omega, ← Int.tdiv_eq_ediv_of_nonneg (by omega)]
theorem sgn_great (a b : Int) (n : Nat) (h : 9223372036854775808 < n) : ¬ I64 (sgn a b n) := by
  unfold sgn I64
  split <;> omega
theorem abs_lt {a : Int} (h : I64 a) : a.natAbs ≤ 9223372036854775808 := by unfold I64 at h; omega
theorem mul_any (a b : Int) (w : World) (ha : I64 a) (hb : I64 b) :
    Calls Tryz.prog 119 #[.int .i64 a, .int .i64 b] w fun e w' => e = .returned (.tuple #[.int .i64 (fitV (a * b)), .int .i64 (fitE (a * b))]) ∧ Grown w w' := by
  have ba := abs_lt ha
  have bb := abs_lt hb
  have hm := fun w => mul64_any a.natAbs b.natAbs (by omega) (by omega) w
  rw [← sgn_mul a b]
  generalize a.natAbs * b.natAbs = P at *
  by_cases h : P < 18446744073709551616
  · rw [Nat.div_eq_of_lt h, Nat.mod_eq_of_lt h] at hm
    exact mul_walk a b P w ha hb h hm
  · have hg := sgn_great a b P (by omega)
    rw [fitV_out hg, fitE_out hg]
    refine mul_walk_over a b _ _ w ha hb ?_ hm
    have : ¬ ((P / 18446744073709551616 : Nat) : Int) = 0 := by omega
    simpa using this
theorem scale_any (a : Int) (w : World) (ha : I64 a) :
    Calls Tryz.prog 171 #[.int .i64 a] w fun e w' => e = .returned (.tuple #[.int .i64 (fitV (a * 10000)), .int .i64 (fitE (a * 10000))]) ∧ Grown w w' := by
  have hm := fun w => mul_any a 10000 w ha ⟨by omega, by omega⟩
  go_enter Tryz.func171, Tryz.ntmps171
  go_wp2_with (go_at_call 119; refine (hm _).mono ?_; rintro e w' ⟨rfl, hg⟩)
  go_ret2
  exact ⟨rfl, hg⟩
theorem quo_zero (a : Int) (w : World) :
    Calls Tryz.prog 121 #[.int .i64 a, .int .i64 0] w fun e w' => e = .returned (.tuple #[.int .i64 0, .int .i64 10]) ∧ Grown w w' := by
  go_enter Tryz.func121, Tryz.ntmps121
  go_wp2
  go_ret2
  exact ⟨rfl, Grown.refl _⟩
theorem quo_walk (a b A B : Int) (Q : Nat) (w : World) (h0 : (b == 0) = false) (hA : 0 ≤ A) (hA' : A ≤ 9223372036854775808) (hB : 1 ≤ B) (hq : A / B = (Q : Int)) (hQ : Q < 18446744073709551616)
    (hma : ∀ w, Calls Tryz.prog 151 #[.int .i64 a] w fun e w' => e = .returned (.int .u64 A) ∧ w = w')
    (hmb : ∀ w, Calls Tryz.prog 151 #[.int .i64 b] w fun e w' => e = .returned (.int .u64 B) ∧ w = w') :
    Calls Tryz.prog 121 #[.int .i64 a, .int .i64 b] w fun e w' => e = .returned (.tuple #[.int .i64 (fitV (sgn a b Q)), .int .i64 (fitE (sgn a b Q))]) ∧ Grown w w' := by
  go_enter Tryz.func121, Tryz.ntmps121
  go_wp2_with (first | (go_at_call 151; first | ((with_reducible refine (hma _).mono ?_); rintro e w' ⟨rfl, rfl⟩) | ((with_reducible refine (hmb _).mono ?_); rintro e w' ⟨rfl, rfl⟩)) | (go_at_call 152; go_in) | (go_at_call 172; rw [hq]; refine (sig_any a b Q _ _ _ hQ (by go_simp) (by go_simp)).mono ?_; rintro e w' ⟨rfl, rfl⟩))
  go_ret2
  exact ⟨rfl, by repeat (first | exact Grown.refl _ | apply Grown.drew | apply Grown.alloc)⟩
theorem quo_any (a b : Int) (w : World) (ha : I64 a) (hb : I64 b) (h0 : ¬ b = 0) :
    Calls Tryz.prog 121 #[.int .i64 a, .int .i64 b] w fun e w' => e = .returned (.tuple #[.int .i64 (fitV (a.tdiv b)), .int .i64 (fitE (a.tdiv b))]) ∧ Grown w w' := by
  have ba := abs_lt ha
  rw [← sgn_div a b]
  refine quo_walk a b a.natAbs b.natAbs (a.natAbs / b.natAbs) w (eq0_false h0) (by omega) (by omega) (by omega) (Int.natCast_ediv _ _).symm ?_ (fun w => mag_any a w ha) (fun w => mag_any b w hb)
  have := Nat.div_le_self a.natAbs b.natAbs
  omega
theorem muldec_walk_over (a b : Int) (H L : Int) (w : World) (ha : I64 a) (hb : I64 b)
    (hm : ∀ w, Calls Tryz.prog 150 #[.int .u64 (a.natAbs : Int), .int .u64 (b.natAbs : Int)] w fun e w' => e = .returned (.tuple #[.int .u64 H, .int .u64 L]) ∧ w = w')
    (hr : ∀ w, Calls Tryz.prog 153 #[.int .u64 H, .int .u64 L, .int .u64 10000] w fun e w' => e = .returned (.tuple #[.int .u64 0, .int .i64 9]) ∧ Grown w w') :
    Calls Tryz.prog 120 #[.int .i64 a, .int .i64 b] w fun e w' => e = .returned (.tuple #[.int .i64 0, .int .i64 9]) ∧ Grown w w' := by
  go_enter Tryz.func120, Tryz.ntmps120
  go_wp2_with (first | (go_at_call 151; ((with_reducible refine (mag_any _ _ ?_).mono ?_); first | exact ha | exact hb); rintro e w' ⟨rfl, rfl⟩) | (go_at_call 150; (with_reducible refine (hm _).mono ?_); rintro e w' ⟨rfl, rfl⟩) | (go_at_call 153; (with_reducible refine (hr _).mono ?_); rintro e w' ⟨rfl, hg⟩))
  go_ret2
  exact ⟨rfl, hg⟩
theorem muldec_walk (a b : Int) (H L : Int) (Q : Nat) (w : World) (ha : I64 a) (hb : I64 b) (hQ : Q < 18446744073709551616)
    (hm : ∀ w, Calls Tryz.prog 150 #[.int .u64 (a.natAbs : Int), .int .u64 (b.natAbs : Int)] w fun e w' => e = .returned (.tuple #[.int .u64 H, .int .u64 L]) ∧ w = w')
    (hr : ∀ w, Calls Tryz.prog 153 #[.int .u64 H, .int .u64 L, .int .u64 10000] w fun e w' => e = .returned (.tuple #[.int .u64 Q, .int .i64 0]) ∧ Grown w w') :
    Calls Tryz.prog 120 #[.int .i64 a, .int .i64 b] w fun e w' => e = .returned (.tuple #[.int .i64 (fitV (sgn a b Q)), .int .i64 (fitE (sgn a b Q))]) ∧ Grown w w' := by
  go_enter Tryz.func120, Tryz.ntmps120
  go_wp2_with (first | (go_at_call 151; ((with_reducible refine (mag_any _ _ ?_).mono ?_); first | exact ha | exact hb); rintro e w' ⟨rfl, rfl⟩) | (go_at_call 150; (with_reducible refine (hm _).mono ?_); rintro e w' ⟨rfl, rfl⟩) | (go_at_call 153; (with_reducible refine (hr _).mono ?_); rintro e w' ⟨rfl, hg⟩) | (go_at_call 152; go_in) | (go_at_call 172; refine (sig_any a b Q _ _ _ hQ (by go_simp) (by go_simp)).mono ?_; rintro e w' ⟨rfl, rfl⟩))
  go_ret2
  exact ⟨rfl, Grown.alloc (Grown.alloc hg _ _) _ _⟩
theorem divdec_zero (a : Int) (w : World) :
    Calls Tryz.prog 122 #[.int .i64 a, .int .i64 0] w fun e w' => e = .returned (.tuple #[.int .i64 0, .int .i64 10]) ∧ Grown w w' := by
  go_enter Tryz.func122, Tryz.ntmps122
  go_wp2
  go_ret2
  exact ⟨rfl, Grown.refl _⟩
theorem divdec_walk_over (a b : Int) (A B H L : Int) (w : World) (h0 : (b == 0) = false)
    (hma : ∀ w, Calls Tryz.prog 151 #[.int .i64 a] w fun e w' => e = .returned (.int .u64 A) ∧ w = w')
    (hmb : ∀ w, Calls Tryz.prog 151 #[.int .i64 b] w fun e w' => e = .returned (.int .u64 B) ∧ w = w')
    (hm : ∀ w, Calls Tryz.prog 150 #[.int .u64 A, .int .u64 10000] w fun e w' => e = .returned (.tuple #[.int .u64 H, .int .u64 L]) ∧ w = w')
    (hr : ∀ w, Calls Tryz.prog 153 #[.int .u64 H, .int .u64 L, .int .u64 B] w fun e w' => e = .returned (.tuple #[.int .u64 0, .int .i64 9]) ∧ Grown w w') :
    Calls Tryz.prog 122 #[.int .i64 a, .int .i64 b] w fun e w' => e = .returned (.tuple #[.int .i64 0, .int .i64 9]) ∧ Grown w w' := by
  go_enter Tryz.func122, Tryz.ntmps122
  go_wp2_with (first | (go_at_call 151; first | ((with_reducible refine (hma _).mono ?_); rintro e w' ⟨rfl, rfl⟩) | ((with_reducible refine (hmb _).mono ?_); rintro e w' ⟨rfl, rfl⟩)) | (go_at_call 150; (with_reducible refine (hm _).mono ?_); rintro e w' ⟨rfl, rfl⟩) | (go_at_call 153; (with_reducible refine (hr _).mono ?_); rintro e w' ⟨rfl, hg⟩))
  go_ret2
  exact ⟨rfl, hg⟩
theorem divdec_walk (a b : Int) (A B H L : Int) (Q : Nat) (w : World) (h0 : (b == 0) = false) (hQ : Q < 18446744073709551616)
    (hma : ∀ w, Calls Tryz.prog 151 #[.int .i64 a] w fun e w' => e = .returned (.int .u64 A) ∧ w = w')
    (hmb : ∀ w, Calls Tryz.prog 151 #[.int .i64 b] w fun e w' => e = .returned (.int .u64 B) ∧ w = w')
    (hm : ∀ w, Calls Tryz.prog 150 #[.int .u64 A, .int .u64 10000] w fun e w' => e = .returned (.tuple #[.int .u64 H, .int .u64 L]) ∧ w = w')
    (hr : ∀ w, Calls Tryz.prog 153 #[.int .u64 H, .int .u64 L, .int .u64 B] w fun e w' => e = .returned (.tuple #[.int .u64 Q, .int .i64 0]) ∧ Grown w w') :
    Calls Tryz.prog 122 #[.int .i64 a, .int .i64 b] w fun e w' => e = .returned (.tuple #[.int .i64 (fitV (sgn a b Q)), .int .i64 (fitE (sgn a b Q))]) ∧ Grown w w' := by
  go_enter Tryz.func122, Tryz.ntmps122
  go_wp2_with (first | (go_at_call 151; first | ((with_reducible refine (hma _).mono ?_); rintro e w' ⟨rfl, rfl⟩) | ((with_reducible refine (hmb _).mono ?_); rintro e w' ⟨rfl, rfl⟩)) | (go_at_call 150; (with_reducible refine (hm _).mono ?_); rintro e w' ⟨rfl, rfl⟩) | (go_at_call 153; (with_reducible refine (hr _).mono ?_); rintro e w' ⟨rfl, hg⟩) | (go_at_call 152; go_in) | (go_at_call 172; refine (sig_any a b Q _ _ _ hQ (by go_simp) (by go_simp)).mono ?_; rintro e w' ⟨rfl, rfl⟩))
  go_ret2
  exact ⟨rfl, Grown.alloc (Grown.alloc hg _ _) _ _⟩
theorem rnd_ge (N d : Nat) : N / d ≤ rnd N d := by unfold rnd; split <;> omega
theorem rnd_le (N d : Nat) : rnd N d ≤ N / d + 1 := by unfold rnd; split <;> omega
theorem two_words (N : Nat) : N / 18446744073709551616 * 18446744073709551616 + N % 18446744073709551616 = N := Nat.div_add_mod' N 18446744073709551616
theorem muldec_any (a b : Int) (w : World) (ha : I64 a) (hb : I64 b) :
    Calls Tryz.prog 120 #[.int .i64 a, .int .i64 b] w fun e w' => e = .returned (.tuple #[.int .i64 (fitV (sgn a b (rnd (a.natAbs * b.natAbs) 10000))), .int .i64 (fitE (sgn a b (rnd (a.natAbs * b.natAbs) 10000)))]) ∧ Grown w w' := by
  have ba := abs_lt ha
  have bb := abs_lt hb
  have hm := fun w => mul64_any a.natAbs b.natAbs (by omega) (by omega) w
  generalize a.natAbs * b.natAbs = P at *
  have hP := two_words P
  have hl : P % 18446744073709551616 < 18446744073709551616 := Nat.mod_lt _ (by omega)
  by_cases h : P / 10000 ≤ 9223372036854775808
  · have hr := fun w => rq_any (P / 18446744073709551616) (P % 18446744073709551616) 10000 w (by omega) (by omega) hl (by rw [hP]; exact h)
    rw [hP] at hr
    have hle := rnd_le P 10000
    exact muldec_walk a b _ _ _ w ha hb (by omega) hm hr
  · have hr := fun w => rq_over (P / 18446744073709551616) (P % 18446744073709551616) 10000 w (by omega) hl (by rw [hP]; omega)
    have hge := rnd_ge P 10000
    have hg := sgn_great a b (rnd P 10000) (by omega)
    rw [fitV_out hg, fitE_out hg]
    exact muldec_walk_over a b _ _ w ha hb hm hr
theorem divdec_any (a b : Int) (w : World) (ha : I64 a) (hb : I64 b) (h0 : ¬ b = 0) :
    Calls Tryz.prog 122 #[.int .i64 a, .int .i64 b] w fun e w' => e = .returned (.tuple #[.int .i64 (fitV (sgn a b (rnd (a.natAbs * 10000) b.natAbs))), .int .i64 (fitE (sgn a b (rnd (a.natAbs * 10000) b.natAbs)))]) ∧ Grown w w' := by
  have ba := abs_lt ha
  have bb := abs_lt hb
  have hm := fun w => mul64_any a.natAbs 10000 (by omega) (by omega) w
  have hP := two_words (a.natAbs * 10000)
  have hl : a.natAbs * 10000 % 18446744073709551616 < 18446744073709551616 := Nat.mod_lt _ (by omega)
  by_cases h : a.natAbs * 10000 / b.natAbs ≤ 9223372036854775808
  · have hr := fun w => rq_any (a.natAbs * 10000 / 18446744073709551616) (a.natAbs * 10000 % 18446744073709551616) b.natAbs w (by omega) (by omega) hl (by rw [hP]; exact h)
    rw [hP] at hr
    have hle := rnd_le (a.natAbs * 10000) b.natAbs
    exact divdec_walk a b _ _ _ _ _ w (eq0_false h0) (by omega) (fun w => mag_any a w ha) (fun w => mag_any b w hb) hm hr
  · have hr := fun w => rq_over (a.natAbs * 10000 / 18446744073709551616) (a.natAbs * 10000 % 18446744073709551616) b.natAbs w (by omega) hl (by rw [hP]; omega)
    have hge := rnd_ge (a.natAbs * 10000) b.natAbs
    have hg := sgn_great a b (rnd (a.natAbs * 10000) b.natAbs) (by omega)
    rw [fitV_out hg, fitE_out hg]
    exact divdec_walk_over a b _ _ _ _ w (eq0_false h0) (fun w => mag_any a w ha) (fun w => mag_any b w hb) hm hr
end Go.Proofs.YtmkmafkkpigfpaaGreatDoor.V
