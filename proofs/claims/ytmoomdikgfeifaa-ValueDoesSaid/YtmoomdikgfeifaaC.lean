/- Contract of math/bits.Div64: the quotient of two words by one, and what is left. -/
import Derived.Test.YtmoomdikgfeifaaB
import Derived.Test.YtmoomdikgfeifaaM
namespace Go.Proofs.Ytmoomdikgfeifaa
set_option linter.unusedVariables false
open Go.ChangeShapes Go.WideShapes Go.ChangeAt Go.RowKit Go.Lib

theorem Grown.drewN {W w : World} (h : Grown W w) (n : Nat) : Grown W (w.drewN n) := h
theorem two_u (a b c d : Int) (h1 : a = c) (h2 : b = d) : Ending.returned (.tuple #[.int .u64 a, .int .u64 b]) = .returned (.tuple #[.int .u64 c, .int .u64 d]) := by rw [h1, h2]

theorem div64_low (lo y : Nat) (w : World) (h0 : 0 < y) (hl : lo < 18446744073709551616) :
    Calls Try.prog 77 #[.int .u64 (0 : Nat), .int .u64 lo, .int .u64 y] w fun e w' => e = .returned (.tuple #[.int .u64 ((lo / y : Nat) : Int), .int .u64 ((lo % y : Nat) : Int)]) ∧ Grown w w' := by
  go_enter Try.func77, Try.ntmps77
  go_wp2
  go_quiet (fail)
  go_wp2
  go_ret2
  refine ⟨two_u _ _ _ _ ?_ rfl, Grown.drewN (Grown.refl _) _⟩
  exact wrapN (lo / y) (Nat.lt_of_le_of_lt (Nat.div_le_self lo y) hl)

set_option maxHeartbeats 1000000 in
set_option maxRecDepth 100000 in
theorem div64_core (hi lo y s : Nat) (Y y1 y0 W U V v1 v0 Q1 Q0 R1 R0 : Int) (w : World) (h0 : 0 < hi) (h1 : hi < y) (hy : y < 18446744073709551616) (hl : lo < 18446744073709551616)
    (hlz : ∀ w, Calls Try.prog 78 #[.int .u64 y] w fun e w' => e = .returned (.int .i64 (s : Nat)) ∧ w = w') (hs : s ≤ 63)
    (hY : IntKind.u64.wrap ((y : Int) * 2 ^ s) = Y) (hY1 : Y / 4294967296 = y1) (hY0 : bits .and .u64 Y 4294967295 = y0)
    (hW : IntKind.u64.wrap ((hi : Int) * 2 ^ s) = W) (hU : bits .or .u64 W ((lo : Int) / 2 ^ (64 - s)) = U)
    (hV : IntKind.u64.wrap ((lo : Int) * 2 ^ s) = V) (hV1 : V / 4294967296 = v1) (hV0 : bits .and .u64 V 4294967295 = v0)
    (bU : 0 ≤ U) (bU' : U ≤ 18446744073709551615) (bq : U / y1 * y1 ≤ U) (bq0 : 0 ≤ U / y1 * y1)
    (F1 : KFi U y1 y0 v1 Q1) (I1 : KIi U y1 Q1 (U / y1) (U - U / y1 * y1)) (bY : 0 ≤ Y) (bV : 0 ≤ V)
    (hR1 : IntKind.u64.wrap (IntKind.u64.wrap (IntKind.u64.wrap (U * 4294967296) + v1) - IntKind.u64.wrap (Q1 * Y)) = R1) (bR1 : R1 ≤ 18446744073709551615) (bR : R1 / y1 * y1 ≤ R1) (bR' : 0 ≤ R1 / y1 * y1)
    (F0 : KFi R1 y1 y0 v0 Q0) (I0 : KIi R1 y1 Q0 (R1 / y1) (R1 - R1 / y1 * y1))
    (hR0 : IntKind.u64.wrap (IntKind.u64.wrap (IntKind.u64.wrap (R1 * 4294967296) + v0) - IntKind.u64.wrap (Q0 * Y)) = R0) (bR0 : 0 ≤ R0) :
    Calls Try.prog 77 #[.int .u64 hi, .int .u64 lo, .int .u64 y] w fun e w' => e = .returned (.tuple #[.int .u64 (Q1 * 4294967296 + Q0), .int .u64 (R0 / 2 ^ s)]) ∧ w = w' := by
  obtain ⟨⟨by0, by0'⟩, ⟨by1, by1'⟩, ⟨bv1, bv1'⟩, ⟨bQ1, bQ1'⟩, _⟩ := kfi_b F1
  obtain ⟨_, _, ⟨bv0, bv0'⟩, ⟨bQ0, bQ0'⟩, bR1'⟩ := kfi_b F0
  obtain ⟨⟨bbs, bbs'⟩, bbt, bbt'⟩ := kii_b I0
  obtain ⟨⟨bbq, bbq'⟩, bbr, bbr'⟩ := kii_b I1
  go_enter Try.func77, Try.ntmps77
  go_wp2_with (go_at_call 78; refine (hlz _).mono ?_; rintro e w' ⟨rfl, rfl⟩)
  clear hY hY1 hY0 hW hU hV hV1 hV0 hlz bq bq0
  go_loop [15, 16] (fun a b => ∃ q r : Int, KIi U y1 Q1 q r ∧ a = .int .u64 q ∧ b = .int .u64 r) (fun a _ => (RowKit.intOf a).toNat)
  case atStart => exact ⟨_, _, I1, rfl, rfl⟩
  case round =>
    clear I1 bbq' bbq bbr bbr'
    obtain ⟨q, r, I, rfl, rfl⟩ := hrel
    obtain ⟨⟨bbq, bbq'⟩, bbr, bbr'⟩ := kii_b I
    by_cases hA1 : 4294967296 ≤ q
    · obtain ⟨hm, hn, hk⟩ := kiNext F1 I (Or.inl hA1)
      by_cases hb : r + y1 < 4294967296
      · have HI := Lib.hid (hn hb)
        clear hn hk
        go_wp2
        go_round
        case rel => exact ⟨q - 1, r + y1, HI.out, rfl, rfl⟩
        case measure => simp [RowKit.intOf]; omega
      · have hk' := hk (by omega)
        clear hn hk
        obtain rfl : q = Q1 + 1 := hk'
        go_wp2
        go_loop [18, 16] (fun a b => ∃ q r : Int, KIi R1 y1 Q0 q r ∧ a = .int .u64 q ∧ b = .int .u64 r) (fun a _ => (RowKit.intOf a).toNat)
        case atStart => exact ⟨_, _, I0, rfl, rfl⟩
        case round =>
          clear I
          clear I0 bbs bbs' bbt bbt' bbq bbq' bbr bbr' bR bR' bU bU'
          obtain ⟨q, r, I, rfl, rfl⟩ := hrel
          obtain ⟨⟨bbq, bbq'⟩, bbr, bbr'⟩ := kii_b I
          by_cases hA1 : 4294967296 ≤ q
          · obtain ⟨hm, hn, hk⟩ := kiNext F0 I (Or.inl hA1)
            by_cases hb : r + y1 < 4294967296
            · have HI := Lib.hid (hn hb)
              clear hn hk
              go_wp2
              go_round
              case rel => exact ⟨q - 1, r + y1, HI.out, rfl, rfl⟩
              case measure => simp [RowKit.intOf]; omega
            · have hk' := hk (by omega)
              clear hn hk
              obtain rfl : q = Q0 + 1 := hk'
              go_wp2
              go_ret2
              exact ⟨rfl, rfl⟩
          · obtain ⟨p0, p1⟩ := kiProd bbq (by omega) by0 by0'
            by_cases hA2 : 4294967296 * r + v0 < q * y0
            · obtain ⟨hm, hn, hk⟩ := kiNext F0 I (Or.inr hA2)
              by_cases hb : r + y1 < 4294967296
              · have HI := Lib.hid (hn hb)
                clear hn hk
                go_wp2
                go_round
                case rel => exact ⟨q - 1, r + y1, HI.out, rfl, rfl⟩
                case measure => simp [RowKit.intOf]; omega
              · have hk' := hk (by omega)
                clear hn hk
                obtain rfl : q = Q0 + 1 := hk'
                go_wp2
                go_ret2
                exact ⟨rfl, rfl⟩
            · obtain rfl : Q0 = q := (kiStop F0 I (by omega)).symm
              go_wp2
              go_ret2
              exact ⟨rfl, rfl⟩
    · obtain ⟨p0, p1⟩ := kiProd bbq (by omega) by0 by0'
      by_cases hA2 : 4294967296 * r + v1 < q * y0
      · obtain ⟨hm, hn, hk⟩ := kiNext F1 I (Or.inr hA2)
        by_cases hb : r + y1 < 4294967296
        · have HI := Lib.hid (hn hb)
          clear hn hk
          go_wp2
          go_round
          case rel => exact ⟨q - 1, r + y1, HI.out, rfl, rfl⟩
          case measure => simp [RowKit.intOf]; omega
        · have hk' := hk (by omega)
          clear hn hk
          obtain rfl : q = Q1 + 1 := hk'
          go_wp2
          go_loop [18, 16] (fun a b => ∃ q r : Int, KIi R1 y1 Q0 q r ∧ a = .int .u64 q ∧ b = .int .u64 r) (fun a _ => (RowKit.intOf a).toNat)
          case atStart => exact ⟨_, _, I0, rfl, rfl⟩
          case round =>
            clear I
            clear I0 bbs bbs' bbt bbt' bbq bbq' bbr bbr' bR bR' bU bU'
            obtain ⟨q, r, I, rfl, rfl⟩ := hrel
            obtain ⟨⟨bbq, bbq'⟩, bbr, bbr'⟩ := kii_b I
            by_cases hA1 : 4294967296 ≤ q
            · obtain ⟨hm, hn, hk⟩ := kiNext F0 I (Or.inl hA1)
              by_cases hb : r + y1 < 4294967296
              · have HI := Lib.hid (hn hb)
                clear hn hk
                go_wp2
                go_round
                case rel => exact ⟨q - 1, r + y1, HI.out, rfl, rfl⟩
                case measure => simp [RowKit.intOf]; omega
              · have hk' := hk (by omega)
                clear hn hk
                obtain rfl : q = Q0 + 1 := hk'
                go_wp2
                go_ret2
                exact ⟨rfl, rfl⟩
            · obtain ⟨p0, p1⟩ := kiProd bbq (by omega) by0 by0'
              by_cases hA2 : 4294967296 * r + v0 < q * y0
              · obtain ⟨hm, hn, hk⟩ := kiNext F0 I (Or.inr hA2)
                by_cases hb : r + y1 < 4294967296
                · have HI := Lib.hid (hn hb)
                  clear hn hk
                  go_wp2
                  go_round
                  case rel => exact ⟨q - 1, r + y1, HI.out, rfl, rfl⟩
                  case measure => simp [RowKit.intOf]; omega
                · have hk' := hk (by omega)
                  clear hn hk
                  obtain rfl : q = Q0 + 1 := hk'
                  go_wp2
                  go_ret2
                  exact ⟨rfl, rfl⟩
              · obtain rfl : Q0 = q := (kiStop F0 I (by omega)).symm
                go_wp2
                go_ret2
                exact ⟨rfl, rfl⟩
      · obtain rfl : Q1 = q := (kiStop F1 I (by omega)).symm
        go_wp2
        go_loop [18, 16] (fun a b => ∃ q r : Int, KIi R1 y1 Q0 q r ∧ a = .int .u64 q ∧ b = .int .u64 r) (fun a _ => (RowKit.intOf a).toNat)
        case atStart => exact ⟨_, _, I0, rfl, rfl⟩
        case round =>
          clear I
          clear I0 bbs bbs' bbt bbt' bbq bbq' bbr bbr' bR bR' bU bU'
          obtain ⟨q, r, I, rfl, rfl⟩ := hrel
          obtain ⟨⟨bbq, bbq'⟩, bbr, bbr'⟩ := kii_b I
          by_cases hA1 : 4294967296 ≤ q
          · obtain ⟨hm, hn, hk⟩ := kiNext F0 I (Or.inl hA1)
            by_cases hb : r + y1 < 4294967296
            · have HI := Lib.hid (hn hb)
              clear hn hk
              go_wp2
              go_round
              case rel => exact ⟨q - 1, r + y1, HI.out, rfl, rfl⟩
              case measure => simp [RowKit.intOf]; omega
            · have hk' := hk (by omega)
              clear hn hk
              obtain rfl : q = Q0 + 1 := hk'
              go_wp2
              go_ret2
              exact ⟨rfl, rfl⟩
          · obtain ⟨p0, p1⟩ := kiProd bbq (by omega) by0 by0'
            by_cases hA2 : 4294967296 * r + v0 < q * y0
            · obtain ⟨hm, hn, hk⟩ := kiNext F0 I (Or.inr hA2)
              by_cases hb : r + y1 < 4294967296
              · have HI := Lib.hid (hn hb)
                clear hn hk
                go_wp2
                go_round
                case rel => exact ⟨q - 1, r + y1, HI.out, rfl, rfl⟩
                case measure => simp [RowKit.intOf]; omega
              · have hk' := hk (by omega)
                clear hn hk
                obtain rfl : q = Q0 + 1 := hk'
                go_wp2
                go_ret2
                exact ⟨rfl, rfl⟩
            · obtain rfl : Q0 = q := (kiStop F0 I (by omega)).symm
              go_wp2
              go_ret2
              exact ⟨rfl, rfl⟩

end Go.Proofs.Ytmoomdikgfeifaa
