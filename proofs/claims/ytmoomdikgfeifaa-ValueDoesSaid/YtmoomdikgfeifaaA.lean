/- Contracts of the plain functions of layer num: sums, differences, remainders, magnitudes, signs. -/
import Derived.Test.YtmoomdikgfeifaaRows
import Derived.WalkKit
import Derived.ProofKit
import Derived.OpenShut
import Derived.Outline
import Derived.Lib.Hide
namespace Go.Proofs.Ytmoomdikgfeifaa
open Go.ChangeShapes Go.WideShapes Go.ChangeAt Go.RowKit

/-- The number, if it is an int64, else 0. -/
def fitV (n : Int) : Int := if -9223372036854775808 ≤ n ∧ n ≤ 9223372036854775807 then n else 0
/-- Its error: 0, or ErrOver. -/
def fitE (n : Int) : Int := if -9223372036854775808 ≤ n ∧ n ≤ 9223372036854775807 then 0 else 9
/-- Is it an int64? -/
def I64 (n : Int) : Prop := -9223372036854775808 ≤ n ∧ n ≤ 9223372036854775807
theorem fitV_in {n : Int} (h : I64 n) : fitV n = n := by unfold fitV; exact if_pos h
theorem fitE_in {n : Int} (h : I64 n) : fitE n = 0 := by unfold fitE; exact if_pos h
theorem fitV_out {n : Int} (h : ¬ I64 n) : fitV n = 0 := by unfold fitV; exact if_neg h
theorem fitE_out {n : Int} (h : ¬ I64 n) : fitE n = 9 := by unfold fitE; exact if_neg h
theorem two (a b c d : Int) (h1 : a = c) (h2 : b = d) : Ending.returned (.tuple #[.int .i64 a, .int .i64 b]) = .returned (.tuple #[.int .i64 c, .int .i64 d]) := by rw [h1, h2]
theorem wf_i64 {n : Int} (h : (Lit.int .i64 n).wf = true) : I64 n := by
  have := bounds_i64 h; exact this

theorem sum_no (a b : Int) (ha : I64 a) (hb : I64 b) (h : (!decide (wrap64 (a + b) < a) == decide (b < 0)) = true) : ¬ I64 (a + b) := by
  unfold I64 at *; unfold wrap64 at h
  rw [Bool.not_eq_true'] at h
  by_cases h1 : (a + b + 9223372036854775808) % 18446744073709551616 - 9223372036854775808 < a <;> by_cases h2 : b < 0 <;> simp [h1, h2] at h <;> omega
theorem sum_yes (a b : Int) (ha : I64 a) (hb : I64 b) (h : (!decide (wrap64 (a + b) < a) == decide (b < 0)) = false) : I64 (a + b) ∧ wrap64 (a + b) = a + b := by
  unfold I64 at *; unfold wrap64 at *
  rw [Bool.not_eq_false'] at h
  by_cases h1 : (a + b + 9223372036854775808) % 18446744073709551616 - 9223372036854775808 < a <;> by_cases h2 : b < 0 <;> simp [h1, h2] at h <;> omega

theorem add_any (a b : Int) (w : World) (ha : I64 a) (hb : I64 b) :
    Calls Try.prog 37 #[.int .i64 a, .int .i64 b] w fun e w' => e = .returned (.tuple #[.int .i64 (fitV (a + b)), .int .i64 (fitE (a + b))]) ∧ w = w' := by
  go_enter Try.func37, Try.ntmps37
  go_wp2
  · have h := sum_no a b ha hb ‹_›
    go_ret2
    exact ⟨two _ _ _ _ (fitV_out h).symm (fitE_out h).symm, rfl⟩
  · obtain ⟨h, h'⟩ := sum_yes a b ha hb ‹_›
    go_ret2
    exact ⟨two _ _ _ _ (h'.trans (fitV_in h).symm) (fitE_in h).symm, rfl⟩

theorem dif_no (a b : Int) (ha : I64 a) (hb : I64 b) (h : (!decide (a < wrap64 (a - b)) == decide (b < 0)) = true) : ¬ I64 (a - b) := by
  unfold I64 at *; unfold wrap64 at h
  rw [Bool.not_eq_true'] at h
  by_cases h1 : a < (a - b + 9223372036854775808) % 18446744073709551616 - 9223372036854775808 <;> by_cases h2 : b < 0 <;> simp [h1, h2] at h <;> omega
theorem dif_yes (a b : Int) (ha : I64 a) (hb : I64 b) (h : (!decide (a < wrap64 (a - b)) == decide (b < 0)) = false) : I64 (a - b) ∧ wrap64 (a - b) = a - b := by
  unfold I64 at *; unfold wrap64 at *
  rw [Bool.not_eq_false'] at h
  by_cases h1 : a < (a - b + 9223372036854775808) % 18446744073709551616 - 9223372036854775808 <;> by_cases h2 : b < 0 <;> simp [h1, h2] at h <;> omega

theorem sub_any (a b : Int) (w : World) (ha : I64 a) (hb : I64 b) :
    Calls Try.prog 48 #[.int .i64 a, .int .i64 b] w fun e w' => e = .returned (.tuple #[.int .i64 (fitV (a - b)), .int .i64 (fitE (a - b))]) ∧ w = w' := by
  go_enter Try.func48, Try.ntmps48
  go_wp2
  · have h := dif_no a b ha hb ‹_›
    go_ret2
    exact ⟨two _ _ _ _ (fitV_out h).symm (fitE_out h).symm, rfl⟩
  · obtain ⟨h, h'⟩ := dif_yes a b ha hb ‹_›
    go_ret2
    exact ⟨two _ _ _ _ (h'.trans (fitV_in h).symm) (fitE_in h).symm, rfl⟩

theorem mag_any (a : Int) (w : World) (ha : I64 a) :
    Calls Try.prog 72 #[.int .i64 a] w fun e w' => e = .returned (.int .u64 (a.natAbs : Int)) ∧ w = w' := by
  unfold I64 at ha
  by_cases h : a < 0
  · go_enter Try.func72, Try.ntmps72
    go_wp2
    go_ret
    refine ⟨congrArg Ending.returned (congrArg (Value.int IntKind.u64) ?_), rfl⟩
    rw [IntKind.wrap_u64, IntKind.wrap_u64]; omega
  · go_enter Try.func72, Try.ntmps72
    go_wp2
    go_ret
    refine ⟨congrArg Ending.returned (congrArg (Value.int IntKind.u64) ?_), rfl⟩
    omega

/-- A magnitude with the sign that a product or a quotient of a and b has. -/
def sgn (a b : Int) (n : Nat) : Int := if a < 0 ↔ b < 0 then n else -n

theorem sgn_same {a b : Int} (n : Nat) (h : (a < 0 ↔ b < 0)) : sgn a b n = n := if_pos h
theorem sgn_other {a b : Int} (n : Nat) (h : ¬ (a < 0 ↔ b < 0)) : sgn a b n = -n := if_neg h
theorem neg_wrap (n : Nat) (h : (n : Int) ≤ 9223372036854775808) : wrap64 (IntKind.u64.wrap (-(n : Int))) = -n := by
  rw [IntKind.wrap_u64]; unfold wrap64; omega

theorem sig_any (a b : Int) (n : Nat) (w : World) (p q : Addr) (hn : n < 18446744073709551616) (hp : w.cell? p = some (.int .i64 a)) (hq : w.cell? q = some (.int .i64 b)) :
    Calls Try.prog 76 #[.int .u64 n, .pointer (some p), .pointer (some q)] w fun e w' => e = .returned (.tuple #[.int .i64 (fitV (sgn a b n)), .int .i64 (fitE (sgn a b n))]) ∧ w = w' := by
  by_cases h : (a < 0 ↔ b < 0)
  · rw [sgn_same n h]
    have h1 : (!decide (a < 0) == decide (b < 0)) = false := by simp [h]
    clear h
    by_cases h2 : (n : Int) ≤ 9223372036854775807
    · rw [fitV_in (show I64 n from ⟨by omega, h2⟩), fitE_in (show I64 n from ⟨by omega, h2⟩)]
      go_enter Try.func76, Try.ntmps76
      go_wp2
      go_ret2
      exact ⟨rfl, rfl⟩
    · rw [fitV_out (show ¬ I64 n from fun h => h2 h.2), fitE_out (show ¬ I64 n from fun h => h2 h.2)]
      go_enter Try.func76, Try.ntmps76
      go_wp2
      go_ret2
      exact ⟨rfl, rfl⟩
  · rw [sgn_other n h]
    have h1 : (!decide (a < 0) == decide (b < 0)) = true := by
      by_cases ha : a < 0 <;> by_cases hb : b < 0 <;> simp [ha, hb] at h ⊢
    clear h
    by_cases h2 : (n : Int) ≤ 9223372036854775808
    · rw [fitV_in (show I64 (-n) from ⟨by omega, by omega⟩), fitE_in (show I64 (-n) from ⟨by omega, by omega⟩)]
      go_enter Try.func76, Try.ntmps76
      go_wp2
      go_ret2
      exact ⟨two _ _ _ _ (neg_wrap n h2) rfl, rfl⟩
    · rw [fitV_out (show ¬ I64 (-n) from fun h => h2 (by have := h.1; omega)), fitE_out (show ¬ I64 (-n) from fun h => h2 (by have := h.1; omega))]
      go_enter Try.func76, Try.ntmps76
      go_wp2
      go_ret2
      exact ⟨rfl, rfl⟩

end Go.Proofs.Ytmoomdikgfeifaa
