/- The document's own numbers: products of whole numbers. -/
import Derived.Test.YtcedcfkjoppjdaaGreatDoorRJ
namespace Go.Proofs.YtcedcfkjoppjdaaGreatDoor
open Go.ChangeShapes Go.WideShapes Go.ChangeAt Go.RowKit
set_option linter.unusedVariables false

theorem p10_add (j : Nat) : ∀ k, p10 (j + k) = p10 j * p10 k
  | 0 => by simp [p10]
  | k + 1 => by
    show 10000 * p10 (j + k) = p10 j * (10000 * p10 k)
    rw [p10_add j k, Int.mul_left_comm]
theorem lo_mul {a b : Int} (ha : Lo a) (hb : Lo b) : ((a.natAbs * b.natAbs : Nat) : Int) < p10 38 := by
  unfold Lo at *
  rw [Int.natCast_mul, show (38 : Nat) = 19 + 19 from rfl, p10_add]
  have h1 : (a.natAbs : Int) * b.natAbs ≤ p10 19 * b.natAbs := Int.mul_le_mul_of_nonneg_right (by omega) (by omega)
  have h2 : p10 19 * (b.natAbs : Int) < p10 19 * p10 19 := Int.mul_lt_mul_of_pos_left hb (p10_pos 19)
  omega
/-- The sum behind i rows. -/
def msum (a : Nat) (l : List Int) (i : Nat) : Nat := a * (val (l.take i)).toNat
theorem msum_le (a b i : Nat) : msum a (dig b) i ≤ a * b := by
  unfold msum
  refine Nat.mul_le_mul_left a ?_
  have h := val_split (dig b) i
  rw [dig_val] at h
  have h1 : Dg ((dig b).drop i) := fun d h => dig_dg b d (List.mem_of_mem_drop h)
  have h2 := (val_bd _ h1).1
  have h3 : 0 ≤ p10 i * val ((dig b).drop i) := Int.mul_nonneg (Int.le_of_lt (p10_pos i)) h2
  omega
theorem msum_next (a : Nat) (l : List Int) (hl : Dg l) (i : Nat) : (msum a l (i + 1) : Int) = msum a l i + p10 i * (a * l.getD i 0) := by
  unfold msum
  have h1 := (val_bd _ (dg_take hl i)).1
  have h2 := (val_bd _ (dg_take hl (i + 1))).1
  have e1 : ((val (l.take (i + 1))).toNat : Int) = val (l.take (i + 1)) := by omega
  have e2 : ((val (l.take i)).toNat : Int) = val (l.take i) := by omega
  rw [Int.natCast_mul, Int.natCast_mul, e1, e2, val_take, Int.mul_add, Int.mul_left_comm]
theorem sgn_sign (a b : Int) (p : Nat) : ((decide (a < 0) != decide (b < 0)) && decide (¬ (p : Int) = 0)) = decide (sgn a b p < 0) := by
  by_cases hs : (a < 0 ↔ b < 0)
  · rw [sgn_same p hs, show (decide (a < 0) != decide (b < 0)) = false by simp [hs], Bool.false_and]
    exact (decide_eq_false (by omega)).symm
  · have h1 : (decide (a < 0) != decide (b < 0)) = true := by
      by_cases ha : a < 0 <;> by_cases hb : b < 0 <;> simp [ha, hb] at hs ⊢
    rw [sgn_other p hs, h1, Bool.true_and, decide_eq_decide]
    omega
theorem mul_sign (a b : Int) : ((decide (a < 0) != decide (b < 0)) && decide (¬ ((a.natAbs * b.natAbs : Nat) : Int) = 0)) = decide (a * b < 0) := by
  rw [sgn_sign, sgn_mul]

theorem mulI (a b : Int) (x y : Value) (w : World) (hx : RN w x a) (hy : RN w y b) (ha : Lo a) (hb : Lo b) : Calls Tryz.prog 52 #[x, y] w (RetI w (a * b)) := by
  obtain ⟨va, rfl, ra⟩ := hx
  obtain ⟨vb, rfl, rb⟩ := hy
  obtain ⟨oa, ca, rfl, _⟩ := id ra
  obtain ⟨ob, cb, rfl, _⟩ := id rb
  have la : (dig a.natAbs).length ≤ 19 := dig_len ha
  have lb : (dig b.natAbs).length ≤ 19 := dig_len hb
  have lp : ∀ i, (dig (msum a.natAbs (dig b.natAbs) i)).length ≤ 38 := fun i => Nat.le_trans (dig_mono (msum_le _ _ i)) (dig_len (lo_mul ha hb))
  have gd : ∀ i, 0 ≤ (dig b.natAbs).getD i 0 ∧ (dig b.natAbs).getD i 0 < 10000 := fun i => dg_getD (dig_dg _) i
  have hsl : ∀ i, i < (dig b.natAbs).length → (shl i (mlL (dig a.natAbs) ((dig b.natAbs).getD i 0))).length ≤ 100 := fun i hi => by
    rw [shl_len]; have := mlL_len (dig a.natAbs) ((dig b.natAbs).getD i 0); omega
  have hsd : ∀ i, Dg (shl i (mlL (dig a.natAbs) ((dig b.natAbs).getD i 0))) := fun i => shl_dg (mlL_dg (dig_dg _) (gd i))
  have hsv : ∀ i, val (upL (dig (msum a.natAbs (dig b.natAbs) i)) (shl i (mlL (dig a.natAbs) ((dig b.natAbs).getD i 0)))) = msum a.natAbs (dig b.natAbs) (i + 1) := fun i => by
    rw [upL_val (dig_dg _) (hsd i), dig_val, shl_val, mlL_val (dig_dg _) (gd i), dig_val, msum_next _ _ (dig_dg _)]
  have hend : msum a.natAbs (dig b.natAbs) (dig b.natAbs).length = a.natAbs * b.natAbs := by
    unfold msum
    rw [List.take_of_length_le (Nat.le_refl _), dig_val, Int.toNat_natCast]
  have h := mul_walk2 (decide (a < 0)) (decide (b < 0)) oa ob (dig a.natAbs).length ca (dig b.natAbs).length cb w (dig a.natAbs) (dig b.natAbs) (msum a.natAbs (dig b.natAbs)) _ _ ra rb (dig_dg _) (dig_dg _) rfl rfl (by omega) (by omega)
    (by unfold msum; rw [List.take_zero]; rfl) (fun i _ => Nat.le_trans (lp i) (by omega))
    (fun i hi W u v h1 h2 => up_any _ _ u v W h1 h2 (dig_dg _) (hsd i) (Nat.le_trans (lp i) (by omega)) (Nat.le_trans (hsl i hi) (by omega)))
    (fun i hi W v h1 => by
      have h := trim_any false _ v W h1 (upL_dg (dig_dg _) (hsd i)) (by have := upL_len (dig (msum a.natAbs (dig b.natAbs) i)) (shl i (mlL (dig a.natAbs) ((dig b.natAbs).getD i 0))); have := lp i; have := hsl i hi; omega)
      rw [hsv i, Int.toNat_natCast, Bool.false_and] at h
      exact h)
    (fun W v h1 => trim_any _ _ v W h1 (dig_dg _) (Nat.le_trans (lp _) (by omega)))
  refine h.mono fun _ _ h => retI_of h ?_ ?_
  · rw [dig_val, hend]; exact mul_sign a b
  · rw [dig_val, hend, Int.toNat_natCast, Int.natAbs_mul]

end Go.Proofs.YtcedcfkjoppjdaaGreatDoor
