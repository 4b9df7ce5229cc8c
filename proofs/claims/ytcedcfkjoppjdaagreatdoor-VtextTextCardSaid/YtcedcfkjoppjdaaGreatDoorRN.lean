/- Plain facts on the product of a row of digits and a digit. -/
import Derived.Test.YtcedcfkjoppjdaaGreatDoorRM
namespace Go.Proofs.YtcedcfkjoppjdaaGreatDoor
set_option linter.unusedVariables false

def mlK (a : List Int) (d : Int) : Nat → List Int × Int
  | 0 => ([], 0)
  | k + 1 => ((mlK a d k).1 ++ [((mlK a d k).2 + a.getD k 0 * d) % 10000], ((mlK a d k).2 + a.getD k 0 * d) / 10000)
theorem mlK_len (a : List Int) (d : Int) : ∀ k, (mlK a d k).1.length = k
  | 0 => rfl
  | k + 1 => by simp [mlK, mlK_len a d k]
theorem prod_bd {x d : Int} (hx : 0 ≤ x ∧ x < 10000) (hd : 0 ≤ d ∧ d < 10000) : 0 ≤ x * d ∧ x * d ≤ 99980001 := by
  have h1 : x * d ≤ 9999 * 9999 := Int.mul_le_mul (by omega) (by omega) hd.1 (by omega)
  exact ⟨Int.mul_nonneg hx.1 hd.1, by omega⟩
theorem mlK_m {a : List Int} {d : Int} (ha : Dg a) (hd : 0 ≤ d ∧ d < 10000) : ∀ k, 0 ≤ (mlK a d k).2 ∧ (mlK a d k).2 ≤ 9999
  | 0 => by show (0 : Int) ≤ 0 ∧ (0 : Int) ≤ 9999; omega
  | k + 1 => by
    have ih := mlK_m ha hd k
    have h1 := prod_bd (dg_getD ha k) hd
    simp only [mlK]
    omega
theorem mlK_dg {a : List Int} {d : Int} (ha : Dg a) (hd : 0 ≤ d ∧ d < 10000) : ∀ k, Dg (mlK a d k).1
  | 0 => dg_nil
  | k + 1 => by
    have ih := mlK_dg ha hd k
    simp only [mlK]
    exact dg_snoc ih (by omega) (by omega)
theorem mlK_val (a : List Int) (d : Int) : ∀ k, val (mlK a d k).1 + p10 k * (mlK a d k).2 = val (a.take k) * d
  | 0 => by simp [mlK, val]
  | k + 1 => by
    have ih := mlK_val a d k
    rw [val_take a k, Int.add_mul, ← ih]
    simp only [mlK]
    rw [val_snoc, mlK_len]
    generalize (mlK a d k).2 = m at *
    generalize val (mlK a d k).1 = v at *
    generalize a.getD k 0 = x at *
    show v + p10 k * ((m + x * d) % 10000) + 10000 * p10 k * ((m + x * d) / 10000) = v + p10 k * m + p10 k * x * d
    have e : p10 k * (m + x * d) = p10 k * (10000 * ((m + x * d) / 10000) + (m + x * d) % 10000) := by rw [Int.mul_ediv_add_emod]
    have e1 : p10 k * (m + x * d) = p10 k * m + p10 k * (x * d) := Int.mul_add _ _ _
    have e2 : p10 k * (10000 * ((m + x * d) / 10000) + (m + x * d) % 10000) = 10000 * (p10 k * ((m + x * d) / 10000)) + p10 k * ((m + x * d) % 10000) := by rw [Int.mul_add, Int.mul_left_comm]
    rw [Int.mul_assoc (p10 k) x d, Int.mul_assoc 10000]
    omega
def mlN (a : List Int) (d : Int) : Nat := if (mlK a d a.length).2 = 0 then a.length else a.length + 1
theorem ml_le (a : List Int) (d : Int) : mlN a d ≤ a.length + 1 ∧ a.length ≤ mlN a d := by unfold mlN; split <;> omega
theorem ml_done {a : List Int} {d : Int} (ha : Dg a) (hd : 0 ≤ d ∧ d < 10000) : (mlK a d (mlN a d)).2 = 0 := by
  unfold mlN
  split
  · assumption
  · have h := mlK_m ha hd a.length
    simp only [mlK]
    rw [getD_past (l := a) (Nat.le_refl _), Int.zero_mul]
    omega
theorem ml_more {a : List Int} {d : Int} (ha : Dg a) (hd : 0 ≤ d ∧ d < 10000) (k : Nat) (hk : k < mlN a d) : k < a.length ∨ 0 < (mlK a d k).2 := by
  by_cases h1 : k < a.length
  · exact Or.inl h1
  · unfold mlN at hk
    split at hk
    · omega
    · rename_i hne
      have e : k = a.length := by omega
      subst e
      have := mlK_m ha hd a.length
      omega
/-- A row that begins with i noughts. -/
def shl (i : Nat) (l : List Int) : List Int := List.replicate i 0 ++ l
theorem shl_val (i : Nat) (l : List Int) : val (shl i l) = p10 i * val l := by
  unfold shl
  induction i with
  | zero => simp [p10]
  | succ i ih =>
    rw [List.replicate_succ, List.cons_append]
    simp only [val, p10]
    rw [ih, Int.mul_assoc]
    omega
theorem shl_dg {i : Nat} {l : List Int} (h : Dg l) : Dg (shl i l) := by
  intro d hd
  rcases List.mem_append.1 hd with hd | hd
  · rw [(List.mem_replicate.1 hd).2]; omega
  · exact h d hd
theorem shl_len (i : Nat) (l : List Int) : (shl i l).length = i + l.length := by simp [shl]
def mlL (a : List Int) (d : Int) : List Int := (mlK a d (mlN a d)).1
theorem mlL_val {a : List Int} {d : Int} (ha : Dg a) (hd : 0 ≤ d ∧ d < 10000) : val (mlL a d) = val a * d := by
  have h := mlK_val a d (mlN a d)
  rw [ml_done ha hd, List.take_of_length_le (ml_le a d).2] at h
  unfold mlL
  omega
theorem mlL_dg {a : List Int} {d : Int} (ha : Dg a) (hd : 0 ≤ d ∧ d < 10000) : Dg (mlL a d) := mlK_dg ha hd _
theorem mlL_len (a : List Int) (d : Int) : (mlL a d).length ≤ a.length + 1 := by unfold mlL; rw [mlK_len]; exact (ml_le a d).1

end Go.Proofs.YtcedcfkjoppjdaaGreatDoor
