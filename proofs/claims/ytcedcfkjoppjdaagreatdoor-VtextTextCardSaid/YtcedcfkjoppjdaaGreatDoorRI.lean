/- The document's own numbers: back into an int64. -/
import Derived.Test.YtcedcfkjoppjdaaGreatDoorRH
namespace Go.Proofs.YtcedcfkjoppjdaaGreatDoor
open Go.ChangeShapes Go.WideShapes Go.ChangeAt Go.RowKit
set_option linter.unusedVariables false

theorem val_drop_le {l : List Int} (hd : Dg l) (k : Nat) : 0 ≤ val (l.drop k) ∧ val (l.drop k) ≤ val l := by
  have h1 : Dg (l.drop k) := fun d h => hd d (List.mem_of_mem_drop h)
  have h2 := (val_bd _ h1).1
  have h3 := (val_bd _ (dg_take hd k)).1
  have h4 := val_split l k
  have h5 : 1 * val (l.drop k) ≤ p10 k * val (l.drop k) := Int.mul_le_mul_of_nonneg_right (by have := p10_pos k; omega) h2
  omega
theorem val_drop_succ (l : List Int) (k : Nat) (hk : k < l.length) : val (l.drop k) = l.getD k 0 + 10000 * val (l.drop (k + 1)) := by
  rw [List.drop_eq_getElem_cons hk, List.getD_eq_getElem?_getD, List.getElem?_eq_getElem hk]; rfl

set_option maxHeartbeats 1600000 in

theorem sm_big {n : Int} (h : (n.natAbs : Int) < p10 20) : Sm 900 n := Nat.le_trans (dig_len h) (by omega)
theorem p10_20 : p10 20 = 100000000000000000000000000000000000000000000000000000000000000000000000000000000 := by decide
/-- A number of at most 19 digits to the base 10000. -/
def Lo (n : Int) : Prop := (n.natAbs : Int) < p10 19
theorem p10_19 : p10 20 = 10000 * p10 19 := rfl
theorem Lo.sm {n : Int} (h : Lo n) : Sm 900 n := sm_big (by unfold Lo at h; have := p10_pos 19; rw [p10_19]; omega)
theorem Lo.sub {n m : Int} (h : Lo n) (k : Lo m) : Sm 900 (n - m) := sm_big (by unfold Lo at h k; rw [p10_19]; omega)
theorem i64_lo {n : Int} (h : I64 n) : Lo n := by
  unfold Lo I64 at *
  have : p10 19 = 10000000000000000000000000000000000000000000000000000000000000000000000000000 := by decide
  rw [this]; omega

end Go.Proofs.YtcedcfkjoppjdaaGreatDoor
