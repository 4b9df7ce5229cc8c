/- Plain: a value's text says that value. -/
import Derived.Test.YtcedcfkjoppjdaaGreatDoorLG
namespace Go.Proofs.YtcedcfkjoppjdaaGreatDoor
open Go.Lib
set_option linter.unusedVariables false
set_option linter.unusedSimpArgs false
set_option maxRecDepth 100000

/-- The number that digits say, behind acc. -/
def vL (acc : Nat) (l : List UInt8) : Nat := l.foldl (fun a c => a * 10 + (c.toNat - 48)) acc
theorem vL_nil (acc : Nat) : vL acc [] = acc := rfl
theorem vL_cons (acc : Nat) (c : UInt8) (l : List UInt8) : vL acc (c :: l) = vL (acc * 10 + (c.toNat - 48)) l := by unfold vL; rw [List.foldl_cons]
theorem vL_app (a b : List UInt8) (acc : Nat) : vL acc (a ++ b) = vL (vL acc a) b := by
  unfold vL; exact List.foldl_append
theorem vL_ge (l : List UInt8) : ∀ (acc : Nat), acc ≤ vL acc l := by
  induction l with
  | nil => intro acc; exact Nat.le_refl _
  | cons c l ih =>
    intro acc
    have h := ih (acc * 10 + (c.toNat - 48))
    rw [vL_cons]
    omega
theorem pum (M : Nat) (hM : M ≤ 18446744073709551615) (l : List UInt8) : ∀ (acc : Nat), l.all dg8 = true → vL acc l ≤ M → Lib.parseUintM M acc l = .ok (vL acc l) := by
  induction l with
  | nil => intro acc _ _; rfl
  | cons c l ih =>
    intro acc h hv
    rw [List.all_cons, Bool.and_eq_true] at h
    have hc : 48 ≤ c.toNat ∧ c.toNat ≤ 57 := by have := h.1; unfold dg8 at this; simpa using this
    obtain ⟨x, hx⟩ : ∃ x, x = acc * 10 + (c.toNat - 48) := ⟨_, rfl⟩
    rw [vL_cons, ← hx] at hv
    have hg := vL_ge l x
    have ih := ih x h.2 hv
    have k1 : ¬ 1844674407370955162 ≤ acc := by omega
    have k2 : ¬ M < x := by omega
    rw [vL_cons, ← hx]
    unfold Lib.parseUintM
    rw [if_pos hc, if_neg k1, ← hx, if_neg k2]
    exact ih
theorem dig_nat {d : Nat} (h : d < 10) : (UInt8.ofNat (48 + d)).toNat = 48 + d := by
  rw [UInt8.toNat_ofNat']; omega
theorem dig_ok {d : Nat} (h : d < 10) : dg8 (UInt8.ofNat (48 + d)) = true := by
  unfold dg8; rw [dig_nat h]; simp; omega
theorem dd_all (u : Nat) : (Lib.decDigits u).all dg8 = true := by
  induction u using Nat.strongRecOn with
  | _ u ih =>
    rw [Lib.decDigits]
    split
    · next h => simp only [List.all_cons, List.all_nil, Bool.and_true, dig_ok h]
    · next h => simp only [List.all_append, ih (u / 10) (by omega), List.all_cons, List.all_nil, Bool.and_true, dig_ok (Nat.mod_lt u (by omega : 0 < 10))]
theorem dd_val (u : Nat) : vL 0 (Lib.decDigits u) = u := by
  induction u using Nat.strongRecOn with
  | _ u ih =>
    rw [Lib.decDigits]
    split
    · next h => simp only [vL_cons, vL_nil, dig_nat h]; omega
    · next h => rw [vL_app, ih (u / 10) (by omega)]; simp only [vL_cons, vL_nil, dig_nat (Nat.mod_lt u (by omega : 0 < 10))]; omega
theorem dd_ne (u : Nat) : Lib.decDigits u ≠ [] := by
  rw [Lib.decDigits]
  split <;> simp
theorem dd_head (u : Nat) (h : 1 ≤ u) : (Lib.decDigits u).head? ≠ some 48 := by
  induction u using Nat.strongRecOn with
  | _ u ih =>
    rw [Lib.decDigits]
    split
    · next hu =>
      simp only [List.head?_cons, ne_eq, Option.some.injEq]
      intro e
      have := congrArg UInt8.toNat e
      rw [dig_nat hu] at this
      have h48 : (48 : UInt8).toNat = 48 := rfl
      omega
    · next hu =>
      have hi := ih (u / 10) (by omega) (by omega)
      cases hd : Lib.decDigits (u / 10) with
      | nil => exact absurd hd (dd_ne _)
      | cons c l => rw [hd] at hi; simpa using hi
theorem dd_whole (u : Nat) : wholeL (Lib.decDigits u) = true := by
  unfold wholeL digsL
  rw [dd_all]
  have e : (Lib.decDigits u).isEmpty = false := by
    cases h : Lib.decDigits u with
    | nil => exact absurd h (dd_ne u)
    | cons c l => rfl
  rw [e]
  by_cases h : u < 10
  · rw [Lib.decDigits, dif_pos h]; rfl
  · have := dd_head u (by omega)
    simp [this]
theorem index_none : ∀ (l : List UInt8), l.all dg8 = true → Lib.index l [46] = -1
  | [], _ => by rw [Lib.index]; rfl
  | c :: l, h => by
    rw [List.all_cons, Bool.and_eq_true] at h
    have hc : ((46 : UInt8) == c) = false := by
      have := h.1
      rcases hx : ((46 : UInt8) == c) with _ | _
      · rfl
      · have e : c = 46 := (by simpa using hx : (46 : UInt8) = c).symm
        subst e; exact absurd this (by decide)
    rw [Lib.index, index_none l h.2]
    simp [List.isPrefixOf, hc]
theorem index_dot : ∀ (a b : List UInt8), a.all dg8 = true → Lib.index (a ++ 46 :: b) [46] = a.length
  | [], b, _ => by rw [List.nil_append, Lib.index]; simp [List.isPrefixOf]
  | c :: a, b, h => by
    rw [List.all_cons, Bool.and_eq_true] at h
    have hc : ((46 : UInt8) == c) = false := by
      have := h.1
      rcases hx : ((46 : UInt8) == c) with _ | _
      · rfl
      · have e : c = 46 := (by simpa using hx : (46 : UInt8) = c).symm
        subst e; exact absurd this (by decide)
    rw [List.cons_append, Lib.index, index_dot a b h.2]
    have e2 : ((a.length : Int) == -1) = false := by simp
    simp only [List.isPrefixOf, hc, Bool.false_and, Bool.false_eq_true, if_false, e2, List.length_cons]
    omega
theorem cut_none {l : List UInt8} (h : l.all dg8 = true) : Lib.cut l [46] = (l, [], false) := by
  unfold Lib.cut
  rw [index_none l h]
  rfl
theorem cut_dot (a b : List UInt8) (h : a.all dg8 = true) : Lib.cut (a ++ 46 :: b) [46] = (a, b, true) := by
  unfold Lib.cut
  rw [index_dot a b h, if_pos (Int.natCast_nonneg _)]
  simp
theorem first_not {l : List UInt8} {c : UInt8} {r : List UInt8} (h : l.all dg8 = true) (e : l = c :: r) : 48 ≤ c.toNat ∧ c.toNat ≤ 57 := by
  subst e
  rw [List.all_cons, Bool.and_eq_true] at h
  have := h.1
  unfold dg8 at this
  simpa using this
theorem num_pos (k : Int) (l : List UInt8) (hne : l ≠ []) (h : l.all dg8 = true) (hv : vL 0 l < 9223372036854775808) : numV k l = (k, (vL 0 l : Int), 0) := by
  have hp : Lib.parseUintB 64 l = .ok (vL 0 l) := by
    unfold Lib.parseUintB
    rw [if_neg hne]
    exact pum _ (by decide) l 0 h (by simp only [Nat.reducePow, Nat.reduceSub]; omega)
  have hi : Lib.parseIntB 64 l = .ok (vL 0 l : Int) := by
    cases l with
    | nil => exact absurd rfl hne
    | cons c r =>
      have hc := first_not h rfl
      unfold Lib.parseIntB
      simp only [if_neg (by omega : ¬ (c.toNat = 43 ∨ c.toNat = 45)), hp]
      rw [if_neg (by simp only [Nat.reduceSub, Nat.reducePow]; omega), if_neg (by omega), if_neg (by omega)]
  unfold numV
  rw [hi]
theorem num_neg (k : Int) (l : List UInt8) (hne : l ≠ []) (h : l.all dg8 = true) (hv : vL 0 l ≤ 9223372036854775808) : numV k (45 :: l) = (k, -(vL 0 l : Int), 0) := by
  have hp : Lib.parseUintB 64 l = .ok (vL 0 l) := by
    unfold Lib.parseUintB
    rw [if_neg hne]
    exact pum _ (by decide) l 0 h (by simp only [Nat.reducePow, Nat.reduceSub]; omega)
  have hi : Lib.parseIntB 64 (45 :: l) = .ok (-(vL 0 l : Int)) := by
    unfold Lib.parseIntB
    have e : (45 : UInt8).toNat = 43 ∨ (45 : UInt8).toNat = 45 := Or.inr rfl
    simp only [if_pos e, hp]
    rw [if_neg (fun h => h.1 rfl), if_neg (fun h => by have := h.2; simp only [Nat.reduceSub, Nat.reducePow] at this; omega), if_pos (show (45 : UInt8).toNat = 45 from rfl)]
  unfold numV
  rw [hi]
end Go.Proofs.YtcedcfkjoppjdaaGreatDoor
