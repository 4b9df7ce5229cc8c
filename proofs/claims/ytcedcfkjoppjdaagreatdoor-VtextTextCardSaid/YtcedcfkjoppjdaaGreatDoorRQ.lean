/- The document's own numbers: quotients and what is left, of whole numbers; rounded to the nearest one. -/
import Derived.Test.YtcedcfkjoppjdaaGreatDoorRL
import Derived.Test.YtcedcfkjoppjdaaGreatDoorH
namespace Go.Proofs.YtcedcfkjoppjdaaGreatDoor
open Go.ChangeShapes Go.WideShapes Go.ChangeAt Go.RowKit
set_option linter.unusedVariables false

def RetQI (w : World) (q r : Int) (e : Ending) (w' : World) : Prop := ∃ x y, e = .returned (.tuple #[x, y]) ∧ RN w' x q ∧ RN w' y r ∧ Old w w'
theorem sm_k {n : Int} {k : Nat} (h : (n.natAbs : Int) < p10 k) (hk : k ≤ 900) : Sm 900 n := Nat.le_trans (dig_len h) hk
theorem wv_zero (n : Nat) : wv (dig n) 0 = n := by
  unfold wv
  rw [List.drop_zero, dig_val, Int.toNat_natCast]
theorem small_lo {t : Int} (h0 : 0 ≤ t) (h1 : t ≤ 9999) : Lo t := by
  have : Lo 9999 := i64_lo (by decide)
  unfold Lo at *
  omega

theorem quoI (a b : Int) (x y : Value) (w : World) (hx : RN w x a) (hy : RN w y b) (ha : Lo a) (hb : Lo b) (h0 : ¬ b = 0) : Calls Tryz.prog 30 #[x, y] w (RetQI w (a.tdiv b) (a.tmod b)) := by
  obtain ⟨va, rfl, ra⟩ := hx
  obtain ⟨vb, rfl, rb⟩ := hy
  obtain ⟨oa, ca, rfl, _⟩ := id ra
  obtain ⟨ob, cb, rfl, _⟩ := id rb
  have la : (dig a.natAbs).length ≤ 19 := dig_len ha
  have hbl : Lo (b.natAbs : Int) := by unfold Lo at *; rw [Int.natAbs_natCast]; exact hb
  have h19 := p10_19
  have hprod : ∀ t : Int, 0 ≤ t → t ≤ 9999 → 0 ≤ t * (b.natAbs : Int) ∧ t * (b.natAbs : Int) ≤ 9999 * (b.natAbs : Int) := fun t h1 h2 => ⟨Int.mul_nonneg h1 (by omega), Int.mul_le_mul_of_nonneg_right h2 (by omega)⟩
  have hbp : (b.natAbs : Int) < p10 19 := hb
  have h := quo_walk2 (decide (a < 0)) (decide (b < 0)) oa ob (dig a.natAbs).length ca (dig b.natAbs).length cb w (dig a.natAbs) b.natAbs _ _ _ _ ra (rn_nat rb) rfl (dig_dg _) (by omega) (by omega)
    (fun t W h1 h2 => ofI t W ⟨by omega, by omega⟩)
    (fun t W z h1 h2 k1 k2 => mulI t b.natAbs z _ W k1 k2 (small_lo h1 h2) hbl)
    (fun t R W z y h1 h2 h3 k1 k2 => by
      have := hprod t h1 h2
      exact cmpI _ _ z y W k1 k2 (sm_k (k := 20) (by rw [h19]; omega) (by omega)) (sm_k (k := 20) (by rw [h19]; omega) (by omega)) (sm_k (k := 20) (by rw [h19]; omega) (by omega)))
    (fun t R W z y h1 h2 h3 k1 k2 => by
      have := hprod t h1 h2
      exact subI _ _ y z W k1 k2 (sm_k (k := 20) (by rw [h19]; omega) (by omega)) (sm_k (k := 20) (by rw [h19]; omega) (by omega)))
    (fun R h => Nat.le_trans (dig_len (k := 20) (by rw [h19]; omega)) (by omega))
    (fun W v ql hq hv => by
      have ht := trim_any (decide (a < 0) != decide (b < 0)) ql v W hv hq.2.1 (by rw [hq.1]; omega)
      have e := hq.2.2
      rw [List.drop_zero, wv_zero] at e
      rw [e, Int.toNat_natCast] at ht
      exact ht)
    (fun W v hv => by
      have ht := trim_any (decide (a < 0)) _ v W hv (dig_dg _) (by
        rw [wv_zero]
        exact Nat.le_trans (dig_mono (Nat.mod_le a.natAbs b.natAbs)) (by omega))
      rw [dig_val, Int.toNat_natCast, wv_zero] at ht
      exact ht)
  refine h.mono fun e w' ⟨v1, v2, he, r1, r2, ho⟩ => ⟨_, _, he, ⟨v1, ?_, ?_⟩, ⟨v2, ?_, ?_⟩, ho⟩
  · rw [sgn_sign, sgn_div]
  · rw [Int.natAbs_tdiv]; exact r1
  · have e1 := tmod_side a b
    have e2 : (a.tmod b).natAbs = a.natAbs % b.natAbs := Int.natAbs_tmod a b
    have e3 : (decide (a < 0) && decide (¬ ((a.natAbs % b.natAbs : Nat) : Int) = 0)) = decide (a.tmod b < 0) := by
      rw [← e2, Bool.eq_iff_iff, Bool.and_eq_true, decide_eq_true_iff, decide_eq_true_iff, decide_eq_true_iff]
      by_cases h : 0 ≤ a
      · have := e1.1 h; omega
      · have := e1.2 (by omega); omega
    rw [e3]
  · rw [Int.natAbs_tmod]; exact r2

end Go.Proofs.YtcedcfkjoppjdaaGreatDoor
