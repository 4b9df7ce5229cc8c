/- What is proved: the statement NumScales of layer 1 (num): for every two int64 the law returns true (decimals that are whole numbers do as these: their sum, product, quotient are those of the numbers, scaled, or refused as these are), and its arguments read as before. Conditions: none beside the given row's. -/
import Derived.Test.YtajpjkajmliffaaRows
import Derived.Test.YtajpjkajmliffaaScales
import Derived.Test.YtajpjkajmliffaaH
import Derived.WalkKit
import Derived.ProofKit
import Derived.OpenShut
namespace Go.Proofs.Ytajpjkajmliffaa.numScales
open Go.ChangeShapes Go.WideShapes Go.ChangeAt Go.RowKit
set_option linter.unusedVariables false

theorem own : ownKnob Try.prog.godebug = none := by kernel_rfl

theorem big_mul (a b : Int) : sgn (a * 10000) (b * 10000) (rnd ((a * 10000).natAbs * (b * 10000).natAbs) 10000) = a * b * 10000 := by
  rw [sgn_scale, abs_scale, abs_scale, ← Nat.mul_assoc, rnd_exact _ _ (by omega), Nat.mul_right_comm, sgn_times, sgn_mul]
theorem big_div (a b : Int) : sgn (a * 10000) (b * 10000) (rnd ((a * 10000).natAbs * 10000) (b * 10000).natAbs) = sgn a b (rnd (a.natAbs * 10000) b.natAbs) := by
  rw [sgn_scale, abs_scale, abs_scale, rnd_scale _ _ _ (by omega)]

theorem walk (a0 : Int) (a1 : Int) (w0 : (Lit.int .i64 a0).wf = true) (w1 : (Lit.int .i64 a1).wf = true) (w : World) :
    Calls Try.prog 6 #[.int .i64 a0, .int .i64 a1] w fun e w' => e = .returned (.bool true) ∧ Grown w w' := by
  have ha := wf_i64 w0
  have hb := wf_i64 w1
  have c1 := fun w1 (h : Grown w w1) => onto (scale_any a0 w1 ha) h
  have c2 := fun w1 (h : Grown w w1) => onto (scale_any a1 w1 hb) h
  by_cases hx : I64 (a0 * 10000)
  · rw [fitV_in hx, fitE_in hx] at c1
    by_cases hy : I64 (a1 * 10000)
    · rw [fitV_in hy, fitE_in hy] at c2
      have hs : I64 (a0 + a1) := by unfold I64 at *; omega
      have c3 := fun w1 (h : Grown w w1) => onSame (add_any a0 a1 w1 ha hb) h
      rw [fitV_in hs, fitE_in hs] at c3
      have c4 := fun w1 (h : Grown w w1) => onSame (add_any (a0 * 10000) (a1 * 10000) w1 hx hy) h
      have c5 := fun w1 (h : Grown w w1) => onto (scale_any (a0 + a1) w1 hs) h
      rw [show (a0 + a1) * 10000 = a0 * 10000 + a1 * 10000 by omega] at c5
      have c6 := fun w1 (h : Grown w w1) => onto (mul_any a0 a1 w1 ha hb) h
      have c7 := fun w1 (h : Grown w w1) => onto (muldec_any (a0 * 10000) (a1 * 10000) w1 hx hy) h
      rw [big_mul] at c7
      have h : (∀ w1, Grown w w1 → Calls Try.prog 21 #[.int .i64 (a0 * 10000), .int .i64 (a1 * 10000)] w1 fun e w' => e = pr (if a1 = 0 then 0 else fitV (sgn a0 a1 (rnd (a0.natAbs * 10000) a1.natAbs))) (if a1 = 0 then 10 else fitE (sgn a0 a1 (rnd (a0.natAbs * 10000) a1.natAbs))) ∧ Grown w w') ∧
          (∀ w1, Grown w w1 → Calls Try.prog 21 #[.int .i64 a0, .int .i64 a1] w1 fun e w' => e = pr (if a1 = 0 then 0 else fitV (sgn a0 a1 (rnd (a0.natAbs * 10000) a1.natAbs))) (if a1 = 0 then 10 else fitE (sgn a0 a1 (rnd (a0.natAbs * 10000) a1.natAbs))) ∧ Grown w w') := by
        by_cases h0 : a1 = 0
        · rw [if_pos h0, if_pos h0]
          subst h0
          exact ⟨fun w1 h => onto (divdec_zero (a0 * 10000) w1) h, fun w1 h => onto (divdec_zero a0 w1) h⟩
        · rw [if_neg h0, if_neg h0]
          have c9 := fun w1 (h : Grown w w1) => onto (divdec_any (a0 * 10000) (a1 * 10000) w1 hx hy (by omega)) h
          rw [big_div] at c9
          exact ⟨c9, fun w1 h => onto (divdec_any a0 a1 w1 ha hb h0) h⟩
      by_cases hp : I64 (a0 * a1)
      · rw [fitV_in hp, fitE_in hp] at c6
        have c8 := fun w1 (h : Grown w w1) => onto (scale_any (a0 * a1) w1 hp) h
        exact core a0 a1 _ _ _ _ _ _ _ _ 0 0 _ _ w c1 c2 c3 c4 c5 (Or.inl ⟨c6, c7, c8⟩) h.1 h.2
      · rw [fitV_out hp, fitE_out hp] at c6
        have hq : ¬ I64 (a0 * a1 * 10000) := by unfold I64 at *; generalize a0 * a1 = z at *; omega
        rw [fitV_out hq, fitE_out hq] at c7
        have c8 := fun w1 (h : Grown w w1) => onto (scale_any 0 w1 (by decide)) h
        exact core a0 a1 _ _ _ _ _ 0 0 0 _ _ _ _ w c1 c2 c3 c4 c5 (Or.inr ⟨c6, c7, c8⟩) h.1 h.2
    · rw [fitV_out hy, fitE_out hy] at c2
      exact core0 a0 a1 _ 0 0 w (Or.inr ⟨c1, c2⟩)
  · rw [fitV_out hx, fitE_out hx] at c1
    exact core0 a0 a1 0 _ _ w (Or.inl ⟨c1, c2⟩)

set_option maxRecDepth 100000 in
theorem lifted (os : Os) (started : os.Started) (H : Type) (enc : TypeId × Value → H) :
    ReturnsInHanded {} Try.checked os 6 .any (Rows.numScalesSpec.pre6 enc Try.prog Try.f6 Rows.numScalesRow.domain false) (Rows.numScalesSpec.post enc Try.prog Try.f6 false true false false) := by
  refine returnsInHanded_of_change (C := Try.checked) own started (by kernel_rfl) Try.func6
    (ChangeSpec.witness6 (enc := enc) (C := Try.checked) false ⟨#[], #[.int .i64 0, .int .i64 0], []⟩ 8 (by kernel_rfl) (by kernel_rfl) (by kernel_rfl) (by kernel_rfl)) ?_
  intro W base args ds gs before hval0 hW hcnd _
  have hval : ∀ (j : Nat) t v, Try.f6.params[j]? = some t → args[j]? = some v → Value.okWide Try.prog W .any base t v := hval0
  have hW' := hW
  obtain ⟨p, q, hA0, hV, rfl, hfz, hnd⟩ := hW
  have hA : DataW.TrodAll enc Try.prog W 0 (fun _ => true) true Try.f6.params.toList args.toList ds p := hA0
  rw [Try.params6] at hA hval
  obtain ⟨v0, vs0, d0, ds0, p0, q0, hargs, rfl, rfl, h0, r0⟩ := trodAll_cons hA
  obtain ⟨v1, vs1, d1, ds1, p1, q1, rfl, rfl, rfl, h1, r1⟩ := trodAll_cons r0
  obtain ⟨rfl, rfl, rfl⟩ := trodAll_nil r1
  obtain rfl : args = #[v0, v1] := by cases args; simp_all
  obtain ⟨rfl, rfl⟩ := trodVars_none hV
  obtain ⟨a0, rfl, rfl, rfl, w0⟩ := open_int Try.underlying2 (hval 0 2 v0 rfl rfl) h0
  obtain ⟨a1, rfl, rfl, rfl, w1⟩ := open_int Try.underlying2 (hval 1 2 v1 rfl rfl) h1
  clear hA0 hval0
  simp only [List.append_nil] at hW'
  refine (walk a0 a1 w0 w1 W).mono fun e W' ⟨he, hg⟩ => ?_
  subst he
  exact ⟨_, rfl, post_of_same (pa := []) (pv := []) hW' (fun _ _ _ => (trodAll_cons_mk (shut_bool Try.underlying4 _) trodAll_mk0)) (fun sp _ => (trodAll_cons_mk (shut_int Try.underlying2 w0) (trodAll_cons_mk (shut_int Try.underlying2 w1) trodAll_mk0))) (fun _ _ => rfl) rfl
    (hg.frame _) hg.2.1 (ok_one (by kernel_rfl) rfl (okWide_bool_mk Try.underlying4 _))⟩

theorem over : Rows.numScalesRow.holds Try.pinned (OpenSpec.ofChange Rows.numScalesSpec) :=
  OpenClaim.holds_of_wide 6 Try.f6 rfl rfl rfl rfl rfl rfl rfl ⟨rfl, rfl, rfl, rfl, rfl⟩ rfl rfl rfl rfl rfl (by kernel_rfl) Try.func6 (by kernel_rfl)
    (of_decide_eq_true (by kernel_rfl)) (by unfold Func.isWrapper; first | (rw [if_pos (by decide +kernel)]; kernel_rfl) | (rw [if_neg (by decide +kernel)]; exact ⟨rfl, rfl⟩))
    (fun os started H enc _ => lifted os started H enc)

theorem proved : Rows.NumScalesSaid :=
  over
#print axioms proved
end Go.Proofs.Ytajpjkajmliffaa.numScales
namespace Go.Proofs.Ytajpjkajmliffaa
theorem numScales_holds : Rows.NumScalesSaid := numScales.proved
end Go.Proofs.Ytajpjkajmliffaa
