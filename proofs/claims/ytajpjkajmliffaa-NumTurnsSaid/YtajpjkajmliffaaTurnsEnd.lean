/- What is proved: the statement NumTurns of layer 1 (num): for every two int64 the law returns true (sums and products hang on no order; differences are each other's other side; what a division leaves is less than the divisor, on the side of the number), and its arguments read as before. Conditions: none beside the given row's. -/
import Derived.Test.YtajpjkajmliffaaRows
import Derived.Test.YtajpjkajmliffaaTurns
import Derived.WalkKit
import Derived.ProofKit
import Derived.OpenShut
namespace Go.Proofs.Ytajpjkajmliffaa.numTurns
open Go.ChangeShapes Go.WideShapes Go.ChangeAt Go.RowKit
set_option linter.unusedVariables false

theorem own : ownKnob Try.prog.godebug = none := by kernel_rfl

theorem tmod_pos (a b : Int) (hb : 0 < b) : -b < a.tmod b ∧ a.tmod b < b ∧ (a.tmod b = 0 ∨ (a.tmod b < 0 ∧ a < 0) ∨ (0 < a.tmod b ∧ 0 ≤ a)) := by
  by_cases ha : 0 ≤ a
  · rw [Int.tmod_eq_emod_of_nonneg ha]
    have h1 := Int.emod_nonneg a (show b ≠ 0 by omega)
    have h2 := Int.emod_lt_of_pos a hb
    omega
  · have e : a.tmod b = -((-a) % b) := by rw [← Int.tmod_eq_emod_of_nonneg (by omega : 0 ≤ -a), Int.neg_tmod, Int.neg_neg]
    rw [e]
    have h1 := Int.emod_nonneg (-a) (show b ≠ 0 by omega)
    have h2 := Int.emod_lt_of_pos (-a) hb
    omega
theorem tmod_neg (a b : Int) (hb : b < 0) : b < a.tmod b ∧ a.tmod b < -b ∧ (a.tmod b = 0 ∨ (a.tmod b < 0 ∧ a < 0) ∨ (0 < a.tmod b ∧ 0 ≤ a)) := by
  have h := tmod_pos a (-b) (by omega)
  rw [Int.tmod_neg] at h
  omega
theorem sides (a b R : Int) (h : R = 0 ∨ (R < 0 ∧ a < 0) ∨ (0 < R ∧ 0 ≤ a)) : (R == 0) = true ∨ ((R == 0) = false ∧ R < 0 ∧ a < 0) ∨ ((R == 0) = false ∧ ¬ R < 0 ∧ ¬ a < 0) := by
  rcases h with h | ⟨h, h'⟩ | ⟨h, h'⟩
  · exact Or.inl (by simpa using h)
  · exact Or.inr (Or.inl ⟨eq0_false (by omega), h, h'⟩)
  · exact Or.inr (Or.inr ⟨eq0_false (by omega), by omega, by omega⟩)
theorem subs (x : Int) : (fitE x == 0) = false ∨ ((fitE x == 0) = true ∧ (fitE (-x) == 0) = false) ∨ ((fitE x == 0) = true ∧ (fitE (-x) == 0) = true ∧ (fitV x == -(fitV (-x))) = true ∧ -9223372036854775807 ≤ fitV (-x) ∧ fitV (-x) ≤ 9223372036854775807) := by
  by_cases h : I64 x
  · by_cases h' : I64 (-x)
    · rw [fitE_in h, fitE_in h', fitV_in h, fitV_in h']
      unfold I64 at h h'
      exact Or.inr (Or.inr ⟨rfl, rfl, by simp, by omega, by omega⟩)
    · rw [fitE_in h, fitE_out h']
      exact Or.inr (Or.inl ⟨rfl, rfl⟩)
  · rw [fitE_out h]
    exact Or.inl rfl

theorem walk (a0 : Int) (a1 : Int) (w0 : (Lit.int .i64 a0).wf = true) (w1 : (Lit.int .i64 a1).wf = true) (w : World) :
    Calls Try.prog 5 #[.int .i64 a0, .int .i64 a1] w fun e w' => e = .returned (.bool true) ∧ Grown w w' := by
  have ha := wf_i64 w0
  have hb := wf_i64 w1
  have hs := subs (a0 - a1)
  have e8 : -(a0 - a1) = a1 - a0 := by omega
  rw [e8] at hs
  have c1 := fun w1 (h : Grown w w1) => onSame (add_any a0 a1 w1 ha hb) h
  have c2 := fun w1 (h : Grown w w1) => onSame (add_any a1 a0 w1 hb ha) h
  rw [Int.add_comm a1 a0] at c2
  have c3 := fun w1 (h : Grown w w1) => onto (mul_any a0 a1 w1 ha hb) h
  have c4 := fun w1 (h : Grown w w1) => onto (mul_any a1 a0 w1 hb ha) h
  rw [Int.mul_comm a1 a0] at c4
  have c5 := fun w1 (h : Grown w w1) => onto (muldec_any a0 a1 w1 ha hb) h
  have c6 := fun w1 (h : Grown w w1) => onto (muldec_any a1 a0 w1 hb ha) h
  rw [Nat.mul_comm a1.natAbs a0.natAbs, sgn_comm a1 a0] at c6
  have c7 := fun w1 (h : Grown w w1) => onSame (sub_any a0 a1 w1 ha hb) h
  have c8 := fun w1 (h : Grown w w1) => onSame (sub_any a1 a0 w1 hb ha) h
  unfold I64 at hb
  by_cases h0 : a1 = 0
  · have c9 := fun w1 (h : Grown w w1) => onSame (mod_zero a0 w1) h
    subst h0
    exact core0 a0 0 _ _ _ _ _ _ _ _ _ _ w c1 c2 c3 c4 c5 c6 c7 c8 c9 hs rfl
  · have c9 := fun w1 (h : Grown w w1) => onSame (mod_any a0 a1 w1 (eq0_false h0) h0) h
    by_cases hp : 0 < a1
    · obtain ⟨r1, r2, r3⟩ := tmod_pos a0 a1 hp
      exact corePos a0 a1 _ _ _ _ _ _ _ _ _ _ _ w c1 c2 c3 c4 c5 c6 c7 c8 c9 hs hp (eq0_false h0) hb.2 r1 r2 (sides a0 a1 _ r3)
    · obtain ⟨r1, r2, r3⟩ := tmod_neg a0 a1 (by omega)
      exact coreNeg a0 a1 _ _ _ _ _ _ _ _ _ _ _ w c1 c2 c3 c4 c5 c6 c7 c8 c9 hs (by omega) (eq0_false h0) hb.1 r1 r2 (sides a0 a1 _ r3)

set_option maxRecDepth 100000 in
theorem lifted (os : Os) (started : os.Started) (H : Type) (enc : TypeId × Value → H) :
    ReturnsInHanded {} Try.checked os 5 .any (Rows.numTurnsSpec.pre6 enc Try.prog Try.f5 Rows.numTurnsRow.domain false) (Rows.numTurnsSpec.post enc Try.prog Try.f5 false true false false) := by
  refine returnsInHanded_of_change (C := Try.checked) own started (by kernel_rfl) Try.func5
    (ChangeSpec.witness6 (enc := enc) (C := Try.checked) false ⟨#[], #[.int .i64 0, .int .i64 0], []⟩ 8 (by kernel_rfl) (by kernel_rfl) (by kernel_rfl) (by kernel_rfl)) ?_
  intro W base args ds gs before hval0 hW hcnd _
  have hval : ∀ (j : Nat) t v, Try.f5.params[j]? = some t → args[j]? = some v → Value.okWide Try.prog W .any base t v := hval0
  have hW' := hW
  obtain ⟨p, q, hA0, hV, rfl, hfz, hnd⟩ := hW
  have hA : DataW.TrodAll enc Try.prog W 0 (fun _ => true) true Try.f5.params.toList args.toList ds p := hA0
  rw [Try.params5] at hA hval
  obtain ⟨v0, vs0, d0, ds0, p0, q0, hargs, rfl, rfl, h0, r0⟩ := trodAll_cons hA
  obtain ⟨v1, vs1, d1, ds1, p1, q1, rfl, rfl, rfl, h1, r1⟩ := trodAll_cons r0
  obtain ⟨rfl, rfl, rfl⟩ := trodAll_nil r1
  obtain rfl : args = #[v0, v1] := by cases args; simp_all
  obtain ⟨rfl, rfl⟩ := trodVars_none hV
  obtain ⟨a0, rfl, rfl, rfl, w0⟩ := open_int Try.underlying2 (hval 0 2 v0 rfl rfl) h0
  obtain ⟨a1, rfl, rfl, rfl, w1⟩ := open_int Try.underlying2 (hval 1 2 v1 rfl rfl) h1
  clear hA0 hval0
  simp only [List.append_nil] at hW'
  refine (walk a0 a1 w0 w1 W).mono fun e W' ⟨he, hg⟩ => ?_
  subst he
  exact ⟨_, rfl, post_of_same (pa := []) (pv := []) hW' (fun _ _ _ => (trodAll_cons_mk (shut_bool Try.underlying4 _) trodAll_mk0)) (fun sp _ => (trodAll_cons_mk (shut_int Try.underlying2 w0) (trodAll_cons_mk (shut_int Try.underlying2 w1) trodAll_mk0))) (fun _ _ => rfl) rfl
    (hg.frame _) hg.2.1 (ok_one (by kernel_rfl) rfl (okWide_bool_mk Try.underlying4 _))⟩

theorem over : Rows.numTurnsRow.holds Try.pinned (OpenSpec.ofChange Rows.numTurnsSpec) :=
  OpenClaim.holds_of_wide 5 Try.f5 rfl rfl rfl rfl rfl rfl rfl ⟨rfl, rfl, rfl, rfl, rfl⟩ rfl rfl rfl rfl rfl (by kernel_rfl) Try.func5 (by kernel_rfl)
    (of_decide_eq_true (by kernel_rfl)) (by unfold Func.isWrapper; first | (rw [if_pos (by decide +kernel)]; kernel_rfl) | (rw [if_neg (by decide +kernel)]; exact ⟨rfl, rfl⟩))
    (fun os started H enc _ => lifted os started H enc)

theorem proved : Rows.NumTurnsSaid :=
  over
#print axioms proved
end Go.Proofs.Ytajpjkajmliffaa.numTurns
namespace Go.Proofs.Ytajpjkajmliffaa
theorem numTurns_holds : Rows.NumTurnsSaid := numTurns.proved
end Go.Proofs.Ytajpjkajmliffaa
