/- What is proved: the statement NumBack of layer 1 (num): for every two int64 the law returns true (what is added is taken away again, what is multiplied is divided; a quotient times the divisor, and what is left, is the number; a decimal times 1 is itself, over itself it is 1), and its arguments read as before. Conditions: none beside the given row's. -/
import Derived.Test.YtajpjkajmliffaaRows
import Derived.Test.YtajpjkajmliffaaBack
import Derived.Test.YtajpjkajmliffaaH
import Derived.WalkKit
import Derived.ProofKit
import Derived.OpenShut
namespace Go.Proofs.Ytajpjkajmliffaa.numBack
open Go.ChangeShapes Go.WideShapes Go.ChangeAt Go.RowKit
set_option linter.unusedVariables false

theorem own : ownKnob Try.prog.godebug = none := by kernel_rfl

theorem one_mul (a : Int) : sgn a 10000 (rnd (a.natAbs * (10000 : Int).natAbs) 10000) = a := by
  rw [show (10000 : Int).natAbs = 10000 from rfl, rnd_exact _ _ (by omega), sgn_self_pos a 10000 (by omega)]
theorem self_div (a : Int) (h : ¬ a = 0) : sgn a a (rnd (a.natAbs * 10000) a.natAbs) = 10000 := by
  rw [Nat.mul_comm, rnd_exact _ _ (by omega), sgn_same _ Iff.rfl]; rfl

theorem walk (a0 : Int) (a1 : Int) (w0 : (Lit.int .i64 a0).wf = true) (w1 : (Lit.int .i64 a1).wf = true) (w : World) :
    Calls Try.prog 4 #[.int .i64 a0, .int .i64 a1] w fun e w' => e = .returned (.bool true) ∧ Grown w w' := by
  have ha := wf_i64 w0
  have hb := wf_i64 w1
  have c1 := fun w1 (h : Grown w w1) => onSame (add_any a0 a1 w1 ha hb) h
  have c3 := fun w1 (h : Grown w w1) => onto (mul_any a0 a1 w1 ha hb) h
  have c7 := fun w1 (h : Grown w w1) => onto (muldec_any a0 10000 w1 ha (by decide)) h
  rw [one_mul, fitV_in ha, fitE_in ha] at c7
  refine core a0 a1 (a0 + a1) (a0 * a1) (a0.tdiv a1) (a0.tmod a1) w ?_ ?_ ?_ c7 ?_ ha.1 ha.2
  · by_cases h : I64 (a0 + a1)
    · rw [fitV_in h, fitE_in h] at c1
      have c2 := fun w1 (g : Grown w w1) => onSame (sub_any (a0 + a1) a1 w1 h hb) g
      rw [show a0 + a1 - a1 = a0 by omega, fitV_in ha, fitE_in ha] at c2
      exact Or.inr ⟨c1, c2⟩
    · rw [fitV_out h, fitE_out h] at c1
      exact Or.inl c1
  · by_cases h : I64 (a0 * a1)
    · rw [fitV_in h, fitE_in h] at c3
      by_cases h0 : a1 = 0
      · exact Or.inr (Or.inl ⟨c3, by simpa using h0, by simpa using h0⟩)
      · have c4 := fun w1 (g : Grown w w1) => onto (quo_any (a0 * a1) a1 w1 h hb h0) g
        rw [Int.mul_tdiv_cancel _ h0, fitV_in ha, fitE_in ha] at c4
        exact Or.inr (Or.inr ⟨c3, eq0_false h0, by simpa using h0, c4⟩)
    · rw [fitV_out h, fitE_out h] at c3
      exact Or.inl c3
  · by_cases h0 : a1 = 0
    · subst h0
      exact Or.inl (Or.inr fun w1 g => onto (quo_zero a0 w1) g)
    · have c5 := fun w1 (g : Grown w w1) => onto (quo_any a0 a1 w1 ha hb h0) g
      by_cases h : I64 (a0.tdiv a1)
      · rw [fitV_in h, fitE_in h] at c5
        have c6 := fun w1 (g : Grown w w1) => onSame (mod_any a0 a1 w1 (eq0_false h0) h0) g
        have hi := quo_in a0 a1 ha
        exact Or.inr ⟨c5, c6, hi.1, hi.2, quo_back a0 a1⟩
      · rw [fitV_out h, fitE_out h] at c5
        exact Or.inl (Or.inl c5)
  · by_cases h0 : a0 = 0
    · have c8 := fun w1 (g : Grown w w1) => onto (divdec_zero a0 w1) g
      subst h0
      exact Or.inl ⟨c8, rfl, rfl⟩
    · have c8 := fun w1 (g : Grown w w1) => onto (divdec_any a0 a0 w1 ha ha h0) g
      rw [self_div a0 h0, fitV_in (show I64 10000 by decide), fitE_in (show I64 10000 by decide)] at c8
      exact Or.inr ⟨c8, eq0_false h0, by simpa using h0⟩

set_option maxRecDepth 100000 in
theorem lifted (os : Os) (started : os.Started) (H : Type) (enc : TypeId × Value → H) :
    ReturnsInHanded {} Try.checked os 4 .any (Rows.numBackSpec.pre6 enc Try.prog Try.f4 Rows.numBackRow.domain false) (Rows.numBackSpec.post enc Try.prog Try.f4 false true false false) := by
  refine returnsInHanded_of_change (C := Try.checked) own started (by kernel_rfl) Try.func4
    (ChangeSpec.witness6 (enc := enc) (C := Try.checked) false ⟨#[], #[.int .i64 0, .int .i64 0], []⟩ 8 (by kernel_rfl) (by kernel_rfl) (by kernel_rfl) (by kernel_rfl)) ?_
  intro W base args ds gs before hval0 hW hcnd _
  have hval : ∀ (j : Nat) t v, Try.f4.params[j]? = some t → args[j]? = some v → Value.okWide Try.prog W .any base t v := hval0
  have hW' := hW
  obtain ⟨p, q, hA0, hV, rfl, hfz, hnd⟩ := hW
  have hA : DataW.TrodAll enc Try.prog W 0 (fun _ => true) true Try.f4.params.toList args.toList ds p := hA0
  rw [Try.params4] at hA hval
  obtain ⟨v0, vs0, d0, ds0, p0, q0, hargs, rfl, rfl, h0, r0⟩ := trodAll_cons hA
  obtain ⟨v1, vs1, d1, ds1, p1, q1, rfl, rfl, rfl, h1, r1⟩ := trodAll_cons r0
  obtain ⟨rfl, rfl, rfl⟩ := trodAll_nil r1
  obtain rfl : args = #[v0, v1] := by cases args; simp_all
  obtain ⟨rfl, rfl⟩ := trodVars_none hV
  obtain ⟨a0, rfl, rfl, rfl, w0⟩ := open_int Try.underlying2 (hval 0 2 v0 rfl rfl) h0
  obtain ⟨a1, rfl, rfl, rfl, w1⟩ := open_int Try.underlying2 (hval 1 2 v1 rfl rfl) h1
  clear hA0 hval0
  simp only [List.append_nil] at hW'
  refine (walk a0 a1 w0 w1 W).mono fun e W' ⟨he, hg⟩ => ?_
  subst he
  exact ⟨_, rfl, post_of_same (pa := []) (pv := []) hW' (fun _ _ _ => (trodAll_cons_mk (shut_bool Try.underlying4 _) trodAll_mk0)) (fun sp _ => (trodAll_cons_mk (shut_int Try.underlying2 w0) (trodAll_cons_mk (shut_int Try.underlying2 w1) trodAll_mk0))) (fun _ _ => rfl) rfl
    (hg.frame _) hg.2.1 (ok_one (by kernel_rfl) rfl (okWide_bool_mk Try.underlying4 _))⟩

theorem over : Rows.numBackRow.holds Try.pinned (OpenSpec.ofChange Rows.numBackSpec) :=
  OpenClaim.holds_of_wide 4 Try.f4 rfl rfl rfl rfl rfl rfl rfl ⟨rfl, rfl, rfl, rfl, rfl⟩ rfl rfl rfl rfl rfl (by kernel_rfl) Try.func4 (by kernel_rfl)
    (of_decide_eq_true (by kernel_rfl)) (by unfold Func.isWrapper; first | (rw [if_pos (by decide +kernel)]; kernel_rfl) | (rw [if_neg (by decide +kernel)]; exact ⟨rfl, rfl⟩))
    (fun os started H enc _ => lifted os started H enc)

theorem proved : Rows.NumBackSaid :=
  over
#print axioms proved
end Go.Proofs.Ytajpjkajmliffaa.numBack
namespace Go.Proofs.Ytajpjkajmliffaa
theorem numBack_holds : Rows.NumBackSaid := numBack.proved
end Go.Proofs.Ytajpjkajmliffaa
