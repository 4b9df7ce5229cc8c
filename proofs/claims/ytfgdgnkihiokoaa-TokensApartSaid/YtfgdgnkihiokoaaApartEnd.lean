/- What is proved: the statement TokensApart of layer 21 (tokens): for every list of calls and every number the law returns true (a Remove leaves all that is not below the token as it was; the next number is one that none had), and its arguments read as before. Conditions: none beside the given row's. -/
import Derived.Test.YtfgdgnkihiokoaaRows
import Derived.Test.YtfgdgnkihiokoaaBV
import Derived.Test.YtfgdgnkihiokoaaCApart
namespace Go.Proofs.Ytfgdgnkihiokoaa.tokensApart
open Go.ChangeShapes Go.WideShapes Go.ChangeAt Go.RowKit
set_option linter.unusedVariables false

set_option maxRecDepth 100000 in
theorem lifted (os : Os) (started : os.Started) (H : Type) (enc : TypeId × Value → H) :
    ReturnsInHanded {} Try.checked os 6 .any (Rows.tokensApartSpec.pre6 enc Try.prog Try.f6 Rows.tokensApartRow.domain false) (Rows.tokensApartSpec.post enc Try.prog Try.f6 false true false false) := by
  refine returnsInHanded_of_change (C := Try.checked) own started (by kernel_rfl) Try.func6
    (ChangeSpec.witness6 (enc := enc) (C := Try.checked) false ⟨#[], #[.slice none 0 0, .int .i64 0], []⟩ 8 (by kernel_rfl) (by kernel_rfl) (by kernel_rfl) (by kernel_rfl)) ?_
  intro W base args ds gs before hval0 hW hcnd _
  have hval : ∀ (j : Nat) t v, Try.f6.params[j]? = some t → args[j]? = some v → Value.okWide Try.prog W .any base t v := hval0
  have hW' := hW
  obtain ⟨p, q, hA0, hV, rfl, hfz, hnd⟩ := hW
  have hA : DataW.TrodAll enc Try.prog W 0 (fun _ => true) true Try.f6.params.toList args.toList ds p := hA0
  rw [Try.params6] at hA hval
  obtain ⟨v0, vs0, d0, ds0, p0, q0, hargs, rfl, rfl, h0, r0⟩ := trodAll_cons hA
  obtain ⟨v1, vs1, d1, ds1, p1, q1, rfl, rfl, rfl, h1, r1⟩ := trodAll_cons r0
  obtain ⟨rfl, rfl, rfl⟩ := trodAll_nil r1
  obtain rfl : args = #[v0, v1] := by cases args; simp_all
  obtain ⟨rfl, rfl⟩ := trodVars_none hV
  obtain ⟨l0, hl0⟩ := arg_op (hval 0 22 v0 rfl rfl) h0
  obtain ⟨n1, rfl, rfl, rfl, wn1⟩ := open_int Try.underlying3 (hval 1 3 v1 rfl rfl) h1
  clear hA0 hval0
  simp only [List.append_nil] at hW'
  refine (apart_any l0 v0 n1 W hl0 (bounds_i64 wn1)).mono fun e W' ⟨he, hg⟩ => ?_
  subst he
  exact ⟨_, rfl, post_true (f := Try.f6) (tb := 4) kids full (types_ok (by kernel_rfl)) rfl hW' rfl (by kernel_rfl) Try.underlying4 hg⟩

theorem over : Rows.tokensApartRow.holds Try.pinned (OpenSpec.ofChange Rows.tokensApartSpec) :=
  OpenClaim.holds_of_wide 6 Try.f6 rfl rfl rfl rfl rfl rfl rfl ⟨rfl, rfl, rfl, rfl, rfl⟩ rfl rfl rfl rfl rfl (by kernel_rfl) Try.func6 (by kernel_rfl)
    (of_decide_eq_true (by kernel_rfl)) (by unfold Func.isWrapper; first | (rw [if_pos (by decide +kernel)]; kernel_rfl) | (rw [if_neg (by decide +kernel)]; exact ⟨rfl, rfl⟩))
    (fun os started H enc _ => lifted os started H enc)

theorem proved : Rows.TokensApartSaid :=
  over
#print axioms proved
end Go.Proofs.Ytfgdgnkihiokoaa.tokensApart
namespace Go.Proofs.Ytfgdgnkihiokoaa
theorem tokensApart_holds : Rows.TokensApartSaid := tokensApart.proved
end Go.Proofs.Ytfgdgnkihiokoaa
