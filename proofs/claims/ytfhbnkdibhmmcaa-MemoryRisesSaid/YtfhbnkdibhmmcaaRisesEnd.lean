/- What is proved: the statement MemoryRises of layer 5 (memory): for every list of calls the law returns true (ids rise by one with each fact that comes; a fact that is there is found by its values, and got by its id; no two are the same), and its argument reads as before. Conditions: none beside the given row's. -/
import Derived.Test.YtfhbnkdibhmmcaaRows
import Derived.Test.YtfhbnkdibhmmcaaQP
import Derived.Test.YtfhbnkdibhmmcaaQR
namespace Go.Proofs.Ytfhbnkdibhmmcaa.memoryRises
open Go.ChangeShapes Go.WideShapes Go.ChangeAt Go.RowKit
set_option linter.unusedVariables false

set_option maxRecDepth 100000 in
theorem lifted (os : Os) (started : os.Started) (H : Type) (enc : TypeId × Value → H) :
    ReturnsInHanded {} Try.checked os 4 .any (Rows.memoryRisesSpec.pre6 enc Try.prog Try.f4 Rows.memoryRisesRow.domain false) (Rows.memoryRisesSpec.post enc Try.prog Try.f4 false true false false) := by
  refine returnsInHanded_of_change (C := Try.checked) own started (by kernel_rfl) Try.func4
    (ChangeSpec.witness6 (enc := enc) (C := Try.checked) false ⟨#[], #[.slice none 0 0], []⟩ 8 (by kernel_rfl) (by kernel_rfl) (by kernel_rfl) (by kernel_rfl)) ?_
  intro W base args ds gs before hval0 hW hcnd _
  have hval : ∀ (j : Nat) t v, Try.f4.params[j]? = some t → args[j]? = some v → Value.okWide Try.prog W .any base t v := hval0
  have hW' := hW
  obtain ⟨p, q, hA0, hV, rfl, hfz, hnd⟩ := hW
  have hA : DataW.TrodAll enc Try.prog W 0 (fun _ => true) true Try.f4.params.toList args.toList ds p := hA0
  rw [Try.params4] at hA hval
  obtain ⟨v0, vs0, d0, ds0, p0, q0, hargs, rfl, rfl, h0, r0⟩ := trodAll_cons hA
  obtain ⟨rfl, rfl, rfl⟩ := trodAll_nil r0
  obtain rfl : args = #[v0] := by cases args; simp_all
  obtain ⟨rfl, rfl⟩ := trodVars_none hV
  obtain ⟨l0, hl0⟩ := arg_op (hval 0 22 v0 rfl rfl) h0
  clear hA0 hval0
  simp only [List.append_nil] at hW'
  refine (rises_any l0 v0 W hl0).mono fun e W' ⟨he, hg⟩ => ?_
  subst he
  exact ⟨_, rfl, post_true (f := Try.f4) (tb := 4) kids full (types_ok (by kernel_rfl)) rfl hW' rfl (by kernel_rfl) Try.underlying4 hg⟩

theorem over : Rows.memoryRisesRow.holds Try.pinned (OpenSpec.ofChange Rows.memoryRisesSpec) :=
  OpenClaim.holds_of_wide 4 Try.f4 rfl rfl rfl rfl rfl rfl rfl ⟨rfl, rfl, rfl, rfl, rfl⟩ rfl rfl rfl rfl rfl (by kernel_rfl) Try.func4 (by kernel_rfl)
    (of_decide_eq_true (by kernel_rfl)) (by unfold Func.isWrapper; first | (rw [if_pos (by decide +kernel)]; kernel_rfl) | (rw [if_neg (by decide +kernel)]; exact ⟨rfl, rfl⟩))
    (fun os started H enc _ => lifted os started H enc)

theorem proved : Rows.MemoryRisesSaid :=
  over
#print axioms proved
end Go.Proofs.Ytfhbnkdibhmmcaa.memoryRises
namespace Go.Proofs.Ytfhbnkdibhmmcaa
theorem memoryRises_holds : Rows.MemoryRisesSaid := memoryRises.proved
end Go.Proofs.Ytfhbnkdibhmmcaa
