/- What is proved: the statement EvalLogic of layer 10 (eval), the tied card: for every two texts, every value and list of bindings the law returns true (where they have a tree, not of two texts and-ed answers as the two not-ed and or-ed do, = as not of <>, and < as not of >=), and its arguments read as before. Conditions: none beside the given row's: what the listed variables of the library's hold is tied to the program's text by the given tie. -/
import Derived.Test.YtmkmafkkpigfpaaGreatDoorCF
namespace Go.Proofs.YtmkmafkkpigfpaaGreatDoor.V.evalLogic
open Go.ChangeShapes Go.WideShapes Go.ChangeAt Go.RowKit
set_option linter.unusedVariables false
set_option maxRecDepth 100000 in
theorem lifted (os : Os) (started : os.Started) (H : Type) (enc : TypeId × Value → H) :
    ReturnsInHanded {} Tryz.checked os 4 .any (fun w args => (Rows.evalLogicSpec.pre enc Tryz.prog Tryz.f4 Rows.evalLogicRow.domain false w args ∧ laidMetH Tryz.prog Rows.evalLogicRow.laid w) ∧ sizedMet enc Tryz.prog Tryz.f4 (OpenSpec.ofChange Rows.evalLogicSpec) false w args)
      (Rows.evalLogicSpec.post enc Tryz.prog Tryz.f4 false true false false) := by
  refine change_laid (C := Tryz.checked) (X := fun w _ => laidMetH Tryz.prog Rows.evalLogicRow.laid w) (fun _ _ _ hh h => h.of_heap hh) own started (by kernel_rfl) Tryz.func4
    (ChangeSpec.witness_shaped (enc := enc) (C := Tryz.checked) (os := os) (X := fun w _ => laidMetH Tryz.prog Rows.evalLogicRow.laid w) false (World.laidAll Tryz.prog os Rows.evalLogicRow.laid) #[.string ⟨#[]⟩, .string ⟨#[]⟩, .agg #[.int .u8 0, .int .i64 0, .string ⟨#[]⟩], .slice none 0 0] 8 (World.laidAll_os _ _ _)
      (World.shaped_of_ZipB (by kernel_rfl) (by kernel_rfl)) (by kernel_rfl) (by kernel_rfl) (by kernel_rfl)
      (by rw [MakeChecks.laidMetH_plain _ _ _ (by kernel_rfl)]; exact laidMet_laidAll _ (by kernel_rfl) (by kernel_rfl))) ?_
  intro W base args ds gs before hval0 hW hL hsh
  have hval : ∀ (j : Nat) t v, Tryz.f4.params[j]? = some t → args[j]? = some v → Value.okWide Tryz.prog W .any base t v := hval0
  have hW' := hW
  obtain ⟨p, q, hA0, hV, rfl, hfz, hnd⟩ := hW
  have hA : DataW.TrodAll enc Tryz.prog W 0 (fun _ => true) true Tryz.f4.params.toList args.toList ds p := hA0
  rw [Tryz.params4] at hA hval
  obtain ⟨v0, vs0, d0, ds0, p0, q0, hargs, rfl, rfl, h0, r0⟩ := trodAll_cons hA
  obtain ⟨v1, vs1, d1, ds1, p1, q1, rfl, rfl, rfl, h1, r1⟩ := trodAll_cons r0
  obtain ⟨v2, vs2, d2, ds2, p2, q2, rfl, rfl, rfl, h2, r2⟩ := trodAll_cons r1
  obtain ⟨v3, vs3, d3, ds3, p3, q3, rfl, rfl, rfl, h3, r3⟩ := trodAll_cons r2
  obtain ⟨rfl, rfl, rfl⟩ := trodAll_nil r3
  obtain rfl : args = #[v0, v1, v2, v3] := by cases args; simp_all
  obtain ⟨rfl, rfl⟩ := trodVars_none hV
  obtain ⟨s0, rfl, rfl, rfl, ws0⟩ := Go.ChangeMaps.open_string Tryz.underlying9 (hval 0 9 v0 rfl rfl) h0
  obtain ⟨s1, rfl, rfl, rfl, ws1⟩ := Go.ChangeMaps.open_string Tryz.underlying9 (hval 1 9 v1 rfl rfl) h1
  obtain ⟨k2, n2, s2, rfl, rfl, rfl, wk2, wn2, ws2⟩ := open_vl (hval 2 26 v2 rfl rfl) h2
  obtain ⟨l3, hl3, wl3⟩ := arg_bs (hval 3 39 v3 rfl rfl) h3
  clear hA0 hval0
  simp only [List.append_nil] at hW'
  have hL' : laidMetH Tryz.prog Rows.evalNamesRow.laid W := hL
  refine (logic_any s0 s1 ⟨k2, n2, s2⟩ l3 v3 W (env_of hL' hsh) hl3 (bounds_i64 wn2) (fun b hb => bounds_i64 (wl3 b hb))).mono fun e W' ⟨he, hg⟩ => ?_
  subst he
  exact ⟨_, rfl, post_true (f := Tryz.f4) (tb := 4) kids full (types_ok (by kernel_rfl)) rfl hW' rfl (by kernel_rfl) Tryz.underlying4 hg⟩
theorem over : Rows.evalLogicRow.holds Tryz.pinned (OpenSpec.ofChange Rows.evalLogicSpec) :=
  OpenClaim.holds_of_wide 4 Tryz.f4 rfl rfl rfl rfl rfl rfl rfl ⟨rfl, rfl, rfl, rfl, rfl⟩ rfl rfl rfl rfl rfl (by kernel_rfl) Tryz.func4 (by kernel_rfl)
    (of_decide_eq_true (by kernel_rfl)) (by unfold Func.isWrapper; first | (rw [if_pos (by decide +kernel)]; kernel_rfl) | (rw [if_neg (by decide +kernel)]; exact ⟨rfl, rfl⟩))
    (fun os started H enc _ => lifted os started H enc)
theorem proved : Rows.EvalLogicCardSaid :=
  Claim7.holds_tied_plain_at .later [] [.data, .pinned] true (true, "30d51ae469624878a86cb9a6fa263127d66d2527cd3441b94c3b728c65a1ac25") false
    over (fun _ h => by cases h) (by kernel_rfl) (fun _ h => by cases h) evalLogic_row_tie rfl ⟨rfl, rfl⟩ (by kernel_rfl) rfl
    (fun f fn hf hfn => by
      obtain rfl : f = 4 := Option.some.inj ((show Tryz.prog.funcNamed "witan/witanlaw10.EvalLogic" = some 4 by kernel_rfl).symm.trans hf) |>.symm
      obtain rfl : fn = Tryz.f4 := (Option.some.inj (Tryz.func4.symm.trans hfn)).symm
      exact ⟨by kernel_rfl, fun j t ht => by
        rw [Tryz.params4] at ht
        have hm : t ∈ [9, 9, 26, 39] := by simpa using Array.mem_of_getElem? ht
        have hall : ([9, 9, 26, 39].all fun u => !Tryz.prog.wantsStandIn u) = true := by kernel_rfl
        exact (show Tryz.prog.wantsStandIn t = false by simpa using List.all_eq_true.1 hall t hm)⟩)
    (by kernel_rfl)
#print axioms proved
end Go.Proofs.YtmkmafkkpigfpaaGreatDoor.V.evalLogic
namespace Go.Proofs.YtmkmafkkpigfpaaGreatDoor
theorem evalLogic_holds : Rows.EvalLogicCardSaid := V.evalLogic.proved
end Go.Proofs.YtmkmafkkpigfpaaGreatDoor
