/- What is proved: the statement NumDoes of layer 1 (num): for every two int64 the law returns true (sums, differences, products, quotients of any two numbers, of any two decimals, are the document's, or refused), and its arguments read as before. Conditions: none beside the given row's. -/
import Derived.Test.YtajpjkajmliffaaRows
import Derived.Test.YtajpjkajmliffaaDoes
import Derived.WalkKit
import Derived.ProofKit
import Derived.OpenShut
import Derived.ChangeSame
namespace Go.Proofs.Ytajpjkajmliffaa.numDoes
open Go.ChangeShapes Go.WideShapes Go.ChangeAt Go.RowKit
set_option linter.unusedVariables false

theorem own : ownKnob Try.prog.godebug = none := by kernel_rfl

/-- The row's last step where nothing that was there has turned. -/
theorem post_of_old {H : Type} {enc : TypeId × Value → H} {P : Program} {f : Func} {s : ChangeSpec} {apart fresh handsOn again : Bool} {W W' : World} {args : Array Value} {v : Value} {ds gs : List (DataW H)} {before pa pv : List MemPlace}
    (hW : DataW.Whole enc P f.params.toList s.vars apart W args.toList ds gs before)
    (hres : ∀ (b : Nat) (sp : Nat → Bool) (hd : Bool), DataW.TrodAll enc P W' b sp hd f.resultTypes.toList (v.resultList f.resultTypes.size) (s.fn H (ds ++ gs)).results [])
    (hargs : ∀ sp : Nat → Bool, (∀ p ∈ before, sp p.block = true) → DataW.TrodAll enc P W' 0 sp true f.params.toList args.toList (s.fn H (ds ++ gs)).args pa)
    (hvars : ∀ sp : Nat → Bool, (∀ p ∈ before, sp p.block = true) → DataW.TrodVars enc P W' sp s.vars (s.fn H (ds ++ gs)).vars pv)
    (hps : before = pa ++ pv) (ho : Old W W')
    (hok : ∀ (j : Nat) (t : TypeId) (r : Value), f.resultTypes[j]? = some t → (v.resultList f.resultTypes.size)[j]? = some r → Value.okWide P W' .any 0 t r) :
    s.post enc P f apart fresh handsOn again W args v W' := by
  have hlt : ∀ p ∈ before, p.block < W.heap.size := fun p hp => hW.lt p hp
  have hin : ∀ p ∈ before, (fun b => decide (b < W.heap.size)) p.block = true := fun p hp => decide_eq_true (hlt p hp)
  have hpart : ∀ p ∈ before, p ∈ pa ∨ p ∈ pv := fun p hp => List.mem_append.1 (hps ▸ hp)
  refine ⟨ds, gs, before, [], pa, pv, hW, hres _ _ _, hargs _ hin, hvars _ hin, World.keptBut_mono (fun p hp => ⟨hp, Or.inr (hpart p hp)⟩) (ho.frame (· ∈ before)), fun _ => ?_⟩
  obtain ⟨_, _, _, _, _, hz, hn⟩ := hW
  refine ⟨hok, _, _, ([] ++ pa) ++ pv, ⟨[] ++ pa, pv, trodAll_append (hargs _ (fun _ _ => rfl)) (hres _ _ _), hvars _ (fun _ _ => rfl), rfl, fun b off hp => ?_, fun ha => ?_⟩, fun p hp _ => ?_⟩
  · have hb : MemPlace.cell b off ∈ before := by rw [hps]; simpa using hp
    rw [ho.frozen (hlt _ hb)]
    exact hz b off hb
  · have := hn ha
    rw [hps] at this
    simpa using this
  · rw [hps]
    simpa using hp

theorem even_mul (a b : Int) : sgn (a * b) 10000 (rnd (a * b).natAbs (10000 : Int).natAbs) = sgn a b (rnd (a.natAbs * b.natAbs) 10000) := by
  rw [Int.natAbs_mul, show (10000 : Int).natAbs = 10000 from rfl]
  have e := sgn_mul a b
  by_cases h : (a < 0 ↔ b < 0)
  · rw [sgn_same _ h] at e
    rw [sgn_same _ h, sgn_same _ (by omega)]
  · rw [sgn_other _ h] at e
    rw [sgn_other _ h]
    by_cases h0 : a.natAbs * b.natAbs = 0
    · rw [h0] at e ⊢
      have e2 : rnd 0 10000 = 0 := by decide
      rw [e2, sgn_same _ (by omega)]
      rfl
    · rw [sgn_other _ (by omega)]
theorem even_div (a b : Int) : sgn (a * 10000) b (rnd (a * 10000).natAbs b.natAbs) = sgn a b (rnd (a.natAbs * 10000) b.natAbs) := by
  rw [abs_scale]
  unfold sgn
  have e : a * 10000 < 0 ↔ a < 0 := by omega
  simp only [e]
theorem p19 : p10 19 = 10000000000000000000000000000000000000000000000000000000000000000000000000000 := by decide
theorem lo_of {n : Int} (h : n.natAbs ≤ 100000000000000000000000000000000000000000000000000) : Lo n := by
  unfold Lo
  rw [p19]
  omega
theorem lo_sgn (a b : Int) (k : Nat) (h : k ≤ 100000000000000000000000000000000000000000000000000) : Lo (sgn a b k) := by
  refine lo_of ?_
  unfold sgn
  split <;> omega
theorem abs_prod {a b : Int} (ha : I64 a) (hb : I64 b) : a.natAbs * b.natAbs ≤ 85070591730234615865843651857942052864 := by
  have h1 := abs_lt ha
  have h2 := abs_lt hb
  exact Nat.le_trans (Nat.mul_le_mul h1 h2) (by decide)
theorem cp_of {F : FuncId} {xs : Array Value} {V E : Int} (h : ∀ W, Calls Try.prog F xs W fun e w' => e = pr V E ∧ Grown W w') : CP F xs V E := fun W => (h W).mono fun _ _ ⟨he, hg⟩ => ⟨he, Old.ofGrown hg⟩
theorem cp_same {F : FuncId} {xs : Array Value} {V E : Int} (h : ∀ W, Calls Try.prog F xs W fun e w' => e = pr V E ∧ W = w') : CP F xs V E := fun W => (h W).mono fun _ _ ⟨he, hg⟩ => ⟨he, hg ▸ Old.refl _⟩
theorem ct_of {n : Int} (h : Lo n) : CT (fitV n) (fitE n) n := fun W z hz => toldI n z W hz h

theorem walk (a0 : Int) (a1 : Int) (w0 : (Lit.int .i64 a0).wf = true) (w1 : (Lit.int .i64 a1).wf = true) (w : World) :
    Calls Try.prog 3 #[.int .i64 a0, .int .i64 a1] w fun e w' => e = .returned (.bool true) ∧ Old w w' := by
  have ha := wf_i64 w0
  have hb := wf_i64 w1
  have la := i64_lo ha
  have lb := i64_lo hb
  have hu : I64 10000 := by decide
  have lu := i64_lo hu
  have hP := abs_prod ha hb
  have aa := abs_lt ha
  have ab := abs_lt hb
  have l1 : Lo (a0 + a1) := lo_of (by omega)
  have l2 : Lo (a0 - a1) := lo_of (by omega)
  have l3 : Lo (a0 * a1) := lo_of (by rw [Int.natAbs_mul]; omega)
  have l4 : Lo (a0 * 10000) := lo_of (by omega)
  have e5 := even_mul a0 a1
  have l5 : Lo (sgn (a0 * a1) 10000 (rnd (a0 * a1).natAbs (10000 : Int).natAbs)) := by
    rw [e5]
    refine lo_sgn _ _ _ ?_
    have := rnd_le (a0.natAbs * a1.natAbs) 10000
    have := Nat.div_le_self (a0.natAbs * a1.natAbs) 10000
    omega
  have p5 : CP 13 #[.int .i64 a0, .int .i64 a1] (fitV (sgn (a0 * a1) 10000 (rnd (a0 * a1).natAbs (10000 : Int).natAbs))) (fitE (sgn (a0 * a1) 10000 (rnd (a0 * a1).natAbs (10000 : Int).natAbs))) := by
    rw [e5]; exact cp_of fun W => muldec_any a0 a1 W ha hb
  have e8 := even_div a0 a1
  have l8 : Lo (sgn (a0 * 10000) a1 (rnd (a0 * 10000).natAbs a1.natAbs)) := by
    rw [e8]
    refine lo_sgn _ _ _ ?_
    have := rnd_le (a0.natAbs * 10000) a1.natAbs
    have := Nat.div_le_self (a0.natAbs * 10000) a1.natAbs
    omega
  refine core a0 a1 _ _ _ _ _ _ _ _ _ _ (a0 + a1) (a0 - a1) (a0 * a1) (a0 * 10000) _ (fitV (a0.tdiv a1)) (fitE (a0.tdiv a1)) (fitV (a0.tmod a1)) (fitE (a0.tmod a1)) (fitV (sgn (a0 * 10000) a1 (rnd (a0 * 10000).natAbs a1.natAbs))) (fitE (sgn (a0 * 10000) a1 (rnd (a0 * 10000).natAbs a1.natAbs))) w
    (fun W => ofI a0 W ha) (fun W => ofI a1 W hb) (fun W => ofI 10000 W hu)
    (cp_same fun W => add_any a0 a1 W ha hb) (cp_same fun W => sub_any a0 a1 W ha hb) (cp_of fun W => mul_any a0 a1 W ha hb) (cp_of fun W => scale_any a0 W ha) p5
    (fun W x y h1 h2 => addI a0 a1 x y W h1 h2 la.sm lb.sm) (fun W x y h1 h2 => subI a0 a1 x y W h1 h2 la.sm lb.sm) (fun W x y h1 h2 => mulI a0 a1 x y W h1 h2 la lb) (fun W x y h1 h2 => mulI a0 10000 x y W h1 h2 la lu) (fun W x y h1 h2 => evenI (a0 * a1) 10000 x y W h1 h2 l3 lu (by decide))
    (ct_of l1) (ct_of l2) (ct_of l3) (ct_of l4) (ct_of l5) (a0.tdiv a1) (a0.tmod a1) (sgn (a0 * 10000) a1 (rnd (a0 * 10000).natAbs a1.natAbs)) ?_
    (fun W => (known_any W).mono fun _ _ ⟨he, hg⟩ => ⟨he, Old.ofGrown hg⟩)
  by_cases h0 : a1 = 0
  · subst h0
    exact Or.inl ⟨rfl, cp_of fun W => quo_zero a0 W, cp_same fun W => mod_zero a0 W, cp_of fun W => divdec_zero a0 W⟩
  · have er : (a0.tmod a1).natAbs = a0.natAbs % a1.natAbs := Int.natAbs_tmod a0 a1
    have eq : (a0.tdiv a1).natAbs = a0.natAbs / a1.natAbs := Int.natAbs_tdiv a0 a1
    have hr := tmod_size a0 a1
    have hs := tmod_side a0 a1
    have hq := Nat.div_le_self a0.natAbs a1.natAbs
    have ir : I64 (a0.tmod a1) := by
      unfold I64 at *
      by_cases h : 0 ≤ a0
      · have := hs.1 h; omega
      · have := hs.2 (by omega); omega
    have p8 : CP 21 #[.int .i64 a0, .int .i64 a1] (fitV (sgn (a0 * 10000) a1 (rnd (a0 * 10000).natAbs a1.natAbs))) (fitE (sgn (a0 * 10000) a1 (rnd (a0 * 10000).natAbs a1.natAbs))) := by
      rw [e8]; exact cp_of fun W => divdec_any a0 a1 W ha hb h0
    have p7 : CP 20 #[.int .i64 a0, .int .i64 a1] (fitV (a0.tmod a1)) (fitE (a0.tmod a1)) := by
      rw [fitV_in ir, fitE_in ir]; exact cp_same fun W => mod_any a0 a1 W (eq0_false h0) h0
    exact Or.inr ⟨eq0_false h0, cp_of fun W => quo_any a0 a1 W ha hb h0, p7, p8, fun W x y h1 h2 => quoI a0 a1 x y W h1 h2 la lb h0, ct_of (lo_of (by rw [eq]; omega)), ct_of (i64_lo ir), fun W x y h1 h2 => evenI (a0 * 10000) a1 x y W h1 h2 l4 lb h0, ct_of l8⟩

set_option maxRecDepth 100000 in
theorem lifted (os : Os) (started : os.Started) (H : Type) (enc : TypeId × Value → H) :
    ReturnsInHanded {} Try.checked os 3 .any (Rows.numDoesSpec.pre6 enc Try.prog Try.f3 Rows.numDoesRow.domain false) (Rows.numDoesSpec.post enc Try.prog Try.f3 false true false false) := by
  refine returnsInHanded_of_change (C := Try.checked) own started (by kernel_rfl) Try.func3
    (ChangeSpec.witness6 (enc := enc) (C := Try.checked) false ⟨#[], #[.int .i64 0, .int .i64 0], []⟩ 8 (by kernel_rfl) (by kernel_rfl) (by kernel_rfl) (by kernel_rfl)) ?_
  intro W base args ds gs before hval0 hW hcnd _
  have hval : ∀ (j : Nat) t v, Try.f3.params[j]? = some t → args[j]? = some v → Value.okWide Try.prog W .any base t v := hval0
  have hW' := hW
  obtain ⟨p, q, hA0, hV, rfl, hfz, hnd⟩ := hW
  have hA : DataW.TrodAll enc Try.prog W 0 (fun _ => true) true Try.f3.params.toList args.toList ds p := hA0
  rw [Try.params3] at hA hval
  obtain ⟨v0, vs0, d0, ds0, p0, q0, hargs, rfl, rfl, h0, r0⟩ := trodAll_cons hA
  obtain ⟨v1, vs1, d1, ds1, p1, q1, rfl, rfl, rfl, h1, r1⟩ := trodAll_cons r0
  obtain ⟨rfl, rfl, rfl⟩ := trodAll_nil r1
  obtain rfl : args = #[v0, v1] := by cases args; simp_all
  obtain ⟨rfl, rfl⟩ := trodVars_none hV
  obtain ⟨a0, rfl, rfl, rfl, w0⟩ := open_int Try.underlying2 (hval 0 2 v0 rfl rfl) h0
  obtain ⟨a1, rfl, rfl, rfl, w1⟩ := open_int Try.underlying2 (hval 1 2 v1 rfl rfl) h1
  clear hA0 hval0
  simp only [List.append_nil] at hW'
  refine (walk a0 a1 w0 w1 W).mono fun e W' ⟨he, hg⟩ => ?_
  subst he
  exact ⟨_, rfl, post_of_old (pa := []) (pv := []) hW' (fun _ _ _ => (trodAll_cons_mk (shut_bool Try.underlying4 _) trodAll_mk0)) (fun sp _ => (trodAll_cons_mk (shut_int Try.underlying2 w0) (trodAll_cons_mk (shut_int Try.underlying2 w1) trodAll_mk0))) (fun _ _ => rfl) rfl
    hg (ok_one (by kernel_rfl) rfl (okWide_bool_mk Try.underlying4 _))⟩

theorem over : Rows.numDoesRow.holds Try.pinned (OpenSpec.ofChange Rows.numDoesSpec) :=
  OpenClaim.holds_of_wide 3 Try.f3 rfl rfl rfl rfl rfl rfl rfl ⟨rfl, rfl, rfl, rfl, rfl⟩ rfl rfl rfl rfl rfl (by kernel_rfl) Try.func3 (by kernel_rfl)
    (of_decide_eq_true (by kernel_rfl)) (by unfold Func.isWrapper; first | (rw [if_pos (by decide +kernel)]; kernel_rfl) | (rw [if_neg (by decide +kernel)]; exact ⟨rfl, rfl⟩))
    (fun os started H enc _ => lifted os started H enc)

theorem proved : Rows.NumDoesSaid :=
  over
#print axioms proved
end Go.Proofs.Ytajpjkajmliffaa.numDoes
namespace Go.Proofs.Ytajpjkajmliffaa
theorem numDoes_holds : Rows.NumDoesSaid := numDoes.proved
end Go.Proofs.Ytajpjkajmliffaa
