/- What is proved: the statement NumNear of layer 1 (num): for every two int32 the law returns true (a product, a quotient of decimals is the nearest one; of two that are as near the even one), and its arguments read as before. Conditions: none beside the given row's. -/
import Derived.Test.YtajpjkajmliffaaRows
import Derived.Test.YtajpjkajmliffaaNear
import Derived.Test.YtajpjkajmliffaaH
import Derived.WalkKit
import Derived.ProofKit
import Derived.OpenShut
namespace Go.Proofs.Ytajpjkajmliffaa.numNear
open Go.ChangeShapes Go.WideShapes Go.ChangeAt Go.RowKit
set_option linter.unusedVariables false

theorem own : ownKnob Try.prog.godebug = none := by kernel_rfl

theorem prod_in (a b : Int) (ha : -2147483648 ≤ a ∧ a ≤ 2147483647) (hb : -2147483648 ≤ b ∧ b ≤ 2147483647) : a.natAbs * b.natAbs ≤ 4611686018427387904 := by
  have := Nat.mul_le_mul (show a.natAbs ≤ 2147483648 by omega) (show b.natAbs ≤ 2147483648 by omega)
  omega
theorem sgn_cases (a b : Int) (n : Nat) : (sgn a b n = n ∧ (a < 0 ↔ b < 0)) ∨ (sgn a b n = -n ∧ ¬ (a < 0 ↔ b < 0)) := by
  by_cases h : (a < 0 ↔ b < 0)
  · exact Or.inl ⟨sgn_same n h, h⟩
  · exact Or.inr ⟨sgn_other n h, h⟩
theorem even_neq (m : Int) (h : m % 2 = 0) : (m.tmod 2 != 0) = false ∧ (m.tmod 2 == 0) = true := by
  have e : m.tmod 2 = 0 := by
    rw [← Int.dvd_iff_tmod_eq_zero]; omega
  simp [e]
theorem near_mul (a b : Int) : ∀ m, m = sgn a b (rnd (a.natAbs * b.natAbs) 10000) → (-5000 < m * 10000 - a * b ∧ m * 10000 - a * b < 5000) ∨ (m * 10000 - a * b = -5000 ∧ (m.tmod 2 != 0) = false) ∨ (m * 10000 - a * b = 5000 ∧ (m.tmod 2 != 0) = false) := by
  intro m hm
  obtain ⟨n1, n2, n3⟩ := rnd_near (a.natAbs * b.natAbs) 10000 (by omega)
  have hp := sgn_mul a b
  have he : m % 2 = 0 → (m.tmod 2 != 0) = false := fun h => (even_neq m h).1
  generalize a.natAbs * b.natAbs = P at *
  generalize a * b = z at *
  generalize rnd P 10000 = r at *
  rcases sgn_cases a b r with ⟨h1, h2⟩ | ⟨h1, h2⟩
  · rw [sgn_same P h2] at hp
    rw [h1] at hm
    by_cases h3 : m * 10000 - z = -5000
    · exact Or.inr (Or.inl ⟨h3, he (by omega)⟩)
    · by_cases h4 : m * 10000 - z = 5000
      · exact Or.inr (Or.inr ⟨h4, he (by omega)⟩)
      · exact Or.inl (by omega)
  · rw [sgn_other P h2] at hp
    rw [h1] at hm
    by_cases h3 : m * 10000 - z = -5000
    · exact Or.inr (Or.inl ⟨h3, he (by omega)⟩)
    · by_cases h4 : m * 10000 - z = 5000
      · exact Or.inr (Or.inr ⟨h4, he (by omega)⟩)
      · exact Or.inl (by omega)
theorem sgn_back (a b : Int) (n : Nat) : sgn a b n * b = if a < 0 then -((n * b.natAbs : Nat) : Int) else ((n * b.natAbs : Nat) : Int) := by
  rw [Int.natCast_mul]
  unfold sgn
  by_cases ha : a < 0 <;> by_cases hb : b < 0
  · rw [if_pos (by simp [ha, hb]), if_pos ha, show (b.natAbs : Int) = -b by omega, Int.mul_neg, Int.neg_neg]
  · rw [if_neg (by simp [ha, hb]), if_pos ha, show (b.natAbs : Int) = b by omega, Int.neg_mul]
  · rw [if_neg (by simp [ha, hb]), if_neg ha, show (b.natAbs : Int) = -b by omega, Int.neg_mul, Int.mul_neg]
  · rw [if_pos (by simp [ha, hb]), if_neg ha, show (b.natAbs : Int) = b by omega]
theorem sgn_even (a b : Int) (n : Nat) (h : n % 2 = 0) : sgn a b n % 2 = 0 := by
  rcases sgn_cases a b n with ⟨h1, _⟩ | ⟨h1, _⟩ <;> rw [h1] <;> omega
theorem near_div (a b : Int) (h0 : ¬ b = 0) (B : Int) (hB : B = b.natAbs) : ∀ q, q = sgn a b (rnd (a.natAbs * 10000) b.natAbs) →
    ((2 * (q * b - a * 10000) < 0 ∧ -(2 * (q * b - a * 10000)) < B) ∨ (2 * (q * b - a * 10000) < 0 ∧ -(2 * (q * b - a * 10000)) = B ∧ (q.tmod 2 == 0) = true) ∨ (0 ≤ 2 * (q * b - a * 10000) ∧ 2 * (q * b - a * 10000) < B) ∨ (0 ≤ 2 * (q * b - a * 10000) ∧ 2 * (q * b - a * 10000) = B ∧ (q.tmod 2 == 0) = true)) ∧
      -(2 * (a.natAbs * 10000) + B) ≤ 2 * (q * b) ∧ 2 * (q * b) ≤ 2 * (a.natAbs * 10000) + B := by
  intro q hq
  obtain ⟨n1, n2, n3⟩ := rnd_near (a.natAbs * 10000) b.natAbs (by omega)
  have hb := sgn_back a b (rnd (a.natAbs * 10000) b.natAbs)
  have he := fun h => (even_neq _ (sgn_even a b (rnd (a.natAbs * 10000) b.natAbs) h)).2
  rw [← hq] at hb he
  generalize q * b = t at *
  generalize rnd (a.natAbs * 10000) b.natAbs = r at *
  generalize r * b.natAbs = u at *
  clear hq
  split at hb
  · refine ⟨?_, by omega, by omega⟩
    by_cases h1 : 2 * (t - a * 10000) < 0
    · by_cases h2 : -(2 * (t - a * 10000)) < B
      · exact Or.inl ⟨h1, h2⟩
      · exact Or.inr (Or.inl ⟨h1, by omega, he (n3 (by omega))⟩)
    · by_cases h2 : 2 * (t - a * 10000) < B
      · exact Or.inr (Or.inr (Or.inl ⟨by omega, h2⟩))
      · exact Or.inr (Or.inr (Or.inr ⟨by omega, by omega, he (n3 (by omega))⟩))
  · refine ⟨?_, by omega, by omega⟩
    by_cases h1 : 2 * (t - a * 10000) < 0
    · by_cases h2 : -(2 * (t - a * 10000)) < B
      · exact Or.inl ⟨h1, h2⟩
      · exact Or.inr (Or.inl ⟨h1, by omega, he (n3 (by omega))⟩)
    · by_cases h2 : 2 * (t - a * 10000) < B
      · exact Or.inr (Or.inr (Or.inl ⟨by omega, h2⟩))
      · exact Or.inr (Or.inr (Or.inr ⟨by omega, by omega, he (n3 (by omega))⟩))
theorem sgn_abs (a b : Int) (n : Nat) : -(n : Int) ≤ sgn a b n ∧ sgn a b n ≤ n := by
  rcases sgn_cases a b n with ⟨h1, _⟩ | ⟨h1, _⟩ <;> rw [h1] <;> omega

theorem walk (a0 : Int) (a1 : Int) (w0 : (Lit.int .i32 a0).wf = true) (w1 : (Lit.int .i32 a1).wf = true) (w : World) :
    Calls Try.prog 7 #[.int .i32 a0, .int .i32 a1] w fun e w' => e = .returned (.bool true) ∧ Grown w w' := by
  have ba := bounds_i32 w0
  have bb := bounds_i32 w1
  have ha : I64 a0 := by unfold I64; omega
  have hb : I64 a1 := by unfold I64; omega
  have hP := prod_in a0 a1 ba bb
  have hz := sgn_mul a0 a1
  have hz' := sgn_abs a0 a1 (a0.natAbs * a1.natAbs)
  have hr := rnd_le (a0.natAbs * a1.natAbs) 10000
  have hm := near_mul a0 a1 _ rfl
  have hs := sgn_abs a0 a1 (rnd (a0.natAbs * a1.natAbs) 10000)
  have c1 := fun w1 (h : Grown w w1) => onto (muldec_any a0 a1 w1 ha hb) h
  rw [hz] at hz'
  clear hz
  generalize rnd (a0.natAbs * a1.natAbs) 10000 = r at *
  generalize a0.natAbs * a1.natAbs = P at *
  have hmi : I64 (sgn a0 a1 r) := by unfold I64; omega
  rw [fitV_in hmi, fitE_in hmi] at c1
  by_cases h0 : a1 = 0
  · have c2 := fun w1 (h : Grown w w1) => onto (divdec_zero a0 w1) h
    exact core0 a0 a1 _ w c1 (by rw [h0]; exact c2) (by simpa using h0) ba.1 ba.2 bb.1 bb.2 (by omega) (by omega) (by omega) (by omega) hm
  · have c2 := fun w1 (h : Grown w w1) => onto (divdec_any a0 a1 w1 ha hb h0) h
    have hq := rnd_le (a0.natAbs * 10000) a1.natAbs
    have hd := Nat.div_le_self (a0.natAbs * 10000) a1.natAbs
    have hs2 := sgn_abs a0 a1 (rnd (a0.natAbs * 10000) a1.natAbs)
    have hqi : I64 (sgn a0 a1 (rnd (a0.natAbs * 10000) a1.natAbs)) := by unfold I64; omega
    rw [fitV_in hqi, fitE_in hqi] at c2
    obtain ⟨hn, hn1, hn2⟩ := near_div a0 a1 h0 a1.natAbs rfl _ rfl
    clear hq hd hs2 hqi
    generalize sgn a0 a1 (rnd (a0.natAbs * 10000) a1.natAbs) = q at *
    by_cases hp : 0 < a1
    · rw [show (a1.natAbs : Int) = a1 by omega] at hn hn1 hn2
      exact corePos a0 a1 _ q w c1 c2 hp (eq0_false h0) ba.1 ba.2 bb.1 bb.2 (by omega) (by omega) (by omega) (by omega) hm (by omega) (by omega) hn
    · rw [show (a1.natAbs : Int) = -a1 by omega] at hn hn1 hn2
      exact coreNeg a0 a1 _ q w c1 c2 (by omega) (eq0_false h0) ba.1 ba.2 bb.1 bb.2 (by omega) (by omega) (by omega) (by omega) hm (by omega) (by omega) hn

set_option maxRecDepth 100000 in
theorem lifted (os : Os) (started : os.Started) (H : Type) (enc : TypeId × Value → H) :
    ReturnsInHanded {} Try.checked os 7 .any (Rows.numNearSpec.pre6 enc Try.prog Try.f7 Rows.numNearRow.domain false) (Rows.numNearSpec.post enc Try.prog Try.f7 false true false false) := by
  refine returnsInHanded_of_change (C := Try.checked) own started (by kernel_rfl) Try.func7
    (ChangeSpec.witness6 (enc := enc) (C := Try.checked) false ⟨#[], #[.int .i32 0, .int .i32 0], []⟩ 8 (by kernel_rfl) (by kernel_rfl) (by kernel_rfl) (by kernel_rfl)) ?_
  intro W base args ds gs before hval0 hW hcnd _
  have hval : ∀ (j : Nat) t v, Try.f7.params[j]? = some t → args[j]? = some v → Value.okWide Try.prog W .any base t v := hval0
  have hW' := hW
  obtain ⟨p, q, hA0, hV, rfl, hfz, hnd⟩ := hW
  have hA : DataW.TrodAll enc Try.prog W 0 (fun _ => true) true Try.f7.params.toList args.toList ds p := hA0
  rw [Try.params7] at hA hval
  obtain ⟨v0, vs0, d0, ds0, p0, q0, hargs, rfl, rfl, h0, r0⟩ := trodAll_cons hA
  obtain ⟨v1, vs1, d1, ds1, p1, q1, rfl, rfl, rfl, h1, r1⟩ := trodAll_cons r0
  obtain ⟨rfl, rfl, rfl⟩ := trodAll_nil r1
  obtain rfl : args = #[v0, v1] := by cases args; simp_all
  obtain ⟨rfl, rfl⟩ := trodVars_none hV
  obtain ⟨a0, rfl, rfl, rfl, w0⟩ := open_int Try.underlying21 (hval 0 21 v0 rfl rfl) h0
  obtain ⟨a1, rfl, rfl, rfl, w1⟩ := open_int Try.underlying21 (hval 1 21 v1 rfl rfl) h1
  clear hA0 hval0
  simp only [List.append_nil] at hW'
  refine (walk a0 a1 w0 w1 W).mono fun e W' ⟨he, hg⟩ => ?_
  subst he
  exact ⟨_, rfl, post_of_same (pa := []) (pv := []) hW' (fun _ _ _ => (trodAll_cons_mk (shut_bool Try.underlying4 _) trodAll_mk0)) (fun sp _ => (trodAll_cons_mk (shut_int Try.underlying21 w0) (trodAll_cons_mk (shut_int Try.underlying21 w1) trodAll_mk0))) (fun _ _ => rfl) rfl
    (hg.frame _) hg.2.1 (ok_one (by kernel_rfl) rfl (okWide_bool_mk Try.underlying4 _))⟩

theorem over : Rows.numNearRow.holds Try.pinned (OpenSpec.ofChange Rows.numNearSpec) :=
  OpenClaim.holds_of_wide 7 Try.f7 rfl rfl rfl rfl rfl rfl rfl ⟨rfl, rfl, rfl, rfl, rfl⟩ rfl rfl rfl rfl rfl (by kernel_rfl) Try.func7 (by kernel_rfl)
    (of_decide_eq_true (by kernel_rfl)) (by unfold Func.isWrapper; first | (rw [if_pos (by decide +kernel)]; kernel_rfl) | (rw [if_neg (by decide +kernel)]; exact ⟨rfl, rfl⟩))
    (fun os started H enc _ => lifted os started H enc)

theorem proved : Rows.NumNearSaid :=
  over
#print axioms proved
end Go.Proofs.Ytajpjkajmliffaa.numNear
namespace Go.Proofs.Ytajpjkajmliffaa
theorem numNear_holds : Rows.NumNearSaid := numNear.proved
end Go.Proofs.Ytajpjkajmliffaa
