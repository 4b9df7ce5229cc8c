/- ValueWorth: what its calls answer. -/
import Derived.Test.YtgfgfafildgpeaaWA
import Derived.Test.YtgfgfafildgpeaaVM
namespace Go.Proofs.Ytgfgfafildgpeaa
set_option linter.unusedVariables false

theorem cp_trans (k n : Int) (s : ByteArray) (k' n' : Int) (s' : ByteArray) (k'' n'' : Int) (s'' : ByteArray) (h : cpB k k' = true) (g : cpB k' k'' = true) :
    cpB k k'' = true ∧ ¬ (cpV k n s k' n' s' ≤ 0 ∧ cpV k' n' s' k'' n'' s'' ≤ 0 ∧ 0 < cpV k n s k'' n'' s'') ∧ ¬ (0 ≤ cpV k n s k' n' s' ∧ 0 ≤ cpV k' n' s' k'' n'' s'' ∧ cpV k n s k'' n'' s'' < 0) := by
  unfold cpB at *
  have h' := of_decide_eq_true h
  have g' := of_decide_eq_true g
  clear h g
  by_cases a : (k = 1 ∨ k = 2) ∧ (k' = 1 ∨ k' = 2)
  · have b : (k' = 1 ∨ k' = 2) ∧ (k'' = 1 ∨ k'' = 2) := by omega
    have c : (k = 1 ∨ k = 2) ∧ (k'' = 1 ∨ k'' = 2) := by omega
    refine ⟨decide_eq_true (Or.inl c), ?_⟩
    unfold cpV
    rw [if_pos a, if_pos b, if_pos c]
    have f1 := cz_facts (wt k n) (wt k' n')
    have f2 := cz_facts (wt k' n') (wt k'' n'')
    have f3 := cz_facts (wt k n) (wt k'' n'')
    omega
  · have a2 : k = k' ∧ 3 ≤ k ∧ k ≤ 5 := by omega
    have b1 : ¬ ((k' = 1 ∨ k' = 2) ∧ (k'' = 1 ∨ k'' = 2)) := by omega
    have b2 : k' = k'' ∧ 3 ≤ k' ∧ k' ≤ 5 := by omega
    have c1 : ¬ ((k = 1 ∨ k = 2) ∧ (k'' = 1 ∨ k'' = 2)) := by omega
    have c2 : k = k'' ∧ 3 ≤ k ∧ k ≤ 5 := by omega
    refine ⟨decide_eq_true (Or.inr c2), ?_⟩
    unfold cpV
    rw [if_neg a, if_pos a2, if_neg b1, if_pos b2, if_neg c1, if_pos c2]
    have t1 := @od_trans k n s k' n' s' k'' n'' s''
    have t2 := @od_trans' k n s k' n' s' k'' n'' s''
    unfold od at t1 t2
    omega
theorem cp_self (k n : Int) (s : ByteArray) : cpV k n s k n s = 0 ∧ cpB k k = decide (1 ≤ k ∧ k ≤ 5) := by
  constructor
  · unfold cpV
    have := (cz_facts (wt k n) (wt k n)).2.2.2 rfl
    have e := od_self k n s
    unfold od at e
    split
    · exact this
    · split
      · exact e
      · rfl
  · unfold cpB
    exact decide_eq_decide.2 (by omega)

theorem worth_all (k n : Int) (s : ByteArray) (k' n' : Int) (s' : ByteArray) (k'' n'' : Int) (s'' : ByteArray) (_ : 0 ≤ k ∧ k ≤ 255) (_ : 0 ≤ k' ∧ k' ≤ 255) (_ : 0 ≤ k'' ∧ k'' ≤ 255) (hn : I64 n) (hn' : I64 n') (hn'' : I64 n'') (_ : s.size ≤ maxLen) (_ : s'.size ≤ maxLen) (_ : s''.size ≤ maxLen) (w : World) :
    Calls Try.prog 5 #[vl k n s, vl k' n' s', vl k'' n'' s''] w fun e w' => e = .returned (.bool true) ∧ Old w w' := by
  have c4 := fun W => compare_any k n s k n s W hn hn
  rw [(cp_self k n s).1] at c4
  refine worth_walk k n s k' n' s' k'' n'' s'' w _ _ _ _ _ _ _ (fun W => compare_any _ _ _ _ _ _ W hn hn') (fun W => compare_any _ _ _ _ _ _ W hn' hn'') (fun W => compare_any _ _ _ _ _ _ W hn hn'') c4 (cp_self k n s).2 ?_ (fun h g => cp_trans k n s k' n' s' k'' n'' s'' h g)
  rintro rfl
  have c5 := fun W => vadd_any 1 n s 2 0 ⟨#[]⟩ W hn (by decide)
  by_cases h : I64 (n * 10000)
  · right
    have e : adT 1 n 2 0 = (2, n * 10000, 0) := by
      show (if I64 (n * 10000) ∧ I64 0 then (nmK 2 (adE (n * 10000) 0), nmN (adV (n * 10000) 0) (adE (n * 10000) 0), adE (n * 10000) 0) else (0, 0, 9)) = _
      rw [if_pos ⟨h, by decide⟩]
      unfold adE adV
      rw [Int.add_zero, fitE_in h, fitV_in h]
      rfl
    rw [e] at c5
    refine ⟨n * 10000, Int.mul_tdiv_cancel _ (by decide), Int.mul_tmod_left _ _, hn, c5, fun W => ?_⟩
    have c6 := compare_any 1 n s 2 (n * 10000) ⟨#[]⟩ W hn h
    have e2 : cpV 1 n s 2 (n * 10000) ⟨#[]⟩ = 0 := by
      unfold cpV
      rw [if_pos (by omega)]
      exact (cz_facts _ _).2.2.2 rfl
    rw [e2] at c6
    exact c6
  · left
    have e : adT 1 n 2 0 = (0, 0, 9) := by
      show (if I64 (n * 10000) ∧ I64 0 then (nmK 2 (adE (n * 10000) 0), nmN (adV (n * 10000) 0) (adE (n * 10000) 0), adE (n * 10000) 0) else (0, 0, 9)) = _
      rw [if_neg (fun x => h x.1)]
    rw [e] at c5
    exact c5

end Go.Proofs.Ytgfgfafildgpeaa
