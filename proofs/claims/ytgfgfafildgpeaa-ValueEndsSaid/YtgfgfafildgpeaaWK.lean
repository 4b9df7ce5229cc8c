/- ValueEnds: its walk with what its calls answer. -/
import Derived.Test.YtgfgfafildgpeaaWI
import Derived.Test.YtgfgfafildgpeaaWJ
namespace Go.Proofs.Ytgfgfafildgpeaa
set_option linter.unusedVariables false

/-- How a number of a kind compares with one that is counted in that kind. -/
theorem cp_kind {K B k n : Int} (s : ByteArray) (h : (K = 1 ∧ k = 1) ∨ (K = 2 ∧ (k = 1 ∨ k = 2))) :
    cpB K k = true ∧ (cpV K B ⟨#[]⟩ k n s ≤ 0 ↔ B ≤ wk K ⟨k, n, s⟩) ∧ (0 ≤ cpV K B ⟨#[]⟩ k n s ↔ wk K ⟨k, n, s⟩ ≤ B) ∧ (cpV K B ⟨#[]⟩ k n s = 0 ↔ B = wk K ⟨k, n, s⟩) := by
  have a : (K = 1 ∨ K = 2) ∧ (k = 1 ∨ k = 2) := by omega
  refine ⟨decide_eq_true (Or.inl a), ?_⟩
  unfold cpV
  rw [if_pos a]
  have f := cz_facts (wt K B) (wt k n)
  rcases h with ⟨rfl, rfl⟩ | ⟨rfl, hk⟩
  · have e : wk 1 ⟨1, n, s⟩ = n := rfl
    have e1 : wt 1 B = B * 10000 := rfl
    have e2 : wt 1 n = n * 10000 := rfl
    simp only [e, e1, e2] at f ⊢
    omega
  · have e : wk 2 ⟨k, n, s⟩ = wt k n := rfl
    have e1 : wt 2 B = B := rfl
    simp only [e, e1] at f ⊢
    omega

theorem ends_all (k n : Int) (s : ByteArray) (k' n' : Int) (s' : ByteArray) (k'' n'' : Int) (s'' : ByteArray) (_ : 0 ≤ k ∧ k ≤ 255) (_ : 0 ≤ k' ∧ k' ≤ 255) (_ : 0 ≤ k'' ∧ k'' ≤ 255) (hn : I64 n) (hn' : I64 n') (hn'' : I64 n'') (hs : s.size ≤ maxLen) (hs' : s'.size ≤ maxLen) (hs'' : s''.size ≤ maxLen) (w : World) :
    Calls Try.prog 7 #[vl k n s, vl k' n' s', vl k'' n'' s''] w fun e w' => e = .returned (.bool true) ∧ Old w w' := by
  have m1 : CB 8 #[vl k n s] (mayB k n s) := fun W => may_any k n s W
  have m2 : CB 8 #[vl k' n' s'] (mayB k' n' s') := fun W => may_any k' n' s' W
  have m3 : CB 8 #[vl k'' n'' s''] (mayB k'' n'' s'') := fun W => may_any k'' n'' s'' W
  by_cases hm : mayB k n s = true ∧ mayB k' n' s' = true ∧ mayB k'' n'' s'' = true
  · obtain ⟨h1, h2, h3⟩ := hm
    rw [h1] at m1
    rw [h2] at m2
    rw [h3] at m3
    have i3 : ∀ (x y z : Vl), I64 x.n → I64 y.n → I64 z.n → ∀ v ∈ [x, y, z], I64 v.n := by
      intro x y z hx hy hz v hv
      simp only [List.mem_cons, List.mem_nil_iff, or_false] at hv
      rcases hv with rfl | rfl | rfl
      · exact hx
      · exact hy
      · exact hz
    have l3 : ∀ x y z : Vl, [x, y, z].length ≤ 100000 := fun x y z => Nat.le_of_ble_eq_true rfl
    have L1 : CSE 26 [⟨k, n, s⟩, ⟨k', n', s'⟩, ⟨k'', n'', s''⟩] (fmT lsP [⟨k, n, s⟩, ⟨k', n', s'⟩, ⟨k'', n'', s''⟩]).1 (fmT lsP [⟨k, n, s⟩, ⟨k', n', s'⟩, ⟨k'', n'', s''⟩]).2.1 (fmT lsP [⟨k, n, s⟩, ⟨k', n', s'⟩, ⟨k'', n'', s''⟩]).2.2 := fun W v h => least_any _ v W h (l3 _ _ _) (i3 _ _ _ hn hn' hn'')
    have L2 : CSE 26 [⟨k'', n'', s''⟩, ⟨k, n, s⟩, ⟨k', n', s'⟩] (fmT lsP [⟨k, n, s⟩, ⟨k', n', s'⟩, ⟨k'', n'', s''⟩]).1 (fmT lsP [⟨k, n, s⟩, ⟨k', n', s'⟩, ⟨k'', n'', s''⟩]).2.1 (fmT lsP [⟨k, n, s⟩, ⟨k', n', s'⟩, ⟨k'', n'', s''⟩]).2.2 := fun W v h => by
      rw [← fls_cyc]; exact least_any _ v W h (l3 _ _ _) (i3 _ _ _ hn'' hn hn')
    have G1 : CSE 27 [⟨k, n, s⟩, ⟨k', n', s'⟩, ⟨k'', n'', s''⟩] (fmT msP [⟨k, n, s⟩, ⟨k', n', s'⟩, ⟨k'', n'', s''⟩]).1 (fmT msP [⟨k, n, s⟩, ⟨k', n', s'⟩, ⟨k'', n'', s''⟩]).2.1 (fmT lsP [⟨k, n, s⟩, ⟨k', n', s'⟩, ⟨k'', n'', s''⟩]).2.2 := fun W v h => by
      rw [fm_err lsP msP]; exact most_any _ v W h (l3 _ _ _) (i3 _ _ _ hn hn' hn'')
    have G2 : CSE 27 [⟨k', n', s'⟩, ⟨k'', n'', s''⟩, ⟨k, n, s⟩] (fmT msP [⟨k, n, s⟩, ⟨k', n', s'⟩, ⟨k'', n'', s''⟩]).1 (fmT msP [⟨k, n, s⟩, ⟨k', n', s'⟩, ⟨k'', n'', s''⟩]).2.1 (fmT lsP [⟨k, n, s⟩, ⟨k', n', s'⟩, ⟨k'', n'', s''⟩]).2.2 := fun W v h => by
      rw [fm_err lsP msP, ← fms_cyc]; exact most_any _ v W h (l3 _ _ _) (i3 _ _ _ hn' hn'' hn)
    have L3 : CSE 26 [⟨k, n, s⟩] (fmT lsP [⟨k, n, s⟩]).1 (fmT lsP [⟨k, n, s⟩]).2.1 (fmT lsP [⟨k, n, s⟩]).2.2 := fun W v h => least_any _ v W h (Nat.le_of_ble_eq_true rfl) (by intro x hx; simp only [List.mem_cons, List.mem_nil_iff, or_false] at hx; subst hx; exact hn)
    refine ends_walk k n s k' n' s' k'' n'' s'' w _ _ _ _ _ _ _ _ m1 m2 m3 L1 L2 G1 G2 L3 (fun hk => ?_) ?_
    · rw [fm_one s hk hn]
      exact ⟨rfl, rfl, rfl, may_s h1 (Or.inr hk)⟩
    · clear L1 L2 G1 G2 L3 m1 m2 m3
      have K3 := kd3 k n s k' n' s' k'' n'' s''
      have hin := kdV_in [⟨k, n, s⟩, ⟨k', n', s'⟩, ⟨k'', n'', s''⟩]
      obtain ⟨l, hl⟩ : ∃ l : List Vl, l = [⟨k, n, s⟩, ⟨k', n', s'⟩, ⟨k'', n'', s''⟩] := ⟨_, rfl⟩
      rw [← hl] at K3 hin ⊢
      have hlen : l.length = 3 := by rw [hl]; rfl
      -- where both are told of a kind K
      have main : ∀ K : Int, fmT lsP l = (K, bst lsP (wks K l) 3, 0) → fmT msP l = (K, bst msP (wks K l) 3, 0) → ((K = 1 ∧ k = 1) ∨ (K = 2 ∧ (k = 1 ∨ k = 2))) → ((K = 1 ∧ k' = 1) ∨ (K = 2 ∧ (k' = 1 ∨ k' = 2))) → ((K = 1 ∧ k'' = 1) ∨ (K = 2 ∧ (k'' = 1 ∨ k'' = 2))) → I64 (wks K l 0) → I64 (wks K l 1) → I64 (wks K l 2) →
          (¬ (fmT lsP l).2.2 = 0 ∧ (fmT lsP l).1 = 0 ∧ (fmT lsP l).2.1 = 0 ∧ (fmT msP l).1 = 0 ∧ (fmT msP l).2.1 = 0) ∨ ((fmT lsP l).2.2 = 0 ∧ (fmT lsP l).1 = 0 ∧ (fmT lsP l).2.1 = 0 ∧ (fmT msP l).1 = 0 ∧ (fmT msP l).2.1 = 0) ∨ ((fmT lsP l).2.2 = 0 ∧ ((fmT lsP l).1 = 1 ∨ (fmT lsP l).1 = 2) ∧ (fmT msP l).1 = (fmT lsP l).1 ∧ ∃ N0 N1 N2 M0 M1 M2 : Int, CP2 12 #[vl (fmT lsP l).1 (fmT lsP l).2.1 ⟨#[]⟩, vl k n s] N0 true ∧ CP2 12 #[vl (fmT lsP l).1 (fmT lsP l).2.1 ⟨#[]⟩, vl k' n' s'] N1 true ∧ CP2 12 #[vl (fmT lsP l).1 (fmT lsP l).2.1 ⟨#[]⟩, vl k'' n'' s''] N2 true ∧ CP2 12 #[vl (fmT lsP l).1 (fmT msP l).2.1 ⟨#[]⟩, vl k n s] M0 true ∧ CP2 12 #[vl (fmT lsP l).1 (fmT msP l).2.1 ⟨#[]⟩, vl k' n' s'] M1 true ∧ CP2 12 #[vl (fmT lsP l).1 (fmT msP l).2.1 ⟨#[]⟩, vl k'' n'' s''] M2 true ∧ N0 ≤ 0 ∧ N1 ≤ 0 ∧ N2 ≤ 0 ∧ 0 ≤ M0 ∧ 0 ≤ M1 ∧ 0 ≤ M2 ∧ (N0 = 0 ∨ N1 = 0 ∨ N2 = 0) ∧ (M0 = 0 ∨ M1 = 0 ∨ M2 = 0)) := by
        intro K e1 e2 q0 q1 q2 j0 j1 j2
        right; right
        rw [e1, e2]
        have b1 := bst_ls (wks K l)
        have b2 := bst_ms (wks K l)
        have w0 : wks K l 0 = wk K ⟨k, n, s⟩ := by rw [hl]; rfl
        have w1 : wks K l 1 = wk K ⟨k', n', s'⟩ := by rw [hl]; rfl
        have w2 : wks K l 2 = wk K ⟨k'', n'', s''⟩ := by rw [hl]; rfl
        have I1 : I64 (bst lsP (wks K l) 3) := by
          rcases b1.2.2.2 with h | h | h <;> rw [h] <;> assumption
        have I2 : I64 (bst msP (wks K l) 3) := by
          rcases b2.2.2.2 with h | h | h <;> rw [h] <;> assumption
        generalize bst lsP (wks K l) 3 = B at *
        generalize bst msP (wks K l) 3 = D at *
        rw [w0, w1, w2] at b1 b2
        have c0 := @cp_kind K B k n s q0
        have c1 := @cp_kind K B k' n' s' q1
        have c2 := @cp_kind K B k'' n'' s'' q2
        have d0 := @cp_kind K D k n s q0
        have d1 := @cp_kind K D k' n' s' q1
        have d2 := @cp_kind K D k'' n'' s'' q2
        refine ⟨rfl, by omega, rfl, cpV K B ⟨#[]⟩ k n s, cpV K B ⟨#[]⟩ k' n' s', cpV K B ⟨#[]⟩ k'' n'' s'', cpV K D ⟨#[]⟩ k n s, cpV K D ⟨#[]⟩ k' n' s', cpV K D ⟨#[]⟩ k'' n'' s'', ?_, ?_, ?_, ?_, ?_, ?_, c0.2.1.2 b1.1, c1.2.1.2 b1.2.1, c2.2.1.2 b1.2.2.1, d0.2.2.1.2 b2.1, d1.2.2.1.2 b2.2.1, d2.2.2.1.2 b2.2.2.1, ?_, ?_⟩
        · intro W; have := compare_any K B ⟨#[]⟩ k n s W I1 hn; rw [c0.1] at this; exact this
        · intro W; have := compare_any K B ⟨#[]⟩ k' n' s' W I1 hn'; rw [c1.1] at this; exact this
        · intro W; have := compare_any K B ⟨#[]⟩ k'' n'' s'' W I1 hn''; rw [c2.1] at this; exact this
        · intro W; have := compare_any K D ⟨#[]⟩ k n s W I2 hn; rw [d0.1] at this; exact this
        · intro W; have := compare_any K D ⟨#[]⟩ k' n' s' W I2 hn'; rw [d1.1] at this; exact this
        · intro W; have := compare_any K D ⟨#[]⟩ k'' n'' s'' W I2 hn''; rw [d2.1] at this; exact this
        · rcases b1.2.2.2 with h | h | h
          · exact Or.inl (c0.2.2.2.2 h)
          · exact Or.inr (Or.inl (c1.2.2.2.2 h))
          · exact Or.inr (Or.inr (c2.2.2.2.2 h))
        · rcases b2.2.2.2 with h | h | h
          · exact Or.inl (d0.2.2.2.2 h)
          · exact Or.inr (Or.inl (d1.2.2.2.2 h))
          · exact Or.inr (Or.inr (d2.2.2.2.2 h))
      have f1 : ∀ p, kdV l = 0 → fmT p l = (0, 0, kdE l) := fun p h => by unfold fmT; rw [if_pos h]
      rcases hin with h | ⟨h | h, he⟩
      · rw [f1 lsP h, f1 msP h]
        by_cases hE : kdE l = 0
        · exact Or.inr (Or.inl ⟨hE, rfl, rfl, rfl, rfl⟩)
        · exact Or.inl ⟨hE, rfl, rfl, rfl, rfl⟩
      · obtain ⟨r0, r1, r2⟩ := K3.1 h
        have e : ∀ p, fmT p l = (1, bst p (wks 1 l) 3, 0) := fun p => by unfold fmT; rw [if_neg (by rw [h]; decide), if_pos h, hlen]
        exact main 1 (e lsP) (e msP) (Or.inl ⟨rfl, r0⟩) (Or.inl ⟨rfl, r1⟩) (Or.inl ⟨rfl, r2⟩) (by rw [hl]; exact hn) (by rw [hl]; exact hn') (by rw [hl]; exact hn'')
      · obtain ⟨r0, r1, r2⟩ := K3.2 h
        by_cases hu : l.all (fun x => decide (I64 (wt x.k x.n))) = true
        · have e : ∀ p, fmT p l = (2, bst p (wks 2 l) 3, 0) := fun p => by unfold fmT; rw [if_neg (by rw [h]; decide), if_neg (by rw [h]; decide), if_pos hu, hlen]
          have hu' := hu
          rw [hl] at hu'
          simp only [List.all_cons, List.all_nil, Bool.and_true, Bool.and_eq_true, decide_eq_true_eq] at hu'
          exact main 2 (e lsP) (e msP) (Or.inr ⟨rfl, r0⟩) (Or.inr ⟨rfl, r1⟩) (Or.inr ⟨rfl, r2⟩) (by rw [hl]; exact hu'.1) (by rw [hl]; exact hu'.2.1) (by rw [hl]; exact hu'.2.2)
        · have e : ∀ p, fmT p l = (0, 0, 9) := fun p => by unfold fmT; rw [if_neg (by rw [h]; decide), if_neg (by rw [h]; decide), if_neg hu]
          rw [e lsP, e msP]
          exact Or.inl ⟨by decide, rfl, rfl, rfl, rfl⟩
  · refine ends_no k n s k' n' s' k'' n'' s'' w _ _ _ ?_ m1 m2 m3
    cases h1 : mayB k n s
    · exact Or.inl rfl
    · cases h2 : mayB k' n' s'
      · exact Or.inr (Or.inl rfl)
      · cases h3 : mayB k'' n'' s''
        · exact Or.inr (Or.inr rfl)
        · exact absurd ⟨h1, h2, h3⟩ hm

end Go.Proofs.Ytgfgfafildgpeaa
