/- ValueEnds: plain facts on the least and the greatest of three. -/
import Derived.Test.YtgfgfafildgpeaaVV
import Derived.Test.YtgfgfafildgpeaaVM
import Derived.Test.YtgfgfafildgpeaaWD
namespace Go.Proofs.Ytgfgfafildgpeaa
set_option linter.unusedVariables false

theorem bst3 (p : Int → Int → Bool) (f : Nat → Int) : bst p f 3 = if p (f 2) (if p (f 1) (f 0) = true then f 1 else f 0) = true then f 2 else (if p (f 1) (f 0) = true then f 1 else f 0) := rfl
theorem bst_ls (f : Nat → Int) : bst lsP f 3 ≤ f 0 ∧ bst lsP f 3 ≤ f 1 ∧ bst lsP f 3 ≤ f 2 ∧ (bst lsP f 3 = f 0 ∨ bst lsP f 3 = f 1 ∨ bst lsP f 3 = f 2) := by
  rw [bst3]
  unfold lsP
  simp only [decide_eq_true_eq]
  split <;> split at * <;> omega
theorem bst_ms (f : Nat → Int) : f 0 ≤ bst msP f 3 ∧ f 1 ≤ bst msP f 3 ∧ f 2 ≤ bst msP f 3 ∧ (bst msP f 3 = f 0 ∨ bst msP f 3 = f 1 ∨ bst msP f 3 = f 2) := by
  rw [bst3]
  unfold msP
  simp only [decide_eq_true_eq]
  split <;> split at * <;> omega
theorem kdV_cyc (x y z : Vl) : kdV [z, x, y] = kdV [x, y, z] := by
  unfold kdV
  simp only [List.all_cons, List.all_nil, Bool.and_true, List.any_cons, List.any_nil, Bool.or_false, List.length_cons, List.length_nil]
  cases okK x.k <;> cases okK y.k <;> cases okK z.k <;> cases x.k == 0 <;> cases y.k == 0 <;> cases z.k == 0 <;> cases x.k == 2 <;> cases y.k == 2 <;> cases z.k == 2 <;> rfl
theorem kdE_cyc (x y z : Vl) : kdE [z, x, y] = kdE [x, y, z] := by
  unfold kdE
  simp only [List.all_cons, List.all_nil, Bool.and_true]
  cases okK x.k <;> cases okK y.k <;> cases okK z.k <;> rfl
theorem i64_cyc (x y z : Vl) : [z, x, y].all (fun x => decide (I64 (wt x.k x.n))) = [x, y, z].all (fun x => decide (I64 (wt x.k x.n))) := by
  simp only [List.all_cons, List.all_nil, Bool.and_true]
  cases decide (I64 (wt x.k x.n)) <;> cases decide (I64 (wt y.k y.n)) <;> cases decide (I64 (wt z.k z.n)) <;> rfl
theorem ls_cyc (K : Int) (x y z : Vl) : bst lsP (wks K [z, x, y]) 3 = bst lsP (wks K [x, y, z]) 3 := by
  have a := bst_ls (wks K [z, x, y])
  have b := bst_ls (wks K [x, y, z])
  have e0 : wks K [z, x, y] 0 = wk K z := rfl
  have e1 : wks K [z, x, y] 1 = wk K x := rfl
  have e2 : wks K [z, x, y] 2 = wk K y := rfl
  have f0 : wks K [x, y, z] 0 = wk K x := rfl
  have f1 : wks K [x, y, z] 1 = wk K y := rfl
  have f2 : wks K [x, y, z] 2 = wk K z := rfl
  rw [e0, e1, e2] at a
  rw [f0, f1, f2] at b
  omega
theorem ms_cyc (K : Int) (x y z : Vl) : bst msP (wks K [z, x, y]) 3 = bst msP (wks K [x, y, z]) 3 := by
  have a := bst_ms (wks K [z, x, y])
  have b := bst_ms (wks K [x, y, z])
  have e0 : wks K [z, x, y] 0 = wk K z := rfl
  have e1 : wks K [z, x, y] 1 = wk K x := rfl
  have e2 : wks K [z, x, y] 2 = wk K y := rfl
  have f0 : wks K [x, y, z] 0 = wk K x := rfl
  have f1 : wks K [x, y, z] 1 = wk K y := rfl
  have f2 : wks K [x, y, z] 2 = wk K z := rfl
  rw [e0, e1, e2] at a
  rw [f0, f1, f2] at b
  omega
theorem fls_cyc (x y z : Vl) : fmT lsP [z, x, y] = fmT lsP [x, y, z] := by
  unfold fmT
  rw [kdV_cyc, kdE_cyc, i64_cyc, show [z, x, y].length = 3 from rfl, show [x, y, z].length = 3 from rfl, ls_cyc 1 x y z, ls_cyc 2 x y z]
theorem fms_cyc (x y z : Vl) : fmT msP [y, z, x] = fmT msP [x, y, z] := by
  symm
  unfold fmT
  rw [kdV_cyc, kdE_cyc, i64_cyc, show [y, z, x].length = 3 from rfl, show [x, y, z].length = 3 from rfl, ms_cyc 1 y z x, ms_cyc 2 y z x]
/-- The error hangs on no order. -/
theorem fm_err (p q : Int → Int → Bool) (l : List Vl) : (fmT p l).2.2 = (fmT q l).2.2 := by
  unfold fmT
  split
  · rfl
  · split
    · rfl
    · split <;> rfl
theorem fm_one {k n : Int} (s : ByteArray) (hk : k = 1 ∨ k = 2) (hn : I64 n) : fmT lsP [⟨k, n, s⟩] = (k, n, 0) := by
  rcases hk with rfl | rfl
  · rfl
  · have e : ([⟨2, n, s⟩] : List Vl).all (fun x => decide (I64 (wt x.k x.n))) = true := by
      simp only [List.all_cons, List.all_nil, Bool.and_true]
      exact decide_eq_true hn
    unfold fmT
    rw [if_neg (show ¬ kdV [⟨2, n, s⟩] = 0 from by show ¬ (2 : Int) = 0; decide), if_neg (show ¬ kdV [⟨2, n, s⟩] = 1 from by show ¬ (2 : Int) = 1; decide), if_pos e]
    rfl
theorem kd3 (k n : Int) (s : ByteArray) (k' n' : Int) (s' : ByteArray) (k'' n'' : Int) (s'' : ByteArray) :
    (kdV [⟨k, n, s⟩, ⟨k', n', s'⟩, ⟨k'', n'', s''⟩] = 1 → k = 1 ∧ k' = 1 ∧ k'' = 1) ∧ (kdV [⟨k, n, s⟩, ⟨k', n', s'⟩, ⟨k'', n'', s''⟩] = 2 → (k = 1 ∨ k = 2) ∧ (k' = 1 ∨ k' = 2) ∧ (k'' = 1 ∨ k'' = 2)) := by
  have none : (okK k = false ∨ okK k' = false ∨ okK k'' = false) → kdV [⟨k, n, s⟩, ⟨k', n', s'⟩, ⟨k'', n'', s''⟩] = 0 := by
    intro h
    unfold kdV
    rcases h with h | h | h <;> simp [h]
  by_cases h : okK k = false ∨ okK k' = false ∨ okK k'' = false
  · rw [none h]
    exact ⟨fun x => absurd x (by decide), fun x => absurd x (by decide)⟩
  · clear none
    have a1 := ok_cases (fun x => h (Or.inl x))
    have a2 := ok_cases (fun x => h (Or.inr (Or.inl x)))
    have a3 := ok_cases (fun x => h (Or.inr (Or.inr x)))
    clear h
    rcases a1 with rfl | rfl | rfl <;> rcases a2 with rfl | rfl | rfl <;> rcases a3 with rfl | rfl | rfl
    all_goals
      constructor
      · intro x
        first
          | exact ⟨rfl, rfl, rfl⟩
          | exact absurd (show (0 : Int) = 1 from x) (by decide)
          | exact absurd (show (2 : Int) = 1 from x) (by decide)
      · intro x
        first
          | exact absurd (show (0 : Int) = 2 from x) (by decide)
          | exact absurd (show (1 : Int) = 2 from x) (by decide)
          | exact ⟨by decide, by decide, by decide⟩

end Go.Proofs.Ytgfgfafildgpeaa
