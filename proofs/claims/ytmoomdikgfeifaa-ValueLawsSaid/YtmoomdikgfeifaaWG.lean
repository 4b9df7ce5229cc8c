/- ValueLaws: plain facts on what its calls answer. -/
import Derived.Test.YtmoomdikgfeifaaVR
import Derived.Test.YtmoomdikgfeifaaVM
namespace Go.Proofs.Ytmoomdikgfeifaa
set_option linter.unusedVariables false

/-- A truth of three: false, Null, true. -/
def t3 (k n : Int) : Int := if k = 4 then (if n = 0 then 0 else 2) else 1
/-- A value that is a Bool of 0 or 1, or no Bool. -/
def Rg (k n : Int) : Prop := k = 4 → n = 0 ∨ n = 1
theorem rg_of {k n : Int} {s : ByteArray} (h : rgX ⟨k, n, s⟩ = true) : Rg k n := by
  intro hk
  subst hk
  unfold rgX mayB at h
  simp at h
  omega
/-- All of truths, as one of three. -/
theorem un0 (l : List Vl) : unT 0 l = if l.any (isS 0) = true then (4, 0) else if l.all (fun x => x.k == 4) = true then (4, 1) else (0, 0) := rfl
theorem un1 (l : List Vl) : unT 1 l = if l.any (isS 1) = true then (4, 1) else if l.all (fun x => x.k == 4) = true then (4, 0) else (0, 0) := rfl

theorem un_cyc (st : Int) (x y z : Vl) : unT st [z, x, y] = unT st [x, y, z] := by
  unfold unT
  have e1 : [z, x, y].any (isS st) = [x, y, z].any (isS st) := by
    simp only [List.any_cons, List.any_nil, Bool.or_false]
    cases isS st x <;> cases isS st y <;> cases isS st z <;> rfl
  have e2 : [z, x, y].all (fun x => x.k == 4) = [x, y, z].all (fun x => x.k == 4) := by
    simp only [List.all_cons, List.all_nil, Bool.and_true]
    cases x.k == 4 <;> cases y.k == 4 <;> cases z.k == 4 <;> rfl
  rw [e1, e2]
theorem un_cyc2 (st : Int) (x y z : Vl) : unT st [y, z, x] = unT st [x, y, z] := (un_cyc st y z x).symm
/-- All of two, and of that with a third one. -/
theorem un_two (x y z : Vl) : unT 0 [⟨(unT 0 [x, y]).1, (unT 0 [x, y]).2, ⟨#[]⟩⟩, z] = unT 0 [x, y, z] := by
  obtain ⟨xk, xn, xs⟩ := x
  obtain ⟨yk, yn, ys⟩ := y
  obtain ⟨zk, zn, zs⟩ := z
  unfold unT
  simp only [List.any_cons, List.any_nil, Bool.or_false, List.all_cons, List.all_nil, Bool.and_true, isS]
  cases hx : (xk == 4) <;> cases hy : (yk == 4) <;> cases hz : (zk == 4) <;> cases hx' : (xn == 0) <;> cases hy' : (yn == 0) <;> cases hz' : (zn == 0) <;> rfl
/-- Not of All is Any of Nots. -/
theorem un_not (x y : Vl) (hx : Rg x.k x.n) (hy : Rg y.k y.n) : ntT (unT 0 [x, y]).1 (unT 0 [x, y]).2 = unT 1 [⟨(ntT x.k x.n).1, (ntT x.k x.n).2, ⟨#[]⟩⟩, ⟨(ntT y.k y.n).1, (ntT y.k y.n).2, ⟨#[]⟩⟩] := by
  obtain ⟨xk, xn, xs⟩ := x
  obtain ⟨yk, yn, ys⟩ := y
  unfold unT ntT
  simp only [List.any_cons, List.any_nil, Bool.or_false, List.all_cons, List.all_nil, Bool.and_true, isS]
  by_cases a : xk = 4
  · subst a
    by_cases b : yk = 4
    · subst b
      rcases hx rfl with h | h <;> rcases hy rfl with h' | h' <;> simp at h h' <;> subst h <;> subst h' <;> rfl
    · have b' : (yk == 4) = false := by simpa using b
      rcases hx rfl with h | h <;> simp at h <;> subst h <;> simp [b', b, b01]
  · have a' : (xk == 4) = false := by simpa using a
    by_cases b : yk = 4
    · subst b
      rcases hy rfl with h' | h' <;> simp at h' <;> subst h' <;> simp [a', a, b01]
    · have b' : (yk == 4) = false := by simpa using b
      simp [a', a, b', b]

theorem cp_turn {k n : Int} {s : ByteArray} {k' n' : Int} {s' : ByteArray} (h : cpB k k' = true) : cpB k' k = true ∧ cpV k' n' s' k n s = -cpV k n s k' n' s' := by
  unfold cpB at *
  have h' := of_decide_eq_true h
  clear h
  by_cases a : (k = 1 ∨ k = 2) ∧ (k' = 1 ∨ k' = 2)
  · refine ⟨decide_eq_true (Or.inl a.symm), ?_⟩
    unfold cpV
    rw [if_pos a, if_pos a.symm, ← cz_turn]
  · have c : k = k' ∧ 3 ≤ k ∧ k ≤ 5 := h'.resolve_left a
    have c' : k' = k ∧ 3 ≤ k' ∧ k' ≤ 5 := by omega
    refine ⟨decide_eq_true (Or.inr c'), ?_⟩
    unfold cpV
    rw [if_neg a, if_pos c, if_neg (fun h => a h.symm), if_pos c']
    exact od_turn k n s k' n' s'
theorem cp_in (k n : Int) (s : ByteArray) (k' n' : Int) (s' : ByteArray) : -1 ≤ cpV k n s k' n' s' ∧ cpV k n s k' n' s' ≤ 1 := by
  unfold cpV
  have h1 := cz_in (wt k n) (wt k' n')
  have h2 := od_in k n s k' n' s'
  unfold od at h2
  split
  · exact h1
  · split
    · exact h2
    · omega
/-- Compare goes with differences. -/
theorem cp_sub {k n : Int} {s : ByteArray} {k' n' : Int} {s' : ByteArray} (h : cpB k k' = true) (hn : I64 n) (hn' : I64 n') (hc : (sbT k n k' n').2.2 = 0) :
    ((sbT k n k' n').2.1 < 0 ↔ cpV k n s k' n' s' < 0) ∧ ((sbT k n k' n').2.1 = 0 ↔ cpV k n s k' n' s' = 0) := by
  unfold cpB at h
  have h' := of_decide_eq_true h
  clear h
  by_cases a : (k = 1 ∨ k = 2) ∧ (k' = 1 ∨ k' = 2)
  · have f := cz_facts (wt k n) (wt k' n')
    have e : cpV k n s k' n' s' = cz (wt k n) (wt k' n') := by unfold cpV; rw [if_pos a]
    rw [e]
    have o1 : ¬ (okK k = false ∨ okK k' = false) := by
      obtain ⟨a1, a2⟩ := a
      rcases a1 with rfl | rfl <;> rcases a2 with rfl | rfl <;> decide
    have o2 : ¬ (k = 0 ∨ k' = 0) := by omega
    unfold sbT rk3 at hc ⊢
    rw [if_neg o1, if_neg o2] at hc ⊢
    by_cases b : k = 1 ∧ k' = 1
    · rw [if_pos b] at hc ⊢
      obtain ⟨rfl, rfl⟩ := b
      have hc' : sbE n n' = 0 := hc
      unfold sbE at hc'
      have hi : I64 (n - n') := by
        by_cases hi : I64 (n - n')
        · exact hi
        · rw [fitE_out hi] at hc'; omega
      show (nmN (sbV n n') (sbE n n') < 0 ↔ _) ∧ (nmN (sbV n n') (sbE n n') = 0 ↔ _)
      unfold sbV sbE nmN
      rw [fitE_in hi, fitV_in hi, if_pos rfl]
      unfold wt at f ⊢
      rw [if_pos rfl, if_pos rfl] at f ⊢
      omega
    · rw [if_neg b] at hc ⊢
      by_cases d : I64 (wt k n) ∧ I64 (wt k' n')
      · rw [if_pos d] at hc ⊢
        have hc' : sbE (wt k n) (wt k' n') = 0 := hc
        unfold sbE at hc'
        have hi : I64 (wt k n - wt k' n') := by
          by_cases hi : I64 (wt k n - wt k' n')
          · exact hi
          · rw [fitE_out hi] at hc'; omega
        show (nmN (sbV (wt k n) (wt k' n')) (sbE (wt k n) (wt k' n')) < 0 ↔ _) ∧ (nmN (sbV (wt k n) (wt k' n')) (sbE (wt k n) (wt k' n')) = 0 ↔ _)
        unfold sbV sbE nmN
        rw [fitE_in hi, fitV_in hi, if_pos rfl]
        omega
      · rw [if_neg d] at hc
        exact absurd hc (by decide)
  · have c : k = k' ∧ 3 ≤ k ∧ k ≤ 5 := h'.resolve_left a
    have o1 : okK k = false ∨ okK k' = false := by
      left
      unfold okK
      simp
      omega
    unfold sbT rk3 at hc
    rw [if_pos o1] at hc
    exact absurd hc (by decide)

end Go.Proofs.Ytmoomdikgfeifaa
