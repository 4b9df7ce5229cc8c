/- ValueSums: what its calls answer. -/
import Derived.Test.YtgfgfafildgpeaaWC
import Derived.Test.YtgfgfafildgpeaaVM
namespace Go.Proofs.Ytgfgfafildgpeaa
set_option linter.unusedVariables false

theorem rk3_comm {V E VD ED : Int → Int → Int} (h1 : ∀ a b, V a b = V b a) (h2 : ∀ a b, E a b = E b a) (h3 : ∀ a b, VD a b = VD b a) (h4 : ∀ a b, ED a b = ED b a) (k n k' n' : Int) : rk3 V E VD ED k' n' k n = rk3 V E VD ED k n k' n' := by
  unfold rk3
  by_cases a : okK k = false ∨ okK k' = false
  · rw [if_pos a, if_pos a.symm]
  rw [if_neg a, if_neg (fun h => a h.symm)]
  by_cases b : k = 0 ∨ k' = 0
  · rw [if_pos b, if_pos b.symm]
  rw [if_neg b, if_neg (fun h => b h.symm)]
  by_cases c : k = 1 ∧ k' = 1
  · rw [if_pos c, if_pos c.symm, h1 n' n, h2 n' n]
  rw [if_neg c, if_neg (fun h => c h.symm)]
  by_cases d : I64 (wt k n) ∧ I64 (wt k' n')
  · rw [if_pos d, if_pos d.symm, h3 (wt k' n'), h4 (wt k' n')]
  rw [if_neg d, if_neg (fun h => d h.symm)]
theorem sgn_comm (a b : Int) (m : Nat) : sgn a b m = sgn b a m := by
  unfold sgn
  by_cases h : a < 0 ↔ b < 0
  · rw [if_pos h, if_pos h.symm]
  · rw [if_neg h, if_neg (fun x => h x.symm)]
theorem ad_comm (k n k' n' : Int) : adT k' n' k n = adT k n k' n' :=
  rk3_comm (fun a b => by unfold adV; rw [Int.add_comm]) (fun a b => by unfold adE; rw [Int.add_comm]) (fun a b => by unfold adV; rw [Int.add_comm]) (fun a b => by unfold adE; rw [Int.add_comm]) k n k' n'
theorem ml_comm (k n k' n' : Int) : mlT k' n' k n = mlT k n k' n' :=
  rk3_comm (fun a b => by unfold mlV; rw [Int.mul_comm]) (fun a b => by unfold mlE; rw [Int.mul_comm]) (fun a b => by unfold mdV; rw [sgn_comm, Nat.mul_comm]) (fun a b => by unfold mdE; rw [sgn_comm, Nat.mul_comm]) k n k' n'

/-- An answer's value may be: Null, or a number; with an error it is Null. -/
theorem fit_e (n : Int) : fitE n = 0 ∨ fitE n = 9 := by
  unfold fitE
  split
  · exact Or.inl rfl
  · exact Or.inr rfl
theorem emp0 : (⟨#[]⟩ : ByteArray).toList.isEmpty = true := by rw [ByteArray.toList_eq]; rfl
theorem may_num {k n : Int} (h : (k = 0 ∧ n = 0) ∨ k = 1 ∨ k = 2) : mayB k n ⟨#[]⟩ = true := by
  unfold mayB
  rw [emp0]
  rcases h with ⟨rfl, rfl⟩ | rfl | rfl <;> rfl
theorem nm_may (k n e : Int) (hk : k = 1 ∨ k = 2) : (nmK k e = 0 ∧ nmN n e = 0) ∨ nmK k e = 1 ∨ nmK k e = 2 := by
  unfold nmK nmN
  split
  · right; omega
  · left; omega
theorem rk3_may (V E VD ED : Int → Int → Int) (k n k' n' : Int) : mayB (rk3 V E VD ED k n k' n').1 (rk3 V E VD ED k n k' n').2.1 ⟨#[]⟩ = true := by
  unfold rk3
  split
  · exact may_num (Or.inl ⟨rfl, rfl⟩)
  · split
    · exact may_num (Or.inl ⟨rfl, rfl⟩)
    · split
      · exact may_num (nm_may _ _ _ (Or.inl rfl))
      · split
        · exact may_num (nm_may _ _ _ (Or.inr rfl))
        · exact may_num (Or.inl ⟨rfl, rfl⟩)
theorem rk3_null (V E VD ED : Int → Int → Int) (k n k' n' : Int) (h : k = 0 ∨ k' = 0) : (rk3 V E VD ED k n k' n').1 = 0 ∧ (rk3 V E VD ED k n k' n').2.1 = 0 ∧ ((rk3 V E VD ED k n k' n').2.2 = 0 ∨ (rk3 V E VD ED k n k' n').2.2 = 8) := by
  unfold rk3
  by_cases a : okK k = false ∨ okK k' = false
  · rw [if_pos a]; exact ⟨rfl, rfl, Or.inr rfl⟩
  · rw [if_neg a, if_pos h]; exact ⟨rfl, rfl, Or.inl rfl⟩
theorem okK_not {k : Int} (h : okK k = false) : ¬ k = 0 ∧ ¬ k = 1 ∧ ¬ k = 2 := by
  unfold okK at h
  simp at h
  omega

/-- Neg's answer. -/
theorem neg_bad {k : Int} (n : Int) (h : okK k = false) : sbT 1 0 k n = (0, 0, 8) := by
  unfold sbT rk3
  rw [if_pos (Or.inr h)]
theorem neg_null (n : Int) : sbT 1 0 0 n = (0, 0, 0) := rfl
theorem neg_one {k n : Int} (hk : k = 1 ∨ k = 2) (hn : I64 n) : sbT 1 0 k n = if I64 (-n) then (k, -n, 0) else (0, 0, 9) := by
  have e0 : (0 : Int) - n = -n := by omega
  rcases hk with rfl | rfl
  · show (nmK 1 (sbE 0 n), nmN (sbV 0 n) (sbE 0 n), sbE 0 n) = _
    unfold sbE sbV
    rw [e0]
    by_cases h : I64 (-n)
    · rw [fitE_in h, fitV_in h, if_pos h]; rfl
    · rw [fitE_out h, fitV_out h, if_neg h]; rfl
  · show (if I64 0 ∧ I64 n then (nmK 2 (sbE 0 n), nmN (sbV 0 n) (sbE 0 n), sbE 0 n) else (0, 0, 9)) = _
    rw [if_pos ⟨by decide, hn⟩]
    unfold sbE sbV
    rw [e0]
    by_cases h : I64 (-n)
    · rw [fitE_in h, fitV_in h, if_pos h]; rfl
    · rw [fitE_out h, fitV_out h, if_neg h]; rfl

/-- A difference is the sum with what is below 0. -/
theorem sub_add {k n k' n' : Int} (hk : k' = 1 ∨ k' = 2) (hn : I64 n') (hm : I64 (-n')) : adT k n k' (-n') = sbT k n k' n' := by
  unfold adT sbT rk3
  have hw : wt k' (-n') = -wt k' n' := by unfold wt; split <;> omega
  have hi : I64 (-wt k' n') ↔ I64 (wt k' n') := by
    rcases hk with rfl | rfl
    · unfold wt I64; rw [if_pos rfl]; omega
    · unfold wt; rw [if_neg (by decide)]; exact ⟨fun _ => hn, fun _ => hm⟩
  by_cases a : okK k = false ∨ okK k' = false
  · rw [if_pos a, if_pos a]
  rw [if_neg a, if_neg a]
  by_cases b : k = 0 ∨ k' = 0
  · rw [if_pos b, if_pos b]
  rw [if_neg b, if_neg b]
  by_cases c : k = 1 ∧ k' = 1
  · rw [if_pos c, if_pos c]
    unfold adE adV sbE sbV
    rw [show n + -n' = n - n' by omega]
  rw [if_neg c, if_neg c, hw]
  unfold adE adV sbE sbV
  rw [show wt k n + -wt k' n' = wt k n - wt k' n' by omega]
  by_cases d : I64 (wt k n) ∧ I64 (wt k' n')
  · rw [if_pos d, if_pos ⟨d.1, hi.2 d.2⟩]
  · rw [if_neg d, if_neg (fun x => d ⟨x.1, hi.1 x.2⟩)]
theorem sub_null (k n n' : Int) : adT k n 0 0 = sbT k n 0 n' := by
  unfold adT sbT rk3
  by_cases a : okK k = false ∨ okK 0 = false
  · rw [if_pos a, if_pos a]
  · rw [if_neg a, if_neg a, if_pos (Or.inr rfl), if_pos (Or.inr rfl)]
theorem emp_ext {s : ByteArray} (h : s.toList.isEmpty = true) : s = ⟨#[]⟩ := by
  refine ba_ext ?_
  have := emp0
  rw [List.isEmpty_iff] at h this
  rw [h, this]
/-- A value that may be, of a number's kind or Null, has no text. -/
theorem may_s {k n : Int} {s : ByteArray} (h : mayB k n s = true) (hk : k = 0 ∨ k = 1 ∨ k = 2) : s = ⟨#[]⟩ := by
  refine emp_ext ?_
  unfold mayB at h
  rcases hk with rfl | rfl | rfl
  · rw [if_pos rfl, Bool.and_eq_true] at h; exact h.2
  · rw [if_neg (by decide), if_pos (by decide)] at h; exact h
  · rw [if_neg (by decide), if_pos (by decide)] at h; exact h
theorem may_0 {n : Int} {s : ByteArray} (h : mayB 0 n s = true) : n = 0 := by
  unfold mayB at h
  rw [if_pos rfl, Bool.and_eq_true] at h
  simpa using h.1

theorem sums_all (k n : Int) (s : ByteArray) (k' n' : Int) (s' : ByteArray) (_ : 0 ≤ k ∧ k ≤ 255) (_ : 0 ≤ k' ∧ k' ≤ 255) (hn : I64 n) (hn' : I64 n') (_ : s.size ≤ maxLen) (_ : s'.size ≤ maxLen) (w : World) :
    Calls Try.prog 6 #[vl k n s, vl k' n' s'] w fun e w' => e = .returned (.bool true) ∧ Old w w' := by
  have m1 : CB 8 #[vl k n s] (mayB k n s) := fun W => may_any k n s W
  have m2 : CB 8 #[vl k' n' s'] (mayB k' n' s') := fun W => may_any k' n' s' W
  by_cases hm : mayB k n s = true ∧ mayB k' n' s' = true
  · have h2 := hm.2
    rw [hm.1] at m1
    rw [hm.2] at m2
    have a2 : CV 14 #[vl k' n' s', vl k n s] (adT k n k' n').1 (adT k n k' n').2.1 (adT k n k' n').2.2 := fun W => by
      rw [← ad_comm]; exact vadd_any k' n' s' k n s W hn' hn
    have q2 : CV 17 #[vl k' n' s', vl k n s] (mlT k n k' n').1 (mlT k n k' n').2.1 (mlT k n k' n').2.2 := fun W => by
      rw [← ml_comm]; exact vmul_any k' n' s' k n s W hn' hn
    have m3 : CB 8 #[vl (adT k n k' n').1 (adT k n k' n').2.1 ⟨#[]⟩] true := fun W => by
      have := may_any (adT k n k' n').1 (adT k n k' n').2.1 ⟨#[]⟩ W
      rw [rk3_may] at this; exact this
    have m4 : CB 8 #[vl (mlT k n k' n').1 (mlT k n k' n').2.1 ⟨#[]⟩] true := fun W => by
      have := may_any (mlT k n k' n').1 (mlT k n k' n').2.1 ⟨#[]⟩ W
      rw [rk3_may] at this; exact this
    have n1 : CV 19 #[vl k' n' s'] (sbT 1 0 k' n').1 (sbT 1 0 k' n').2.1 (sbT 1 0 k' n').2.2 := fun W => vneg_any k' n' s' W hn'
    refine sums_walk k n s k' n' s' w _ _ _ _ _ _ _ _ _ (sbT k n k' n').1 (sbT k n k' n').2.1 (sbT k n k' n').2.2 m1 m2 (fun W => vadd_any k n s k' n' s' W hn hn') a2 (fun W => vmul_any k n s k' n' s' W hn hn') q2 m3 m4 (rk3_null _ _ _ _ k n k' n') n1 ?_ ?_
    · by_cases a : okK k' = false
      · rw [neg_bad n' a]; intro _; exact ⟨rfl, rfl, Or.inl rfl⟩
      · rcases ok_cases a with rfl | hk | hk
        · rw [neg_null]; intro h; exact absurd rfl h
        · rw [neg_one (Or.inl hk) hn']
          split
          · intro h; exact absurd rfl h
          · intro _; exact ⟨rfl, rfl, Or.inr rfl⟩
        · rw [neg_one (Or.inr hk) hn']
          split
          · intro h; exact absurd rfl h
          · intro _; exact ⟨rfl, rfl, Or.inr rfl⟩
    · intro he
      by_cases a : okK k' = false
      · rw [neg_bad n' a] at he; exact absurd he (by decide)
      · have hk := ok_cases a
        have e := may_s h2 hk
        subst e
        refine ⟨rfl, fun W => vsub_any k n s k' n' ⟨#[]⟩ W hn hn', ?_⟩
        rcases hk with rfl | hk
        · rw [neg_null]
          have := may_0 h2
          subst this
          exact ⟨fun W => by rw [← sub_null]; exact vadd_any k n s 0 0 ⟨#[]⟩ W hn (by decide), fun W => vneg_any 0 0 ⟨#[]⟩ W (by decide)⟩
        · rw [neg_one hk hn'] at he ⊢
          by_cases hi : I64 (-n')
          · rw [if_pos hi]
            refine ⟨fun W => by rw [← sub_add hk hn' hi]; exact vadd_any k n s k' (-n') ⟨#[]⟩ W hn hi, fun W => ?_⟩
            have := vneg_any k' (-n') ⟨#[]⟩ W hi
            rw [neg_one hk hi, Int.neg_neg, if_pos hn'] at this
            exact this
          · rw [if_neg hi] at he; exact absurd he (by decide)
  · refine sums_no k n s k' n' s' w _ _ ?_ m1 m2
    cases h1 : mayB k n s
    · exact Or.inl rfl
    · cases h2 : mayB k' n' s'
      · exact Or.inr rfl
      · exact absurd ⟨h1, h2⟩ hm

end Go.Proofs.Ytgfgfafildgpeaa
