/- Slices of values: whether two are the same, as slices.EqualFunc and as the document tells it. -/
import Derived.Test.YtfhbnkdibhmmcaaQA
namespace Go.Proofs.Ytfhbnkdibhmmcaa
open Go.ChangeShapes Go.WideShapes Go.ChangeAt Go.RowKit Go.Lib
set_option linter.unusedVariables false
set_option linter.unusedSimpArgs false
set_option maxRecDepth 100000

/-- The slice v reads as these values. -/
def VR (w : World) (v : Value) (l : List Vl) : Prop :=
  ∃ oa cap, v = .slice oa l.length cap ∧ l.length ≤ cap ∧ cap ≤ maxLen ∧ ∀ j x, l[j]? = some x → ∃ g o, oa = some ⟨g, o, none⟩ ∧ g < w.heap.size ∧ w.cell? ⟨g, o + j * 3, none⟩ = some (.int .u8 x.k) ∧ w.cell? ⟨g, o + j * 3 + 1, none⟩ = some (.int .i64 x.n) ∧ w.cell? ⟨g, o + j * 3 + 2, none⟩ = some (.string x.s) ∧ x.s.size ≤ maxLen
theorem VR.old {w w' : World} {v : Value} {l : List Vl} (h : VR w v l) (ho : Old w w') : VR w' v l := by
  obtain ⟨oa, cap, rfl, h1, h2, h3⟩ := h
  refine ⟨oa, cap, rfl, h1, h2, fun j x hj => ?_⟩
  obtain ⟨g, o, rfl, hg, c0, c1, c2, hs⟩ := h3 j x hj
  exact ⟨g, o, rfl, Nat.lt_of_lt_of_le hg ho.size, (ho.cell hg).trans c0, (ho.cell hg).trans c1, (ho.cell hg).trans c2, hs⟩

instance decVl : DecidableEq Vl := fun a b => decidable_of_iff (a.k = b.k ∧ a.n = b.n ∧ a.s = b.s) ⟨fun h => by cases a; cases b; simp at h; simp [h], fun h => by subst h; simp⟩

theorem order_zero (x y : Vl) : (fz [cz x.k y.k, cz x.n y.n, cs x.s y.s] == 0) = decide (x = y) := by
  have hcz : ∀ a b : Int, cz a b = 0 ↔ a = b := fun a b => by unfold cz; split <;> (try split) <;> omega
  obtain ⟨k, n, s⟩ := x
  obtain ⟨k', n', s'⟩ := y
  by_cases h : (⟨k, n, s⟩ : Vl) = ⟨k', n', s'⟩
  · injection h with h1 h2 h3
    subst h1 h2 h3
    simp [fz, (hcz k k).2 rfl, (hcz n n).2 rfl, cs_self]
  · rw [decide_eq_false h]
    simp only [fz, beq_eq_false_iff_ne, ne_eq]
    intro e
    apply h
    split at e
    · rename_i h1
      split at e
      · rename_i h2
        split at e
        · rename_i h3
          rw [(hcz _ _).1 h1, (hcz _ _).1 h2, cs_zero h3]
        · contradiction
      · contradiction
    · contradiction

theorem same_any (x y : Vl) (w : World) : Calls Try.prog 34 #[vl x.k x.n x.s, vl y.k y.n y.s] w fun e w' => e = .returned (.bool (decide (x = y))) ∧ Old w w' := by
  have HZ := order_zero x y
  obtain ⟨k, n, s⟩ := x
  obtain ⟨k', n', s'⟩ := y
  have ho := fun W => order_any k n s k' n' s' W
  simp only at HZ ⊢
  generalize fz [cz k k', cz n n', cs s s'] = Z at HZ ho
  generalize decide ((⟨k, n, s⟩ : Vl) = ⟨k', n', s'⟩) = B at HZ ⊢
  have HZ := Lib.hid HZ
  have HO := Lib.hid (((Old.refl w).alloc (.cells #[.int .u8 k, .int .i64 n, .string s] 45)).alloc (.cells #[.int .u8 k', .int .i64 n', .string s'] 45))
  go_enter Try.func34, Try.ntmps34
  go_wp2_with (go_at_call 39; (with_reducible refine (ho _).mono ?_); rintro e w1 ⟨rfl, o1⟩; have HO1 := Lib.hid (HO.out.trans o1); clear o1)
  go_ret
  first | exact ⟨rb _ _ HZ.out, HO1.out⟩ | exact ⟨rfl, HO1.out⟩

theorem eqf_any (l m : List Vl) (u v : Value) (w : World) (hl : VR w u l) (hm : VR w v m) : Calls Try.prog 33 #[u, v, .func (.func 34) #[] #[]] w fun e w' => e = .returned (.bool (decide (l = m))) ∧ Old w w' := by
  obtain ⟨oa, c, rfl, a1, a2, a3⟩ := hl
  obtain ⟨n, hn⟩ : ∃ n, n = l.length := ⟨_, rfl⟩
  rw [← hn] at a1 ⊢
  unfold maxLen at a2
  have HN := Lib.hid hn
  have HA := Lib.hid a3
  obtain ⟨ob, d, rfl, b1, b2, b3⟩ := hm
  obtain ⟨r, hr⟩ : ∃ n, n = m.length := ⟨_, rfl⟩
  rw [← hr] at b1 ⊢
  unfold maxLen at b2
  have HR := Lib.hid hr
  have HB := Lib.hid b3
  clear hn a3 hr b3
  by_cases hnr : n = r
  · subst hnr
    generalize hD : decide (l = m) = D
    have HD := Lib.hid hD
    clear hD
    go_enter Try.func33, Try.ntmps33
    go_wp2
    go_loopw [17] (fun i wr => ∃ k : Nat, k ≤ n ∧ i = .int .i64 (k : Int) ∧ Hid (l.take k = m.take k) ∧ Hid (Old w wr)) (fun i _ => (n - intOf i).toNat)
    case atStart => exact ⟨0, Nat.zero_le _, rfl, Lib.hid rfl, Lib.hid (Old.refl w)⟩
    case round =>
      obtain ⟨k, hk, rfl, HE, HO⟩ := hrel
      by_cases hkn : k < n
      · obtain ⟨x, hx⟩ : ∃ x, l[k]? = some x := ⟨l[k]'(by rw [← HN.out]; exact hkn), List.getElem?_eq_getElem _⟩
        obtain ⟨y, hy⟩ : ∃ x, m[k]? = some x := ⟨m[k]'(by rw [← HR.out]; exact hkn), List.getElem?_eq_getElem _⟩
        obtain ⟨g, o, rfl, hgl, c0, c1, c2, _⟩ := HA.out k x hx
        obtain ⟨g', o', rfl, hgl', d0, d1, d2, _⟩ := HB.out k y hy
        replace c0 := (HO.out.cell hgl).trans c0
        replace c1 := (HO.out.cell hgl).trans c1
        replace c2 := (HO.out.cell hgl).trans c2
        replace d0 := (HO.out.cell hgl').trans d0
        replace d1 := (HO.out.cell hgl').trans d1
        replace d2 := (HO.out.cell hgl').trans d2
        replace hgl := Nat.lt_of_lt_of_le hgl HO.out.size
        replace hgl' := Nat.lt_of_lt_of_le hgl' HO.out.size
        have HX := Lib.hid hx
        have HY := Lib.hid hy
        clear hx hy
        have n1 : ¬ g' = wr.heap.size := by omega
        have n2 : ¬ wr.heap.size = g' := by omega
        have hS := fun W => same_any x y W
        generalize hE : decide (x = y) = E at hS
        have HQ := Lib.hid hE
        clear hE
        have HO2 := Lib.hid ((HO.out.alloc (.cells #[.int .u8 x.k, .int .i64 x.n, .string x.s] 45)).alloc (.cells #[.int .u8 y.k, .int .i64 y.n, .string y.s] 45))
        cases E
        · go_wp2_with (go_at_call 34; (with_reducible refine (hS _).mono ?_); rintro e w1 ⟨rfl, o1⟩; have HO3 := Lib.hid (HO2.out.trans o1); clear o1)
          go_ret
          refine ⟨rb _ _ ?_, HO3.out⟩
          rw [← HD.out, eq_comm, decide_eq_false_iff_not]
          intro e
          subst e
          have := HX.out.symm.trans HY.out
          simp at this
          have hq := HQ.out
          rw [this] at hq
          simp at hq
        · go_wp2_with (go_at_call 34; (with_reducible refine (hS _).mono ?_); rintro e w1 ⟨rfl, o1⟩; have HO3 := Lib.hid (HO2.out.trans o1); clear o1)
          refine ⟨⟨k + 1, hkn, rfl, Lib.hid ?_, HO3⟩, by simp only [intOf]; omega⟩
          rw [take_more HX.out, take_more HY.out, HE.out, of_decide_eq_true HQ.out]
      · have hkn' : k = n := by omega
        subst hkn'
        have HT : l = m := by
          have h := HE.out
          rw [HN.out, List.take_length, ← HN.out, HR.out, List.take_length] at h
          exact h
        have HT := Lib.hid HT
        go_wp2
        go_ret
        refine ⟨rb _ _ ?_, HO.out⟩
        rw [← HD.out, decide_eq_true HT.out]
  · have hD : decide (l = m) = false := decide_eq_false (fun e => hnr (by rw [HN.out, HR.out, e]))
    rw [hD]
    clear hD
    go_enter Try.func33, Try.ntmps33
    go_wp2
    go_ret
    exact ⟨rfl, Old.refl w⟩

/-- Same. -/
theorem rsame_any (l m : List Vl) (u v : Value) (w : World) (hl : VR w u l) (hm : VR w v m) : Calls Try.prog 26 #[u, v] w fun e w' => e = .returned (.bool (decide (l = m))) ∧ Old w w' := by
  obtain ⟨oa, c, rfl, a1, a2, a3⟩ := hl
  obtain ⟨n, hn⟩ : ∃ n, n = l.length := ⟨_, rfl⟩
  rw [← hn] at a1 ⊢
  unfold maxLen at a2
  have HN := Lib.hid hn
  have HA := Lib.hid a3
  obtain ⟨ob, d, rfl, b1, b2, b3⟩ := hm
  obtain ⟨r, hr⟩ : ∃ n, n = m.length := ⟨_, rfl⟩
  rw [← hr] at b1 ⊢
  unfold maxLen at b2
  have HR := Lib.hid hr
  have HB := Lib.hid b3
  clear hn a3 hr b3
  by_cases hnr : n = r
  · subst hnr
    generalize hD : decide (l = m) = D
    have HD := Lib.hid hD
    clear hD
    go_enter Try.func26, Try.ntmps26
    go_wp2
    go_loopw [5] (fun i wr => ∃ k : Nat, k ≤ n ∧ i = .int .i64 (k : Int) ∧ Hid (l.take k = m.take k) ∧ Hid (Old w wr)) (fun i _ => (n - intOf i).toNat)
    case atStart => exact ⟨0, Nat.zero_le _, rfl, Lib.hid rfl, Lib.hid (Old.refl w)⟩
    case round =>
      obtain ⟨k, hk, rfl, HE, HO⟩ := hrel
      by_cases hkn : k < n
      · obtain ⟨x, hx⟩ : ∃ x, l[k]? = some x := ⟨l[k]'(by rw [← HN.out]; exact hkn), List.getElem?_eq_getElem _⟩
        obtain ⟨y, hy⟩ : ∃ x, m[k]? = some x := ⟨m[k]'(by rw [← HR.out]; exact hkn), List.getElem?_eq_getElem _⟩
        obtain ⟨g, o, rfl, hgl, c0, c1, c2, _⟩ := HA.out k x hx
        obtain ⟨g', o', rfl, hgl', d0, d1, d2, _⟩ := HB.out k y hy
        replace c0 := (HO.out.cell hgl).trans c0
        replace c1 := (HO.out.cell hgl).trans c1
        replace c2 := (HO.out.cell hgl).trans c2
        replace d0 := (HO.out.cell hgl').trans d0
        replace d1 := (HO.out.cell hgl').trans d1
        replace d2 := (HO.out.cell hgl').trans d2
        have HX := Lib.hid hx
        have HY := Lib.hid hy
        clear hx hy
        obtain ⟨xk, xn, xs⟩ := x
        obtain ⟨yk, yn, ys⟩ := y
        simp only at c0 c1 c2 d0 d1 d2
        have no : (⟨xk, xn, xs⟩ : Vl) ≠ ⟨yk, yn, ys⟩ → decide (l = m) = false := fun hne => decide_eq_false (fun e => by
          subst e
          have := HX.out.symm.trans HY.out
          simp only [Option.some.injEq] at this
          exact hne this)
        have NO := Lib.hid no
        clear no
        by_cases e1 : xk = yk
        · by_cases e2 : xn = yn
          · by_cases e3 : xs.toList = ys.toList
            · subst e1 e2
              have e4 := ba_ext e3
              subst e4
              go_wp2
              go_region
              go_wp2
              refine ⟨⟨k + 1, hkn, rfl, Lib.hid ?_, Lib.hid HO.out.drew⟩, by simp only [intOf]; omega⟩
              rw [take_more HX.out, take_more HY.out, HE.out]
            · have hD : D = false := HD.out.symm.trans (NO.out (fun h => by injection h with _ _ h3; exact e3 (by rw [h3])))
              subst hD
              go_wp2
              go_region
              go_wp2
              go_ret
              exact ⟨rfl, HO.out.drew⟩
          · have hD : D = false := HD.out.symm.trans (NO.out (fun h => by injection h with _ h2 _; exact e2 h2))
            subst hD
            go_wp2
            go_region
            go_wp2
            go_ret
            exact ⟨rfl, HO.out.drew⟩
        · have hD : D = false := HD.out.symm.trans (NO.out (fun h => by injection h with h1 _ _; exact e1 h1))
          subst hD
          go_wp2
          go_region
          go_wp2
          go_ret
          exact ⟨rfl, HO.out.drew⟩
      · have hkn' : k = n := by omega
        subst hkn'
        have HT : l = m := by
          have h := HE.out
          rw [HN.out, List.take_length, ← HN.out, HR.out, List.take_length] at h
          exact h
        have HT := Lib.hid HT
        go_wp2
        go_ret
        refine ⟨rb _ _ ?_, HO.out⟩
        rw [← HD.out, decide_eq_true HT.out]
  · have hD : decide (l = m) = false := decide_eq_false (fun e => hnr (by rw [HN.out, HR.out, e]))
    rw [hD]
    clear hD
    go_enter Try.func26, Try.ntmps26
    go_wp2
    go_ret
    exact ⟨rfl, Old.refl w⟩

end Go.Proofs.Ytfhbnkdibhmmcaa
