/- Layer template: the law TemplateNulls: its walk. -/
import Derived.Test.YtcedcfkjoppjdaaNT
namespace Go.Proofs.Ytcedcfkjoppjdaa
open Go.ChangeShapes Go.WideShapes Go.ChangeAt Go.RowKit Go.Lib
set_option linter.unusedVariables false
set_option linter.unusedSimpArgs false
set_option maxRecDepth 100000

theorem nulls_many (l : List Tp) (v : Value) (t : Int) (s : List Vl) (u : Value) (k : Int) (w : World) (hl : TR w v l) (hu : VR w u s) (hs : 30 < s.length) : Calls Try.prog 7 #[v, .int .i64 t, u, .int .i64 k] w fun e w' => e = .returned (.bool true) ∧ Old w w' := by
  have hg := fun W hW => great_any l v W hW
  have hk := fun W => known_any W
  have HL := Lib.hid hl
  obtain ⟨ob, uc, rfl, f1, f2, f3⟩ := hu
  obtain ⟨S, hS⟩ : ∃ n, n = s.length := ⟨_, rfl⟩
  rw [← hS] at f1 hs ⊢
  unfold maxLen at f2
  clear f3 hl hS
  go_enter Try.func7, Try.ntmps7
  go_wp2_with (first
    | (go_at_call 8; (with_reducible refine (hg _ HL.out).mono ?_); rintro e0 w0 ⟨b, rfl, hb, rfl⟩; clear hb; cases b)
    | (go_at_call 9; (with_reducible refine (hk _).mono ?_); rintro e1 w1 ⟨rfl, o1⟩))
  all_goals (go_ret; exact ⟨rfl, o1⟩)
/-- The place is none's. -/
theorem nulls_off (l : List Tp) (v : Value) (t : Int) (s : List Vl) (u : Value) (k : Int) (w : World) (hl : TR w v l) (hu : VR w u s) (hs : s.length ≤ 30) (ht : -9223372036854775808 ≤ t ∧ t ≤ 9223372036854775807) (hoff : t < 0 ∨ (0 ≤ t ∧ (l.length : Int) ≤ t)) : Calls Try.prog 7 #[v, .int .i64 t, u, .int .i64 k] w fun e w' => e = .returned (.bool true) ∧ Old w w' := by
  have hg := fun W hW => great_any l v W hW
  have hk := fun W => known_any W
  have hf := fun W h1 h2 => fits_any l v t s u W h1 h2 ht
  have e5 : fitsI l t s = 5 := by
    rcases hoff with h | h
    · exact fitsI_neg h
    · exact fitsI_far h.2
  rw [e5] at hf
  have HL := Lib.hid hl
  have HU := Lib.hid hu
  obtain ⟨oa, c, rfl, a1, a2, a3⟩ := hl
  obtain ⟨N, hN⟩ : ∃ n, n = l.length := ⟨_, rfl⟩
  rw [← hN] at a1 hoff HL hg hf ⊢
  obtain ⟨ob, uc, rfl, f1, f2, f3⟩ := hu
  obtain ⟨S, hS⟩ : ∃ n, n = s.length := ⟨_, rfl⟩
  rw [← hS] at f1 hs HU hf ⊢
  unfold maxLen at f2 a2
  clear f3 hS a3 hN ht e5
  rcases hoff with h | ⟨h, h'⟩
  all_goals
    go_enter Try.func7, Try.ntmps7
    go_wp2_with (first
      | (go_at_call 8; (with_reducible refine (hg _ HL.out).mono ?_); rintro e0 w0 ⟨b, rfl, hb, rfl⟩; clear hb; cases b)
      | (go_at_call 22; (with_reducible refine (hf _ HL.out HU.out).mono ?_); rintro e2 w2 ⟨rfl, o2⟩)
      | (go_at_call 9; (with_reducible refine (hk _).mono ?_); rintro e1 w1 ⟨rfl, o1⟩))
    · go_ret
      exact ⟨rfl, o2.trans o1⟩
    · go_ret
      exact ⟨rfl, o1⟩

theorem great_yes (l : List Tp) (v : Value) (w : World) (hl : TR w v l) {j : Nat} {x : Tp} (hx : l[j]? = some x) (h : 20 < x.l.length) : Calls Try.prog 8 #[v] w fun e w' => e = .returned (.bool true) ∧ w = w' := by
  refine (great_any l v w hl).mono ?_
  rintro e w' ⟨b, rfl, hb, rfl⟩
  cases b
  · have := (hb rfl).2 j x hx
    omega
  · exact ⟨rfl, rfl⟩
theorem nulls_great (l : List Tp) (v : Value) (t : Int) (s : List Vl) (u : Value) (k : Int) (w : World) (hl : TR w v l) {j : Nat} {x : Tp} (hx : l[j]? = some x) (h : 20 < x.l.length) : Calls Try.prog 7 #[v, .int .i64 t, u, .int .i64 k] w fun e w' => e = .returned (.bool true) ∧ Old w w' := by
  have hg := fun W hW => great_yes l v W hW hx h
  have hk := fun W => known_any W
  have HL := Lib.hid hl
  clear hl hx h
  go_enter Try.func7, Try.ntmps7
  go_wp2_with (first
    | (go_at_call 8; (with_reducible refine (hg _ HL.out).mono ?_); rintro e0 w0 ⟨rfl, rfl⟩)
    | (go_at_call 9; (with_reducible refine (hk _).mono ?_); rintro e1 w1 ⟨rfl, o1⟩))
  go_ret
  exact ⟨rfl, o1⟩
set_option maxHeartbeats 3200000 in
theorem nulls_at (l : List Tp) (v : Value) (m : Nat) (s : List Vl) (u : Value) (k : Int) (x : Tp) (w : World) (hl : TR w v l) (hu : VR w u s) (hs : s.length ≤ 30) (hx : l[m]? = some x) (hm : m ≤ 1000000) (hM : x.l.length ≤ 20) (hno : fitL x.l s ≠ 0 ∨ s.length = 0) : Calls Try.prog 7 #[v, .int .i64 (m : Int), u, .int .i64 k] w fun e w' => e = .returned (.bool true) ∧ Old w w' := by
  have hg := fun W hW => great_any l v W hW
  have hk := fun W => known_any W
  have HL := Lib.hid hl
  have HU := Lib.hid hu
  obtain ⟨xn, xv, xl⟩ := x
  simp only at hM hno
  obtain ⟨M, hMM⟩ : ∃ M, M = xl.length := ⟨_, rfl⟩
  have f0 := fun W hW => fits_nulls l v m M ⟨xn, xv, xl⟩ hx hm (by omega) 0 (by simp only; rw [hMM]; exact fit_zeros xl) W hW
  have f1 := fun W hW => fits_nulls l v m (M + 1) ⟨xn, xv, xl⟩ hx hm (by omega) 14 (fit_len (by rw [List.length_replicate]; simp only; omega)) W hW
  have g0 := fun W => mk_vals M (by omega) W
  have g1 := fun W => mk_vals (M + 1) (by omega) W
  rw [show ((M + 1 : Nat) : Int) = (M : Int) + 1 by omega] at g1
  obtain ⟨P, hP⟩ : ∃ P, P = M - 1 := ⟨_, rfl⟩
  have f2 : 0 < M → ∀ W, TR W v l → Calls Try.prog 22 #[v, .int .i64 (m : Int), .slice (some ⟨W.heap.size, 0, none⟩) P P] (W.alloc (.cells (madeCells zc (P * 3)) 45)) fun e w' => e = .returned (.int .i64 14) ∧ Old W w' := fun h0 W hW => fits_nulls l v m P ⟨xn, xv, xl⟩ hx hm (by omega) 14 (fit_len (by rw [List.length_replicate]; simp only; omega)) W hW
  have g2 : 0 < M → ∀ W, (Instr.makeSlice 35 (.int .i64 ((M : Int) - 1)) (.int .i64 ((M : Int) - 1))).run Try.prog W = .ok (.slice (some ⟨W.heap.size, 0, none⟩) P P) (W.alloc (.cells (madeCells zc (P * 3)) 45)) := fun h0 W => by
    have := mk_vals P (by omega) W
    rw [show ((P : Nat) : Int) = (M : Int) - 1 by omega] at this
    exact this
  have hf := fun W h1 h2 => fits_any l v (m : Int) s u W h1 h2 (by omega)
  rw [fitsI_at hx] at hf
  obtain ⟨E, hE⟩ : ∃ E, E = fitL xl s := ⟨_, rfl⟩
  simp only at hf
  rw [← hE] at hf hno
  obtain ⟨oa, c, rfl, a1, a2, a3⟩ := hl
  obtain ⟨N, hN⟩ : ∃ n, n = l.length := ⟨_, rfl⟩
  obtain ⟨g, o, rfl, hgl, c0, c1, hss, hsr⟩ := a3 m _ hx
  obtain ⟨sa, sc, hv, b1, b2, b3⟩ := id hsr
  simp only at hv hsr c0 c1 b1 b2 b3
  rw [← hMM] at hv b1
  unfold maxLen at b2
  subst hv
  have hmN : m < N := by rw [hN]; exact (List.getElem?_eq_some_iff.1 hx).1
  rw [← hN] at a1 HL hg hf f0 f1 f2 ⊢
  have HUU := Lib.hid hu
  obtain ⟨ob, uc, rfl, e1, e2, e3⟩ := hu
  obtain ⟨S, hS⟩ : ∃ n, n = s.length := ⟨_, rfl⟩
  rw [← hS] at e1 hs HU hf hno ⊢
  unfold maxLen at e2 a2
  have HX := Lib.hid hx
  have HS := Lib.hid hS
  have hM20 : M ≤ 20 := by omega
  have HMM := Lib.hid hMM
  have HE := Lib.hid hE
  have HO := Lib.hid (Old.refl w)
  clear hN a3 hMM hx hss hsr hS b3 hP hE
  have hmn : (m : Int) < (N : Int) := by omega
  have hcase : ((E == 0) = false ∧ (E != 0) = true) ∨ (E = 0 ∧ S = 0) := by
    by_cases h : E = 0
    · right
      rcases hno with h' | h'
      · exact absurd h h'
      · exact ⟨h, h'⟩
    · left; simpa using h
  clear hno
  rcases Nat.eq_zero_or_pos M with h0 | h0
  · subst h0
    clear f2 g2
    have g0z : ∀ W, (Instr.makeSlice 35 (.int .i64 0) (.int .i64 0)).run Try.prog W = .ok (.slice (some ⟨W.heap.size, 0, none⟩) 0 0) (W.alloc (.cells (madeCells zc (0 * 3)) 45)) := g0
    have g1z : ∀ W, (Instr.makeSlice 35 (.int .i64 1) (.int .i64 1)).run Try.prog W = .ok (.slice (some ⟨W.heap.size, 0, none⟩) 1 1) (W.alloc (.cells (madeCells zc (1 * 3)) 45)) := g1
    have f1z : ∀ W, TR W (.slice (some ⟨g, o, none⟩) N c) l → Calls Try.prog 22 #[.slice (some ⟨g, o, none⟩) N c, .int .i64 (m : Int), .slice (some ⟨W.heap.size, 0, none⟩) 1 1] (W.alloc (.cells (madeCells zc (1 * 3)) 45)) fun e w' => e = .returned (.int .i64 14) ∧ Old W w' := f1
    clear g0 g1 f1
    have f1 := f1z
    rcases hcase with ⟨h1, h2⟩ | ⟨rfl, rfl⟩
    all_goals
      go_enter Try.func7, Try.ntmps7
      go_wp2_with (first
      | (go_at_call 8; (with_reducible refine (hg _ HL.out).mono ?_); rintro e0 w0 ⟨b, rfl, hb, rfl⟩; clear hb; cases b)
      | (go_at_call 22; (with_reducible refine (f0 _ HL.out).mono ?_); rintro e3 w3 ⟨rfl, o3⟩; replace HO := Lib.hid (HO.out.trans o3); replace HL := Lib.hid (HL.out.old o3); replace HU := Lib.hid (HU.out.old o3); clear o3)
      | (go_at_call 22; (with_reducible refine (f1 _ HL.out).mono ?_); rintro e4 w4 ⟨rfl, o4⟩; replace HO := Lib.hid (HO.out.trans o4); replace HL := Lib.hid (HL.out.old o4); replace HU := Lib.hid (HU.out.old o4); clear o4)
      | (go_at_call 22; (with_reducible refine (f2 _ HL.out).mono ?_); rintro e5 w5 ⟨rfl, o5⟩; replace HO := Lib.hid (HO.out.trans o5); replace HL := Lib.hid (HL.out.old o5); replace HU := Lib.hid (HU.out.old o5); clear o5)
      | (go_at_call 22; (with_reducible refine (hf _ HL.out HU.out).mono ?_); rintro e2 w2 ⟨rfl, o2⟩; replace HO := Lib.hid (HO.out.trans o2); replace HL := Lib.hid (HL.out.old o2); replace HU := Lib.hid (HU.out.old o2); clear o2)
      | (go_at_call 9; (with_reducible refine (hk _).mono ?_); rintro e1 w1 ⟨rfl, o1⟩; replace HO := Lib.hid (HO.out.trans o1); clear o1))
      · go_ret
        exact ⟨rfl, HO.out⟩
      · go_ret
        exact ⟨rfl, HO.out⟩
  · replace f2 := f2 h0
    replace g2 := g2 h0
    have h0' : (0 : Int) < (M : Int) := by omega
    rcases hcase with ⟨h1, h2⟩ | ⟨rfl, rfl⟩
    all_goals
      go_enter Try.func7, Try.ntmps7
      go_wp2_with (first
      | (go_at_call 8; (with_reducible refine (hg _ HL.out).mono ?_); rintro e0 w0 ⟨b, rfl, hb, rfl⟩; clear hb; cases b)
      | (go_at_call 22; (with_reducible refine (f0 _ HL.out).mono ?_); rintro e3 w3 ⟨rfl, o3⟩; replace HO := Lib.hid (HO.out.trans o3); replace HL := Lib.hid (HL.out.old o3); replace HU := Lib.hid (HU.out.old o3); clear o3)
      | (go_at_call 22; (with_reducible refine (f1 _ HL.out).mono ?_); rintro e4 w4 ⟨rfl, o4⟩; replace HO := Lib.hid (HO.out.trans o4); replace HL := Lib.hid (HL.out.old o4); replace HU := Lib.hid (HU.out.old o4); clear o4)
      | (go_at_call 22; (with_reducible refine (f2 _ HL.out).mono ?_); rintro e5 w5 ⟨rfl, o5⟩; replace HO := Lib.hid (HO.out.trans o5); replace HL := Lib.hid (HL.out.old o5); replace HU := Lib.hid (HU.out.old o5); clear o5)
      | (go_at_call 22; (with_reducible refine (hf _ HL.out HU.out).mono ?_); rintro e2 w2 ⟨rfl, o2⟩; replace HO := Lib.hid (HO.out.trans o2); replace HL := Lib.hid (HL.out.old o2); replace HU := Lib.hid (HU.out.old o2); clear o2)
      | (go_at_call 9; (with_reducible refine (hk _).mono ?_); rintro e1 w1 ⟨rfl, o1⟩; replace HO := Lib.hid (HO.out.trans o1); clear o1))
      · go_ret
        exact ⟨rfl, HO.out⟩
      · go_ret
        exact ⟨rfl, HO.out⟩
end Go.Proofs.Ytcedcfkjoppjdaa
