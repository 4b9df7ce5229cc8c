/- Layer template: the law TemplateNulls: where the values fit. -/
import Derived.Test.YtcedcfkjoppjdaaNU
namespace Go.Proofs.Ytcedcfkjoppjdaa
open Go.ChangeShapes Go.WideShapes Go.ChangeAt Go.RowKit Go.Lib
set_option linter.unusedVariables false
set_option linter.unusedSimpArgs false
set_option maxRecDepth 100000
theorem add_none' (b o n : Nat) : (⟨b, o, none⟩ : Addr).add n = ⟨b, o + n, none⟩ := by
  unfold Addr.add
  split
  · subst_vars; rfl
  · rfl
/-- The cells of a row of values. -/
def cellsL : List Vl → List Value
  | [] => []
  | x :: l => .int .u8 x.k :: .int .i64 x.n :: .string x.s :: cellsL l
theorem cellsL_len : ∀ s : List Vl, (cellsL s).length = s.length * 3
  | [] => rfl
  | x :: l => by rw [cellsL, List.length_cons, List.length_cons, List.length_cons, List.length_cons, cellsL_len l]; omega
theorem cellsL_at : ∀ {s : List Vl} {i : Nat} {x : Vl}, s[i]? = some x → (cellsL s)[i * 3]? = some (.int .u8 x.k) ∧ (cellsL s)[i * 3 + 1]? = some (.int .i64 x.n) ∧ (cellsL s)[i * 3 + 2]? = some (.string x.s)
  | [], i, x, h => by simp at h
  | y :: l, 0, x, h => by cases h; exact ⟨rfl, rfl, rfl⟩
  | y :: l, i + 1, x, h => by
    have ih := cellsL_at (s := l) (i := i) (x := x) (by simpa using h)
    rw [show (i + 1) * 3 = i * 3 + 1 + 1 + 1 by omega]
    exact ih
theorem cellsL_one : ∀ (s : List Vl) (u : Value), u ∈ cellsL s → u.oneCell' = true
  | [], u, h => by simp [cellsL] at h
  | x :: l, u, h => by
    simp only [cellsL, List.mem_cons] at h
    rcases h with rfl | rfl | rfl | h
    · rfl
    · rfl
    · rfl
    · exact cellsL_one l u h
theorem news_of {w : World} {ug uo S uc : Nat} {s : List Vl} (h : VR w (.slice (some ⟨ug, uo, none⟩) S uc) s) : ∀ j u, (cellsL s)[j]? = some u → w.cell? ((⟨ug, uo, none⟩ : Addr).add j) = some u := fun j u hj => by
  obtain ⟨oa, cap, e, h1, h2, h3⟩ := h
  cases e
  have hlt : j < (cellsL s).length := (List.getElem?_eq_some_iff.1 hj).1
  rw [cellsL_len] at hlt
  have hx : ∃ x, s[j / 3]? = some x := ⟨s[j / 3]'(by omega), List.getElem?_eq_getElem _⟩
  obtain ⟨x, hx⟩ := hx
  obtain ⟨a0, a1, a2⟩ := cellsL_at hx
  obtain ⟨g, o, e, hg, c0, c1, c2, _⟩ := h3 _ x hx
  cases e
  rw [add_none']
  have c : j = j / 3 * 3 ∨ j = j / 3 * 3 + 1 ∨ j = j / 3 * 3 + 2 := by omega
  rcases c with e | e | e
  · rw [e] at hj ⊢
    rw [a0] at hj; cases hj; exact c0
  · have e2 : j / 3 = (j - 1) / 3 := by omega
    rw [e] at hj ⊢
    rw [a1] at hj; cases hj
    rw [← Nat.add_assoc]; exact c1
  · rw [e] at hj ⊢
    rw [a2] at hj; cases hj
    rw [← Nat.add_assoc]; exact c2
/-- What owns the cells of a row of values reads as them. -/
theorem own_vr {w : World} {base n : Nat} {v : Value} {s : List Vl} (h : w.ownsRow base 45 3 v n (cellsL s)) (hn : n = s.length) (hz : 0 < n) (hs : ∀ (j : Nat) (x : Vl), s[j]? = some x → x.s.size ≤ maxLen) :
    ∃ g cap, v = .slice (some ⟨g, 0, none⟩) n cap ∧ base ≤ g ∧ n ≤ cap ∧ cap ≤ maxLen ∧ VR w (.slice (some ⟨g, 0, none⟩) n cap) s ∧ ∀ o, w.frozen? ⟨g, o, none⟩ = false := by
  obtain ⟨hl, h⟩ := h
  rcases h with ⟨_, h⟩ | ⟨g, cap, cur, rfl, hb, hg, hc, hm, hsz, ht⟩
  · omega
  refine ⟨g, cap, rfl, hb, hc, hm, ⟨_, cap, by rw [← hn], by omega, hm, fun j x hj => ?_⟩, fun o => by simp [World.frozen?, hg]⟩
  obtain ⟨a0, a1, a2⟩ := cellsL_at hj
  have hjl : j < s.length := (List.getElem?_eq_some_iff.1 hj).1
  rw [← ht, List.getElem?_take, if_pos (by omega), Array.getElem?_toList] at a0 a1 a2
  refine ⟨g, 0, rfl, blk_lt hg, ?_, ?_, ?_, hs j x hj⟩
  · simp [World.cell?, hg, a0]
  · simp [World.cell?, hg, a1]
  · simp [World.cell?, hg, a2]
theorem addr_ne {g a b : Nat} (h : a ≠ b) : (⟨g, a, none⟩ : Addr) ≠ ⟨g, b, none⟩ := fun e => h (by cases e; rfl)
theorem sc_far {w : World} {g a b : Nat} {v : Value} (h : a ≠ b) : (w.setCell ⟨g, a, none⟩ v).cell? ⟨g, b, none⟩ = w.cell? ⟨g, b, none⟩ := by
  apply World.cell?_setCell_other
  exact addr_ne h
theorem sc_at {w : World} {p : Addr} {u v : Value} (h : w.cell? p = some u) : (w.setCell p v).cell? p = some v := by
  apply World.cell?_setCell_same
  exact h
/-- Null in the place of one of them. -/
theorem VR.put {w : World} {g n cap : Nat} {s : List Vl} (h : VR w (.slice (some ⟨g, 0, none⟩) n cap) s) (i : Nat) (hi : i < s.length) : VR (((w.setCell ⟨g, 0 + i * 3, none⟩ (.int .u8 0)).setCell ⟨g, 0 + i * 3 + 1, none⟩ (.int .i64 0)).setCell ⟨g, 0 + i * 3 + 2, none⟩ (.string ⟨#[]⟩)) (.slice (some ⟨g, 0, none⟩) n cap) (s.set i zv) := by
  obtain ⟨oa, cap', e, h1, h2, h3⟩ := h
  cases e
  have hxi : ∃ x, s[i]? = some x := ⟨s[i], List.getElem?_eq_getElem hi⟩
  obtain ⟨xi, hxi⟩ := hxi
  obtain ⟨g', o', e, hg, d0, d1, d2, _⟩ := h3 i xi hxi
  cases e
  refine ⟨_, cap, by rw [List.length_set], by rw [List.length_set]; exact h1, h2, fun j x hj => ?_⟩
  have hgs : g < (((w.setCell ⟨g, 0 + i * 3, none⟩ (.int .u8 0)).setCell ⟨g, 0 + i * 3 + 1, none⟩ (.int .i64 0)).setCell ⟨g, 0 + i * 3 + 2, none⟩ (.string ⟨#[]⟩)).heap.size := by simpa [World.setCell] using hg
  by_cases e : j = i
  · subst e
    rw [List.getElem?_set_self hi] at hj
    cases hj
    refine ⟨g, 0, rfl, hgs, ?_, ?_, ?_, by simp [ByteArray.size, maxLen]⟩
    · rw [sc_far (by omega), sc_far (by omega), sc_at d0]
    · rw [sc_far (by omega), sc_at (u := .int .i64 xi.n) (by rw [sc_far (by omega)]; exact d1)]
    · rw [sc_at (u := .string xi.s) (by rw [sc_far (by omega), sc_far (by omega)]; exact d2)]
  · rw [List.getElem?_set_ne (fun h => e h.symm)] at hj
    obtain ⟨g', o', e', hg, c0, c1, c2, hs⟩ := h3 j x hj
    cases e'
    refine ⟨g, 0, rfl, hgs, ?_, ?_, ?_, hs⟩
    · rw [sc_far (by omega), sc_far (by omega), sc_far (by omega)]; exact c0
    · rw [sc_far (by omega), sc_far (by omega), sc_far (by omega)]; exact c1
    · rw [sc_far (by omega), sc_far (by omega), sc_far (by omega)]; exact c2

theorem VR.cells {w : World} {g o n cap i : Nat} {s : List Vl} {x : Vl} (h : VR w (.slice (some ⟨g, o, none⟩) n cap) s) (hx : s[i]? = some x) : w.cell? ⟨g, o + i * 3, none⟩ = some (.int .u8 x.k) ∧ w.cell? ⟨g, o + i * 3 + 1, none⟩ = some (.int .i64 x.n) ∧ w.cell? ⟨g, o + i * 3 + 2, none⟩ = some (.string x.s) := by
  obtain ⟨oa, cap', e, _, _, h3⟩ := h
  cases e
  obtain ⟨g', o', e, _, c0, c1, c2, _⟩ := h3 i x hx
  cases e
  exact ⟨c0, c1, c2⟩
set_option maxHeartbeats 3200000 in
theorem nulls_yes (l : List Tp) (v : Value) (m : Nat) (s : List Vl) (u : Value) (k : Int) (x : Tp) (w : World) (hl : TR w v l) (hu : VR w u s) (hs : s.length ≤ 30) (hx : l[m]? = some x) (hm : m ≤ 1000000) (hM : x.l.length ≤ 20) (hno : fitL x.l s = 0) (hz : 0 < s.length) : Calls Try.prog 7 #[v, .int .i64 (m : Int), u, .int .i64 k] w fun e w' => e = .returned (.bool true) ∧ Old w w' := by
  have hg := fun W hW => great_any l v W hW
  have hk := fun W => known_any W
  have HL := Lib.hid hl
  have HU := Lib.hid hu
  obtain ⟨xn, xv, xl⟩ := x
  simp only at hM hno
  obtain ⟨M, hMM⟩ : ∃ M, M = xl.length := ⟨_, rfl⟩
  have f0 := fun W hW => fits_nulls l v m M ⟨xn, xv, xl⟩ hx hm (by omega) 0 (by simp only; rw [hMM]; exact fit_zeros xl) W hW
  have f1 := fun W hW => fits_nulls l v m (M + 1) ⟨xn, xv, xl⟩ hx hm (by omega) 14 (fit_len (by rw [List.length_replicate]; simp only; omega)) W hW
  have g0 := fun W => mk_vals M (by omega) W
  have g1 := fun W => mk_vals (M + 1) (by omega) W
  rw [show ((M + 1 : Nat) : Int) = (M : Int) + 1 by omega] at g1
  obtain ⟨P, hP⟩ : ∃ P, P = M - 1 := ⟨_, rfl⟩
  have f2 : 0 < M → ∀ W, TR W v l → Calls Try.prog 22 #[v, .int .i64 (m : Int), .slice (some ⟨W.heap.size, 0, none⟩) P P] (W.alloc (.cells (madeCells zc (P * 3)) 45)) fun e w' => e = .returned (.int .i64 14) ∧ Old W w' := fun h0 W hW => fits_nulls l v m P ⟨xn, xv, xl⟩ hx hm (by omega) 14 (fit_len (by rw [List.length_replicate]; simp only; omega)) W hW
  have g2 : 0 < M → ∀ W, (Instr.makeSlice 35 (.int .i64 ((M : Int) - 1)) (.int .i64 ((M : Int) - 1))).run Try.prog W = .ok (.slice (some ⟨W.heap.size, 0, none⟩) P P) (W.alloc (.cells (madeCells zc (P * 3)) 45)) := fun h0 W => by
    have := mk_vals P (by omega) W
    rw [show ((P : Nat) : Int) = (M : Int) - 1 by omega] at this
    exact this
  have hf := fun W h1 h2 => fits_any l v (m : Int) s u W h1 h2 (by omega)
  rw [fitsI_at hx] at hf
  obtain ⟨E, hE⟩ : ∃ E, E = fitL xl s := ⟨_, rfl⟩
  simp only at hf
  rw [← hE] at hf hno
  obtain ⟨oa, c, rfl, a1, a2, a3⟩ := hl
  obtain ⟨N, hN⟩ : ∃ n, n = l.length := ⟨_, rfl⟩
  obtain ⟨g, o, rfl, hgl, c0, c1, hss, hsr⟩ := a3 m _ hx
  obtain ⟨sa, sc, hv, b1, b2, b3⟩ := id hsr
  simp only at hv hsr c0 c1 b1 b2 b3
  rw [← hMM] at hv b1
  unfold maxLen at b2
  subst hv
  have hmN : m < N := by rw [hN]; exact (List.getElem?_eq_some_iff.1 hx).1
  rw [← hN] at a1 HL hg hf f0 f1 f2 ⊢
  have HUU := Lib.hid hu
  obtain ⟨ob, uc, rfl, e1, e2, e3⟩ := hu
  have hx0 : ∃ x, s[0]? = some x := ⟨s[0]'hz, List.getElem?_eq_getElem _⟩
  obtain ⟨x0, hx0⟩ := hx0
  obtain ⟨ug, uo, rfl, _⟩ := e3 0 x0 hx0
  have HSS : Hid (∀ (j : Nat) (x : Vl), s[j]? = some x → x.s.size ≤ maxLen) := Lib.hid (fun j x hj => by
    obtain ⟨_, _, _, _, _, _, _, h⟩ := e3 j x hj
    exact h)
  clear hx0 e3
  obtain ⟨S, hS⟩ : ∃ n, n = s.length := ⟨_, rfl⟩
  rw [← hS] at e1 hs HU hf hz ⊢
  unfold maxLen at e2 a2
  have HX := Lib.hid hx
  have HS := Lib.hid hS
  have hM20 : M ≤ 20 := by omega
  have HMM := Lib.hid hMM
  have HE := Lib.hid hE
  have HO := Lib.hid (Old.refl w)
  clear hN a3 hMM hx hss hsr hS b3 hP hE
  have hmn : (m : Int) < (N : Int) := by omega
  subst hno
  have hSM : S = M := by rw [HS.out, HMM.out]; exact (fit_set HE.out.symm 0).2
  subst hSM
  replace f2 := f2 hz
  replace g2 := g2 hz
  have hz' : (0 : Int) < (S : Int) := by omega
  have hz2 : ((S : Int) == 0) = false := by simpa using (show ¬ S = 0 by omega)
  obtain ⟨i, hi1, hi2⟩ := rest_at k (S : Int) (by omega) (by omega)
  have hiS : i < S := by omega
  have hS0 : ¬ (S : Int) = 0 := by omega
  obtain ⟨i0, h45, hz0, hz1, hz3⟩ := info_parts info45
  have HI := Lib.hid (show i0.zero = some (.agg zc) from hz0)
  have HI1 := Lib.hid hz1
  have HI2 := Lib.hid hz3
  have HI3 := Lib.hid h45
  clear hz0 hz1 hz3 h45
  go_enter Try.func7, Try.ntmps7
  go_upto_region 10 with (first
      | (go_at_call 8; (with_reducible refine (hg _ HL.out).mono ?_); rintro e0 w0 ⟨b, rfl, hb, rfl⟩; clear hb; cases b)
      | (go_at_call 22; (with_reducible refine (f0 _ HL.out).mono ?_); rintro e3 w3 ⟨rfl, o3⟩; replace HO := Lib.hid (HO.out.trans o3); replace HL := Lib.hid (HL.out.old o3); replace HU := Lib.hid (HU.out.old o3); clear o3)
      | (go_at_call 22; (with_reducible refine (f1 _ HL.out).mono ?_); rintro e4 w4 ⟨rfl, o4⟩; replace HO := Lib.hid (HO.out.trans o4); replace HL := Lib.hid (HL.out.old o4); replace HU := Lib.hid (HU.out.old o4); clear o4)
      | (go_at_call 22; (with_reducible refine (f2 _ HL.out).mono ?_); rintro e5 w5 ⟨rfl, o5⟩; replace HO := Lib.hid (HO.out.trans o5); replace HL := Lib.hid (HL.out.old o5); replace HU := Lib.hid (HU.out.old o5); clear o5)
      | (go_at_call 22; (with_reducible refine (hf _ HL.out HU.out).mono ?_); rintro e2 w2 ⟨rfl, o2⟩; replace HO := Lib.hid (HO.out.trans o2); replace HL := Lib.hid (HL.out.old o2); replace HU := Lib.hid (HU.out.old o2); clear o2)
      | (go_at_call 9; (with_reducible refine (hk _).mono ?_); rintro e1 w1 ⟨rfl, o1⟩; replace HO := Lib.hid (HO.out.trans o1); clear o1))
  · have HOWN := Lib.hid (World.ownsRow_made (base := w2.heap.size) (e := 45) (size := 3) w2 #[] 0 (Nat.le_refl _) (by unfold maxLen; omega) rfl)
    have HU3 := Lib.hid (HU.out.old ((Old.refl w2).alloc (.cells #[] 45)))
    have hnews := Lib.hid (news_of HU3.out)
    clear hi1 f0 f1 f2 g0 g1 g2 hf
    go_upto_region 11 with (at_builtin; refine wpList_append_own _ rfl _ _ 35 rfl w2.heap.size 45 i0 (.agg zc) 3 32 Try.underlying35 HI3.out HI.out HI1.out HI2.out rfl (by decide) _ _ _ rfl HOWN.out ⟨ug, uo, none⟩ S uc (cellsL s) rfl (by rw [cellsL_len, HS.out]) hnews.out (cellsL_one s) (by unfold maxLen; omega) (by omega) (by simp) ?_; intro v2 w5 hown hgr _; have HOW := Lib.hid hown; have HGR := Lib.hid hgr; clear hown hgr)
    have hown := HOW.out
    simp only [Nat.zero_add, List.nil_append] at hown
    have hgr := HGR.out
    have ho5 : Old w2 w5 := ((Old.refl w2).alloc (.cells #[] 45)).grown hgr (by intro k hk; cases hk; exact Nat.le_refl _)
    obtain ⟨g2, cap2, rfl, hg2, hc2, hm2, hv2, hfz⟩ := own_vr hown HS.out hz HSS.out
    clear hown hgr HOW HGR hnews HU3 HOWN
    have hv6 := hv2.put i (by rw [← HS.out]; exact hiS)
    rw [Nat.zero_add] at hv6
    have HV6 := Lib.hid hv6
    clear hv6
    have HO6 := Lib.hid (((ho5.setCell (p := ⟨g2, i * 3, none⟩) hg2 (.int .u8 0)).setCell (p := ⟨g2, i * 3 + 1, none⟩) hg2 (.int .i64 0)).setCell (p := ⟨g2, i * 3 + 2, none⟩) hg2 (.string ⟨#[]⟩))
    have hxi : ∃ x, s[i]? = some x := ⟨s[i]'(by rw [← HS.out]; exact hiS), List.getElem?_eq_getElem _⟩
    obtain ⟨xi, hxi⟩ := hxi
    obtain ⟨q0, q1, q2⟩ := hv2.cells hxi
    rw [Nat.zero_add] at q0 q1 q2
    have z0 := hfz (i * 3)
    have z1 := hfz (i * 3 + 1)
    have z2 := hfz (i * 3 + 2)
    have hF := fun W h1 h2 => fits_any l (.slice (some ⟨g, o, none⟩) N c) (m : Int) (s.set i zv) (.slice (some ⟨g2, 0, none⟩) S cap2) W h1 h2 (by omega)
    rw [fitsI_at HX.out] at hF
    simp only at hF
    rw [(fit_set HE.out.symm i).1] at hF
    have hL6 := Lib.hid (HL.out.old HO6.out)
    unfold maxLen at hm2
    clear hfz hxi ho5 hg2 hv2
    go_wp2_with (first
      | (go_at_call 22; (with_reducible refine (hF _ hL6.out HV6.out).mono ?_); rintro e2 w6 ⟨rfl, o2⟩; have HO7 := Lib.hid ((HO.out.trans HO6.out).trans o2); clear o2)
      | (go_at_call 9; (with_reducible refine (hk _).mono ?_); rintro e1 w7 ⟨rfl, o1⟩))
    go_ret
    exact ⟨rfl, HO7.out.trans o1⟩
  · go_wp2_with fail
    go_ret
    exact ⟨rfl, HO.out⟩
theorem nulls_far (l : List Tp) (v : Value) (t : Int) (u : Value) (k : Int) (w : World) (hl : TR w v l) (h : 30 < l.length) : Calls Try.prog 7 #[v, .int .i64 t, u, .int .i64 k] w fun e w' => e = .returned (.bool true) ∧ Old w w' := by
  have hg : ∀ W, TR W v l → Calls Try.prog 8 #[v] W fun e w' => e = .returned (.bool true) ∧ W = w' := fun W hW => by
    refine (great_any l v W hW).mono ?_
    rintro e w' ⟨b, rfl, hb, rfl⟩
    cases b
    · have := (hb rfl).1
      omega
    · exact ⟨rfl, rfl⟩
  have hk := fun W => known_any W
  have HL := Lib.hid hl
  clear hl h
  go_enter Try.func7, Try.ntmps7
  go_wp2_with (first
    | (go_at_call 8; (with_reducible refine (hg _ HL.out).mono ?_); rintro e0 w0 ⟨rfl, rfl⟩)
    | (go_at_call 9; (with_reducible refine (hk _).mono ?_); rintro e1 w1 ⟨rfl, o1⟩))
  go_ret
  exact ⟨rfl, o1⟩
theorem nulls_all (l : List Tp) (v : Value) (t : Int) (s : List Vl) (u : Value) (k : Int) (w : World) (hl : TR w v l) (hu : VR w u s) (ht : -9223372036854775808 ≤ t ∧ t ≤ 9223372036854775807) : Calls Try.prog 7 #[v, .int .i64 t, u, .int .i64 k] w fun e w' => e = .returned (.bool true) ∧ Old w w' := by
  by_cases hs : 30 < s.length
  · exact nulls_many l v t s u k w hl hu hs
  by_cases hN : 30 < l.length
  · exact nulls_far l v t u k w hl hN
  by_cases hoff : t < 0 ∨ (0 ≤ t ∧ (l.length : Int) ≤ t)
  · exact nulls_off l v t s u k w hl hu (by omega) ht hoff
  obtain ⟨m, rfl⟩ : ∃ m : Nat, t = (m : Int) := ⟨t.toNat, by omega⟩
  have hm : m < l.length := by omega
  have hx : l[m]? = some l[m] := List.getElem?_eq_getElem hm
  by_cases h20 : 20 < l[m].l.length
  · exact nulls_great l v m s u k w hl hx h20
  by_cases hf : fitL l[m].l s = 0
  · by_cases hz : 0 < s.length
    · exact nulls_yes l v m s u k l[m] w hl hu (by omega) hx (by omega) (by omega) hf hz
    · exact nulls_at l v m s u k l[m] w hl hu (by omega) hx (by omega) (by omega) (Or.inr (by omega))
  · exact nulls_at l v m s u k l[m] w hl hu (by omega) hx (by omega) (by omega) (Or.inl hf)
end Go.Proofs.Ytcedcfkjoppjdaa
