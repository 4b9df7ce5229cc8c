/- Layer value: what Add, Sub, Mul, Div, Neg answer. -/
import Derived.Test.YtmoomdikgfeifaaVG
namespace Go.Proofs.Ytmoomdikgfeifaa
open Go.ChangeShapes Go.WideShapes Go.ChangeAt Go.RowKit
set_option linter.unusedVariables false

/-- A sum's, a product's answer: kind, number, error. -/
def rk3 (V E VD ED : Int → Int → Int) (k n k' n' : Int) : Int × Int × Int :=
  if okK k = false ∨ okK k' = false then (0, 0, 8)
  else if k = 0 ∨ k' = 0 then (0, 0, 0)
  else if k = 1 ∧ k' = 1 then (nmK 1 (E n n'), nmN (V n n') (E n n'), E n n')
  else if I64 (wt k n) ∧ I64 (wt k' n') then (nmK 2 (ED (wt k n) (wt k' n')), nmN (VD (wt k n) (wt k' n')) (ED (wt k n) (wt k' n')), ED (wt k n) (wt k' n'))
  else (0, 0, 9)
abbrev rvt (t : Int × Int × Int) : Ending := rv t.1 t.2.1 t.2.2

def adV (a b : Int) : Int := fitV (a + b)
def adE (a b : Int) : Int := fitE (a + b)
def sbV (a b : Int) : Int := fitV (a - b)
def sbE (a b : Int) : Int := fitE (a - b)
def mlV (a b : Int) : Int := fitV (a * b)
def mlE (a b : Int) : Int := fitE (a * b)
def quV (a b : Int) : Int := if b = 0 then 0 else fitV (a.tdiv b)
def quE (a b : Int) : Int := if b = 0 then 10 else fitE (a.tdiv b)
def mdV (a b : Int) : Int := fitV (sgn a b (rnd (a.natAbs * b.natAbs) 10000))
def mdE (a b : Int) : Int := fitE (sgn a b (rnd (a.natAbs * b.natAbs) 10000))
def ddV (a b : Int) : Int := if b = 0 then 0 else fitV (sgn a b (rnd (a.natAbs * 10000) b.natAbs))
def ddE (a b : Int) : Int := if b = 0 then 10 else fitE (sgn a b (rnd (a.natAbs * 10000) b.natAbs))
theorem cf_add : CF 37 adV adE := cf_same fun a b W ha hb => add_any a b W ha hb
theorem cf_sub : CF 48 sbV sbE := cf_same fun a b W ha hb => sub_any a b W ha hb
theorem cf_mul : CF 49 mlV mlE := cf_grown fun a b W ha hb => mul_any a b W ha hb
theorem cf_muldec : CF 50 mdV mdE := cf_grown fun a b W ha hb => muldec_any a b W ha hb
theorem cf_quo : CF 51 quV quE := cf_grown fun a b W ha hb => by
  unfold quV quE
  by_cases h : b = 0
  · subst h
    rw [if_pos rfl, if_pos rfl]
    exact quo_zero a W
  · rw [if_neg h, if_neg h]
    exact quo_any a b W ha hb h
theorem cf_divdec : CF 52 ddV ddE := cf_grown fun a b W ha hb => by
  unfold ddV ddE
  by_cases h : b = 0
  · subst h
    rw [if_pos rfl, if_pos rfl]
    exact divdec_zero a W
  · rw [if_neg h, if_neg h]
    exact divdec_any a b W ha hb h

theorem ok_cases {k : Int} (h : ¬ okK k = false) : k = 0 ∨ k = 1 ∨ k = 2 := by
  unfold okK at h
  simp at h
  omega
theorem kd_bad {k n : Int} {s : ByteArray} {k' n' : Int} {s' : ByteArray} (h : okK k = false ∨ okK k' = false) : kdV [⟨k, n, s⟩, ⟨k', n', s'⟩] = 0 ∧ kdE [⟨k, n, s⟩, ⟨k', n', s'⟩] = 8 := by
  unfold kdV kdE
  rcases h with h | h <;> simp [h]

theorem rk_any (fi fd : FuncId) (hi : fi = 37 ∨ fi = 48 ∨ fi = 49 ∨ fi = 51) (hd : fd = 37 ∨ fd = 48 ∨ fd = 50 ∨ fd = 52) (V E VD ED : Int → Int → Int) (ci : CF fi V E) (cd : CF fd VD ED) (k n : Int) (s : ByteArray) (k' n' : Int) (s' : ByteArray) (hn : I64 n) (hn' : I64 n') :
    RK fi fd k n s k' n' s' (rk3 V E VD ED k n k' n').1 (rk3 V E VD ED k n k' n').2.1 (rk3 V E VD ED k n k' n').2.2 := by
  intro W g g' hg hg'
  unfold rk3
  by_cases h1 : okK k = false ∨ okK k' = false
  · rw [if_pos h1]
    exact reck_end _ _ k n s k' n' s' W 8 (kd_bad h1).1 (kd_bad h1).2
  · rw [if_neg h1]
    have a1 := ok_cases (fun h => h1 (Or.inl h))
    have a2 := ok_cases (fun h => h1 (Or.inr h))
    by_cases h2 : k = 0 ∨ k' = 0
    · rw [if_pos h2]
      refine reck_end _ _ k n s k' n' s' W 0 ?_ ?_
      · rcases a1 with rfl | rfl | rfl <;> rcases a2 with rfl | rfl | rfl <;> first | rfl | omega
      · rcases a1 with rfl | rfl | rfl <;> rcases a2 with rfl | rfl | rfl <;> first | rfl | omega
    · rw [if_neg h2]
      by_cases h3 : k = 1 ∧ k' = 1
      · rw [if_pos h3]
        obtain ⟨rfl, rfl⟩ := h3
        exact reck_int _ _ 1 n s 1 n' s' W _ _ _ rfl rfl (fun W1 ho => ints_any fi hi V E ci 1 n s 1 n' s' W1 g (hg.old ho).2 (hg.old ho).1 hn hn')
      · rw [if_neg h3]
        have e1 : kdV [⟨k, n, s⟩, ⟨k', n', s'⟩] = 2 := by rcases a1 with rfl | rfl | rfl <;> rcases a2 with rfl | rfl | rfl <;> first | rfl | omega
        have e2 : kdE [⟨k, n, s⟩, ⟨k', n', s'⟩] = 0 := by rcases a1 with rfl | rfl | rfl <;> rcases a2 with rfl | rfl | rfl <;> first | rfl | omega
        by_cases h4 : I64 (wt k n) ∧ I64 (wt k' n')
        · rw [if_pos h4]
          exact reck_dec _ _ k n s k' n' s' W _ _ _ e1 e2 (fun W1 ho => decs_any fd hd VD ED cd k n s k' n' s' W1 g' (hg'.old ho).2 (hg'.old ho).1 hn hn' h4.1 h4.2)
        · rw [if_neg h4]
          exact reck_dec _ _ k n s k' n' s' W _ _ _ e1 e2 (fun W1 ho => decs_over k n s k' n' s' W1 g' hn hn' h4)

abbrev adT := rk3 adV adE adV adE
abbrev sbT := rk3 sbV sbE sbV sbE
abbrev mlT := rk3 mlV mlE mdV mdE
abbrev dvT := rk3 quV quE ddV ddE
theorem vadd_any (k n : Int) (s : ByteArray) (k' n' : Int) (s' : ByteArray) (w : World) (hn : I64 n) (hn' : I64 n') : Calls Try.prog 11 #[vl k n s, vl k' n' s'] w fun e w' => e = rvt (adT k n k' n') ∧ Old w w' :=
  vadd_walk k n s k' n' s' w _ _ _ (rk_any 37 37 (by decide) (by decide) _ _ _ _ cf_add cf_add k n s k' n' s' hn hn')
theorem vsub_any (k n : Int) (s : ByteArray) (k' n' : Int) (s' : ByteArray) (w : World) (hn : I64 n) (hn' : I64 n') : Calls Try.prog 13 #[vl k n s, vl k' n' s'] w fun e w' => e = rvt (sbT k n k' n') ∧ Old w w' :=
  vsub_walk k n s k' n' s' w _ _ _ (rk_any 48 48 (by decide) (by decide) _ _ _ _ cf_sub cf_sub k n s k' n' s' hn hn')
theorem vmul_any (k n : Int) (s : ByteArray) (k' n' : Int) (s' : ByteArray) (w : World) (hn : I64 n) (hn' : I64 n') : Calls Try.prog 14 #[vl k n s, vl k' n' s'] w fun e w' => e = rvt (mlT k n k' n') ∧ Old w w' :=
  vmul_walk k n s k' n' s' w _ _ _ (rk_any 49 50 (by decide) (by decide) _ _ _ _ cf_mul cf_muldec k n s k' n' s' hn hn')
theorem vdiv_any (k n : Int) (s : ByteArray) (k' n' : Int) (s' : ByteArray) (w : World) (hn : I64 n) (hn' : I64 n') : Calls Try.prog 15 #[vl k n s, vl k' n' s'] w fun e w' => e = rvt (dvT k n k' n') ∧ Old w w' :=
  vdiv_walk k n s k' n' s' w _ _ _ (rk_any 51 52 (by decide) (by decide) _ _ _ _ cf_quo cf_divdec k n s k' n' s' hn hn')

theorem vneg_walk (k n : Int) (s : ByteArray) (w : World) (A B C : Int) (hc : ∀ W, Calls Try.prog 13 #[vl 1 0 ⟨#[]⟩, vl k n s] W fun e w' => e = rv A B C ∧ Old W w') :
    Calls Try.prog 16 #[vl k n s] w fun e w' => e = rv A B C ∧ Old w w' := by
  have HO := Lib.hid (((Old.refl w).alloc (.cells #[.int .u8 k, .int .i64 n, .string s] 23)).alloc (.cells #[.int .u8 0, .int .i64 0, .string ⟨#[]⟩] 23))
  have HT := Three.new (w.alloc (.cells #[.int .u8 k, .int .i64 n, .string s] 23)) (.int .u8 0) (.int .i64 0) (.string ⟨#[]⟩)
  rw [sz_alloc] at HT
  have HT := Lib.hid HT
  go_enter Try.func16, Try.ntmps16
  go_wp2_with (first
    | (go_at_call 13; (with_reducible refine (hc _).mono ?_); rintro e w1 ⟨rfl, ho1⟩; have T := Lib.hid (HT.out.old ho1); have c0 := T.out.c0; have c1 := T.out.c1; have c2 := T.out.c2; have f0 := T.out.f 0; have f1 := T.out.f 1; have f2 := T.out.f 2))
  have R := T.out.set (.int .u8 A) (.int .i64 B) (.string ⟨#[]⟩)
  exact bodyPost_ret (v := .tuple #[vl A B ⟨#[]⟩, .int .i64 C]) (by simp [results, Try.results16, go_sem, R.c0, R.c1, R.c2]) rfl ⟨rfl, old3 (HO.out.trans ho1) (by omega) _ _ _⟩
theorem vneg_any (k n : Int) (s : ByteArray) (w : World) (hn : I64 n) : Calls Try.prog 16 #[vl k n s] w fun e w' => e = rvt (sbT 1 0 k n) ∧ Old w w' :=
  vneg_walk k n s w _ _ _ (fun W => vsub_any 1 0 ⟨#[]⟩ k n s W (by decide) hn)

end Go.Proofs.Ytmoomdikgfeifaa
