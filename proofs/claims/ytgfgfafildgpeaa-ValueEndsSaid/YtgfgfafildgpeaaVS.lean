/- Layer value: Least, Most. -/
import Derived.Test.YtgfgfafildgpeaaVQ
namespace Go.Proofs.Ytgfgfafildgpeaa
open Go.ChangeShapes Go.WideShapes Go.ChangeAt Go.RowKit
set_option linter.unusedVariables false

theorem lst_any (a b : Int) (w : World) : Calls Try.prog 61 #[.int .i64 a, .int .i64 b] w fun e w' => e = .returned (.bool (decide (a < b))) ∧ w = w' := by
  go_enter Try.func61, Try.ntmps61
  go_wp2
  go_ret
  exact ⟨rfl, rfl⟩
theorem mst_any (a b : Int) (w : World) : Calls Try.prog 62 #[.int .i64 a, .int .i64 b] w fun e w' => e = .returned (.bool (decide (b < a))) ∧ w = w' := by
  go_enter Try.func62, Try.ntmps62
  go_wp2
  go_ret
  exact ⟨rfl, rfl⟩

/-- The foremost of the first k numbers. -/
def bst (p : Int → Int → Bool) (f : Nat → Int) : Nat → Int
  | 0 => 0
  | k + 1 => if k = 0 then f 0 else if p (f k) (bst p f k) = true then f k else bst p f k
theorem bst_one (p : Int → Int → Bool) (f : Nat → Int) : bst p f 1 = f 0 := by unfold bst; rw [if_pos rfl]
theorem bst_yes {p : Int → Int → Bool} {f : Nat → Int} {k : Nat} (hk : ¬ k = 0) (h : p (f k) (bst p f k) = true) : bst p f (k + 1) = f k := by rw [bst, if_neg hk, if_pos h]
theorem bst_no {p : Int → Int → Bool} {f : Nat → Int} {k : Nat} (hk : ¬ k = 0) (h : p (f k) (bst p f k) = false) : bst p f (k + 1) = bst p f k := by rw [bst, if_neg hk, if_neg (by rw [h]; decide)]
/-- A number's worth in a kind. -/
def wk (K : Int) (x : Vl) : Int := if K = 2 then wt x.k x.n else x.n
def wks (K : Int) (l : List Vl) (j : Nat) : Int := wk K (l.getD j ⟨0, 0, ⟨#[]⟩⟩)
theorem wks_at {K : Int} {l : List Vl} {j : Nat} {x : Vl} (h : l[j]? = some x) : wks K l j = wk K x := by
  unfold wks
  rw [List.getD_eq_getElem?_getD, h]
  rfl

theorem fore_end (F : Value) (l : List Vl) (v : Value) (w : World) (hl : RV w v l) (hb : l.length ≤ 100000) (er : Int) (hV : kdV l = 0) (hE : kdE l = er) :
    Calls Try.prog 60 #[v, F] w fun e w' => e = rv 0 0 er ∧ Old w w' := by
  have HO := Lib.hid ((Old.refl w).alloc (.cells #[.int .u8 0, .int .i64 0, .string ⟨#[]⟩] 23))
  have HT := Lib.hid (Three.new w (.int .u8 0) (.int .i64 0) (.string ⟨#[]⟩))
  have k1 := kind_any l v _ (hl.old HO.out) hb
  rw [hV, hE] at k1
  clear hV hE hl
  by_cases he : er = 0
  · subst he
    go_enter Try.func60, Try.ntmps60
    go_wp2_with (first
      | (go_at_call 69; (with_reducible refine k1.mono ?_); rintro e w1 ⟨rfl, ho1⟩; have T := Lib.hid (HT.out.old ho1); have c0 := T.out.c0; have c1 := T.out.c1; have c2 := T.out.c2; have f0 := T.out.f 0; have f1 := T.out.f 1; have f2 := T.out.f 2))
    have R := T.out.set (.int .u8 0) (.int .i64 0) (.string ⟨#[]⟩)
    exact bodyPost_ret (v := .tuple #[vl 0 0 ⟨#[]⟩, .int .i64 0]) (by simp [results, Try.results60, go_sem, R.c0, R.c1, R.c2]) rfl ⟨rfl, old3 (HO.out.trans ho1) (Nat.le_refl _) _ _ _⟩
  · go_enter Try.func60, Try.ntmps60
    go_wp2_with (first
      | (go_at_call 69; (with_reducible refine k1.mono ?_); rintro e w1 ⟨rfl, ho1⟩; have T := Lib.hid (HT.out.old ho1); have c0 := T.out.c0; have c1 := T.out.c1; have c2 := T.out.c2; have f0 := T.out.f 0; have f1 := T.out.f 1; have f2 := T.out.f 2))
    have R := T.out.set (.int .u8 0) (.int .i64 0) (.string ⟨#[]⟩)
    exact bodyPost_ret (v := .tuple #[vl 0 0 ⟨#[]⟩, .int .i64 er]) (by simp [results, Try.results60, go_sem, R.c0, R.c1, R.c2]) rfl ⟨rfl, old3 (HO.out.trans ho1) (Nat.le_refl _) _ _ _⟩

/-- A function that tells whether one number is ahead of another. -/
def CA (F : FuncId) (p : Int → Int → Bool) : Prop := ∀ (a b : Int) (W : World), Calls Try.prog F #[.int .i64 a, .int .i64 b] W fun e w' => e = .returned (.bool (p a b)) ∧ W = w'
theorem CA.on {F : FuncId} {p : Int → Int → Bool} (h : CA F p) (a b : Int) (W : World) : Calls Try.prog F #[.int .i64 a, .int .i64 b] W fun e w' => e = .returned (.bool (p a b)) ∧ W = w' := h a b W

set_option maxHeartbeats 3200000 in
theorem fore_int (F : FuncId) (p : Int → Int → Bool) (hF : F = 61 ∨ F = 62) (hp : CA F p) (l : List Vl) (v : Value) (w : World) (hl : RV w v l) (hb : l.length ≤ 100000) (hV : kdV l = 1) (hE : kdE l = 0) :
    Calls Try.prog 60 #[v, .func (.func F) #[] #[]] w fun e w' => e = rv 1 (bst p (wks 1 l) l.length) 0 ∧ Old w w' := by
  have HO := Lib.hid ((Old.refl w).alloc (.cells #[.int .u8 0, .int .i64 0, .string ⟨#[]⟩] 23))
  have HT := Lib.hid (Three.new w (.int .u8 0) (.int .i64 0) (.string ⟨#[]⟩))
  have k1 := kind_any l v _ (hl.old HO.out) hb
  rw [hV, hE] at k1
  clear hV hE
  obtain ⟨oa, c, rfl, a1, a2, a3⟩ := hl
  obtain ⟨n, hn⟩ : ∃ n, n = l.length := ⟨_, rfl⟩
  rw [← hn] at k1 ⊢
  rw [← hn] at a1 hb
  have HN := Lib.hid hn
  have HA := Lib.hid a3
  clear hn a3
  rcases hF with rfl | rfl
  all_goals
    go_enter Try.func60, Try.ntmps60
    go_wp2_with (first
      | (go_at_call 69; (with_reducible refine k1.mono ?_); rintro e w1 ⟨rfl, ho1⟩; have T := Lib.hid (HT.out.old ho1); have O1 := Lib.hid (HO.out.trans ho1)))
    clear k1 ho1
    go_loopw [8, 27] (fun bs i wr => ∃ k : Nat, k ≤ n ∧ i = .int .i64 (k : Int) ∧ bs = .int .i64 (bst p (wks 1 l) k) ∧ Hid (Three wr w.heap.size (.int .u8 0) (.int .i64 0) (.string ⟨#[]⟩)) ∧ Hid (Old w wr)) (fun _ i _ => (n - intOf i).toNat)
    case atStart => exact ⟨0, Nat.zero_le _, rfl, rfl, T, O1⟩
    case round =>
      obtain ⟨k, hk, rfl, rfl, HW, HQ⟩ := hrel
      by_cases hkn : k < n
      · have hx : ∃ x, l[k]? = some x := ⟨l[k]'(by rw [← HN.out]; exact hkn), List.getElem?_eq_getElem _⟩
        obtain ⟨x, hx⟩ := hx
        obtain ⟨g, rfl, hgl, c0, c1, c2⟩ := HA.out k x hx
        have d0 := (HQ.out.cell hgl).trans c0
        have d1 := (HQ.out.cell hgl).trans c1
        have d2 := (HQ.out.cell hgl).trans c2
        obtain ⟨xk, xn, xs⟩ := x
        have hw : wks 1 l k = xn := wks_at hx
        have HX := Lib.hid hw
        clear hx c0 c1 c2 hw
        by_cases hk0 : k = 0
        · subst hk0
          have e1 : bst p (wks 1 l) 1 = xn := (bst_one _ _).trans HX.out
          have E1 := Lib.hid e1
          clear e1
          go_wp2
          refine ⟨⟨1, hkn, rfl, ?_, Lib.hid (HW.out.alloc _), Lib.hid (HQ.out.alloc _)⟩, by simp only [intOf]; omega⟩
          rw [E1.out]
        · have hk1 : ((k : Int) == 0) = false := by
            have : ¬ (k : Int) = 0 := by omega
            simpa using this
          obtain ⟨B, hB⟩ : ∃ B, B = bst p (wks 1 l) k := ⟨_, rfl⟩
          rw [← hB]
          have HB := Lib.hid hB
          clear hB
          have k2 := fun W => hp.on xn B W
          cases hpp : p xn B
          · rw [hpp] at k2
            go_wp2_with (first
              | (first | go_at_call 61 | go_at_call 62
                 (with_reducible refine (k2 _).mono ?_); rintro e w3 ⟨rfl, rfl⟩))
            refine ⟨⟨k + 1, hkn, rfl, ?_, Lib.hid (HW.out.alloc _), Lib.hid (HQ.out.alloc _)⟩, by simp only [intOf]; omega⟩
            rw [bst_no hk0 (by rw [HX.out, ← HB.out]; exact hpp), ← HB.out]
          · rw [hpp] at k2
            go_wp2_with (first
              | (first | go_at_call 61 | go_at_call 62
                 (with_reducible refine (k2 _).mono ?_); rintro e w3 ⟨rfl, rfl⟩))
            refine ⟨⟨k + 1, hkn, rfl, ?_, Lib.hid (HW.out.alloc _), Lib.hid (HQ.out.alloc _)⟩, by simp only [intOf]; omega⟩
            rw [bst_yes hk0 (by rw [HX.out, ← HB.out]; exact hpp), HX.out]
      · have hkn' : k = n := by omega
        subst hkn'
        obtain ⟨B, hB⟩ : ∃ B, bst p (wks 1 l) k = B := ⟨_, rfl⟩
        rw [hB]
        have HB := Lib.hid hB
        clear hB
        go_wp2_with (first
          | (go_at_call 71; (with_reducible refine (num_ok _ _ _).mono ?_); rintro e w2 ⟨rfl, ho2⟩; have T2 := Lib.hid (HW.out.old ho2); have c0 := T2.out.c0; have c1 := T2.out.c1; have c2 := T2.out.c2; have f0 := T2.out.f 0; have f1 := T2.out.f 1; have f2 := T2.out.f 2))
        have R := T2.out.set (.int .u8 1) (.int .i64 B) (.string ⟨#[]⟩)
        exact bodyPost_ret (v := .tuple #[vl 1 B ⟨#[]⟩, .int .i64 0]) (by simp [results, Try.results60, go_sem, R.c0, R.c1, R.c2]) rfl ⟨by rw [HB.out], old3 (HQ.out.trans ho2) (Nat.le_refl _) _ _ _⟩

end Go.Proofs.Ytgfgfafildgpeaa
