/- Layer value: Least, Most. Least, Most where one is a decimal; what they answer. what Least and Most answer. Layer lexer: bytes; a reader's four cells; is there such a byte. how far a word goes, asked of any closure. the closures that say how far a word goes; its kind. the sign's closure; which closure a kind has; how far the word goes. the closure of each kind; the kind of the next word. -/
import Derived.Shelf.Abstract
import Derived.Test.YtmkmafkkpigfpaaGreatDoorZVQ
set_option maxHeartbeats 3200000
namespace Go.Proofs.YtmkmafkkpigfpaaGreatDoor.V
open Go.ChangeShapes Go.WideShapes Go.ChangeAt Go.RowKit
set_option linter.unusedVariables false
theorem lst_any (a b : Int) (w : World) : Calls Tryz.prog 125 #[.int .i64 a, .int .i64 b] w fun e w' => e = .returned (.bool (decide (a < b))) ∧ w = w' := by
  go_enter Tryz.func125, Tryz.ntmps125
  go_wp2
  go_ret
  exact ⟨rfl, rfl⟩
theorem mst_any (a b : Int) (w : World) : Calls Tryz.prog 126 #[.int .i64 a, .int .i64 b] w fun e w' => e = .returned (.bool (decide (b < a))) ∧ w = w' := by
  go_enter Tryz.func126, Tryz.ntmps126
  go_wp2
  go_ret
  exact ⟨rfl, rfl⟩
def bst (p : Int → Int → Bool) (f : Nat → Int) : Nat → Int
  | 0 => 0
  | k + 1 => if k = 0 then f 0 else if p (f k) (bst p f k) = true then f k else bst p f k
theorem bst_one (p : Int → Int → Bool) (f : Nat → Int) : bst p f 1 = f 0 := by unfold bst; rw [if_pos rfl]
theorem bst_yes {p : Int → Int → Bool} {f : Nat → Int} {k : Nat} (hk : ¬ k = 0) (h : p (f k) (bst p f k) = true) : bst p f (k + 1) = f k := by rw [bst, if_neg hk, if_pos h]
theorem bst_no {p : Int → Int → Bool} {f : Nat → Int} {k : Nat} (hk : ¬ k = 0) (h : p (f k) (bst p f k) = false) : bst p f (k + 1) = bst p f k := by rw [bst, if_neg hk, if_neg (by rw [h]; decide)]
def wk (K : Int) (x : Vl) : Int := if K = 2 then wt x.k x.n else x.n
def wks (K : Int) (l : List Vl) (j : Nat) : Int := wk K (l.getD j ⟨0, 0, ⟨#[]⟩⟩)
theorem wks_at {K : Int} {l : List Vl} {j : Nat} {x : Vl} (h : l[j]? = some x) : wks K l j = wk K x := by
  unfold wks
  rw [List.getD_eq_getElem?_getD, h]
  rfl
theorem fore_end (F : Value) (l : List Vl) (v : Value) (w : World) (hl : RV w v l) (hb : l.length ≤ 100000) (er : Int) (hV : kdV l = 0) (hE : kdE l = er) :
    Calls Tryz.prog 124 #[v, F] w fun e w' => e = rv 0 0 er ∧ Old w w' := by
  have HO := Lib.hid ((Old.refl w).alloc (.cells #[.int .u8 0, .int .i64 0, .string ⟨#[]⟩] 26))
  have HT := Lib.hid (Three.new w (.int .u8 0) (.int .i64 0) (.string ⟨#[]⟩))
  have k1 := kind_any l v _ (hl.old HO.out) hb
  rw [hV, hE] at k1
  clear hV hE hl
  by_cases he : er = 0
  · subst he
    go_enter Tryz.func124, Tryz.ntmps124
    go_wp2_with (first
      | (go_at_call 145; (with_reducible refine k1.mono ?_); rintro e w1 ⟨rfl, ho1⟩; have T := Lib.hid (HT.out.old ho1); have c0 := T.out.c0; have c1 := T.out.c1; have c2 := T.out.c2; have f0 := T.out.f 0; have f1 := T.out.f 1; have f2 := T.out.f 2))
    have R := T.out.set (.int .u8 0) (.int .i64 0) (.string ⟨#[]⟩)
    exact bodyPost_ret (v := .tuple #[vl 0 0 ⟨#[]⟩, .int .i64 0]) (by simp [results, Tryz.results124, go_sem, R.c0, R.c1, R.c2]) rfl ⟨rfl, old3 (HO.out.trans ho1) (Nat.le_refl _) _ _ _⟩
  · go_enter Tryz.func124, Tryz.ntmps124
    go_wp2_with (first
      | (go_at_call 145; (with_reducible refine k1.mono ?_); rintro e w1 ⟨rfl, ho1⟩; have T := Lib.hid (HT.out.old ho1); have c0 := T.out.c0; have c1 := T.out.c1; have c2 := T.out.c2; have f0 := T.out.f 0; have f1 := T.out.f 1; have f2 := T.out.f 2))
    have R := T.out.set (.int .u8 0) (.int .i64 0) (.string ⟨#[]⟩)
    exact bodyPost_ret (v := .tuple #[vl 0 0 ⟨#[]⟩, .int .i64 er]) (by simp [results, Tryz.results124, go_sem, R.c0, R.c1, R.c2]) rfl ⟨rfl, old3 (HO.out.trans ho1) (Nat.le_refl _) _ _ _⟩
def CA (F : FuncId) (p : Int → Int → Bool) : Prop := ∀ (a b : Int) (W : World), Calls Tryz.prog F #[.int .i64 a, .int .i64 b] W fun e w' => e = .returned (.bool (p a b)) ∧ W = w'
theorem CA.on {F : FuncId} {p : Int → Int → Bool} (h : CA F p) (a b : Int) (W : World) : Calls Tryz.prog F #[.int .i64 a, .int .i64 b] W fun e w' => e = .returned (.bool (p a b)) ∧ W = w' := h a b W
theorem fore_int (F : FuncId) (p : Int → Int → Bool) (hF : F = 125 ∨ F = 126) (hp : CA F p) (l : List Vl) (v : Value) (w : World) (hl : RV w v l) (hb : l.length ≤ 100000) (hV : kdV l = 1) (hE : kdE l = 0) :
    Calls Tryz.prog 124 #[v, .func (.func F) #[] #[]] w fun e w' => e = rv 1 (bst p (wks 1 l) l.length) 0 ∧ Old w w' := by
  have HO := Lib.hid ((Old.refl w).alloc (.cells #[.int .u8 0, .int .i64 0, .string ⟨#[]⟩] 26))
  have HT := Lib.hid (Three.new w (.int .u8 0) (.int .i64 0) (.string ⟨#[]⟩))
  have k1 := kind_any l v _ (hl.old HO.out) hb
  rw [hV, hE] at k1
  clear hV hE
  obtain ⟨oa, c, rfl, a1, a2, a3⟩ := hl
  obtain ⟨n, hn⟩ : ∃ n, n = l.length := ⟨_, rfl⟩
  rw [← hn] at k1 ⊢
  rw [← hn] at a1 hb
  have HN := Lib.hid hn
  have HA := Lib.hid a3
  clear hn a3
  rcases hF with rfl | rfl
  all_goals
    go_enter Tryz.func124, Tryz.ntmps124
    go_wp2_with (first
      | (go_at_call 145; (with_reducible refine k1.mono ?_); rintro e w1 ⟨rfl, ho1⟩; have T := Lib.hid (HT.out.old ho1); have O1 := Lib.hid (HO.out.trans ho1)))
    clear k1 ho1
    go_loopw [8, 27] (fun bs i wr => ∃ k : Nat, k ≤ n ∧ i = .int .i64 (k : Int) ∧ bs = .int .i64 (bst p (wks 1 l) k) ∧ Hid (Three wr w.heap.size (.int .u8 0) (.int .i64 0) (.string ⟨#[]⟩)) ∧ Hid (Old w wr)) (fun _ i _ => (n - intOf i).toNat)
    case atStart => exact ⟨0, Nat.zero_le _, rfl, rfl, T, O1⟩
    case round =>
      obtain ⟨k, hk, rfl, rfl, HW, HQ⟩ := hrel
      by_cases hkn : k < n
      · have hx : ∃ x, l[k]? = some x := ⟨l[k]'(by rw [← HN.out]; exact hkn), List.getElem?_eq_getElem _⟩
        obtain ⟨x, hx⟩ := hx
        obtain ⟨g, rfl, hgl, c0, c1, c2⟩ := HA.out k x hx
        have d0 := (HQ.out.cell hgl).trans c0
        have d1 := (HQ.out.cell hgl).trans c1
        have d2 := (HQ.out.cell hgl).trans c2
        obtain ⟨xk, xn, xs⟩ := x
        have hw : wks 1 l k = xn := wks_at hx
        have HX := Lib.hid hw
        clear hx c0 c1 c2 hw
        by_cases hk0 : k = 0
        · subst hk0
          have e1 : bst p (wks 1 l) 1 = xn := (bst_one _ _).trans HX.out
          have E1 := Lib.hid e1
          clear e1
          go_wp2
          refine ⟨⟨1, hkn, rfl, ?_, Lib.hid (HW.out.alloc _), Lib.hid (HQ.out.alloc _)⟩, by simp only [intOf]; omega⟩
          rw [E1.out]
        · have hk1 : ((k : Int) == 0) = false := by
            have : ¬ (k : Int) = 0 := by omega
            simpa using this
          obtain ⟨B, hB⟩ : ∃ B, B = bst p (wks 1 l) k := ⟨_, rfl⟩
          rw [← hB]
          have HB := Lib.hid hB
          clear hB
          have k2 := fun W => hp.on xn B W
          cases hpp : p xn B
          · rw [hpp] at k2
            go_wp2_with (first
              | (first | go_at_call 125 | go_at_call 126
                 (with_reducible refine (k2 _).mono ?_); rintro e w3 ⟨rfl, rfl⟩))
            refine ⟨⟨k + 1, hkn, rfl, ?_, Lib.hid (HW.out.alloc _), Lib.hid (HQ.out.alloc _)⟩, by simp only [intOf]; omega⟩
            rw [bst_no hk0 (by rw [HX.out, ← HB.out]; exact hpp), ← HB.out]
          · rw [hpp] at k2
            go_wp2_with (first
              | (first | go_at_call 125 | go_at_call 126
                 (with_reducible refine (k2 _).mono ?_); rintro e w3 ⟨rfl, rfl⟩))
            refine ⟨⟨k + 1, hkn, rfl, ?_, Lib.hid (HW.out.alloc _), Lib.hid (HQ.out.alloc _)⟩, by simp only [intOf]; omega⟩
            rw [bst_yes hk0 (by rw [HX.out, ← HB.out]; exact hpp), HX.out]
      · have hkn' : k = n := by omega
        subst hkn'
        obtain ⟨B, hB⟩ : ∃ B, bst p (wks 1 l) k = B := ⟨_, rfl⟩
        rw [hB]
        have HB := Lib.hid hB
        clear hB
        go_wp2_with (first
          | (go_at_call 147; (with_reducible refine (num_ok _ _ _).mono ?_); rintro e w2 ⟨rfl, ho2⟩; have T2 := Lib.hid (HW.out.old ho2); have c0 := T2.out.c0; have c1 := T2.out.c1; have c2 := T2.out.c2; have f0 := T2.out.f 0; have f1 := T2.out.f 1; have f2 := T2.out.f 2))
        have R := T2.out.set (.int .u8 1) (.int .i64 B) (.string ⟨#[]⟩)
        exact bodyPost_ret (v := .tuple #[vl 1 B ⟨#[]⟩, .int .i64 0]) (by simp [results, Tryz.results124, go_sem, R.c0, R.c1, R.c2]) rfl ⟨by rw [HB.out], old3 (HQ.out.trans ho2) (Nat.le_refl _) _ _ _⟩
theorem fore_dec (F : FuncId) (p : Int → Int → Bool) (hF : F = 125 ∨ F = 126) (hp : CA F p) (l : List Vl) (v : Value) (w : World) (hl : RV w v l) (hb : l.length ≤ 100000) (hV : kdV l = 2) (hE : kdE l = 0) (hi : ∀ x ∈ l, I64 x.n) (A B C : Int) (hR : ((∀ x ∈ l, I64 (wt x.k x.n)) ∧ A = 2 ∧ B = bst p (wks 2 l) l.length ∧ C = 0) ∨ ((∃ x ∈ l, ¬ I64 (wt x.k x.n)) ∧ A = 0 ∧ B = 0 ∧ C = 9)) :
    Calls Tryz.prog 124 #[v, .func (.func F) #[] #[]] w fun e w' => e = rv A B C ∧ Old w w' := by
  have HO := Lib.hid ((Old.refl w).alloc (.cells #[.int .u8 0, .int .i64 0, .string ⟨#[]⟩] 26))
  have HT := Lib.hid (Three.new w (.int .u8 0) (.int .i64 0) (.string ⟨#[]⟩))
  have k1 := kind_any l v _ (hl.old HO.out) hb
  rw [hV, hE] at k1
  clear hV hE
  obtain ⟨oa, c, rfl, a1, a2, a3⟩ := hl
  obtain ⟨n, hn⟩ : ∃ n, n = l.length := ⟨_, rfl⟩
  rw [← hn] at k1 ⊢
  rw [← hn] at a1 hb hR
  have HI := Lib.hid hi
  have HR := Lib.hid hR
  clear hi hR
  have HN := Lib.hid hn
  have HA := Lib.hid a3
  clear hn a3
  rcases hF with rfl | rfl
  all_goals
    go_enter Tryz.func124, Tryz.ntmps124
    go_wp2_with (first
      | (go_at_call 145; (with_reducible refine k1.mono ?_); rintro e w1 ⟨rfl, ho1⟩; have T := Lib.hid (HT.out.old ho1); have O1 := Lib.hid (HO.out.trans ho1)))
    clear k1 ho1
    go_loopw [8, 27] (fun bs i wr => ∃ k : Nat, k ≤ n ∧ i = .int .i64 (k : Int) ∧ bs = .int .i64 (bst p (wks 2 l) k) ∧ Hid (∀ j x, j < k → l[j]? = some x → I64 (wt x.k x.n)) ∧ Hid (Three wr w.heap.size (.int .u8 0) (.int .i64 0) (.string ⟨#[]⟩)) ∧ Hid (Old w wr)) (fun _ i _ => (n - intOf i).toNat)
    case atStart => exact ⟨0, Nat.zero_le _, rfl, rfl, Lib.hid (fun j x hj => absurd hj (Nat.not_lt_zero _)), T, O1⟩
    case round =>
      obtain ⟨k, hk, rfl, rfl, HU, HW, HQ⟩ := hrel
      by_cases hkn : k < n
      · have hx : ∃ x, l[k]? = some x := ⟨l[k]'(by rw [← HN.out]; exact hkn), List.getElem?_eq_getElem _⟩
        obtain ⟨x, hx⟩ := hx
        obtain ⟨g, rfl, hgl, c0, c1, c2⟩ := HA.out k x hx
        have d0 := (HQ.out.cell hgl).trans c0
        have d1 := (HQ.out.cell hgl).trans c1
        have d2 := (HQ.out.cell hgl).trans c2
        obtain ⟨xk, xn, xs⟩ := x
        have hmem := List.mem_of_getElem? hx
        have hxn : I64 xn := HI.out _ hmem
        have k3 := fun W => units_any xk xn xs W hxn
        by_cases hu : I64 (wt xk xn)
        · rw [fitV_in hu, fitE_in hu] at k3
          have hw : wks 2 l k = wt xk xn := wks_at hx
          have HU' : Hid (∀ j x, j < k + 1 → l[j]? = some x → I64 (wt x.k x.n)) := Lib.hid (fun j x hj hjx => by
            rcases Nat.lt_or_eq_of_le (Nat.le_of_lt_succ hj) with h | h
            · exact HU.out j x h hjx
            · subst h; rw [hx] at hjx; cases hjx; exact hu)
          generalize wt xk xn = u at *
          have HX := Lib.hid hw
          clear hx c0 c1 c2 hw hmem
          by_cases hk0 : k = 0
          · subst hk0
            have E1 := Lib.hid ((bst_one p (wks 2 l)).trans HX.out)
            go_wp2_with (first
              | (go_at_call 149; (with_reducible refine (k3 _).mono ?_); rintro e w3 ⟨rfl, ho3⟩))
            refine ⟨⟨1, hkn, rfl, ?_, HU', Lib.hid ((HW.out.alloc _).old ho3), Lib.hid ((HQ.out.alloc _).trans ho3)⟩, by simp only [intOf]; omega⟩
            rw [E1.out]
          · have hk1 : ((k : Int) == 0) = false := by
              have : ¬ (k : Int) = 0 := by omega
              simpa using this
            obtain ⟨D, hD⟩ : ∃ D, D = bst p (wks 2 l) k := ⟨_, rfl⟩
            rw [← hD]
            have HD := Lib.hid hD
            clear hD
            have k2 := fun W => hp.on u D W
            cases hpp : p u D
            · rw [hpp] at k2
              go_wp2_with (first
                | (go_at_call 149; (with_reducible refine (k3 _).mono ?_); rintro e w3 ⟨rfl, ho3⟩)
                | (first | go_at_call 125 | go_at_call 126
                   (with_reducible refine (k2 _).mono ?_); rintro e w4 ⟨rfl, rfl⟩))
              refine ⟨⟨k + 1, hkn, rfl, ?_, HU', Lib.hid ((HW.out.alloc _).old ho3), Lib.hid ((HQ.out.alloc _).trans ho3)⟩, by simp only [intOf]; omega⟩
              rw [bst_no hk0 (by rw [HX.out, ← HD.out]; exact hpp), ← HD.out]
            · rw [hpp] at k2
              go_wp2_with (first
                | (go_at_call 149; (with_reducible refine (k3 _).mono ?_); rintro e w3 ⟨rfl, ho3⟩)
                | (first | go_at_call 125 | go_at_call 126
                   (with_reducible refine (k2 _).mono ?_); rintro e w4 ⟨rfl, rfl⟩))
              refine ⟨⟨k + 1, hkn, rfl, ?_, HU', Lib.hid ((HW.out.alloc _).old ho3), Lib.hid ((HQ.out.alloc _).trans ho3)⟩, by simp only [intOf]; omega⟩
              rw [bst_yes hk0 (by rw [HX.out, ← HD.out]; exact hpp), HX.out]
        · rw [fitV_out hu, fitE_out hu] at k3
          have HC : Hid (A = 0 ∧ B = 0 ∧ C = 9) := Lib.hid (HR.out.elim (fun h => absurd (h.1 _ hmem) hu) (fun h => h.2))
          clear hx c0 c1 c2 hmem
          go_wp2_with (first
            | (go_at_call 149; (with_reducible refine (k3 _).mono ?_); rintro e w3 ⟨rfl, ho3⟩; have T3 := Lib.hid ((HW.out.alloc (.cells #[.int .u8 xk, .int .i64 xn, .string xs] 26)).old ho3); have y0 := T3.out.c0; have y1 := T3.out.c1; have y2 := T3.out.c2; have f0 := T3.out.f 0; have f1 := T3.out.f 1; have f2 := T3.out.f 2))
          have R := T3.out.set (.int .u8 0) (.int .i64 0) (.string ⟨#[]⟩)
          exact bodyPost_ret (v := .tuple #[vl 0 0 ⟨#[]⟩, .int .i64 9]) (by simp [results, Tryz.results124, go_sem, R.c0, R.c1, R.c2]) rfl ⟨by rw [HC.out.1, HC.out.2.1, HC.out.2.2], old3 ((HQ.out.alloc _).trans ho3) (Nat.le_refl _) _ _ _⟩
      · have hkn' : k = n := by omega
        subst hkn'
        have HC : Hid (A = 2 ∧ B = bst p (wks 2 l) k ∧ C = 0) := Lib.hid (HR.out.elim (fun h => h.2) (fun h => by
          obtain ⟨⟨x, hx, hu⟩, _⟩ := h
          obtain ⟨j, hj⟩ := List.getElem?_of_mem hx
          exact absurd (HU.out j x (by have := (List.getElem?_eq_some_iff.1 hj).1; have := HN.out; omega) hj) hu))
        obtain ⟨D, hD⟩ : ∃ D, bst p (wks 2 l) k = D := ⟨_, rfl⟩
        rw [hD]
        have HD := Lib.hid hD
        clear hD
        go_wp2_with (first
          | (go_at_call 147; (with_reducible refine (num_ok _ _ _).mono ?_); rintro e w2 ⟨rfl, ho2⟩; have T2 := Lib.hid (HW.out.old ho2); have c0 := T2.out.c0; have c1 := T2.out.c1; have c2 := T2.out.c2; have f0 := T2.out.f 0; have f1 := T2.out.f 1; have f2 := T2.out.f 2))
        have R := T2.out.set (.int .u8 2) (.int .i64 D) (.string ⟨#[]⟩)
        exact bodyPost_ret (v := .tuple #[vl 2 D ⟨#[]⟩, .int .i64 0]) (by simp [results, Tryz.results124, go_sem, R.c0, R.c1, R.c2]) rfl ⟨by rw [HC.out.1, HC.out.2.1, HC.out.2.2, HD.out], old3 (HQ.out.trans ho2) (Nat.le_refl _) _ _ _⟩
def fmT (p : Int → Int → Bool) (l : List Vl) : Int × Int × Int :=
  if kdV l = 0 then (0, 0, kdE l)
  else if kdV l = 1 then (1, bst p (wks 1 l) l.length, 0)
  else if l.all (fun x => decide (I64 (wt x.k x.n))) = true then (2, bst p (wks 2 l) l.length, 0)
  else (0, 0, 9)
theorem kdV_in (l : List Vl) : kdV l = 0 ∨ ((kdV l = 1 ∨ kdV l = 2) ∧ kdE l = 0) := by
  unfold kdV kdE
  split
  · split
    · exact Or.inl rfl
    · split
      · exact Or.inr ⟨Or.inr rfl, rfl⟩
      · exact Or.inr ⟨Or.inl rfl, rfl⟩
  · exact Or.inl rfl
theorem fore_any (F : FuncId) (p : Int → Int → Bool) (hF : F = 125 ∨ F = 126) (hp : CA F p) (l : List Vl) (v : Value) (w : World) (hl : RV w v l) (hb : l.length ≤ 100000) (hi : ∀ x ∈ l, I64 x.n) :
    Calls Tryz.prog 124 #[v, .func (.func F) #[] #[]] w fun e w' => e = rvt (fmT p l) ∧ Old w w' := by
  unfold fmT
  rcases kdV_in l with h | ⟨h | h, he⟩
  · rw [if_pos h]
    exact fore_end _ l v w hl hb _ h rfl
  · rw [if_neg (by rw [h]; decide), if_pos h]
    exact fore_int F p hF hp l v w hl hb h he
  · rw [if_neg (by rw [h]; decide), if_neg (by rw [h]; decide)]
    by_cases hu : l.all (fun x => decide (I64 (wt x.k x.n))) = true
    · rw [if_pos hu]
      exact fore_dec F p hF hp l v w hl hb h he hi _ _ _ (Or.inl ⟨fun x hx => of_decide_eq_true (List.all_eq_true.1 hu x hx), rfl, rfl, rfl⟩)
    · rw [if_neg hu]
      refine fore_dec F p hF hp l v w hl hb h he hi _ _ _ (Or.inr ⟨?_, rfl, rfl, rfl⟩)
      have hu' : l.all (fun x => decide (I64 (wt x.k x.n))) = false := by simpa using hu
      rw [List.all_eq_false] at hu'
      obtain ⟨x, hx, hd⟩ := hu'
      exact ⟨x, hx, fun h => hd (decide_eq_true h)⟩
def lsP (a b : Int) : Bool := decide (a < b)
def msP (a b : Int) : Bool := decide (b < a)
theorem least_walk (v : Value) (w : World) (A B C : Int) (k1 : Calls Tryz.prog 124 #[v, .func (.func 125) #[] #[]] (w.alloc (.cells #[.int .u8 0, .int .i64 0, .string ⟨#[]⟩] 26)) fun e w' => e = rv A B C ∧ Old (w.alloc (.cells #[.int .u8 0, .int .i64 0, .string ⟨#[]⟩] 26)) w') : Calls Tryz.prog 82 #[v] w fun e w' => e = rv A B C ∧ Old w w' := by
  have HO := Lib.hid ((Old.refl w).alloc (.cells #[.int .u8 0, .int .i64 0, .string ⟨#[]⟩] 26))
  have HT := Lib.hid (Three.new w (.int .u8 0) (.int .i64 0) (.string ⟨#[]⟩))
  go_enter Tryz.func82, Tryz.ntmps82
  go_wp2_with (first
    | (go_at_call 124; (with_reducible refine k1.mono ?_); rintro e w1 ⟨rfl, ho1⟩; have T := Lib.hid (HT.out.old ho1); have c0 := T.out.c0; have c1 := T.out.c1; have c2 := T.out.c2; have f0 := T.out.f 0; have f1 := T.out.f 1; have f2 := T.out.f 2))
  have R := T.out.set (.int .u8 A) (.int .i64 B) (.string ⟨#[]⟩)
  exact bodyPost_ret (v := .tuple #[vl A B ⟨#[]⟩, .int .i64 C]) (by simp [results, Tryz.results82, go_sem, R.c0, R.c1, R.c2]) rfl ⟨rfl, old3 (HO.out.trans ho1) (Nat.le_refl _) _ _ _⟩
theorem least_any (l : List Vl) (v : Value) (w : World) (hl : RV w v l) (hb : l.length ≤ 100000) (hi : ∀ x ∈ l, I64 x.n) : Calls Tryz.prog 82 #[v] w fun e w' => e = rvt (fmT lsP l) ∧ Old w w' :=
  least_walk v w _ _ _ (fore_any 125 lsP (by decide) (fun a b W => lst_any a b W) l v _ (hl.old ((Old.refl w).alloc _)) hb hi)
theorem most_walk (v : Value) (w : World) (A B C : Int) (k1 : Calls Tryz.prog 124 #[v, .func (.func 126) #[] #[]] (w.alloc (.cells #[.int .u8 0, .int .i64 0, .string ⟨#[]⟩] 26)) fun e w' => e = rv A B C ∧ Old (w.alloc (.cells #[.int .u8 0, .int .i64 0, .string ⟨#[]⟩] 26)) w') : Calls Tryz.prog 83 #[v] w fun e w' => e = rv A B C ∧ Old w w' := by
  have HO := Lib.hid ((Old.refl w).alloc (.cells #[.int .u8 0, .int .i64 0, .string ⟨#[]⟩] 26))
  have HT := Lib.hid (Three.new w (.int .u8 0) (.int .i64 0) (.string ⟨#[]⟩))
  go_enter Tryz.func83, Tryz.ntmps83
  go_wp2_with (first
    | (go_at_call 124; (with_reducible refine k1.mono ?_); rintro e w1 ⟨rfl, ho1⟩; have T := Lib.hid (HT.out.old ho1); have c0 := T.out.c0; have c1 := T.out.c1; have c2 := T.out.c2; have f0 := T.out.f 0; have f1 := T.out.f 1; have f2 := T.out.f 2))
  have R := T.out.set (.int .u8 A) (.int .i64 B) (.string ⟨#[]⟩)
  exact bodyPost_ret (v := .tuple #[vl A B ⟨#[]⟩, .int .i64 C]) (by simp [results, Tryz.results83, go_sem, R.c0, R.c1, R.c2]) rfl ⟨rfl, old3 (HO.out.trans ho1) (Nat.le_refl _) _ _ _⟩
theorem most_any (l : List Vl) (v : Value) (w : World) (hl : RV w v l) (hb : l.length ≤ 100000) (hi : ∀ x ∈ l, I64 x.n) : Calls Tryz.prog 83 #[v] w fun e w' => e = rvt (fmT msP l) ∧ Old w w' :=
  most_walk v w _ _ _ (fore_any 126 msP (by decide) (fun a b W => mst_any a b W) l v _ (hl.old ((Old.refl w).alloc _)) hb hi)
end Go.Proofs.YtmkmafkkpigfpaaGreatDoor.V
namespace Go.Proofs.YtmkmafkkpigfpaaGreatDoor
open Go.ChangeShapes Go.WideShapes Go.ChangeAt Go.RowKit Go.Lib
set_option linter.unusedVariables false
set_option linter.unusedSimpArgs false
set_option maxRecDepth 100000
theorem idx_any (s:ByteArray) (i:Nat) (c:UInt8) (h:s.data.toList[i]?=some c) (W:World):(Instr.index 9 (.string s) (.int .i64 (i:Int))).run Tryz.prog W=.ok (.int .u8 (c.toNat:Int)) W:=by
 have hi:i<s.data.size:=by have:=(List.getElem?_eq_some_iff.1 h).1;simpa using this
 have hz:i<s.size:=hi
 have e:s[i]=c:=by
  rw [Array.getElem?_toList,Array.getElem?_eq_getElem hi] at h
  injection h
 simp [Instr.index,Sem.run_bind,run_underlying Tryz.underlying9,hz,e,go_sem]
theorem drop_get {l:List UInt8} {i:Nat} {c:UInt8} {r:List UInt8} (h:l.drop i=c::r):l[i]?=some c:=by
 have:=congrArg (·[0]?) h
 simpa using this
theorem u8_eq (c d:UInt8):((c.toNat:Int)==(d.toNat:Int))=(c==d):=by
 by_cases h:c=d
 ·subst h;simp
 ·rw [beq_false_of_ne h,beq_eq_false_iff_ne]
  exact u8_int h
end Go.Proofs.YtmkmafkkpigfpaaGreatDoor
