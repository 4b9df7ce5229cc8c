/- Layer value: Least, Most where one is a decimal; what they answer. -/
import Derived.Test.YtgfgfafildgpeaaVS
namespace Go.Proofs.Ytgfgfafildgpeaa
open Go.ChangeShapes Go.WideShapes Go.ChangeAt Go.RowKit
set_option linter.unusedVariables false

set_option maxHeartbeats 3200000 in
theorem fore_dec (F : FuncId) (p : Int → Int → Bool) (hF : F = 61 ∨ F = 62) (hp : CA F p) (l : List Vl) (v : Value) (w : World) (hl : RV w v l) (hb : l.length ≤ 100000) (hV : kdV l = 2) (hE : kdE l = 0) (hi : ∀ x ∈ l, I64 x.n) (A B C : Int) (hR : ((∀ x ∈ l, I64 (wt x.k x.n)) ∧ A = 2 ∧ B = bst p (wks 2 l) l.length ∧ C = 0) ∨ ((∃ x ∈ l, ¬ I64 (wt x.k x.n)) ∧ A = 0 ∧ B = 0 ∧ C = 9)) :
    Calls Try.prog 60 #[v, .func (.func F) #[] #[]] w fun e w' => e = rv A B C ∧ Old w w' := by
  have HO := Lib.hid ((Old.refl w).alloc (.cells #[.int .u8 0, .int .i64 0, .string ⟨#[]⟩] 23))
  have HT := Lib.hid (Three.new w (.int .u8 0) (.int .i64 0) (.string ⟨#[]⟩))
  have k1 := kind_any l v _ (hl.old HO.out) hb
  rw [hV, hE] at k1
  clear hV hE
  obtain ⟨oa, c, rfl, a1, a2, a3⟩ := hl
  obtain ⟨n, hn⟩ : ∃ n, n = l.length := ⟨_, rfl⟩
  rw [← hn] at k1 ⊢
  rw [← hn] at a1 hb hR
  have HI := Lib.hid hi
  have HR := Lib.hid hR
  clear hi hR
  have HN := Lib.hid hn
  have HA := Lib.hid a3
  clear hn a3
  rcases hF with rfl | rfl
  all_goals
    go_enter Try.func60, Try.ntmps60
    go_wp2_with (first
      | (go_at_call 69; (with_reducible refine k1.mono ?_); rintro e w1 ⟨rfl, ho1⟩; have T := Lib.hid (HT.out.old ho1); have O1 := Lib.hid (HO.out.trans ho1)))
    clear k1 ho1
    go_loopw [8, 27] (fun bs i wr => ∃ k : Nat, k ≤ n ∧ i = .int .i64 (k : Int) ∧ bs = .int .i64 (bst p (wks 2 l) k) ∧ Hid (∀ j x, j < k → l[j]? = some x → I64 (wt x.k x.n)) ∧ Hid (Three wr w.heap.size (.int .u8 0) (.int .i64 0) (.string ⟨#[]⟩)) ∧ Hid (Old w wr)) (fun _ i _ => (n - intOf i).toNat)
    case atStart => exact ⟨0, Nat.zero_le _, rfl, rfl, Lib.hid (fun j x hj => absurd hj (Nat.not_lt_zero _)), T, O1⟩
    case round =>
      obtain ⟨k, hk, rfl, rfl, HU, HW, HQ⟩ := hrel
      by_cases hkn : k < n
      · have hx : ∃ x, l[k]? = some x := ⟨l[k]'(by rw [← HN.out]; exact hkn), List.getElem?_eq_getElem _⟩
        obtain ⟨x, hx⟩ := hx
        obtain ⟨g, rfl, hgl, c0, c1, c2⟩ := HA.out k x hx
        have d0 := (HQ.out.cell hgl).trans c0
        have d1 := (HQ.out.cell hgl).trans c1
        have d2 := (HQ.out.cell hgl).trans c2
        obtain ⟨xk, xn, xs⟩ := x
        have hmem := List.mem_of_getElem? hx
        have hxn : I64 xn := HI.out _ hmem
        have k3 := fun W => units_any xk xn xs W hxn
        by_cases hu : I64 (wt xk xn)
        · rw [fitV_in hu, fitE_in hu] at k3
          have hw : wks 2 l k = wt xk xn := wks_at hx
          have HU' : Hid (∀ j x, j < k + 1 → l[j]? = some x → I64 (wt x.k x.n)) := Lib.hid (fun j x hj hjx => by
            rcases Nat.lt_or_eq_of_le (Nat.le_of_lt_succ hj) with h | h
            · exact HU.out j x h hjx
            · subst h; rw [hx] at hjx; cases hjx; exact hu)
          generalize wt xk xn = u at *
          have HX := Lib.hid hw
          clear hx c0 c1 c2 hw hmem
          by_cases hk0 : k = 0
          · subst hk0
            have E1 := Lib.hid ((bst_one p (wks 2 l)).trans HX.out)
            go_wp2_with (first
              | (go_at_call 73; (with_reducible refine (k3 _).mono ?_); rintro e w3 ⟨rfl, ho3⟩))
            refine ⟨⟨1, hkn, rfl, ?_, HU', Lib.hid ((HW.out.alloc _).old ho3), Lib.hid ((HQ.out.alloc _).trans ho3)⟩, by simp only [intOf]; omega⟩
            rw [E1.out]
          · have hk1 : ((k : Int) == 0) = false := by
              have : ¬ (k : Int) = 0 := by omega
              simpa using this
            obtain ⟨D, hD⟩ : ∃ D, D = bst p (wks 2 l) k := ⟨_, rfl⟩
            rw [← hD]
            have HD := Lib.hid hD
            clear hD
            have k2 := fun W => hp.on u D W
            cases hpp : p u D
            · rw [hpp] at k2
              go_wp2_with (first
                | (go_at_call 73; (with_reducible refine (k3 _).mono ?_); rintro e w3 ⟨rfl, ho3⟩)
                | (first | go_at_call 61 | go_at_call 62
                   (with_reducible refine (k2 _).mono ?_); rintro e w4 ⟨rfl, rfl⟩))
              refine ⟨⟨k + 1, hkn, rfl, ?_, HU', Lib.hid ((HW.out.alloc _).old ho3), Lib.hid ((HQ.out.alloc _).trans ho3)⟩, by simp only [intOf]; omega⟩
              rw [bst_no hk0 (by rw [HX.out, ← HD.out]; exact hpp), ← HD.out]
            · rw [hpp] at k2
              go_wp2_with (first
                | (go_at_call 73; (with_reducible refine (k3 _).mono ?_); rintro e w3 ⟨rfl, ho3⟩)
                | (first | go_at_call 61 | go_at_call 62
                   (with_reducible refine (k2 _).mono ?_); rintro e w4 ⟨rfl, rfl⟩))
              refine ⟨⟨k + 1, hkn, rfl, ?_, HU', Lib.hid ((HW.out.alloc _).old ho3), Lib.hid ((HQ.out.alloc _).trans ho3)⟩, by simp only [intOf]; omega⟩
              rw [bst_yes hk0 (by rw [HX.out, ← HD.out]; exact hpp), HX.out]
        · rw [fitV_out hu, fitE_out hu] at k3
          have HC : Hid (A = 0 ∧ B = 0 ∧ C = 9) := Lib.hid (HR.out.elim (fun h => absurd (h.1 _ hmem) hu) (fun h => h.2))
          clear hx c0 c1 c2 hmem
          go_wp2_with (first
            | (go_at_call 73; (with_reducible refine (k3 _).mono ?_); rintro e w3 ⟨rfl, ho3⟩; have T3 := Lib.hid ((HW.out.alloc (.cells #[.int .u8 xk, .int .i64 xn, .string xs] 23)).old ho3); have y0 := T3.out.c0; have y1 := T3.out.c1; have y2 := T3.out.c2; have f0 := T3.out.f 0; have f1 := T3.out.f 1; have f2 := T3.out.f 2))
          have R := T3.out.set (.int .u8 0) (.int .i64 0) (.string ⟨#[]⟩)
          exact bodyPost_ret (v := .tuple #[vl 0 0 ⟨#[]⟩, .int .i64 9]) (by simp [results, Try.results60, go_sem, R.c0, R.c1, R.c2]) rfl ⟨by rw [HC.out.1, HC.out.2.1, HC.out.2.2], old3 ((HQ.out.alloc _).trans ho3) (Nat.le_refl _) _ _ _⟩
      · have hkn' : k = n := by omega
        subst hkn'
        have HC : Hid (A = 2 ∧ B = bst p (wks 2 l) k ∧ C = 0) := Lib.hid (HR.out.elim (fun h => h.2) (fun h => by
          obtain ⟨⟨x, hx, hu⟩, _⟩ := h
          obtain ⟨j, hj⟩ := List.getElem?_of_mem hx
          exact absurd (HU.out j x (by have := (List.getElem?_eq_some_iff.1 hj).1; have := HN.out; omega) hj) hu))
        obtain ⟨D, hD⟩ : ∃ D, bst p (wks 2 l) k = D := ⟨_, rfl⟩
        rw [hD]
        have HD := Lib.hid hD
        clear hD
        go_wp2_with (first
          | (go_at_call 71; (with_reducible refine (num_ok _ _ _).mono ?_); rintro e w2 ⟨rfl, ho2⟩; have T2 := Lib.hid (HW.out.old ho2); have c0 := T2.out.c0; have c1 := T2.out.c1; have c2 := T2.out.c2; have f0 := T2.out.f 0; have f1 := T2.out.f 1; have f2 := T2.out.f 2))
        have R := T2.out.set (.int .u8 2) (.int .i64 D) (.string ⟨#[]⟩)
        exact bodyPost_ret (v := .tuple #[vl 2 D ⟨#[]⟩, .int .i64 0]) (by simp [results, Try.results60, go_sem, R.c0, R.c1, R.c2]) rfl ⟨by rw [HC.out.1, HC.out.2.1, HC.out.2.2, HD.out], old3 (HQ.out.trans ho2) (Nat.le_refl _) _ _ _⟩


end Go.Proofs.Ytgfgfafildgpeaa
