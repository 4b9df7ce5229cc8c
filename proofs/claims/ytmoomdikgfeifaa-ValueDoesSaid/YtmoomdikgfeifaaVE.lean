/- Layer value: reckoning with decimals; reckon. -/
import Derived.Test.YtmoomdikgfeifaaVD
namespace Go.Proofs.Ytmoomdikgfeifaa
open Go.ChangeShapes Go.WideShapes Go.ChangeAt Go.RowKit
set_option linter.unusedVariables false

set_option maxHeartbeats 1600000 in
theorem decs_any (f : FuncId) (hF : f = 37 ∨ f = 48 ∨ f = 50 ∨ f = 52) (V E : Int → Int → Int) (hf : CF f V E) (k n : Int) (s : ByteArray) (k' n' : Int) (s' : ByteArray) (w : World) (g : Nat) (hp : w.cell? ⟨g, 0, none⟩ = some (.func (.func f) #[] #[])) (hpl : g < w.heap.size) (hn : I64 n) (hn' : I64 n') (hu : I64 (wt k n)) (hu' : I64 (wt k' n')) :
    Calls Try.prog 64 #[vl k n s, vl k' n' s', .pointer (some ⟨g, 0, none⟩)] w fun e w' => e = rv (nmK 2 (E (wt k n) (wt k' n'))) (nmN (V (wt k n) (wt k' n')) (E (wt k n) (wt k' n'))) (E (wt k n) (wt k' n')) ∧ Old w w' := by
  have HO := Lib.hid ((((Old.refl w).alloc (.cells #[.int .u8 k, .int .i64 n, .string s] 23)).alloc (.cells #[.int .u8 k', .int .i64 n', .string s'] 23)).alloc (.cells #[.int .u8 0, .int .i64 0, .string ⟨#[]⟩] 23))
  have HB := Lib.hid ((Bx2.new w k n s k' n' s').old ((Old.refl _).alloc (.cells #[.int .u8 0, .int .i64 0, .string ⟨#[]⟩] 23)))
  have HT := Lib.hid (Three.new ((w.alloc (.cells #[.int .u8 k, .int .i64 n, .string s] 23)).alloc (.cells #[.int .u8 k', .int .i64 n', .string s'] 23)) (.int .u8 0) (.int .i64 0) (.string ⟨#[]⟩))
  rw [sz_alloc, sz_alloc] at HT
  have HP := Lib.hid hp
  clear hp
  have hc := fun W => hf (wt k n) (wt k' n') W hu hu'
  clear hf
  have k1 := fun W => units_any k n s W hn
  have k2 := fun W => units_any k' n' s' W hn'
  rw [fitV_in hu, fitE_in hu] at k1
  rw [fitV_in hu', fitE_in hu'] at k2
  generalize wt k n = u at *
  generalize wt k' n' = u' at *
  rcases hF with rfl | rfl | rfl | rfl
  all_goals
    go_enter Try.func64, Try.ntmps64
    go_wp2_with (first
      | (go_at_call 65; first
          | ((with_reducible refine (k1 _).mono ?_); rintro e w1 ⟨rfl, ho1⟩; have B1 := Lib.hid (HB.out.old ho1); have c0 := B1.out.t1.c0; have c1 := B1.out.t1.c1; have c2 := B1.out.t1.c2)
          | ((with_reducible refine (k2 _).mono ?_); clear c0 c1 c2; rintro e w2 ⟨rfl, ho2⟩; have O2 := Lib.hid (HO.out.trans (ho1.trans ho2)); have hq := (O2.out.cell (p := ⟨g, 0, none⟩) hpl).trans HP.out))
      | (first | go_at_call 37 | go_at_call 48 | go_at_call 50 | go_at_call 52
         (with_reducible refine (hc _).mono ?_); clear hq; rintro e w3 ⟨rfl, ho3⟩)
      | (go_at_call 63
         (with_reducible refine (number_any _ _ _ _).mono ?_); rintro e w4 ⟨rfl, ho4⟩; have T2 := Lib.hid (HT.out.old (ho1.trans (ho2.trans (ho3.trans ho4)))); have c0 := T2.out.c0; have c1 := T2.out.c1; have c2 := T2.out.c2; have f0 := T2.out.f 0; have f1 := T2.out.f 1; have f2 := T2.out.f 2))
    have R := T2.out.set (.int .u8 (nmK 2 (E u u'))) (.int .i64 (nmN (V u u') (E u u'))) (.string ⟨#[]⟩)
    exact bodyPost_ret (v := .tuple #[vl (nmK 2 (E u u')) (nmN (V u u') (E u u')) ⟨#[]⟩, .int .i64 (E u u')]) (by simp [results, Try.results64, go_sem, R.c0, R.c1, R.c2]) rfl ⟨rfl, old3 (O2.out.trans (ho3.trans ho4)) (by omega) _ _ _⟩

theorem decs_over (k n : Int) (s : ByteArray) (k' n' : Int) (s' : ByteArray) (w : World) (g : Nat) (hn : I64 n) (hn' : I64 n') (hu : ¬ (I64 (wt k n) ∧ I64 (wt k' n'))) :
    Calls Try.prog 64 #[vl k n s, vl k' n' s', .pointer (some ⟨g, 0, none⟩)] w fun e w' => e = rv 0 0 9 ∧ Old w w' := by
  have HO := Lib.hid ((((Old.refl w).alloc (.cells #[.int .u8 k, .int .i64 n, .string s] 23)).alloc (.cells #[.int .u8 k', .int .i64 n', .string s'] 23)).alloc (.cells #[.int .u8 0, .int .i64 0, .string ⟨#[]⟩] 23))
  have HB := Lib.hid ((Bx2.new w k n s k' n' s').old ((Old.refl _).alloc (.cells #[.int .u8 0, .int .i64 0, .string ⟨#[]⟩] 23)))
  have HT := Lib.hid (Three.new ((w.alloc (.cells #[.int .u8 k, .int .i64 n, .string s] 23)).alloc (.cells #[.int .u8 k', .int .i64 n', .string s'] 23)) (.int .u8 0) (.int .i64 0) (.string ⟨#[]⟩))
  rw [sz_alloc, sz_alloc] at HT
  have k1 := fun W => units_any k n s W hn
  have k2 := fun W => units_any k' n' s' W hn'
  by_cases h1 : I64 (wt k n)
  · have h2 : ¬ I64 (wt k' n') := fun h => hu ⟨h1, h⟩
    rw [fitV_in h1, fitE_in h1] at k1
    rw [fitV_out h2, fitE_out h2] at k2
    generalize wt k n = u at *
    clear hu h2
    go_enter Try.func64, Try.ntmps64
    go_wp2_with (first
      | (go_at_call 65; first
          | ((with_reducible refine (k1 _).mono ?_); rintro e w1 ⟨rfl, ho1⟩; have B1 := Lib.hid (HB.out.old ho1); have c0 := B1.out.t1.c0; have c1 := B1.out.t1.c1; have c2 := B1.out.t1.c2)
          | ((with_reducible refine (k2 _).mono ?_); clear c0 c1 c2; rintro e w2 ⟨rfl, ho2⟩; have T2 := Lib.hid (HT.out.old (ho1.trans ho2)); have c0 := T2.out.c0; have c1 := T2.out.c1; have c2 := T2.out.c2; have f0 := T2.out.f 0; have f1 := T2.out.f 1; have f2 := T2.out.f 2)))
    have R := T2.out.set (.int .u8 0) (.int .i64 0) (.string ⟨#[]⟩)
    exact bodyPost_ret (v := .tuple #[vl 0 0 ⟨#[]⟩, .int .i64 9]) (by simp [results, Try.results64, go_sem, R.c0, R.c1, R.c2]) rfl ⟨rfl, old3 (HO.out.trans (ho1.trans ho2)) (by omega) _ _ _⟩
  · rw [fitV_out h1, fitE_out h1] at k1
    clear hu h1
    go_enter Try.func64, Try.ntmps64
    go_wp2_with (first
      | (go_at_call 65; ((with_reducible refine (k1 _).mono ?_); rintro e w1 ⟨rfl, ho1⟩; have T2 := Lib.hid (HT.out.old ho1); have c0 := T2.out.c0; have c1 := T2.out.c1; have c2 := T2.out.c2; have f0 := T2.out.f 0; have f1 := T2.out.f 1; have f2 := T2.out.f 2)))
    have R := T2.out.set (.int .u8 0) (.int .i64 0) (.string ⟨#[]⟩)
    exact bodyPost_ret (v := .tuple #[vl 0 0 ⟨#[]⟩, .int .i64 9]) (by simp [results, Try.results64, go_sem, R.c0, R.c1, R.c2]) rfl ⟨rfl, old3 (HO.out.trans ho1) (by omega) _ _ _⟩

end Go.Proofs.Ytmoomdikgfeifaa
