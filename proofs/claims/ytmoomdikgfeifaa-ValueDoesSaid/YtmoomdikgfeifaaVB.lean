/- Layer value: Compare. -/
import Derived.Test.YtmoomdikgfeifaaVA
namespace Go.Proofs.Ytmoomdikgfeifaa
open Go.ChangeShapes Go.WideShapes Go.ChangeAt Go.RowKit
set_option linter.unusedVariables false

/-- Two values that lie boxed, one behind the other. -/
structure Bx2 (w W : World) (k n : Int) (s : ByteArray) (k' n' : Int) (s' : ByteArray) : Prop where
  t0 : Three W w.heap.size (.int .u8 k) (.int .i64 n) (.string s)
  t1 : Three W (w.heap.size + 1) (.int .u8 k') (.int .i64 n') (.string s')
  o : Old w W
theorem Bx2.new (w : World) (k n : Int) (s : ByteArray) (k' n' : Int) (s' : ByteArray) : Bx2 w ((w.alloc (.cells #[.int .u8 k, .int .i64 n, .string s] 23)).alloc (.cells #[.int .u8 k', .int .i64 n', .string s'] 23)) k n s k' n' s' := by
  refine ⟨(Three.new w (.int .u8 k) (.int .i64 n) (.string s)).alloc _, ?_, ((Old.refl w).alloc _).alloc _⟩
  have := Three.new (w.alloc (.cells #[.int .u8 k, .int .i64 n, .string s] 23)) (.int .u8 k') (.int .i64 n') (.string s')
  rwa [sz_alloc] at this
theorem Bx2.old {w W W' : World} {k n : Int} {s : ByteArray} {k' n' : Int} {s' : ByteArray} (h : Bx2 w W k n s k' n' s') (ho : Old W W') : Bx2 w W' k n s k' n' s' := ⟨h.t0.old ho, h.t1.old ho, h.o.trans ho⟩

theorem cmp_else (k n : Int) (s : ByteArray) (k' n' : Int) (s' : ByteArray) (w : World) (hk : ¬ ((k = 1 ∨ k = 2) ∧ (k' = 1 ∨ k' = 2))) (h3 : ¬ (k = k' ∧ 3 ≤ k ∧ k ≤ 5)) :
    Calls Try.prog 9 #[vl k n s, vl k' n' s'] w fun e w' => e = pb 0 false ∧ Old w w' := by
  have HB := Lib.hid (Bx2.new w k n s k' n' s')
  have k1 := fun W => isnum_any k n s W
  have k2 := fun W => isnum_any k' n' s' W
  by_cases hn : k = 1 ∨ k = 2
  · have hm : ¬ (k' = 1 ∨ k' = 2) := fun h => hk ⟨hn, h⟩
    have e1 : (k == 1 || k == 2) = true := by rcases hn with rfl | rfl <;> rfl
    have e2 : (k' == 1 || k' == 2) = false := by simpa using hm
    have hne : ¬ k = k' := by omega
    rw [e1] at k1
    rw [e2] at k2
    clear e1 e2 hk h3 hn hm
    go_enter Try.func9, Try.ntmps9
    go_wp2_with (first
      | (go_at_call 30; first
          | ((with_reducible refine (k1 _).mono ?_); rintro e w1 ⟨rfl, ho1⟩; have B1 := Lib.hid (HB.out.old ho1); have c0 := B1.out.t0.c0; have c1 := B1.out.t0.c1; have c2 := B1.out.t0.c2; have c3 := B1.out.t1.c0; have c4 := B1.out.t1.c1; have c5 := B1.out.t1.c2)
          | ((with_reducible refine (k2 _).mono ?_); clear c0 c1 c2 c3 c4 c5; rintro e w2 ⟨rfl, ho2⟩; have B2 := Lib.hid (B1.out.old ho2); have c0 := B2.out.t0.c0; have c1 := B2.out.t0.c1; have c2 := B2.out.t0.c2; have c3 := B2.out.t1.c0; have c4 := B2.out.t1.c1; have c5 := B2.out.t1.c2)))
    go_ret2
    exact ⟨rfl, B2.out.o⟩
  · have e1 : (k == 1 || k == 2) = false := by simpa using hn
    rw [e1] at k1
    clear e1
    by_cases hne : k = k'
    · subst hne
      have h3' : ¬ k = 3 ∧ ¬ k = 4 ∧ ¬ k = 5 := by omega
      obtain ⟨g3, g4, g5⟩ := h3'
      clear hk h3 hn
      go_enter Try.func9, Try.ntmps9
      go_wp2_with (first
        | (go_at_call 30; ((with_reducible refine (k1 _).mono ?_); rintro e w1 ⟨rfl, ho1⟩; have B1 := Lib.hid (HB.out.old ho1); have c0 := B1.out.t0.c0; have c1 := B1.out.t0.c1; have c2 := B1.out.t0.c2; have c3 := B1.out.t1.c0; have c4 := B1.out.t1.c1; have c5 := B1.out.t1.c2)))
      go_ret2
      exact ⟨rfl, B1.out.o⟩
    · clear hk h3 hn
      go_enter Try.func9, Try.ntmps9
      go_wp2_with (first
        | (go_at_call 30; ((with_reducible refine (k1 _).mono ?_); rintro e w1 ⟨rfl, ho1⟩; have B1 := Lib.hid (HB.out.old ho1); have c0 := B1.out.t0.c0; have c1 := B1.out.t0.c1; have c2 := B1.out.t0.c2; have c3 := B1.out.t1.c0; have c4 := B1.out.t1.c1; have c5 := B1.out.t1.c2)))
      go_ret2
      exact ⟨rfl, B1.out.o⟩

theorem cmp_text (k n : Int) (s : ByteArray) (n' : Int) (s' : ByteArray) (w : World) (h3 : 3 ≤ k ∧ k ≤ 5) :
    Calls Try.prog 9 #[vl k n s, vl k n' s'] w fun e w' => e = pb (fz [cz k k, cz n n', cs s s']) true ∧ Old w w' := by
  have HB := Lib.hid (Bx2.new w k n s k n' s')
  have k1 := fun W => isnum_any k n s W
  have e1 : (k == 1 || k == 2) = false := by
    have : ¬ (k = 1 ∨ k = 2) := by omega
    simpa using this
  rw [e1] at k1
  clear e1
  have h3' : k = 3 ∨ k = 4 ∨ k = 5 := by omega
  clear h3
  rcases h3' with rfl | rfl | rfl
  all_goals
    go_enter Try.func9, Try.ntmps9
    go_wp2_with (first
      | (go_at_call 30; ((with_reducible refine (k1 _).mono ?_); rintro e w1 ⟨rfl, ho1⟩; have B1 := Lib.hid (HB.out.old ho1); have c0 := B1.out.t0.c0; have c1 := B1.out.t0.c1; have c2 := B1.out.t0.c2; have c3 := B1.out.t1.c0; have c4 := B1.out.t1.c1; have c5 := B1.out.t1.c2))
      | (go_at_call 7; ((with_reducible refine (order_any _ _ _ _ _ _ _).mono ?_); rintro e w2 ⟨rfl, ho2⟩)))
    go_ret2
    exact ⟨rfl, B1.out.o.trans ho2⟩

theorem compare_any (k n : Int) (s : ByteArray) (k' n' : Int) (s' : ByteArray) (w : World) (hn : I64 n) (hn' : I64 n') :
    Calls Try.prog 9 #[vl k n s, vl k' n' s'] w fun e w' => e = pb (cpV k n s k' n' s') (cpB k k') ∧ Old w w' := by
  by_cases h1 : (k = 1 ∨ k = 2) ∧ (k' = 1 ∨ k' = 2)
  · refine (cmp_num k n s k' n' s' w h1.1 h1.2 hn hn').mono ?_
    rintro e w' ⟨rfl, ho⟩
    exact ⟨pb_eq (if_pos h1).symm (decide_eq_true (Or.inl h1)).symm, ho⟩
  · by_cases h3 : k = k' ∧ 3 ≤ k ∧ k ≤ 5
    · obtain ⟨rfl, h3'⟩ := id h3
      refine (cmp_text k n s n' s' w h3').mono ?_
      rintro e w' ⟨rfl, ho⟩
      refine ⟨pb_eq ?_ (decide_eq_true (Or.inr h3)).symm, ho⟩
      unfold cpV
      rw [if_neg h1, if_pos h3]
    · refine (cmp_else k n s k' n' s' w h1 h3).mono ?_
      rintro e w' ⟨rfl, ho⟩
      refine ⟨pb_eq ?_ ?_, ho⟩
      · unfold cpV
        rw [if_neg h1, if_neg h3]
      · exact (decide_eq_false (fun h => h.elim h1 h3)).symm

end Go.Proofs.Ytmoomdikgfeifaa
