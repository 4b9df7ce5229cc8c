/- ValueWorth: its walk. -/
import Derived.Test.YtgfgfafildgpeaaVJ
import Derived.Test.YtgfgfafildgpeaaVZ
import Derived.Deep.CutRange
namespace Go.Proofs.Ytgfgfafildgpeaa
open Go.ChangeShapes Go.WideShapes Go.ChangeAt Go.RowKit
set_option linter.unusedVariables false

/-- Three values that lie boxed, one behind the other. -/
structure Bx3 (w W : World) (k n : Int) (s : ByteArray) (k' n' : Int) (s' : ByteArray) (k'' n'' : Int) (s'' : ByteArray) : Prop where
  t0 : Three W w.heap.size (.int .u8 k) (.int .i64 n) (.string s)
  t1 : Three W (w.heap.size + 1) (.int .u8 k') (.int .i64 n') (.string s')
  t2 : Three W (w.heap.size + 1 + 1) (.int .u8 k'') (.int .i64 n'') (.string s'')
  o : Old w W
theorem Bx3.new (w : World) (k n : Int) (s : ByteArray) (k' n' : Int) (s' : ByteArray) (k'' n'' : Int) (s'' : ByteArray) : Bx3 w (((w.alloc (.cells #[.int .u8 k, .int .i64 n, .string s] 23)).alloc (.cells #[.int .u8 k', .int .i64 n', .string s'] 23)).alloc (.cells #[.int .u8 k'', .int .i64 n'', .string s''] 23)) k n s k' n' s' k'' n'' s'' := by
  have b := (Bx2.new w k n s k' n' s').old ((Old.refl _).alloc (.cells #[.int .u8 k'', .int .i64 n'', .string s''] 23))
  refine ⟨b.t0, b.t1, ?_, b.o⟩
  have := Three.new ((w.alloc (.cells #[.int .u8 k, .int .i64 n, .string s] 23)).alloc (.cells #[.int .u8 k', .int .i64 n', .string s'] 23)) (.int .u8 k'') (.int .i64 n'') (.string s'')
  rwa [sz_alloc, sz_alloc] at this
theorem Bx3.old {w W W' : World} {k n : Int} {s : ByteArray} {k' n' : Int} {s' : ByteArray} {k'' n'' : Int} {s'' : ByteArray} (h : Bx3 w W k n s k' n' s' k'' n'' s'') (ho : Old W W') : Bx3 w W' k n s k' n' s' k'' n'' s'' := ⟨h.t0.old ho, h.t1.old ho, h.t2.old ho, h.o.trans ho⟩

set_option maxHeartbeats 3200000 in
set_option maxRecDepth 100000 in
theorem worth_walk (k n : Int) (s : ByteArray) (k' n' : Int) (s' : ByteArray) (k'' n'' : Int) (s'' : ByteArray) (w : World) (X Y Z : Int) (P Q R S : Bool)
    (c1 : ∀ W, Calls Try.prog 12 #[vl k n s, vl k' n' s'] W fun e w' => e = pb X P ∧ Old W w')
    (c2 : ∀ W, Calls Try.prog 12 #[vl k' n' s', vl k'' n'' s''] W fun e w' => e = pb Y Q ∧ Old W w')
    (c3 : ∀ W, Calls Try.prog 12 #[vl k n s, vl k'' n'' s''] W fun e w' => e = pb Z R ∧ Old W w')
    (c4 : ∀ W, Calls Try.prog 12 #[vl k n s, vl k n s] W fun e w' => e = pb 0 S ∧ Old W w')
    (hS : S = decide (1 ≤ k ∧ k ≤ 5))
    (c5 : k = 1 → (∀ W, Calls Try.prog 14 #[vl k n s, vl 2 0 ⟨#[]⟩] W fun e w' => e = rv 0 0 9 ∧ Old W w') ∨ (∃ B : Int, B.tdiv 10000 = n ∧ B.tmod 10000 = 0 ∧ I64 n ∧ (∀ W, Calls Try.prog 14 #[vl k n s, vl 2 0 ⟨#[]⟩] W fun e w' => e = rv 2 B 0 ∧ Old W w') ∧ ∀ W, Calls Try.prog 12 #[vl k n s, vl 2 B ⟨#[]⟩] W fun e w' => e = pb 0 true ∧ Old W w'))
    (hF : P = true → Q = true → R = true ∧ ¬ (X ≤ 0 ∧ Y ≤ 0 ∧ 0 < Z) ∧ ¬ (0 ≤ X ∧ 0 ≤ Y ∧ Z < 0)) :
    Calls Try.prog 5 #[vl k n s, vl k' n' s', vl k'' n'' s''] w fun e w' => e = .returned (.bool true) ∧ Old w w' := by
  have HB := Lib.hid (Bx3.new w k n s k' n' s' k'' n'' s'')
  go_enter Try.func5, Try.ntmps5
  go_upto_region 4 with (first
    | (go_at_call 12; first
        | ((with_reducible refine (c3 _).mono ?_); clear c1 c2 c3; rintro e w3 ⟨rfl, o3⟩; have B3 := Lib.hid (B2.out.old o3))
        | ((with_reducible refine (c2 _).mono ?_); rintro e w2 ⟨rfl, o2⟩; have B2 := Lib.hid (B1.out.old o2); clear a0 a1 a2 b0 b1 b2 d0 d1 d2; have a0 := B2.out.t0.c0; have a1 := B2.out.t0.c1; have a2 := B2.out.t0.c2; have d0 := B2.out.t2.c0; have d1 := B2.out.t2.c1; have d2 := B2.out.t2.c2)
        | ((with_reducible refine (c1 _).mono ?_); rintro e w1 ⟨rfl, o1⟩; have B1 := Lib.hid (HB.out.old o1); have a0 := B1.out.t0.c0; have a1 := B1.out.t0.c1; have a2 := B1.out.t0.c2; have b0 := B1.out.t1.c0; have b1 := B1.out.t1.c1; have b2 := B1.out.t1.c2; have d0 := B1.out.t2.c0; have d1 := B1.out.t2.c1; have d2 := B1.out.t2.c2)))
  go_cut [68] from 37 to 68 (fun o wx => o = .bool false ∧ wx = w3)
  case first =>
    clear HB o1 B1 o2 B2 a0 a1 a2 d0 d1 d2 o3 B3 c4 hS c5
    cases P
    · go_wp2_with fail
      go_meet
      exact ⟨rfl, rfl⟩
    · cases Q
      · go_wp2_with fail
        go_meet
        exact ⟨rfl, rfl⟩
      · obtain ⟨rfl, f1, f2⟩ := hF rfl rfl
        clear hF
        go_wp2_with fail
        all_goals go_meet
        all_goals (refine ⟨ib ?_, rfl⟩; first | rfl | (simp; omega))
  case rest =>
    obtain ⟨rfl, rfl⟩ := hcut
    clear a0 a1 a2 d0 d1 d2
    have a0 := B3.out.t0.c0
    have a1 := B3.out.t0.c1
    have a2 := B3.out.t0.c2
    clear HB o1 B1 o2 B2 o3 hF
    by_cases h1 : k = 1
    · subst h1
      have hS' : S = true := hS
      subst hS'
      clear hS
      have c7 := c5 rfl
      clear c5
      rcases c7 with c5 | ⟨B, e1, e2, hn, c5, c6⟩
      · go_wp2_with (first
          | (go_at_call 12; ((with_reducible refine (c4 _).mono ?_); clear a0 a1 a2; rintro e w4 ⟨rfl, o4⟩; have B4 := Lib.hid (B3.out.old o4); have a0 := B4.out.t0.c0; have a1 := B4.out.t0.c1; have a2 := B4.out.t0.c2))
          | (go_at_call 14; ((with_reducible refine (c5 _).mono ?_); clear a0 a1 a2; rintro e w5 ⟨rfl, o5⟩; have B5 := Lib.hid (B4.out.old o5)))
          | (go_at_call 21; ((with_reducible refine (known_any _).mono ?_); rintro e w6 ⟨rfl, o6⟩)))
        go_ret
        exact ⟨rfl, B5.out.o.trans (((Old.refl _).alloc _).trans o6)⟩
      · have hw : wrap64 n = n := by unfold wrap64; unfold I64 at hn; omega
        have T4 := fun W : World => Three.new W (.int .u8 2) (.int .i64 B) (.string ⟨#[]⟩)
        go_wp2_with (first
          | (go_at_call 12; first
              | ((with_reducible refine (c4 _).mono ?_); clear a0 a1 a2; rintro e w4 ⟨rfl, o4⟩; have B4 := Lib.hid (B3.out.old o4); have a0 := B4.out.t0.c0; have a1 := B4.out.t0.c1; have a2 := B4.out.t0.c2)
              | ((with_reducible refine (c6 _).mono ?_); clear x0 x1 x2; rintro e w6 ⟨rfl, o6⟩; have B6 := Lib.hid (B5.out.old (((Old.refl _).alloc _).trans o6)); have T6 := Lib.hid ((T4 w5).old o6); have a0 := B6.out.t0.c0; have a1 := B6.out.t0.c1; have a2 := B6.out.t0.c2; have d0 := T6.out.c0; have d1 := T6.out.c1; have d2 := T6.out.c2))
          | (go_at_call 14; ((with_reducible refine (c5 _).mono ?_); clear a0 a1 a2; rintro e w5 ⟨rfl, o5⟩; have B5 := Lib.hid (B4.out.old o5); have x0 := (B5.out.old ((Old.refl _).alloc (.cells #[.int .u8 2, .int .i64 B, .string ⟨#[]⟩] 23))).t0.c0; have x1 := (B5.out.old ((Old.refl _).alloc (.cells #[.int .u8 2, .int .i64 B, .string ⟨#[]⟩] 23))).t0.c1; have x2 := (B5.out.old ((Old.refl _).alloc (.cells #[.int .u8 2, .int .i64 B, .string ⟨#[]⟩] 23))).t0.c2))
          | (go_at_call 21; ((with_reducible refine (known_any _).mono ?_); rintro e w7 ⟨rfl, o7⟩)))
        go_ret
        exact ⟨rfl, B6.out.o.trans o7⟩
    · have hk : k ≤ 0 ∨ (2 ≤ k ∧ k ≤ 5) ∨ 6 ≤ k := by omega
      rcases hk with hk | hk | hk
      all_goals
        have hS' : S = decide (1 ≤ k ∧ k ≤ 5) := hS
        clear hS
        first | (rw [decide_eq_false (by omega)] at hS') | (rw [decide_eq_true (by omega)] at hS')
        subst hS'
        go_wp2_with (first
          | (go_at_call 12; ((with_reducible refine (c4 _).mono ?_); clear a0 a1 a2; rintro e w4 ⟨rfl, o4⟩; have B4 := Lib.hid (B3.out.old o4); have a0 := B4.out.t0.c0; have a1 := B4.out.t0.c1; have a2 := B4.out.t0.c2))
          | (go_at_call 21; ((with_reducible refine (known_any _).mono ?_); rintro e w6 ⟨rfl, o6⟩)))
        go_ret
        exact ⟨rfl, B4.out.o.trans o6⟩

end Go.Proofs.Ytgfgfafildgpeaa
