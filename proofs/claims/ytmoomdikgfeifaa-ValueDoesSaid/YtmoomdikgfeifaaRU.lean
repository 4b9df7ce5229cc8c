/- The document's own answers of layer value: Compare, Kind. -/
import Derived.Test.YtmoomdikgfeifaaRT
import Derived.Deep.RegionHeld3
namespace Go.Proofs.Ytmoomdikgfeifaa
open Go.ChangeShapes Go.WideShapes Go.ChangeAt Go.RowKit
set_option linter.unusedVariables false

theorem wt_lo {k n : Int} (hn : I64 n) : Lo (wt k n) := by
  have p19 : p10 19 = 10000000000000000000000000000000000000000000000000000000000000000000000000000 := by decide
  unfold Lo I64 wt at *
  rw [p19]
  split <;> omega
theorem retS_cz {w w' : World} {x y : Int} {e : Ending} (h : RetS w x y e w') : e = .returned (.int .i64 (cz x y)) ∧ Old w w' := by
  obtain ⟨r, rfl, h, ho⟩ := h
  refine ⟨ri _ _ ?_, ho⟩
  rcases h with ⟨rfl, h⟩ | ⟨rfl, h⟩ | ⟨rfl, h⟩
  · exact (cz_lt h).symm
  · subst h; exact (cz_self _).symm
  · exact (cz_gt h).symm

set_option maxHeartbeats 1600000 in
theorem rcmp_num (k n : Int) (s : ByteArray) (k' n' : Int) (s' : ByteArray) (w : World) (hk : k = 1 ∨ k = 2) (hk' : k' = 1 ∨ k' = 2) (hn : I64 n) (hn' : I64 n') :
    Calls Try.prog 10 #[vl k n s, vl k' n' s'] w fun e w' => e = pb (cz (wt k n) (wt k' n')) true ∧ Old w w' := by
  have HB := Lib.hid (Bx2.new w k n s k' n' s')
  have e1 : (k == 1 || k == 2) = true := by rcases hk with rfl | rfl <;> rfl
  have e2 : (k' == 1 || k' == 2) = true := by rcases hk' with rfl | rfl <;> rfl
  have k1 := fun W => rnum_any k n s W
  have k2 := fun W => rnum_any k' n' s' W
  rw [e1] at k1
  rw [e2] at k2
  clear e1 e2
  have hw1 := fun W => worth_any k n s W hn
  have hw2 := fun W => worth_any k' n' s' W hn'
  have l1 := wt_lo (k := k) hn
  have l2 := wt_lo (k := k') hn'
  generalize wt k n = u at *
  generalize wt k' n' = u' at *
  go_enter Try.func10, Try.ntmps10
  go_upto_region 2 with (first
    | (go_at_call 32; first
        | ((with_reducible refine (k1 _).mono ?_); rintro e w1 ⟨rfl, ho1⟩; have B1 := Lib.hid (HB.out.old ho1); have c0 := B1.out.t0.c0; have c1 := B1.out.t0.c1; have c2 := B1.out.t0.c2; have c3 := B1.out.t1.c0; have c4 := B1.out.t1.c1; have c5 := B1.out.t1.c2)
        | ((with_reducible refine (k2 _).mono ?_); clear c0 c1 c2 c3 c4 c5; rintro e w2 ⟨rfl, ho2⟩; have B2 := Lib.hid (B1.out.old ho2); have c0 := B2.out.t0.c0; have c1 := B2.out.t0.c1; have c2 := B2.out.t0.c2; have c3 := B2.out.t1.c0; have c4 := B2.out.t1.c1; have c5 := B2.out.t1.c2)))
  clear HB B1 ho1 k1 k2 ho2
  go_region_held3 (fun w' => w'.cell? ⟨w.heap.size, 0, none⟩ = some (.int .u8 k) ∧ w'.cell? ⟨w.heap.size, 1, none⟩ = some (.int .i64 n) ∧ w'.cell? ⟨w.heap.size, 2, none⟩ = some (.string s) ∧ w'.cell? ⟨w.heap.size + 1, 0, none⟩ = some (.int .u8 k') ∧ w'.cell? ⟨w.heap.size + 1, 1, none⟩ = some (.int .i64 n') ∧ w'.cell? ⟨w.heap.size + 1, 2, none⟩ = some (.string s'))
    (first | exact ⟨c0, c1, c2, c3, c4, c5⟩ | exact ⟨B3.out.t0.c0, B3.out.t0.c1, B3.out.t0.c2, B3.out.t1.c0, B3.out.t1.c1, B3.out.t1.c2⟩ | exact ⟨B4.out.t0.c0, B4.out.t0.c1, B4.out.t0.c2, B4.out.t1.c0, B4.out.t1.c1, B4.out.t1.c2⟩ | exact ⟨B5.out.t0.c0, B5.out.t0.c1, B5.out.t0.c2, B5.out.t1.c0, B5.out.t1.c1, B5.out.t1.c2⟩ | go_keep)
    (first
      | (go_at_call 34; first
          | ((with_reducible refine (hw1 _).mono ?_); clear hw1; rintro e w3 ⟨x, rfl, hx, o3⟩; have B3 := Lib.hid (B2.out.old ((Old.refl _).drew.trans o3)))
          | ((with_reducible refine (hw2 _).mono ?_); rintro e w4 ⟨y, rfl, hy, o4⟩; have B4 := Lib.hid (B3.out.old o4)))
      | (go_at_call 33; (with_reducible refine (cmpI u u' _ _ _ (hx.old o4) hy l1.sm l2.sm (l1.sub l2)).mono ?_); intro e w5 hS; obtain ⟨rfl, o5⟩ := retS_cz hS; have B5 := Lib.hid (B4.out.old o5)))
  all_goals go_wp2
  go_ret2
  exact ⟨rfl, B5.out.o⟩

theorem rcmp_else (k n : Int) (s : ByteArray) (k' n' : Int) (s' : ByteArray) (w : World) (hk : ¬ ((k = 1 ∨ k = 2) ∧ (k' = 1 ∨ k' = 2))) (A : Int) (P : Bool) (hP : (k = k' ∧ 3 ≤ k ∧ k ≤ 5 ∧ A = od k n s k' n' s' ∧ P = true) ∨ (¬ (k = k' ∧ 3 ≤ k ∧ k ≤ 5) ∧ A = 0 ∧ P = false)) :
    Calls Try.prog 10 #[vl k n s, vl k' n' s'] w fun e w' => e = pb A P ∧ Old w w' := by
  have HB := Lib.hid (Bx2.new w k n s k' n' s')
  have k1 := fun W => rnum_any k n s W
  have k2 := fun W => rnum_any k' n' s' W
  have k3 := fun W => rorder_any k n s k' n' s' W
  by_cases hn : k = 1 ∨ k = 2
  · have hm : ¬ (k' = 1 ∨ k' = 2) := fun h => hk ⟨hn, h⟩
    have hne : ¬ k = k' := by omega
    obtain ⟨rfl, rfl⟩ : A = 0 ∧ P = false := by
      rcases hP with h | h
      · exact absurd h.1 hne
      · exact h.2
    have e1 : (k == 1 || k == 2) = true := by rcases hn with rfl | rfl <;> rfl
    have e2 : (k' == 1 || k' == 2) = false := by simpa using hm
    have hne1 : (k == k') = false := by simpa using hne
    rw [e1] at k1
    rw [e2] at k2
    clear e1 e2 hk hn hm hP
    go_enter Try.func10, Try.ntmps10
    go_wp2_with (first
      | (go_at_call 32; first
          | ((with_reducible refine (k1 _).mono ?_); rintro e w1 ⟨rfl, ho1⟩; have B1 := Lib.hid (HB.out.old ho1); have c0 := B1.out.t0.c0; have c1 := B1.out.t0.c1; have c2 := B1.out.t0.c2; have c3 := B1.out.t1.c0; have c4 := B1.out.t1.c1; have c5 := B1.out.t1.c2)
          | ((with_reducible refine (k2 _).mono ?_); clear c0 c1 c2 c3 c4 c5; rintro e w2 ⟨rfl, ho2⟩; have B2 := Lib.hid (B1.out.old ho2); have c0 := B2.out.t0.c0; have c1 := B2.out.t0.c1; have c2 := B2.out.t0.c2; have c3 := B2.out.t1.c0; have c4 := B2.out.t1.c1; have c5 := B2.out.t1.c2)))
    go_ret2
    exact ⟨rfl, B2.out.o⟩
  · have e1 : (k == 1 || k == 2) = false := by simpa using hn
    rw [e1] at k1
    clear e1
    rcases hP with ⟨rfl, h3, h5, rfl, rfl⟩ | ⟨hne, rfl, rfl⟩
    · clear hk hn
      go_enter Try.func10, Try.ntmps10
      go_wp2_with (first
        | (go_at_call 32; ((with_reducible refine (k1 _).mono ?_); rintro e w1 ⟨rfl, ho1⟩; have B1 := Lib.hid (HB.out.old ho1); have c0 := B1.out.t0.c0; have c1 := B1.out.t0.c1; have c2 := B1.out.t0.c2; have c3 := B1.out.t1.c0; have c4 := B1.out.t1.c1; have c5 := B1.out.t1.c2))
        | (go_at_call 8; ((with_reducible refine (k3 _).mono ?_); rintro e w2 ⟨rfl, ho2⟩)))
      go_ret2
      exact ⟨rfl, B1.out.o.trans ho2⟩
    · by_cases hkk : k = k'
      · subst hkk
        have hc : k < 3 ∨ 5 < k := by omega
        clear hk hn hne
        rcases hc with hc | hc
        all_goals
          go_enter Try.func10, Try.ntmps10
          go_wp2_with (first
            | (go_at_call 32; ((with_reducible refine (k1 _).mono ?_); rintro e w1 ⟨rfl, ho1⟩; have B1 := Lib.hid (HB.out.old ho1); have c0 := B1.out.t0.c0; have c1 := B1.out.t0.c1; have c2 := B1.out.t0.c2; have c3 := B1.out.t1.c0; have c4 := B1.out.t1.c1; have c5 := B1.out.t1.c2)))
          go_ret2
          exact ⟨rfl, B1.out.o⟩
      · have hne1 : (k == k') = false := by simpa using hkk
        clear hk hn hne
        go_enter Try.func10, Try.ntmps10
        go_wp2_with (first
          | (go_at_call 32; ((with_reducible refine (k1 _).mono ?_); rintro e w1 ⟨rfl, ho1⟩; have B1 := Lib.hid (HB.out.old ho1); have c0 := B1.out.t0.c0; have c1 := B1.out.t0.c1; have c2 := B1.out.t0.c2; have c3 := B1.out.t1.c0; have c4 := B1.out.t1.c1; have c5 := B1.out.t1.c2)))
        go_ret2
        exact ⟨rfl, B1.out.o⟩

theorem rcompare_any (k n : Int) (s : ByteArray) (k' n' : Int) (s' : ByteArray) (w : World) (hn : I64 n) (hn' : I64 n') :
    Calls Try.prog 10 #[vl k n s, vl k' n' s'] w fun e w' => e = pb (cpV k n s k' n' s') (cpB k k') ∧ Old w w' := by
  by_cases h1 : (k = 1 ∨ k = 2) ∧ (k' = 1 ∨ k' = 2)
  · refine (rcmp_num k n s k' n' s' w h1.1 h1.2 hn hn').mono ?_
    rintro e w' ⟨rfl, ho⟩
    exact ⟨pb_eq (if_pos h1).symm (decide_eq_true (Or.inl h1)).symm, ho⟩
  · refine rcmp_else k n s k' n' s' w h1 _ _ ?_
    by_cases h3 : k = k' ∧ 3 ≤ k ∧ k ≤ 5
    · refine Or.inl ⟨h3.1, h3.2.1, h3.2.2, ?_, decide_eq_true (Or.inr h3)⟩
      unfold cpV od
      rw [if_neg h1, if_pos h3]
    · refine Or.inr ⟨h3, ?_, decide_eq_false (fun h => h.elim h1 h3)⟩
      unfold cpV
      rw [if_neg h1, if_neg h3]

end Go.Proofs.Ytmoomdikgfeifaa
