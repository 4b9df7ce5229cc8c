/- The document's own answers of layer value: Do where it refuses; Do and Neg of all values. -/
import Derived.Test.YtmoomdikgfeifaaDA
namespace Go.Proofs.Ytmoomdikgfeifaa
open Go.ChangeShapes Go.WideShapes Go.ChangeAt Go.RowKit
set_option linter.unusedVariables false

set_option maxHeartbeats 1600000 in
set_option maxRecDepth 100000 in
theorem do_nine (op k n : Int) (s : ByteArray) (k' n' : Int) (s' : ByteArray) (w : World) (hk : ∀ W v, RV W v [⟨k, n, s⟩, ⟨k', n', s'⟩] → Calls Try.prog 39 #[v] W fun e w' => e = .returned (.int .u8 9) ∧ Old W w') :
    Calls Try.prog 12 #[.int .u8 op, vl k n s, vl k' n' s'] w fun e w' => e = rv 0 0 8 ∧ Old w w' := by
  have H := Lib.hid (Hs.three w k n s k' n' s' 0 0 ⟨#[]⟩)
  have O := Lib.hid ((((Old.refl w).alloc (.cells #[.int .u8 k, .int .i64 n, .string s] 23)).alloc (.cells #[.int .u8 k', .int .i64 n', .string s'] 23)).alloc (.cells #[.int .u8 0, .int .i64 0, .string ⟨#[]⟩] 23))
  go_enter Try.func12, Try.ntmps12
  go_upto_region 1 with (fail)
  have HC : Hid (w.heap.size ≤ w.heap.size + 1 + 1) := Lib.hid (by omega)
  generalize ((w.alloc (.cells #[.int .u8 k, .int .i64 n, .string s] 23)).alloc (.cells #[.int .u8 k', .int .i64 n', .string s'] 23)).alloc (.cells #[.int .u8 0, .int .i64 0, .string ⟨#[]⟩] 23) = W0 at *
  generalize w.heap.size + 1 + 1 = pC at *
  generalize w.heap.size + 1 = pB at *
  generalize hpA : w.heap.size = pA at *
  have HW := Lib.hid hpA
  clear hpA
  have x00 := H.out.1.c0
  have x01 := H.out.1.c1
  have x02 := H.out.1.c2
  have x10 := H.out.2.1.c0
  have x11 := H.out.2.1.c1
  have x12 := H.out.2.1.c2
  go_wp2_with (first
    | (go_at_call 39; ((with_reducible refine (hk _ _ (RV.new2 _ _ _ _ _ _ _)).mono ?_); rintro e w1 ⟨rfl, o1⟩; replace H := Lib.hid (H.out.old (((Old.refl _).alloc _).trans o1)); replace O := Lib.hid (O.out.trans (((Old.refl _).alloc _).trans o1)); clear o1 x00 x01 x02 x10 x11 x12; have P := Lib.hid H.out.2.2.1; have c0 := P.out.c0; have c1 := P.out.c1; have c2 := P.out.c2; have f0 := P.out.f 0; have f1 := P.out.f 1; have f2 := P.out.f 2)))
  have RR := P.out.set (.int .u8 0) (.int .i64 0) (.string ⟨#[]⟩)
  exact bodyPost_ret (v := .tuple #[vl 0 0 ⟨#[]⟩, .int .i64 8]) (by simp [results, Try.results12, go_sem, RR.c0, RR.c1, RR.c2]) rfl ⟨rfl, old3 O.out (by have := HC.out; have := HW.out; omega) _ _ _⟩

set_option maxHeartbeats 1600000 in
set_option maxRecDepth 100000 in
theorem do_null (op k n : Int) (s : ByteArray) (k' n' : Int) (s' : ByteArray) (w : World) (hk : ∀ W v, RV W v [⟨k, n, s⟩, ⟨k', n', s'⟩] → Calls Try.prog 39 #[v] W fun e w' => e = .returned (.int .u8 0) ∧ Old W w') :
    Calls Try.prog 12 #[.int .u8 op, vl k n s, vl k' n' s'] w fun e w' => e = rv 0 0 0 ∧ Old w w' := by
  have H := Lib.hid (Hs.three w k n s k' n' s' 0 0 ⟨#[]⟩)
  have O := Lib.hid ((((Old.refl w).alloc (.cells #[.int .u8 k, .int .i64 n, .string s] 23)).alloc (.cells #[.int .u8 k', .int .i64 n', .string s'] 23)).alloc (.cells #[.int .u8 0, .int .i64 0, .string ⟨#[]⟩] 23))
  go_enter Try.func12, Try.ntmps12
  go_upto_region 1 with (fail)
  have HC : Hid (w.heap.size ≤ w.heap.size + 1 + 1) := Lib.hid (by omega)
  generalize ((w.alloc (.cells #[.int .u8 k, .int .i64 n, .string s] 23)).alloc (.cells #[.int .u8 k', .int .i64 n', .string s'] 23)).alloc (.cells #[.int .u8 0, .int .i64 0, .string ⟨#[]⟩] 23) = W0 at *
  generalize w.heap.size + 1 + 1 = pC at *
  generalize w.heap.size + 1 = pB at *
  generalize hpA : w.heap.size = pA at *
  have HW := Lib.hid hpA
  clear hpA
  have x00 := H.out.1.c0
  have x01 := H.out.1.c1
  have x02 := H.out.1.c2
  have x10 := H.out.2.1.c0
  have x11 := H.out.2.1.c1
  have x12 := H.out.2.1.c2
  go_wp2_with (first
    | (go_at_call 39; ((with_reducible refine (hk _ _ (RV.new2 _ _ _ _ _ _ _)).mono ?_); rintro e w1 ⟨rfl, o1⟩; replace H := Lib.hid (H.out.old (((Old.refl _).alloc _).trans o1)); replace O := Lib.hid (O.out.trans (((Old.refl _).alloc _).trans o1)); clear o1 x00 x01 x02 x10 x11 x12; have P := Lib.hid H.out.2.2.1; have c0 := P.out.c0; have c1 := P.out.c1; have c2 := P.out.c2; have f0 := P.out.f 0; have f1 := P.out.f 1; have f2 := P.out.f 2)))
  have RR := P.out.set (.int .u8 0) (.int .i64 0) (.string ⟨#[]⟩)
  exact bodyPost_ret (v := .tuple #[vl 0 0 ⟨#[]⟩, .int .i64 0]) (by simp [results, Try.results12, go_sem, RR.c0, RR.c1, RR.c2]) rfl ⟨rfl, old3 O.out (by have := HC.out; have := HW.out; omega) _ _ _⟩

set_option maxHeartbeats 1600000 in
set_option maxRecDepth 100000 in
theorem do_as1 (op k n : Int) (s : ByteArray) (k' n' : Int) (s' : ByteArray) (w : World) (K : Int) (hk : ∀ W v, RV W v [⟨k, n, s⟩, ⟨k', n', s'⟩] → Calls Try.prog 39 #[v] W fun e w' => e = .returned (.int .u8 K) ∧ Old W w') (hK9 : (K == 9) = false) (hK0 : (K == 0) = false)
    (hX : ∀ W, Calls Try.prog 40 #[vl k n s, .int .u8 K] W fun e w' => e = rv 0 0 9 ∧ Old W w') :
    Calls Try.prog 12 #[.int .u8 op, vl k n s, vl k' n' s'] w fun e w' => e = rv 0 0 9 ∧ Old w w' := by
  have H := Lib.hid (Hs.three w k n s k' n' s' 0 0 ⟨#[]⟩)
  have O := Lib.hid ((((Old.refl w).alloc (.cells #[.int .u8 k, .int .i64 n, .string s] 23)).alloc (.cells #[.int .u8 k', .int .i64 n', .string s'] 23)).alloc (.cells #[.int .u8 0, .int .i64 0, .string ⟨#[]⟩] 23))
  go_enter Try.func12, Try.ntmps12
  go_upto_region 1 with (fail)
  have HC : Hid (w.heap.size ≤ w.heap.size + 1 + 1) := Lib.hid (by omega)
  generalize ((w.alloc (.cells #[.int .u8 k, .int .i64 n, .string s] 23)).alloc (.cells #[.int .u8 k', .int .i64 n', .string s'] 23)).alloc (.cells #[.int .u8 0, .int .i64 0, .string ⟨#[]⟩] 23) = W0 at *
  generalize w.heap.size + 1 + 1 = pC at *
  generalize w.heap.size + 1 = pB at *
  generalize hpA : w.heap.size = pA at *
  have HW := Lib.hid hpA
  clear hpA
  have x00 := H.out.1.c0
  have x01 := H.out.1.c1
  have x02 := H.out.1.c2
  have x10 := H.out.2.1.c0
  have x11 := H.out.2.1.c1
  have x12 := H.out.2.1.c2
  go_upto_region 6 with (first
    | (go_at_call 39; ((with_reducible refine (hk _ _ (RV.new2 _ _ _ _ _ _ _)).mono ?_); rintro e w1 ⟨rfl, o1⟩; replace H := Lib.hid (H.out.old (((Old.refl _).alloc _).trans o1)); replace O := Lib.hid (O.out.trans (((Old.refl _).alloc _).trans o1)); clear o1 x00 x01 x02 x10 x11 x12; have x00 := H.out.1.c0; have x01 := H.out.1.c1; have x02 := H.out.1.c2)))
  clear hk hK9 hK0
  go_wp2_with (first
    | (go_at_call 40; ((with_reducible refine (hX _).mono ?_); rintro e w2 ⟨rfl, o2⟩; replace H := Lib.hid ((H.out.old o2).old ((Old.refl _).alloc (.cells #[.int .u8 0, .int .i64 0, .string ⟨#[]⟩] 23))); replace O := Lib.hid ((O.out.trans o2).alloc (.cells #[.int .u8 0, .int .i64 0, .string ⟨#[]⟩] 23)); clear o2 x00 x01 x02; have P := Lib.hid H.out.2.2.1; have c0 := P.out.c0; have c1 := P.out.c1; have c2 := P.out.c2; have f0 := P.out.f 0; have f1 := P.out.f 1; have f2 := P.out.f 2)))
  have RR := P.out.set (.int .u8 0) (.int .i64 0) (.string ⟨#[]⟩)
  exact bodyPost_ret (v := .tuple #[vl 0 0 ⟨#[]⟩, .int .i64 9]) (by simp [results, Try.results12, go_sem, RR.c0, RR.c1, RR.c2]) rfl ⟨rfl, old3 O.out (by have := HC.out; have := HW.out; omega) _ _ _⟩

set_option maxHeartbeats 1600000 in
set_option maxRecDepth 100000 in
theorem do_as2 (op k n : Int) (s : ByteArray) (k' n' : Int) (s' : ByteArray) (w : World) (K X : Int) (hk : ∀ W v, RV W v [⟨k, n, s⟩, ⟨k', n', s'⟩] → Calls Try.prog 39 #[v] W fun e w' => e = .returned (.int .u8 K) ∧ Old W w') (hK9 : (K == 9) = false) (hK0 : (K == 0) = false)
    (hX : ∀ W, Calls Try.prog 40 #[vl k n s, .int .u8 K] W fun e w' => e = rv K X 0 ∧ Old W w')
    (hY : ∀ W, Calls Try.prog 40 #[vl k' n' s', .int .u8 K] W fun e w' => e = rv 0 0 9 ∧ Old W w') :
    Calls Try.prog 12 #[.int .u8 op, vl k n s, vl k' n' s'] w fun e w' => e = rv 0 0 9 ∧ Old w w' := by
  have H := Lib.hid (Hs.three w k n s k' n' s' 0 0 ⟨#[]⟩)
  have O := Lib.hid ((((Old.refl w).alloc (.cells #[.int .u8 k, .int .i64 n, .string s] 23)).alloc (.cells #[.int .u8 k', .int .i64 n', .string s'] 23)).alloc (.cells #[.int .u8 0, .int .i64 0, .string ⟨#[]⟩] 23))
  go_enter Try.func12, Try.ntmps12
  go_upto_region 1 with (fail)
  have HC : Hid (w.heap.size ≤ w.heap.size + 1 + 1) := Lib.hid (by omega)
  generalize ((w.alloc (.cells #[.int .u8 k, .int .i64 n, .string s] 23)).alloc (.cells #[.int .u8 k', .int .i64 n', .string s'] 23)).alloc (.cells #[.int .u8 0, .int .i64 0, .string ⟨#[]⟩] 23) = W0 at *
  generalize w.heap.size + 1 + 1 = pC at *
  generalize w.heap.size + 1 = pB at *
  generalize hpA : w.heap.size = pA at *
  have HW := Lib.hid hpA
  clear hpA
  have x00 := H.out.1.c0
  have x01 := H.out.1.c1
  have x02 := H.out.1.c2
  have x10 := H.out.2.1.c0
  have x11 := H.out.2.1.c1
  have x12 := H.out.2.1.c2
  go_upto_region 6 with (first
    | (go_at_call 39; ((with_reducible refine (hk _ _ (RV.new2 _ _ _ _ _ _ _)).mono ?_); rintro e w1 ⟨rfl, o1⟩; replace H := Lib.hid (H.out.old (((Old.refl _).alloc _).trans o1)); replace O := Lib.hid (O.out.trans (((Old.refl _).alloc _).trans o1)); clear o1 x00 x01 x02 x10 x11 x12; have x00 := H.out.1.c0; have x01 := H.out.1.c1; have x02 := H.out.1.c2)))
  clear hk hK9 hK0
  go_upto_region 9 with (first
    | (go_at_call 40; ((with_reducible refine (hX _).mono ?_); rintro e w2 ⟨rfl, o2⟩; replace H := Lib.hid (H.out.old o2); replace O := Lib.hid (O.out.trans o2); clear o2 x00 x01 x02)))
  clear hX
  replace O := Lib.hid (O.out.alloc (.cells #[.int .u8 K, .int .i64 X, .string ⟨#[]⟩] 23))
  replace H := Lib.hid (Hs.add H.out K X ⟨#[]⟩)
  generalize w2.alloc (.cells #[.int .u8 K, .int .i64 X, .string ⟨#[]⟩] 23) = W1 at *
  generalize w2.heap.size = pD at *
  have x10 := H.out.2.2.1.c0
  have x11 := H.out.2.2.1.c1
  have x12 := H.out.2.2.1.c2
  go_wp2_with (first
    | (go_at_call 40; ((with_reducible refine (hY _).mono ?_); rintro e w3 ⟨rfl, o3⟩; replace H := Lib.hid ((H.out.old o3).old ((Old.refl _).alloc (.cells #[.int .u8 0, .int .i64 0, .string ⟨#[]⟩] 23))); replace O := Lib.hid ((O.out.trans o3).alloc (.cells #[.int .u8 0, .int .i64 0, .string ⟨#[]⟩] 23)); clear o3 x10 x11 x12; have P := Lib.hid H.out.2.2.2.1; have c0 := P.out.c0; have c1 := P.out.c1; have c2 := P.out.c2; have f0 := P.out.f 0; have f1 := P.out.f 1; have f2 := P.out.f 2)))
  have RR := P.out.set (.int .u8 0) (.int .i64 0) (.string ⟨#[]⟩)
  exact bodyPost_ret (v := .tuple #[vl 0 0 ⟨#[]⟩, .int .i64 9]) (by simp [results, Try.results12, go_sem, RR.c0, RR.c1, RR.c2]) rfl ⟨rfl, old3 O.out (by have := HC.out; have := HW.out; omega) _ _ _⟩

set_option maxHeartbeats 1600000 in
set_option maxRecDepth 100000 in
theorem do_zero (k n : Int) (s : ByteArray) (k' n' : Int) (s' : ByteArray) (w : World) (K X Y : Int) (hk : ∀ W v, RV W v [⟨k, n, s⟩, ⟨k', n', s'⟩] → Calls Try.prog 39 #[v] W fun e w' => e = .returned (.int .u8 K) ∧ Old W w') (hK9 : (K == 9) = false) (hK0 : (K == 0) = false)
    (hX : ∀ W, Calls Try.prog 40 #[vl k n s, .int .u8 K] W fun e w' => e = rv K X 0 ∧ Old W w')
    (hY : ∀ W, Calls Try.prog 40 #[vl k' n' s', .int .u8 K] W fun e w' => e = rv K Y 0 ∧ Old W w') (hXi : I64 X) (hYi : I64 Y) (hY0 : Y = 0) :
    Calls Try.prog 12 #[.int .u8 47, vl k n s, vl k' n' s'] w fun e w' => e = rv 0 0 10 ∧ Old w w' := by
  have HY := Lib.hid hY0
  clear hY0
  have H := Lib.hid (Hs.three w k n s k' n' s' 0 0 ⟨#[]⟩)
  have O := Lib.hid ((((Old.refl w).alloc (.cells #[.int .u8 k, .int .i64 n, .string s] 23)).alloc (.cells #[.int .u8 k', .int .i64 n', .string s'] 23)).alloc (.cells #[.int .u8 0, .int .i64 0, .string ⟨#[]⟩] 23))
  go_enter Try.func12, Try.ntmps12
  go_upto_region 1 with (fail)
  have HC : Hid (w.heap.size ≤ w.heap.size + 1 + 1) := Lib.hid (by omega)
  generalize ((w.alloc (.cells #[.int .u8 k, .int .i64 n, .string s] 23)).alloc (.cells #[.int .u8 k', .int .i64 n', .string s'] 23)).alloc (.cells #[.int .u8 0, .int .i64 0, .string ⟨#[]⟩] 23) = W0 at *
  generalize w.heap.size + 1 + 1 = pC at *
  generalize w.heap.size + 1 = pB at *
  generalize hpA : w.heap.size = pA at *
  have HW := Lib.hid hpA
  clear hpA
  have x00 := H.out.1.c0
  have x01 := H.out.1.c1
  have x02 := H.out.1.c2
  have x10 := H.out.2.1.c0
  have x11 := H.out.2.1.c1
  have x12 := H.out.2.1.c2
  go_upto_region 6 with (first
    | (go_at_call 39; ((with_reducible refine (hk _ _ (RV.new2 _ _ _ _ _ _ _)).mono ?_); rintro e w1 ⟨rfl, o1⟩; replace H := Lib.hid (H.out.old (((Old.refl _).alloc _).trans o1)); replace O := Lib.hid (O.out.trans (((Old.refl _).alloc _).trans o1)); clear o1 x00 x01 x02 x10 x11 x12; have x00 := H.out.1.c0; have x01 := H.out.1.c1; have x02 := H.out.1.c2)))
  clear hk hK9 hK0
  go_upto_region 9 with (first
    | (go_at_call 40; ((with_reducible refine (hX _).mono ?_); rintro e w2 ⟨rfl, o2⟩; replace H := Lib.hid (H.out.old o2); replace O := Lib.hid (O.out.trans o2); clear o2 x00 x01 x02)))
  clear hX
  replace O := Lib.hid (O.out.alloc (.cells #[.int .u8 K, .int .i64 X, .string ⟨#[]⟩] 23))
  replace H := Lib.hid (Hs.add H.out K X ⟨#[]⟩)
  generalize w2.alloc (.cells #[.int .u8 K, .int .i64 X, .string ⟨#[]⟩] 23) = W1 at *
  generalize w2.heap.size = pD at *
  have x10 := H.out.2.2.1.c0
  have x11 := H.out.2.2.1.c1
  have x12 := H.out.2.2.1.c2
  go_upto_region 12 with (first
    | (go_at_call 40; ((with_reducible refine (hY _).mono ?_); rintro e w3 ⟨rfl, o3⟩; replace H := Lib.hid (H.out.old o3); replace O := Lib.hid (O.out.trans o3); clear o3 x10 x11 x12)))
  clear hY
  replace O := Lib.hid (O.out.alloc (.cells #[.int .u8 K, .int .i64 Y, .string ⟨#[]⟩] 23))
  replace H := Lib.hid (Hs.add H.out K Y ⟨#[]⟩)
  generalize w3.alloc (.cells #[.int .u8 K, .int .i64 Y, .string ⟨#[]⟩] 23) = W2 at *
  generalize w3.heap.size = pE at *
  have HP : Hid (pC < W2.heap.size) := Lib.hid H.out.2.2.2.2.1.lt
  go_cut [12, 13, 14] from 12 to 53 (fun p q u wx => ∃ (b1 b2 b3 : Nat) (v1 v2 v3 : Bool) (o1 o2 o3 : Option Addr) (l1 l2 l3 c1 c2 c3 : Nat), p = .pointer (some ⟨b1, 0, none⟩) ∧ q = .pointer (some ⟨b2, 0, none⟩) ∧ u = .pointer (some ⟨b3, 0, none⟩) ∧ Hid (Two wx b1 (.bool v1) (.slice o1 l1 c1)) ∧ Hid (Two wx b2 (.bool v2) (.slice o2 l2 c2)) ∧ Hid (Two wx b3 (.bool v3) (.slice o3 l3 c3)) ∧ Hid (RN wx (.agg #[.bool v1, .slice o1 l1 c1]) X) ∧ Hid (RN wx (.agg #[.bool v2, .slice o2 l2 c2]) Y) ∧ Hid (RN wx (.agg #[.bool v3, .slice o3 l3 c3]) 10000) ∧ Hid (Hs wx [(pE, K, Y, ⟨#[]⟩), (pD, K, X, ⟨#[]⟩), (pA, k, n, s), (pB, k', n', s'), (pC, 0, 0, ⟨#[]⟩)]) ∧ Hid (Old w wx) ∧ Hid (pC < b1 ∧ pC < b2 ∧ pC < b3))
  case first =>
    as_aux_lemma =>
    refine wp_region_inv2 (spN [.eq (.pointer (some ⟨pD, 1, none⟩)), .eq (.int .i64 X), .rn X, .eq (.pointer (some ⟨pE, 1, none⟩)), .eq (.int .i64 Y), .rn Y, .rn 10000, .any, .any, .any, .any, .any, .any]) (inN [0, 0, 0, 0, 0, 0, 0, 0, 0, 0, X, Y, 10000]) al12 st12 #[.bool false, .slice none 0 0] 47 isNum (by kernel_rfl) (by kernel_rfl) (spN_mono _) (inN_mono _) any12 ⟨_, _, _, _, rfl⟩ al12_st st12_inj st12_al ?_ ?_
    · refine ⟨?_, ?_, ?_, ?_, ?_, ?_, ?_, ?_, ?_, ?_, ?_, ?_, ?_, trivial⟩
      · exact ⟨by simp, step_plain rfl fun ρ wr ho hr hd => does_field1 rfl ((hr.1 9 rfl).trans rfl) ⟨in_eq rfl, Old.refl _⟩⟩
      · refine ⟨by simp, step_plain rfl fun ρ wr ho hr hd => ?_⟩
        obtain ⟨d0, _⟩ := hd
        have d0 : ρ (.tmp 47) = .pointer (some ⟨pD, 1, none⟩) := spN_eq (d0 rfl) rfl
        exact does_load2 rfl d0 ((H.out.2.1).old ho).c1 ⟨in_eq rfl, Old.refl _⟩
      · refine ⟨by simp, step_plain rfl fun ρ wr ho hr hd => ?_⟩
        obtain ⟨d1, _⟩ := hd
        have d1 : ρ (.tmp 48) = .int .i64 X := spN_eq (d1 rfl) rfl
        refine does_call1 rfl (hr.2.2.2 41) d1 rfl ((ofI X wr hXi).mono fun e w' h => ?_)
        obtain ⟨x, h1, h2, h3⟩ := h
        exact ⟨x, h1, in_rn rfl h2, h3⟩
      · exact ⟨by simp, step_plain rfl fun ρ wr ho hr hd => does_field1 rfl ((hr.1 11 rfl).trans rfl) ⟨in_eq rfl, Old.refl _⟩⟩
      · refine ⟨by simp, step_plain rfl fun ρ wr ho hr hd => ?_⟩
        obtain ⟨d0, _⟩ := hd
        have d0 : ρ (.tmp 50) = .pointer (some ⟨pE, 1, none⟩) := spN_eq (d0 rfl) rfl
        exact does_load2 rfl d0 ((H.out.1).old ho).c1 ⟨in_eq rfl, Old.refl _⟩
      · refine ⟨by simp, step_plain rfl fun ρ wr ho hr hd => ?_⟩
        obtain ⟨d1, _⟩ := hd
        have d1 : ρ (.tmp 51) = .int .i64 Y := spN_eq (d1 rfl) rfl
        refine does_call1 rfl (hr.2.2.2 41) d1 rfl ((ofI Y wr hYi).mono fun e w' h => ?_)
        obtain ⟨x, h1, h2, h3⟩ := h
        exact ⟨x, h1, in_rn rfl h2, h3⟩
      · refine ⟨by simp, step_plain rfl fun ρ wr ho hr hd => ?_⟩
        refine does_call1 rfl (hr.2.2.2 41) (hr.2.1 _) rfl ((ofI 10000 wr (by decide)).mono fun e w' h => ?_)
        obtain ⟨x, h1, h2, h3⟩ := h
        exact ⟨x, h1, in_rn rfl h2, h3⟩
      · exact stepA_num rfl rfl rfl
      · exact stepA_num rfl rfl rfl
      · exact stepA_num rfl rfl rfl
      · refine stepS_num (n := X) rfl rfl rfl rfl ⟨_, List.mem_cons_self, rfl, rfl⟩ (fun ρ wr hd => ?_) rfl
        obtain ⟨_, d2, _⟩ := hd
        exact spN_rn (d2 rfl) rfl
      · refine stepS_num (n := Y) rfl rfl rfl rfl ⟨_, List.mem_cons_self, rfl, rfl⟩ (fun ρ wr hd => ?_) rfl
        obtain ⟨_, d2, _⟩ := hd
        exact spN_rn (d2 rfl) rfl
      · refine stepS_num (n := 10000) rfl rfl rfl rfl ⟨_, List.mem_cons_self, rfl, rfl⟩ (fun ρ wr hd => ?_) rfl
        obtain ⟨_, d2, _⟩ := hd
        exact spN_rn (d2 rfl) rfl
    · intro a' w' β ho hst hl hB
      obtain ⟨e1, p1, cc1, q1, ⟨v1, o1, l1, c1, rfl⟩, _, r1⟩ := hB.ptr 7 _ rfl rfl rfl
      obtain ⟨e2, p2, cc2, q2, ⟨v2, o2, l2, c2, rfl⟩, _, r2⟩ := hB.ptr 8 _ rfl rfl rfl
      obtain ⟨e3, p3, cc3, q3, ⟨v3, o3, l3, c3, rfl⟩, _, r3⟩ := hB.ptr 9 _ rfl rfl rfl
      have g1 : RN w' (.agg #[.bool v1, .slice o1 l1 c1]) X := r1 10 (by decide) rfl rfl X rfl
      have g2 : RN w' (.agg #[.bool v2, .slice o2 l2 c2]) Y := r2 11 (by decide) rfl rfl Y rfl
      have g3 : RN w' (.agg #[.bool v3, .slice o3 l3 c3]) 10000 := r3 12 (by decide) rfl rfl 10000 rfl
      have e1 : a'.eval (.tmp 12) = .pointer (some ⟨β 7, 0, none⟩) := e1
      have e2 : a'.eval (.tmp 13) = .pointer (some ⟨β 8, 0, none⟩) := e2
      have e3 : a'.eval (.tmp 14) = .pointer (some ⟨β 9, 0, none⟩) := e3
      rw [act_fresh hst [false, false, false, false, false, false, false, false, false, false, false, false, true, true, true, false, false, false, false, false, false, false, false, false, false, false, false, false, false, false, false, false, false, false, false, false, false, false, false, false, false, false, false, false, false, false, false, true, true, true, true, true, true, true, false, false, false, false, false, false, false, false, false, false, false, false, false, false, false, false, false, false, false, false, false, false, false, false, false, false, false, false, false, false, false, false, false, false, false, false, false, false, false, false, false, false, false, false, false, false, false, false, false, false, false, false, false, false, false, false, false, false, false, false, false, false] (by kernel_rfl) (by kernel_rfl)]
      simp only [fresh, e1, e2, e3]
      have hp := HP.out
      have HP2 : Hid (pC < β 7 ∧ pC < β 8 ∧ pC < β 9) := Lib.hid ⟨by omega, by omega, by omega⟩
      replace H := Lib.hid (H.out.old ho)
      replace O := Lib.hid (O.out.trans ho)
      go_wp2_with fail
      go_meet
      exact ⟨β 7, β 8, β 9, v1, v2, v3, o1, o2, o3, l1, l2, l3, c1, c2, c3, rfl, rfl, rfl, Lib.hid q1, Lib.hid q2, Lib.hid q3, Lib.hid g1, Lib.hid g2, Lib.hid g3, H, O, HP2⟩
  case rest =>
  clear H O HP
  obtain ⟨b1, b2, b3, v1, v2, v3, o1, o2, o3, l1, l2, l3, c1, c2, c3, rfl, rfl, rfl, T1, T2, T3, R1, R2, R3, H, O, HP⟩ := hcut
  obtain rfl := HY.out
  clear HY hYi
  have OB := Lib.hid ((Old.refl wc).alloc (.cells #[.bool false, .slice none 0 0] 47))
  replace O := Lib.hid (O.out.trans OB.out)
  replace H := Lib.hid (H.out.old OB.out)
  have hy0 := H.out.1.c1
  have P := Lib.hid H.out.2.2.2.2.1
  have c0 := P.out.c0
  have c1 := P.out.c1
  have c2 := P.out.c2
  have f0 := P.out.f 0
  have f1 := P.out.f 1
  have f2 := P.out.f 2
  go_wp2_with fail
  have RR := P.out.set (.int .u8 0) (.int .i64 0) (.string ⟨#[]⟩)
  exact bodyPost_ret (v := .tuple #[vl 0 0 ⟨#[]⟩, .int .i64 10]) (by simp [results, Try.results12, go_sem, RR.c0, RR.c1, RR.c2]) rfl ⟨rfl, old3 O.out (by have := HC.out; have := HW.out; omega) _ _ _⟩

end Go.Proofs.Ytmoomdikgfeifaa

namespace Go.Proofs.Ytmoomdikgfeifaa
open Go.ChangeShapes Go.WideShapes Go.ChangeAt Go.RowKit
set_option linter.unusedVariables false

/-- What of two numbers of one kind a sum, a product is. -/
def HopP (op K X Y R : Int) : Prop :=
  (op = 43 ∧ R = X + Y) ∨ (op = 45 ∧ R = X - Y) ∨ (op = 42 ∧ K = 1 ∧ R = X * Y) ∨ (op = 42 ∧ K = 2 ∧ R = sgn (X * Y) 10000 (rnd (X * Y).natAbs 10000)) ∨ (op = 47 ∧ ¬ Y = 0 ∧ K = 1 ∧ R = X.tdiv Y) ∨ (op = 47 ∧ ¬ Y = 0 ∧ K = 2 ∧ R = sgn (X * 10000) Y (rnd (X * 10000).natAbs Y.natAbs))
/-- The answers V, E are those of this operation. -/
def OpIs (op K : Int) (V E : Int → Int → Int) : Prop :=
  ∀ X Y, (∃ R, HopP op K X Y R ∧ V X Y = fitV R ∧ E X Y = fitE R) ∨ (op = 47 ∧ Y = 0 ∧ V X Y = 0 ∧ E X Y = 10)

theorem kR_nine {k n : Int} {s : ByteArray} {k' n' : Int} {s' : ByteArray} (h : okK k = false ∨ okK k' = false) : kR [⟨k, n, s⟩, ⟨k', n', s'⟩] = 9 := by
  unfold kR
  rcases h with h | h <;> simp [h]
theorem kR_null {k n : Int} {s : ByteArray} {k' n' : Int} {s' : ByteArray} (h : ¬ (okK k = false ∨ okK k' = false)) (h2 : k = 0 ∨ k' = 0) : kR [⟨k, n, s⟩, ⟨k', n', s'⟩] = 0 := by
  have a1 := ok_cases (fun e => h (Or.inl e))
  have a2 := ok_cases (fun e => h (Or.inr e))
  rcases a1 with rfl | rfl | rfl <;> rcases a2 with rfl | rfl | rfl <;> first | rfl | omega
theorem kR_one {n : Int} {s : ByteArray} {n' : Int} {s' : ByteArray} : kR [⟨1, n, s⟩, ⟨1, n', s'⟩] = 1 := rfl
theorem kR_two {k n : Int} {s : ByteArray} {k' n' : Int} {s' : ByteArray} (h : k = 1 ∨ k = 2) (h' : k' = 1 ∨ k' = 2) (h2 : ¬ (k = 1 ∧ k' = 1)) : kR [⟨k, n, s⟩, ⟨k', n', s'⟩] = 2 := by
  rcases h with rfl | rfl <;> rcases h' with rfl | rfl <;> first | rfl | omega

theorem do_same (op k n : Int) (s : ByteArray) (k' n' : Int) (s' : ByteArray) (w : World) (K X Y A B C : Int) (V E : Int → Int → Int) (hop : OpIs op K V E)
    (hk : ∀ W v, RV W v [⟨k, n, s⟩, ⟨k', n', s'⟩] → Calls Try.prog 39 #[v] W fun e w' => e = .returned (.int .u8 K) ∧ Old W w') (hK : K = 1 ∨ K = 2)
    (hX : ∀ W, Calls Try.prog 40 #[vl k n s, .int .u8 K] W fun e w' => e = rv K X 0 ∧ Old W w')
    (hY : ∀ W, Calls Try.prog 40 #[vl k' n' s', .int .u8 K] W fun e w' => e = rv K Y 0 ∧ Old W w') (hXi : I64 X) (hYi : I64 Y)
    (hA : A = nmK K (E X Y)) (hB : B = nmN (V X Y) (E X Y)) (hC : C = E X Y) :
    Calls Try.prog 12 #[.int .u8 op, vl k n s, vl k' n' s'] w fun e w' => e = rv A B C ∧ Old w w' := by
  have hK9 : (K == 9) = false := by rcases hK with rfl | rfl <;> rfl
  have hK0 : (K == 0) = false := by rcases hK with rfl | rfl <;> rfl
  subst hA hB hC
  rcases hop X Y with ⟨R, h1, h2, h3⟩ | ⟨rfl, h0, h2, h3⟩
  · rw [h2, h3]
    exact do_walk op k n s k' n' s' w K X Y R hk hK9 hK0 hX hY hXi hYi h1
  · rw [h2, h3]
    exact do_zero k n s k' n' s' w K X Y hk hK9 hK0 hX hY hXi hYi h0

theorem do_any (op k n : Int) (s : ByteArray) (k' n' : Int) (s' : ByteArray) (w : World) (V E VD ED : Int → Int → Int) (h1 : OpIs op 1 V E) (h2 : OpIs op 2 VD ED) (hn : I64 n) (hn' : I64 n') :
    Calls Try.prog 12 #[.int .u8 op, vl k n s, vl k' n' s'] w fun e w' => e = rvt (rk3 V E VD ED k n k' n') ∧ Old w w' := by
  have l2 : ([⟨k, n, s⟩, ⟨k', n', s'⟩] : List Vl).length ≤ 100000 := Nat.le_of_ble_eq_true rfl
  have hk := fun W v h => rkind_any [⟨k, n, s⟩, ⟨k', n', s'⟩] v W h l2
  unfold rk3
  by_cases c1 : okK k = false ∨ okK k' = false
  · rw [if_pos c1]
    rw [kR_nine c1] at hk
    exact do_nine op k n s k' n' s' w hk
  · rw [if_neg c1]
    by_cases c2 : k = 0 ∨ k' = 0
    · rw [if_pos c2]
      rw [kR_null c1 c2] at hk
      exact do_null op k n s k' n' s' w hk
    · rw [if_neg c2]
      have a1 := ok_cases (fun e => c1 (Or.inl e))
      have a2 := ok_cases (fun e => c1 (Or.inr e))
      by_cases c3 : k = 1 ∧ k' = 1
      · rw [if_pos c3]
        obtain ⟨rfl, rfl⟩ := c3
        have hX := fun W => as_any 1 n s 1 W hn (Or.inl ⟨rfl, rfl⟩)
        have hY := fun W => as_any 1 n' s' 1 W hn' (Or.inl ⟨rfl, rfl⟩)
        simp only [show ¬ ((1 : Int) = 2) by decide, if_false, fitE_in hn, fitE_in hn', fitV_in hn, fitV_in hn'] at hX hY
        exact do_same op 1 n s 1 n' s' w 1 n n' _ _ _ V E h1 hk (Or.inl rfl) hX hY hn hn' rfl rfl rfl
      · rw [if_neg c3]
        have b1 : k = 1 ∨ k = 2 := by omega
        have b2 : k' = 1 ∨ k' = 2 := by omega
        rw [kR_two b1 b2 c3] at hk
        have hX := fun W => as_any k n s 2 W hn (Or.inr ⟨rfl, b1⟩)
        have hY := fun W => as_any k' n' s' 2 W hn' (Or.inr ⟨rfl, b2⟩)
        simp only [if_true] at hX hY
        by_cases d1 : I64 (wt k n)
        · rw [fitE_in d1, fitV_in d1] at hX
          by_cases d2 : I64 (wt k' n')
          · rw [if_pos ⟨d1, d2⟩]
            rw [fitE_in d2, fitV_in d2] at hY
            exact do_same op k n s k' n' s' w 2 (wt k n) (wt k' n') _ _ _ VD ED h2 hk (Or.inr rfl) hX hY d1 d2 rfl rfl rfl
          · rw [if_neg (fun h => d2 h.2)]
            rw [fitE_out d2, fitV_out d2] at hY
            exact do_as2 op k n s k' n' s' w 2 (wt k n) hk rfl rfl hX hY
        · rw [if_neg (fun h => d1 h.1)]
          rw [fitE_out d1, fitV_out d1] at hX
          exact do_as1 op k n s k' n' s' w 2 hk rfl rfl hX

theorem is_add (K : Int) : OpIs 43 K adV adE := fun X Y => Or.inl ⟨X + Y, Or.inl ⟨rfl, rfl⟩, rfl, rfl⟩
theorem is_sub (K : Int) : OpIs 45 K sbV sbE := fun X Y => Or.inl ⟨X - Y, Or.inr (Or.inl ⟨rfl, rfl⟩), rfl, rfl⟩
theorem is_mul : OpIs 42 1 mlV mlE := fun X Y => Or.inl ⟨X * Y, Or.inr (Or.inr (Or.inl ⟨rfl, rfl, rfl⟩)), rfl, rfl⟩
theorem is_muldec : OpIs 42 2 mdV mdE := fun X Y => by
  refine Or.inl ⟨_, Or.inr (Or.inr (Or.inr (Or.inl ⟨rfl, rfl, rfl⟩))), ?_, ?_⟩
  · unfold mdV; rw [← even_mul]; rfl
  · unfold mdE; rw [← even_mul]; rfl
theorem is_quo : OpIs 47 1 quV quE := fun X Y => by
  by_cases h : Y = 0
  · right
    refine ⟨rfl, h, ?_, ?_⟩
    · unfold quV; rw [if_pos h]
    · unfold quE; rw [if_pos h]
  · left
    refine ⟨X.tdiv Y, Or.inr (Or.inr (Or.inr (Or.inr (Or.inl ⟨rfl, h, rfl, rfl⟩)))), ?_, ?_⟩
    · unfold quV; rw [if_neg h]
    · unfold quE; rw [if_neg h]
theorem is_divdec : OpIs 47 2 ddV ddE := fun X Y => by
  by_cases h : Y = 0
  · right
    refine ⟨rfl, h, ?_, ?_⟩
    · unfold ddV; rw [if_pos h]
    · unfold ddE; rw [if_pos h]
  · left
    refine ⟨_, Or.inr (Or.inr (Or.inr (Or.inr (Or.inr ⟨rfl, h, rfl, rfl⟩)))), ?_, ?_⟩
    · unfold ddV; rw [if_neg h, ← even_div]
    · unfold ddE; rw [if_neg h, ← even_div]
theorem rdo_add (k n : Int) (s : ByteArray) (k' n' : Int) (s' : ByteArray) (w : World) (hn : I64 n) (hn' : I64 n') : Calls Try.prog 12 #[.int .u8 43, vl k n s, vl k' n' s'] w fun e w' => e = rvt (adT k n k' n') ∧ Old w w' := do_any 43 k n s k' n' s' w _ _ _ _ (is_add 1) (is_add 2) hn hn'
theorem rdo_sub (k n : Int) (s : ByteArray) (k' n' : Int) (s' : ByteArray) (w : World) (hn : I64 n) (hn' : I64 n') : Calls Try.prog 12 #[.int .u8 45, vl k n s, vl k' n' s'] w fun e w' => e = rvt (sbT k n k' n') ∧ Old w w' := do_any 45 k n s k' n' s' w _ _ _ _ (is_sub 1) (is_sub 2) hn hn'
theorem rdo_mul (k n : Int) (s : ByteArray) (k' n' : Int) (s' : ByteArray) (w : World) (hn : I64 n) (hn' : I64 n') : Calls Try.prog 12 #[.int .u8 42, vl k n s, vl k' n' s'] w fun e w' => e = rvt (mlT k n k' n') ∧ Old w w' := do_any 42 k n s k' n' s' w _ _ _ _ is_mul is_muldec hn hn'
theorem rdo_div (k n : Int) (s : ByteArray) (k' n' : Int) (s' : ByteArray) (w : World) (hn : I64 n) (hn' : I64 n') : Calls Try.prog 12 #[.int .u8 47, vl k n s, vl k' n' s'] w fun e w' => e = rvt (dvT k n k' n') ∧ Old w w' := do_any 47 k n s k' n' s' w _ _ _ _ is_quo is_divdec hn hn'
end Go.Proofs.Ytmoomdikgfeifaa

namespace Go.Proofs.Ytmoomdikgfeifaa
open Go.ChangeShapes Go.WideShapes Go.ChangeAt Go.RowKit
set_option linter.unusedVariables false

theorem rneg_one (k n : Int) (s : ByteArray) (w : World) (A B C : Int) (hk : (k == 2) = false) (hc : ∀ W, Calls Try.prog 12 #[.int .u8 45, vl 1 0 ⟨#[]⟩, vl k n s] W fun e w' => e = rv A B C ∧ Old W w') :
    Calls Try.prog 17 #[vl k n s] w fun e w' => e = rv A B C ∧ Old w w' := by
  have HO := Lib.hid ((((Old.refl w).alloc (.cells #[.int .u8 k, .int .i64 n, .string s] 23)).alloc (.cells #[.int .u8 0, .int .i64 0, .string ⟨#[]⟩] 23)).alloc (.cells #[.int .u8 1, .int .i64 0, .string ⟨#[]⟩] 23))
  have HT := (Three.new (w.alloc (.cells #[.int .u8 k, .int .i64 n, .string s] 23)) (.int .u8 0) (.int .i64 0) (.string ⟨#[]⟩)).alloc (.cells #[.int .u8 1, .int .i64 0, .string ⟨#[]⟩] 23)
  rw [sz_alloc] at HT
  have HT := Lib.hid HT
  go_enter Try.func17, Try.ntmps17
  go_wp2_with (first
    | (go_at_call 12; (with_reducible refine (hc _).mono ?_); rintro e w1 ⟨rfl, ho1⟩; have T := Lib.hid (HT.out.old ho1); have c0 := T.out.c0; have c1 := T.out.c1; have c2 := T.out.c2; have f0 := T.out.f 0; have f1 := T.out.f 1; have f2 := T.out.f 2))
  have R := T.out.set (.int .u8 A) (.int .i64 B) (.string ⟨#[]⟩)
  exact bodyPost_ret (v := .tuple #[vl A B ⟨#[]⟩, .int .i64 C]) (by simp [results, Try.results17, go_sem, R.c0, R.c1, R.c2]) rfl ⟨rfl, old3 (HO.out.trans ho1) (by omega) _ _ _⟩

theorem rneg_two (n : Int) (s : ByteArray) (w : World) (A B C : Int) (hc : ∀ W, Calls Try.prog 12 #[.int .u8 45, vl 2 0 ⟨#[]⟩, vl 2 n s] W fun e w' => e = rv A B C ∧ Old W w') :
    Calls Try.prog 17 #[vl 2 n s] w fun e w' => e = rv A B C ∧ Old w w' := by
  have HO := Lib.hid ((((Old.refl w).alloc (.cells #[.int .u8 2, .int .i64 n, .string s] 23)).alloc (.cells #[.int .u8 0, .int .i64 0, .string ⟨#[]⟩] 23)).alloc (.cells #[.int .u8 2, .int .i64 0, .string ⟨#[]⟩] 23))
  have HT := (Three.new (w.alloc (.cells #[.int .u8 2, .int .i64 n, .string s] 23)) (.int .u8 0) (.int .i64 0) (.string ⟨#[]⟩)).alloc (.cells #[.int .u8 2, .int .i64 0, .string ⟨#[]⟩] 23)
  rw [sz_alloc] at HT
  have HT := Lib.hid HT
  go_enter Try.func17, Try.ntmps17
  go_wp2_with (first
    | (go_at_call 12; (with_reducible refine (hc _).mono ?_); rintro e w1 ⟨rfl, ho1⟩; have T := Lib.hid (HT.out.old ho1); have c0 := T.out.c0; have c1 := T.out.c1; have c2 := T.out.c2; have f0 := T.out.f 0; have f1 := T.out.f 1; have f2 := T.out.f 2))
  have R := T.out.set (.int .u8 A) (.int .i64 B) (.string ⟨#[]⟩)
  exact bodyPost_ret (v := .tuple #[vl A B ⟨#[]⟩, .int .i64 C]) (by simp [results, Try.results17, go_sem, R.c0, R.c1, R.c2]) rfl ⟨rfl, old3 (HO.out.trans ho1) (by omega) _ _ _⟩

theorem rneg_any (k n : Int) (s : ByteArray) (w : World) (hn : I64 n) : Calls Try.prog 17 #[vl k n s] w fun e w' => e = rvt (sbT 1 0 k n) ∧ Old w w' := by
  by_cases hk : k = 2
  · subst hk
    have e : sbT 1 0 2 n = sbT 2 0 2 n := rfl
    rw [e]
    exact rneg_two n s w _ _ _ (fun W => rdo_sub 2 0 ⟨#[]⟩ 2 n s W (by decide) hn)
  · exact rneg_one k n s w _ _ _ (by simpa using hk) (fun W => rdo_sub 1 0 ⟨#[]⟩ k n s W (by decide) hn)
end Go.Proofs.Ytmoomdikgfeifaa
