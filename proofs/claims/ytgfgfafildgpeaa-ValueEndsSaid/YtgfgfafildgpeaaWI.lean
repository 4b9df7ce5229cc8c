/- ValueEnds: its walk. -/
import Derived.Test.YtgfgfafildgpeaaVU
import Derived.Test.YtgfgfafildgpeaaVR
namespace Go.Proofs.Ytgfgfafildgpeaa
open Go.ChangeShapes Go.WideShapes Go.ChangeAt Go.RowKit
set_option linter.unusedVariables false

theorem idx0 (c0 c1 c2 c3 c4 c5 c6 c7 c8 : Value) (W : World) : (Instr.index 40 (.agg #[c0, c1, c2, c3, c4, c5, c6, c7, c8]) (.int .i64 0)).run Try.prog W = .ok (.agg #[c0, c1, c2]) W := by kernel_rfl
theorem idx1 (c0 c1 c2 c3 c4 c5 c6 c7 c8 : Value) (W : World) : (Instr.index 40 (.agg #[c0, c1, c2, c3, c4, c5, c6, c7, c8]) (.int .i64 1)).run Try.prog W = .ok (.agg #[c3, c4, c5]) W := by kernel_rfl
theorem idx2 (c0 c1 c2 c3 c4 c5 c6 c7 c8 : Value) (W : World) : (Instr.index 40 (.agg #[c0, c1, c2, c3, c4, c5, c6, c7, c8]) (.int .i64 2)).run Try.prog W = .ok (.agg #[c6, c7, c8]) W := by kernel_rfl

theorem RV.new1 (w : World) (k n : Int) (s : ByteArray) : RV (w.alloc (.cells #[.int .u8 k, .int .i64 n, .string s] 23)) (.slice (some ⟨w.heap.size, 0, none⟩) 1 1) [⟨k, n, s⟩] := by
  refine ⟨_, 1, rfl, Nat.le_refl _, by decide, fun j x hj => ?_⟩
  have h := (MapKept.heap_alloc w (.cells #[.int .u8 k, .int .i64 n, .string s] 23)).1
  refine ⟨_, rfl, blk_lt h, ?_⟩
  have hj' : j = 0 := by
    have := (List.getElem?_eq_some_iff.1 hj).1
    simp at this; omega
  simp only [World.cell?, h]
  subst hj'
  simp at hj; subst hj; exact ⟨rfl, rfl, rfl⟩
theorem RV.new1b (w : World) (o : Obj) (k n : Int) (s : ByteArray) : RV ((w.alloc o).alloc (.cells #[.int .u8 k, .int .i64 n, .string s] 23)) (.slice (some ⟨w.heap.size + 1, 0, none⟩) 1 1) [⟨k, n, s⟩] := by
  have h := RV.new1 (w.alloc o) k n s
  rwa [sz_alloc] at h
theorem RV.new3b (w : World) (o : Obj) (k n : Int) (s : ByteArray) (k' n' : Int) (s' : ByteArray) (k'' n'' : Int) (s'' : ByteArray) : RV ((w.alloc o).alloc (.cells #[.int .u8 k, .int .i64 n, .string s, .int .u8 k', .int .i64 n', .string s', .int .u8 k'', .int .i64 n'', .string s''] 23)) (.slice (some ⟨w.heap.size + 1, 0, none⟩) 3 3) [⟨k, n, s⟩, ⟨k', n', s'⟩, ⟨k'', n'', s''⟩] := by
  have h := RV.new3 (w.alloc o) k n s k' n' s' k'' n'' s''
  rwa [sz_alloc] at h
/-- Whether one of the first j of three numbers is 0. -/
def lw (a b c : Int) : Nat → Bool
  | 0 => false
  | 1 => false || a == 0
  | 2 => (false || a == 0) || b == 0
  | _ => ((false || a == 0) || b == 0) || c == 0
theorem lw_0 (a b c : Int) : lw a b c 1 = (lw a b c 0 || a == 0) := rfl
theorem lw_1 (a b c : Int) : lw a b c 2 = (lw a b c 1 || b == 0) := rfl
theorem lw_2 (a b c : Int) : lw a b c 3 = (lw a b c 2 || c == 0) := rfl
theorem lw_end {a b c : Int} (h : a = 0 ∨ b = 0 ∨ c = 0) : lw a b c 3 = true := by
  unfold lw
  rcases h with rfl | rfl | rfl <;> simp
/-- A call of a slice that reads as l answers this value and error. -/
def CSE (F : FuncId) (l : List Vl) (A B C : Int) : Prop := ∀ W v, RV W v l → Calls Try.prog F #[v] W fun e w' => e = rv A B C ∧ Old W w'
theorem CSE.on {F : FuncId} {l : List Vl} {A B C : Int} (h : CSE F l A B C) {W : World} {v : Value} (hr : RV W v l) : Calls Try.prog F #[v] W fun e w' => e = rv A B C ∧ Old W w' := h W v hr

set_option maxRecDepth 100000 in
theorem ends_no (k n : Int) (s : ByteArray) (k' n' : Int) (s' : ByteArray) (k'' n'' : Int) (s'' : ByteArray) (w : World) (x y z : Bool) (hxy : x = false ∨ y = false ∨ z = false)
    (m1 : CB 8 #[vl k n s] x) (m2 : CB 8 #[vl k' n' s'] y) (m3 : CB 8 #[vl k'' n'' s''] z) :
    Calls Try.prog 7 #[vl k n s, vl k' n' s', vl k'' n'' s''] w fun e w' => e = .returned (.bool true) ∧ Old w w' := by
  have H := Lib.hid (Hs.three w k n s k' n' s' k'' n'' s'')
  have O := Lib.hid ((((Old.refl w).alloc (.cells #[.int .u8 k, .int .i64 n, .string s] 23)).alloc (.cells #[.int .u8 k', .int .i64 n', .string s'] 23)).alloc (.cells #[.int .u8 k'', .int .i64 n'', .string s''] 23))
  have hc : x = false ∨ (x = true ∧ y = false) ∨ (x = true ∧ y = true ∧ z = false) := by cases x <;> cases y <;> cases z <;> simp_all
  clear hxy
  go_enter Try.func7, Try.ntmps7
  go_upto_region 1 with (fail)
  generalize ((w.alloc (.cells #[.int .u8 k, .int .i64 n, .string s] 23)).alloc (.cells #[.int .u8 k', .int .i64 n', .string s'] 23)).alloc (.cells #[.int .u8 k'', .int .i64 n'', .string s''] 23) = W0 at *
  have x00 := (H.out.1).c0
  have x01 := (H.out.1).c1
  have x02 := (H.out.1).c2
  have x10 := (H.out.2.1).c0
  have x11 := (H.out.2.1).c1
  have x12 := (H.out.2.1).c2
  have x20 := (H.out.2.2.1).c0
  have x21 := (H.out.2.2.1).c1
  have x22 := (H.out.2.2.1).c2
  rcases hc with rfl | ⟨rfl, rfl⟩ | ⟨rfl, rfl, rfl⟩
  all_goals
    go_wp2_with (first
      | (go_at_call 8; first
          | ((with_reducible refine (m3 _).mono ?_); rintro e w9 ⟨rfl, o⟩; (first | (replace H := Lib.hid (H.out.old (o)); replace O := Lib.hid (O.out.trans (o)); clear o)); clear m3 x00 x01 x02 x10 x11 x12 x20 x21 x22; have x00 := (H.out.1).c0; have x01 := (H.out.1).c1; have x02 := (H.out.1).c2; have x10 := (H.out.2.1).c0; have x11 := (H.out.2.1).c1; have x12 := (H.out.2.1).c2; have x20 := (H.out.2.2.1).c0; have x21 := (H.out.2.2.1).c1; have x22 := (H.out.2.2.1).c2)
          | ((with_reducible refine (m2 _).mono ?_); rintro e w9 ⟨rfl, o⟩; (first | (replace H := Lib.hid (H.out.old (o)); replace O := Lib.hid (O.out.trans (o)); clear o)); clear m2 x00 x01 x02 x10 x11 x12 x20 x21 x22; have x00 := (H.out.1).c0; have x01 := (H.out.1).c1; have x02 := (H.out.1).c2; have x10 := (H.out.2.1).c0; have x11 := (H.out.2.1).c1; have x12 := (H.out.2.1).c2; have x20 := (H.out.2.2.1).c0; have x21 := (H.out.2.2.1).c1; have x22 := (H.out.2.2.1).c2)
          | ((with_reducible refine (m1 _).mono ?_); rintro e w9 ⟨rfl, o⟩; (first | (replace H := Lib.hid (H.out.old (o)); replace O := Lib.hid (O.out.trans (o)); clear o)); clear  x00 x01 x02 x10 x11 x12 x20 x21 x22; have x00 := (H.out.1).c0; have x01 := (H.out.1).c1; have x02 := (H.out.1).c2; have x10 := (H.out.2.1).c0; have x11 := (H.out.2.1).c1; have x12 := (H.out.2.1).c2; have x20 := (H.out.2.2.1).c0; have x21 := (H.out.2.2.1).c1; have x22 := (H.out.2.2.1).c2))
      | (go_at_call 21; ((with_reducible refine (known_any _).mono ?_); rintro e w9 ⟨rfl, o⟩; (first | (replace H := Lib.hid (H.out.old (o)); replace O := Lib.hid (O.out.trans (o)); clear o)))))
    go_ret
    exact ⟨rfl, O.out⟩

set_option maxHeartbeats 25600000 in
set_option maxRecDepth 100000 in
theorem ends_walk (k n : Int) (s : ByteArray) (k' n' : Int) (s' : ByteArray) (k'' n'' : Int) (s'' : ByteArray) (w : World) (A B A' B' C A1 B1 C1 : Int)
    (m1 : CB 8 #[vl k n s] true) (m2 : CB 8 #[vl k' n' s'] true) (m3 : CB 8 #[vl k'' n'' s''] true)
    (l1 : CSE 26 [⟨k, n, s⟩, ⟨k', n', s'⟩, ⟨k'', n'', s''⟩] A B C) (l2 : CSE 26 [⟨k'', n'', s''⟩, ⟨k, n, s⟩, ⟨k', n', s'⟩] A B C) (g1 : CSE 27 [⟨k, n, s⟩, ⟨k', n', s'⟩, ⟨k'', n'', s''⟩] A' B' C) (g2 : CSE 27 [⟨k', n', s'⟩, ⟨k'', n'', s''⟩, ⟨k, n, s⟩] A' B' C) (l3 : CSE 26 [⟨k, n, s⟩] A1 B1 C1)
    (h1 : k = 1 ∨ k = 2 → A1 = k ∧ B1 = n ∧ C1 = 0 ∧ s = ⟨#[]⟩)
    (hz : (¬ C = 0 ∧ A = 0 ∧ B = 0 ∧ A' = 0 ∧ B' = 0) ∨ (C = 0 ∧ A = 0 ∧ B = 0 ∧ A' = 0 ∧ B' = 0) ∨ (C = 0 ∧ (A = 1 ∨ A = 2) ∧ A' = A ∧ ∃ N0 N1 N2 M0 M1 M2 : Int, CP2 12 #[vl A B ⟨#[]⟩, vl k n s] N0 true ∧ CP2 12 #[vl A B ⟨#[]⟩, vl k' n' s'] N1 true ∧ CP2 12 #[vl A B ⟨#[]⟩, vl k'' n'' s''] N2 true ∧ CP2 12 #[vl A B' ⟨#[]⟩, vl k n s] M0 true ∧ CP2 12 #[vl A B' ⟨#[]⟩, vl k' n' s'] M1 true ∧ CP2 12 #[vl A B' ⟨#[]⟩, vl k'' n'' s''] M2 true ∧ N0 ≤ 0 ∧ N1 ≤ 0 ∧ N2 ≤ 0 ∧ 0 ≤ M0 ∧ 0 ≤ M1 ∧ 0 ≤ M2 ∧ (N0 = 0 ∨ N1 = 0 ∨ N2 = 0) ∧ (M0 = 0 ∨ M1 = 0 ∨ M2 = 0))) :
    Calls Try.prog 7 #[vl k n s, vl k' n' s', vl k'' n'' s''] w fun e w' => e = .returned (.bool true) ∧ Old w w' := by
  have H := Lib.hid (Hs.three w k n s k' n' s' k'' n'' s'')
  have O := Lib.hid ((((Old.refl w).alloc (.cells #[.int .u8 k, .int .i64 n, .string s] 23)).alloc (.cells #[.int .u8 k', .int .i64 n', .string s'] 23)).alloc (.cells #[.int .u8 k'', .int .i64 n'', .string s''] 23))
  have HZ := Lib.hid hz
  have H1 := Lib.hid h1
  clear hz h1
  go_enter Try.func7, Try.ntmps7
  go_upto_region 1 with (fail)
  generalize ((w.alloc (.cells #[.int .u8 k, .int .i64 n, .string s] 23)).alloc (.cells #[.int .u8 k', .int .i64 n', .string s'] 23)).alloc (.cells #[.int .u8 k'', .int .i64 n'', .string s''] 23) = W0 at *
  generalize w.heap.size + 1 + 1 = pC at *
  generalize w.heap.size + 1 = pB at *
  generalize w.heap.size = pA at *
  have x00 := (H.out.1).c0
  have x01 := (H.out.1).c1
  have x02 := (H.out.1).c2
  have x10 := (H.out.2.1).c0
  have x11 := (H.out.2.1).c1
  have x12 := (H.out.2.1).c2
  have x20 := (H.out.2.2.1).c0
  have x21 := (H.out.2.2.1).c1
  have x22 := (H.out.2.2.1).c2
  go_upto_region 3 with (first
    | (go_at_call 8; first
        | ((with_reducible refine (m3 _).mono ?_); rintro e w9 ⟨rfl, o⟩; (first | (replace H := Lib.hid (H.out.old (o)); replace O := Lib.hid (O.out.trans (o)); clear o)); clear m3 x00 x01 x02 x10 x11 x12 x20 x21 x22; have x00 := (H.out.1).c0; have x01 := (H.out.1).c1; have x02 := (H.out.1).c2; have x10 := (H.out.2.1).c0; have x11 := (H.out.2.1).c1; have x12 := (H.out.2.1).c2; have x20 := (H.out.2.2.1).c0; have x21 := (H.out.2.2.1).c1; have x22 := (H.out.2.2.1).c2)
        | ((with_reducible refine (m2 _).mono ?_); rintro e w9 ⟨rfl, o⟩; (first | (replace H := Lib.hid (H.out.old (o)); replace O := Lib.hid (O.out.trans (o)); clear o)); clear m2 x00 x01 x02 x10 x11 x12 x20 x21 x22; have x00 := (H.out.1).c0; have x01 := (H.out.1).c1; have x02 := (H.out.1).c2; have x10 := (H.out.2.1).c0; have x11 := (H.out.2.1).c1; have x12 := (H.out.2.1).c2; have x20 := (H.out.2.2.1).c0; have x21 := (H.out.2.2.1).c1; have x22 := (H.out.2.2.1).c2)
        | ((with_reducible refine (m1 _).mono ?_); rintro e w9 ⟨rfl, o⟩; (first | (replace H := Lib.hid (H.out.old (o)); replace O := Lib.hid (O.out.trans (o)); clear o)); clear  x00 x01 x02 x10 x11 x12 x20 x21 x22; have x00 := (H.out.1).c0; have x01 := (H.out.1).c1; have x02 := (H.out.1).c2; have x10 := (H.out.2.1).c0; have x11 := (H.out.2.1).c1; have x12 := (H.out.2.1).c2; have x20 := (H.out.2.2.1).c0; have x21 := (H.out.2.2.1).c1; have x22 := (H.out.2.2.1).c2)))
  clear m1
  go_upto_region 7 with (first
    | (go_at_call 26; first
        | ((with_reducible refine (l1.on (RV.new3 _ _ _ _ _ _ _ _ _ _)).mono ?_); rintro e w4 ⟨rfl, o⟩; (first | (replace H := Lib.hid ((H.out.old (((Old.refl _).alloc _).trans o)).add A B ⟨#[]⟩); replace O := Lib.hid ((O.out.trans (((Old.refl _).alloc _).trans o)).alloc (.cells #[.int .u8 A, .int .i64 B, .string ⟨#[]⟩] 23)); clear o)); clear  x00 x01 x02 x10 x11 x12 x20 x21 x22; have x10 := (H.out.2.1).c0; have x11 := (H.out.2.1).c1; have x12 := (H.out.2.1).c2; have x20 := (H.out.2.2.1).c0; have x21 := (H.out.2.2.1).c1; have x22 := (H.out.2.2.1).c2; have x30 := (H.out.2.2.2.1).c0; have x31 := (H.out.2.2.2.1).c1; have x32 := (H.out.2.2.2.1).c2)
        | ((with_reducible refine (l2.on (RV.new3b _ _ _ _ _ _ _ _ _ _ _)).mono ?_); rintro e w6 ⟨rfl, o⟩; (first | (replace H := Lib.hid ((H.out.old (((Old.refl _).alloc _).trans o)).add A B ⟨#[]⟩); replace O := Lib.hid ((O.out.trans (((Old.refl _).alloc _).trans o)).alloc (.cells #[.int .u8 A, .int .i64 B, .string ⟨#[]⟩] 23)); clear o)); clear  x20 x21 x22 x30 x31 x32 x40 x41 x42; have x30 := (H.out.2.2.2.1).c0; have x31 := (H.out.2.2.2.1).c1; have x32 := (H.out.2.2.2.1).c2; have x40 := (H.out.2.2.2.2.1).c0; have x41 := (H.out.2.2.2.2.1).c1; have x42 := (H.out.2.2.2.2.1).c2; have x50 := (H.out.2.2.2.2.2.1).c0; have x51 := (H.out.2.2.2.2.2.1).c1; have x52 := (H.out.2.2.2.2.2.1).c2))
    | (go_at_call 27; first
        | ((with_reducible refine (g1.on (RV.new3b _ _ _ _ _ _ _ _ _ _ _)).mono ?_); rintro e w5 ⟨rfl, o⟩; (first | (replace H := Lib.hid ((H.out.old (((Old.refl _).alloc _).trans o)).add A' B' ⟨#[]⟩); replace O := Lib.hid ((O.out.trans (((Old.refl _).alloc _).trans o)).alloc (.cells #[.int .u8 A', .int .i64 B', .string ⟨#[]⟩] 23)); clear o)); clear  x10 x11 x12 x20 x21 x22 x30 x31 x32; have x20 := (H.out.2.2.1).c0; have x21 := (H.out.2.2.1).c1; have x22 := (H.out.2.2.1).c2; have x30 := (H.out.2.2.2.1).c0; have x31 := (H.out.2.2.2.1).c1; have x32 := (H.out.2.2.2.1).c2; have x40 := (H.out.2.2.2.2.1).c0; have x41 := (H.out.2.2.2.2.1).c1; have x42 := (H.out.2.2.2.2.1).c2)
        | ((with_reducible refine (g2.on (RV.new3b _ _ _ _ _ _ _ _ _ _ _)).mono ?_); rintro e w7 ⟨rfl, o⟩; (first | (replace H := Lib.hid ((H.out.old (((Old.refl _).alloc _).trans o)).add A' B' ⟨#[]⟩); replace O := Lib.hid ((O.out.trans (((Old.refl _).alloc _).trans o)).alloc (.cells #[.int .u8 A', .int .i64 B', .string ⟨#[]⟩] 23)); clear o)); clear  x30 x31 x32 x40 x41 x42 x50 x51 x52; have x00 := (H.out.1).c0; have x01 := (H.out.1).c1; have x02 := (H.out.1).c2; have x10 := (H.out.2.1).c0; have x11 := (H.out.2.1).c1; have x12 := (H.out.2.1).c2; have x20 := (H.out.2.2.1).c0; have x21 := (H.out.2.2.1).c1; have x22 := (H.out.2.2.1).c2; have x30 := (H.out.2.2.2.1).c0; have x31 := (H.out.2.2.2.1).c1; have x32 := (H.out.2.2.2.1).c2; have x40 := (H.out.2.2.2.2.1).c0; have x41 := (H.out.2.2.2.2.1).c1; have x42 := (H.out.2.2.2.2.1).c2)))
  clear l1 l2 g1 g2
  go_upto_region 10 with (first
    | (go_at_call 26; ((with_reducible refine (l3.on (RV.new1b _ _ _ _ _)).mono ?_); rintro e w8 ⟨rfl, o⟩; (first | (replace H := Lib.hid ((H.out.old (((Old.refl _).alloc _).trans o)).add A1 B1 ⟨#[]⟩); replace O := Lib.hid ((O.out.trans (((Old.refl _).alloc _).trans o)).alloc (.cells #[.int .u8 A1, .int .i64 B1, .string ⟨#[]⟩] 23)); clear o)); clear  x00 x01 x02 x10 x11 x12 x20 x21 x22 x30 x31 x32 x40 x41 x42)))
  clear l3
  generalize hWW : w8.alloc (.cells #[.int .u8 A1, .int .i64 B1, .string ⟨#[]⟩] 23) = WW at *
  clear hWW
  generalize w8.heap.size = p1 at *
  generalize w7.heap.size = pt at *
  generalize w6.heap.size = ps at *
  generalize w5.heap.size = py at *
  generalize w4.heap.size = px at *
  have x00 := (H.out.1).c0
  have x01 := (H.out.1).c1
  have x02 := (H.out.1).c2
  have x30 := (H.out.2.2.2.1).c0
  have x31 := (H.out.2.2.2.1).c1
  have x32 := (H.out.2.2.2.1).c2
  have x40 := (H.out.2.2.2.2.1).c0
  have x41 := (H.out.2.2.2.2.1).c1
  have x42 := (H.out.2.2.2.2.1).c2
  have x50 := (H.out.2.2.2.2.2.1).c0
  have x51 := (H.out.2.2.2.2.2.1).c1
  have x52 := (H.out.2.2.2.2.2.1).c2
  have x60 := (H.out.2.2.2.2.2.2.1).c0
  have x61 := (H.out.2.2.2.2.2.2.1).c1
  have x62 := (H.out.2.2.2.2.2.2.1).c2
  have x70 := (H.out.2.2.2.2.2.2.2.1).c0
  have x71 := (H.out.2.2.2.2.2.2.2.1).c1
  have x72 := (H.out.2.2.2.2.2.2.2.1).c2
  obtain ⟨NB, hNB⟩ : ∃ NB, NB = (k == 1 || k == 2) := ⟨_, rfl⟩
  have HNB := Lib.hid hNB
  clear hNB
  go_cut [17] from 17 to 108 (fun o wx => o = .bool NB ∧ wx = WW)
  case first =>
    clear HZ H1 H O
    by_cases hk : k = 1
    · subst hk
      go_wp2_with fail
      go_meet
      exact ⟨ib HNB.out.symm, rfl⟩
    · have hk' : (k == 1) = false := by simpa using hk
      go_wp2_with fail
      go_meet
      exact ⟨ib (by rw [HNB.out, hk']; rfl), rfl⟩
  case rest =>
  obtain ⟨rfl, rfl⟩ := hcut
  go_upto_region 11 with (fail)
  go_cut [118] from 109 to 118 (fun o wx => o = .bool false ∧ wx = wc)
  case first =>
    clear HZ H O
    cases NB
    · clear H1
      go_wp2_with fail
      go_meet
      exact ⟨rfl, rfl⟩
    · have hk : k = 1 ∨ k = 2 := by simpa using HNB.out.symm
      obtain ⟨rfl, rfl, rfl, rfl⟩ := H1.out hk
      clear H1 hk HNB
      go_wp2_with fail
      go_meet
      exact ⟨rfl, rfl⟩
  case rest =>
  obtain ⟨rfl, hwc⟩ := hcut
  subst hwc
  clear H1
  rcases HZ.out with ⟨hC, rfl, rfl, rfl, rfl⟩ | ⟨rfl, rfl, rfl, rfl, rfl⟩ | ⟨rfl, hA, rfl, N0, N1, N2, M0, M1, M2, cx0, cx1, cx2, cy0, cy1, cy2, q0, q1, q2, r0, r1', r2, hlo, hhi⟩
  · clear HZ
    go_wp2_with (first
      | (go_at_call 21; ((with_reducible refine (known_any _).mono ?_); rintro e w9 ⟨rfl, o⟩; (first | (replace H := Lib.hid (H.out.old (o)); replace O := Lib.hid (O.out.trans (o)); clear o)))))
    go_ret
    exact ⟨rfl, O.out⟩
  · clear HZ
    go_wp2_with (first
      | (go_at_call 21; ((with_reducible refine (known_any _).mono ?_); rintro e w9 ⟨rfl, o⟩; (first | (replace H := Lib.hid (H.out.old (o)); replace O := Lib.hid (O.out.trans (o)); clear o)))))
    go_ret
    exact ⟨rfl, O.out⟩
  · clear HZ
    have hA0 : ¬ A' = 0 := by omega
    have hA1 : (A' == 0) = false := by simpa using hA0
    have HL := Lib.hid hlo
    have HH := Lib.hid hhi
    clear hlo hhi hA hA0
    go_wp2_with fail
    go_loopw [18, 19, 145] (fun lo hi i wr => ∃ j : Nat, j ≤ 3 ∧ i = .int .i64 (j : Int) ∧ lo = .bool (lw N0 N1 N2 j) ∧ hi = .bool (lw M0 M1 M2 j) ∧ Hid (Hs wr [(p1, A1, B1, ⟨#[]⟩), (pt, A', B', ⟨#[]⟩), (ps, A', B, ⟨#[]⟩), (py, A', B', ⟨#[]⟩), (px, A', B, ⟨#[]⟩), (pA, k, n, s), (pB, k', n', s'), (pC, k'', n'', s'')]) ∧ Hid (Old w wr)) (fun _ _ i _ => (3 - intOf i).toNat)
    case atStart => exact ⟨0, by decide, rfl, rfl, rfl, H, O⟩
    case round =>
      clear H O x00 x01 x02 x30 x31 x32 x40 x41 x42 x50 x51 x52 x60 x61 x62 x70 x71 x72
      obtain ⟨j, hj, rfl, rfl, rfl, H, O⟩ := hrel
      have hj' : j = 0 ∨ j = 1 ∨ j = 2 ∨ j = 3 := by omega
      rcases hj' with rfl | rfl | rfl | rfl
      · obtain ⟨lo, hlo⟩ : ∃ lo, lo = lw N0 N1 N2 0 := ⟨_, rfl⟩
        obtain ⟨hi, hhi⟩ : ∃ hi, hi = lw M0 M1 M2 0 := ⟨_, rfl⟩
        rw [← hlo, ← hhi]
        have E1 := Lib.hid hlo
        have E2 := Lib.hid hhi
        clear hlo hhi hj
        have V := Lib.hid (H.out.add k n s)
        have y30 := (V.out.2.2.2.2.1).c0
        have y31 := (V.out.2.2.2.2.1).c1
        have y32 := (V.out.2.2.2.2.1).c2
        have y40 := (V.out.2.2.2.2.2.1).c0
        have y41 := (V.out.2.2.2.2.2.1).c1
        have y42 := (V.out.2.2.2.2.2.1).c2
        have yv0 := (V.out.1).c0
        have yv1 := (V.out.1).c1
        have yv2 := (V.out.1).c2
        have hix := idx0 (.int .u8 k) (.int .i64 n) (.string s) (.int .u8 k') (.int .i64 n') (.string s') (.int .u8 k'') (.int .i64 n'') (.string s'') wr
        cases lo <;> cases hi
        all_goals
          go_wp2_with (first
            | (go_at_call 12; first | ((with_reducible refine (cx0 _).mono ?_); rintro e w11 ⟨rfl, o⟩; replace V := Lib.hid (V.out.old o); replace H := Lib.hid (V.out.2); replace O := Lib.hid ((O.out.alloc (.cells #[.int .u8 k, .int .i64 n, .string s] 23)).trans o); clear o y30 y31 y32 y40 y41 y42 yv0 yv1 yv2; have y30 := (V.out.2.2.2.2.1).c0; have y31 := (V.out.2.2.2.2.1).c1; have y32 := (V.out.2.2.2.2.1).c2; have y40 := (V.out.2.2.2.2.2.1).c0; have y41 := (V.out.2.2.2.2.2.1).c1; have y42 := (V.out.2.2.2.2.2.1).c2; have yv0 := (V.out.1).c0; have yv1 := (V.out.1).c1; have yv2 := (V.out.1).c2) | ((with_reducible refine (cy0 _).mono ?_); rintro e w12 ⟨rfl, o⟩; replace H := Lib.hid (H.out.old o); replace O := Lib.hid (O.out.trans o); clear o y30 y31 y32 y40 y41 y42 yv0 yv1 yv2)))
          all_goals
            refine ⟨⟨1, by decide, rfl, ib ?_, ib ?_, H, O⟩, by simp only [intOf]; omega⟩
            · (rw [lw_0, ← E1.out]; try rfl)
            · (rw [lw_0, ← E2.out]; try rfl)
      · obtain ⟨lo, hlo⟩ : ∃ lo, lo = lw N0 N1 N2 1 := ⟨_, rfl⟩
        obtain ⟨hi, hhi⟩ : ∃ hi, hi = lw M0 M1 M2 1 := ⟨_, rfl⟩
        rw [← hlo, ← hhi]
        have E1 := Lib.hid hlo
        have E2 := Lib.hid hhi
        clear hlo hhi hj
        have V := Lib.hid (H.out.add k' n' s')
        have y30 := (V.out.2.2.2.2.1).c0
        have y31 := (V.out.2.2.2.2.1).c1
        have y32 := (V.out.2.2.2.2.1).c2
        have y40 := (V.out.2.2.2.2.2.1).c0
        have y41 := (V.out.2.2.2.2.2.1).c1
        have y42 := (V.out.2.2.2.2.2.1).c2
        have yv0 := (V.out.1).c0
        have yv1 := (V.out.1).c1
        have yv2 := (V.out.1).c2
        have hix := idx1 (.int .u8 k) (.int .i64 n) (.string s) (.int .u8 k') (.int .i64 n') (.string s') (.int .u8 k'') (.int .i64 n'') (.string s'') wr
        cases lo <;> cases hi
        all_goals
          go_wp2_with (first
            | (go_at_call 12; first | ((with_reducible refine (cx1 _).mono ?_); rintro e w11 ⟨rfl, o⟩; replace V := Lib.hid (V.out.old o); replace H := Lib.hid (V.out.2); replace O := Lib.hid ((O.out.alloc (.cells #[.int .u8 k', .int .i64 n', .string s'] 23)).trans o); clear o y30 y31 y32 y40 y41 y42 yv0 yv1 yv2; have y30 := (V.out.2.2.2.2.1).c0; have y31 := (V.out.2.2.2.2.1).c1; have y32 := (V.out.2.2.2.2.1).c2; have y40 := (V.out.2.2.2.2.2.1).c0; have y41 := (V.out.2.2.2.2.2.1).c1; have y42 := (V.out.2.2.2.2.2.1).c2; have yv0 := (V.out.1).c0; have yv1 := (V.out.1).c1; have yv2 := (V.out.1).c2) | ((with_reducible refine (cy1 _).mono ?_); rintro e w12 ⟨rfl, o⟩; replace H := Lib.hid (H.out.old o); replace O := Lib.hid (O.out.trans o); clear o y30 y31 y32 y40 y41 y42 yv0 yv1 yv2)))
          all_goals
            refine ⟨⟨2, by decide, rfl, ib ?_, ib ?_, H, O⟩, by simp only [intOf]; omega⟩
            · (rw [lw_1, ← E1.out]; try rfl)
            · (rw [lw_1, ← E2.out]; try rfl)
      · obtain ⟨lo, hlo⟩ : ∃ lo, lo = lw N0 N1 N2 2 := ⟨_, rfl⟩
        obtain ⟨hi, hhi⟩ : ∃ hi, hi = lw M0 M1 M2 2 := ⟨_, rfl⟩
        rw [← hlo, ← hhi]
        have E1 := Lib.hid hlo
        have E2 := Lib.hid hhi
        clear hlo hhi hj
        have V := Lib.hid (H.out.add k'' n'' s'')
        have y30 := (V.out.2.2.2.2.1).c0
        have y31 := (V.out.2.2.2.2.1).c1
        have y32 := (V.out.2.2.2.2.1).c2
        have y40 := (V.out.2.2.2.2.2.1).c0
        have y41 := (V.out.2.2.2.2.2.1).c1
        have y42 := (V.out.2.2.2.2.2.1).c2
        have yv0 := (V.out.1).c0
        have yv1 := (V.out.1).c1
        have yv2 := (V.out.1).c2
        have hix := idx2 (.int .u8 k) (.int .i64 n) (.string s) (.int .u8 k') (.int .i64 n') (.string s') (.int .u8 k'') (.int .i64 n'') (.string s'') wr
        cases lo <;> cases hi
        all_goals
          go_wp2_with (first
            | (go_at_call 12; first | ((with_reducible refine (cx2 _).mono ?_); rintro e w11 ⟨rfl, o⟩; replace V := Lib.hid (V.out.old o); replace H := Lib.hid (V.out.2); replace O := Lib.hid ((O.out.alloc (.cells #[.int .u8 k'', .int .i64 n'', .string s''] 23)).trans o); clear o y30 y31 y32 y40 y41 y42 yv0 yv1 yv2; have y30 := (V.out.2.2.2.2.1).c0; have y31 := (V.out.2.2.2.2.1).c1; have y32 := (V.out.2.2.2.2.1).c2; have y40 := (V.out.2.2.2.2.2.1).c0; have y41 := (V.out.2.2.2.2.2.1).c1; have y42 := (V.out.2.2.2.2.2.1).c2; have yv0 := (V.out.1).c0; have yv1 := (V.out.1).c1; have yv2 := (V.out.1).c2) | ((with_reducible refine (cy2 _).mono ?_); rintro e w12 ⟨rfl, o⟩; replace H := Lib.hid (H.out.old o); replace O := Lib.hid (O.out.trans o); clear o y30 y31 y32 y40 y41 y42 yv0 yv1 yv2)))
          all_goals
            refine ⟨⟨3, by decide, rfl, ib ?_, ib ?_, H, O⟩, by simp only [intOf]; omega⟩
            · (rw [lw_2, ← E1.out]; try rfl)
            · (rw [lw_2, ← E2.out]; try rfl)
      · have e1 : lw N0 N1 N2 3 = true := lw_end HL.out
        have e2 : lw M0 M1 M2 3 = true := lw_end HH.out
        rw [e1, e2]
        clear e1 e2
        have x30 := (H.out.2.2.2.1).c0
        have x31 := (H.out.2.2.2.1).c1
        have x32 := (H.out.2.2.2.1).c2
        have x40 := (H.out.2.2.2.2.1).c0
        have x41 := (H.out.2.2.2.2.1).c1
        have x42 := (H.out.2.2.2.2.1).c2
        go_wp2_with (first
          | (go_at_call 21; ((with_reducible refine (known_any _).mono ?_); rintro e w9 ⟨rfl, o⟩; (first | (replace H := Lib.hid (H.out.old (o)); replace O := Lib.hid (O.out.trans (o)); clear o)))))
        go_ret
        exact ⟨rfl, O.out⟩

end Go.Proofs.Ytgfgfafildgpeaa
