/- ValueLaws: its walk. -/
import Derived.Test.YtmoomdikgfeifaaIB
namespace Go.Proofs.Ytmoomdikgfeifaa
open Go.ChangeShapes Go.WideShapes Go.ChangeAt Go.RowKit
set_option linter.unusedVariables false

theorem RV.new2b (w : World) (o : Obj) (k n : Int) (s : ByteArray) (k' n' : Int) (s' : ByteArray) : RV ((w.alloc o).alloc (.cells #[.int .u8 k, .int .i64 n, .string s, .int .u8 k', .int .i64 n', .string s'] 23)) (.slice (some ⟨w.heap.size + 1, 0, none⟩) 2 2) [⟨k, n, s⟩, ⟨k', n', s'⟩] := by
  have h := RV.new2 (w.alloc o) k n s k' n' s'
  rwa [sz_alloc] at h
theorem RV.new3b (w : World) (o : Obj) (k n : Int) (s : ByteArray) (k' n' : Int) (s' : ByteArray) (k'' n'' : Int) (s'' : ByteArray) : RV ((w.alloc o).alloc (.cells #[.int .u8 k, .int .i64 n, .string s, .int .u8 k', .int .i64 n', .string s', .int .u8 k'', .int .i64 n'', .string s''] 23)) (.slice (some ⟨w.heap.size + 1, 0, none⟩) 3 3) [⟨k, n, s⟩, ⟨k', n', s'⟩, ⟨k'', n'', s''⟩] := by
  have h := RV.new3 (w.alloc o) k n s k' n' s' k'' n'' s''
  rwa [sz_alloc] at h
def tab12 (k n : Int) (s : ByteArray) (k' n' : Int) (s' : ByteArray) (k'' n'' : Int) (s'' : ByteArray) (U1 U2 V1 V2 T1 T2 : Int) : List Sp :=
  [.eq (vl k n s), .eq (vl k' n' s'), .eq (vl k'' n'' s''), .rv [⟨k, n, s⟩, ⟨k', n', s'⟩, ⟨k'', n'', s''⟩], .eq (vl U1 U2 ⟨#[]⟩), .eq (vl k'' n'' s''), .eq (vl k n s), .eq (vl k' n' s'), .rv [⟨k'', n'', s''⟩, ⟨k, n, s⟩, ⟨k', n', s'⟩], .eq (vl U1 U2 ⟨#[]⟩), .eq (.bool false), .eq (.bool false), .eq (vl k n s), .eq (vl k' n' s'), .eq (vl k'' n'' s''), .rv [⟨k, n, s⟩, ⟨k', n', s'⟩, ⟨k'', n'', s''⟩], .eq (vl V1 V2 ⟨#[]⟩), .eq (vl k' n' s'), .eq (vl k'' n'' s''), .eq (vl k n s), .rv [⟨k', n', s'⟩, ⟨k'', n'', s''⟩, ⟨k, n, s⟩], .eq (vl V1 V2 ⟨#[]⟩), .eq (.bool false), .eq (.bool false), .eq (.bool false), .eq (vl k n s), .eq (vl k' n' s'), .eq (vl k'' n'' s''), .rv [⟨k, n, s⟩, ⟨k', n', s'⟩, ⟨k'', n'', s''⟩], .eq (vl U1 U2 ⟨#[]⟩), .eq (vl k n s), .eq (vl k' n' s'), .rv [⟨k, n, s⟩, ⟨k', n', s'⟩], .eq (vl T1 T2 ⟨#[]⟩), .eq (vl k'' n'' s''), .rv [⟨T1, T2, ⟨#[]⟩⟩, ⟨k'', n'', s''⟩], .eq (vl U1 U2 ⟨#[]⟩), .eq (.bool false), .eq (.bool false)]
def tab14 (k n : Int) (s : ByteArray) (k' n' : Int) (s' : ByteArray) (k'' n'' : Int) (s'' : ByteArray) (T1 T2 N1 N2 A1 A2 B1 B2 : Int) : List Sp :=
  [.eq (vl k n s), .eq (vl k' n' s'), .rv [⟨k, n, s⟩, ⟨k', n', s'⟩], .eq (vl T1 T2 ⟨#[]⟩), .eq (vl N1 N2 ⟨#[]⟩), .eq (vl k n s), .eq (vl A1 A2 ⟨#[]⟩), .eq (vl k' n' s'), .eq (vl B1 B2 ⟨#[]⟩), .rv [⟨A1, A2, ⟨#[]⟩⟩, ⟨B1, B2, ⟨#[]⟩⟩], .eq (vl N1 N2 ⟨#[]⟩), .eq (.bool true), .eq (.bool true), .eq (.bool true), .eq (.bool true), .eq (.bool true)]
def tab3 (k n : Int) (s : ByteArray) (k' n' : Int) (s' : ByteArray) (k'' n'' : Int) (s'' : ByteArray) (X Y Z : Int) : List Sp :=
  [.eq (vl k n s), .eq (vl k' n' s'), .eq (.int .i64 X), .eq (vl k' n' s'), .eq (vl k'' n'' s''), .eq (.int .i64 Y), .eq (vl k n s), .eq (vl k'' n'' s''), .eq (.int .i64 Z), .eq (.int .i64 X), .eq (.int .i64 Y), .eq (.int .i64 Z)]
/-- A call of a slice that reads as l answers this value. -/
def CS (F : FuncId) (l : List Vl) (K N : Int) : Prop := ∀ W v, RV W v l → Calls Try.prog F #[v] W fun e w' => e = r1 K N ∧ Old W w'
theorem CS.on {F : FuncId} {l : List Vl} {K N : Int} (h : CS F l K N) {W : World} {v : Value} (hr : RV W v l) : Calls Try.prog F #[v] W fun e w' => e = r1 K N ∧ Old W w' := h W v hr
/-- A call of these arguments answers this value. -/
def C1 (F : FuncId) (xs : Array Value) (K N : Int) : Prop := ∀ W, Calls Try.prog F xs W fun e w' => e = r1 K N ∧ Old W w'
theorem C1.on {F : FuncId} {xs : Array Value} {K N : Int} (h : C1 F xs K N) {W : World} : Calls Try.prog F xs W fun e w' => e = r1 K N ∧ Old W w' := h W

set_option maxRecDepth 100000 in
theorem laws_no (k n : Int) (s : ByteArray) (k' n' : Int) (s' : ByteArray) (k'' n'' : Int) (s'' : ByteArray) (w : World)
    (cR : ∀ W v, RV W v [⟨k, n, s⟩, ⟨k', n', s'⟩, ⟨k'', n'', s''⟩] → Calls Try.prog 19 #[v] W fun e w' => e = .returned (.bool false) ∧ Old W w') :
    Calls Try.prog 4 #[vl k n s, vl k' n' s', vl k'' n'' s''] w fun e w' => e = .returned (.bool true) ∧ Old w w' := by
  have h3 := RV.new3 (((w.alloc (.cells #[.int .u8 k, .int .i64 n, .string s] 23)).alloc (.cells #[.int .u8 k', .int .i64 n', .string s'] 23)).alloc (.cells #[.int .u8 k'', .int .i64 n'', .string s''] 23)) k n s k' n' s' k'' n'' s''
  rw [sz_alloc, sz_alloc, sz_alloc] at h3
  go_enter Try.func4, Try.ntmps4
  go_wp2_with (first
    | (go_at_call 19; (with_reducible refine (cR _ _ h3).mono ?_); rintro e w1 ⟨rfl, o1⟩)
    | (go_at_call 18; ((with_reducible refine (known_any _).mono ?_); rintro e w3 ⟨rfl, o3⟩)))
  go_ret
  exact ⟨rfl, (((((Old.refl w).alloc _).alloc _).alloc _).alloc _).trans (o1.trans o3)⟩

set_option maxHeartbeats 25600000 in
set_option maxRecDepth 100000 in
theorem laws_walk (k n : Int) (s : ByteArray) (k' n' : Int) (s' : ByteArray) (k'' n'' : Int) (s'' : ByteArray) (w : World) (X Y Z P A B C U1 U2 V1 V2 T1 T2 N1 N2 A1 A2 B1 B2 : Int) (PB : Bool)
    (cR : ∀ W v, RV W v [⟨k, n, s⟩, ⟨k', n', s'⟩, ⟨k'', n'', s''⟩] → Calls Try.prog 19 #[v] W fun e w' => e = .returned (.bool true) ∧ Old W w')
    (c1 : CI 7 #[vl k n s, vl k' n' s'] X) (c2 : CI 7 #[vl k' n' s', vl k'' n'' s''] Y) (c3 : CI 7 #[vl k n s, vl k'' n'' s''] Z) (c4 : CI 7 #[vl k' n' s', vl k n s] (-X))
    (hX : -1 ≤ X ∧ X ≤ 1) (hE0 : X = 0 → k = k' ∧ n = n' ∧ s = s') (hE1 : ¬ X = 0 → (k == k' && n == n' && s.toList == s'.toList) = false)
    (hT : ¬ (X ≤ 0 ∧ Y ≤ 0 ∧ 0 < Z) ∧ ¬ (0 ≤ X ∧ 0 ≤ Y ∧ Z < 0))
    (p1 : CP2 9 #[vl k n s, vl k' n' s'] P PB)
    (hP : PB = true → CP2 9 #[vl k' n' s', vl k n s] (-P) true ∧ -1 ≤ P ∧ P ≤ 1 ∧ CV 13 #[vl k n s, vl k' n' s'] A B C ∧ (C = 0 → (B < 0 ↔ P < 0) ∧ (B = 0 ↔ P = 0)))
    (u1 : CS 20 [⟨k, n, s⟩, ⟨k', n', s'⟩, ⟨k'', n'', s''⟩] U1 U2) (u2 : CS 20 [⟨k'', n'', s''⟩, ⟨k, n, s⟩, ⟨k', n', s'⟩] U1 U2)
    (v1 : CS 21 [⟨k, n, s⟩, ⟨k', n', s'⟩, ⟨k'', n'', s''⟩] V1 V2) (v2 : CS 21 [⟨k', n', s'⟩, ⟨k'', n'', s''⟩, ⟨k, n, s⟩] V1 V2)
    (t1 : CS 20 [⟨k, n, s⟩, ⟨k', n', s'⟩] T1 T2) (u3 : CS 20 [⟨T1, T2, ⟨#[]⟩⟩, ⟨k'', n'', s''⟩] U1 U2)
    (nt : C1 22 #[vl T1 T2 ⟨#[]⟩] N1 N2) (na : C1 22 #[vl k n s] A1 A2) (nb1 : C1 22 #[vl k' n' s'] B1 B2)
    (y1 : CS 21 [⟨A1, A2, ⟨#[]⟩⟩, ⟨B1, B2, ⟨#[]⟩⟩] N1 N2) :
    Calls Try.prog 4 #[vl k n s, vl k' n' s', vl k'' n'' s''] w fun e w' => e = .returned (.bool true) ∧ Old w w' := by
  have H := Lib.hid (Hs.three w k n s k' n' s' k'' n'' s'')
  have O := Lib.hid ((((Old.refl w).alloc (.cells #[.int .u8 k, .int .i64 n, .string s] 23)).alloc (.cells #[.int .u8 k', .int .i64 n', .string s'] 23)).alloc (.cells #[.int .u8 k'', .int .i64 n'', .string s''] 23))
  go_enter Try.func4, Try.ntmps4
  go_upto_region 1 with (fail)
  generalize ((w.alloc (.cells #[.int .u8 k, .int .i64 n, .string s] 23)).alloc (.cells #[.int .u8 k', .int .i64 n', .string s'] 23)).alloc (.cells #[.int .u8 k'', .int .i64 n'', .string s''] 23) = W0 at *
  generalize w.heap.size + 1 + 1 = pC at *
  generalize w.heap.size + 1 = pB at *
  generalize w.heap.size = pA at *
  have x00 := (H.out.1).c0
  have x01 := (H.out.1).c1
  have x02 := (H.out.1).c2
  have x10 := (H.out.2.1).c0
  have x11 := (H.out.2.1).c1
  have x12 := (H.out.2.1).c2
  have x20 := (H.out.2.2.1).c0
  have x21 := (H.out.2.2.1).c1
  have x22 := (H.out.2.2.1).c2
  go_upto_region 3 with (first
    | (go_at_call 19; ((with_reducible refine (cR _ _ (RV.new3 _ _ _ _ _ _ _ _ _ _)).mono ?_); rintro e w9 ⟨rfl, o⟩; (first | (replace H := Lib.hid (H.out.old (o)); replace O := Lib.hid (O.out.trans (o)); clear o) | (replace H := Lib.hid (H.out.old (((Old.refl _).alloc _).trans o)); replace O := Lib.hid (O.out.trans (((Old.refl _).alloc _).trans o)); clear o) | (replace H := Lib.hid (H.out.old ((((Old.refl _).alloc _).drew).trans o)); replace O := Lib.hid (O.out.trans ((((Old.refl _).alloc _).drew).trans o)); clear o) | (replace H := Lib.hid (H.out.old (((Old.refl _).drew).trans o)); replace O := Lib.hid (O.out.trans (((Old.refl _).drew).trans o)); clear o)); clear x00 x01 x02 x10 x11 x12 x20 x21 x22; have x00 := (H.out.1).c0; have x01 := (H.out.1).c1; have x02 := (H.out.1).c2; have x10 := (H.out.2.1).c0; have x11 := (H.out.2.1).c1; have x12 := (H.out.2.1).c2; have x20 := (H.out.2.2.1).c0; have x21 := (H.out.2.2.1).c1; have x22 := (H.out.2.2.1).c2)))
  clear cR
  go_cut [7, 8, 9] from 7 to 31 (fun i j l wx => i = .int .i64 X ∧ j = .int .i64 Y ∧ l = .int .i64 Z ∧ Hid (Hs wx [(pA, k, n, s), (pB, k', n', s'), (pC, k'', n'', s'')]) ∧ Hid (Old w wx))
  case first =>
    as_aux_lemma =>
    clear c4 p1 hP u1 u2 v1 v2 t1 u3 nt na nb1 y1
    refine wp_region_inv (spOf (tab3 k n s k' n' s' k'' n'' s'' X Y Z)) (by kernel_rfl) (by kernel_rfl) (spOf_mono (tab3 k n s k' n' s' k'' n'' s'' X Y Z)) ?_ ?_
    · refine ⟨?_, ?_, ?_, ?_, ?_, ?_, ?_, ?_, ?_, ?_, ?_, ?_, trivial⟩
      · refine step_plain rfl fun ρ wr ho hr hd => ?_
        exact does_load rfl ((hr.1 3 rfl).trans rfl) ((H.out.1).old ho) ⟨rfl, Old.refl _⟩
      · refine step_plain rfl fun ρ wr ho hr hd => ?_
        exact does_load rfl ((hr.1 4 rfl).trans rfl) ((H.out.2.1).old ho) ⟨rfl, Old.refl _⟩
      · refine step_plain rfl fun ρ wr ho hr hd => ?_
        obtain ⟨d0, d1, _⟩ := hd
        have d0 : (ρ (.tmp 23)) = vl k n s := d0 rfl
        have d1 : (ρ (.tmp 24)) = vl k' n' s' := d1 rfl
        exact does_call2 rfl (hr.2.2.2 7) d0 d1 rfl ((c1 _).mono fun e w' h => ⟨_, h.1, rfl, h.2⟩)
      · refine step_plain rfl fun ρ wr ho hr hd => ?_
        exact does_load rfl ((hr.1 4 rfl).trans rfl) ((H.out.2.1).old ho) ⟨rfl, Old.refl _⟩
      · refine step_plain rfl fun ρ wr ho hr hd => ?_
        exact does_load rfl ((hr.1 5 rfl).trans rfl) ((H.out.2.2.1).old ho) ⟨rfl, Old.refl _⟩
      · refine step_plain rfl fun ρ wr ho hr hd => ?_
        obtain ⟨d3, d4, d2, _⟩ := hd
        have d3 : (ρ (.tmp 26)) = vl k' n' s' := d3 rfl
        have d4 : (ρ (.tmp 27)) = vl k'' n'' s'' := d4 rfl
        have d2 : (ρ (.tmp 25)) = .int .i64 X := d2 rfl
        exact does_call2 rfl (hr.2.2.2 7) d3 d4 rfl ((c2 _).mono fun e w' h => ⟨_, h.1, rfl, h.2⟩)
      · refine step_plain rfl fun ρ wr ho hr hd => ?_
        exact does_load rfl ((hr.1 3 rfl).trans rfl) ((H.out.1).old ho) ⟨rfl, Old.refl _⟩
      · refine step_plain rfl fun ρ wr ho hr hd => ?_
        exact does_load rfl ((hr.1 5 rfl).trans rfl) ((H.out.2.2.1).old ho) ⟨rfl, Old.refl _⟩
      · refine step_plain rfl fun ρ wr ho hr hd => ?_
        obtain ⟨d6, d7, d5, _⟩ := hd
        have d6 : (ρ (.tmp 29)) = vl k n s := d6 rfl
        have d7 : (ρ (.tmp 30)) = vl k'' n'' s'' := d7 rfl
        have d5 : (ρ (.tmp 28)) = .int .i64 Y := d5 rfl
        exact does_call2 rfl (hr.2.2.2 7) d6 d7 rfl ((c3 _).mono fun e w' h => ⟨_, h.1, rfl, h.2⟩)
      · refine step_plain rfl fun ρ wr ho hr hd => ?_
        obtain ⟨d2, d8, d0, d1, _, _, _, _, _, _, _, _⟩ := hd
        have d2 : (ρ (.tmp 25)) = .int .i64 X := d2 rfl
        have d8 : (ρ (.tmp 31)) = .int .i64 Z := d8 rfl
        have d0 : (ρ (.tmp 23)) = vl k n s := d0 rfl
        have d1 : (ρ (.tmp 24)) = vl k' n' s' := d1 rfl
        exact does_assign rfl d2 ⟨rfl, Old.refl _⟩
      · refine step_plain rfl fun ρ wr ho hr hd => ?_
        obtain ⟨d5, d9, d0, d1, d2, d3, d4, _, _, _, _, _, _⟩ := hd
        have d5 : (ρ (.tmp 28)) = .int .i64 Y := d5 rfl
        have d9 : (ρ (.tmp 7)) = .int .i64 X := d9 rfl
        have d0 : (ρ (.tmp 23)) = vl k n s := d0 rfl
        have d1 : (ρ (.tmp 24)) = vl k' n' s' := d1 rfl
        have d2 : (ρ (.tmp 25)) = .int .i64 X := d2 rfl
        have d3 : (ρ (.tmp 26)) = vl k' n' s' := d3 rfl
        have d4 : (ρ (.tmp 27)) = vl k'' n'' s'' := d4 rfl
        exact does_assign rfl d5 ⟨rfl, Old.refl _⟩
      · refine step_plain rfl fun ρ wr ho hr hd => ?_
        obtain ⟨d8, d10, d0, d1, d2, d3, d4, d5, d6, d7, _, d9, _, _⟩ := hd
        have d8 : (ρ (.tmp 31)) = .int .i64 Z := d8 rfl
        have d10 : (ρ (.tmp 8)) = .int .i64 Y := d10 rfl
        have d0 : (ρ (.tmp 23)) = vl k n s := d0 rfl
        have d1 : (ρ (.tmp 24)) = vl k' n' s' := d1 rfl
        have d2 : (ρ (.tmp 25)) = .int .i64 X := d2 rfl
        have d3 : (ρ (.tmp 26)) = vl k' n' s' := d3 rfl
        have d4 : (ρ (.tmp 27)) = vl k'' n'' s'' := d4 rfl
        have d5 : (ρ (.tmp 28)) = .int .i64 Y := d5 rfl
        have d6 : (ρ (.tmp 29)) = vl k n s := d6 rfl
        have d7 : (ρ (.tmp 30)) = vl k'' n'' s'' := d7 rfl
        have d9 : (ρ (.tmp 7)) = .int .i64 X := d9 rfl
        exact does_assign rfl d8 ⟨rfl, Old.refl _⟩
    · intro a' w' ho hst hl
      obtain ⟨_, _, _, _, _, _, _, _, _, e7, e8, e9, _⟩ := hl
      have e7 : a'.eval (.tmp 7) = .int .i64 X := e7
      have e8 : a'.eval (.tmp 8) = .int .i64 Y := e8
      have e9 : a'.eval (.tmp 9) = .int .i64 Z := e9
      rw [act_fresh hst [false, false, false, false, false, false, false, true, true, true, false, false, false, false, false, false, false, false, false, false, false, false, false, true, true, true, true, true, true, true, true, true, false, false, false, false, false, false, false, false, false, false, false, false, false, false, false, false, false, false, false, false, false, false, false, false, false, false, false, false, false, false, false, false, false, false, false, false, false, false, false, false, false, false, false, false, false, false, false, false, false, false, false, false, false, false, false, false, false, false, false, false, false, false, false, false, false, false, false, false, false, false, false, false, false, false, false, false, false, false, false, false, false, false, false, false, false, false, false, false, false, false, false, false, false, false, false, false, false, false, false, false, false, false, false, false, false, false, false, false, false, false, false, false, false, false, false, false, false, false, false, false, false, false, false, false, false, false, false, false, false, false, false, false, false, false, false, false, false, false, false, false, false, false, false] (by kernel_rfl) (by kernel_rfl)]
      simp only [fresh, e7, e8, e9]
      replace H := Lib.hid (H.out.old ho)
      replace O := Lib.hid (O.out.trans ho)
      clear e7 e8 e9 hst ho x00 x01 x02 x10 x11 x12 x20 x21 x22
      go_wp2_with fail
      all_goals go_meet
      all_goals exact ⟨rfl, rfl, rfl, H, O⟩
  case rest =>
  clear H O x00 x01 x02 x10 x11 x12 x20 x21 x22 c1 c2 c3
  obtain ⟨rfl, rfl, rfl, H, O⟩ := hcut
  have x00 := (H.out.1).c0
  have x01 := (H.out.1).c1
  have x02 := (H.out.1).c2
  have x10 := (H.out.2.1).c0
  have x11 := (H.out.2.1).c1
  have x12 := (H.out.2.1).c2
  have x20 := (H.out.2.2.1).c0
  have x21 := (H.out.2.2.1).c1
  have x22 := (H.out.2.2.1).c2
  go_upto_region 4 with (fail)
  go_cut [69] from 32 to 69 (fun o wx => o = .bool false ∧ Hid (Hs wx [(pA, k, n, s), (pB, k', n', s'), (pC, k'', n'', s'')]) ∧ Hid (Old w wx))
  case first =>
    as_aux_lemma =>
    clear p1 hP u1 u2 v1 v2 t1 u3 nt na nb1 y1
    obtain ⟨hT1, hT2⟩ := hT
    obtain ⟨hX1, hX2⟩ := hX
    by_cases hx0 : X = 0
    · obtain ⟨rfl, rfl, rfl⟩ := hE0 hx0
      subst hx0
      clear hE0 hE1 hX1 hX2
      have c5 : CI 7 #[vl k n s, vl k n s] 0 := c4
      clear c4
      go_wp2_with (first
        | (go_at_call 7; ((with_reducible refine (c5 _).mono ?_); rintro e w9 ⟨rfl, o⟩; (first | (replace H := Lib.hid (H.out.old (o)); replace O := Lib.hid (O.out.trans (o)); clear o) | (replace H := Lib.hid (H.out.old (((Old.refl _).alloc _).trans o)); replace O := Lib.hid (O.out.trans (((Old.refl _).alloc _).trans o)); clear o) | (replace H := Lib.hid (H.out.old ((((Old.refl _).alloc _).drew).trans o)); replace O := Lib.hid (O.out.trans ((((Old.refl _).alloc _).drew).trans o)); clear o) | (replace H := Lib.hid (H.out.old (((Old.refl _).drew).trans o)); replace O := Lib.hid (O.out.trans (((Old.refl _).drew).trans o)); clear o)); clear x00 x01 x02 x10 x11 x12 x20 x21 x22; have x00 := (H.out.1).c0; have x01 := (H.out.1).c1; have x02 := (H.out.1).c2; have x10 := (H.out.2.1).c0; have x11 := (H.out.2.1).c1; have x12 := (H.out.2.1).c2; have x20 := (H.out.2.2.1).c0; have x21 := (H.out.2.2.1).c1; have x22 := (H.out.2.2.1).c2)))
      all_goals go_meet
      all_goals (refine ⟨ib ?_, H, O⟩; first | rfl | (simp; omega))
    · have hw : wrap64 (- -X) = X := by unfold wrap64; omega
      have hw' : wrap64 X = X := by unfold wrap64; omega
      have e := hE1 hx0
      clear hE0 hE1
      by_cases hk : k = k'
      · subst hk
        by_cases hn : n = n'
        · subst hn
          have hs : (s.toList == s'.toList) = false := by simpa using e
          clear e
          go_wp2_with (first
            | (go_at_call 7; ((with_reducible refine (c4 _).mono ?_); rintro e w9 ⟨rfl, o⟩; (first | (replace H := Lib.hid (H.out.old (o)); replace O := Lib.hid (O.out.trans (o)); clear o) | (replace H := Lib.hid (H.out.old (((Old.refl _).alloc _).trans o)); replace O := Lib.hid (O.out.trans (((Old.refl _).alloc _).trans o)); clear o) | (replace H := Lib.hid (H.out.old ((((Old.refl _).alloc _).drew).trans o)); replace O := Lib.hid (O.out.trans ((((Old.refl _).alloc _).drew).trans o)); clear o) | (replace H := Lib.hid (H.out.old (((Old.refl _).drew).trans o)); replace O := Lib.hid (O.out.trans (((Old.refl _).drew).trans o)); clear o)); clear x00 x01 x02 x10 x11 x12 x20 x21 x22; have x00 := (H.out.1).c0; have x01 := (H.out.1).c1; have x02 := (H.out.1).c2; have x10 := (H.out.2.1).c0; have x11 := (H.out.2.1).c1; have x12 := (H.out.2.1).c2; have x20 := (H.out.2.2.1).c0; have x21 := (H.out.2.2.1).c1; have x22 := (H.out.2.2.1).c2)))
          all_goals go_meet
          all_goals (refine ⟨ib ?_, H, O⟩; first | rfl | (simp; omega))
        · have hn1 : (n == n') = false := by simpa using hn
          clear e
          go_wp2_with (first
            | (go_at_call 7; ((with_reducible refine (c4 _).mono ?_); rintro e w9 ⟨rfl, o⟩; (first | (replace H := Lib.hid (H.out.old (o)); replace O := Lib.hid (O.out.trans (o)); clear o) | (replace H := Lib.hid (H.out.old (((Old.refl _).alloc _).trans o)); replace O := Lib.hid (O.out.trans (((Old.refl _).alloc _).trans o)); clear o) | (replace H := Lib.hid (H.out.old ((((Old.refl _).alloc _).drew).trans o)); replace O := Lib.hid (O.out.trans ((((Old.refl _).alloc _).drew).trans o)); clear o) | (replace H := Lib.hid (H.out.old (((Old.refl _).drew).trans o)); replace O := Lib.hid (O.out.trans (((Old.refl _).drew).trans o)); clear o)); clear x00 x01 x02 x10 x11 x12 x20 x21 x22; have x00 := (H.out.1).c0; have x01 := (H.out.1).c1; have x02 := (H.out.1).c2; have x10 := (H.out.2.1).c0; have x11 := (H.out.2.1).c1; have x12 := (H.out.2.1).c2; have x20 := (H.out.2.2.1).c0; have x21 := (H.out.2.2.1).c1; have x22 := (H.out.2.2.1).c2)))
          all_goals go_meet
          all_goals (refine ⟨ib ?_, H, O⟩; first | rfl | (simp; omega))
      · have hk1 : (k == k') = false := by simpa using hk
        clear e
        go_wp2_with (first
          | (go_at_call 7; ((with_reducible refine (c4 _).mono ?_); rintro e w9 ⟨rfl, o⟩; (first | (replace H := Lib.hid (H.out.old (o)); replace O := Lib.hid (O.out.trans (o)); clear o) | (replace H := Lib.hid (H.out.old (((Old.refl _).alloc _).trans o)); replace O := Lib.hid (O.out.trans (((Old.refl _).alloc _).trans o)); clear o) | (replace H := Lib.hid (H.out.old ((((Old.refl _).alloc _).drew).trans o)); replace O := Lib.hid (O.out.trans ((((Old.refl _).alloc _).drew).trans o)); clear o) | (replace H := Lib.hid (H.out.old (((Old.refl _).drew).trans o)); replace O := Lib.hid (O.out.trans (((Old.refl _).drew).trans o)); clear o)); clear x00 x01 x02 x10 x11 x12 x20 x21 x22; have x00 := (H.out.1).c0; have x01 := (H.out.1).c1; have x02 := (H.out.1).c2; have x10 := (H.out.2.1).c0; have x11 := (H.out.2.1).c1; have x12 := (H.out.2.1).c2; have x20 := (H.out.2.2.1).c0; have x21 := (H.out.2.2.1).c1; have x22 := (H.out.2.2.1).c2)))
        all_goals go_meet
        all_goals (refine ⟨ib ?_, H, O⟩; first | rfl | (simp; omega))
  case rest =>
    clear H O x00 x01 x02 x10 x11 x12 x20 x21 x22 c4 hX hE0 hE1 hT
    obtain ⟨rfl, H, O⟩ := hcut
    have x00 := (H.out.1).c0
    have x01 := (H.out.1).c1
    have x02 := (H.out.1).c2
    have x10 := (H.out.2.1).c0
    have x11 := (H.out.2.1).c1
    have x12 := (H.out.2.1).c2
    have x20 := (H.out.2.2.1).c0
    have x21 := (H.out.2.2.1).c1
    have x22 := (H.out.2.2.1).c2
    go_upto_if 76 with (first
      | (go_at_call 9; ((with_reducible refine (p1 _).mono ?_); rintro e w9 ⟨rfl, o⟩; (first | (replace H := Lib.hid (H.out.old (o)); replace O := Lib.hid (O.out.trans (o)); clear o) | (replace H := Lib.hid (H.out.old (((Old.refl _).alloc _).trans o)); replace O := Lib.hid (O.out.trans (((Old.refl _).alloc _).trans o)); clear o) | (replace H := Lib.hid (H.out.old ((((Old.refl _).alloc _).drew).trans o)); replace O := Lib.hid (O.out.trans ((((Old.refl _).alloc _).drew).trans o)); clear o) | (replace H := Lib.hid (H.out.old (((Old.refl _).drew).trans o)); replace O := Lib.hid (O.out.trans (((Old.refl _).drew).trans o)); clear o)); clear x00 x01 x02 x10 x11 x12 x20 x21 x22; have x00 := (H.out.1).c0; have x01 := (H.out.1).c1; have x02 := (H.out.1).c2; have x10 := (H.out.2.1).c0; have x11 := (H.out.2.1).c1; have x12 := (H.out.2.1).c2; have x20 := (H.out.2.2.1).c0; have x21 := (H.out.2.2.1).c1; have x22 := (H.out.2.2.1).c2)))
    clear p1
    go_cut [] from 12 to 120 (fun wx => Hid (Hs wx [(pA, k, n, s), (pB, k', n', s'), (pC, k'', n'', s'')]) ∧ Hid (Old w wx))
    case first =>
      as_aux_lemma =>
      clear u1 u2 v1 v2 t1 u3 nt na nb1 y1
      cases PB
      · go_wp2_with fail
        go_meet
        exact ⟨H, O⟩
      · obtain ⟨p2, hP1, hP2, d1, hC⟩ := hP rfl
        clear hP
        go_upto_region 10 with (first
          | (go_at_call 9; ((with_reducible refine (p2 _).mono ?_); rintro e w9 ⟨rfl, o⟩; (first | (replace H := Lib.hid (H.out.old (o)); replace O := Lib.hid (O.out.trans (o)); clear o) | (replace H := Lib.hid (H.out.old (((Old.refl _).alloc _).trans o)); replace O := Lib.hid (O.out.trans (((Old.refl _).alloc _).trans o)); clear o) | (replace H := Lib.hid (H.out.old ((((Old.refl _).alloc _).drew).trans o)); replace O := Lib.hid (O.out.trans ((((Old.refl _).alloc _).drew).trans o)); clear o) | (replace H := Lib.hid (H.out.old (((Old.refl _).drew).trans o)); replace O := Lib.hid (O.out.trans (((Old.refl _).drew).trans o)); clear o)); clear x00 x01 x02 x10 x11 x12 x20 x21 x22; have x00 := (H.out.1).c0; have x01 := (H.out.1).c1; have x02 := (H.out.1).c2; have x10 := (H.out.2.1).c0; have x11 := (H.out.2.1).c1; have x12 := (H.out.2.1).c2; have x20 := (H.out.2.2.1).c0; have x21 := (H.out.2.2.1).c1; have x22 := (H.out.2.2.1).c2))
          | (go_at_call 13; ((with_reducible refine (d1 _).mono ?_); rintro e w9 ⟨rfl, o⟩; (first | (replace H := Lib.hid (H.out.old (o)); replace O := Lib.hid (O.out.trans (o)); clear o) | (replace H := Lib.hid (H.out.old (((Old.refl _).alloc _).trans o)); replace O := Lib.hid (O.out.trans (((Old.refl _).alloc _).trans o)); clear o) | (replace H := Lib.hid (H.out.old ((((Old.refl _).alloc _).drew).trans o)); replace O := Lib.hid (O.out.trans ((((Old.refl _).alloc _).drew).trans o)); clear o) | (replace H := Lib.hid (H.out.old (((Old.refl _).drew).trans o)); replace O := Lib.hid (O.out.trans (((Old.refl _).drew).trans o)); clear o)); clear x00 x01 x02 x10 x11 x12 x20 x21 x22; have x00 := (H.out.1).c0; have x01 := (H.out.1).c1; have x02 := (H.out.1).c2; have x10 := (H.out.2.1).c0; have x11 := (H.out.2.1).c1; have x12 := (H.out.2.1).c2; have x20 := (H.out.2.2.1).c0; have x21 := (H.out.2.2.1).c1; have x22 := (H.out.2.2.1).c2)))
        clear p2 d1
        replace H := Lib.hid (H.out.old ((Old.refl _).alloc (.cells #[.int .u8 A, .int .i64 B, .string ⟨#[]⟩] 23)))
        replace O := Lib.hid (O.out.alloc (.cells #[.int .u8 A, .int .i64 B, .string ⟨#[]⟩] 23))
        have hw : wrap64 (-P) = -P := by unfold wrap64; omega
        by_cases hc0 : C = 0
        · obtain ⟨hB1, hB2⟩ := hC hc0
          subst hc0
          clear hC
          have hq : P < 0 ∨ P = 0 ∨ 0 < P := by omega
          rcases hq with hq | hq | hq
          · have e1 : B < 0 := hB1.2 hq
            have hb1 : (B == 0) = false := by simp; omega
            have hb2 : (P == 0) = false := by simp; omega
            clear hB1 hB2
            go_wp2_with fail
            all_goals first | (go_meet; exact ⟨H, O⟩) | (exfalso; rename_i h; rw [hb1, hb2] at h; exact absurd h (by decide))
          · have e1 : B = 0 := hB2.2 hq
            subst hq
            subst e1
            clear hB1 hB2
            go_wp2_with fail
            go_meet
            exact ⟨H, O⟩
          · have e1 : 0 < B := by omega
            have hb1 : (B == 0) = false := by simp; omega
            have hb2 : (P == 0) = false := by simp; omega
            clear hB1 hB2
            go_wp2_with fail
            all_goals first | (go_meet; exact ⟨H, O⟩) | (exfalso; rename_i h; rw [hb1, hb2] at h; exact absurd h (by decide))
        · clear hC
          go_wp2_with fail
          go_meet
          exact ⟨H, O⟩
    case rest =>
    clear H O x00 x01 x02 x10 x11 x12 x20 x21 x22 hP
    obtain ⟨H, O⟩ := hcut
    have x00 := (H.out.1).c0
    have x01 := (H.out.1).c1
    have x02 := (H.out.1).c2
    have x10 := (H.out.2.1).c0
    have x11 := (H.out.2.1).c1
    have x12 := (H.out.2.1).c2
    have x20 := (H.out.2.2.1).c0
    have x21 := (H.out.2.2.1).c1
    have x22 := (H.out.2.2.1).c2
    go_upto_region 12 with (fail)
    go_cut [159] from 121 to 159 (fun o wx => o = .bool false ∧ Hid (Hs wx [(pA, k, n, s), (pB, k', n', s'), (pC, k'', n'', s'')]) ∧ Hid (Old w wx))
    case first =>
      as_aux_lemma =>
      clear nt na nb1 y1
      refine wp_region_inv (spOf (tab12 k n s k' n' s' k'' n'' s'' U1 U2 V1 V2 T1 T2)) (by kernel_rfl) (by kernel_rfl) (spOf_mono (tab12 k n s k' n' s' k'' n'' s'' U1 U2 V1 V2 T1 T2)) ?_ ?_
      · refine ⟨?_, ?_, ?_, ?_, ?_, ?_, ?_, ?_, ?_, ?_, ?_, ?_, ?_, ?_, ?_, ?_, ?_, ?_, ?_, ?_, ?_, ?_, ?_, ?_, ?_, ?_, ?_, ?_, ?_, ?_, ?_, ?_, ?_, ?_, ?_, ?_, ?_, ?_, ?_, trivial⟩
        · refine step_plain rfl fun ρ wr ho hr hd => ?_
          exact does_load rfl ((hr.1 3 rfl).trans rfl) ((H.out.1).old ho) ⟨rfl, Old.refl _⟩
        · refine step_plain rfl fun ρ wr ho hr hd => ?_
          exact does_load rfl ((hr.1 4 rfl).trans rfl) ((H.out.2.1).old ho) ⟨rfl, Old.refl _⟩
        · refine step_plain rfl fun ρ wr ho hr hd => ?_
          exact does_load rfl ((hr.1 5 rfl).trans rfl) ((H.out.2.2.1).old ho) ⟨rfl, Old.refl _⟩
        · refine step_plain rfl fun ρ wr ho hr hd => ?_
          obtain ⟨d0, d1, d2, _⟩ := hd
          have d0 : (ρ (.tmp 121)) = vl k n s := d0 rfl
          have d1 : (ρ (.tmp 122)) = vl k' n' s' := d1 rfl
          have d2 : (ρ (.tmp 123)) = vl k'' n'' s'' := d2 rfl
          exact does_slice3 rfl d0 d1 d2 fun v wv hv hw => ⟨hv, hw⟩
        · refine step_plain rfl fun ρ wr ho hr hd => ?_
          obtain ⟨d3, _⟩ := hd
          have d3 : RV wr (ρ (.tmp 124)) [⟨k, n, s⟩, ⟨k', n', s'⟩, ⟨k'', n'', s''⟩] := d3 rfl
          exact does_call1 rfl (hr.2.2.2 20) rfl rfl ((u1.on d3).mono fun e w' h => ⟨_, h.1, rfl, h.2⟩)
        · refine step_plain rfl fun ρ wr ho hr hd => ?_
          exact does_load rfl ((hr.1 5 rfl).trans rfl) ((H.out.2.2.1).old ho) ⟨rfl, Old.refl _⟩
        · refine step_plain rfl fun ρ wr ho hr hd => ?_
          exact does_load rfl ((hr.1 3 rfl).trans rfl) ((H.out.1).old ho) ⟨rfl, Old.refl _⟩
        · refine step_plain rfl fun ρ wr ho hr hd => ?_
          exact does_load rfl ((hr.1 4 rfl).trans rfl) ((H.out.2.1).old ho) ⟨rfl, Old.refl _⟩
        · refine step_plain rfl fun ρ wr ho hr hd => ?_
          obtain ⟨d5, d6, d7, _⟩ := hd
          have d5 : (ρ (.tmp 126)) = vl k'' n'' s'' := d5 rfl
          have d6 : (ρ (.tmp 127)) = vl k n s := d6 rfl
          have d7 : (ρ (.tmp 128)) = vl k' n' s' := d7 rfl
          exact does_slice3 rfl d5 d6 d7 fun v wv hv hw => ⟨hv, hw⟩
        · refine step_plain rfl fun ρ wr ho hr hd => ?_
          obtain ⟨d8, d4, _⟩ := hd
          have d8 : RV wr (ρ (.tmp 129)) [⟨k'', n'', s''⟩, ⟨k, n, s⟩, ⟨k', n', s'⟩] := d8 rfl
          have d4 : (ρ (.tmp 125)) = vl U1 U2 ⟨#[]⟩ := d4 rfl
          exact does_call1 rfl (hr.2.2.2 20) rfl rfl ((u2.on d8).mono fun e w' h => ⟨_, h.1, rfl, h.2⟩)
        · refine step_plain rfl fun ρ wr ho hr hd => ?_
          obtain ⟨d4, d9, _⟩ := hd
          have d4 : (ρ (.tmp 125)) = vl U1 U2 ⟨#[]⟩ := d4 rfl
          have d9 : (ρ (.tmp 130)) = vl U1 U2 ⟨#[]⟩ := d9 rfl
          exact does_neq_same rfl d4 d9 ⟨rfl, Old.refl _⟩
        · refine step_plain rfl fun ρ wr ho hr hd => ?_
          obtain ⟨d10, d9, _⟩ := hd
          have d10 : (ρ (.tmp 131)) = .bool false := d10 rfl
          have d9 : (ρ (.tmp 130)) = vl U1 U2 ⟨#[]⟩ := d9 rfl
          exact does_move rfl d10 ⟨rfl, Old.refl _⟩
        · refine step_guard rfl fun ρ wr ho hr hd => ?_
          obtain ⟨d11, _⟩ := hd
          have d11 : (ρ (.tmp 132)) = .bool false := d11 rfl
          exact ⟨d11, does_load rfl ((hr.1 3 rfl).trans rfl) ((H.out.1).old ho) ⟨rfl, Old.refl _⟩⟩
        · refine step_guard rfl fun ρ wr ho hr hd => ?_
          obtain ⟨d11, _⟩ := hd
          have d11 : (ρ (.tmp 132)) = .bool false := d11 rfl
          exact ⟨d11, does_load rfl ((hr.1 4 rfl).trans rfl) ((H.out.2.1).old ho) ⟨rfl, Old.refl _⟩⟩
        · refine step_guard rfl fun ρ wr ho hr hd => ?_
          obtain ⟨d11, _⟩ := hd
          have d11 : (ρ (.tmp 132)) = .bool false := d11 rfl
          exact ⟨d11, does_load rfl ((hr.1 5 rfl).trans rfl) ((H.out.2.2.1).old ho) ⟨rfl, Old.refl _⟩⟩
        · refine step_guard rfl fun ρ wr ho hr hd => ?_
          obtain ⟨d12, d13, d14, d11, _⟩ := hd
          have d12 : (ρ (.tmp 133)) = vl k n s := d12 rfl
          have d13 : (ρ (.tmp 134)) = vl k' n' s' := d13 rfl
          have d14 : (ρ (.tmp 135)) = vl k'' n'' s'' := d14 rfl
          have d11 : (ρ (.tmp 132)) = .bool false := d11 rfl
          exact ⟨d11, does_slice3 rfl d12 d13 d14 fun v wv hv hw => ⟨hv, hw⟩⟩
        · refine step_guard rfl fun ρ wr ho hr hd => ?_
          obtain ⟨d15, d11, _, _⟩ := hd
          have d15 : RV wr (ρ (.tmp 136)) [⟨k, n, s⟩, ⟨k', n', s'⟩, ⟨k'', n'', s''⟩] := d15 rfl
          have d11 : (ρ (.tmp 132)) = .bool false := d11 rfl
          exact ⟨d11, does_call1 rfl (hr.2.2.2 21) rfl rfl ((v1.on d15).mono fun e w' h => ⟨_, h.1, rfl, h.2⟩)⟩
        · refine step_guard rfl fun ρ wr ho hr hd => ?_
          obtain ⟨d11, _⟩ := hd
          have d11 : (ρ (.tmp 132)) = .bool false := d11 rfl
          exact ⟨d11, does_load rfl ((hr.1 4 rfl).trans rfl) ((H.out.2.1).old ho) ⟨rfl, Old.refl _⟩⟩
        · refine step_guard rfl fun ρ wr ho hr hd => ?_
          obtain ⟨d11, _⟩ := hd
          have d11 : (ρ (.tmp 132)) = .bool false := d11 rfl
          exact ⟨d11, does_load rfl ((hr.1 5 rfl).trans rfl) ((H.out.2.2.1).old ho) ⟨rfl, Old.refl _⟩⟩
        · refine step_guard rfl fun ρ wr ho hr hd => ?_
          obtain ⟨d11, _⟩ := hd
          have d11 : (ρ (.tmp 132)) = .bool false := d11 rfl
          exact ⟨d11, does_load rfl ((hr.1 3 rfl).trans rfl) ((H.out.1).old ho) ⟨rfl, Old.refl _⟩⟩
        · refine step_guard rfl fun ρ wr ho hr hd => ?_
          obtain ⟨d17, d18, d19, d11, _⟩ := hd
          have d17 : (ρ (.tmp 138)) = vl k' n' s' := d17 rfl
          have d18 : (ρ (.tmp 139)) = vl k'' n'' s'' := d18 rfl
          have d19 : (ρ (.tmp 140)) = vl k n s := d19 rfl
          have d11 : (ρ (.tmp 132)) = .bool false := d11 rfl
          exact ⟨d11, does_slice3 rfl d17 d18 d19 fun v wv hv hw => ⟨hv, hw⟩⟩
        · refine step_guard rfl fun ρ wr ho hr hd => ?_
          obtain ⟨d20, d16, d11, _⟩ := hd
          have d20 : RV wr (ρ (.tmp 141)) [⟨k', n', s'⟩, ⟨k'', n'', s''⟩, ⟨k, n, s⟩] := d20 rfl
          have d16 : (ρ (.tmp 137)) = vl V1 V2 ⟨#[]⟩ := d16 rfl
          have d11 : (ρ (.tmp 132)) = .bool false := d11 rfl
          exact ⟨d11, does_call1 rfl (hr.2.2.2 21) rfl rfl ((v2.on d20).mono fun e w' h => ⟨_, h.1, rfl, h.2⟩)⟩
        · refine step_guard rfl fun ρ wr ho hr hd => ?_
          obtain ⟨d16, d21, d11, _⟩ := hd
          have d16 : (ρ (.tmp 137)) = vl V1 V2 ⟨#[]⟩ := d16 rfl
          have d21 : (ρ (.tmp 142)) = vl V1 V2 ⟨#[]⟩ := d21 rfl
          have d11 : (ρ (.tmp 132)) = .bool false := d11 rfl
          exact ⟨d11, does_neq_same rfl d16 d21 ⟨rfl, Old.refl _⟩⟩
        · refine step_plain rfl fun ρ wr ho hr hd => ?_
          obtain ⟨d11, d22, _⟩ := hd
          have d11 : (ρ (.tmp 132)) = .bool false := d11 rfl
          have d22 : (ρ (.tmp 143)) = .bool false := d22 rfl
          exact does_pick rfl d11 d22 ⟨rfl, Old.refl _⟩
        · refine step_plain rfl fun ρ wr ho hr hd => ?_
          obtain ⟨d23, d21, _⟩ := hd
          have d23 : (ρ (.tmp 144)) = .bool false := d23 rfl
          have d21 : (ρ (.tmp 142)) = vl V1 V2 ⟨#[]⟩ := d21 rfl
          exact does_move rfl d23 ⟨rfl, Old.refl _⟩
        · refine step_guard rfl fun ρ wr ho hr hd => ?_
          obtain ⟨d24, _⟩ := hd
          have d24 : (ρ (.tmp 145)) = .bool false := d24 rfl
          exact ⟨d24, does_load rfl ((hr.1 3 rfl).trans rfl) ((H.out.1).old ho) ⟨rfl, Old.refl _⟩⟩
        · refine step_guard rfl fun ρ wr ho hr hd => ?_
          obtain ⟨d24, _⟩ := hd
          have d24 : (ρ (.tmp 145)) = .bool false := d24 rfl
          exact ⟨d24, does_load rfl ((hr.1 4 rfl).trans rfl) ((H.out.2.1).old ho) ⟨rfl, Old.refl _⟩⟩
        · refine step_guard rfl fun ρ wr ho hr hd => ?_
          obtain ⟨d24, _⟩ := hd
          have d24 : (ρ (.tmp 145)) = .bool false := d24 rfl
          exact ⟨d24, does_load rfl ((hr.1 5 rfl).trans rfl) ((H.out.2.2.1).old ho) ⟨rfl, Old.refl _⟩⟩
        · refine step_guard rfl fun ρ wr ho hr hd => ?_
          obtain ⟨d25, d26, d27, d24, _⟩ := hd
          have d25 : (ρ (.tmp 146)) = vl k n s := d25 rfl
          have d26 : (ρ (.tmp 147)) = vl k' n' s' := d26 rfl
          have d27 : (ρ (.tmp 148)) = vl k'' n'' s'' := d27 rfl
          have d24 : (ρ (.tmp 145)) = .bool false := d24 rfl
          exact ⟨d24, does_slice3 rfl d25 d26 d27 fun v wv hv hw => ⟨hv, hw⟩⟩
        · refine step_guard rfl fun ρ wr ho hr hd => ?_
          obtain ⟨d28, d24, _, _⟩ := hd
          have d28 : RV wr (ρ (.tmp 149)) [⟨k, n, s⟩, ⟨k', n', s'⟩, ⟨k'', n'', s''⟩] := d28 rfl
          have d24 : (ρ (.tmp 145)) = .bool false := d24 rfl
          exact ⟨d24, does_call1 rfl (hr.2.2.2 20) rfl rfl ((u1.on d28).mono fun e w' h => ⟨_, h.1, rfl, h.2⟩)⟩
        · refine step_guard rfl fun ρ wr ho hr hd => ?_
          obtain ⟨d24, _⟩ := hd
          have d24 : (ρ (.tmp 145)) = .bool false := d24 rfl
          exact ⟨d24, does_load rfl ((hr.1 3 rfl).trans rfl) ((H.out.1).old ho) ⟨rfl, Old.refl _⟩⟩
        · refine step_guard rfl fun ρ wr ho hr hd => ?_
          obtain ⟨d24, _⟩ := hd
          have d24 : (ρ (.tmp 145)) = .bool false := d24 rfl
          exact ⟨d24, does_load rfl ((hr.1 4 rfl).trans rfl) ((H.out.2.1).old ho) ⟨rfl, Old.refl _⟩⟩
        · refine step_guard rfl fun ρ wr ho hr hd => ?_
          obtain ⟨d30, d31, d24, _⟩ := hd
          have d30 : (ρ (.tmp 151)) = vl k n s := d30 rfl
          have d31 : (ρ (.tmp 152)) = vl k' n' s' := d31 rfl
          have d24 : (ρ (.tmp 145)) = .bool false := d24 rfl
          exact ⟨d24, does_slice2 rfl d30 d31 fun v wv hv hw => ⟨hv, hw⟩⟩
        · refine step_guard rfl fun ρ wr ho hr hd => ?_
          obtain ⟨d32, d29, d24, _⟩ := hd
          have d32 : RV wr (ρ (.tmp 153)) [⟨k, n, s⟩, ⟨k', n', s'⟩] := d32 rfl
          have d29 : (ρ (.tmp 150)) = vl U1 U2 ⟨#[]⟩ := d29 rfl
          have d24 : (ρ (.tmp 145)) = .bool false := d24 rfl
          exact ⟨d24, does_call1 rfl (hr.2.2.2 20) rfl rfl ((t1.on d32).mono fun e w' h => ⟨_, h.1, rfl, h.2⟩)⟩
        · refine step_guard rfl fun ρ wr ho hr hd => ?_
          obtain ⟨d24, _⟩ := hd
          have d24 : (ρ (.tmp 145)) = .bool false := d24 rfl
          exact ⟨d24, does_load rfl ((hr.1 5 rfl).trans rfl) ((H.out.2.2.1).old ho) ⟨rfl, Old.refl _⟩⟩
        · refine step_guard rfl fun ρ wr ho hr hd => ?_
          obtain ⟨d33, d34, d24, _⟩ := hd
          have d33 : (ρ (.tmp 154)) = vl T1 T2 ⟨#[]⟩ := d33 rfl
          have d34 : (ρ (.tmp 155)) = vl k'' n'' s'' := d34 rfl
          have d24 : (ρ (.tmp 145)) = .bool false := d24 rfl
          exact ⟨d24, does_slice2 rfl d33 d34 fun v wv hv hw => ⟨hv, hw⟩⟩
        · refine step_guard rfl fun ρ wr ho hr hd => ?_
          obtain ⟨d35, d33, d24, _⟩ := hd
          have d35 : RV wr (ρ (.tmp 156)) [⟨T1, T2, ⟨#[]⟩⟩, ⟨k'', n'', s''⟩] := d35 rfl
          have d33 : (ρ (.tmp 154)) = vl T1 T2 ⟨#[]⟩ := d33 rfl
          have d24 : (ρ (.tmp 145)) = .bool false := d24 rfl
          exact ⟨d24, does_call1 rfl (hr.2.2.2 20) rfl rfl ((u3.on d35).mono fun e w' h => ⟨_, h.1, rfl, h.2⟩)⟩
        · refine step_guard rfl fun ρ wr ho hr hd => ?_
          obtain ⟨d29, d36, d24, _⟩ := hd
          have d29 : (ρ (.tmp 150)) = vl U1 U2 ⟨#[]⟩ := d29 rfl
          have d36 : (ρ (.tmp 157)) = vl U1 U2 ⟨#[]⟩ := d36 rfl
          have d24 : (ρ (.tmp 145)) = .bool false := d24 rfl
          exact ⟨d24, does_neq_same rfl d29 d36 ⟨rfl, Old.refl _⟩⟩
        · refine step_plain rfl fun ρ wr ho hr hd => ?_
          obtain ⟨d24, d37, _⟩ := hd
          have d24 : (ρ (.tmp 145)) = .bool false := d24 rfl
          have d37 : (ρ (.tmp 158)) = .bool false := d37 rfl
          exact does_pick rfl d24 d37 ⟨rfl, Old.refl _⟩
      · intro a' w' ho hst hl
        obtain ⟨_, _, _, _, _, _, _, _, _, _, _, _, _, _, _, _, _, _, _, _, _, _, _, _, _, _, _, _, _, _, _, _, _, _, _, _, _, _, e159, _⟩ := hl
        have e159 : a'.eval (.tmp 159) = .bool false := e159
        rw [act_fresh hst [false, false, false, false, false, false, false, false, false, false, false, false, false, false, false, false, false, false, false, false, false, false, false, false, false, false, false, false, false, false, false, false, false, false, false, false, false, false, false, false, false, false, false, false, false, false, false, false, false, false, false, false, false, false, false, false, false, false, false, false, false, false, false, false, false, false, false, false, false, false, false, false, false, false, false, false, false, false, false, false, false, false, false, false, false, false, false, false, false, false, false, false, false, false, false, false, false, false, false, false, false, false, false, false, false, false, false, false, false, false, false, false, false, false, false, false, false, false, false, false, false, true, true, true, true, true, true, true, true, true, true, true, true, true, true, true, true, true, true, true, true, true, true, true, true, true, true, true, true, true, true, true, true, true, true, true, true, true, true, true, false, false, false, false, false, false, false, false, false, false, false, false, false, false, false] (by kernel_rfl) (by kernel_rfl)]
        simp only [fresh, e159]
        replace H := Lib.hid (H.out.old ho)
        replace O := Lib.hid (O.out.trans ho)
        clear e159 hst ho x00 x01 x02 x10 x11 x12 x20 x21 x22
        go_wp2_with fail
        all_goals go_meet
        all_goals exact ⟨rfl, H, O⟩
    case rest =>
      clear H O x00 x01 x02 x10 x11 x12 x20 x21 x22 u1 u2 u3 v1 v2
      obtain ⟨rfl, H, O⟩ := hcut
      have x00 := (H.out.1).c0
      have x01 := (H.out.1).c1
      have x02 := (H.out.1).c2
      have x10 := (H.out.2.1).c0
      have x11 := (H.out.2.1).c1
      have x12 := (H.out.2.1).c2
      have x20 := (H.out.2.2.1).c0
      have x21 := (H.out.2.2.1).c1
      have x22 := (H.out.2.2.1).c2
      go_upto_region 14 with (fail)
      as_aux_lemma =>
      refine wp_region_inv (spOf (tab14 k n s k' n' s' k'' n'' s'' T1 T2 N1 N2 A1 A2 B1 B2)) (by kernel_rfl) (by kernel_rfl) (spOf_mono (tab14 k n s k' n' s' k'' n'' s'' T1 T2 N1 N2 A1 A2 B1 B2)) ?_ ?_
      · refine ⟨?_, ?_, ?_, ?_, ?_, ?_, ?_, ?_, ?_, ?_, ?_, ?_, ?_, ?_, ?_, ?_, trivial⟩
        · refine step_plain rfl fun ρ wr ho hr hd => ?_
          exact does_load rfl ((hr.1 3 rfl).trans rfl) ((H.out.1).old ho) ⟨rfl, Old.refl _⟩
        · refine step_plain rfl fun ρ wr ho hr hd => ?_
          exact does_load rfl ((hr.1 4 rfl).trans rfl) ((H.out.2.1).old ho) ⟨rfl, Old.refl _⟩
        · refine step_plain rfl fun ρ wr ho hr hd => ?_
          obtain ⟨d0, d1, _⟩ := hd
          have d0 : (ρ (.tmp 160)) = vl k n s := d0 rfl
          have d1 : (ρ (.tmp 161)) = vl k' n' s' := d1 rfl
          exact does_slice2 rfl d0 d1 fun v wv hv hw => ⟨hv, hw⟩
        · refine step_plain rfl fun ρ wr ho hr hd => ?_
          obtain ⟨d2, _⟩ := hd
          have d2 : RV wr (ρ (.tmp 162)) [⟨k, n, s⟩, ⟨k', n', s'⟩] := d2 rfl
          exact does_call1 rfl (hr.2.2.2 20) rfl rfl ((t1.on d2).mono fun e w' h => ⟨_, h.1, rfl, h.2⟩)
        · refine step_plain rfl fun ρ wr ho hr hd => ?_
          obtain ⟨d3, _, _⟩ := hd
          have d3 : (ρ (.tmp 163)) = vl T1 T2 ⟨#[]⟩ := d3 rfl
          exact does_call1 rfl (hr.2.2.2 22) d3 rfl ((nt.on).mono fun e w' h => ⟨_, h.1, rfl, h.2⟩)
        · refine step_plain rfl fun ρ wr ho hr hd => ?_
          exact does_load rfl ((hr.1 3 rfl).trans rfl) ((H.out.1).old ho) ⟨rfl, Old.refl _⟩
        · refine step_plain rfl fun ρ wr ho hr hd => ?_
          obtain ⟨d5, d4, _⟩ := hd
          have d5 : (ρ (.tmp 165)) = vl k n s := d5 rfl
          have d4 : (ρ (.tmp 164)) = vl N1 N2 ⟨#[]⟩ := d4 rfl
          exact does_call1 rfl (hr.2.2.2 22) d5 rfl ((na.on).mono fun e w' h => ⟨_, h.1, rfl, h.2⟩)
        · refine step_plain rfl fun ρ wr ho hr hd => ?_
          exact does_load rfl ((hr.1 4 rfl).trans rfl) ((H.out.2.1).old ho) ⟨rfl, Old.refl _⟩
        · refine step_plain rfl fun ρ wr ho hr hd => ?_
          obtain ⟨d7, d6, _⟩ := hd
          have d7 : (ρ (.tmp 167)) = vl k' n' s' := d7 rfl
          have d6 : (ρ (.tmp 166)) = vl A1 A2 ⟨#[]⟩ := d6 rfl
          exact does_call1 rfl (hr.2.2.2 22) d7 rfl ((nb1.on).mono fun e w' h => ⟨_, h.1, rfl, h.2⟩)
        · refine step_plain rfl fun ρ wr ho hr hd => ?_
          obtain ⟨d6, d8, _⟩ := hd
          have d6 : (ρ (.tmp 166)) = vl A1 A2 ⟨#[]⟩ := d6 rfl
          have d8 : (ρ (.tmp 168)) = vl B1 B2 ⟨#[]⟩ := d8 rfl
          exact does_slice2 rfl d6 d8 fun v wv hv hw => ⟨hv, hw⟩
        · refine step_plain rfl fun ρ wr ho hr hd => ?_
          obtain ⟨d9, d8, _⟩ := hd
          have d9 : RV wr (ρ (.tmp 169)) [⟨A1, A2, ⟨#[]⟩⟩, ⟨B1, B2, ⟨#[]⟩⟩] := d9 rfl
          have d8 : (ρ (.tmp 168)) = vl B1 B2 ⟨#[]⟩ := d8 rfl
          exact does_call1 rfl (hr.2.2.2 21) rfl rfl ((y1.on d9).mono fun e w' h => ⟨_, h.1, rfl, h.2⟩)
        · refine step_plain rfl fun ρ wr ho hr hd => ?_
          obtain ⟨d4, d10, _⟩ := hd
          have d4 : (ρ (.tmp 164)) = vl N1 N2 ⟨#[]⟩ := d4 rfl
          have d10 : (ρ (.tmp 170)) = vl N1 N2 ⟨#[]⟩ := d10 rfl
          exact does_eql_same rfl d4 d10 ⟨rfl, Old.refl _⟩
        · refine step_plain rfl fun ρ wr ho hr hd => ?_
          obtain ⟨d11, d10, _⟩ := hd
          have d11 : (ρ (.tmp 171)) = .bool true := d11 rfl
          have d10 : (ρ (.tmp 170)) = vl N1 N2 ⟨#[]⟩ := d10 rfl
          exact does_move rfl d11 ⟨rfl, Old.refl _⟩
        · refine step_guard rfl fun ρ wr ho hr hd => ?_
          obtain ⟨d12, _, _⟩ := hd
          have d12 : (ρ (.tmp 172)) = .bool true := d12 rfl
          exact ⟨d12, does_call0 rfl (hr.2.2.2 18)  rfl ((known_any _).mono fun e w' h => ⟨_, h.1, rfl, h.2⟩)⟩
        · refine step_plain rfl fun ρ wr ho hr hd => ?_
          obtain ⟨d12, d13, _⟩ := hd
          have d12 : (ρ (.tmp 172)) = .bool true := d12 rfl
          have d13 : (ρ (.tmp 173)) = .bool true := d13 rfl
          exact does_pick rfl d12 d13 ⟨rfl, Old.refl _⟩
        · refine step_plain rfl fun ρ wr ho hr hd => ?_
          obtain ⟨d14, d13, d0, d1, d2, d3, d4, d5, d6, d7, d8, d9, d10, d11, d12, _, _, _⟩ := hd
          have d14 : (ρ (.tmp 174)) = .bool true := d14 rfl
          have d13 : (ρ (.tmp 173)) = .bool true := d13 rfl
          have d0 : (ρ (.tmp 160)) = vl k n s := d0 rfl
          have d1 : (ρ (.tmp 161)) = vl k' n' s' := d1 rfl
          have d2 : RV wr (ρ (.tmp 162)) [⟨k, n, s⟩, ⟨k', n', s'⟩] := d2 rfl
          have d3 : (ρ (.tmp 163)) = vl T1 T2 ⟨#[]⟩ := d3 rfl
          have d4 : (ρ (.tmp 164)) = vl N1 N2 ⟨#[]⟩ := d4 rfl
          have d5 : (ρ (.tmp 165)) = vl k n s := d5 rfl
          have d6 : (ρ (.tmp 166)) = vl A1 A2 ⟨#[]⟩ := d6 rfl
          have d7 : (ρ (.tmp 167)) = vl k' n' s' := d7 rfl
          have d8 : (ρ (.tmp 168)) = vl B1 B2 ⟨#[]⟩ := d8 rfl
          have d9 : RV wr (ρ (.tmp 169)) [⟨A1, A2, ⟨#[]⟩⟩, ⟨B1, B2, ⟨#[]⟩⟩] := d9 rfl
          have d10 : (ρ (.tmp 170)) = vl N1 N2 ⟨#[]⟩ := d10 rfl
          have d11 : (ρ (.tmp 171)) = .bool true := d11 rfl
          have d12 : (ρ (.tmp 172)) = .bool true := d12 rfl
          exact does_assign rfl d14 ⟨rfl, Old.refl _⟩
      · intro a' w' ho hst hl
        obtain ⟨_, _, _, _, _, _, _, _, _, _, _, _, _, _, _, e6, _⟩ := hl
        have e6 : a'.eval (.tmp 6) = .bool true := e6
        rw [act_fresh hst [false, false, false, false, false, false, true, false, false, false, false, false, false, false, false, false, false, false, false, false, false, false, false, false, false, false, false, false, false, false, false, false, false, false, false, false, false, false, false, false, false, false, false, false, false, false, false, false, false, false, false, false, false, false, false, false, false, false, false, false, false, false, false, false, false, false, false, false, false, false, false, false, false, false, false, false, false, false, false, false, false, false, false, false, false, false, false, false, false, false, false, false, false, false, false, false, false, false, false, false, false, false, false, false, false, false, false, false, false, false, false, false, false, false, false, false, false, false, false, false, false, false, false, false, false, false, false, false, false, false, false, false, false, false, false, false, false, false, false, false, false, false, false, false, false, false, false, false, false, false, false, false, false, false, false, false, false, false, false, false, true, true, true, true, true, true, true, true, true, true, true, true, true, true, true] (by kernel_rfl) (by kernel_rfl)]
        simp only [fresh, e6]
        replace H := Lib.hid (H.out.old ho)
        replace O := Lib.hid (O.out.trans ho)
        clear e6 hst ho x00 x01 x02 x10 x11 x12 x20 x21 x22
        go_wp2_with fail
        all_goals (go_ret; exact ⟨rfl, O.out⟩)

end Go.Proofs.Ytmoomdikgfeifaa
