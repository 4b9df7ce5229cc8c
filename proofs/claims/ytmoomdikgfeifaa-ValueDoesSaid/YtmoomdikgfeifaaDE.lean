/- ValueDoes: its walk, and with what its calls answer. -/
import Derived.Test.YtmoomdikgfeifaaDB
import Derived.Test.YtmoomdikgfeifaaRU
import Derived.Test.YtmoomdikgfeifaaVP
namespace Go.Proofs.Ytmoomdikgfeifaa
open Go.ChangeShapes Go.WideShapes Go.ChangeAt Go.RowKit
set_option linter.unusedVariables false

def tab1 (k n : Int) (s : ByteArray) (k' n' : Int) (s' : ByteArray) (M : Bool) (D : Int) : List Sp :=
  [.eq (vl k n s), .eq (.bool M), .eq (vl k n s), .eq (.bool M), .eq (.bool false), .eq (.bool false), .eq (vl k n s), .eq (vl k' n' s'), .eq (.int .i64 D), .eq (vl k n s), .eq (vl k' n' s'), .eq (.int .i64 D), .eq (.bool false), .eq (.bool false)]

set_option maxHeartbeats 6400000 in
set_option maxRecDepth 100000 in
theorem does_walk (k n : Int) (s : ByteArray) (k' n' : Int) (s' : ByteArray) (w : World) (M PB : Bool) (D P A1 B1 C1 A2 B2 C2 A3 B3 C3 A4 B4 C4 A5 B5 C5 : Int)
    (m1 : CB 5 #[vl k n s] M) (m2 : CB 6 #[vl k n s] M) (o1 : CI 7 #[vl k n s, vl k' n' s'] D) (o2 : CI 8 #[vl k n s, vl k' n' s'] D) (c1 : CP2 9 #[vl k n s, vl k' n' s'] P PB) (c2 : CP2 10 #[vl k n s, vl k' n' s'] P PB)
    (a1 : CV 11 #[vl k n s, vl k' n' s'] A1 B1 C1) (a2 : CV 12 #[.int .u8 43, vl k n s, vl k' n' s'] A1 B1 C1)
    (b1 : CV 13 #[vl k n s, vl k' n' s'] A2 B2 C2) (b2 : CV 12 #[.int .u8 45, vl k n s, vl k' n' s'] A2 B2 C2)
    (t1 : CV 14 #[vl k n s, vl k' n' s'] A3 B3 C3) (t2 : CV 12 #[.int .u8 42, vl k n s, vl k' n' s'] A3 B3 C3)
    (q1 : CV 15 #[vl k n s, vl k' n' s'] A4 B4 C4) (q2 : CV 12 #[.int .u8 47, vl k n s, vl k' n' s'] A4 B4 C4)
    (g1 : CV 16 #[vl k n s] A5 B5 C5) (g2 : CV 17 #[vl k n s] A5 B5 C5) :
    Calls Try.prog 3 #[vl k n s, vl k' n' s'] w fun e w' => e = .returned (.bool true) ∧ Old w w' := by
  have H := Lib.hid (Hs.two w k n s k' n' s')
  have O := Lib.hid (((Old.refl w).alloc (.cells #[.int .u8 k, .int .i64 n, .string s] 23)).alloc (.cells #[.int .u8 k', .int .i64 n', .string s'] 23))
  go_enter Try.func3, Try.ntmps3
  go_upto_region 1 with (fail)
  generalize (w.alloc (.cells #[.int .u8 k, .int .i64 n, .string s] 23)).alloc (.cells #[.int .u8 k', .int .i64 n', .string s'] 23) = W0 at *
  generalize w.heap.size + 1 = pB at *
  generalize w.heap.size = pA at *
  have x00 := (H.out.1).c0
  have x01 := (H.out.1).c1
  have x02 := (H.out.1).c2
  have x10 := (H.out.2.1).c0
  have x11 := (H.out.2.1).c1
  have x12 := (H.out.2.1).c2
  go_cut [42] from 29 to 42 (fun o wx => o = .bool false ∧ Hid (Hs wx [(pA, k, n, s), (pB, k', n', s')]) ∧ Hid (Old w wx))
  case first =>
    as_aux_lemma =>
    clear c1 c2 a1 a2 b1 b2 t1 t2 q1 q2 g1 g2
    refine wp_region_inv (spOf (tab1 k n s k' n' s' M D)) (by kernel_rfl) (by kernel_rfl) (spOf_mono (tab1 k n s k' n' s' M D)) ?_ ?_
    · refine ⟨?_, ?_, ?_, ?_, ?_, ?_, ?_, ?_, ?_, ?_, ?_, ?_, ?_, ?_, trivial⟩
      · refine step_plain rfl fun ρ wr ho hr hd => ?_
        exact does_load rfl ((hr.1 2 rfl).trans rfl) ((H.out.1).old ho) ⟨rfl, Old.refl _⟩
      · refine step_plain rfl fun ρ wr ho hr hd => ?_
        obtain ⟨d0, _⟩ := hd
        have d0 : (ρ (.tmp 29)) = vl k n s := d0 rfl
        exact does_call1 rfl (hr.2.2.2 5) d0 rfl ((m1 _).mono fun e w' h => ⟨_, h.1, rfl, h.2⟩)
      · refine step_plain rfl fun ρ wr ho hr hd => ?_
        exact does_load rfl ((hr.1 2 rfl).trans rfl) ((H.out.1).old ho) ⟨rfl, Old.refl _⟩
      · refine step_plain rfl fun ρ wr ho hr hd => ?_
        obtain ⟨d2, d1, _⟩ := hd
        have d2 : (ρ (.tmp 31)) = vl k n s := d2 rfl
        have d1 : (ρ (.tmp 30)) = .bool M := d1 rfl
        exact does_call1 rfl (hr.2.2.2 6) d2 rfl ((m2 _).mono fun e w' h => ⟨_, h.1, rfl, h.2⟩)
      · refine step_plain rfl fun ρ wr ho hr hd => ?_
        obtain ⟨d1, d3, _⟩ := hd
        have d1 : (ρ (.tmp 30)) = .bool M := d1 rfl
        have d3 : (ρ (.tmp 32)) = .bool M := d3 rfl
        exact does_value (v := .bool false) (w' := wr) (by unfold execOp; simp only [d1, d3]; go_simp) ⟨rfl, Old.refl _⟩
      · refine step_plain rfl fun ρ wr ho hr hd => ?_
        obtain ⟨d4, d3, _⟩ := hd
        have d4 : (ρ (.tmp 33)) = .bool false := d4 rfl
        have d3 : (ρ (.tmp 32)) = .bool M := d3 rfl
        exact does_move rfl d4 ⟨rfl, Old.refl _⟩
      · refine step_guard rfl fun ρ wr ho hr hd => ?_
        obtain ⟨d5, _⟩ := hd
        have d5 : (ρ (.tmp 34)) = .bool false := d5 rfl
        exact ⟨d5, does_load rfl ((hr.1 2 rfl).trans rfl) ((H.out.1).old ho) ⟨rfl, Old.refl _⟩⟩
      · refine step_guard rfl fun ρ wr ho hr hd => ?_
        obtain ⟨d5, _⟩ := hd
        have d5 : (ρ (.tmp 34)) = .bool false := d5 rfl
        exact ⟨d5, does_load rfl ((hr.1 3 rfl).trans rfl) ((H.out.2.1).old ho) ⟨rfl, Old.refl _⟩⟩
      · refine step_guard rfl fun ρ wr ho hr hd => ?_
        obtain ⟨d6, d7, d5, _, _⟩ := hd
        have d6 : (ρ (.tmp 35)) = vl k n s := d6 rfl
        have d7 : (ρ (.tmp 36)) = vl k' n' s' := d7 rfl
        have d5 : (ρ (.tmp 34)) = .bool false := d5 rfl
        exact ⟨d5, does_call2 rfl (hr.2.2.2 7) d6 d7 rfl ((o1 _).mono fun e w' h => ⟨_, h.1, rfl, h.2⟩)⟩
      · refine step_guard rfl fun ρ wr ho hr hd => ?_
        obtain ⟨d5, _⟩ := hd
        have d5 : (ρ (.tmp 34)) = .bool false := d5 rfl
        exact ⟨d5, does_load rfl ((hr.1 2 rfl).trans rfl) ((H.out.1).old ho) ⟨rfl, Old.refl _⟩⟩
      · refine step_guard rfl fun ρ wr ho hr hd => ?_
        obtain ⟨d5, _⟩ := hd
        have d5 : (ρ (.tmp 34)) = .bool false := d5 rfl
        exact ⟨d5, does_load rfl ((hr.1 3 rfl).trans rfl) ((H.out.2.1).old ho) ⟨rfl, Old.refl _⟩⟩
      · refine step_guard rfl fun ρ wr ho hr hd => ?_
        obtain ⟨d9, d10, d8, d5, _⟩ := hd
        have d9 : (ρ (.tmp 38)) = vl k n s := d9 rfl
        have d10 : (ρ (.tmp 39)) = vl k' n' s' := d10 rfl
        have d8 : (ρ (.tmp 37)) = .int .i64 D := d8 rfl
        have d5 : (ρ (.tmp 34)) = .bool false := d5 rfl
        exact ⟨d5, does_call2 rfl (hr.2.2.2 8) d9 d10 rfl ((o2 _).mono fun e w' h => ⟨_, h.1, rfl, h.2⟩)⟩
      · refine step_guard rfl fun ρ wr ho hr hd => ?_
        obtain ⟨d8, d11, d5, _⟩ := hd
        have d8 : (ρ (.tmp 37)) = .int .i64 D := d8 rfl
        have d11 : (ρ (.tmp 40)) = .int .i64 D := d11 rfl
        have d5 : (ρ (.tmp 34)) = .bool false := d5 rfl
        exact ⟨d5, does_value (v := .bool false) (w' := wr) (by unfold execOp; simp only [d8, d11]; go_simp) ⟨rfl, Old.refl _⟩⟩
      · refine step_plain rfl fun ρ wr ho hr hd => ?_
        obtain ⟨d5, d12, _⟩ := hd
        have d5 : (ρ (.tmp 34)) = .bool false := d5 rfl
        have d12 : (ρ (.tmp 41)) = .bool false := d12 rfl
        exact does_pick rfl d5 d12 ⟨rfl, Old.refl _⟩
    · intro a' w' ho hst hl
      obtain ⟨_, _, _, _, _, _, _, _, _, _, _, _, _, e42, _⟩ := hl
      have e42 : a'.eval (.tmp 42) = .bool false := e42
      rw [act_fresh hst [false, false, false, false, false, false, false, false, false, false, false, false, false, false, false, false, false, false, false, false, false, false, false, false, false, false, false, false, false, true, true, true, true, true, true, true, true, true, true, true, true, true, true, false, false, false, false, false, false, false, false, false, false, false, false, false, false, false, false, false, false, false, false, false, false, false, false, false, false, false, false, false, false, false, false, false, false, false, false, false, false, false, false, false, false, false, false, false, false, false, false, false, false, false, false, false, false, false, false, false, false, false, false, false, false, false, false, false, false, false, false, false, false, false, false, false, false, false, false, false, false, false, false, false, false, false, false, false, false, false, false, false, false, false, false, false, false, false, false, false, false, false, false, false, false, false, false, false, false, false, false, false, false, false, false, false, false, false, false, false, false, false, false, false, false, false, false, false, false, false] (by kernel_rfl) (by kernel_rfl)]
      simp only [fresh, e42]
      replace H := Lib.hid (H.out.old ho)
      replace O := Lib.hid (O.out.trans ho)
      clear e42 hst ho x00 x01 x02 x10 x11 x12
      go_wp2_with fail
      all_goals go_meet
      all_goals exact ⟨rfl, H, O⟩
  case rest =>
  clear H O x00 x01 x02 x10 x11 x12 m1 m2 o1 o2
  obtain ⟨rfl, H, O⟩ := hcut
  have G : Hid (Hs wc []) := Lib.hid trivial
  have x00 := (H.out.1).c0
  have x01 := (H.out.1).c1
  have x02 := (H.out.1).c2
  have x10 := (H.out.2.1).c0
  have x11 := (H.out.2.1).c1
  have x12 := (H.out.2.1).c2
  go_upto_region 4 with (first
    | (go_at_call 9; ((with_reducible refine (c1 _).mono ?_); rintro e w1 ⟨rfl, o⟩; replace H := Lib.hid (H.out.old (o)); replace G := Lib.hid (G.out.old (o)); replace O := Lib.hid (O.out.trans (o)); clear o x00 x01 x02 x10 x11 x12; have x00 := (H.out.1).c0; have x01 := (H.out.1).c1; have x02 := (H.out.1).c2; have x10 := (H.out.2.1).c0; have x11 := (H.out.2.1).c1; have x12 := (H.out.2.1).c2)))
  clear c1
  go_upto_region 7 with (first
    | (go_at_call 10; ((with_reducible refine (c2 _).mono ?_); rintro e w2 ⟨rfl, o⟩; replace H := Lib.hid (H.out.old (o)); replace G := Lib.hid (G.out.old (o)); replace O := Lib.hid (O.out.trans (o)); clear o x00 x01 x02 x10 x11 x12; have x00 := (H.out.1).c0; have x01 := (H.out.1).c1; have x02 := (H.out.1).c2; have x10 := (H.out.2.1).c0; have x11 := (H.out.2.1).c1; have x12 := (H.out.2.1).c2)))
  clear c2
  go_upto_region 8 with (first
    | (go_at_call 11; ((with_reducible refine (a1 _).mono ?_); rintro e w3 ⟨rfl, o⟩; replace H := Lib.hid (H.out.old (o)); replace G := Lib.hid (G.out.old (o)); replace O := Lib.hid (O.out.trans (o)); clear o x00 x01 x02 x10 x11 x12)))
  clear a1
  replace O := Lib.hid (O.out.alloc (.cells #[.int .u8 A1, .int .i64 B1, .string ⟨#[]⟩] 23))
  replace H := Lib.hid (H.out.old ((Old.refl _).alloc (.cells #[.int .u8 A1, .int .i64 B1, .string ⟨#[]⟩] 23)))
  replace G := Lib.hid (Hs.add G.out A1 B1 ⟨#[]⟩)
  generalize w3.alloc (.cells #[.int .u8 A1, .int .i64 B1, .string ⟨#[]⟩] 23) = Wps at *
  generalize w3.heap.size = ps at *
  have x00 := (H.out.1).c0
  have x01 := (H.out.1).c1
  have x02 := (H.out.1).c2
  have x10 := (H.out.2.1).c0
  have x11 := (H.out.2.1).c1
  have x12 := (H.out.2.1).c2
  go_upto_region 9 with (first
    | (go_at_call 12; ((with_reducible refine (a2 _).mono ?_); rintro e w4 ⟨rfl, o⟩; replace H := Lib.hid (H.out.old (o)); replace G := Lib.hid (G.out.old (o)); replace O := Lib.hid (O.out.trans (o)); clear o x00 x01 x02 x10 x11 x12)))
  clear a2
  replace O := Lib.hid (O.out.alloc (.cells #[.int .u8 A1, .int .i64 B1, .string ⟨#[]⟩] 23))
  replace H := Lib.hid (H.out.old ((Old.refl _).alloc (.cells #[.int .u8 A1, .int .i64 B1, .string ⟨#[]⟩] 23)))
  replace G := Lib.hid (Hs.add G.out A1 B1 ⟨#[]⟩)
  generalize w4.alloc (.cells #[.int .u8 A1, .int .i64 B1, .string ⟨#[]⟩] 23) = Wpt at *
  generalize w4.heap.size = pt at *
  have x00 := (H.out.1).c0
  have x01 := (H.out.1).c1
  have x02 := (H.out.1).c2
  have x10 := (H.out.2.1).c0
  have x11 := (H.out.2.1).c1
  have x12 := (H.out.2.1).c2
  go_upto_region 10 with (first
    | (go_at_call 13; ((with_reducible refine (b1 _).mono ?_); rintro e w5 ⟨rfl, o⟩; replace H := Lib.hid (H.out.old (o)); replace G := Lib.hid (G.out.old (o)); replace O := Lib.hid (O.out.trans (o)); clear o x00 x01 x02 x10 x11 x12)))
  clear b1
  replace O := Lib.hid (O.out.alloc (.cells #[.int .u8 A2, .int .i64 B2, .string ⟨#[]⟩] 23))
  replace H := Lib.hid (H.out.old ((Old.refl _).alloc (.cells #[.int .u8 A2, .int .i64 B2, .string ⟨#[]⟩] 23)))
  replace G := Lib.hid (Hs.add G.out A2 B2 ⟨#[]⟩)
  generalize w5.alloc (.cells #[.int .u8 A2, .int .i64 B2, .string ⟨#[]⟩] 23) = Wpu at *
  generalize w5.heap.size = pu at *
  have x00 := (H.out.1).c0
  have x01 := (H.out.1).c1
  have x02 := (H.out.1).c2
  have x10 := (H.out.2.1).c0
  have x11 := (H.out.2.1).c1
  have x12 := (H.out.2.1).c2
  go_upto_region 11 with (first
    | (go_at_call 12; ((with_reducible refine (b2 _).mono ?_); rintro e w6 ⟨rfl, o⟩; replace H := Lib.hid (H.out.old (o)); replace G := Lib.hid (G.out.old (o)); replace O := Lib.hid (O.out.trans (o)); clear o x00 x01 x02 x10 x11 x12)))
  clear b2
  replace O := Lib.hid (O.out.alloc (.cells #[.int .u8 A2, .int .i64 B2, .string ⟨#[]⟩] 23))
  replace H := Lib.hid (H.out.old ((Old.refl _).alloc (.cells #[.int .u8 A2, .int .i64 B2, .string ⟨#[]⟩] 23)))
  replace G := Lib.hid (Hs.add G.out A2 B2 ⟨#[]⟩)
  generalize w6.alloc (.cells #[.int .u8 A2, .int .i64 B2, .string ⟨#[]⟩] 23) = Wpv at *
  generalize w6.heap.size = pv at *
  have x00 := (H.out.1).c0
  have x01 := (H.out.1).c1
  have x02 := (H.out.1).c2
  have x10 := (H.out.2.1).c0
  have x11 := (H.out.2.1).c1
  have x12 := (H.out.2.1).c2
  go_upto_region 12 with (first
    | (go_at_call 14; ((with_reducible refine (t1 _).mono ?_); rintro e w7 ⟨rfl, o⟩; replace H := Lib.hid (H.out.old (o)); replace G := Lib.hid (G.out.old (o)); replace O := Lib.hid (O.out.trans (o)); clear o x00 x01 x02 x10 x11 x12)))
  clear t1
  replace O := Lib.hid (O.out.alloc (.cells #[.int .u8 A3, .int .i64 B3, .string ⟨#[]⟩] 23))
  replace H := Lib.hid (H.out.old ((Old.refl _).alloc (.cells #[.int .u8 A3, .int .i64 B3, .string ⟨#[]⟩] 23)))
  replace G := Lib.hid (Hs.add G.out A3 B3 ⟨#[]⟩)
  generalize w7.alloc (.cells #[.int .u8 A3, .int .i64 B3, .string ⟨#[]⟩] 23) = Wpw at *
  generalize w7.heap.size = pw at *
  have x00 := (H.out.1).c0
  have x01 := (H.out.1).c1
  have x02 := (H.out.1).c2
  have x10 := (H.out.2.1).c0
  have x11 := (H.out.2.1).c1
  have x12 := (H.out.2.1).c2
  go_upto_region 13 with (first
    | (go_at_call 12; ((with_reducible refine (t2 _).mono ?_); rintro e w8 ⟨rfl, o⟩; replace H := Lib.hid (H.out.old (o)); replace G := Lib.hid (G.out.old (o)); replace O := Lib.hid (O.out.trans (o)); clear o x00 x01 x02 x10 x11 x12)))
  clear t2
  replace O := Lib.hid (O.out.alloc (.cells #[.int .u8 A3, .int .i64 B3, .string ⟨#[]⟩] 23))
  replace H := Lib.hid (H.out.old ((Old.refl _).alloc (.cells #[.int .u8 A3, .int .i64 B3, .string ⟨#[]⟩] 23)))
  replace G := Lib.hid (Hs.add G.out A3 B3 ⟨#[]⟩)
  generalize w8.alloc (.cells #[.int .u8 A3, .int .i64 B3, .string ⟨#[]⟩] 23) = Wpx at *
  generalize w8.heap.size = px at *
  have x00 := (H.out.1).c0
  have x01 := (H.out.1).c1
  have x02 := (H.out.1).c2
  have x10 := (H.out.2.1).c0
  have x11 := (H.out.2.1).c1
  have x12 := (H.out.2.1).c2
  have y00 := (G.out.1).c0
  have y01 := (G.out.1).c1
  have y02 := (G.out.1).c2
  have y10 := (G.out.2.1).c0
  have y11 := (G.out.2.1).c1
  have y12 := (G.out.2.1).c2
  have y20 := (G.out.2.2.1).c0
  have y21 := (G.out.2.2.1).c1
  have y22 := (G.out.2.2.1).c2
  have y30 := (G.out.2.2.2.1).c0
  have y31 := (G.out.2.2.2.1).c1
  have y32 := (G.out.2.2.2.1).c2
  have y40 := (G.out.2.2.2.2.1).c0
  have y41 := (G.out.2.2.2.2.1).c1
  have y42 := (G.out.2.2.2.2.1).c2
  have y50 := (G.out.2.2.2.2.2.1).c0
  have y51 := (G.out.2.2.2.2.2.1).c1
  have y52 := (G.out.2.2.2.2.2.1).c2
  go_upto_region 15 with (fail)
  clear y00 y01 y02 y10 y11 y12 y20 y21 y22 y30 y31 y32 y40 y41 y42 y50 y51 y52
  go_upto_region 16 with (first
    | (go_at_call 15; ((with_reducible refine (q1 _).mono ?_); rintro e w10 ⟨rfl, o⟩; replace H := Lib.hid (H.out.old (o)); replace G := Lib.hid (G.out.old (o)); replace O := Lib.hid (O.out.trans (o)); clear o x00 x01 x02 x10 x11 x12)))
  clear q1
  replace O := Lib.hid (O.out.alloc (.cells #[.int .u8 A4, .int .i64 B4, .string ⟨#[]⟩] 23))
  replace H := Lib.hid (H.out.old ((Old.refl _).alloc (.cells #[.int .u8 A4, .int .i64 B4, .string ⟨#[]⟩] 23)))
  replace G := Lib.hid (Hs.add G.out A4 B4 ⟨#[]⟩)
  generalize w10.alloc (.cells #[.int .u8 A4, .int .i64 B4, .string ⟨#[]⟩] 23) = Wpq at *
  generalize w10.heap.size = pq at *
  have x00 := (H.out.1).c0
  have x01 := (H.out.1).c1
  have x02 := (H.out.1).c2
  have x10 := (H.out.2.1).c0
  have x11 := (H.out.2.1).c1
  have x12 := (H.out.2.1).c2
  go_upto_region 17 with (first
    | (go_at_call 12; ((with_reducible refine (q2 _).mono ?_); rintro e w11 ⟨rfl, o⟩; replace H := Lib.hid (H.out.old (o)); replace G := Lib.hid (G.out.old (o)); replace O := Lib.hid (O.out.trans (o)); clear o x00 x01 x02 x10 x11 x12)))
  clear q2
  replace O := Lib.hid (O.out.alloc (.cells #[.int .u8 A4, .int .i64 B4, .string ⟨#[]⟩] 23))
  replace H := Lib.hid (H.out.old ((Old.refl _).alloc (.cells #[.int .u8 A4, .int .i64 B4, .string ⟨#[]⟩] 23)))
  replace G := Lib.hid (Hs.add G.out A4 B4 ⟨#[]⟩)
  generalize w11.alloc (.cells #[.int .u8 A4, .int .i64 B4, .string ⟨#[]⟩] 23) = Wpr at *
  generalize w11.heap.size = pr at *
  have x00 := (H.out.1).c0
  have x01 := (H.out.1).c1
  have x02 := (H.out.1).c2
  have x10 := (H.out.2.1).c0
  have x11 := (H.out.2.1).c1
  have x12 := (H.out.2.1).c2
  go_upto_region 18 with (first
    | (go_at_call 16; ((with_reducible refine (g1 _).mono ?_); rintro e w12 ⟨rfl, o⟩; replace H := Lib.hid (H.out.old (o)); replace G := Lib.hid (G.out.old (o)); replace O := Lib.hid (O.out.trans (o)); clear o x00 x01 x02 x10 x11 x12)))
  clear g1
  replace O := Lib.hid (O.out.alloc (.cells #[.int .u8 A5, .int .i64 B5, .string ⟨#[]⟩] 23))
  replace H := Lib.hid (H.out.old ((Old.refl _).alloc (.cells #[.int .u8 A5, .int .i64 B5, .string ⟨#[]⟩] 23)))
  replace G := Lib.hid (Hs.add G.out A5 B5 ⟨#[]⟩)
  generalize w12.alloc (.cells #[.int .u8 A5, .int .i64 B5, .string ⟨#[]⟩] 23) = Wpm at *
  generalize w12.heap.size = pm at *
  have x00 := (H.out.1).c0
  have x01 := (H.out.1).c1
  have x02 := (H.out.1).c2
  have x10 := (H.out.2.1).c0
  have x11 := (H.out.2.1).c1
  have x12 := (H.out.2.1).c2
  go_upto_region 19 with (first
    | (go_at_call 17; ((with_reducible refine (g2 _).mono ?_); rintro e w13 ⟨rfl, o⟩; replace H := Lib.hid (H.out.old (o)); replace G := Lib.hid (G.out.old (o)); replace O := Lib.hid (O.out.trans (o)); clear o x00 x01 x02 x10 x11 x12)))
  clear g2
  replace O := Lib.hid (O.out.alloc (.cells #[.int .u8 A5, .int .i64 B5, .string ⟨#[]⟩] 23))
  replace H := Lib.hid (H.out.old ((Old.refl _).alloc (.cells #[.int .u8 A5, .int .i64 B5, .string ⟨#[]⟩] 23)))
  replace G := Lib.hid (Hs.add G.out A5 B5 ⟨#[]⟩)
  generalize w13.alloc (.cells #[.int .u8 A5, .int .i64 B5, .string ⟨#[]⟩] 23) = Wpo at *
  generalize w13.heap.size = po at *
  have x00 := (H.out.1).c0
  have x01 := (H.out.1).c1
  have x02 := (H.out.1).c2
  have x10 := (H.out.2.1).c0
  have x11 := (H.out.2.1).c1
  have x12 := (H.out.2.1).c2
  clear x00 x01 x02 x10 x11 x12
  have y00 := (G.out.1).c0
  have y01 := (G.out.1).c1
  have y02 := (G.out.1).c2
  have y10 := (G.out.2.1).c0
  have y11 := (G.out.2.1).c1
  have y12 := (G.out.2.1).c2
  have y20 := (G.out.2.2.1).c0
  have y21 := (G.out.2.2.1).c1
  have y22 := (G.out.2.2.1).c2
  have y30 := (G.out.2.2.2.1).c0
  have y31 := (G.out.2.2.2.1).c1
  have y32 := (G.out.2.2.2.1).c2
  go_wp2_with (first
    | (go_at_call 18; ((with_reducible refine (known_any _).mono ?_); rintro e w14 ⟨rfl, o⟩; replace O := Lib.hid (O.out.trans o))))
  all_goals (go_ret; exact ⟨rfl, O.out⟩)
end Go.Proofs.Ytmoomdikgfeifaa

namespace Go.Proofs.Ytmoomdikgfeifaa
set_option linter.unusedVariables false

theorem does_all (k n : Int) (s : ByteArray) (k' n' : Int) (s' : ByteArray) (_ : 0 ≤ k ∧ k ≤ 255) (_ : 0 ≤ k' ∧ k' ≤ 255) (hn : I64 n) (hn' : I64 n') (hs : s.size ≤ maxLen) (hs' : s'.size ≤ maxLen) (w : World) :
    Calls Try.prog 3 #[vl k n s, vl k' n' s'] w fun e w' => e = .returned (.bool true) ∧ Old w w' :=
  does_walk k n s k' n' s' w (mayB k n s) (cpB k k') (od k n s k' n' s') (cpV k n s k' n' s') _ _ _ _ _ _ _ _ _ _ _ _ _ _ _
    (fun W => may_any k n s W) (fun W => rmay_any k n s W hs) (fun W => order_any k n s k' n' s' W) (fun W => rorder_any k n s k' n' s' W) (fun W => compare_any k n s k' n' s' W hn hn') (fun W => rcompare_any k n s k' n' s' W hn hn')
    (fun W => vadd_any k n s k' n' s' W hn hn') (fun W => rdo_add k n s k' n' s' W hn hn') (fun W => vsub_any k n s k' n' s' W hn hn') (fun W => rdo_sub k n s k' n' s' W hn hn') (fun W => vmul_any k n s k' n' s' W hn hn') (fun W => rdo_mul k n s k' n' s' W hn hn') (fun W => vdiv_any k n s k' n' s' W hn hn') (fun W => rdo_div k n s k' n' s' W hn hn')
    (fun W => vneg_any k n s W hn) (fun W => rneg_any k n s W hn)
end Go.Proofs.Ytmoomdikgfeifaa
