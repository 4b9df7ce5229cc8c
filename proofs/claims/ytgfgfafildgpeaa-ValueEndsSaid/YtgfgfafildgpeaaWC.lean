/- ValueSums: its walk. -/
import Derived.Test.YtgfgfafildgpeaaVQ
import Derived.Test.YtgfgfafildgpeaaVP
namespace Go.Proofs.Ytgfgfafildgpeaa
open Go.ChangeShapes Go.WideShapes Go.ChangeAt Go.RowKit
set_option linter.unusedVariables false

theorem sums_no (k n : Int) (s : ByteArray) (k' n' : Int) (s' : ByteArray) (w : World) (x y : Bool) (hxy : x = false ∨ y = false) (m1 : CB 8 #[vl k n s] x) (m2 : CB 8 #[vl k' n' s'] y) :
    Calls Try.prog 6 #[vl k n s, vl k' n' s'] w fun e w' => e = .returned (.bool true) ∧ Old w w' := by
  have H0 := Lib.hid (Hs.two w k n s k' n' s')
  have O0 := Lib.hid (((Old.refl w).alloc (.cells #[.int .u8 k, .int .i64 n, .string s] 23)).alloc (.cells #[.int .u8 k', .int .i64 n', .string s'] 23))
  cases x
  · clear hxy
    go_enter Try.func6, Try.ntmps6
    go_wp2_with (first
      | (go_at_call 8; ((with_reducible refine (m1 _).mono ?_); rintro e w1 ⟨rfl, o1⟩))
      | (go_at_call 21; ((with_reducible refine (known_any _).mono ?_); rintro e w3 ⟨rfl, o3⟩)))
    go_ret
    exact ⟨rfl, O0.out.trans (o1.trans o3)⟩
  · have hy : y = false := hxy.resolve_left (by decide)
    subst hy
    clear hxy
    go_enter Try.func6, Try.ntmps6
    go_wp2_with (first
      | (go_at_call 8; first
          | ((with_reducible refine (m2 _).mono ?_); have H1 := H1; rintro e w2 ⟨rfl, o2⟩)
          | ((with_reducible refine (m1 _).mono ?_); rintro e w1 ⟨rfl, o1⟩; have H1 := Lib.hid (H0.out.old o1); have x00 := (H1.out.1).c0; have x01 := (H1.out.1).c1; have x02 := (H1.out.1).c2; have x10 := (H1.out.2.1).c0; have x11 := (H1.out.2.1).c1; have x12 := (H1.out.2.1).c2; have O1 := Lib.hid (O0.out.trans o1)))
      | (go_at_call 21; ((with_reducible refine (known_any _).mono ?_); rintro e w3 ⟨rfl, o3⟩)))
    go_ret
    exact ⟨rfl, O1.out.trans (o2.trans o3)⟩

set_option maxHeartbeats 6400000 in
set_option maxRecDepth 100000 in
theorem sums_walk (k n : Int) (s : ByteArray) (k' n' : Int) (s' : ByteArray) (w : World) (A B C A2 B2 C2 M N E D DN DC : Int)
    (m1 : CB 8 #[vl k n s] true) (m2 : CB 8 #[vl k' n' s'] true)
    (a1 : CV 14 #[vl k n s, vl k' n' s'] A B C) (a2 : CV 14 #[vl k' n' s', vl k n s] A B C)
    (q1 : CV 17 #[vl k n s, vl k' n' s'] A2 B2 C2) (q2 : CV 17 #[vl k' n' s', vl k n s] A2 B2 C2)
    (m3 : CB 8 #[vl A B ⟨#[]⟩] true) (m4 : CB 8 #[vl A2 B2 ⟨#[]⟩] true)
    (hN : k = 0 ∨ k' = 0 → A = 0 ∧ B = 0 ∧ (C = 0 ∨ C = 8))
    (n1 : CV 19 #[vl k' n' s'] M N E)
    (hE : ¬ E = 0 → M = 0 ∧ N = 0 ∧ (E = 8 ∨ E = 9))
    (hz : E = 0 → s' = ⟨#[]⟩ ∧ CV 16 #[vl k n s, vl k' n' ⟨#[]⟩] D DN DC ∧ CV 14 #[vl k n s, vl M N ⟨#[]⟩] D DN DC ∧ CV 19 #[vl M N ⟨#[]⟩] k' n' 0) :
    Calls Try.prog 6 #[vl k n s, vl k' n' s'] w fun e w' => e = .returned (.bool true) ∧ Old w w' := by
  have H0 := Lib.hid (Hs.two w k n s k' n' s')
  have O0 := Lib.hid (((Old.refl w).alloc (.cells #[.int .u8 k, .int .i64 n, .string s] 23)).alloc (.cells #[.int .u8 k', .int .i64 n', .string s'] 23))
  go_enter Try.func6, Try.ntmps6
  go_upto_region 7 with (first
    | (go_at_call 8; first
        | ((with_reducible refine (m2 _).mono ?_); clear m2 x00 x01 x02 x10 x11 x12; rintro e w2 ⟨rfl, o2⟩; have H2 := Lib.hid (H1.out.old o2); have y00 := (H2.out.1).c0; have y01 := (H2.out.1).c1; have y02 := (H2.out.1).c2; have y10 := (H2.out.2.1).c0; have y11 := (H2.out.2.1).c1; have y12 := (H2.out.2.1).c2; have O2 := Lib.hid (O1.out.trans o2))
        | ((with_reducible refine (m1 _).mono ?_); rintro e w1 ⟨rfl, o1⟩; have H1 := Lib.hid (H0.out.old o1); have x00 := (H1.out.1).c0; have x01 := (H1.out.1).c1; have x02 := (H1.out.1).c2; have x10 := (H1.out.2.1).c0; have x11 := (H1.out.2.1).c1; have x12 := (H1.out.2.1).c2; have O1 := Lib.hid (O0.out.trans o1)))
    | (go_at_call 14; first
        | ((with_reducible refine (a1 _).mono ?_); clear y00 y01 y02 y10 y11 y12; rintro e w3 ⟨rfl, o3⟩; have H3 := Lib.hid ((H2.out.old o3).add A B ⟨#[]⟩); have x10 := (H3.out.2.1).c0; have x11 := (H3.out.2.1).c1; have x12 := (H3.out.2.1).c2; have x20 := (H3.out.2.2.1).c0; have x21 := (H3.out.2.2.1).c1; have x22 := (H3.out.2.2.1).c2; have O3 := Lib.hid ((O2.out.trans o3).alloc (.cells #[.int .u8 A, .int .i64 B, .string ⟨#[]⟩] 23)))
        | ((with_reducible refine (a2 _).mono ?_); clear x10 x11 x12 x20 x21 x22; rintro e w4 ⟨rfl, o4⟩; have H4 := Lib.hid ((H3.out.old o4).add A B ⟨#[]⟩); have y20 := (H4.out.2.2.1).c0; have y21 := (H4.out.2.2.1).c1; have y22 := (H4.out.2.2.1).c2; have y30 := (H4.out.2.2.2.1).c0; have y31 := (H4.out.2.2.2.1).c1; have y32 := (H4.out.2.2.2.1).c2; have O4 := Lib.hid ((O3.out.trans o4).alloc (.cells #[.int .u8 A, .int .i64 B, .string ⟨#[]⟩] 23))))
    | (go_at_call 17; first
        | ((with_reducible refine (q1 _).mono ?_); clear y20 y21 y22 y30 y31 y32; rintro e w5 ⟨rfl, o5⟩; have H5 := Lib.hid ((H4.out.old o5).add A2 B2 ⟨#[]⟩); have x30 := (H5.out.2.2.2.1).c0; have x31 := (H5.out.2.2.2.1).c1; have x32 := (H5.out.2.2.2.1).c2; have x40 := (H5.out.2.2.2.2.1).c0; have x41 := (H5.out.2.2.2.2.1).c1; have x42 := (H5.out.2.2.2.2.1).c2; have O5 := Lib.hid ((O4.out.trans o5).alloc (.cells #[.int .u8 A2, .int .i64 B2, .string ⟨#[]⟩] 23)))
        | ((with_reducible refine (q2 _).mono ?_); clear x30 x31 x32 x40 x41 x42; rintro e w6 ⟨rfl, o6⟩; have H6 := Lib.hid ((H5.out.old o6).add A2 B2 ⟨#[]⟩); have y00 := (H6.out.1).c0; have y01 := (H6.out.1).c1; have y02 := (H6.out.1).c2; have y10 := (H6.out.2.1).c0; have y11 := (H6.out.2.1).c1; have y12 := (H6.out.2.1).c2; have y20 := (H6.out.2.2.1).c0; have y21 := (H6.out.2.2.1).c1; have y22 := (H6.out.2.2.1).c2; have y30 := (H6.out.2.2.2.1).c0; have y31 := (H6.out.2.2.2.1).c1; have y32 := (H6.out.2.2.2.1).c2; have y40 := (H6.out.2.2.2.2.1).c0; have y41 := (H6.out.2.2.2.2.1).c1; have y42 := (H6.out.2.2.2.2.1).c2; have y50 := (H6.out.2.2.2.2.2.1).c0; have y51 := (H6.out.2.2.2.2.2.1).c1; have y52 := (H6.out.2.2.2.2.2.1).c2; have O6 := Lib.hid ((O5.out.trans o6).alloc (.cells #[.int .u8 A2, .int .i64 B2, .string ⟨#[]⟩] 23)))))
  go_upto_region 9 with (first
    | (go_at_call 8; first
        | ((with_reducible refine (m3 _).mono ?_); clear m3 y00 y01 y02 y10 y11 y12 y20 y21 y22 y30 y31 y32 y40 y41 y42 y50 y51 y52; rintro e w7 ⟨rfl, o7⟩; have H7 := Lib.hid (H6.out.old o7); have x00 := (H7.out.1).c0; have x01 := (H7.out.1).c1; have x02 := (H7.out.1).c2; have x10 := (H7.out.2.1).c0; have x11 := (H7.out.2.1).c1; have x12 := (H7.out.2.1).c2; have x20 := (H7.out.2.2.1).c0; have x21 := (H7.out.2.2.1).c1; have x22 := (H7.out.2.2.1).c2; have x30 := (H7.out.2.2.2.1).c0; have x31 := (H7.out.2.2.2.1).c1; have x32 := (H7.out.2.2.2.1).c2; have x40 := (H7.out.2.2.2.2.1).c0; have x41 := (H7.out.2.2.2.2.1).c1; have x42 := (H7.out.2.2.2.2.1).c2; have x50 := (H7.out.2.2.2.2.2.1).c0; have x51 := (H7.out.2.2.2.2.2.1).c1; have x52 := (H7.out.2.2.2.2.2.1).c2; have O7 := Lib.hid (O6.out.trans o7))
        | ((with_reducible refine (m4 _).mono ?_); clear x00 x01 x02 x10 x11 x12 x20 x21 x22 x30 x31 x32 x40 x41 x42 x50 x51 x52; rintro e w8 ⟨rfl, o8⟩; have H8 := Lib.hid (H7.out.old o8); have y30 := (H8.out.2.2.2.1).c0; have y31 := (H8.out.2.2.2.1).c1; have y32 := (H8.out.2.2.2.1).c2; have y40 := (H8.out.2.2.2.2.1).c0; have y41 := (H8.out.2.2.2.2.1).c1; have y42 := (H8.out.2.2.2.2.1).c2; have y50 := (H8.out.2.2.2.2.2.1).c0; have y51 := (H8.out.2.2.2.2.2.1).c1; have y52 := (H8.out.2.2.2.2.2.1).c2; have O8 := Lib.hid (O7.out.trans o8))))
  clear m1 m4 a1 a2 q1 q2 o1 o2 o3 o4 o5 o6 o7 o8 H0 H1 H2 H3 H4 H5 H6 H7 O0 O1 O2 O3 O4 O5 O6 O7
  generalize w3.heap.size = p1 at *
  generalize w4.heap.size = p2 at *
  generalize w5.heap.size = p3 at *
  generalize w6.heap.size = p4 at *
  generalize w.heap.size + 1 = pB at *
  generalize w.heap.size = pA at *
  go_cut [102] from 82 to 102 (fun o wx => o = .bool false ∧ wx = w8)
  case first =>
    clear H8 O8 n1 hE hz
    by_cases h0 : k = 0
    · obtain ⟨rfl, rfl, hC⟩ := hN (Or.inl h0)
      subst h0
      clear hN
      rcases hC with rfl | rfl
      all_goals
        go_wp2_with fail
        go_meet
        exact ⟨rfl, rfl⟩
    · by_cases h1 : k' = 0
      · obtain ⟨rfl, rfl, hC⟩ := hN (Or.inr h1)
        subst h1
        clear hN
        rcases hC with rfl | rfl
        all_goals
          go_wp2_with fail
          go_meet
          exact ⟨rfl, rfl⟩
      · clear hN
        go_wp2_with fail
        go_meet
        exact ⟨rfl, rfl⟩
  case rest =>
    obtain ⟨rfl, rfl⟩ := hcut
    clear hN
    clear y30 y31 y32 y40 y41 y42 y50 y51 y52
    have x40 := (H8.out.2.2.2.2.1).c0
    have x41 := (H8.out.2.2.2.2.1).c1
    have x42 := (H8.out.2.2.2.2.1).c2
    have x50 := (H8.out.2.2.2.2.2.1).c0
    have x51 := (H8.out.2.2.2.2.2.1).c1
    have x52 := (H8.out.2.2.2.2.2.1).c2
    by_cases h0 : E = 0
    · obtain ⟨rfl, d1, d2, n2⟩ := hz h0
      subst h0
      clear hz hE
      go_wp2_with (first
        | (go_at_call 19; first
            | ((with_reducible refine (n1 _).mono ?_); clear n1 x40 x41 x42 x50 x51 x52; rintro e w9 ⟨rfl, o9⟩; have H9 := Lib.hid ((H8.out.old o9).add M N ⟨#[]⟩); have y00 := (H9.out.1).c0; have y01 := (H9.out.1).c1; have y02 := (H9.out.1).c2; have y50 := (H9.out.2.2.2.2.2.1).c0; have y51 := (H9.out.2.2.2.2.2.1).c1; have y52 := (H9.out.2.2.2.2.2.1).c2; have y60 := (H9.out.2.2.2.2.2.2.1).c0; have y61 := (H9.out.2.2.2.2.2.2.1).c1; have y62 := (H9.out.2.2.2.2.2.2.1).c2; have O9 := Lib.hid ((O8.out.trans o9).alloc (.cells #[.int .u8 M, .int .i64 N, .string ⟨#[]⟩] 23)))
            | ((with_reducible refine (n2 _).mono ?_); clear n2 y20 y21 y22; rintro e w12 ⟨rfl, o12⟩; have H12 := Lib.hid ((H11.out.old o12).add k' n' ⟨#[]⟩); have x00 := (H12.out.1).c0; have x01 := (H12.out.1).c1; have x02 := (H12.out.1).c2; have x10 := (H12.out.2.1).c0; have x11 := (H12.out.2.1).c1; have x12 := (H12.out.2.1).c2; have x20 := (H12.out.2.2.1).c0; have x21 := (H12.out.2.2.1).c1; have x22 := (H12.out.2.2.1).c2; have x90 := (H12.out.2.2.2.2.2.2.2.2.2.1).c0; have x91 := (H12.out.2.2.2.2.2.2.2.2.2.1).c1; have x92 := (H12.out.2.2.2.2.2.2.2.2.2.1).c2; have O12 := Lib.hid ((O11.out.trans o12).alloc (.cells #[.int .u8 k', .int .i64 n', .string ⟨#[]⟩] 23))))
        | (go_at_call 16; ((with_reducible refine (d1 _).mono ?_); clear y00 y01 y02 y50 y51 y52 y60 y61 y62; rintro e w10 ⟨rfl, o10⟩; have H10 := Lib.hid ((H9.out.old o10).add D DN ⟨#[]⟩); have x00 := (H10.out.1).c0; have x01 := (H10.out.1).c1; have x02 := (H10.out.1).c2; have x10 := (H10.out.2.1).c0; have x11 := (H10.out.2.1).c1; have x12 := (H10.out.2.1).c2; have x60 := (H10.out.2.2.2.2.2.2.1).c0; have x61 := (H10.out.2.2.2.2.2.2.1).c1; have x62 := (H10.out.2.2.2.2.2.2.1).c2; have x70 := (H10.out.2.2.2.2.2.2.2.1).c0; have x71 := (H10.out.2.2.2.2.2.2.2.1).c1; have x72 := (H10.out.2.2.2.2.2.2.2.1).c2; have O10 := Lib.hid ((O9.out.trans o10).alloc (.cells #[.int .u8 D, .int .i64 DN, .string ⟨#[]⟩] 23))))
        | (go_at_call 14; ((with_reducible refine (d2 _).mono ?_); clear x00 x01 x02 x10 x11 x12 x60 x61 x62 x70 x71 x72; rintro e w11 ⟨rfl, o11⟩; have H11 := Lib.hid ((H10.out.old o11).add D DN ⟨#[]⟩); have y20 := (H11.out.2.2.1).c0; have y21 := (H11.out.2.2.1).c1; have y22 := (H11.out.2.2.1).c2; have O11 := Lib.hid ((O10.out.trans o11).alloc (.cells #[.int .u8 D, .int .i64 DN, .string ⟨#[]⟩] 23))))
        | (go_at_call 21; ((with_reducible refine (known_any _).mono ?_); rintro e w13 ⟨rfl, o13⟩)))
      go_ret
      exact ⟨rfl, O12.out.trans o13⟩
    · obtain ⟨rfl, rfl, hC⟩ := hE h0
      clear hz hE
      rcases hC with rfl | rfl
      all_goals
        go_wp2_with (first
          | (go_at_call 19; ((with_reducible refine (n1 _).mono ?_); clear n1 x40 x41 x42 x50 x51 x52; rintro e w9 ⟨rfl, o9⟩; have H9 := Lib.hid ((H8.out.old o9).add 0 0 ⟨#[]⟩); have y00 := (H9.out.1).c0; have y01 := (H9.out.1).c1; have y02 := (H9.out.1).c2; have O9 := Lib.hid ((O8.out.trans o9).alloc (.cells #[.int .u8 0, .int .i64 0, .string ⟨#[]⟩] 23))))
          | (go_at_call 21; ((with_reducible refine (known_any _).mono ?_); rintro e w13 ⟨rfl, o13⟩)))
        go_ret
        exact ⟨rfl, O9.out.trans o13⟩

end Go.Proofs.Ytgfgfafildgpeaa
