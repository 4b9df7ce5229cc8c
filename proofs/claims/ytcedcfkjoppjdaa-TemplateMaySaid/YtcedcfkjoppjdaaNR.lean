/- Layer template: the law TemplateMay. -/
import Derived.Test.YtcedcfkjoppjdaaNL
namespace Go.Proofs.Ytcedcfkjoppjdaa
open Go.ChangeShapes Go.WideShapes Go.ChangeAt Go.RowKit Go.Lib
set_option linter.unusedVariables false
set_option linter.unusedSimpArgs false
set_option maxRecDepth 100000

theorem may_long (l : List Tp) (v : Value) (s : ByteArray) (kk : Int) (w : World) (hl : TR w v l) (hs : 100 < s.size) : Calls Try.prog 3 #[v, .string s, .int .u8 kk] w fun e w' => e = .returned (.bool true) ∧ Old w w' := by
  have hg := fun W hW => great_any l v W hW
  have hk := fun W => known_any W
  have HL := Lib.hid hl
  clear hl
  go_enter Try.func3, Try.ntmps3
  go_wp2_with (first
    | (go_at_call 8; (with_reducible refine (hg _ HL.out).mono ?_); rintro e0 w0 ⟨b, rfl, hb, rfl⟩; clear hb; cases b)
    | (go_at_call 9; (with_reducible refine (hk _).mono ?_); rintro e1 w1 ⟨rfl, o1⟩))
  all_goals (go_ret; exact ⟨rfl, o1⟩)
set_option maxHeartbeats 1600000 in
theorem may_short (l : List Tp) (v : Value) (s : ByteArray) (kk : Int) (w : World) (hl : TR w v l) (hs : s.size ≤ 100) : Calls Try.prog 3 #[v, .string s, .int .u8 kk] w fun e w' => e = .returned (.bool true) ∧ Old w w' := by
  have hg := fun W hW => great_any l v W hW
  have hk := fun W => known_any W
  have c10 := fun W => kind_any s W
  have c11 := fun W => rkind_any s W
  have c12 := fun W => nm_any s W
  have c13 := fun W => rnm_any s W
  have c14 := fun W hW => mayT_any l v W hW
  have c15 := fun W hW => rmayT_any l v W hW
  have c16 := fun W hW => find_any l v s W hW
  have c17 := fun W hW => rfind_any l v s W hW
  have c18 := fun W => kn_any kk W
  have c19 := fun W => rkn_any kk W
  obtain ⟨K, hK⟩ : ∃ K, K = kd s := ⟨_, rfl⟩
  obtain ⟨B1, hB1⟩ : ∃ K, K = nmB s := ⟨_, rfl⟩
  obtain ⟨B2, hB2⟩ : ∃ K, K = mayT l := ⟨_, rfl⟩
  obtain ⟨I, hI⟩ : ∃ K, K = ix (tnames l) s := ⟨_, rfl⟩
  obtain ⟨S, hS⟩ : ∃ K, K = kn kk := ⟨_, rfl⟩
  rw [← hK] at c10 c11
  rw [← hB1] at c12 c13
  rw [← hB2] at c14 c15
  rw [← hI] at c16 c17
  rw [← hS] at c18 c19
  obtain ⟨B, hB⟩ : ∃ B, B = (K != 0) := ⟨_, rfl⟩
  unfold kdE at c10 c11
  rw [← hB] at c10 c11
  clear hK hB1 hB2 hI hS hB
  have HL := Lib.hid hl
  have HLw := Lib.hid hl
  obtain ⟨oa, c, rfl, a1, a2, a3⟩ := hl
  obtain ⟨N, hN⟩ : ∃ n, n = l.length := ⟨_, rfl⟩
  rw [← hN] at a1 HL HLw hg c14 c15 c16 c17 ⊢
  unfold maxLen at a2
  have HN := Lib.hid hN
  have HA := Lib.hid a3
  have HO := Lib.hid (Old.refl w)
  clear hN a3
  go_enter Try.func3, Try.ntmps3
  go_wp2_with (first
    | (go_at_call 8; (with_reducible refine (hg _ HL.out).mono ?_); rintro e0 w0 ⟨b, rfl, hb, rfl⟩; clear hb; cases b)
    | (go_at_call 9; (with_reducible refine (hk _).mono ?_); rintro e1 w1 ⟨rfl, o1⟩; replace HO := Lib.hid (HO.out.trans o1))
    | (go_at_call 10; (with_reducible refine (c10 _).mono ?_); rintro e2 w2 ⟨rfl, rfl⟩)
    | (go_at_call 11; (with_reducible refine (c11 _).mono ?_); rintro e3 w3 ⟨rfl, rfl⟩)
    | (go_at_call 12; (with_reducible refine (c12 _).mono ?_); rintro e4 w4 ⟨rfl, o4⟩; replace HO := Lib.hid (HO.out.trans o4); replace HL := Lib.hid (HL.out.old o4); clear o4)
    | (go_at_call 13; (with_reducible refine (c13 _).mono ?_); rintro e5 w5 ⟨rfl, o5⟩; replace HO := Lib.hid (HO.out.trans o5); replace HL := Lib.hid (HL.out.old o5); clear o5)
    | (go_at_call 14; (with_reducible refine (c14 _ HL.out).mono ?_); rintro e6 w6 ⟨rfl, o6⟩; replace HO := Lib.hid (HO.out.trans o6); replace HL := Lib.hid (HL.out.old o6); clear o6)
    | (go_at_call 15; (with_reducible refine (c15 _ HL.out).mono ?_); rintro e7 w7 ⟨rfl, o7⟩; replace HO := Lib.hid (HO.out.trans o7); replace HL := Lib.hid (HL.out.old o7); clear o7)
    | (go_at_call 16; (with_reducible refine (c16 _ HL.out).mono ?_); rintro e8 w8 ⟨rfl, o8⟩; replace HO := Lib.hid (HO.out.trans o8); replace HL := Lib.hid (HL.out.old o8); clear o8)
    | (go_at_call 17; (with_reducible refine (c17 _ HL.out).mono ?_); rintro e9 w9 ⟨rfl, rfl⟩)
    | (go_at_call 18; (with_reducible refine (c18 _).mono ?_); rintro e10 w10 ⟨rfl, rfl⟩)
    | (go_at_call 19; (with_reducible refine (c19 _).mono ?_); rintro e11 w11 ⟨rfl, rfl⟩))
  · clear c10 c11 c12 c13 c14 c15 c16 c17 c18 c19 hg
    go_loopw [70] (fun i wr => ∃ k : Nat, k ≤ N ∧ i = .int .i64 (k : Int) ∧ Hid (Old w wr)) (fun i _ => (N - intOf i).toNat)
    case atStart => exact ⟨0, Nat.zero_le _, rfl, HO⟩
    case round =>
      obtain ⟨k, hkk, rfl, HW⟩ := hrel
      by_cases hkn : k < N
      · obtain ⟨x, hx⟩ : ∃ x, l[k]? = some x := ⟨l[k]'(by rw [← HN.out]; exact hkn), List.getElem?_eq_getElem _⟩
        obtain ⟨xn, xv, xl⟩ := x
        obtain ⟨g, o, rfl, hgl, c0, c1, hss, hsr⟩ := HA.out k _ hx
        obtain ⟨sa, sc, hv, _⟩ := id hsr
        obtain ⟨M, hM⟩ : ∃ M, M = xl.length := ⟨_, rfl⟩
        simp only at hv hsr c0 c1
        rw [← hM] at hv
        subst hv
        have D0 := Lib.hid ((HW.out.cell hgl).trans c0)
        have D1 := Lib.hid ((HW.out.cell hgl).trans c1)
        have GL := Lib.hid (Nat.lt_of_lt_of_le hgl HW.out.size)
        have HSR := Lib.hid (hsr.old HW.out)
        have hs1 := fun W hW => slot_any xl xn (.slice sa M sc) s W hW
        have hs2 := fun W hW => rslot_any xl xn (.slice sa M sc) s W hW
        obtain ⟨r, hr⟩ : ∃ r, r = ix (snames xl) s := ⟨_, rfl⟩
        rw [← hr] at hs1 hs2
        clear hM hx hss hsr c0 c1 hgl hr
        go_upto_region 10 with fail
        refine wp_region_inv (spOf [.eq (.slice (some ⟨g, o, none⟩) N c), .eq (.int .i64 (k : Int)), .eq (.pointer (some ⟨g, o + k * 2, none⟩)), .eq (tv xn (.slice sa M sc)), .eq (.string s), .eq (.int .i64 r), .eq (.slice (some ⟨g, o, none⟩) N c), .eq (.int .i64 (k : Int)), .eq (.pointer (some ⟨g, o + k * 2, none⟩)), .eq (tv xn (.slice sa M sc)), .eq (.string s), .eq (.int .i64 r), .eq (.bool false)]) (by kernel_rfl) (by kernel_rfl) (spOf_mono _) ?_ ?_
        · refine ⟨?_, ?_, ?_, ?_, ?_, ?_, ?_, ?_, ?_, ?_, ?_, ?_, ?_, trivial⟩
          · refine step_plain rfl fun ρ w2 ho hr hd => ?_
            have x0 : ρ (.tmp 0) = .slice (some ⟨g, o, none⟩) N c := (hr.1 0 rfl).trans rfl
            exact does_move rfl x0 ⟨rfl, Old.refl _⟩
          · refine step_plain rfl fun ρ w2 ho hr hd => ?_
            have x0 : ρ (.tmp 11) = .int .i64 (k : Int) := (hr.1 11 rfl).trans rfl
            exact does_move rfl x0 ⟨rfl, Old.refl _⟩
          · refine step_plain rfl fun ρ w2 ho hr hd => ?_
            obtain ⟨h0, h1, _⟩ := hd
            have x0 : ρ (.tmp 73) = .slice (some ⟨g, o, none⟩) N c := h0 rfl
            have y0 : ρ (.tmp 74) = .int .i64 (k : Int) := h1 rfl
            refine does_value (v := .pointer (some ⟨g, o + k * 2, none⟩)) (w' := w2) ?_ ⟨rfl, Old.refl _⟩
            unfold execOp
            simp only [x0, y0]
            go_simp
          · refine step_plain rfl fun ρ w2 ho hr hd => ?_
            obtain ⟨h0, _⟩ := hd
            have x0 : ρ (.tmp 75) = .pointer (some ⟨g, o + k * 2, none⟩) := h0 rfl
            have q0 := (ho.cell GL.out).trans D0.out
            have q1 := (ho.cell GL.out).trans D1.out
            refine does_value (v := tv xn (.slice sa M sc)) (w' := w2) ?_ ⟨rfl, Old.refl _⟩
            unfold execOp
            simp only [x0]
            go_simp
          · refine step_plain rfl fun ρ w2 ho hr hd => ?_
            have x0 : ρ (.tmp 1) = .string s := (hr.1 1 rfl).trans rfl
            exact does_move rfl x0 ⟨rfl, Old.refl _⟩
          · refine step_plain rfl fun ρ w2 ho hr hd => ?_
            obtain ⟨h0, h1, _⟩ := hd
            have x0 : ρ (.tmp 76) = tv xn (.slice sa M sc) := h0 rfl
            have x1 : ρ (.tmp 77) = .string s := h1 rfl
            exact does_call2 rfl (hr.2.2.2 _) x0 x1 rfl ((hs1 w2 (HSR.out.old ho)).mono fun e w' h => ⟨_, h.1, rfl, h.2⟩)
          · refine step_plain rfl fun ρ w2 ho hr hd => ?_
            have x0 : ρ (.tmp 0) = .slice (some ⟨g, o, none⟩) N c := (hr.1 0 rfl).trans rfl
            exact does_move rfl x0 ⟨rfl, Old.refl _⟩
          · refine step_plain rfl fun ρ w2 ho hr hd => ?_
            have x0 : ρ (.tmp 11) = .int .i64 (k : Int) := (hr.1 11 rfl).trans rfl
            exact does_move rfl x0 ⟨rfl, Old.refl _⟩
          · refine step_plain rfl fun ρ w2 ho hr hd => ?_
            obtain ⟨h0, h1, _⟩ := hd
            have x0 : ρ (.tmp 79) = .slice (some ⟨g, o, none⟩) N c := h0 rfl
            have y0 : ρ (.tmp 80) = .int .i64 (k : Int) := h1 rfl
            refine does_value (v := .pointer (some ⟨g, o + k * 2, none⟩)) (w' := w2) ?_ ⟨rfl, Old.refl _⟩
            unfold execOp
            simp only [x0, y0]
            go_simp
          · refine step_plain rfl fun ρ w2 ho hr hd => ?_
            obtain ⟨h0, _⟩ := hd
            have x0 : ρ (.tmp 81) = .pointer (some ⟨g, o + k * 2, none⟩) := h0 rfl
            have q0 := (ho.cell GL.out).trans D0.out
            have q1 := (ho.cell GL.out).trans D1.out
            refine does_value (v := tv xn (.slice sa M sc)) (w' := w2) ?_ ⟨rfl, Old.refl _⟩
            unfold execOp
            simp only [x0]
            go_simp
          · refine step_plain rfl fun ρ w2 ho hr hd => ?_
            have x0 : ρ (.tmp 1) = .string s := (hr.1 1 rfl).trans rfl
            exact does_move rfl x0 ⟨rfl, Old.refl _⟩
          · refine step_plain rfl fun ρ w2 ho hr hd => ?_
            obtain ⟨h0, h1, h2, _⟩ := hd
            have x0 : ρ (.tmp 82) = tv xn (.slice sa M sc) := h0 rfl
            have x1 : ρ (.tmp 83) = .string s := h1 rfl
            exact does_call2 rfl (hr.2.2.2 _) x0 x1 rfl ((hs2 w2 (HSR.out.old ho)).mono fun e w' h => ⟨_, h.1, rfl, h.2⟩)
          · refine step_plain rfl fun ρ w2 ho hr hd => ?_
            obtain ⟨h0, h1, _⟩ := hd
            have x0 : ρ (.tmp 78) = .int .i64 r := h0 rfl
            have y0 : ρ (.tmp 84) = .int .i64 r := h1 rfl
            refine does_value (v := .bool false) (w' := w2) ?_ ⟨rfl, Old.refl _⟩
            unfold execOp
            simp only [x0, y0]
            go_simp
        · intro a' w' hoE hst hl
          obtain ⟨_, _, _, _, _, _, _, _, _, _, _, _, k12, _⟩ := hl
          have e12 : a'.eval (.tmp 85) = .bool false := k12
          rw [act_fresh hst [false, false, false, false, false, false, false, false, false, false, false, false, false, false, false, false, false, false, false, false, false, false, false, false, false, false, false, false, false, false, false, false, false, false, false, false, false, false, false, false, false, false, false, false, false, false, false, false, false, false, false, false, false, false, false, false, false, false, false, false, false, false, false, false, false, false, false, false, false, false, false, false, false, true, true, true, true, true, true, true, true, true, true, true, true, true, false, false] (by kernel_rfl) (by kernel_rfl)]
          simp only [fresh, e12]
          clear hst k12 e12
          have HQ := Lib.hid (HW.out.trans hoE)
          clear hoE
          go_wp2_with fail
          first
            | refine ⟨⟨k + 1, hkn, rfl, HQ⟩, by simp only [intOf]; omega⟩
            | refine ⟨⟨k + 1, hkn, by omega⟩, by simp only [intOf]; omega⟩
      · have hkn' : k = N := by omega
        subst hkn'
        go_wp2_with (go_at_call 9; (with_reducible refine (hk _).mono ?_); rintro e1 w1 ⟨rfl, o1⟩)
        go_ret
        exact ⟨rfl, HW.out.trans o1⟩
  · go_ret
    exact ⟨rfl, HO.out⟩
theorem may_all (l : List Tp) (v : Value) (s : ByteArray) (kk : Int) (w : World) (hl : TR w v l) : Calls Try.prog 3 #[v, .string s, .int .u8 kk] w fun e w' => e = .returned (.bool true) ∧ Old w w' := by
  by_cases h : 100 < s.size
  · exact may_long l v s kk w hl h
  · exact may_short l v s kk w hl (by omega)
end Go.Proofs.Ytcedcfkjoppjdaa
