/- Layer memory: whatever is added, removed, copied (MemoryPlays). -/
import Derived.Test.YtfhbnkdibhmmcaaST
import Derived.Deep.CutRange
import Derived.Deep.CutBlock
namespace Go.Proofs.Ytfhbnkdibhmmcaa
open Go.ChangeShapes Go.WideShapes Go.ChangeAt Go.RowKit Go.Lib
set_option linter.unusedVariables false
set_option linter.unusedSimpArgs false
set_option maxRecDepth 100000

theorem addS_len (lim : Nat) (s : St) (t : Int) (l : List Vl) : (addS lim s t l).last ≤ s.last + 1 := addS_last lim s t l

set_option maxHeartbeats 4000000 in
theorem plays_any (lim : Int) (l : List Ox) (v : Value) (id t : Int) (u : Value) (ls : List Vl) (w : World) (hl : OR w v l) (hu : VR w u ls) (hid : I64 id) :
    Calls Try.prog 3 #[.int .i64 lim, v, .int .i64 id, .int .i64 t, u] w fun e w' => e = .returned (.bool true) ∧ Old w w' := by
  have HU := Lib.hid hu
  have HI := Lib.hid hid
  obtain ⟨oa, c0, rfl, a1, a2, a3⟩ := hl
  obtain ⟨n, hn⟩ : ∃ n, n = l.length := ⟨_, rfl⟩
  rw [← hn] at a1 ⊢
  unfold maxLen at a2
  have HN := Lib.hid hn
  have HA := Lib.hid a3
  obtain ⟨ou, cu, rfl, u1, u2, _⟩ := hu
  obtain ⟨N0, hN0⟩ : ∃ n, n = ls.length := ⟨_, rfl⟩
  rw [← hN0] at u1 HU ⊢
  unfold maxLen at u2
  clear hn hid a3 hN0
  by_cases h100 : 100 < n
  · go_enter Try.func3, Try.ntmps3
    go_wp2_with (go_at_call 9; (with_reducible refine (known_any _).mono ?_); rintro e w9 ⟨rfl, ho⟩)
    go_ret
    exact ⟨rfl, ho⟩
  by_cases h10 : 10 < N0
  · go_enter Try.func3, Try.ntmps3
    go_wp2_with (go_at_call 9; (with_reducible refine (known_any _).mono ?_); rintro e w9 ⟨rfl, ho⟩)
    go_ret
    exact ⟨rfl, ho⟩
  by_cases hb : lim < 1 ∨ 200 < lim
  · have HB := Lib.hid hb
    rcases hb with hb | hb
    · go_enter Try.func3, Try.ntmps3
      go_wp2_with (first
        | (go_at_call 10; (with_reducible refine (new_bad _ HB.out _).mono ?_); rintro e w1 ⟨rfl, rfl⟩)
        | (go_at_call 9; (with_reducible refine (known_any _).mono ?_); rintro e w9 ⟨rfl, ho⟩))
      go_ret
      exact ⟨rfl, ho⟩
    · have hb2 : ¬ lim < 1 := by omega
      go_enter Try.func3, Try.ntmps3
      go_wp2_with (first
        | (go_at_call 10; (with_reducible refine (new_bad _ HB.out _).mono ?_); rintro e w1 ⟨rfl, rfl⟩)
        | (go_at_call 9; (with_reducible refine (known_any _).mono ?_); rintro e w9 ⟨rfl, ho⟩))
      go_ret
      exact ⟨rfl, ho⟩
  obtain ⟨LIM, hL⟩ : ∃ k : Nat, lim = (k : Int) := ⟨lim.toNat, by omega⟩
  subst hL
  have hb1 : 1 ≤ LIM := by omega
  have hb2 : LIM ≤ 200 := by omega
  have HB1 := Lib.hid hb1
  have HB2 := Lib.hid hb2
  have H100 := Lib.hid h100
  clear hb
  go_enter Try.func3, Try.ntmps3
  go_wp2_with (go_at_call 10; (with_reducible refine (new_lim LIM HB1.out HB2.out _).mono ?_); rintro e w1 ⟨⟨p0, b0, rfl, hM, hp, hb⟩, ho⟩; have R0 := Lib.hid (Ps.start hM ho hp hb); clear hM hp hb ho)
  clear hb1 hb2 HB1 HB2
  go_loopw [11, 13, 78] (fun mv qv i wr => ∃ k : Nat, k ≤ n ∧ i = .int .i64 (k : Int) ∧ ∃ p b q s r, mv = .pointer (some ⟨p, 0, none⟩) ∧ qv = .pointer (some ⟨q, 0, none⟩) ∧ Hid (Ps w LIM p b q s r wr) ∧ Hid (s.last ≤ k)) (fun _ _ i _ => (n - intOf i).toNat)
  case atStart => exact ⟨0, Nat.zero_le _, rfl, p0, b0, _, _, _, rfl, rfl, R0, Lib.hid (Nat.le_refl _)⟩
  case round =>
    obtain ⟨k, hk, rfl, p, b, q, s, r, rfl, rfl, PS, SL⟩ := hrel
    clear R0
    by_cases hkn : k < n
    · obtain ⟨x, hx⟩ : ∃ x, l[k]? = some x := ⟨l[k]'(by rw [← HN.out]; exact hkn), List.getElem?_eq_getElem _⟩
      obtain ⟨g, o, rfl, hgl, c0, c1, c2, c3, hv, hx0, hx1, hx2⟩ := HA.out k x hx
      have HO := Lib.hid PS.out.old
      replace c0 := (HO.out.cell hgl).trans c0
      replace c1 := (HO.out.cell hgl).trans c1
      replace c2 := (HO.out.cell hgl).trans c2
      replace c3 := (HO.out.cell hgl).trans c3
      obtain ⟨K, T, D, xv, xl⟩ := x
      simp only at c0 c1 c2 c3 hv hx0 hx1 hx2
      obtain ⟨ua, uc, rfl, ul1, ul2, _⟩ := _root_.id hv
      unfold maxLen at ul2
      have VV := Lib.hid hv
      have HD2 := Lib.hid hx2
      obtain ⟨N, hN⟩ : ∃ N, N = xl.length := ⟨_, rfl⟩
      rw [← hN] at c3 VV ul1
      have HNN := Lib.hid hN
      have OB := Lib.hid (Ob.new wr ⟨K, T, D, .slice ua N uc, xl⟩)
      have O1 := Lib.hid ((Old.refl wr).alloc (.cells #[.int .i64 K, .int .i64 T, .int .i64 D, .slice ua N uc] 34))
      have HKN := Lib.hid hkn
      clear hv hN hx hx0 hx1 hx2 hgl
      by_cases hN10 : 10 < N
      · go_wp2_with (go_at_call 9; (with_reducible refine (known_any _).mono ?_); rintro e w9 ⟨rfl, ho⟩; replace HO := Lib.hid ((HO.out.trans O1.out).trans ho); clear ho)
        go_ret
        exact ⟨rfl, HO.out⟩
      have X10 := Lib.hid (show xl.length ≤ 10 by have := HNN.out; omega)
      have O2 := Lib.hid (O1.out.alloc (.cells #[] 45))
      have own0 := own_low (own_none (wr.alloc (.cells #[.int .i64 K, .int .i64 T, .int .i64 D, .slice ua N uc] 34)) 45 3) (base' := wr.heap.size) O1.out.size
      rw [sz_alloc] at own0
      have OWN0 := Lib.hid own0
      have CR0 := Lib.hid (show CR _ _ N 3 (vcells xl) by have := (VV.out.old (HO.out.trans O2.out)).cr; rwa [← HNN.out] at this)
      have OB2 := Lib.hid (OB.out.old ((Old.refl _).alloc (.cells #[] 45)))
      obtain ⟨k0, k1, k2, k3⟩ := (⟨OB2.out.c0, OB2.out.c1, OB2.out.c2, OB2.out.c3⟩ : _ ∧ _ ∧ _ ∧ _)
      obtain ⟨m0, m1, m2, m3⟩ := (⟨OB.out.c0, OB.out.c1, OB.out.c2, OB.out.c3⟩ : _ ∧ _ ∧ _ ∧ _)
      obtain ⟨i5, hi5, hz5, hsz5, hby5⟩ := info_parts info45
      have L1 := Lib.hid (show (0 + N) * 32 ≤ 140737488355328 by omega)
      have L2 := Lib.hid (show 0 + N ≤ maxLen by unfold maxLen; omega)
      clear own0
      go_upto_block 2 with (at_builtin; refine wpList_appC _ rfl _ _ 23 rfl wr.heap.size 45 i5 _ 3 32 Try.underlying23 hi5 hz5 hsz5 hby5 rfl (Nat.zero_lt_succ 2) (.slice (some ⟨wr.heap.size + 1, 0, none⟩) 0 0) 0 [] rfl OWN0.out (.slice ua N uc) N (vcells xl) rfl CR0.out (vcells_one xl) L1.out L2.out O2.out.size ?_; intro v2 w2 hown hgr _; rw [Nat.zero_add, List.nil_append] at hown; have O3 := Lib.hid (O2.out.grown hgr (fun k e => by cases e; exact Nat.le_succ _)); have OB3 := Lib.hid (ob_grown OB2.out hgr (fun k e => by cases e; exact Nat.ne_of_lt (Nat.lt_succ_self wr.heap.size))); have IN2 := Lib.hid hown; obtain ⟨oi, ci, rfl⟩ := own_shape hown; clear hown hgr k0 k1 k2 k3; obtain ⟨k0, k1, k2, k3⟩ := (⟨OB3.out.c0, OB3.out.c1, OB3.out.c2, OB3.out.c3⟩ : _ ∧ _ ∧ _ ∧ _))
      obtain ⟨kk, hk1, hk2, hk3⟩ := in_kk IN2.out (blk_lt OB3.out)
      have PM := Lib.hid (PS.out.pm (lim := LIM) O3.out hk1 hk2 (NC.own IN2.out hk3) OB3.out (Nat.le_refl _) ((CR.owned IN2.out).vr' HNN.out VV.out.lim))
      have VVW := Lib.hid VV.out
      have HONE := Lib.hid PM.out.ones
      have HLEN := Lib.hid PM.out.len
      have SL0 := Lib.hid (show s.last < 1000000 by have := SL.out; have := H100.out; omega)
      have SLD := Lib.hid (show (delS s D).last < 1000000 from SL0.out)
      have BXK := Lib.hid (show w.heap.size ≤ wr.heap.size from HO.out.size)
      clear m0 m1 m2 m3 c0 c1 c2 c3 hk1 hk2 hk3 O1 O2 O3 OWN0 CR0 OB OB2 IN2 PS L1 L2 VV hi5 hz5 hsz5 hby5
      go_cut [11, 13, 17, 18, 19, 20, 21, 22, 23, 24, 25, 26, 27, 28] from 93 to 172 (fun mv qv y17 y18 y19 y20 y21 y22 y23 y24 y25 y26 y27 y28 wx => ∃ p b q s r, mv = .pointer (some ⟨p, 0, none⟩) ∧ qv = .pointer (some ⟨q, 0, none⟩) ∧ Hid (Pm w kk LIM N (.slice oi N ci) wr.heap.size ⟨K, T, D, .slice ua N uc, xl⟩ p b q s s r wx) ∧ Hid (s.last ≤ k + 1))
      case first =>
        by_cases hK1 : K = 1
        · subst hK1
          obtain ⟨ai, af, ae, hAR⟩ := addR_at LIM s T xl
          have HAR := Lib.hid hAR
          clear hAR
          go_wp2_with (first
            | (go_at_call 11; (with_reducible refine (add_m PM.out PM.out.vi X10.out SL0.out HAR.out).mono ?_); rintro e w3 ⟨rfl, h3⟩; have P3 := Lib.hid h3; clear h3; have e1 := P3.out.bx.c1; have e3 := P3.out.bx.c3)
            | (go_at_call 12; (with_reducible refine (add_d P3.out HONE.out HLEN.out (VVW.out.old P3.out.old) X10.out SL0.out HAR.out).mono ?_); rintro e w4 ⟨rfl, r4, h4⟩; have P4 := Lib.hid h4; clear h4))
          go_meet
          exact ⟨p, b, q, _, r4, rfl, rfl, P4, Lib.hid (Nat.le_trans (addS_last LIM s T xl) (Nat.succ_le_succ SL.out))⟩
        have hK1b : (K == 1) = false := by simpa using hK1
        by_cases hK2 : K = 2
        · subst hK2
          obtain ⟨X, hX⟩ : ∃ X, (getOf s.L D).getD noFt = X := ⟨_, rfl⟩
          obtain ⟨G, hG⟩ : ∃ X, (getOf s.L D).isSome = X := ⟨_, rfl⟩
          have HX := Lib.hid hX
          have HG := Lib.hid hG
          clear hX hG
          go_wp2_with (first
            | (go_at_call 13; (with_reducible refine (rem_m PM.out HD2.out HX.out HG.out).mono ?_); rintro e w3 ⟨⟨oa3, c3, rfl, hv3⟩, h3⟩; have P3 := Lib.hid (h3.on ((Old.refl _).alloc (.cells #[.int .i64 X.id, .int .i64 X.t, .slice oa3 X.l.length c3] 38))); have V3 := Lib.hid (hv3.old ((Old.refl _).alloc (.cells #[.int .i64 X.id, .int .i64 X.t, .slice oa3 X.l.length c3] 38))); have F3 := Lib.hid (Fb.new w3 (.int .i64 X.id) (.int .i64 X.t) (.slice oa3 X.l.length c3)); have N3 := Lib.hid (show w3.heap.size ≠ q from fun e => by have := blk_lt h3.dx.obj; omega); clear h3 hv3; have e2 := P3.out.bx.c2)
            | (go_at_call 14; (with_reducible refine (rem_d P3.out HLEN.out HX.out HG.out).mono ?_); rintro e w4 ⟨⟨oa4, c4, rfl, hv4⟩, ⟨r4, h4⟩, hVR, hFB⟩; have P4 := Lib.hid (h4.on ((Old.refl _).alloc (.cells #[.int .i64 X.id, .int .i64 X.t, .slice oa4 X.l.length c4] 38))); have V4 := Lib.hid (hv4.old ((Old.refl _).alloc (.cells #[.int .i64 X.id, .int .i64 X.t, .slice oa4 X.l.length c4] 38))); have V3b := Lib.hid ((hVR _ _ V3.out).old ((Old.refl _).alloc (.cells #[.int .i64 X.id, .int .i64 X.t, .slice oa4 X.l.length c4] 38))); have F3b := Lib.hid ((hFB _ _ _ _ F3.out N3.out).old ((Old.refl _).alloc (.cells #[.int .i64 X.id, .int .i64 X.t, .slice oa4 X.l.length c4] 38))); have F4 := Lib.hid (Fb.new w4 (.int .i64 X.id) (.int .i64 X.t) (.slice oa4 X.l.length c4)); clear h4 hv4 hVR hFB; have a0 := F3b.out.c0; have a1 := F3b.out.c1; have a2 := F3b.out.c2; have b0 := F4.out.c0; have b1 := F4.out.c1; have b2 := F4.out.c2)
            | (go_at_call 15; (with_reducible refine (fact_any V3b.out V4.out).mono ?_); rintro e w5 ⟨rfl, ho⟩; have P5 := Lib.hid (P4.out.on ho); clear ho))
          go_meet
          exact ⟨p, b, q, _, r4, rfl, rfl, P5, Lib.hid (Nat.le_succ_of_le SL.out)⟩
        have hK2b : (K == 2) = false := by simpa using hK2
        by_cases hK3 : K = 3
        · subst hK3
          go_wp2_with (first
            | (go_at_call 16; (with_reducible refine (copy_m PM.out).mono ?_); rintro e w3 ⟨p', b', rfl, h3⟩; have Q3 := Lib.hid h3; clear h3; have e2 := Q3.out.pm.bx.c2)
            | (go_at_call 13; (with_reducible refine (rem_pm Q3.out HD2.out).mono ?_); rintro e w4 ⟨⟨u4, f4, rfl⟩, h4⟩; have Q4 := Lib.hid h4; clear h4)
            | (go_at_call 17; (with_reducible refine (copy_d Q4.out HLEN.out).mono ?_); rintro e w5 ⟨q', r', rfl, h5⟩; have P5 := Lib.hid h5; clear h5))
          go_meet
          exact ⟨p', b', q', _, r', rfl, rfl, P5, Lib.hid (Nat.le_succ_of_le SL.out)⟩
        have hK3b : (K == 3) = false := by simpa using hK3
        by_cases hK4 : K = 4
        · subst hK4
          go_wp2_with (first
            | (go_at_call 16; (with_reducible refine (copy_m PM.out).mono ?_); rintro e w3 ⟨p', b', rfl, h3⟩; have Q3 := Lib.hid h3; clear h3; have e2 := Q3.out.pm.bx.c2)
            | (go_at_call 13; (with_reducible refine (rem_pc Q3.out HD2.out).mono ?_); rintro e w4 ⟨⟨u4, f4, rfl⟩, h4⟩; have Q4 := Lib.hid h4; clear h4; have g1 := Q4.out.pm.bx.c1)
            | (go_at_call 11; (with_reducible refine (add_pc Q4.out Q4.out.pm.vi X10.out SLD.out).mono ?_); rintro e w5 ⟨⟨i5, f5, e5, rfl⟩, h5⟩; have P5 := Lib.hid h5.pm; clear h5))
          go_meet
          exact ⟨p, b, q, _, r, rfl, rfl, P5, Lib.hid (Nat.le_succ_of_le SL.out)⟩
        have hK4b : (K == 4) = false := by simpa using hK4
        go_wp2
        go_meet
        exact ⟨p, b, q, _, r, rfl, rfl, PM, Lib.hid (Nat.le_succ_of_le SL.out)⟩
      case rest =>
        obtain ⟨p, b, q, s, r, rfl, rfl, PM2, SL2⟩ := hcut
        clear PM SL SL0 SLD HONE HLEN VVW X10 BXK HD2 OB3 k0 k1 k2 k3 HO
        go_wp2
        go_loopw [175] (fun i wy => ∃ j : Nat, j ≤ N ∧ i = .int .i64 (j : Int) ∧ Hid (Shp (· = kk) wc wy)) (fun i _ => (N - intOf i).toNat)
        case atStart => exact ⟨0, Nat.zero_le _, rfl, Lib.hid (Shp.refl _ _)⟩
        case round =>
          obtain ⟨j, hj, rfl, HS⟩ := hrel
          by_cases hjn : j < N
          · obtain ⟨oi', ci', e, h1⟩ := PM2.out.inn.shp HS.out
            simp only [Value.slice.injEq, true_and] at e
            obtain ⟨rfl, rfl⟩ := e
            obtain ⟨g', o', rfl, hgk, hgl, ⟨z, hz⟩, hf⟩ := h1 j hjn
            have HJ := Lib.hid hjn
            have HGK := Lib.hid hgk
            have HZH := Lib.hid hz
            clear h1 hgl hgk
            go_wp2
            exact ⟨⟨j + 1, HJ.out, by first | rfl | simp, Lib.hid (HS.out.set HGK.out HZH.out _)⟩, by simp only [intOf]; omega⟩
          · have hjn' : j = N := by omega
            have PS := Lib.hid (PM2.out.shp HS.out)
            clear PM2 HS
            subst hjn'
            obtain ⟨X, hX⟩ : ∃ X, (getOf s.L id).getD noFt = X := ⟨_, rfl⟩
            obtain ⟨G, hG⟩ : ∃ X, (getOf s.L id).isSome = X := ⟨_, rfl⟩
            obtain ⟨FI, hFI⟩ : ∃ X, idOf s.L t ls = X := ⟨_, rfl⟩
            obtain ⟨od, cd, hr⟩ := PS.out.doc.list
            subst hr
            have HX := Lib.hid hX
            have HG := Lib.hid hG
            have HFI := Lib.hid hFI
            have hX10 := PS.out.mem.ten' hX
            have hcap := PS.out.mem.cap
            have HO := Lib.hid (Old.refl wr)
            obtain ⟨BB, hBB⟩ : ∃ B, B = wr.heap.size := ⟨_, rfl⟩
            have HBB := Lib.hid hBB
            clear hBB
            clear hX hG hFI
            go_wp2_with (first
              | (go_at_call 18; (with_reducible refine (get_m PS.out.mem HI.out HX.out HG.out).mono ?_); rintro e w5 ⟨⟨oa5, c5, rfl, hv5, hn5⟩, ho⟩; have V5 := Lib.hid (hv5.old ((Old.refl _).alloc (.cells #[.int .i64 X.id, .int .i64 X.t, .slice oa5 X.l.length c5] 38))); have N5 := Lib.hid ((hn5.mono (T := fun g => BB ≤ g) (fun b e => by rw [HBB.out]; exact e)).old ((Old.refl _).alloc (.cells #[.int .i64 X.id, .int .i64 X.t, .slice oa5 X.l.length c5] 38))); have F5 := Lib.hid (Fb.new w5 (.int .i64 X.id) (.int .i64 X.t) (.slice oa5 X.l.length c5)); replace HO := Lib.hid (HO.out.trans (ho.trans ((Old.refl _).alloc (.cells #[.int .i64 X.id, .int .i64 X.t, .slice oa5 X.l.length c5] 38)))); have PS5 := Lib.hid (PS.out.on HO.out); clear hv5 hn5 ho)
              | (go_at_call 19; (with_reducible refine (get_d PS5.out.doc HX.out HG.out).mono ?_); rintro e w6 ⟨⟨oa6, c6, rfl, hv6⟩, ho⟩; have V6 := Lib.hid (hv6.old ((Old.refl _).alloc (.cells #[.int .i64 X.id, .int .i64 X.t, .slice oa6 X.l.length c6] 38))); have F6 := Lib.hid (Fb.new w6 (.int .i64 X.id) (.int .i64 X.t) (.slice oa6 X.l.length c6)); have O5 := Lib.hid (ho.trans ((Old.refl _).alloc (.cells #[.int .i64 X.id, .int .i64 X.t, .slice oa6 X.l.length c6] 38))); replace HO := Lib.hid (HO.out.trans O5.out); have PS6 := Lib.hid (PS.out.on HO.out); clear hv6 ho)
              | (go_at_call 20; (with_reducible refine (told_m PS6.out.mem).mono ?_); rintro e w7 ⟨⟨oa7, c7, rfl, hr7⟩, ho⟩; have H6 := Lib.hid HO.out.size; have O6 := Lib.hid ho; replace O5 := Lib.hid (O5.out.trans ho); replace HO := Lib.hid (HO.out.trans ho); have PS7 := Lib.hid (PS.out.on HO.out); have R7 := Lib.hid hr7; clear hr7 ho))
            replace V5 := Lib.hid (V5.out.old O5.out)
            replace N5 := Lib.hid (N5.out.old O5.out)
            replace F5 := Lib.hid (F5.out.old O5.out)
            replace V6 := Lib.hid (V6.out.old O6.out)
            replace F6 := Lib.hid (F6.out.old O6.out)
            have RF7 := Lib.hid R7.out.rf
            have RFD := Lib.hid PS7.out.doc.rx.rf
            have NA7 := Lib.hid (R7.out.na.mono (T := fun g => BB ≤ g) (fun b e => by rw [HBB.out]; exact Nat.le_trans H6.out e))
            have VU7 := Lib.hid (HU.out.old PS7.out.old)
            have LF5 := Lib.hid F5.out.lt
            have LF6 := Lib.hid F6.out.lt
            have LQ := Lib.hid (blk_lt PS7.out.doc.obj)
            have DC := Lib.hid (obj_cells PS7.out.doc.obj)
            clear PS5 PS6 R7 O5 O6 H6
            refine wp_region_inv (spOf [.eq (.agg #[.int .i64 X.id, .int .i64 X.t, .slice oa5 X.l.length c5]), .eq (.bool G), .eq (.agg #[.int .i64 X.id, .int .i64 X.t, .slice oa6 X.l.length c6]), .eq (.bool G), .eq (.bool true), .eq (.bool false), .eq (.bool false), .eq (.pointer (some ⟨p, 0, none⟩)), .eq (.int .i64 t), .eq (.slice ou N0 cu), .eq (.int .i64 FI), .eq (.pointer (some ⟨q, 0, none⟩)), .eq (.int .i64 t), .eq (.slice ou N0 cu), .eq (.int .i64 FI), .eq (.bool false), .eq (.bool false), .eq (.bool false), .eq (.slice oa7 s.L.length c7), .eq (.pointer (some ⟨q, 0, none⟩)), .eq (.pointer (some ⟨q, 0, none⟩)), .eq (.pointer (some ⟨q, 2, none⟩)), .eq (.slice od s.L.length cd), .eq (.bool true), .eq (.bool false), .eq (.bool false), .eq (.bool false), .eq (.pointer (some ⟨p, 0, none⟩)), .eq (.int .i64 (s.L.length : Int)), .eq (.pointer (some ⟨q, 0, none⟩)), .eq (.pointer (some ⟨q, 0, none⟩)), .eq (.pointer (some ⟨q, 2, none⟩)), .eq (.slice od s.L.length cd), .eq (.int .i64 (s.L.length : Int)), .eq (.bool false), .eq (.bool false), .eq (.bool false), .eq (.pointer (some ⟨p, 0, none⟩)), .eq (.int .i64 (s.last : Int)), .eq (.pointer (some ⟨q, 0, none⟩)), .eq (.pointer (some ⟨q, 0, none⟩)), .eq (.pointer (some ⟨q, 1, none⟩)), .eq (.int .i64 (s.last : Int)), .eq (.bool false), .eq (.bool false)]) (by kernel_rfl) (by kernel_rfl) (spOf_mono _) ?_ ?_
            · refine ⟨?_, ?_, ?_, ?_, ?_, ?_, ?_, ?_, ?_, ?_, ?_, ?_, ?_, ?_, ?_, ?_, ?_, ?_, ?_, ?_, ?_, ?_, ?_, ?_, ?_, ?_, ?_, ?_, ?_, ?_, ?_, ?_, ?_, ?_, ?_, ?_, ?_, ?_, ?_, ?_, ?_, ?_, ?_, ?_, ?_, trivial⟩
              · refine step_plain rfl fun ρ w2 ho hr hd => ?_
                have x0 : ρ (.tmp 30) = .pointer (some ⟨w5.heap.size, 0, none⟩) := (hr.1 30 rfl).trans rfl
                have q0 := (ho.cell LF5.out).trans F5.out.c0
                have q1 := (ho.cell LF5.out).trans F5.out.c1
                have q2 := (ho.cell LF5.out).trans F5.out.c2
                refine does_value (v := .agg #[.int .i64 X.id, .int .i64 X.t, .slice oa5 X.l.length c5]) (w' := w2) ?_ ⟨rfl, Old.refl _⟩
                unfold execOp
                simp only [x0]
                go_simp
              · refine step_plain rfl fun ρ w2 ho hr hd => ?_
                have x0 : ρ (.tmp 31) = .bool G := (hr.1 31 rfl).trans rfl
                exact does_move rfl x0 ⟨rfl, Old.refl _⟩
              · refine step_plain rfl fun ρ w2 ho hr hd => ?_
                have x0 : ρ (.tmp 32) = .pointer (some ⟨w6.heap.size, 0, none⟩) := (hr.1 32 rfl).trans rfl
                have q0 := (ho.cell LF6.out).trans F6.out.c0
                have q1 := (ho.cell LF6.out).trans F6.out.c1
                have q2 := (ho.cell LF6.out).trans F6.out.c2
                refine does_value (v := .agg #[.int .i64 X.id, .int .i64 X.t, .slice oa6 X.l.length c6]) (w' := w2) ?_ ⟨rfl, Old.refl _⟩
                unfold execOp
                simp only [x0]
                go_simp
              · refine step_plain rfl fun ρ w2 ho hr hd => ?_
                have x0 : ρ (.tmp 33) = .bool G := (hr.1 33 rfl).trans rfl
                exact does_move rfl x0 ⟨rfl, Old.refl _⟩
              · refine step_plain rfl fun ρ w2 ho hr hd => ?_
                obtain ⟨h0, h1, h2, h3, _⟩ := hd
                have x0 : ρ (.tmp 201) = .agg #[.int .i64 X.id, .int .i64 X.t, .slice oa5 X.l.length c5] := h0 rfl
                have x1 : ρ (.tmp 202) = .bool G := h1 rfl
                have x2 : ρ (.tmp 203) = .agg #[.int .i64 X.id, .int .i64 X.t, .slice oa6 X.l.length c6] := h2 rfl
                have x3 : ρ (.tmp 204) = .bool G := h3 rfl
                exact does_call4 rfl (hr.2.2.2 _) x0 x1 x2 x3 rfl ((fact_any (V5.out.old ho) (V6.out.old ho)).mono fun e w' h => ⟨_, h.1, rfl, h.2⟩)
              · refine step_plain rfl fun ρ w2 ho hr hd => ?_
                obtain ⟨h0, _⟩ := hd
                have x0 : ρ (.tmp 205) = .bool true := h0 rfl
                refine does_value (v := .bool false) (w' := w2) ?_ ⟨rfl, Old.refl _⟩
                unfold execOp
                simp only [x0]
                go_simp
              · refine step_plain rfl fun ρ w2 ho hr hd => ?_
                obtain ⟨h0, h1, _⟩ := hd
                have x0 : ρ (.tmp 206) = .bool false := h0 rfl
                exact does_move rfl x0 ⟨rfl, Old.refl _⟩
              · refine step_guard rfl fun ρ w2 ho hr hd => ?_
                obtain ⟨h0, _⟩ := hd
                have hgd : ρ (.tmp 207) = .bool false := h0 rfl
                have x0 : ρ (.tmp 11) = .pointer (some ⟨p, 0, none⟩) := (hr.1 11 rfl).trans rfl
                refine ⟨hgd, ?_⟩
                exact does_move rfl x0 ⟨rfl, Old.refl _⟩
              · refine step_guard rfl fun ρ w2 ho hr hd => ?_
                obtain ⟨h0, _⟩ := hd
                have hgd : ρ (.tmp 207) = .bool false := h0 rfl
                have x0 : ρ (.tmp 3) = .int .i64 t := (hr.1 3 rfl).trans rfl
                refine ⟨hgd, ?_⟩
                exact does_move rfl x0 ⟨rfl, Old.refl _⟩
              · refine step_guard rfl fun ρ w2 ho hr hd => ?_
                obtain ⟨h0, _⟩ := hd
                have hgd : ρ (.tmp 207) = .bool false := h0 rfl
                have x0 : ρ (.tmp 4) = .slice ou N0 cu := (hr.1 4 rfl).trans rfl
                refine ⟨hgd, ?_⟩
                exact does_move rfl x0 ⟨rfl, Old.refl _⟩
              · refine step_guard rfl fun ρ w2 ho hr hd => ?_
                obtain ⟨h0, h1, h2, h3, h4, _⟩ := hd
                have hgd : ρ (.tmp 207) = .bool false := h4 rfl
                have x0 : ρ (.tmp 208) = .pointer (some ⟨p, 0, none⟩) := h0 rfl
                have x1 : ρ (.tmp 209) = .int .i64 t := h1 rfl
                have x2 : ρ (.tmp 210) = .slice ou N0 cu := h2 rfl
                refine ⟨hgd, ?_⟩
                exact does_call3 rfl (hr.2.2.2 _) x0 x1 x2 rfl ((fi_m PS7.out.mem VU7.out HFI.out ho).mono fun e w' h => ⟨_, h.1, rfl, h.2⟩)
              · refine step_guard rfl fun ρ w2 ho hr hd => ?_
                obtain ⟨h0, _⟩ := hd
                have hgd : ρ (.tmp 207) = .bool false := h0 rfl
                have x0 : ρ (.tmp 13) = .pointer (some ⟨q, 0, none⟩) := (hr.1 13 rfl).trans rfl
                refine ⟨hgd, ?_⟩
                exact does_move rfl x0 ⟨rfl, Old.refl _⟩
              · refine step_guard rfl fun ρ w2 ho hr hd => ?_
                obtain ⟨h0, _⟩ := hd
                have hgd : ρ (.tmp 207) = .bool false := h0 rfl
                have x0 : ρ (.tmp 3) = .int .i64 t := (hr.1 3 rfl).trans rfl
                refine ⟨hgd, ?_⟩
                exact does_move rfl x0 ⟨rfl, Old.refl _⟩
              · refine step_guard rfl fun ρ w2 ho hr hd => ?_
                obtain ⟨h0, _⟩ := hd
                have hgd : ρ (.tmp 207) = .bool false := h0 rfl
                have x0 : ρ (.tmp 4) = .slice ou N0 cu := (hr.1 4 rfl).trans rfl
                refine ⟨hgd, ?_⟩
                exact does_move rfl x0 ⟨rfl, Old.refl _⟩
              · refine step_guard rfl fun ρ w2 ho hr hd => ?_
                obtain ⟨h0, h1, h2, h3, h4, _⟩ := hd
                have hgd : ρ (.tmp 207) = .bool false := h4 rfl
                have x0 : ρ (.tmp 212) = .pointer (some ⟨q, 0, none⟩) := h0 rfl
                have x1 : ρ (.tmp 213) = .int .i64 t := h1 rfl
                have x2 : ρ (.tmp 214) = .slice ou N0 cu := h2 rfl
                refine ⟨hgd, ?_⟩
                exact does_call3 rfl (hr.2.2.2 _) x0 x1 x2 rfl ((fi_d PS7.out.doc VU7.out HFI.out ho).mono fun e w' h => ⟨_, h.1, rfl, h.2⟩)
              · refine step_guard rfl fun ρ w2 ho hr hd => ?_
                obtain ⟨h0, h1, h2, _⟩ := hd
                have hgd : ρ (.tmp 207) = .bool false := h2 rfl
                have x0 : ρ (.tmp 211) = .int .i64 FI := h0 rfl
                have y0 : ρ (.tmp 215) = .int .i64 FI := h1 rfl
                refine ⟨hgd, ?_⟩
                refine does_value (v := .bool false) (w' := w2) ?_ ⟨rfl, Old.refl _⟩
                unfold execOp
                simp only [x0, y0]
                go_simp
              · refine step_plain rfl fun ρ w2 ho hr hd => ?_
                obtain ⟨h0, h1, _⟩ := hd
                have x0 : ρ (.tmp 207) = .bool false := h0 rfl
                have y0 : ρ (.tmp 216) = .bool false := h1 rfl
                exact does_pick rfl x0 y0 ⟨rfl, Old.refl _⟩
              · refine step_plain rfl fun ρ w2 ho hr hd => ?_
                obtain ⟨h0, h1, _⟩ := hd
                have x0 : ρ (.tmp 217) = .bool false := h0 rfl
                exact does_move rfl x0 ⟨rfl, Old.refl _⟩
              · refine step_guard rfl fun ρ w2 ho hr hd => ?_
                obtain ⟨h0, _⟩ := hd
                have hgd : ρ (.tmp 218) = .bool false := h0 rfl
                have x0 : ρ (.tmp 34) = .slice oa7 s.L.length c7 := (hr.1 34 rfl).trans rfl
                refine ⟨hgd, ?_⟩
                exact does_move rfl x0 ⟨rfl, Old.refl _⟩
              · refine step_guard rfl fun ρ w2 ho hr hd => ?_
                obtain ⟨h0, _⟩ := hd
                have hgd : ρ (.tmp 218) = .bool false := h0 rfl
                have x0 : ρ (.tmp 13) = .pointer (some ⟨q, 0, none⟩) := (hr.1 13 rfl).trans rfl
                refine ⟨hgd, ?_⟩
                exact does_move rfl x0 ⟨rfl, Old.refl _⟩
              · refine step_guard rfl fun ρ w2 ho hr hd => ?_
                obtain ⟨h0, h1, _⟩ := hd
                have hgd : ρ (.tmp 218) = .bool false := h1 rfl
                have x0 : ρ (.tmp 220) = .pointer (some ⟨q, 0, none⟩) := h0 rfl
                refine ⟨hgd, ?_⟩
                refine does_value (v := .pointer (some ⟨q, 0, none⟩)) (w' := w2) ?_ ⟨rfl, Old.refl _⟩
                unfold execOp
                simp only [x0]
                go_simp
              · refine step_guard rfl fun ρ w2 ho hr hd => ?_
                obtain ⟨h0, h1, _⟩ := hd
                have hgd : ρ (.tmp 218) = .bool false := h1 rfl
                have x0 : ρ (.tmp 221) = .pointer (some ⟨q, 0, none⟩) := h0 rfl
                refine ⟨hgd, ?_⟩
                refine does_value (v := .pointer (some ⟨q, 2, none⟩)) (w' := w2) ?_ ⟨rfl, Old.refl _⟩
                unfold execOp
                simp only [x0]
                go_simp
              · refine step_guard rfl fun ρ w2 ho hr hd => ?_
                obtain ⟨h0, h1, _⟩ := hd
                have hgd : ρ (.tmp 218) = .bool false := h1 rfl
                have x0 : ρ (.tmp 222) = .pointer (some ⟨q, 2, none⟩) := h0 rfl
                have q0 := (ho.cell LQ.out).trans DC.out.2.2
                refine ⟨hgd, ?_⟩
                refine does_value (v := .slice od s.L.length cd) (w' := w2) ?_ ⟨rfl, Old.refl _⟩
                unfold execOp
                simp only [x0]
                go_simp
              · refine step_guard rfl fun ρ w2 ho hr hd => ?_
                obtain ⟨h0, h1, h2, h3, _⟩ := hd
                have hgd : ρ (.tmp 218) = .bool false := h3 rfl
                have x0 : ρ (.tmp 219) = .slice oa7 s.L.length c7 := h0 rfl
                have x1 : ρ (.tmp 223) = .slice od s.L.length cd := h1 rfl
                refine ⟨hgd, ?_⟩
                exact does_call2 rfl (hr.2.2.2 _) x0 x1 rfl ((samef_any _ _ _ _ (RF7.out.old ho) (RFD.out.old ho)).mono fun e w' h => ⟨_, h.1, rfl, h.2⟩)
              · refine step_guard rfl fun ρ w2 ho hr hd => ?_
                obtain ⟨h0, h1, _⟩ := hd
                have hgd : ρ (.tmp 218) = .bool false := h1 rfl
                have x0 : ρ (.tmp 224) = .bool true := h0 rfl
                refine ⟨hgd, ?_⟩
                refine does_value (v := .bool false) (w' := w2) ?_ ⟨rfl, Old.refl _⟩
                unfold execOp
                simp only [x0]
                go_simp
              · refine step_plain rfl fun ρ w2 ho hr hd => ?_
                obtain ⟨h0, h1, _⟩ := hd
                have x0 : ρ (.tmp 218) = .bool false := h0 rfl
                have y0 : ρ (.tmp 225) = .bool false := h1 rfl
                exact does_pick rfl x0 y0 ⟨rfl, Old.refl _⟩
              · refine step_plain rfl fun ρ w2 ho hr hd => ?_
                obtain ⟨h0, h1, _⟩ := hd
                have x0 : ρ (.tmp 226) = .bool false := h0 rfl
                exact does_move rfl x0 ⟨rfl, Old.refl _⟩
              · refine step_guard rfl fun ρ w2 ho hr hd => ?_
                obtain ⟨h0, _⟩ := hd
                have hgd : ρ (.tmp 227) = .bool false := h0 rfl
                have x0 : ρ (.tmp 11) = .pointer (some ⟨p, 0, none⟩) := (hr.1 11 rfl).trans rfl
                refine ⟨hgd, ?_⟩
                exact does_move rfl x0 ⟨rfl, Old.refl _⟩
              · refine step_guard rfl fun ρ w2 ho hr hd => ?_
                obtain ⟨h0, h1, h2, _⟩ := hd
                have hgd : ρ (.tmp 227) = .bool false := h2 rfl
                have x0 : ρ (.tmp 228) = .pointer (some ⟨p, 0, none⟩) := h0 rfl
                refine ⟨hgd, ?_⟩
                exact does_call1 rfl (hr.2.2.2 _) x0 rfl ((lenO PS7.out.mem rfl ho).mono fun e w' h => ⟨_, h.1, rfl, h.2⟩)
              · refine step_guard rfl fun ρ w2 ho hr hd => ?_
                obtain ⟨h0, _⟩ := hd
                have hgd : ρ (.tmp 227) = .bool false := h0 rfl
                have x0 : ρ (.tmp 13) = .pointer (some ⟨q, 0, none⟩) := (hr.1 13 rfl).trans rfl
                refine ⟨hgd, ?_⟩
                exact does_move rfl x0 ⟨rfl, Old.refl _⟩
              · refine step_guard rfl fun ρ w2 ho hr hd => ?_
                obtain ⟨h0, h1, _⟩ := hd
                have hgd : ρ (.tmp 227) = .bool false := h1 rfl
                have x0 : ρ (.tmp 230) = .pointer (some ⟨q, 0, none⟩) := h0 rfl
                refine ⟨hgd, ?_⟩
                refine does_value (v := .pointer (some ⟨q, 0, none⟩)) (w' := w2) ?_ ⟨rfl, Old.refl _⟩
                unfold execOp
                simp only [x0]
                go_simp
              · refine step_guard rfl fun ρ w2 ho hr hd => ?_
                obtain ⟨h0, h1, _⟩ := hd
                have hgd : ρ (.tmp 227) = .bool false := h1 rfl
                have x0 : ρ (.tmp 231) = .pointer (some ⟨q, 0, none⟩) := h0 rfl
                refine ⟨hgd, ?_⟩
                refine does_value (v := .pointer (some ⟨q, 2, none⟩)) (w' := w2) ?_ ⟨rfl, Old.refl _⟩
                unfold execOp
                simp only [x0]
                go_simp
              · refine step_guard rfl fun ρ w2 ho hr hd => ?_
                obtain ⟨h0, h1, _⟩ := hd
                have hgd : ρ (.tmp 227) = .bool false := h1 rfl
                have x0 : ρ (.tmp 232) = .pointer (some ⟨q, 2, none⟩) := h0 rfl
                have q0 := (ho.cell LQ.out).trans DC.out.2.2
                refine ⟨hgd, ?_⟩
                refine does_value (v := .slice od s.L.length cd) (w' := w2) ?_ ⟨rfl, Old.refl _⟩
                unfold execOp
                simp only [x0]
                go_simp
              · refine step_guard rfl fun ρ w2 ho hr hd => ?_
                obtain ⟨h0, h1, _⟩ := hd
                have hgd : ρ (.tmp 227) = .bool false := h1 rfl
                have x0 : ρ (.tmp 233) = .slice od s.L.length cd := h0 rfl
                refine ⟨hgd, ?_⟩
                refine does_value (v := .int .i64 (s.L.length : Int)) (w' := w2) ?_ ⟨rfl, Old.refl _⟩
                unfold execOp
                simp only [x0]
                go_simp
              · refine step_guard rfl fun ρ w2 ho hr hd => ?_
                obtain ⟨h0, h1, h2, _⟩ := hd
                have hgd : ρ (.tmp 227) = .bool false := h2 rfl
                have x0 : ρ (.tmp 229) = .int .i64 (s.L.length : Int) := h0 rfl
                have y0 : ρ (.tmp 234) = .int .i64 (s.L.length : Int) := h1 rfl
                refine ⟨hgd, ?_⟩
                refine does_value (v := .bool false) (w' := w2) ?_ ⟨rfl, Old.refl _⟩
                unfold execOp
                simp only [x0, y0]
                go_simp
              · refine step_plain rfl fun ρ w2 ho hr hd => ?_
                obtain ⟨h0, h1, _⟩ := hd
                have x0 : ρ (.tmp 227) = .bool false := h0 rfl
                have y0 : ρ (.tmp 235) = .bool false := h1 rfl
                exact does_pick rfl x0 y0 ⟨rfl, Old.refl _⟩
              · refine step_plain rfl fun ρ w2 ho hr hd => ?_
                obtain ⟨h0, h1, _⟩ := hd
                have x0 : ρ (.tmp 236) = .bool false := h0 rfl
                exact does_move rfl x0 ⟨rfl, Old.refl _⟩
              · refine step_guard rfl fun ρ w2 ho hr hd => ?_
                obtain ⟨h0, _⟩ := hd
                have hgd : ρ (.tmp 237) = .bool false := h0 rfl
                have x0 : ρ (.tmp 11) = .pointer (some ⟨p, 0, none⟩) := (hr.1 11 rfl).trans rfl
                refine ⟨hgd, ?_⟩
                exact does_move rfl x0 ⟨rfl, Old.refl _⟩
              · refine step_guard rfl fun ρ w2 ho hr hd => ?_
                obtain ⟨h0, h1, h2, _⟩ := hd
                have hgd : ρ (.tmp 237) = .bool false := h2 rfl
                have x0 : ρ (.tmp 238) = .pointer (some ⟨p, 0, none⟩) := h0 rfl
                refine ⟨hgd, ?_⟩
                exact does_call1 rfl (hr.2.2.2 _) x0 rfl ((lastO PS7.out.mem ho).mono fun e w' h => ⟨_, h.1, rfl, h.2⟩)
              · refine step_guard rfl fun ρ w2 ho hr hd => ?_
                obtain ⟨h0, _⟩ := hd
                have hgd : ρ (.tmp 237) = .bool false := h0 rfl
                have x0 : ρ (.tmp 13) = .pointer (some ⟨q, 0, none⟩) := (hr.1 13 rfl).trans rfl
                refine ⟨hgd, ?_⟩
                exact does_move rfl x0 ⟨rfl, Old.refl _⟩
              · refine step_guard rfl fun ρ w2 ho hr hd => ?_
                obtain ⟨h0, h1, _⟩ := hd
                have hgd : ρ (.tmp 237) = .bool false := h1 rfl
                have x0 : ρ (.tmp 240) = .pointer (some ⟨q, 0, none⟩) := h0 rfl
                refine ⟨hgd, ?_⟩
                refine does_value (v := .pointer (some ⟨q, 0, none⟩)) (w' := w2) ?_ ⟨rfl, Old.refl _⟩
                unfold execOp
                simp only [x0]
                go_simp
              · refine step_guard rfl fun ρ w2 ho hr hd => ?_
                obtain ⟨h0, h1, _⟩ := hd
                have hgd : ρ (.tmp 237) = .bool false := h1 rfl
                have x0 : ρ (.tmp 241) = .pointer (some ⟨q, 0, none⟩) := h0 rfl
                refine ⟨hgd, ?_⟩
                refine does_value (v := .pointer (some ⟨q, 1, none⟩)) (w' := w2) ?_ ⟨rfl, Old.refl _⟩
                unfold execOp
                simp only [x0]
                go_simp
              · refine step_guard rfl fun ρ w2 ho hr hd => ?_
                obtain ⟨h0, h1, _⟩ := hd
                have hgd : ρ (.tmp 237) = .bool false := h1 rfl
                have x0 : ρ (.tmp 242) = .pointer (some ⟨q, 1, none⟩) := h0 rfl
                have q0 := (ho.cell LQ.out).trans DC.out.2.1
                refine ⟨hgd, ?_⟩
                refine does_value (v := .int .i64 (s.last : Int)) (w' := w2) ?_ ⟨rfl, Old.refl _⟩
                unfold execOp
                simp only [x0]
                go_simp
              · refine step_guard rfl fun ρ w2 ho hr hd => ?_
                obtain ⟨h0, h1, h2, _⟩ := hd
                have hgd : ρ (.tmp 237) = .bool false := h2 rfl
                have x0 : ρ (.tmp 239) = .int .i64 (s.last : Int) := h0 rfl
                have y0 : ρ (.tmp 243) = .int .i64 (s.last : Int) := h1 rfl
                refine ⟨hgd, ?_⟩
                refine does_value (v := .bool false) (w' := w2) ?_ ⟨rfl, Old.refl _⟩
                unfold execOp
                simp only [x0, y0]
                go_simp
              · refine step_plain rfl fun ρ w2 ho hr hd => ?_
                obtain ⟨h0, h1, _⟩ := hd
                have x0 : ρ (.tmp 237) = .bool false := h0 rfl
                have y0 : ρ (.tmp 244) = .bool false := h1 rfl
                exact does_pick rfl x0 y0 ⟨rfl, Old.refl _⟩
            · intro a' w' hoE hst hl
              obtain ⟨_, _, _, _, _, _, _, _, _, _, _, _, _, _, _, _, _, _, _, _, _, _, _, _, _, _, _, _, _, _, _, _, _, _, _, _, _, _, _, _, _, _, _, _, k44, _⟩ := hl
              have e44 : a'.eval (.tmp 245) = .bool false := k44
              rw [act_fresh hst [false, false, false, false, false, false, false, false, false, false, false, false, false, false, false, false, false, false, false, false, false, false, false, false, false, false, false, false, false, false, false, false, false, false, false, false, false, false, false, false, false, false, false, false, false, false, false, false, false, false, false, false, false, false, false, false, false, false, false, false, false, false, false, false, false, false, false, false, false, false, false, false, false, false, false, false, false, false, false, false, false, false, false, false, false, false, false, false, false, false, false, false, false, false, false, false, false, false, false, false, false, false, false, false, false, false, false, false, false, false, false, false, false, false, false, false, false, false, false, false, false, false, false, false, false, false, false, false, false, false, false, false, false, false, false, false, false, false, false, false, false, false, false, false, false, false, false, false, false, false, false, false, false, false, false, false, false, false, false, false, false, false, false, false, false, false, false, false, false, false, false, false, false, false, false, false, false, false, false, false, false, false, false, false, false, false, false, false, false, false, false, false, false, false, false, false, false, false, false, false, false, true, true, true, true, true, true, true, true, true, true, true, true, true, true, true, true, true, true, true, true, true, true, true, true, true, true, true, true, true, true, true, true, true, true, true, true, true, true, true, true, true, true, true, true, true, false, false, false, false, false, false, false, false, false, false, false, false, false, false, false, false, false, false, false, false, false, false, false, false, false, false, false, false, false, false, false, false, false, false, false, false, false, false, false, false, false, false, false, false, false, false] (by kernel_rfl) (by kernel_rfl)]
              simp only [fresh, e44]
              clear hst k44 e44
              have HO8 := Lib.hid (HO.out.trans hoE)
              have N8 := Lib.hid (N5.out.old hoE)
              have A8 := Lib.hid (NA7.out.old hoE)
              have F8 := Lib.hid (F5.out.old hoE)
              clear HO N5 NA7 F5 V5 V6 F6 RF7 RFD VU7 LF5 LF6 LQ DC PS7 HX HG HFI
              go_wp2
              go_loopw [248] (fun i wz => ∃ j : Nat, j ≤ s.L.length ∧ i = .int .i64 (j : Int) ∧ Hid (Shp (fun g => BB ≤ g) w' wz)) (fun i _ => (s.L.length - intOf i).toNat)
              case atStart => exact ⟨0, Nat.zero_le _, rfl, Lib.hid (Shp.refl _ _)⟩
              case round =>
                obtain ⟨j2, hj2, rfl, HS⟩ := hrel
                by_cases hjl : j2 < s.L.length
                · obtain ⟨x2, hx2⟩ : ∃ x, s.L[j2]? = some x := ⟨s.L[j2], List.getElem?_eq_getElem hjl⟩
                  have h10 := PS.out.mem.ten x2 (List.mem_iff_getElem?.2 ⟨j2, hx2⟩)
                  obtain ⟨oa', c', e, h1⟩ := A8.out
                  simp only [Value.slice.injEq, true_and] at e
                  obtain ⟨rfl, rfl⟩ := e
                  obtain ⟨g1, o1, ua1, uc1, rfl, c2, hnc⟩ := h1 j2 x2 hx2
                  have C2 := Lib.hid c2
                  have HNC := Lib.hid hnc
                  have HJL := Lib.hid hjl
                  have cz := HS.out.oth _ _ c2 (fun z e => by cases e)
                  clear h1 c2 hnc hx2
                  generalize x2.l.length = nx at *
                  go_wp2
                  go_loopw [257] (fun i wv => ∃ m : Nat, m ≤ nx ∧ i = .int .i64 (m : Int) ∧ Hid (Shp (fun g => BB ≤ g) w' wv)) (fun i _ => (nx - intOf i).toNat)
                  case atStart => exact ⟨0, Nat.zero_le _, rfl, HS⟩
                  case round =>
                    obtain ⟨m, hm, rfl, HS2⟩ := hrel
                    have cv := HS2.out.oth _ _ C2.out (fun z e => by cases e)
                    clear cz
                    by_cases hml : m < nx
                    · obtain ⟨oa3, c3, e, h3⟩ := HNC.out.shp HS2.out
                      simp only [Value.slice.injEq, true_and] at e
                      obtain ⟨rfl, rfl⟩ := e
                      obtain ⟨g3, o3, rfl, hg3, hl3, ⟨z3, hz3⟩, hf3⟩ := h3 m hml
                      have HG3 := Lib.hid hg3
                      have HZ3 := Lib.hid hz3
                      have HML := Lib.hid hml
                      clear h3 hl3 hg3
                      go_wp2
                      exact ⟨⟨m + 1, HML.out, by first | rfl | simp, Lib.hid (HS2.out.set HG3.out HZ3.out _)⟩, by simp only [intOf]; omega⟩
                    · have hml' : m = nx := by omega
                      subst hml'
                      go_wp2
                      exact ⟨⟨j2 + 1, HJL.out, by first | rfl | simp, HS2⟩, by simp only [intOf]; omega⟩
                · have hjl' : j2 = s.L.length := by omega
                  subst hjl'
                  have f2 := HS.out.oth _ _ F8.out.c2 (fun z e => by cases e)
                  go_wp2
                  go_loopw [277] (fun i wu => ∃ m : Nat, m ≤ X.l.length ∧ i = .int .i64 (m : Int) ∧ Hid (Shp (fun g => BB ≤ g) w' wu)) (fun i _ => (X.l.length - intOf i).toNat)
                  case atStart => exact ⟨0, Nat.zero_le _, rfl, HS⟩
                  case round =>
                    obtain ⟨m, hm, rfl, HS2⟩ := hrel
                    have cv := HS2.out.oth _ _ F8.out.c2 (fun z e => by cases e)
                    clear f2
                    by_cases hml : m < X.l.length
                    · obtain ⟨oa3, c3, e, h3⟩ := N8.out.shp HS2.out
                      simp only [Value.slice.injEq, true_and] at e
                      obtain ⟨rfl, rfl⟩ := e
                      obtain ⟨g3, o3, rfl, hg3, hl3, ⟨z3, hz3⟩, hf3⟩ := h3 m hml
                      have HG3 := Lib.hid hg3
                      have HZ3 := Lib.hid hz3
                      have HML := Lib.hid hml
                      clear h3 hl3 hg3
                      go_wp2
                      exact ⟨⟨m + 1, HML.out, by first | rfl | simp, Lib.hid (HS2.out.set HG3.out HZ3.out _)⟩, by simp only [intOf]; omega⟩
                    · have hml' : m = X.l.length := by omega
                      subst hml'
                      have HF := Lib.hid (PS.out.on (HS2.out.chg.old HO8.out (fun k e => by rw [← HBB.out]; exact e)))
                      go_wp2
                      exact ⟨⟨k + 1, HKN.out, by first | rfl | simp, p, b, q, s, _, rfl, rfl, HF, SL2⟩, by simp only [intOf]; omega⟩

    · have hkn' : k = n := by omega
      subst hkn'
      have HO := Lib.hid PS.out.old
      go_wp2_with (go_at_call 9; (with_reducible refine (known_any _).mono ?_); rintro e w9 ⟨rfl, ho⟩; replace HO := Lib.hid (HO.out.trans ho); clear ho)
      go_ret
      exact ⟨rfl, HO.out⟩

end Go.Proofs.Ytfhbnkdibhmmcaa
