/- The first that tells a difference; Compare. -/
import Derived.Test.YtdcfaniimhjghaaOG
namespace Go.Proofs.Ytdcfaniimhjghaa
open Go.ChangeShapes Go.WideShapes Go.ChangeAt Go.RowKit Go.Lib Go.Sort
set_option linter.unusedVariables false
set_option linter.unusedSimpArgs false
set_option maxRecDepth 100000
set_option maxHeartbeats 3200000

theorem compare_any {w : World} {s : Int} {lv : Value} (a b : Rw) (hl : LS w lv s) (ha : ROk w s a) (hb : ROk w s b) :
    Calls Try.prog 25 #[lv, rv a, rv b] w fun e w' => e = .returned (.int .i64 (cmpA s a.1.1 b.1.1)) ∧ Gw w w' := by
  have HA := Lib.hid ha
  have HB := Lib.hid hb
  obtain ⟨g, sb, cap, rfl, hg, hsb, hsc, d0, d1, d2, d3⟩ := hl
  have HSB := Lib.hid hsb
  have HSC := Lib.hid hsc
  have HG := Lib.hid hg
  have HD := Lib.hid (And.intro d0 (And.intro d1 (And.intro d2 d3)))
  have k0 : ∀ W, Old w W → Calls Try.prog 35 #[rv a, rv b] W fun e w' => e = .returned (.int .i64 (cI b.1.1.sal a.1.1.sal)) ∧ Gw W w' := fun W ho => clo35 a b (HA.out.old ho) (HB.out.old ho)
  have k1 : ∀ W, Old w W → Calls Try.prog 36 #[rv a, rv b, .pointer (some ⟨sb, 0, none⟩)] W fun e w' => e = .returned (.int .i64 (vcmp s a.1.1 b.1.1)) ∧ Gw W w' := fun W ho => clo36 (Nat.lt_of_lt_of_le HSB.out ho.size) ((ho.cell HSB.out).trans HSC.out) a b (HA.out.old ho) (HB.out.old ho)
  have k2 : ∀ W, Old w W → Calls Try.prog 38 #[rv a, rv b] W fun e w' => e = .returned (.int .i64 (cI a.1.1.rule b.1.1.rule)) ∧ Gw W w' := fun W ho => clo38 a b (HA.out.old ho) (HB.out.old ho)
  have k3 : ∀ W, Old w W → Calls Try.prog 39 #[rv a, rv b] W fun e w' => e = .returned (.int .i64 (rowC a.1.1.tup b.1.1.tup)) ∧ Gw W w' := fun W ho => clo39 a b (HA.out.old ho) (HB.out.old ho)
  rw [cmpA_eq]
  generalize cI b.1.1.sal a.1.1.sal = c0 at k0 ⊢
  generalize vcmp s a.1.1 b.1.1 = c1 at k1 ⊢
  generalize cI a.1.1.rule b.1.1.rule = c2 at k2 ⊢
  generalize rowC a.1.1.tup b.1.1.tup = c3 at k3 ⊢
  generalize hR : thn c0 (thn c1 (thn c2 c3)) = R
  have HR := Lib.hid hR
  have K0 := Lib.hid k0
  have K1 := Lib.hid k1
  have K2 := Lib.hid k2
  have K3 := Lib.hid k3
  obtain ⟨⟨⟨r1, t1, s1⟩, v1⟩, u1⟩ := a
  obtain ⟨⟨⟨r2, t2, s2⟩, v2⟩, u2⟩ := b
  obtain ⟨oa, ca, oc, cc, rfl, rfl⟩ := ha.open
  obtain ⟨ob, cb, od, cd, rfl, rfl⟩ := hb.open
  clear ha hb k0 k1 k2 k3 hR hg hsb hsc d0 d1 d2 d3
  unfold rv at K0 K1 K2 K3 ⊢
  simp only at K0 K1 K2 K3 ⊢
  generalize t1.length = n1 at *
  generalize t2.length = n2 at *
  generalize (vec s t1).length = n3 at *
  generalize (vec s t2).length = n4 at *
  go_enter Try.func25, Try.ntmps25
  go_wp2
  go_loopg [12] 4 (fun kx s12 wr => ∃ k : Nat, s12 = .int .i64 (k : Int) ∧ k ≤ 4 ∧ 4 - k ≤ kx ∧ Hid (Gw ((w.alloc (.cells #[.int .i64 r1, .slice oa n1 ca, .int .i64 s1, .slice oc n3 cc] 48)).alloc (.cells #[.int .i64 r2, .slice ob n2 cb, .int .i64 s2, .slice od n4 cd] 48)) wr) ∧ Hid ((0 < k → c0 = 0) ∧ (1 < k → c1 = 0) ∧ (2 < k → c2 = 0) ∧ (3 < k → c3 = 0)))
  case atStart => exact ⟨0, rfl, by omega, by omega, Lib.hid (Gw.refl _), Lib.hid ⟨fun h => by omega, fun h => by omega, fun h => by omega, fun h => by omega⟩⟩
  case round =>
    obtain ⟨k, rfl, hk, hkx, HO, HZ⟩ := hrel
    have HW := Lib.hid ((((Old.refl w).alloc (.cells #[.int .i64 r1, .slice oa n1 ca, .int .i64 s1, .slice oc n3 cc] 48)).alloc (.cells #[.int .i64 r2, .slice ob n2 cb, .int .i64 s2, .slice od n4 cd] 48)).trans HO.out.old)
    have HWG := Lib.hid ((((Gw.refl w).alloc (.cells #[.int .i64 r1, .slice oa n1 ca, .int .i64 s1, .slice oc n3 cc] 48)).alloc (.cells #[.int .i64 r2, .slice ob n2 cb, .int .i64 s2, .slice od n4 cd] 48)).trans HO.out)
    have B1 : Bk wr w.heap.size ((⟨r1, t1, s1⟩, .slice oa n1 ca), .slice oc n3 cc) := ((Bk.new w ((⟨r1, t1, s1⟩, .slice oa n1 ca), .slice oc n3 cc)).old ((Old.refl _).alloc _)).old HO.out.old
    have B2 : Bk wr (w.heap.size + 1) ((⟨r2, t2, s2⟩, .slice ob n2 cb), .slice od n4 cd) := by
      have := (Bk.new (w.alloc (.cells #[.int .i64 r1, .slice oa n1 ca, .int .i64 s1, .slice oc n3 cc] 48)) ((⟨r2, t2, s2⟩, .slice ob n2 cb), .slice od n4 cd)).old HO.out.old
      rw [sz_alloc] at this
      exact this
    obtain ⟨e0, e1, e2, e3⟩ := B1.cells
    obtain ⟨f0, f1, f2, f3⟩ := B2.cells
    have d0 := (HW.out.cell (p := ⟨g, 0, none⟩) HG.out).trans HD.out.1
    have d1 := (HW.out.cell (p := ⟨g, 1, none⟩) HG.out).trans HD.out.2.1
    have d2 := (HW.out.cell (p := ⟨g, 2, none⟩) HG.out).trans HD.out.2.2.1
    have d3 := (HW.out.cell (p := ⟨g, 3, none⟩) HG.out).trans HD.out.2.2.2
    clear B1 B2
    simp only at e0 e1 e2 e3 f0 f1 f2 f3
    by_cases hk4 : k = 4
    · subst hk4
      have HZ4 := Lib.hid (And.intro (HZ.out.1 (by omega)) (And.intro (HZ.out.2.1 (by omega)) (And.intro (HZ.out.2.2.1 (by omega)) (HZ.out.2.2.2 (by omega)))))
      go_wp2_with fail
      go_ret
      refine ⟨?_, HWG.out⟩
      rw [← HR.out, HZ4.out.1, HZ4.out.2.1, HZ4.out.2.2.1, HZ4.out.2.2.2]
      rfl
    · have hk3 : k = 0 ∨ k = 1 ∨ k = 2 ∨ k = 3 := by omega
      clear hk4
      rcases hk3 with rfl | rfl | rfl | rfl
      · have KK := K0.out wr HW.out
        by_cases hz : c0 = 0
        · have HCZ := Lib.hid hz
          subst hz
          go_wp2_with (first | (go_at_call 35; (with_reducible refine KK.mono ?_); rintro e w2 ⟨rfl, hgw⟩; have HG2 := Lib.hid hgw; clear hgw))
          go_roundg (3)
          case measure => omega
          case rel => exact ⟨1, by go_num, by omega, Nat.le_refl _, Lib.hid (HO.out.trans HG2.out), Lib.hid ⟨fun h => trivial, fun h => by omega, fun h => by omega, fun h => by omega⟩⟩
        · have hzb : (c0 != 0) = true := by simpa using hz
          have HCZ := Lib.hid hz
          clear hz
          go_wp2_with (first | (go_at_call 35; (with_reducible refine KK.mono ?_); rintro e w2 ⟨rfl, hgw⟩; have HG2 := Lib.hid hgw; clear hgw))
          go_ret
          refine ⟨?_, HWG.out.trans HG2.out⟩
          rw [← HR.out]
          skip
          rw [show ∀ x, thn c0 x = c0 from fun x => if_neg HCZ.out]
          rfl
      · have HZZ0 := Lib.hid (HZ.out.1 (by omega))
        have KK := K1.out wr HW.out
        by_cases hz : c1 = 0
        · have HCZ := Lib.hid hz
          subst hz
          go_wp2_with (first | (go_at_call 36; (with_reducible refine KK.mono ?_); rintro e w2 ⟨rfl, hgw⟩; have HG2 := Lib.hid hgw; clear hgw))
          go_roundg (2)
          case measure => omega
          case rel => exact ⟨2, by go_num, by omega, Nat.le_refl _, Lib.hid (HO.out.trans HG2.out), Lib.hid ⟨fun h => HZZ0.out, fun h => trivial, fun h => by omega, fun h => by omega⟩⟩
        · have hzb : (c1 != 0) = true := by simpa using hz
          have HCZ := Lib.hid hz
          clear hz
          go_wp2_with (first | (go_at_call 36; (with_reducible refine KK.mono ?_); rintro e w2 ⟨rfl, hgw⟩; have HG2 := Lib.hid hgw; clear hgw))
          go_ret
          refine ⟨?_, HWG.out.trans HG2.out⟩
          rw [← HR.out, HZZ0.out]
          rw [show ∀ x, thn 0 x = x from fun x => rfl]
          rw [show ∀ x, thn c1 x = c1 from fun x => if_neg HCZ.out]
          rfl
      · have HZZ0 := Lib.hid (HZ.out.1 (by omega))
        have HZZ1 := Lib.hid (HZ.out.2.1 (by omega))
        have KK := K2.out wr HW.out
        by_cases hz : c2 = 0
        · have HCZ := Lib.hid hz
          subst hz
          go_wp2_with (first | (go_at_call 38; (with_reducible refine KK.mono ?_); rintro e w2 ⟨rfl, hgw⟩; have HG2 := Lib.hid hgw; clear hgw))
          go_roundg (1)
          case measure => omega
          case rel => exact ⟨3, by go_num, by omega, Nat.le_refl _, Lib.hid (HO.out.trans HG2.out), Lib.hid ⟨fun h => HZZ0.out, fun h => HZZ1.out, fun h => trivial, fun h => by omega⟩⟩
        · have hzb : (c2 != 0) = true := by simpa using hz
          have HCZ := Lib.hid hz
          clear hz
          go_wp2_with (first | (go_at_call 38; (with_reducible refine KK.mono ?_); rintro e w2 ⟨rfl, hgw⟩; have HG2 := Lib.hid hgw; clear hgw))
          go_ret
          refine ⟨?_, HWG.out.trans HG2.out⟩
          rw [← HR.out, HZZ0.out, HZZ1.out]
          rw [show ∀ x, thn 0 x = x from fun x => rfl, show ∀ x, thn 0 x = x from fun x => rfl]
          rw [show ∀ x, thn c2 x = c2 from fun x => if_neg HCZ.out]
          rfl
      · have HZZ0 := Lib.hid (HZ.out.1 (by omega))
        have HZZ1 := Lib.hid (HZ.out.2.1 (by omega))
        have HZZ2 := Lib.hid (HZ.out.2.2.1 (by omega))
        have KK := K3.out wr HW.out
        by_cases hz : c3 = 0
        · have HCZ := Lib.hid hz
          subst hz
          go_wp2_with (first | (go_at_call 39; (with_reducible refine KK.mono ?_); rintro e w2 ⟨rfl, hgw⟩; have HG2 := Lib.hid hgw; clear hgw))
          go_roundg (0)
          case measure => omega
          case rel => exact ⟨4, by go_num, by omega, Nat.le_refl _, Lib.hid (HO.out.trans HG2.out), Lib.hid ⟨fun h => HZZ0.out, fun h => HZZ1.out, fun h => HZZ2.out, fun h => trivial⟩⟩
        · have hzb : (c3 != 0) = true := by simpa using hz
          have HCZ := Lib.hid hz
          clear hz
          go_wp2_with (first | (go_at_call 39; (with_reducible refine KK.mono ?_); rintro e w2 ⟨rfl, hgw⟩; have HG2 := Lib.hid hgw; clear hgw))
          go_ret
          refine ⟨?_, HWG.out.trans HG2.out⟩
          rw [← HR.out, HZZ0.out, HZZ1.out, HZZ2.out]
          rw [show ∀ x, thn 0 x = x from fun x => rfl, show ∀ x, thn 0 x = x from fun x => rfl, show ∀ x, thn 0 x = x from fun x => rfl]
          skip
          rfl
end Go.Proofs.Ytdcfaniimhjghaa
