/- The arena: from's walk. -/
import Derived.Test.YtfgdgnkihiokoaaBP
namespace Go.Proofs.Ytfgdgnkihiokoaa
open Go.ChangeShapes Go.WideShapes Go.ChangeAt Go.RowKit Go.Lib
set_option linter.unusedVariables false
set_option linter.unusedSimpArgs false
set_option maxRecDepth 100000
set_option maxHeartbeats 1000000

theorem from_any {w : World} {b : Bs} {A : Nat → Prop} {L : List Tk} {last cap : Nat} (h : Ar w b A L last cap) (hg : Good L last) (hlast : last < 1000000) (hL : L.length ≤ 900000) {t : Tk} (ht : t ∈ L) :
    Calls Try.prog 22 #[ptr b, .int .i64 t.id] w fun e w' => ∃ v, e = .returned v ∧ Toks w' w.heap.size v (gone t.id L) ∧ Old w w' := by
  have hA : ∀ j, A j → j < w.heap.size := fun j hj => h.lt hj
  have i64L : ∀ x ∈ L, I64 x.id := fun x hx => by have := hg.low x hx; unfold I64; omega
  have H0 : Fr w ((w.alloc (.cells #[ptr b] 24)).alloc (.cells #[.slice none 0 0] 29)) b A L last cap w.heap.size (w.heap.size + 1) none 0 0 [] := by
    have o1 := (Old.refl w).alloc (.cells #[ptr b] 24)
    have o2 := o1.alloc (.cells #[.slice none 0 0] 29)
    have v5 := Var.new (w.alloc (.cells #[ptr b] 24)) 29 (.slice none 0 0)
    rw [sz_alloc] at v5
    exact ⟨h.old o2, v5, (Var.new w 24 (ptr b)).old ((Old.refl _).alloc _), World.ownsRow_nil _ _ _ _, rfl, o2⟩
  have hg0 := H0.gather hA (Nat.le_refl _) (Nat.lt_succ_self _) hg (i64L t ht) (getT_mem hg.up ht) (by omega)
  have HA := Lib.hid hA
  have HI := Lib.hid i64L
  have HG := Lib.hid hg
  have HLL := Lib.hid hL
  have HT := Lib.hid ht
  have HG0 := Lib.hid hg0
  clear H0 hA i64L hg hL ht hg0 h
  go_enter Try.func22, Try.ntmps22
  go_wp2_with (go_at_call 27; (with_reducible refine HG0.out.mono ?_); rintro e w1 ⟨rfl, ob, cp, hf, hc⟩; have HF := Lib.hid hf; clear hf hc)
  generalize hg2 : w.heap.size = g2 at *
  have HA1 : Hid (∀ j, A j → j < w.heap.size) := Lib.hid (fun j hj => by rw [hg2]; exact HA.out j hj)
  have HG2 : Hid (w.heap.size ≤ g2) := Lib.hid (by rw [hg2]; exact Nat.le_refl _)
  clear hg2
  go_loopw [7] (fun s7 wr => ∃ (i : Nat) (oa : Option Addr) (n cp : Nat) (l : List Tk), s7 = .int .i64 (i : Int) ∧ Hid (Fr w wr b A L last cap g2 (g2 + 1) oa n cp l) ∧ Hid (Bf L t.id i l) ∧ i ≤ n) (fun s7 wr => L.length - (intOf s7).toNat)
  case atStart => exact ⟨0, ob, 1, cp, [t], rfl, HF, Lib.hid (Bf.start HG.out HT.out), Nat.zero_le _⟩
  case round =>
    obtain ⟨i, oa, n, cp2, l, rfl, HF2, HB, hin⟩ := hrel
    obtain rfl : n = l.length := HF2.out.len
    have a5 := HF2.out.v5.cell
    have a2 := HF2.out.v2.cell
    have hln : l.length ≤ 900000 := Nat.le_trans HB.out.len HLL.out
    by_cases hi : i < l.length
    · obtain ⟨x, hx⟩ : ∃ x, l[i]? = some x := ⟨l[i]'(by omega), List.getElem?_eq_getElem (by omega)⟩
      have hxl : x ∈ l := List.mem_iff_getElem?.2 ⟨i, hx⟩
      obtain ⟨hxL, hxb⟩ := HB.out.sub x hxl
      obtain ⟨gg, rfl, e0, hgb, hgl, cx⟩ := HF2.out.row.cell hx
      obtain ⟨K, N, F, har, eA⟩ := HF2.out.ar
      have a7 := har.cells.2.2.1
      obtain ⟨Gk, Dk, hix, eK⟩ := har.kids
      have hKA : ∀ j, Gk x.id = some j → A j := fun j hj => by rw [eA, eK]; exact Or.inr (Or.inr (Or.inl (Or.inr ⟨_, hj⟩)))
      have hixd : Ix wr.drew b.k Gk (pk L) cap Dk := hix.chg (S := fun _ => False) (Chg.ofOld (Old.refl wr).drew) (fun _ _ e => e)
      have hlk := hixd.look (HI.out x hxL)
      have hid : decide ((i : Int) < (l.length : Int)) = true := by simp; omega
      have h0i : (0 : Int) ≤ (i : Int) := by omega
      have hin2 : (i : Int) < (l.length : Int) := by omega
      have hl2 : (l.length : Int) < 1000000 := by omega
      have HX := Lib.hid hx
      have HXL := Lib.hid hxL
      have HIX := Lib.hid hixd
      have HKA := Lib.hid hKA
      have HI2 := Lib.hid hi
      have HLN := Lib.hid hln
      have HLL2 := Lib.hid (show i < L.length from Nat.lt_of_lt_of_le hi HB.out.len)
      have HFd := Lib.hid (HF2.out.o (Old.refl wr).drew)
      have hr0 : g2 + 1 < wr.drew.heap.size := HF2.out.v5.lt
      have HR0 := Lib.hid hr0
      clear hx hxl hxL hxb har hix hixd hin hgb hgl e0 eA eK hKA hr0 hln
      rcases hgk : Gk x.id with _ | gk
      · rw [hgk] at hlk
        have hnone := HIX.out.none_ x.id hgk
        have HNO : Hid (∀ s ∈ L, s.par ≠ x.id) := Lib.hid (fun s hs e => by
          have : s.id ∈ sel (pk L) x.id := mem_kids.2 ⟨s, hs, e, rfl⟩
          rw [hnone] at this; simp at this)
        have hrg := run_range_nilMap (P := Try.prog) wr.drew 58 3 66 Try.underlying58
        have hnx : ∀ ty, (Instr.next (.pointer (some ⟨wr.drew.heap.size, 0, none⟩)) false ty).run Try.prog (wr.drew.alloc (.mapIter none 0 #[] 0)) = _ := fun ty => run_next_nilMap wr.drew ty 0 0 #[]
        have HFo := Lib.hid (HFd.out.o ((Old.refl wr.drew).alloc (.mapIter none 0 #[] 0)))
        have HB2 := Lib.hid (HB.out.step HG.out HX.out (Kd.start (left := fun _ => false) (fun s hs hp => absurd hp (HNO.out s hs))) (fun s hs hp => rfl))
        rw [List.append_nil] at HB2
        clear hnone hgk hi
        go_upto_region 7 with fail
        go_still_tail 9, (by kernel_rfl)
        change wpList _ _ _ _ _ (World.drew wr)
        generalize World.drew wr = wd at *
        go_wp2_with fail
        refine wp_loop_rounds 1 ?_
        rw [rounds_succ]
        go_wp2_with fail
        refine ⟨⟨i + 1, _, _, _, l, by simp, HFo, HB2, HI2.out⟩, ?_⟩
        have e1 : (intOf (Value.int IntKind.i64 ((i : Int) + 1))).toNat = i + 1 := by show ((i : Int) + 1).toNat = i + 1; omega
        have e2 : (intOf (Value.int IntKind.i64 (i : Int))).toNat = i := by show ((i : Int)).toNat = i; omega
        have := HLL2.out
        rw [e1, e2]
        omega
      · rw [hgk] at hlk
        have hus := (HIX.out.sets x.id gk hgk).2
        have hgkl : gk < g2 := HA.out _ (HKA.out gk hgk)
        have HGK := Lib.hid hgkl
        have HUS := Lib.hid hus
        clear hgk hi hus hgkl
        go_upto_region 7 with fail
        go_still_tail 9, (by kernel_rfl)
        change wpList _ _ _ _ _ (World.drew wr)
        generalize World.drew wr = wd at *
        go_wp2_with (at_range; refine wpList_range_own _ rfl _ 58 rfl 3 66 keyed3 Try.underlying58 Rm gk cap (Dz (se (sel (pk L) x.id))) rfl HUS.out.own ?_; intro w0 hrg0 hgr0 hs0; have HR0r := Lib.hid hrg0; have HF0 := Lib.hid (HFd.out.o ((Old.refl wd).grown hgr0 (fun k e => by cases e))); clear hrg0 hgr0 hs0)
        go_frame
        trace_state
        go_loopw [8] (fun _ w2 => ∃ (oa : Option Addr) (cp : Nat) (e : List Tk) (left : Lit → Bool) (cnt : Nat), w2.ranges Try.prog 3 Rm gk wd.heap.size cap (Dz (se (sel (pk L) x.id))) left cnt ∧ Hid (Fr w w2 b A L last cap g2 (g2 + 1) oa (l ++ e).length cp (l ++ e)) ∧ Hid (Kd L x (fun z => left (.int .i64 z)) e)) (fun _ w2 => w2.rangeLeft gk wd.heap.size)
        case atStart =>
          refine ⟨_, _, [], _, _, HR0r.out, Lib.hid (by rw [List.append_nil]; exact HF0.out), Lib.hid (Kd.start (fun s hs hp => ?_))⟩
          exact (Dz_has _ _).2 ⟨(s.id, .agg #[]), List.mem_map.2 ⟨s.id, mem_kids.2 ⟨s, hs, hp, rfl⟩, rfl⟩, rfl⟩
        case round =>
          obtain ⟨oa2, cp3, e, left, cnt, hrg, HF3, HK⟩ := hrel
          have hne := row_ne_iter HF3.out.row hrg
          have HNE := Lib.hid hne
          clear hne
          go_wp2_with (at_next; refine wpList_nextU rfl _ rfl gk wd.heap.size cap left cnt rfl hrg HUS.out.up ?_ ?_)
          · intro hc0 hl0
            have HB2 := Lib.hid (HB.out.step HG.out HX.out HK.out (fun s hs hp => hl0 _))
            go_wp2
            refine ⟨⟨i + 1, _, _, _, l ++ e, by simp, HF3, HB2, by rw [List.length_append]; have := HI2.out; omega⟩, ?_⟩
            have e1 : (intOf (Value.int IntKind.i64 ((i : Int) + 1))).toNat = i + 1 := by show ((i : Int) + 1).toNat = i + 1; omega
            have e2 : (intOf (Value.int IntKind.i64 (i : Int))).toNat = i := by show ((i : Int)).toNat = i; omega
            have := HLL2.out
            rw [e1, e2]
            omega
          · intro k w3 cnt3 hk hlk3 hrg3 hlt3 hgr3 hs3 hen3
            obtain ⟨s, hs, hsp, hsk⟩ := mem_kids.1 hk
            subst hsk
            have hF4 := HF3.out.grown HA1.out HG2.out (Nat.lt_succ_self _) hgr3 HR0.out HNE.out
            have hne4 := row_ne_iter hF4.row hrg3
            have hlen : (l ++ e).length < 1000000 := by
              have h1 := HB.out.len_app HG.out HX.out HK.out
              have h2 := HLL.out
              omega
            have hgat := hF4.gather HA1.out HG2.out (Nat.lt_succ_self _) HG.out (HI.out s hs) (getT_mem HG.out.up hs) hlen
            have HGAT := Lib.hid hgat
            have HRG3 := Lib.hid hrg3
            have HNE4 := Lib.hid hne4
            have HF4 := Lib.hid hF4
            have HS := Lib.hid (HK.out.step HG.out hs hsp hlk3)
            have HLT := Lib.hid hlt3
            have HLE := Lib.hid hrg.left_eq
            clear hgat hrg3 hne4 hF4 hs hsp hlk3 hlt3 hgr3 hs3 hk hlen
            go_wp2_with (go_at_call 27; (with_reducible refine HGAT.out.mono ?_); rintro e5 w5 ⟨rfl, ob5, cp5, hf5, hc5⟩; have HF5 := Lib.hid hf5; have HRG5 := Lib.hid (ranges_chg HRG3.out hc5 (fun e6 => by
              rcases e6 with e6 | e6
              · have := HGK.out; omega
              · have := row_low HF4.out.row gk e6; have := HGK.out; omega) (fun e6 => by
              rcases e6 with e6 | e6
              · have := HR0.out; omega
              · exact HNE4.out e6.symm)); clear hf5 hc5)
            refine ⟨⟨ob5, cp5, e ++ [s], _, cnt3, HRG5.out, Lib.hid ?_, Lib.hid ?_⟩, ?_⟩
            · have h5 := HF5.out
              rw [show (l ++ e).length + 1 = ((l ++ e) ++ [s]).length from (by simp; omega)] at h5
              rw [← List.append_assoc]
              exact h5
            · have h1 := HS.out
              have h2 : (fun z : Int => left (.int .i64 z) && !decide (z = s.id)) = fun z : Int => left (.int .i64 z) && !(Lit.int .i64 z).sameKey (.int .i64 s.id) := by
                funext z; rw [lit_same]
              rw [h2] at h1
              exact h1
            · rw [HRG5.out.left_eq, HLE.out]
              exact HLT.out
    · have hpm := HB.out.perm2 HG.out (by omega)
      have hne : l ≠ [] := fun e => by have := HB.out.top; rw [e] at this; simp at this
      have hso := sort_any HF2.out.row rfl (by omega) hne (HG.out.up.filter _) hpm
      have hge : (l.length : Int) ≤ (i : Int) := by omega
      have HSO := Lib.hid hso
      clear hpm hne hso hin hln hi
      go_wp2_with (go_at_call 28; (with_reducible refine HSO.out.mono ?_); rintro e w2 ⟨rfl, ht2, hc2⟩; have HT2 := Lib.hid ht2; have HO2 := Lib.hid (hc2.old HF2.out.old (fun j hj => by have := row_low HF2.out.row j hj; have := HG2.out; omega)); have a5 := (Var.cell ((hc2.block _ HF2.out.v5.lt (fun e => by have := row_low HF2.out.row _ e; omega)).trans HF2.out.v5)); clear ht2 hc2)
      go_ret
      exact ⟨_, rfl, own_low HT2.out (by have := HG2.out; omega), HO2.out⟩
end Go.Proofs.Ytfgdgnkihiokoaa
