/- TokensTree's walk. -/
import Derived.Test.YtfgdgnkihiokoaaCF
namespace Go.Proofs.Ytfgdgnkihiokoaa
open Go.ChangeShapes Go.WideShapes Go.ChangeAt Go.RowKit Go.Lib
set_option linter.unusedVariables false
set_option linter.unusedSimpArgs false
set_option maxRecDepth 100000
set_option maxHeartbeats 4000000

theorem tree_any (l : List Ox) (v : Value) (w : World) (hl : OR w v l) : Calls Try.prog 3 #[v] w fun e w' => e = .returned (.bool true) ∧ Old w w' := by
  have HL := Lib.hid hl
  have HA := Lib.hid hl.all
  have hn := new_my w
  obtain ⟨oa, cp, rfl, _⟩ := hl
  by_cases h60 : 60 < l.length
  · have h60i : (60 : Int) < (l.length : Int) := by omega
    go_enter Try.func3, Try.ntmps3
    go_wp2_with (go_at_call 7; (with_reducible refine (known_any _).mono ?_); rintro e w1 ⟨rfl, ho⟩; have HO := Lib.hid ho; clear ho)
    go_ret
    exact ⟨rfl, HO.out⟩
  · have HLEN := Lib.hid (show l.length ≤ 60 by omega)
    have hli : (l.length : Int) ≤ 60 := by omega
    clear h60
    go_enter Try.func3, Try.ntmps3
    go_wp2_with (go_at_call 8; (with_reducible refine hn.mono ?_); rintro e w1 ⟨b, A1, rfl, h⟩; have M1 := Lib.hid h; clear h)
    go_loopw [31] (fun s wr => ∃ k : Nat, s = .int .i64 (k : Int) ∧ k ≤ l.length ∧ Hid (Bt w wr b l k)) (fun s wr => l.length - (intOf s).toNat)
    case atStart => exact ⟨0, rfl, Nat.zero_le _, Lib.hid ⟨A1, 4, M1.out, by omega⟩⟩
    case round =>
      obtain ⟨k, rfl, hk, HB⟩ := hrel
      by_cases hlt : k < l.length
      · obtain ⟨x, hx⟩ : ∃ x, l[k]? = some x := ⟨l[k], List.getElem?_eq_getElem hlt⟩
        obtain ⟨A, cap, hM, hcap⟩ := HB.out.my
        obtain ⟨g, o, rfl, hgl, d0, d1, d2, d3, h64⟩ := (HL.out.old hM.old).at_ hx
        have hf := runS_facts (l.take k) (fun y hy => HA.out y (List.mem_of_mem_take hy))
        have hlk : (l.take k).length = k := by rw [List.length_take]; omega
        rw [hlk] at hf
        have hrun : runS (l.take (k + 1)) = doOp (runS (l.take k)) x := by rw [take_snoc hx, runS_snoc]
        have HRUN := Lib.hid hrun
        have HLT := Lib.hid hlt
        have HM := Lib.hid (hM.o ((Old.refl wr).alloc (.cells #[.int .i64 x.k, .int .i64 x.a, .int .i64 x.b, .int .i64 x.c] 27)))
        have HAg : Hid (∀ j, A j → j < wr.heap.size) := Lib.hid (fun j hj => hM.ar.lt hj)
        have HCAP := Lib.hid hcap
        have h0k : (0 : Int) ≤ (k : Int) := by omega
        have hlti : (k : Int) < (l.length : Int) := by omega
        have HOB := Lib.hid (Ob.new wr x)
        generalize runS (l.take k) = S at *
        obtain ⟨L, last⟩ := S
        simp only at hf HM HRUN
        have HG := Lib.hid hf.1
        have HLA := Lib.hid (show last < 100 by omega)
        have HLL := Lib.hid (show L.length < 100 by omega)
        have HC2 := Lib.hid (show cap + 8 < 1000 by omega)
        have H64 := Lib.hid h64
        have hlen : ∀ W, Old (wr.alloc (.cells #[.int .i64 x.k, .int .i64 x.a, .int .i64 x.b, .int .i64 x.c] 27)) W → Calls Try.prog 9 #[ptr b] W fun e W' => e = .returned (.int .i64 (L.length : Int)) ∧ W = W' := fun W ho => (HM.out.ar.old ho).len
        have HLN := Lib.hid hlen
        have HME := Lib.hid (show l.length - (k + 1) < l.length - k by omega)
        clear hx hM hcap hgl h64 hf hlk hrun hlt hk hlen
        by_cases hk1 : x.k = 1
        · have hb1 : (x.k != 1) = false := by simp [hk1]
          by_cases hok : okAdd L x
          · have hadd := add_yes HM.out HG.out (by have := HLA.out; omega) (by have := HC2.out; omega) H64.out hok
            have hdo : runS (l.take (k + 1)) = (L ++ [newT last x], last + 1) := by rw [HRUN.out]; unfold doOp; rw [if_pos hk1, if_pos hok]
            have HDO := Lib.hid hdo
            have HADD := Lib.hid hadd
            have hg2 := newT_good HG.out H64.out hok
            have hal : x.a ≤ (last : Int) := by
              rcases hgt : getT L x.a with _ | t
              · exact absurd hgt hok.1
              · obtain ⟨ht, e⟩ := getT_some hgt
                have := (HG.out.low t ht).2
                omega
            have hc0 : 0 ≤ x.c := hok.2.2
            have HG2 := Lib.hid hg2
            have hKin := new_kid L last x
            have hKl := len_kids (L ++ [newT last x]) x.a
            have htup := new_tuple hg2
            have hgn := new_get hg2
            have hPl := tuple_bound hg2 x.a
            have hPl2 := tuple_bound hg2 ((last : Int) + 1)
            have hLl : (L ++ [newT last x]).length = L.length + 1 := by simp
            rw [hLl] at hKl hPl hPl2
            have hLi : (L.length : Int) < 100 := by have := HLL.out; omega
            have hL0 : (0 : Int) ≤ (L.length : Int) := by omega
            have hlai : (last : Int) < 100 := by have := HLA.out; omega
            have hla0 : (0 : Int) ≤ (last : Int) := by omega
            have hid64 : I64 ((last : Int) + 1) := by unfold I64; omega
            have hT : ∀ W A' cap', My w W b A' (L ++ [newT last x]) (last + 1) cap' → Tell W b (L ++ [newT last x]) := fun W A' cap' hm => hm.ar.tell hg2 (by have := HLA.out; omega) (by rw [hLl]; have := HLL.out; omega)
            have hgn2 : ∀ W A' cap', My w W b A' (L ++ [newT last x]) (last + 1) cap' → Calls Try.prog 11 #[ptr b, .int .i64 ((last : Int) + 1)] W fun e W' => e = .returned (.tuple #[.agg #[.int .i64 ((last : Int) + 1), .int .i64 x.a, .int .i64 x.b, .int .i64 x.c], .bool true]) ∧ Old W W' := fun W A' cap' hm => by
              have := get_any hm.ar hg2.up hid64
              rw [hgn] at this
              exact this
            have hln2 : ∀ W A' cap', My w W b A' (L ++ [newT last x]) (last + 1) cap' → Calls Try.prog 9 #[ptr b] W fun e W' => e = .returned (.int .i64 ((L.length : Int) + 1)) ∧ W = W' := fun W A' cap' hm => by
              have := hm.ar.len
              rw [hLl] at this
              exact this
            have HTT := Lib.hid hT
            have HGN2 := Lib.hid hgn2
            have HLN2 := Lib.hid hln2
            have HTUP := Lib.hid htup
            have HLL2 := Lib.hid hLl
            have HPL := Lib.hid (show (tuple (L ++ [newT last x]) x.a).length < 200 by have := HLL.out; omega)
            have HPL2 := Lib.hid (show (tuple (L ++ [newT last x]) ((last : Int) + 1)).length < 200 by have := HLL.out; omega)
            have HKN := Lib.hid hKin
            have HKL := Lib.hid (show (sel (pk (L ++ [newT last x])) x.a).length < 200 by have := HLL.out; omega)
            have HID := Lib.hid hid64
            clear hdo hadd hg2 hok hKin hKl htup hgn hPl hPl2 hLl hid64 hT hk1 hgn2 hln2
            generalize hKs : sel (pk (L ++ [newT last x])) x.a = Ks at *
            generalize hPs : tuple (L ++ [newT last x]) x.a = Ps at *
            generalize hQs : tuple (L ++ [newT last x]) ((last : Int) + 1) = Qs at *
            have HKs := Lib.hid hKs
            have HPs := Lib.hid hPs
            have HQs := Lib.hid hQs
            clear hKs hPs hQs
            have c0 := HOB.out.c0
            have c1 := HOB.out.c1
            have c2 := HOB.out.c2
            have c3 := HOB.out.c3
            go_wp2_with (first
              | (go_at_call 9; (with_reducible refine (HLN.out _ (Old.refl _)).mono ?_); rintro e w4 ⟨rfl, rfl⟩)
              | (go_at_call 12; (with_reducible refine HADD.out.mono ?_); rintro e w3 ⟨rfl, A3, h, hs⟩; have M3 := Lib.hid h; have HTE := Lib.hid (HTT.out _ _ _ h); replace HOB := Lib.hid (HOB.out.chg hs.chg (fun e => by have := HAg.out _ e; omega)); clear h hs)
              | (go_at_call 11; (with_reducible refine (HGN2.out _ _ _ M3.out).mono ?_); rintro e w5 ⟨rfl, ho⟩; have HO5 := Lib.hid (ho.alloc (.cells #[.int .i64 ((last : Int) + 1), .int .i64 x.a, .int .i64 x.b, .int .i64 x.c] 32)); replace HOB := Lib.hid (HOB.out.old HO5.out); have HTK := Lib.hid (Tb.new w5 ⟨(last : Int) + 1, x.a, x.b, x.c⟩); have c1 := HOB.out.c1; clear ho)
              | (go_at_call 13; (with_reducible refine (HTE.out.kids x.a _ H64.out.a HO5.out).mono ?_); rw [HKs.out]; rintro e w6 ⟨v6, rfl, hi, ho⟩; obtain ⟨oa6, cp6, rfl⟩ := hi.shape; have HI6 := Lib.hid hi; have HO6 := Lib.hid (HO5.out.trans ho); replace HOB := Lib.hid (HOB.out.old ho); replace HTK := Lib.hid (HTK.out.old ho); clear ho hi))
            have hKi : (Ks.length : Int) < 200 := by have := HKL.out; omega
            go_loopw [16, 90] (fun s16 s90 w7 => ∃ (j : Nat) (bv : Bool), s90 = .int .i64 (j : Int) ∧ s16 = .bool bv ∧ j ≤ Ks.length ∧ Hid (bv = decide (((last : Int) + 1) ∈ Ks.take j)) ∧ Hid (Old w6 w7)) (fun s16 s90 w7 => Ks.length - (intOf s90).toNat)
            case atStart => exact ⟨0, false, rfl, rfl, Nat.zero_le _, Lib.hid (by simp), Lib.hid (Old.refl w6)⟩
            case round =>
              obtain ⟨j, bv, rfl, rfl, hj, HBV, HO⟩ := hrel
              by_cases hjl : j < Ks.length
              · obtain ⟨q, hq⟩ : ∃ q, Ks[j]? = some q := ⟨Ks[j], List.getElem?_eq_getElem hjl⟩
                obtain ⟨gg, e0, hg1, hg2, dq⟩ := Ints.cell (HI6.out.old HO.out) hq
                subst e0
                have HQK := Lib.hid (take_snoc hq)
                have HJL := Lib.hid hjl
                have HJM := Lib.hid (show Ks.length - (j + 1) < Ks.length - j by omega)
                have h0j : (0 : Int) ≤ (j : Int) := by omega
                have hji : (j : Int) < (Ks.length : Int) := by omega
                clear hq hg1 hg2 hjl hj
                cases bv
                · by_cases hqn : q = (last : Int) + 1
                  · have hqb : (q == (last : Int) + 1) = true := by simp [hqn]
                    have HQN := Lib.hid hqn
                    clear hqn
                    go_wp2
                    refine ⟨⟨j + 1, true, by simp, rfl, HJL.out, Lib.hid (by rw [HQK.out, HQN.out]; simp), HO⟩, ?_⟩
                    have e1 : (intOf (Value.int IntKind.i64 ((j : Int) + 1))).toNat = j + 1 := by show ((j : Int) + 1).toNat = j + 1; omega
                    have e2 : (intOf (Value.int IntKind.i64 (j : Int))).toNat = j := by show ((j : Int)).toNat = j; omega
                    rw [e1, e2]
                    exact HJM.out
                  · have hqb : (q == (last : Int) + 1) = false := by simp [hqn]
                    have HQN := Lib.hid hqn
                    clear hqn
                    go_wp2
                    refine ⟨⟨j + 1, false, by simp, rfl, HJL.out, Lib.hid (by
                      have h1 := HBV.out
                      have h2 : ¬ ((last : Int) + 1) ∈ Ks.take j := by simpa using h1.symm
                      have h3 : ¬ (last : Int) + 1 = q := fun e => HQN.out e.symm
                      rw [HQK.out]
                      symm
                      rw [decide_eq_false_iff_not, List.mem_append, List.mem_singleton]
                      rintro (h | h)
                      · exact h2 h
                      · exact h3 h), HO⟩, ?_⟩
                    have e1 : (intOf (Value.int IntKind.i64 ((j : Int) + 1))).toNat = j + 1 := by show ((j : Int) + 1).toNat = j + 1; omega
                    have e2 : (intOf (Value.int IntKind.i64 (j : Int))).toNat = j := by show ((j : Int)).toNat = j; omega
                    rw [e1, e2]
                    exact HJM.out
                · go_wp2
                  refine ⟨⟨j + 1, true, by simp, rfl, HJL.out, Lib.hid (by
                    have h1 := HBV.out
                    have h2 : ((last : Int) + 1) ∈ Ks.take j := by simpa using h1.symm
                    rw [HQK.out]
                    symm
                    rw [decide_eq_true_eq]
                    exact List.mem_append_left _ h2), HO⟩, ?_⟩
                  have e1 : (intOf (Value.int IntKind.i64 ((j : Int) + 1))).toNat = j + 1 := by show ((j : Int) + 1).toNat = j + 1; omega
                  have e2 : (intOf (Value.int IntKind.i64 (j : Int))).toNat = j := by show ((j : Int)).toNat = j; omega
                  rw [e1, e2]
                  exact HJM.out
              · have hge : (Ks.length : Int) ≤ (j : Int) := by omega
                obtain rfl : j = Ks.length := by omega
                obtain rfl : bv = true := by rw [HBV.out, List.take_length]; exact decide_eq_true HKN.out
                have HO7 := Lib.hid (HO6.out.trans HO.out)
                replace HOB := Lib.hid (HOB.out.old HO.out)
                replace HTK := Lib.hid (HTK.out.old HO.out)
                have c1 := HOB.out.c1
                clear hjl hj HBV HI6
                have hnle : decide ((last : Int) + 1 ≤ x.a) = false := by simp; omega
                by_cases hcz : x.c = 0
                · have hcd : decide (0 < x.c) = false := by simp [hcz]
                  have HEQ : Hid (decide (Qs = Ps) = true) := Lib.hid (by rw [HTUP.out, if_pos hcz, List.append_nil]; simp)
                  have HWL := Lib.hid (show Ps.length < 200 from HPL.out)
                  clear hcz
                  go_wp2_with (first
                    | (go_at_call 14; (with_reducible refine (HTE.out.tup x.a _ H64.out.a HO7.out).mono ?_); rw [HPs.out]; rintro e w8 ⟨v8, rfl, hi, ho⟩; obtain ⟨oa8, cp8, e8⟩ := hi.shape; obtain rfl : v8 = .slice oa8 Ps.length cp8 := e8; have HI8 := Lib.hid hi; have HOR := Lib.hid ho; have HOy := Lib.hid (HO7.out.trans ho); have c1 := (HOB.out.old ho).c1; have c2 := (HOB.out.old ho).c2; have c3 := (HOB.out.old ho).c3; obtain ⟨p0, p1, p2, p3⟩ := (HTK.out.old ho).cells; clear ho hi)
                    | (go_at_call 9; (with_reducible refine (HLN2.out _ _ _ (M3.out.o HOy.out)).mono ?_); rintro e w9 ⟨rfl, rfl⟩)
                    | (go_at_call 14; (with_reducible refine (HTE.out.tup ((last : Int) + 1) _ HID.out HOy.out).mono ?_); rw [HQs.out]; rintro e wB ⟨vB, rfl, hi, ho⟩; obtain ⟨oaB, cpB, eB⟩ := hi.shape; obtain rfl : vB = .slice oaB Qs.length cpB := eB; have HIB := Lib.hid hi; have HOt := Lib.hid ho; have HOw := Lib.hid (HOy.out.trans ho); clear ho hi)
                    | (go_at_call 15; (with_reducible refine (ints_any HIB.out.ir ((HI8.out.old HOt.out).ir) (by have := HPL2.out; omega) (by have := HWL.out; omega)).mono ?_); rw [HEQ.out]; rintro e wC ⟨rfl, ho⟩; have HOz := Lib.hid (HOw.out.trans ho); clear ho))
                  refine ⟨⟨k + 1, by simp, HLT.out, Lib.hid ⟨A3, cap + 4, by rw [HDO.out]; exact M3.out.o HOz.out, by have := HCAP.out; omega⟩⟩, ?_⟩
                  have e1 : (intOf (Value.int IntKind.i64 ((k : Int) + 1))).toNat = k + 1 := by show ((k : Int) + 1).toNat = k + 1; omega
                  have e2 : (intOf (Value.int IntKind.i64 (k : Int))).toNat = k := by show ((k : Int)).toNat = k; omega
                  rw [e1, e2]
                  exact HME.out
                · have hcd : decide (0 < x.c) = true := by simp; omega
                  have HEQ : Hid (decide (Qs = Ps ++ [x.c]) = true) := Lib.hid (by rw [HTUP.out, if_neg hcz]; simp)
                  have HWL := Lib.hid (show (Ps ++ [x.c]).length < 201 by have := HPL.out; simp; omega)
                  obtain ⟨iI, hiI, hzI, hsI, hbI⟩ := info_parts info3
                  have HONE := Lib.hid (fun u hu => by rw [List.mem_singleton] at hu; subst hu; rfl : ∀ u ∈ [Value.int .i64 x.c], u.oneCell' = true)
                  have HL1 := Lib.hid (show (Ps.length + 1) * 8 ≤ 140737488355328 by have := HPL.out; omega)
                  have HL2 := Lib.hid (show Ps.length + 1 ≤ maxLen by have := HPL.out; unfold maxLen; omega)
                  clear hcz
                  go_wp2_with (first
                    | (go_at_call 14; (with_reducible refine (HTE.out.tup x.a _ H64.out.a HO7.out).mono ?_); rw [HPs.out]; rintro e w8 ⟨v8, rfl, hi, ho⟩; obtain ⟨oa8, cp8, e8⟩ := hi.shape; obtain rfl : v8 = .slice oa8 Ps.length cp8 := e8; have HI8 := Lib.hid hi; have HOR := Lib.hid ho; have HOy := Lib.hid (HO7.out.trans ho); have c1 := (HOB.out.old ho).c1; have c2 := (HOB.out.old ho).c2; have c3 := (HOB.out.old ho).c3; obtain ⟨p0, p1, p2, p3⟩ := (HTK.out.old ho).cells; clear ho hi)
                    | (at_builtin; refine wpList_appC _ rfl _ _ 38 rfl wr.heap.size 3 iI _ 1 8 Try.underlying38 hiI hzI hsI hbI rfl (Nat.zero_lt_succ 0) (.slice oa8 Ps.length cp8) Ps.length (Ps.map (Value.int .i64)) rfl (HI8.out.old ((Old.refl w8).alloc _)) (.slice (some ⟨w8.heap.size, 0, none⟩) 1 1) 1 [.int .i64 x.c] rfl (cr_one (MapKept.heap_alloc w8 (.cells #[.int .i64 x.c] 3)).1) HONE.out HL1.out HL2.out (by have := HOR.out.size; simp; omega) ?_; intro v' W1 hown hgrow _; obtain ⟨ob, cap2, rfl⟩ := own_shape hown; have HIA : Hid (Ints W1 wr.heap.size (.slice ob (Ps.length + 1) cap2) (Ps ++ [x.c])) := Lib.hid (ints_app rfl hown); have HOA := Lib.hid ((HOR.out.alloc (.cells #[.int .i64 x.c] 3)).grown hgrow (fun k hk => HI8.out.from_base k hk)); replace HOy := Lib.hid (HO7.out.trans HOA.out); have c1 := (HOB.out.old HOA.out).c1; have c2 := (HOB.out.old HOA.out).c2; have c3 := (HOB.out.old HOA.out).c3; obtain ⟨p0, p1, p2, p3⟩ := (HTK.out.old HOA.out).cells; clear hown hgrow)
                    | (go_at_call 9; (with_reducible refine (HLN2.out _ _ _ (M3.out.o HOy.out)).mono ?_); rintro e w9 ⟨rfl, rfl⟩)
                    | (go_at_call 14; (with_reducible refine (HTE.out.tup ((last : Int) + 1) _ HID.out HOy.out).mono ?_); rw [HQs.out]; rintro e wB ⟨vB, rfl, hi, ho⟩; obtain ⟨oaB, cpB, eB⟩ := hi.shape; obtain rfl : vB = .slice oaB Qs.length cpB := eB; have HIB := Lib.hid hi; have HOt := Lib.hid ho; have HOw := Lib.hid (HOy.out.trans ho); clear ho hi)
                    | (go_at_call 15; (with_reducible refine (ints_any HIB.out.ir ((HIA.out.old HOt.out).ir) (by have := HPL2.out; omega) (by have := HWL.out; omega)).mono ?_); rw [HEQ.out]; rintro e wC ⟨rfl, ho⟩; have HOz := Lib.hid (HOw.out.trans ho); clear ho))
                  refine ⟨⟨k + 1, by simp, HLT.out, Lib.hid ⟨A3, cap + 4, by rw [HDO.out]; exact M3.out.o HOz.out, by have := HCAP.out; omega⟩⟩, ?_⟩
                  have e1 : (intOf (Value.int IntKind.i64 ((k : Int) + 1))).toNat = k + 1 := by show ((k : Int) + 1).toNat = k + 1; omega
                  have e2 : (intOf (Value.int IntKind.i64 (k : Int))).toNat = k := by show ((k : Int)).toNat = k; omega
                  rw [e1, e2]
                  exact HME.out
          · have hadd := add_no HM.out HG.out H64.out hok
            have hdo : runS (l.take (k + 1)) = (L, last) := by rw [HRUN.out]; unfold doOp; rw [if_pos hk1, if_neg hok]
            have HDO := Lib.hid hdo
            have HADD := Lib.hid hadd
            have hLi : (L.length : Int) < 100 := by have := HLL.out; omega
            have hL0 : (0 : Int) ≤ (L.length : Int) := by omega
            clear hdo hadd hok hk1
            have c0 := HOB.out.c0
            have c1 := HOB.out.c1
            have c2 := HOB.out.c2
            have c3 := HOB.out.c3
            go_wp2_with (first
              | (go_at_call 9; (with_reducible refine (HLN.out _ (Old.refl _)).mono ?_); rintro e w4 ⟨rfl, rfl⟩)
              | (go_at_call 12; (with_reducible refine HADD.out.mono ?_); rintro e w3 ⟨⟨er, rfl, her⟩, h, ho⟩; have M3 := Lib.hid h; have hne : (er != 0) = true := (by rcases her with rfl | rfl <;> rfl); clear h ho her))
            refine ⟨⟨k + 1, by simp, HLT.out, Lib.hid ⟨A, cap, by rw [HDO.out]; exact M3.out, by have := HCAP.out; omega⟩⟩, ?_⟩
            have e1 : (intOf (Value.int IntKind.i64 ((k : Int) + 1))).toNat = k + 1 := by show ((k : Int) + 1).toNat = k + 1; omega
            have e2 : (intOf (Value.int IntKind.i64 (k : Int))).toNat = k := by show ((k : Int)).toNat = k; omega
            rw [e1, e2]
            exact HME.out
        · have hb1 : (x.k != 1) = true := by simp [hk1]
          have hrem := remove_all HM.out HG.out (by have := HLA.out; omega) (by have := HLL.out; omega) (by have := HC2.out; omega) H64.out.a
          have hdo : runS (l.take (k + 1)) = (remL x.a L, last) := by rw [HRUN.out]; unfold doOp; rw [if_neg hk1]
          have HREM := Lib.hid hrem
          have HDO := Lib.hid hdo
          have hsum := rem_len x.a L
          have HGO := Lib.hid (fun q h => rem_gone HG.out (i := x.a) (k := q) h)
          have HGS := Lib.hid (fun t (ht : t ∈ remG x.a L) => remG_sub ht)
          have HRG := Lib.hid (remL_good HG.out x.a)
          generalize remG x.a L = G at *
          generalize remL x.a L = R at *
          have hGi : (G.length : Int) < 100 := by have := HLL.out; omega
          have hLi : (L.length : Int) < 100 := by have := HLL.out; omega
          have hL0 : (0 : Int) ≤ (L.length : Int) := by omega
          have hsub : ((R.length : Int) != (L.length : Int) - (G.length : Int)) = false := by simp; omega
          clear hrem hdo hsum hk1
          have c0 := HOB.out.c0
          have c1 := HOB.out.c1
          go_wp2_with (first
            | (go_at_call 10; (with_reducible refine HREM.out.mono ?_); rintro e w3 ⟨v3, rfl, hr, A3, h, hs⟩; obtain ⟨oa3, cp3, rfl⟩ := own_shape hr; have M3 := Lib.hid h; have R3 := Lib.hid hr; have HL3 := Lib.hid (h.ar.len); clear h hs hr)
            | (go_at_call 9; first
              | ((with_reducible refine (HLN.out _ (Old.refl _)).mono ?_); rintro e w4 ⟨rfl, rfl⟩)
              | ((with_reducible refine HL3.out.mono ?_); rintro e w4 ⟨rfl, rfl⟩)))
          go_loopw [53] (fun s w5 => ∃ j : Nat, s = .int .i64 (j : Int) ∧ j ≤ G.length ∧ Hid (Old w3 w5)) (fun s w5 => G.length - (intOf s).toNat)
          case atStart => exact ⟨0, rfl, Nat.zero_le _, Lib.hid (Old.refl w3)⟩
          case round =>
            obtain ⟨j, rfl, hj, HO⟩ := hrel
            by_cases hjl : j < G.length
            · obtain ⟨q, hq⟩ : ∃ q, G[j]? = some q := ⟨G[j], List.getElem?_eq_getElem hjl⟩
              have hqG := List.mem_iff_getElem?.2 ⟨j, hq⟩
              have hqL := HGS.out q hqG
              obtain ⟨gg, e0, d0, d1, d2, d3⟩ := (R3.out.old HO.out).cells hq
              subst e0
              have hq64 : I64 q.id := (HG.out.t64 (by have := HLA.out; omega) hqL).id
              have hget : ∀ W, Old w3 W → Calls Try.prog 11 #[ptr b, .int .i64 q.id] W fun e W' => e = .returned (.tuple #[tv noTk, .bool false]) ∧ Old W W' := fun W ho => by
                have := get_any (M3.out.ar.old ho) HRG.out.up hq64
                rw [HGO.out q.id (List.mem_map.2 ⟨q, hqG, rfl⟩)] at this
                exact this
              have HGET := Lib.hid hget
              have HJL := Lib.hid hjl
              have HJM := Lib.hid (show G.length - (j + 1) < G.length - j by omega)
              have h0j : (0 : Int) ≤ (j : Int) := by omega
              have hji : (j : Int) < (G.length : Int) := by omega
              replace HO := Lib.hid (HO.out.alloc (.cells #[.int .i64 q.id, .int .i64 q.par, .int .i64 q.node, .int .i64 q.fact] 32))
              clear hq hqG hqL hq64 hget hjl hj
              go_wp2_with (go_at_call 11; (with_reducible refine (HGET.out _ HO.out).mono ?_); rintro e w6 ⟨rfl, ho⟩; replace HO := Lib.hid ((HO.out.trans ho).alloc (.cells #[.int .i64 noTk.id, .int .i64 noTk.par, .int .i64 noTk.node, .int .i64 noTk.fact] 32)); clear ho)
              refine ⟨⟨j + 1, by simp, HJL.out, HO⟩, ?_⟩
              have e1 : (intOf (Value.int IntKind.i64 ((j : Int) + 1))).toNat = j + 1 := by show ((j : Int) + 1).toNat = j + 1; omega
              have e2 : (intOf (Value.int IntKind.i64 (j : Int))).toNat = j := by show ((j : Int)).toNat = j; omega
              rw [e1, e2]
              exact HJM.out
            · have hge : (G.length : Int) ≤ (j : Int) := by omega
              clear hjl hj
              go_wp2
              refine ⟨⟨k + 1, by simp, HLT.out, Lib.hid ⟨A3, cap, by rw [HDO.out]; exact M3.out.o HO.out, by have := HCAP.out; omega⟩⟩, ?_⟩
              have e1 : (intOf (Value.int IntKind.i64 ((k : Int) + 1))).toNat = k + 1 := by show ((k : Int) + 1).toNat = k + 1; omega
              have e2 : (intOf (Value.int IntKind.i64 (k : Int))).toNat = k := by show ((k : Int)).toNat = k; omega
              rw [e1, e2]
              exact HME.out
      · have hge : (l.length : Int) ≤ (k : Int) := by omega
        obtain rfl : k = l.length := by omega
        obtain ⟨A, cap, hM, hcap⟩ := HB.out.my
        have hf := runS_facts l HA.out
        rw [List.take_length] at hM
        generalize runS l = S at *
        obtain ⟨L, last⟩ := S
        simp only at hf hM
        have HG := Lib.hid hf.1
        have HLA := Lib.hid (show last < 100 by have := HLEN.out; omega)
        have HLL := Lib.hid (show L.length < 100 by have := HLEN.out; omega)
        have HC2 := Lib.hid (show cap < 1000 by have := HLEN.out; omega)
        have HM := Lib.hid hM
        have HAl := Lib.hid (fun j (hj : A j) => hM.ar.lt hj)
        have hkid := kids_any hM.ar (i := 0) (by decide) (by have := len_kids L 0; have := HLL.out; omega)
        have hksl := len_kids L 0
        have hks0 := remAll_kids (sel (pk L) 0) HG.out rfl
        have hks64 : ∀ q ∈ sel (pk L) 0, I64 q := fun q hq => by
          obtain ⟨t, ht, _, rfl⟩ := mem_kids.1 hq
          exact (HG.out.t64 (by have := HLA.out; omega) ht).id
        have hone := only_root (remAll_good (sel (pk L) 0) HG.out) hks0
        generalize sel (pk L) 0 = ks at *
        have HKID := Lib.hid hkid
        have HK64 := Lib.hid hks64
        have HK0 := Lib.hid hks0
        have HONE := Lib.hid hone
        have HKL := Lib.hid (show ks.length < 100 by have := HLL.out; omega)
        have hkli : (ks.length : Int) < 100 := by have := HKL.out; omega
        clear hM hcap hf hkid hks0 hks64 hone hlt hk hksl
        go_wp2_with (go_at_call 13; (with_reducible refine HKID.out.mono ?_); rintro e w3 ⟨v3, rfl, hi, ho⟩; obtain ⟨oa3, cp3, rfl⟩ := hi.shape; have HI3 := Lib.hid hi; have HO3 := Lib.hid ho; clear hi ho)
        go_loopw [156] (fun s w5 => ∃ (j : Nat) (A' : Nat → Prop), s = .int .i64 (j : Int) ∧ j ≤ ks.length ∧ Hid (My w w5 b A' (remAll L (ks.take j)) last cap) ∧ Hid (Stp w3 w5 A A')) (fun s w5 => ks.length - (intOf s).toNat)
        case atStart => exact ⟨0, A, rfl, Nat.zero_le _, Lib.hid (HM.out.o HO3.out), Lib.hid (Stp.ofOld A (Old.refl w3))⟩
        case round =>
          obtain ⟨j, A', rfl, hj, HMy, HSt⟩ := hrel
          by_cases hjl : j < ks.length
          · obtain ⟨q, hq⟩ : ∃ q, ks[j]? = some q := ⟨ks[j], List.getElem?_eq_getElem hjl⟩
            have hrow := row_chg HI3.out HSt.out.chg (fun z hz e => by
              have h1 := row_low HI3.out z hz
              have h2 := HAl.out z e
              omega)
            obtain ⟨gg, e0, hg1, hg2, dq⟩ := Ints.cell hrow hq
            subst e0
            have hrem := remove_all HMy.out (remAll_good _ HG.out) (by have := HLA.out; omega) (by have := remAll_len (ks.take j) L; have := HLL.out; omega) (by have := HC2.out; omega) (HK64.out q (List.mem_iff_getElem?.2 ⟨j, hq⟩))
            rw [← remAll_snoc, ← take_snoc hq] at hrem
            have HREM := Lib.hid hrem
            have HJL := Lib.hid hjl
            have HJM := Lib.hid (show ks.length - (j + 1) < ks.length - j by omega)
            have h0j : (0 : Int) ≤ (j : Int) := by omega
            have hji : (j : Int) < (ks.length : Int) := by omega
            clear hq hrow hg1 hg2 hrem hjl hj
            go_wp2_with (go_at_call 10; (with_reducible refine HREM.out.mono ?_); rintro e w6 ⟨v6, rfl, hr, A6, h, hs⟩; obtain ⟨oa6, cp6, rfl⟩ := own_shape hr; have HM6 := Lib.hid h; have HS6 := Lib.hid (HSt.out.trans hs); clear h hs hr)
            refine ⟨⟨j + 1, A6, by simp, HJL.out, HM6, HS6⟩, ?_⟩
            have e1 : (intOf (Value.int IntKind.i64 ((j : Int) + 1))).toNat = j + 1 := by show ((j : Int) + 1).toNat = j + 1; omega
            have e2 : (intOf (Value.int IntKind.i64 (j : Int))).toNat = j := by show ((j : Int)).toNat = j; omega
            rw [e1, e2]
            exact HJM.out
          · have hge2 : (ks.length : Int) ≤ (j : Int) := by omega
            obtain rfl : j = ks.length := by omega
            have hM5 := HMy.out
            rw [List.take_length] at hM5
            have hlen := hM5.ar.len
            rw [HONE.out] at hlen
            have hkid := kids_any hM5.ar (i := 0) (by decide) (by rw [HK0.out]; exact Nat.zero_le _)
            rw [HK0.out] at hkid
            have HLEN5 := Lib.hid hlen
            have HKID5 := Lib.hid hkid
            have HO5 := Lib.hid hM5.old
            clear hM5 hlen hkid hjl hj
            go_wp2_with (first
              | (go_at_call 9; (with_reducible refine HLEN5.out.mono ?_); rintro e w7 ⟨rfl, rfl⟩)
              | (go_at_call 13; (with_reducible refine HKID5.out.mono ?_); rintro e w8 ⟨v8, rfl, hi, ho⟩; obtain ⟨oa8, cp8, e8⟩ := hi.shape; obtain rfl : v8 = .slice oa8 0 cp8 := e8; have HO8 := Lib.hid (HO5.out.trans ho); clear hi ho)
              | (go_at_call 7; (with_reducible refine (known_any _).mono ?_); rintro e w9 ⟨rfl, ho⟩; have HO9 := Lib.hid (HO8.out.trans ho); clear ho))
            go_ret
            exact ⟨rfl, HO9.out⟩
end Go.Proofs.Ytfgdgnkihiokoaa
