/- The document's numbers as text: the walk, with a sign; all of them. -/
import Derived.Test.YtmkmafkkpigfpaaGreatDoorGB
set_option maxHeartbeats 4000000
namespace Go.Proofs.YtmkmafkkpigfpaaGreatDoor
open Go.ChangeShapes Go.WideShapes Go.ChangeAt Go.RowKit Go.Lib
set_option linter.unusedVariables false
set_option linter.unusedSimpArgs false
set_option maxRecDepth 100000
theorem rnum_neg (s:ByteArray) (hs:s.size≤402) (h0:0<s.size) (hneg:(s.data.toList.head?==some 45)=true) (B:List UInt8) (hB:B=s.data.toList.drop 1) (w:World) :
 Calls Tryz.prog 92 #[.string s] w fun e w'=>numRes true (numB B) e w'∧Old w w':=by
 obtain ⟨c0,hd00⟩:=drop_ex (s:=s) (k:=0) h0
 have hx0:∀ W,(Instr.index 9 (.string s) (.int .i64 0)).run Tryz.prog W=.ok (.int .u8 (c0.toNat:Int)) W:=fun W=>idx_any s 0 c0 (drop_get hd00) W
 have hc45:c0=45:=by
  rw [List.drop_zero] at hd00
  rw [hd00] at hneg
  simpa using hneg
 subst hc45
 replace hx0:∀ W,(Instr.index 9 (.string s) (.int .i64 0)).run Tryz.prog W=.ok (.int .u8 45) W:=hx0
 clear hd00
 obtain ⟨G,hG⟩:∃ G,G=scN 0 B 0 none 0:=⟨_,rfl⟩
 rw [numB_of,←hG]
 have hBl:B.length=s.size-1:=by rw [hB,List.length_drop,Array.length_toList];rfl
 have HG:=hid (show G=scN 0 (s.data.toList.drop 1) 0 none (1-1) by rw [hG,hB])
 have H0:=hid (nr0 w)
 have HOF:=hid (fun W=>ofI 10 W (by decide))
 have HBQ:=hid hB
 clear hG hB
 go_enter Tryz.func92,Tryz.ntmps92
 go_wp2_with fail
 go_loopw [6,7] (fun v6 v7 wr=>∃ (k:Nat) (pt:Option Nat) (x:Nat),v6=.int .i64 (k:Int)∧v7=.int .i64 (ptI 1 pt)∧1≤k∧k≤s.size∧Hid (x<10^k)∧Hid (G=scN 0 (s.data.toList.drop k) x pt (k-1))∧Hid (∀ p,pt=some p→1+p<k)∧Hid (Nr w x wr)) (fun v6 _ _=>(s.size-RowKit.intOf v6).toNat)
 case atStart=>exact ⟨1,none,0,rfl,rfl,by omega,by omega,hid (by decide),HG,hid (fun p h=>(by cases h)),H0⟩
 case round=>
  clear HG H0 hx0
  obtain ⟨k,pt,x,rfl,rfl,hkF,hk,HX,HG,HPB,HNR⟩:=hrel
  rcases Nat.lt_or_ge k s.size with hks|hks
  ·obtain ⟨c,hd⟩:=drop_ex hks
   have hx:=fun W=>idx_any s k c (drop_get hd) W
   have hg:=HG.out
   rw [hd,scN] at hg
   by_cases hA:c=46∧pt=none∧1<k
   ·obtain ⟨hc,rfl,hFk⟩:=hA
    subst hc
    replace hx:∀ W,(Instr.index 9 (.string s) (.int .i64 (k:Int))).run Tryz.prog W=.ok (.int .u8 46) W:=hx
    rw [if_pos ⟨rfl,rfl,by omega⟩] at hg
    have HG2:=hid (show G=scN 0 (s.data.toList.drop (k+1)) x (some (k-1)) (k+1-1) by rw [hg,show k+1-1=k-1+1 by omega])
    have hpt:ptI 1 (none:Option Nat)=-1:=rfl
    rw [hpt]
    have hFk2:(1:Int)<(k:Int):=by omega
    clear hg hd
    go_wp2_with fail
    exact ⟨⟨k+1,some (k-1),x,by simp,by simp only [ptI];congr 1;omega,by omega,by omega,hid (Nat.lt_of_lt_of_le HX.out (Nat.pow_le_pow_right (by omega) (by omega))),HG2,hid (fun p h=>by injection h with h;omega),HNR⟩,by simp only [RowKit.intOf];omega⟩
   ·rw [if_neg (by rintro ⟨a1,a2,a3⟩;exact hA ⟨a1,a2,by omega⟩)] at hg
    cases hdg:dg8 c with
    | false=>
      rw [hdg,if_neg (by exact Bool.false_ne_true)] at hg
      have HB:=hid (show numOf B G=none by rw [hg];rfl)
      have hv:(c.toNat:Int)<48∨57<(c.toNat:Int):=by
       unfold dg8 at hdg
       simp only [decide_eq_false_iff_not] at hdg
       omega
      have hA2:(c.toNat:Int)=46→(pt=none→¬ 1<k):=fun h a b=>hA ⟨UInt8.toNat_inj.1 (by have e:(46:UInt8).toNat=46:=rfl;omega),a,b⟩
      clear hg hd hdg hA
      generalize (c.toNat:Int)=v at *
      by_cases h46:v=46
      ·subst h46
       cases pt with
       | none=>
         have hFk:¬ 1<k:=hA2 rfl rfl
         have hpt:ptI 1 (none:Option Nat)=-1:=rfl
         rw [hpt]
         have hFk2:¬ (1:Int)<(k:Int):=by omega
         obtain ⟨⟨nb,ob,lb,cb,TB,RB⟩,TA,OO⟩:=HNR.out
         have HT:=hid TB
         have HA:=hid TA
         have HV:=hid RB
         have HO:=hid OO
         have d0:=TB.c0
         have d1:=TB.c1
         have e0:=TA.c0
         have e1:=TA.c1
         have e2:=TA.f 0
         have e3:=TA.f 1
         clear TB TA RB OO
         go_wp2_with fail
         all_goals
          refine bodyPost_ret (ret_num rfl _ _ w.heap.size rfl rfl rfl (HA.out.set _ _)) rfl ?_
          exact ⟨by rw [HB.out];exact ⟨_,_,rfl,RN.two HA.out HV.out _ _⟩,(HO.out.setCell (p:=⟨w.heap.size,0,none⟩) (Nat.le_refl _) _).setCell (p:=⟨w.heap.size,1,none⟩) (Nat.le_refl _) _⟩
       | some p=>
         obtain ⟨P,hP⟩:∃ P,P=ptI 1 (some p):=⟨_,rfl⟩
         rw [←hP]
         have hP0:¬ P<0:=by rw [hP];show ¬ ((1+p:Nat):Int)<0;omega
         clear hP
         obtain ⟨⟨nb,ob,lb,cb,TB,RB⟩,TA,OO⟩:=HNR.out
         have HT:=hid TB
         have HA:=hid TA
         have HV:=hid RB
         have HO:=hid OO
         have d0:=TB.c0
         have d1:=TB.c1
         have e0:=TA.c0
         have e1:=TA.c1
         have e2:=TA.f 0
         have e3:=TA.f 1
         clear TB TA RB OO
         go_wp2_with fail
         all_goals
          refine bodyPost_ret (ret_num rfl _ _ w.heap.size rfl rfl rfl (HA.out.set _ _)) rfl ?_
          exact ⟨by rw [HB.out];exact ⟨_,_,rfl,RN.two HA.out HV.out _ _⟩,(HO.out.setCell (p:=⟨w.heap.size,0,none⟩) (Nat.le_refl _) _).setCell (p:=⟨w.heap.size,1,none⟩) (Nat.le_refl _) _⟩
      ·have h46b:(v==46)=false:=beq_false_of_ne h46
       generalize ptI 1 pt=P at *
       rcases hv with hv|hv
       ·have hv2:¬ 57<v:=by omega
        obtain ⟨⟨nb,ob,lb,cb,TB,RB⟩,TA,OO⟩:=HNR.out
        have HT:=hid TB
        have HA:=hid TA
        have HV:=hid RB
        have HO:=hid OO
        have d0:=TB.c0
        have d1:=TB.c1
        have e0:=TA.c0
        have e1:=TA.c1
        have e2:=TA.f 0
        have e3:=TA.f 1
        clear TB TA RB OO
        go_wp2_with fail
        all_goals
         refine bodyPost_ret (ret_num rfl _ _ w.heap.size rfl rfl rfl (HA.out.set _ _)) rfl ?_
         exact ⟨by rw [HB.out];exact ⟨_,_,rfl,RN.two HA.out HV.out _ _⟩,(HO.out.setCell (p:=⟨w.heap.size,0,none⟩) (Nat.le_refl _) _).setCell (p:=⟨w.heap.size,1,none⟩) (Nat.le_refl _) _⟩
       ·have hv2:¬ v<48:=by omega
        obtain ⟨⟨nb,ob,lb,cb,TB,RB⟩,TA,OO⟩:=HNR.out
        have HT:=hid TB
        have HA:=hid TA
        have HV:=hid RB
        have HO:=hid OO
        have d0:=TB.c0
        have d1:=TB.c1
        have e0:=TA.c0
        have e1:=TA.c1
        have e2:=TA.f 0
        have e3:=TA.f 1
        clear TB TA RB OO
        go_wp2_with fail
        all_goals
         refine bodyPost_ret (ret_num rfl _ _ w.heap.size rfl rfl rfl (HA.out.set _ _)) rfl ?_
         exact ⟨by rw [HB.out];exact ⟨_,_,rfl,RN.two HA.out HV.out _ _⟩,(HO.out.setCell (p:=⟨w.heap.size,0,none⟩) (Nat.le_refl _) _).setCell (p:=⟨w.heap.size,1,none⟩) (Nat.le_refl _) _⟩
    | true=>
      rw [hdg,if_pos rfl] at hg
      have hv:48≤c.toNat∧c.toNat≤57:=by unfold dg8 at hdg;simpa using hdg
      obtain ⟨x2,hx2⟩:∃ x2,x2=x*10+(c.toNat-48):=⟨_,rfl⟩
      rw [←hx2] at hg
      have HX2:=hid (show x2<10^(k+1) by rw [hx2];exact pow_next HX.out (by omega))
      have HG2:=hid (show G=scN 0 (s.data.toList.drop (k+1)) x2 pt (k+1-1) by rw [hg,show k+1-1=k-1+1 by omega])
      have hxI:(x2:Int)=(x:Int)*10+((c.toNat:Int)-48):=by omega
      have i46:((c.toNat:Int)==46)=false:=beq_false_of_ne (by omega)
      have v1:¬ (c.toNat:Int)<48:=by omega
      have v2:¬ 57<(c.toNat:Int):=by omega
      have hv255:(c.toNat:Int)≤57:=by omega
      have hfar:=far_of HX.out (by omega)
      have hfar2:=far_of (pow_ten HX.out) (by omega)
      rw [Int.natCast_mul] at hfar2
      clear hg hd hdg hA hv
      generalize (c.toNat:Int)=v at *
      have HD:=hid (fun W=>ofI (v-48) W (by unfold I64;omega))
      have HMU:=hid (fun W y z (h1:RN W y (x:Int)) (h2:RN W z 10)=>mulS (x:Int) 10 y z W h1 h2 hfar lo_ten)
      have HAD:=hid (fun W y z (h1:RN W y ((x:Int)*10)) (h2:RN W z (v-48))=>addI ((x:Int)*10) (v-48) y z W h1 h2 (one_far hfar2) (i64_lo (show I64 (v-48) by unfold I64;omega)).sm)
      have HXI:=hid hxI
      obtain ⟨P,hP⟩:∃ P,P=ptI 1 pt:=⟨_,rfl⟩
      rw [←hP]
      have HP:=hid hP
      clear hP hfar hfar2 hxI
      have q1:IntKind.u8.wrap (v-48)=v-48:=by rw [IntKind.wrap_u8];omega
      have q2:IntKind.i64.wrap (v-48)=v-48:=by rw [IntKind.wrap_i64];omega
      go_upto_region 12 with fail
      obtain ⟨⟨nb,ob,lb,cb,TB,RB⟩,TA,OO⟩:=HNR.out
      have HT:=hid TB
      have HV:=hid RB
      have d0:=TB.c0
      have d1:=TB.c1
      clear TB TA RB OO
      go_region_with (first
       | (go_at_call 100;(with_reducible refine (HOF.out _).mono ?_);rintro e w1 ⟨z1,rfl,hz1,ho1⟩;have O1:=hid ((Old.refl _).drew.trans ho1);have Z1:=hid hz1;have p0:=(HT.out.old O1.out).c0;have p1:=(HT.out.old O1.out).c1;clear hz1 ho1)
       | (go_at_call 137;(with_reducible refine (HMU.out _ _ _ (HV.out.old O1.out) Z1.out).mono ?_);rintro e w2 ⟨z2,rfl,hz2,ho2⟩;have O2:=hid (O1.out.trans ho2);have Z2:=hid hz2;clear hz2 ho2)
       | (go_at_call 100;(with_reducible refine (HD.out _).mono ?_);rintro e w3 ⟨z3,rfl,hz3,ho3⟩;have O3:=hid (O2.out.trans ho3);have Z3:=hid hz3;have Y2:=hid (Z2.out.old ho3);clear hz3 ho3)
       | (go_at_call 136;(with_reducible refine (HAD.out _ _ _ Y2.out Z3.out).mono ?_);rintro e w4 ⟨z4,rfl,hz4,ho4⟩;obtain ⟨n4,o4,l4,c4,rfl⟩:=hz4.form;have O4:=hid (O3.out.trans ho4);have Z4:=hid hz4;have q0:=(HT.out.old O4.out).c0;have q1:=(HT.out.old O4.out).c1;have q2:=(HT.out.old O4.out).f 0;have q3:=(HT.out.old O4.out).f 1;clear hz4 ho4))
      all_goals
       have HN2:=HNR.out.put O4.out Z4.out
       rw [←HXI.out] at HN2
       have HN3:=hid HN2
       clear HN2
       go_wp2_with fail
       exact ⟨⟨k+1,pt,x2,by simp,by rw [HP.out],by omega,by omega,HX2,HG2,hid (fun p h=>Nat.lt_succ_of_lt (HPB.out p h)),HN3⟩,by simp only [RowKit.intOf];omega⟩
  ·have hks2:k=s.size:=by omega
   subst hks2
   have hg:=HG.out
   rw [drop_no (Nat.le_refl _),scN] at hg
   have hfar:=far_of HX.out (by omega)
   have HSM:=hid (one_far hfar)
   cases pt with
   | none=>
     have hpt:ptI 1 (none:Option Nat)=-1:=rfl
     rw [hpt]
     obtain ⟨n,hn⟩:∃ n,n=B.length:=⟨_,rfl⟩
     have hbad:nought B n=true→numOf B G=none:=fun h=>by rw [hg];show (if nought B B.length then none else some (x,false))=none;rw [←hn,if_pos h]
     have hgood:nought B n=false→numOf B G=some (x,false):=fun h=>by rw [hg];show (if nought B B.length then none else some (x,false))=some (x,false);rw [←hn,if_neg (by rw [h];exact Bool.false_ne_true)]
     clear hg hfar HX
     by_cases hn0:n=0
     ·have HB:=hid (show numOf B G=none from hbad (by unfold nought;rw [hn0];rfl))
      have hEF:(s.size:Int)=1:=by omega
      have hEb:((s.size:Int)==1)=true:=by rw [hEF];rfl
      clear hbad hgood
      try clear hPn
      obtain ⟨⟨nb,ob,lb,cb,TB,RB⟩,TA,OO⟩:=HNR.out
      have HT:=hid TB
      have HA:=hid TA
      have HV:=hid RB
      have HO:=hid OO
      have d0:=TB.c0
      have d1:=TB.c1
      have e0:=TA.c0
      have e1:=TA.c1
      have e2:=TA.f 0
      have e3:=TA.f 1
      clear TB TA RB OO
      go_wp2_with fail
      all_goals
       refine bodyPost_ret (ret_num rfl _ _ w.heap.size rfl rfl rfl (HA.out.set _ _)) rfl ?_
       exact ⟨by rw [HB.out];exact ⟨_,_,rfl,RN.two HA.out HV.out _ _⟩,(HO.out.setCell (p:=⟨w.heap.size,0,none⟩) (Nat.le_refl _) _).setCell (p:=⟨w.heap.size,1,none⟩) (Nat.le_refl _) _⟩
     ·obtain ⟨c1,hd1⟩:=drop_ex (s:=s) (k:=1) (by omega)
      have hx1:∀ W,(Instr.index 9 (.string s) (.int .i64 1)).run Tryz.prog W=.ok (.int .u8 (c1.toNat:Int)) W:=fun W=>idx_any s 1 c1 (drop_get hd1) W
      have hEF:¬ (s.size:Int)=1:=by omega
      have hEb:((s.size:Int)==1)=false:=beq_false_of_ne hEF
      have hhead:B.head?=some c1:=by rw [HBQ.out,hd1];rfl
      by_cases hc48:c1=48∧1<n
      ·have HB:=hid (show numOf B G=none from hbad (by unfold nought;rw [hhead,hc48.1,decide_eq_true hc48.2];simp))
       have hE1:(2:Int)<(s.size:Int):=by omega
       have hc1:=hc48.1
       subst hc1
       replace hx1:∀ W,(Instr.index 9 (.string s) (.int .i64 1)).run Tryz.prog W=.ok (.int .u8 48) W:=hx1
       clear hbad hgood hd1 hhead hc48
       try clear hPn
       obtain ⟨⟨nb,ob,lb,cb,TB,RB⟩,TA,OO⟩:=HNR.out
       have HT:=hid TB
       have HA:=hid TA
       have HV:=hid RB
       have HO:=hid OO
       have d0:=TB.c0
       have d1:=TB.c1
       have e0:=TA.c0
       have e1:=TA.c1
       have e2:=TA.f 0
       have e3:=TA.f 1
       clear TB TA RB OO
       go_wp2_with fail
       all_goals
        refine bodyPost_ret (ret_num rfl _ _ w.heap.size rfl rfl rfl (HA.out.set _ _)) rfl ?_
        exact ⟨by rw [HB.out];exact ⟨_,_,rfl,RN.two HA.out HV.out _ _⟩,(HO.out.setCell (p:=⟨w.heap.size,0,none⟩) (Nat.le_refl _) _).setCell (p:=⟨w.heap.size,1,none⟩) (Nat.le_refl _) _⟩
      ·have HB:=hid (hgood (by
        unfold nought
        rw [hhead]
        have e1:(n==0)=false:=beq_false_of_ne hn0
        rw [e1,Bool.false_or]
        by_cases h48:c1=48
        ·have:¬ 1<n:=fun h=>hc48 ⟨h48,h⟩
         rw [decide_eq_false this,Bool.and_false]
        ·have:(some c1==some (48:UInt8))=false:=by simpa using h48
         rw [this,Bool.false_and]))
       by_cases h48:c1=48
       ·have hE1:¬ (2:Int)<(s.size:Int):=fun h=>hc48 ⟨h48,by omega⟩
        subst h48
        replace hx1:∀ W,(Instr.index 9 (.string s) (.int .i64 1)).run Tryz.prog W=.ok (.int .u8 48) W:=hx1
        clear hbad hgood hd1 hhead hc48
        try clear hPn
        obtain ⟨⟨nb,ob,lb,cb,TB,RB⟩,TA,OO⟩:=HNR.out
        have HT:=hid TB
        have HV:=hid RB
        have d0:=TB.c0
        have d1:=TB.c1
        have d2:=TB.f 0
        have d3:=TB.f 1
        clear TB TA RB OO
        go_wp2_with (first
         | (go_at_call 138;refine (negI _ _ _ HV.out HSM.out).mono ?_;rintro e w5 ⟨z5,rfl,hz5,ho5⟩;obtain ⟨n5,o5,l5,c5,rfl⟩:=hz5.form;have HN5:=hid (HNR.out.put ho5 hz5);have g0:=(HT.out.old ho5).c0;have g1:=(HT.out.old ho5).c1;have g2:=(HT.out.old ho5).f 0;have g3:=(HT.out.old ho5).f 1;have k0:=HN5.out.1;obtain ⟨_,TA,OO⟩:=HN5.out;have HA:=hid TA;have HO:=hid OO;have e0:=TA.c0;have e1:=TA.c1;have e2:=TA.f 0;have e3:=TA.f 1;have TB:=((HT.out.old ho5).set (.bool n5) (.slice o5 l5 c5));have HT5:=hid TB;have HV5:=hid (RN.two (HT.out.old ho5) hz5 (.bool n5) (.slice o5 l5 c5));have j0:=TB.c0;have j1:=TB.c1;clear TA OO TB hz5 ho5 k0))
        all_goals
         refine bodyPost_ret (ret_num rfl _ _ w.heap.size rfl rfl rfl (HA.out.set _ _)) rfl ?_
         exact ⟨by rw [HB.out];exact ⟨_,rfl,RN.two HA.out HV5.out _ _⟩,(HO.out.setCell (p:=⟨w.heap.size,0,none⟩) (Nat.le_refl _) _).setCell (p:=⟨w.heap.size,1,none⟩) (Nat.le_refl _) _⟩
       ·have i48:((c1.toNat:Int)==48)=false:=beq_false_of_ne (u8_int (d:=48) h48)
        clear hbad hgood hd1 hhead hc48 h48
        try clear hPn
        generalize (c1.toNat:Int)=v1 at *
        obtain ⟨⟨nb,ob,lb,cb,TB,RB⟩,TA,OO⟩:=HNR.out
        have HT:=hid TB
        have HV:=hid RB
        have d0:=TB.c0
        have d1:=TB.c1
        have d2:=TB.f 0
        have d3:=TB.f 1
        clear TB TA RB OO
        go_wp2_with (first
         | (go_at_call 138;refine (negI _ _ _ HV.out HSM.out).mono ?_;rintro e w5 ⟨z5,rfl,hz5,ho5⟩;obtain ⟨n5,o5,l5,c5,rfl⟩:=hz5.form;have HN5:=hid (HNR.out.put ho5 hz5);have g0:=(HT.out.old ho5).c0;have g1:=(HT.out.old ho5).c1;have g2:=(HT.out.old ho5).f 0;have g3:=(HT.out.old ho5).f 1;have k0:=HN5.out.1;obtain ⟨_,TA,OO⟩:=HN5.out;have HA:=hid TA;have HO:=hid OO;have e0:=TA.c0;have e1:=TA.c1;have e2:=TA.f 0;have e3:=TA.f 1;have TB:=((HT.out.old ho5).set (.bool n5) (.slice o5 l5 c5));have HT5:=hid TB;have HV5:=hid (RN.two (HT.out.old ho5) hz5 (.bool n5) (.slice o5 l5 c5));have j0:=TB.c0;have j1:=TB.c1;clear TA OO TB hz5 ho5 k0))
        all_goals
         refine bodyPost_ret (ret_num rfl _ _ w.heap.size rfl rfl rfl (HA.out.set _ _)) rfl ?_
         exact ⟨by rw [HB.out];exact ⟨_,rfl,RN.two HA.out HV5.out _ _⟩,(HO.out.setCell (p:=⟨w.heap.size,0,none⟩) (Nat.le_refl _) _).setCell (p:=⟨w.heap.size,1,none⟩) (Nat.le_refl _) _⟩
   | some p=>
     have hpb:=HPB.out p rfl
     obtain ⟨P,hP⟩:∃ P:Nat,P=1+p:=⟨_,rfl⟩
     have hpt:ptI 1 (some p)=(P:Int):=by rw [hP];rfl
     rw [hpt]
     have hP0:¬ (P:Int)<0:=by omega
     have hP1:(0:Int)≤(P:Int):=by omega
     have hPs:P<s.size:=by omega
     obtain ⟨m,hm⟩:∃ m,m=B.length-p-1:=⟨_,rfl⟩
     have hmI:m=s.size-P-1:=by omega
     by_cases hbd:m<1∨4<m
     ·have HB:=hid (show numOf B G=none by rw [hg];show (if B.length-p-1<1∨4<B.length-p-1 then none else _)=none;rw [←hm,if_pos hbd])
      clear hg hfar HX hm
      rcases hbd with hbd|hbd
      ·have hD:(s.size:Int)-(P:Int)-1<1:=by omega
       clear hmI hpt hP hbd hpb
       obtain ⟨⟨nb,ob,lb,cb,TB,RB⟩,TA,OO⟩:=HNR.out
       have HT:=hid TB
       have HA:=hid TA
       have HV:=hid RB
       have HO:=hid OO
       have d0:=TB.c0
       have d1:=TB.c1
       have e0:=TA.c0
       have e1:=TA.c1
       have e2:=TA.f 0
       have e3:=TA.f 1
       clear TB TA RB OO
       go_wp2_with fail
       all_goals
        refine bodyPost_ret (ret_num rfl _ _ w.heap.size rfl rfl rfl (HA.out.set _ _)) rfl ?_
        exact ⟨by rw [HB.out];exact ⟨_,_,rfl,RN.two HA.out HV.out _ _⟩,(HO.out.setCell (p:=⟨w.heap.size,0,none⟩) (Nat.le_refl _) _).setCell (p:=⟨w.heap.size,1,none⟩) (Nat.le_refl _) _⟩
      ·have hD:¬ (s.size:Int)-(P:Int)-1<1:=by omega
       have hD2:4<(s.size:Int)-(P:Int)-1:=by omega
       clear hmI hpt hP hbd hpb
       obtain ⟨⟨nb,ob,lb,cb,TB,RB⟩,TA,OO⟩:=HNR.out
       have HT:=hid TB
       have HA:=hid TA
       have HV:=hid RB
       have HO:=hid OO
       have d0:=TB.c0
       have d1:=TB.c1
       have e0:=TA.c0
       have e1:=TA.c1
       have e2:=TA.f 0
       have e3:=TA.f 1
       clear TB TA RB OO
       go_wp2_with fail
       all_goals
        refine bodyPost_ret (ret_num rfl _ _ w.heap.size rfl rfl rfl (HA.out.set _ _)) rfl ?_
        exact ⟨by rw [HB.out];exact ⟨_,_,rfl,RN.two HA.out HV.out _ _⟩,(HO.out.setCell (p:=⟨w.heap.size,0,none⟩) (Nat.le_refl _) _).setCell (p:=⟨w.heap.size,1,none⟩) (Nat.le_refl _) _⟩
     ·have hm1:1≤m∧m≤4:=by omega
      have hD:¬ (s.size:Int)-(P:Int)-1<1:=by omega
      have hD2:¬ 4<(s.size:Int)-(P:Int)-1:=by omega
      have hDm:(s.size:Int)-(P:Int)-1=(m:Int):=by omega
      obtain ⟨n,hn⟩:∃ n,n=p:=⟨_,rfl⟩
      have hbad:nought B n=true→numOf B G=none:=fun h=>by rw [hg];show (if B.length-p-1<1∨4<B.length-p-1 then none else if nought B p then none else _)=none;rw [←hm,if_neg hbd,←hn,if_pos h]
      have hgood:nought B n=false→numOf B G=some (x*10^(4-m),true):=fun h=>by rw [hg];show (if B.length-p-1<1∨4<B.length-p-1 then none else if nought B p then none else some (x*10^(4-(B.length-p-1)),true))=_;rw [←hm,if_neg hbd,←hn,if_neg (by rw [h];exact Bool.false_ne_true)]
      have HMJ:=hid (fun (i:Nat) (hi:i≤4)=>far_of (pow_sh (i:=i) HX.out) (show s.size+i≤440 by omega))
      clear HSM
      have HSM:=hid (one_far (HMJ.out (4-m) (by omega)))
      have HN0:=hid (show Nr w ((x*10^(m-m):Nat):Int) wr by rw [Nat.sub_self,Nat.pow_zero,Nat.mul_one];exact HNR.out)
      have HPP:=hid hP
      have HNN:=hid hn
      clear hg hfar HX hm hmI hpt hbd HNR hpb hP hn
      go_wp2_with fail
      go_loopw [11] (fun v wr2=>∃ j:Nat,v=.int .i64 (j:Int)∧m≤j∧j≤4∧Hid (Nr w ((x*10^(j-m):Nat):Int) wr2)) (fun v _=>(4-RowKit.intOf v).toNat)
      case atStart=>exact ⟨m,by first|rfl|exact congrArg (Value.int .i64) hDm,by omega,by omega,HN0⟩
      case round=>
       clear HN0 hDm hD hD2
       obtain ⟨j,rfl,hmj,hj4,HNR⟩:=hrel
       rcases Nat.lt_or_ge j 4 with hj|hj
       ·have hfj:=HMJ.out (j-m) (by omega)
        have hX3:((x*10^(j+1-m):Nat):Int)=((x*10^(j-m):Nat):Int)*10:=by
         rw [show j+1-m=j-m+1 by omega,Nat.pow_succ,←Nat.mul_assoc,Int.natCast_mul]
         rfl
        have HX3:=hid hX3
        generalize ((x*10^(j-m):Nat):Int)=y at *
        have HMU:=hid (fun W a z (h1:RN W a y) (h2:RN W z 10)=>mulS y 10 a z W h1 h2 hfj lo_ten)
        clear hfj hX3 hbad hgood
        go_upto_region 21 with fail
        obtain ⟨⟨nb,ob,lb,cb,TB,RB⟩,TA,OO⟩:=HNR.out
        have HT:=hid TB
        have HV:=hid RB
        have d0:=TB.c0
        have d1:=TB.c1
        clear TB TA RB OO
        go_region_with (first
         | (go_at_call 100;(with_reducible refine (HOF.out _).mono ?_);rintro e w1 ⟨z1,rfl,hz1,ho1⟩;have O1:=hid ((Old.refl _).drew.trans ho1);have Z1:=hid hz1;have p0:=(HT.out.old O1.out).c0;have p1:=(HT.out.old O1.out).c1;clear hz1 ho1)
         | (go_at_call 137;(with_reducible refine (HMU.out _ _ _ (HV.out.old O1.out) Z1.out).mono ?_);rintro e w4 ⟨z4,rfl,hz4,ho4⟩;obtain ⟨n4,o4,l4,c4,rfl⟩:=hz4.form;have O4:=hid (O1.out.trans ho4);have Z4:=hid hz4;have q0:=(HT.out.old O4.out).c0;have q1:=(HT.out.old O4.out).c1;have q2:=(HT.out.old O4.out).f 0;have q3:=(HT.out.old O4.out).f 1;clear hz4 ho4))
        all_goals
         have HN2:=HNR.out.put O4.out Z4.out
         rw [←HX3.out] at HN2
         have HN3:=hid HN2
         clear HN2
         go_wp2_with fail
         exact ⟨⟨j+1,by simp,by omega,by omega,HN3⟩,by simp only [RowKit.intOf];omega⟩
       ·have hj5:j=4:=by omega
        subst hj5
        have hPn:P=1+n:=by rw [HNN.out];exact HPP.out
        by_cases hn0:n=0
        ·have HB:=hid (show numOf B G=none from hbad (by unfold nought;rw [hn0];rfl))
         have hEF:(P:Int)=1:=by omega
         have hEb:((P:Int)==1)=true:=by rw [hEF];rfl
         clear hbad hgood
         try clear hPn
         obtain ⟨⟨nb,ob,lb,cb,TB,RB⟩,TA,OO⟩:=HNR.out
         have HT:=hid TB
         have HA:=hid TA
         have HV:=hid RB
         have HO:=hid OO
         have d0:=TB.c0
         have d1:=TB.c1
         have e0:=TA.c0
         have e1:=TA.c1
         have e2:=TA.f 0
         have e3:=TA.f 1
         clear TB TA RB OO
         go_wp2_with fail
         all_goals
          refine bodyPost_ret (ret_num rfl _ _ w.heap.size rfl rfl rfl (HA.out.set _ _)) rfl ?_
          exact ⟨by rw [HB.out];exact ⟨_,_,rfl,RN.two HA.out HV.out _ _⟩,(HO.out.setCell (p:=⟨w.heap.size,0,none⟩) (Nat.le_refl _) _).setCell (p:=⟨w.heap.size,1,none⟩) (Nat.le_refl _) _⟩
        ·obtain ⟨c1,hd1⟩:=drop_ex (s:=s) (k:=1) (by omega)
         have hx1:∀ W,(Instr.index 9 (.string s) (.int .i64 1)).run Tryz.prog W=.ok (.int .u8 (c1.toNat:Int)) W:=fun W=>idx_any s 1 c1 (drop_get hd1) W
         have hEF:¬ (P:Int)=1:=by omega
         have hEb:((P:Int)==1)=false:=beq_false_of_ne hEF
         have hhead:B.head?=some c1:=by rw [HBQ.out,hd1];rfl
         by_cases hc48:c1=48∧1<n
         ·have HB:=hid (show numOf B G=none from hbad (by unfold nought;rw [hhead,hc48.1,decide_eq_true hc48.2];simp))
          have hE1:(2:Int)<(P:Int):=by omega
          have hc1:=hc48.1
          subst hc1
          replace hx1:∀ W,(Instr.index 9 (.string s) (.int .i64 1)).run Tryz.prog W=.ok (.int .u8 48) W:=hx1
          clear hbad hgood hd1 hhead hc48
          try clear hPn
          obtain ⟨⟨nb,ob,lb,cb,TB,RB⟩,TA,OO⟩:=HNR.out
          have HT:=hid TB
          have HA:=hid TA
          have HV:=hid RB
          have HO:=hid OO
          have d0:=TB.c0
          have d1:=TB.c1
          have e0:=TA.c0
          have e1:=TA.c1
          have e2:=TA.f 0
          have e3:=TA.f 1
          clear TB TA RB OO
          go_wp2_with fail
          all_goals
           refine bodyPost_ret (ret_num rfl _ _ w.heap.size rfl rfl rfl (HA.out.set _ _)) rfl ?_
           exact ⟨by rw [HB.out];exact ⟨_,_,rfl,RN.two HA.out HV.out _ _⟩,(HO.out.setCell (p:=⟨w.heap.size,0,none⟩) (Nat.le_refl _) _).setCell (p:=⟨w.heap.size,1,none⟩) (Nat.le_refl _) _⟩
         ·have HB:=hid (hgood (by
           unfold nought
           rw [hhead]
           have e1:(n==0)=false:=beq_false_of_ne hn0
           rw [e1,Bool.false_or]
           by_cases h48:c1=48
           ·have:¬ 1<n:=fun h=>hc48 ⟨h48,h⟩
            rw [decide_eq_false this,Bool.and_false]
           ·have:(some c1==some (48:UInt8))=false:=by simpa using h48
            rw [this,Bool.false_and]))
          by_cases h48:c1=48
          ·have hE1:¬ (2:Int)<(P:Int):=fun h=>hc48 ⟨h48,by omega⟩
           subst h48
           replace hx1:∀ W,(Instr.index 9 (.string s) (.int .i64 1)).run Tryz.prog W=.ok (.int .u8 48) W:=hx1
           clear hbad hgood hd1 hhead hc48
           try clear hPn
           obtain ⟨⟨nb,ob,lb,cb,TB,RB⟩,TA,OO⟩:=HNR.out
           have HT:=hid TB
           have HV:=hid RB
           have d0:=TB.c0
           have d1:=TB.c1
           have d2:=TB.f 0
           have d3:=TB.f 1
           clear TB TA RB OO
           go_wp2_with (first
            | (go_at_call 138;refine (negI _ _ _ HV.out HSM.out).mono ?_;rintro e w5 ⟨z5,rfl,hz5,ho5⟩;obtain ⟨n5,o5,l5,c5,rfl⟩:=hz5.form;have HN5:=hid (HNR.out.put ho5 hz5);have g0:=(HT.out.old ho5).c0;have g1:=(HT.out.old ho5).c1;have g2:=(HT.out.old ho5).f 0;have g3:=(HT.out.old ho5).f 1;have k0:=HN5.out.1;obtain ⟨_,TA,OO⟩:=HN5.out;have HA:=hid TA;have HO:=hid OO;have e0:=TA.c0;have e1:=TA.c1;have e2:=TA.f 0;have e3:=TA.f 1;have TB:=((HT.out.old ho5).set (.bool n5) (.slice o5 l5 c5));have HT5:=hid TB;have HV5:=hid (RN.two (HT.out.old ho5) hz5 (.bool n5) (.slice o5 l5 c5));have j0:=TB.c0;have j1:=TB.c1;clear TA OO TB hz5 ho5 k0))
           all_goals
            refine bodyPost_ret (ret_num rfl _ _ w.heap.size rfl rfl rfl (HA.out.set _ _)) rfl ?_
            exact ⟨by rw [HB.out];exact ⟨_,rfl,RN.two HA.out HV5.out _ _⟩,(HO.out.setCell (p:=⟨w.heap.size,0,none⟩) (Nat.le_refl _) _).setCell (p:=⟨w.heap.size,1,none⟩) (Nat.le_refl _) _⟩
          ·have i48:((c1.toNat:Int)==48)=false:=beq_false_of_ne (u8_int (d:=48) h48)
           clear hbad hgood hd1 hhead hc48 h48
           try clear hPn
           generalize (c1.toNat:Int)=v1 at *
           obtain ⟨⟨nb,ob,lb,cb,TB,RB⟩,TA,OO⟩:=HNR.out
           have HT:=hid TB
           have HV:=hid RB
           have d0:=TB.c0
           have d1:=TB.c1
           have d2:=TB.f 0
           have d3:=TB.f 1
           clear TB TA RB OO
           go_wp2_with (first
            | (go_at_call 138;refine (negI _ _ _ HV.out HSM.out).mono ?_;rintro e w5 ⟨z5,rfl,hz5,ho5⟩;obtain ⟨n5,o5,l5,c5,rfl⟩:=hz5.form;have HN5:=hid (HNR.out.put ho5 hz5);have g0:=(HT.out.old ho5).c0;have g1:=(HT.out.old ho5).c1;have g2:=(HT.out.old ho5).f 0;have g3:=(HT.out.old ho5).f 1;have k0:=HN5.out.1;obtain ⟨_,TA,OO⟩:=HN5.out;have HA:=hid TA;have HO:=hid OO;have e0:=TA.c0;have e1:=TA.c1;have e2:=TA.f 0;have e3:=TA.f 1;have TB:=((HT.out.old ho5).set (.bool n5) (.slice o5 l5 c5));have HT5:=hid TB;have HV5:=hid (RN.two (HT.out.old ho5) hz5 (.bool n5) (.slice o5 l5 c5));have j0:=TB.c0;have j1:=TB.c1;clear TA OO TB hz5 ho5 k0))
           all_goals
            refine bodyPost_ret (ret_num rfl _ _ w.heap.size rfl rfl rfl (HA.out.set _ _)) rfl ?_
            exact ⟨by rw [HB.out];exact ⟨_,rfl,RN.two HA.out HV5.out _ _⟩,(HO.out.setCell (p:=⟨w.heap.size,0,none⟩) (Nat.le_refl _) _).setCell (p:=⟨w.heap.size,1,none⟩) (Nat.le_refl _) _⟩
end Go.Proofs.YtmkmafkkpigfpaaGreatDoor
