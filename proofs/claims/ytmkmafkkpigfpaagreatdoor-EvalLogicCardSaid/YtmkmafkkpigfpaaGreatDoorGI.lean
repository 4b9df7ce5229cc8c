/- The document's Parse: numbers; all texts. -/
import Derived.Test.YtmkmafkkpigfpaaGreatDoorGH
set_option maxHeartbeats 3200000
namespace Go.Proofs.YtmkmafkkpigfpaaGreatDoor
open Go.ChangeShapes Go.WideShapes Go.ChangeAt Go.RowKit Go.Lib
set_option linter.unusedVariables false
set_option linter.unusedSimpArgs false
set_option maxRecDepth 100000
theorem rparse_none0 (l:List UInt8) (hl:l.length≤402) (hlr:l=[]) (hn1:l≠[116,114,117,101]) (hn2:l≠[102,97,108,115,101]) (hn3:l≠[110,117,108,108]) (h35:¬ l.head?=some 35) (h34:¬ l.head?=some 34) (hnb:numB (numTail l)=none) (w:World) (t0:Rd3) (ht0:t0=stageL l):Calls Tryz.prog 43 #[.string (st l)] w fun e w'=>e=rd (finL l t0)∧Old w w':=by
 have H0:=hid (pq0 w)
 have h73:=fun W=>rnumber_any (st l) (by rw [st_len];exact hl) W
 have hle:¬ (402:Int)<(l.length:Int):=by omega
 have e1:(l==[116,114,117,101])=false:=beq_false_of_ne hn1
 have e2:(l==[102,97,108,115,101])=false:=beq_false_of_ne hn2
 have e3:(l==[110,117,108,108])=false:=beq_false_of_ne hn3
 have hst:stageL l=⟨0,0,4,[]⟩:=by
  unfold stageL
  rw [if_neg hn1,if_neg hn2,if_neg hn3,if_neg h35,if_neg h34,hnb]
 rw [hst] at ht0
 rw [hnb] at h73
 have hf:finL l t0=⟨0,0,4,[]⟩:=by rw [ht0];rfl
 rw [hf]
 subst hlr
 clear hf ht0 hst hnb hn1 hn2 hn3 h35 h34
 go_enter Tryz.func43,Tryz.ntmps43
 go_wp2_with (first
  | (go_at_call 92;(with_reducible refine (h73 _).mono ?_);rintro e w1 ⟨hr,o1⟩;obtain ⟨vv,nn,rfl,hv⟩:=hr;obtain ⟨ng,oa,la,ca,rfl⟩:=hv.form;have H1:=hid ((H0.out.old o1).old ((Old.refl _).alloc (.cells #[.bool ng,.slice oa la ca] 131)));clear hv o1;have a0:=H1.out.v.c0;have a1:=H1.out.v.c1;have a2:=H1.out.v.c2;have af0:=H1.out.v.f 0;have af1:=H1.out.v.f 1;have af2:=H1.out.v.f 2;have b0:=H1.out.r.c0;have b1:=H1.out.r.c1;have b2:=H1.out.r.c2;have bf0:=H1.out.r.f 0;have bf1:=H1.out.r.f 1;have bf2:=H1.out.r.f 2))
 all_goals
  refine bodyPost_ret (ret_v rfl _ _ w.heap.size rfl rfl ((H1.out).r.set _ _ _)) rfl ?_
  exact ⟨rfl,old3 (H1.out).o (Nat.le_refl _) _ _ _⟩
theorem rparse_none (l:List UInt8) (hl:l.length≤402) (c:UInt8) (r:List UInt8) (hlr:l=c::r) (hn1:l≠[116,114,117,101]) (hn2:l≠[102,97,108,115,101]) (hn3:l≠[110,117,108,108]) (h35:¬ l.head?=some 35) (h34:¬ l.head?=some 34) (hnb:numB (numTail l)=none) (w:World) (t0:Rd3) (ht0:t0=stageL l):Calls Tryz.prog 43 #[.string (st l)] w fun e w'=>e=rd (finL l t0)∧Old w w':=by
 have H0:=hid (pq0 w)
 have h73:=fun W=>rnumber_any (st l) (by rw [st_len];exact hl) W
 have hle:¬ (402:Int)<(l.length:Int):=by omega
 have e1:(l==[116,114,117,101])=false:=beq_false_of_ne hn1
 have e2:(l==[102,97,108,115,101])=false:=beq_false_of_ne hn2
 have e3:(l==[110,117,108,108])=false:=beq_false_of_ne hn3
 have hst:stageL l=⟨0,0,4,[]⟩:=by
  unfold stageL
  rw [if_neg hn1,if_neg hn2,if_neg hn3,if_neg h35,if_neg h34,hnb]
 rw [hst] at ht0
 rw [hnb] at h73
 have hf:finL l t0=⟨0,0,4,[]⟩:=by rw [ht0];rfl
 rw [hf]
 have hx0:∀ W,(Instr.index 9 (.string (st l)) (.int .i64 0)).run Tryz.prog W=.ok (.int .u8 (c.toNat:Int)) W:=fun W=>idx_any (st l) 0 c (by rw [hlr];rfl) W
 have hpos:(0:Int)<(l.length:Int):=by rw [hlr,List.length_cons];omega
 have i35:((c.toNat:Int)==35)=false:=beq_false_of_ne (u8_int (d:=35) (fun e=>h35 (by rw [hlr,e];rfl)))
 have i34:((c.toNat:Int)==34)=false:=beq_false_of_ne (u8_int (d:=34) (fun e=>h34 (by rw [hlr,e];rfl)))
 clear hf ht0 hst hnb hn1 hn2 hn3 h35 h34 hlr
 generalize (c.toNat:Int)=v at *
 go_enter Tryz.func43,Tryz.ntmps43
 go_wp2_with (first
  | (go_at_call 92;(with_reducible refine (h73 _).mono ?_);rintro e w1 ⟨hr,o1⟩;obtain ⟨vv,nn,rfl,hv⟩:=hr;obtain ⟨ng,oa,la,ca,rfl⟩:=hv.form;have H1:=hid ((H0.out.old o1).old ((Old.refl _).alloc (.cells #[.bool ng,.slice oa la ca] 131)));clear hv o1;have a0:=H1.out.v.c0;have a1:=H1.out.v.c1;have a2:=H1.out.v.c2;have af0:=H1.out.v.f 0;have af1:=H1.out.v.f 1;have af2:=H1.out.v.f 2;have b0:=H1.out.r.c0;have b1:=H1.out.r.c1;have b2:=H1.out.r.c2;have bf0:=H1.out.r.f 0;have bf1:=H1.out.r.f 1;have bf2:=H1.out.r.f 2))
 all_goals
  refine bodyPost_ret (ret_v rfl _ _ w.heap.size rfl rfl ((H1.out).r.set _ _ _)) rfl ?_
  exact ⟨rfl,old3 (H1.out).o (Nat.le_refl _) _ _ _⟩
theorem rparse_nums {d:Bool} {k:Int} (hd:(d=false∧k=1)∨(d=true∧k=2)) (l:List UInt8) (hl:l.length≤402) (c:UInt8) (r:List UInt8) (hlr:l=c::r) (hn1:l≠[116,114,117,101]) (hn2:l≠[102,97,108,115,101]) (hn3:l≠[110,117,108,108]) (h35:¬ l.head?=some 35) (h34:¬ l.head?=some 34) (x:Nat) (hnb:numB (numTail l)=some (x,d)) (w:World) (t0:Rd3) (ht0:t0=stageL l):Calls Tryz.prog 43 #[.string (st l)] w fun e w'=>e=rd (finL l t0)∧Old w w':=by
 have H0:=hid (pq0 w)
 have h73:=fun W=>rnumber_any (st l) (by rw [st_len];exact hl) W
 have hle:¬ (402:Int)<(l.length:Int):=by omega
 have e1:(l==[116,114,117,101])=false:=beq_false_of_ne hn1
 have e2:(l==[102,97,108,115,101])=false:=beq_false_of_ne hn2
 have e3:(l==[110,117,108,108])=false:=beq_false_of_ne hn3
 obtain ⟨X,hX⟩:∃ X:Int,X=if l.head?==some 45 then -(x:Int) else (x:Int):=⟨_,rfl⟩
 have hst:stageL l=if I64 X then ⟨k,X,0,[]⟩ else ⟨0,0,9,[]⟩:=by
  unfold stageL
  rw [if_neg hn1,if_neg hn2,if_neg hn3,if_neg h35,if_neg h34,hnb,hX]
  rcases hd with ⟨rfl,rfl⟩|⟨rfl,rfl⟩<;>rfl
 rw [hst] at ht0
 have hfar:(X.natAbs:Int)<p10 110:=by
  have h1:=far_of (numB_lt hnb) (show (numTail l).length+4≤440 by
   have:(numTail l).length≤l.length:=by
    unfold numTail
    split
    ·rw [List.length_tail];omega
    ·exact Nat.le_refl _
   omega)
  rw [hX]
  split
  ·rw [Int.natAbs_neg];exact h1
  ·exact h1
 have h73':∀ W,Calls Tryz.prog 92 #[.string (st l)] W fun e w'=>(∃ v,e=.returned (.tuple #[v,.bool d,.bool true])∧RN w' v X)∧Old W w':=fun W=>by
  have:=h73 W
  rw [show (st l).data.toList=l from rfl,hnb] at this
  rw [hX]
  exact this
 clear h73
 have h73:=h73'
 clear h73'
 have hx0:∀ W,(Instr.index 9 (.string (st l)) (.int .i64 0)).run Tryz.prog W=.ok (.int .u8 (c.toNat:Int)) W:=fun W=>idx_any (st l) 0 c (by rw [hlr];rfl) W
 have hpos:(0:Int)<(l.length:Int):=by rw [hlr,List.length_cons];omega
 have i35:((c.toNat:Int)==35)=false:=beq_false_of_ne (u8_int (d:=35) (fun e=>h35 (by rw [hlr,e];rfl)))
 have i34:((c.toNat:Int)==34)=false:=beq_false_of_ne (u8_int (d:=34) (fun e=>h34 (by rw [hlr,e];rfl)))
 have h76:=fun W (h:RN W (.agg #[.bool (decide (X<0)),.slice none 0 0]) X)=>intS X _ W h hfar
 clear h76
 have h76:∀ (y:Value) (W:World),RN W y X→Calls Tryz.prog 95 #[y] W fun e w'=>e=pr (fitV X) (fitE X)∧Old W w':=fun y W h=>intS X _ W h hfar
 clear hst hnb hn1 hn2 hn3 h35 h34 hlr hX hfar
 generalize (c.toNat:Int)=v at *
 by_cases hI:I64 X
 ·rw [if_pos hI] at ht0
  have hK:(0:Int)≤k∧k≤255:=by omega
  have hN:=hI
  have hSz:(st []).size≤402:=by decide
  rw [fitV_in hI,fitE_in hI] at h76
  have H76:=hid h76
  clear h76
  have hmay:=fun W=>rmay_any k (X) (st []) W (by have:=hSz;unfold maxLen;omega)
  have htx:=fun W=>rtext_any k (X) (st []) hK hN (by omega) W
  obtain ⟨T,hT⟩:∃ T,T=textL k (X) (st []):=⟨_,rfl⟩
  rw [←hT] at htx
  cases hm:mayB k (X) (st []) with
  | false=>
    rw [hm] at hmay
    have hf:finL l t0=⟨0,0,4,[]⟩:=by rw [ht0];unfold finL;rw [if_neg (fun h=>h rfl),if_neg (fun h=>by rw [hm] at h;exact absurd h.1 (by decide))]
    rw [hf]
    clear hf hT hm htx ht0
    rcases hd with ⟨rfl,rfl⟩|⟨rfl,rfl⟩
    all_goals
     go_enter Tryz.func43,Tryz.ntmps43
     go_wp2_with (first
      | (go_at_call 92;(with_reducible refine (h73 _).mono ?_);rintro e w1 ⟨hr,o1⟩;obtain ⟨vv,rfl,hv⟩:=hr;obtain ⟨ng,oa,la,ca,rfl⟩:=hv.form;have H1:=hid ((H0.out.old o1).old ((Old.refl _).alloc (.cells #[.bool ng,.slice oa la ca] 131)));have HX:=hid (hv.old ((Old.refl _).alloc (.cells #[.bool ng,.slice oa la ca] 131)));have HB:=hid (Two.new w1 (.bool ng) (.slice oa la ca));clear hv o1;have x0:=HB.out.c0;have x1:=HB.out.c1;have a0:=H1.out.v.c0;have a1:=H1.out.v.c1;have a2:=H1.out.v.c2;have af0:=H1.out.v.f 0;have af1:=H1.out.v.f 1;have af2:=H1.out.v.f 2;have b0:=H1.out.r.c0;have b1:=H1.out.r.c1;have b2:=H1.out.r.c2;have bf0:=H1.out.r.f 0;have bf1:=H1.out.r.f 1;have bf2:=H1.out.r.f 2)
      | (go_at_call 95;(with_reducible refine (H76.out _ _ HX.out).mono ?_);rintro e w4 ⟨rfl,o4⟩;replace H1:=hid (H1.out.old o4);clear o4 a0 a1 a2 af0 af1 af2 b0 b1 b2 bf0 bf1 bf2;have a0:=H1.out.v.c0;have a1:=H1.out.v.c1;have a2:=H1.out.v.c2;have af0:=H1.out.v.f 0;have af1:=H1.out.v.f 1;have af2:=H1.out.v.f 2;have b0:=H1.out.r.c0;have b1:=H1.out.r.c1;have b2:=H1.out.r.c2;have bf0:=H1.out.r.f 0;have bf1:=H1.out.r.f 1;have bf2:=H1.out.r.f 2)
      | (go_at_call 10;(with_reducible refine (hmay _).mono ?_);rintro e w5 ⟨rfl,o5⟩;(first|have H5:=hid ((H1.out.put 1 X ⟨#[]⟩).old o5)|have H5:=hid (((H1.out.put 1 X ⟨#[]⟩).put0 2).old o5));clear o5;have p0:=H5.out.v.c0;have p1:=H5.out.v.c1;have p2:=H5.out.v.c2;have pf0:=H5.out.v.f 0;have pf1:=H5.out.v.f 1;have pf2:=H5.out.v.f 2;have q0:=H5.out.r.c0;have q1:=H5.out.r.c1;have q2:=H5.out.r.c2;have qf0:=H5.out.r.f 0;have qf1:=H5.out.r.f 1;have qf2:=H5.out.r.f 2))
     all_goals
      refine bodyPost_ret (ret_v rfl _ _ w.heap.size rfl rfl ((H5.out).r.set _ _ _)) rfl ?_
      exact ⟨rfl,old3 (H5.out).o (Nat.le_refl _) _ _ _⟩
  | true=>
    rw [hm] at hmay
    by_cases hq:T=l
    ·have hf:finL l t0=t0:=by rw [ht0];unfold finL;rw [if_neg (fun h=>h rfl),if_pos ⟨hm,by rw [←hT];exact hq⟩]
     rw [hf,ht0]
     subst hq
     clear hf hT hm ht0
     rcases hd with ⟨rfl,rfl⟩|⟨rfl,rfl⟩
     all_goals
      go_enter Tryz.func43,Tryz.ntmps43
      go_wp2_with (first
       | (go_at_call 92;(with_reducible refine (h73 _).mono ?_);rintro e w1 ⟨hr,o1⟩;obtain ⟨vv,rfl,hv⟩:=hr;obtain ⟨ng,oa,la,ca,rfl⟩:=hv.form;have H1:=hid ((H0.out.old o1).old ((Old.refl _).alloc (.cells #[.bool ng,.slice oa la ca] 131)));have HX:=hid (hv.old ((Old.refl _).alloc (.cells #[.bool ng,.slice oa la ca] 131)));have HB:=hid (Two.new w1 (.bool ng) (.slice oa la ca));clear hv o1;have x0:=HB.out.c0;have x1:=HB.out.c1;have a0:=H1.out.v.c0;have a1:=H1.out.v.c1;have a2:=H1.out.v.c2;have af0:=H1.out.v.f 0;have af1:=H1.out.v.f 1;have af2:=H1.out.v.f 2;have b0:=H1.out.r.c0;have b1:=H1.out.r.c1;have b2:=H1.out.r.c2;have bf0:=H1.out.r.f 0;have bf1:=H1.out.r.f 1;have bf2:=H1.out.r.f 2)
       | (go_at_call 95;(with_reducible refine (H76.out _ _ HX.out).mono ?_);rintro e w4 ⟨rfl,o4⟩;replace H1:=hid (H1.out.old o4);clear o4 a0 a1 a2 af0 af1 af2 b0 b1 b2 bf0 bf1 bf2;have a0:=H1.out.v.c0;have a1:=H1.out.v.c1;have a2:=H1.out.v.c2;have af0:=H1.out.v.f 0;have af1:=H1.out.v.f 1;have af2:=H1.out.v.f 2;have b0:=H1.out.r.c0;have b1:=H1.out.r.c1;have b2:=H1.out.r.c2;have bf0:=H1.out.r.f 0;have bf1:=H1.out.r.f 1;have bf2:=H1.out.r.f 2)
       | (go_at_call 10;(with_reducible refine (hmay _).mono ?_);rintro e w5 ⟨rfl,o5⟩;(first|have H5:=hid ((H1.out.put 1 X ⟨#[]⟩).old o5)|have H5:=hid (((H1.out.put 1 X ⟨#[]⟩).put0 2).old o5));clear o5;have p0:=H5.out.v.c0;have p1:=H5.out.v.c1;have p2:=H5.out.v.c2;have pf0:=H5.out.v.f 0;have pf1:=H5.out.v.f 1;have pf2:=H5.out.v.f 2;have q0:=H5.out.r.c0;have q1:=H5.out.r.c1;have q2:=H5.out.r.c2;have qf0:=H5.out.r.f 0;have qf1:=H5.out.r.f 1;have qf2:=H5.out.r.f 2)
       | (go_at_call 53;(with_reducible refine (htx _).mono ?_);rintro e w6 ⟨rfl,o6⟩;have H6:=hid (H5.out.old o6);clear o6;have r0:=H6.out.v.c0;have r1:=H6.out.v.c1;have r2:=H6.out.v.c2;have rf0:=H6.out.v.f 0;have rf1:=H6.out.v.f 1;have rf2:=H6.out.v.f 2;have s0:=H6.out.r.c0;have s1:=H6.out.r.c1;have s2:=H6.out.r.c2;have sf0:=H6.out.r.f 0;have sf1:=H6.out.r.f 1;have sf2:=H6.out.r.f 2))
      all_goals
       refine bodyPost_ret (ret_v rfl _ _ w.heap.size rfl rfl ((H6.out).r.set _ _ _)) rfl ?_
       exact ⟨rfl,old3 (H6.out).o (Nat.le_refl _) _ _ _⟩
    ·have hf:finL l t0=⟨0,0,4,[]⟩:=by rw [ht0];unfold finL;rw [if_neg (fun h=>h rfl),if_neg (fun h=>hq (hT.trans h.2))]
     rw [hf]
     have hq1:(T==l)=false:=beq_false_of_ne hq
     have hq2:(st T==st l)=false:=by rw [st_beqN];exact hq1
     clear hf hT hm ht0
     rcases hd with ⟨rfl,rfl⟩|⟨rfl,rfl⟩
     all_goals
      go_enter Tryz.func43,Tryz.ntmps43
      go_wp2_with (first
       | (go_at_call 92;(with_reducible refine (h73 _).mono ?_);rintro e w1 ⟨hr,o1⟩;obtain ⟨vv,rfl,hv⟩:=hr;obtain ⟨ng,oa,la,ca,rfl⟩:=hv.form;have H1:=hid ((H0.out.old o1).old ((Old.refl _).alloc (.cells #[.bool ng,.slice oa la ca] 131)));have HX:=hid (hv.old ((Old.refl _).alloc (.cells #[.bool ng,.slice oa la ca] 131)));have HB:=hid (Two.new w1 (.bool ng) (.slice oa la ca));clear hv o1;have x0:=HB.out.c0;have x1:=HB.out.c1;have a0:=H1.out.v.c0;have a1:=H1.out.v.c1;have a2:=H1.out.v.c2;have af0:=H1.out.v.f 0;have af1:=H1.out.v.f 1;have af2:=H1.out.v.f 2;have b0:=H1.out.r.c0;have b1:=H1.out.r.c1;have b2:=H1.out.r.c2;have bf0:=H1.out.r.f 0;have bf1:=H1.out.r.f 1;have bf2:=H1.out.r.f 2)
       | (go_at_call 95;(with_reducible refine (H76.out _ _ HX.out).mono ?_);rintro e w4 ⟨rfl,o4⟩;replace H1:=hid (H1.out.old o4);clear o4 a0 a1 a2 af0 af1 af2 b0 b1 b2 bf0 bf1 bf2;have a0:=H1.out.v.c0;have a1:=H1.out.v.c1;have a2:=H1.out.v.c2;have af0:=H1.out.v.f 0;have af1:=H1.out.v.f 1;have af2:=H1.out.v.f 2;have b0:=H1.out.r.c0;have b1:=H1.out.r.c1;have b2:=H1.out.r.c2;have bf0:=H1.out.r.f 0;have bf1:=H1.out.r.f 1;have bf2:=H1.out.r.f 2)
       | (go_at_call 10;(with_reducible refine (hmay _).mono ?_);rintro e w5 ⟨rfl,o5⟩;(first|have H5:=hid ((H1.out.put 1 X ⟨#[]⟩).old o5)|have H5:=hid (((H1.out.put 1 X ⟨#[]⟩).put0 2).old o5));clear o5;have p0:=H5.out.v.c0;have p1:=H5.out.v.c1;have p2:=H5.out.v.c2;have pf0:=H5.out.v.f 0;have pf1:=H5.out.v.f 1;have pf2:=H5.out.v.f 2;have q0:=H5.out.r.c0;have q1:=H5.out.r.c1;have q2:=H5.out.r.c2;have qf0:=H5.out.r.f 0;have qf1:=H5.out.r.f 1;have qf2:=H5.out.r.f 2)
       | (go_at_call 53;(with_reducible refine (htx _).mono ?_);rintro e w6 ⟨rfl,o6⟩;have H6:=hid (H5.out.old o6);clear o6;have r0:=H6.out.v.c0;have r1:=H6.out.v.c1;have r2:=H6.out.v.c2;have rf0:=H6.out.v.f 0;have rf1:=H6.out.v.f 1;have rf2:=H6.out.v.f 2;have s0:=H6.out.r.c0;have s1:=H6.out.r.c1;have s2:=H6.out.r.c2;have sf0:=H6.out.r.f 0;have sf1:=H6.out.r.f 1;have sf2:=H6.out.r.f 2))
      all_goals
       refine bodyPost_ret (ret_v rfl _ _ w.heap.size rfl rfl ((H6.out).r.set _ _ _)) rfl ?_
       exact ⟨rfl,old3 (H6.out).o (Nat.le_refl _) _ _ _⟩
 ·rw [if_neg hI] at ht0
  have hf:finL l t0=⟨0,0,9,[]⟩:=by rw [ht0];rfl
  rw [hf]
  rw [fitV_out hI,fitE_out hI] at h76
  have H76:=hid h76
  clear hf ht0 h76
  rcases hd with ⟨rfl,rfl⟩|⟨rfl,rfl⟩
  all_goals
   go_enter Tryz.func43,Tryz.ntmps43
   go_wp2_with (first
    | (go_at_call 92;(with_reducible refine (h73 _).mono ?_);rintro e w1 ⟨hr,o1⟩;obtain ⟨vv,rfl,hv⟩:=hr;obtain ⟨ng,oa,la,ca,rfl⟩:=hv.form;have H1:=hid ((H0.out.old o1).old ((Old.refl _).alloc (.cells #[.bool ng,.slice oa la ca] 131)));have HX:=hid (hv.old ((Old.refl _).alloc (.cells #[.bool ng,.slice oa la ca] 131)));have HB:=hid (Two.new w1 (.bool ng) (.slice oa la ca));clear hv o1;have x0:=HB.out.c0;have x1:=HB.out.c1;have a0:=H1.out.v.c0;have a1:=H1.out.v.c1;have a2:=H1.out.v.c2;have af0:=H1.out.v.f 0;have af1:=H1.out.v.f 1;have af2:=H1.out.v.f 2;have b0:=H1.out.r.c0;have b1:=H1.out.r.c1;have b2:=H1.out.r.c2;have bf0:=H1.out.r.f 0;have bf1:=H1.out.r.f 1;have bf2:=H1.out.r.f 2)
    | (go_at_call 95;(with_reducible refine (H76.out _ _ HX.out).mono ?_);rintro e w4 ⟨rfl,o4⟩;replace H1:=hid (H1.out.old o4);clear o4 a0 a1 a2 af0 af1 af2 b0 b1 b2 bf0 bf1 bf2;have a0:=H1.out.v.c0;have a1:=H1.out.v.c1;have a2:=H1.out.v.c2;have af0:=H1.out.v.f 0;have af1:=H1.out.v.f 1;have af2:=H1.out.v.f 2;have b0:=H1.out.r.c0;have b1:=H1.out.r.c1;have b2:=H1.out.r.c2;have bf0:=H1.out.r.f 0;have bf1:=H1.out.r.f 1;have bf2:=H1.out.r.f 2))
   all_goals
    refine bodyPost_ret (ret_v rfl _ _ w.heap.size rfl rfl ((H1.out).r.set _ _ _)) rfl ?_
    exact ⟨rfl,old3 (H1.out).o (Nat.le_refl _) _ _ _⟩
theorem rparse:RParse:=fun l W hl _=>by
 by_cases h4:402<l.length
 ·have:parseL l=⟨0,0,3,[]⟩:=by unfold parseL;rw [if_pos h4]
  rw [this]
  exact rparse_long l h4 hl W
 have hl4:l.length≤402:=by omega
 rw [←stage_parse l h4]
 by_cases hn1:l=[116,114,117,101]
 ·exact rparse_true l hl4 hn1 W _ rfl
 by_cases hn2:l=[102,97,108,115,101]
 ·exact rparse_false l hl4 hn2 W _ rfl
 by_cases hn3:l=[110,117,108,108]
 ·exact rparse_null l hl4 hn3 W _ rfl
 cases hlr:l with
 | nil=>
   subst hlr
   exact rparse_none0 [] hl4 rfl hn1 hn2 hn3 (by decide) (by decide) (by kernel_rfl) W _ rfl
 | cons c r=>
   by_cases h35:c=35
   ·rw [←hlr];exact rparse_sym l hl4 r (by rw [hlr,h35]) hn1 hn2 hn3 W _ rfl
   by_cases h34:c=34
   ·rw [←hlr];exact rparse_str l hl4 r (by rw [hlr,h34]) hn1 hn2 hn3 W _ rfl
   rw [←hlr]
   have k35:¬ l.head?=some 35:=by rw [hlr];simpa using h35
   have k34:¬ l.head?=some 34:=by rw [hlr];simpa using h34
   cases hnb:numB (numTail l) with
   | none=>exact rparse_none l hl4 c r hlr hn1 hn2 hn3 k35 k34 hnb W _ rfl
   | some p=>
     obtain ⟨x,d⟩:=p
     cases d with
     | false=>exact rparse_nums (.inl ⟨rfl,rfl⟩) l hl4 c r hlr hn1 hn2 hn3 k35 k34 x hnb W _ rfl
     | true=>exact rparse_nums (.inr ⟨rfl,rfl⟩) l hl4 c r hlr hn1 hn2 hn3 k35 k34 x hnb W _ rfl
end Go.Proofs.YtmkmafkkpigfpaaGreatDoor
