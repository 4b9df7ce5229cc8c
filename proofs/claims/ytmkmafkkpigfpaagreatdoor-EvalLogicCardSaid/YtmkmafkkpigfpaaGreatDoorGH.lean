/- The document's Parse: symbols, strings, numbers; all texts. -/
import Derived.Test.YtmkmafkkpigfpaaGreatDoorGG
set_option maxHeartbeats 3200000
namespace Go.Proofs.YtmkmafkkpigfpaaGreatDoor
open Go.ChangeShapes Go.WideShapes Go.ChangeAt Go.RowKit Go.Lib
set_option linter.unusedVariables false
set_option linter.unusedSimpArgs false
set_option maxRecDepth 100000
theorem scN_lt (F:Nat):∀ (r:List UInt8) (x:Nat) (pt:Option Nat) (k y:Nat) (q:Option Nat),scN F r x pt k=some (y,q)→x<10^k→y<10^(k+r.length)
 | [],x,pt,k,y,q,h,hx=>by
   rw [scN] at h
   injection h with h
   injection h with h _
   rw [←h];exact hx
 | c::r,x,pt,k,y,q,h,hx=>by
   rw [scN] at h
   rw [List.length_cons,show k+(r.length+1)=k+1+r.length by omega]
   split at h
   ·exact scN_lt F r x _ (k+1) y q h (Nat.lt_of_lt_of_le hx (Nat.pow_le_pow_right (by omega) (by omega)))
   split at h
   ·next hd=>
    have:c.toNat≤57:=by unfold dg8 at hd;simp at hd;omega
    exact scN_lt F r _ _ (k+1) y q h (pow_next hx (by omega))
   ·cases h
theorem numB_lt {B:List UInt8} {x:Nat} {d:Bool} (h:numB B=some (x,d)):x<10^(B.length+4):=by
 rw [numB_of] at h
 cases hs:scN 0 B 0 none 0 with
 | none=>rw [hs] at h;cases h
 | some p=>
   obtain ⟨y,q⟩:=p
   have hy:=scN_lt 0 B 0 none 0 y q hs (by decide)
   rw [Nat.zero_add] at hy
   rw [hs] at h
   cases q with
   | none=>
     unfold numOf at h
     simp only at h
     split at h
     ·cases h
     ·injection h with h
      injection h with h _
      rw [←h]
      exact Nat.lt_of_lt_of_le hy (Nat.pow_le_pow_right (by omega) (by omega))
   | some p=>
     unfold numOf at h
     simp only at h
     split at h
     ·cases h
     ·split at h
      ·cases h
      ·injection h with h
       injection h with h _
       rw [←h]
       exact Nat.lt_of_lt_of_le (pow_sh hy) (Nat.pow_le_pow_right (by omega) (by omega))
theorem rparse_sym (l:List UInt8) (hl:l.length≤402) (r:List UInt8) (hlr:l=35::r) (hn1:l≠[116,114,117,101]) (hn2:l≠[102,97,108,115,101]) (hn3:l≠[110,117,108,108]) (w:World) (t0:Rd3) (ht0:t0=stageL l):Calls Tryz.prog 43 #[.string (st l)] w fun e w'=>e=rd (finL l t0)∧Old w w':=by
 have H0:=hid (pq0 w)
 have h73:=fun W=>rnumber_any (st l) (by rw [st_len];exact hl) W
 have hle:¬ (402:Int)<(l.length:Int):=by omega
 have e1:(l==[116,114,117,101])=false:=beq_false_of_ne hn1
 have e2:(l==[102,97,108,115,101])=false:=beq_false_of_ne hn2
 have e3:(l==[110,117,108,108])=false:=beq_false_of_ne hn3
 have hx0:∀ W,(Instr.index 9 (.string (st l)) (.int .i64 0)).run Tryz.prog W=.ok (.int .u8 35) W:=fun W=>idx_any (st l) 0 35 (by rw [hlr];rfl) W
 have hpos:(0:Int)<(l.length:Int):=by rw [hlr,List.length_cons];omega
 have hrl:r.length≤402:=by rw [hlr,List.length_cons] at hl;omega
 have hnb:numB (numTail l)=none:=by rw [hlr];exact numB_no (by decide)
 rw [hnb] at h73
 have hst:stageL l=⟨5,0,0,r⟩:=by
  unfold stageL
  rw [if_neg hn1,if_neg hn2,if_neg hn3,hlr]
  exact if_pos rfl
 rw [hst] at ht0
 have hK:(0:Int)≤5∧(5:Int)≤255:=by decide
 have hN:I64 0:=by decide
 have hsl:∀ W,(Instr.slice 9 (.string (st l)) (some (.int .i64 1)) none none).run Tryz.prog W=.ok (.string (st r)) W:=fun W=>by
  rw [run_slice_string_l W 9 (st l) Tryz.underlying9 .i64 1 (by omega) (by rw [st_len,hlr,List.length_cons];omega)]
  congr 2
  rw [st_len,hlr]
  exact ext1 _ _
 have hSz:(st r).size≤402:=by rw [st_len];exact hrl
 clear hnb hst hn1 hn2 hn3 hlr hrl
 have hmay:=fun W=>rmay_any (5) (0) (st r) W (by have:=hSz;unfold maxLen;omega)
 have htx:=fun W=>rtext_any (5) (0) (st r) hK hN (by omega) W
 obtain ⟨T,hT⟩:∃ T,T=textL (5) (0) (st r):=⟨_,rfl⟩
 rw [←hT] at htx
 cases hm:mayB (5) (0) (st r) with
 | false=>
   rw [hm] at hmay
   have hf:finL l t0=⟨0,0,4,[]⟩:=by rw [ht0];unfold finL;rw [if_neg (fun h=>h rfl),if_neg (fun h=>by rw [hm] at h;exact absurd h.1 (by decide))]
   rw [hf]
   clear hf hT hm htx ht0
   go_enter Tryz.func43,Tryz.ntmps43
   go_wp2_with (first
    | (go_at_call 92;(with_reducible refine (h73 _).mono ?_);rintro e w1 ⟨hr,o1⟩;obtain ⟨vv,nn,rfl,hv⟩:=hr;obtain ⟨ng,oa,la,ca,rfl⟩:=hv.form;have H1:=hid ((H0.out.old o1).old ((Old.refl _).alloc (.cells #[.bool ng,.slice oa la ca] 131)));clear hv o1;have a0:=H1.out.v.c0;have a1:=H1.out.v.c1;have a2:=H1.out.v.c2;have af0:=H1.out.v.f 0;have af1:=H1.out.v.f 1;have af2:=H1.out.v.f 2;have b0:=H1.out.r.c0;have b1:=H1.out.r.c1;have b2:=H1.out.r.c2;have bf0:=H1.out.r.f 0;have bf1:=H1.out.r.f 1;have bf2:=H1.out.r.f 2)
    | (go_at_call 10;(with_reducible refine (hmay _).mono ?_);rintro e w5 ⟨rfl,o5⟩;have H5:=hid ((H1.out.put 5 0 (st r)).old o5);clear o5;have p0:=H5.out.v.c0;have p1:=H5.out.v.c1;have p2:=H5.out.v.c2;have pf0:=H5.out.v.f 0;have pf1:=H5.out.v.f 1;have pf2:=H5.out.v.f 2;have q0:=H5.out.r.c0;have q1:=H5.out.r.c1;have q2:=H5.out.r.c2;have qf0:=H5.out.r.f 0;have qf1:=H5.out.r.f 1;have qf2:=H5.out.r.f 2))
   all_goals
    refine bodyPost_ret (ret_v rfl _ _ w.heap.size rfl rfl ((H5.out).r.set _ _ _)) rfl ?_
    exact ⟨rfl,old3 (H5.out).o (Nat.le_refl _) _ _ _⟩
 | true=>
   rw [hm] at hmay
   by_cases hq:T=l
   ·have hf:finL l t0=t0:=by rw [ht0];unfold finL;rw [if_neg (fun h=>h rfl),if_pos ⟨hm,by rw [←hT];exact hq⟩]
    rw [hf,ht0]
    subst hq
    clear hf hT hm ht0
    go_enter Tryz.func43,Tryz.ntmps43
    go_wp2_with (first
     | (go_at_call 92;(with_reducible refine (h73 _).mono ?_);rintro e w1 ⟨hr,o1⟩;obtain ⟨vv,nn,rfl,hv⟩:=hr;obtain ⟨ng,oa,la,ca,rfl⟩:=hv.form;have H1:=hid ((H0.out.old o1).old ((Old.refl _).alloc (.cells #[.bool ng,.slice oa la ca] 131)));clear hv o1;have a0:=H1.out.v.c0;have a1:=H1.out.v.c1;have a2:=H1.out.v.c2;have af0:=H1.out.v.f 0;have af1:=H1.out.v.f 1;have af2:=H1.out.v.f 2;have b0:=H1.out.r.c0;have b1:=H1.out.r.c1;have b2:=H1.out.r.c2;have bf0:=H1.out.r.f 0;have bf1:=H1.out.r.f 1;have bf2:=H1.out.r.f 2)
     | (go_at_call 10;(with_reducible refine (hmay _).mono ?_);rintro e w5 ⟨rfl,o5⟩;have H5:=hid ((H1.out.put 5 0 (st r)).old o5);clear o5;have p0:=H5.out.v.c0;have p1:=H5.out.v.c1;have p2:=H5.out.v.c2;have pf0:=H5.out.v.f 0;have pf1:=H5.out.v.f 1;have pf2:=H5.out.v.f 2;have q0:=H5.out.r.c0;have q1:=H5.out.r.c1;have q2:=H5.out.r.c2;have qf0:=H5.out.r.f 0;have qf1:=H5.out.r.f 1;have qf2:=H5.out.r.f 2)
     | (go_at_call 53;(with_reducible refine (htx _).mono ?_);rintro e w6 ⟨rfl,o6⟩;have H6:=hid (H5.out.old o6);clear o6;have r0:=H6.out.v.c0;have r1:=H6.out.v.c1;have r2:=H6.out.v.c2;have rf0:=H6.out.v.f 0;have rf1:=H6.out.v.f 1;have rf2:=H6.out.v.f 2;have s0:=H6.out.r.c0;have s1:=H6.out.r.c1;have s2:=H6.out.r.c2;have sf0:=H6.out.r.f 0;have sf1:=H6.out.r.f 1;have sf2:=H6.out.r.f 2))
    all_goals
     refine bodyPost_ret (ret_v rfl _ _ w.heap.size rfl rfl ((H6.out).r.set _ _ _)) rfl ?_
     exact ⟨rfl,old3 (H6.out).o (Nat.le_refl _) _ _ _⟩
   ·have hf:finL l t0=⟨0,0,4,[]⟩:=by rw [ht0];unfold finL;rw [if_neg (fun h=>h rfl),if_neg (fun h=>hq (hT.trans h.2))]
    rw [hf]
    have hq1:(T==l)=false:=beq_false_of_ne hq
    have hq2:(st T==st l)=false:=by rw [st_beqN];exact hq1
    clear hf hT hm ht0
    go_enter Tryz.func43,Tryz.ntmps43
    go_wp2_with (first
     | (go_at_call 92;(with_reducible refine (h73 _).mono ?_);rintro e w1 ⟨hr,o1⟩;obtain ⟨vv,nn,rfl,hv⟩:=hr;obtain ⟨ng,oa,la,ca,rfl⟩:=hv.form;have H1:=hid ((H0.out.old o1).old ((Old.refl _).alloc (.cells #[.bool ng,.slice oa la ca] 131)));clear hv o1;have a0:=H1.out.v.c0;have a1:=H1.out.v.c1;have a2:=H1.out.v.c2;have af0:=H1.out.v.f 0;have af1:=H1.out.v.f 1;have af2:=H1.out.v.f 2;have b0:=H1.out.r.c0;have b1:=H1.out.r.c1;have b2:=H1.out.r.c2;have bf0:=H1.out.r.f 0;have bf1:=H1.out.r.f 1;have bf2:=H1.out.r.f 2)
     | (go_at_call 10;(with_reducible refine (hmay _).mono ?_);rintro e w5 ⟨rfl,o5⟩;have H5:=hid ((H1.out.put 5 0 (st r)).old o5);clear o5;have p0:=H5.out.v.c0;have p1:=H5.out.v.c1;have p2:=H5.out.v.c2;have pf0:=H5.out.v.f 0;have pf1:=H5.out.v.f 1;have pf2:=H5.out.v.f 2;have q0:=H5.out.r.c0;have q1:=H5.out.r.c1;have q2:=H5.out.r.c2;have qf0:=H5.out.r.f 0;have qf1:=H5.out.r.f 1;have qf2:=H5.out.r.f 2)
     | (go_at_call 53;(with_reducible refine (htx _).mono ?_);rintro e w6 ⟨rfl,o6⟩;have H6:=hid (H5.out.old o6);clear o6;have r0:=H6.out.v.c0;have r1:=H6.out.v.c1;have r2:=H6.out.v.c2;have rf0:=H6.out.v.f 0;have rf1:=H6.out.v.f 1;have rf2:=H6.out.v.f 2;have s0:=H6.out.r.c0;have s1:=H6.out.r.c1;have s2:=H6.out.r.c2;have sf0:=H6.out.r.f 0;have sf1:=H6.out.r.f 1;have sf2:=H6.out.r.f 2))
    all_goals
     refine bodyPost_ret (ret_v rfl _ _ w.heap.size rfl rfl ((H6.out).r.set _ _ _)) rfl ?_
     exact ⟨rfl,old3 (H6.out).o (Nat.le_refl _) _ _ _⟩
theorem inR_len:∀ r:List UInt8,(inR r).length≤r.length
 | []=>Nat.le_refl _
 | [_]=>Nat.zero_le _
 | c::d::r=>by
   rw [inR]
   split
   ·have:=inR_len r;simp only [List.length_cons];omega
   ·have:=inR_len (d::r);simp only [List.length_cons] at this ⊢;omega
theorem rparse_str (l:List UInt8) (hl:l.length≤402) (r:List UInt8) (hlr:l=34::r) (hn1:l≠[116,114,117,101]) (hn2:l≠[102,97,108,115,101]) (hn3:l≠[110,117,108,108]) (w:World) (t0:Rd3) (ht0:t0=stageL l):Calls Tryz.prog 43 #[.string (st l)] w fun e w'=>e=rd (finL l t0)∧Old w w':=by
 have H0:=hid (pq0 w)
 have h73:=fun W=>rnumber_any (st l) (by rw [st_len];exact hl) W
 have hle:¬ (402:Int)<(l.length:Int):=by omega
 have e1:(l==[116,114,117,101])=false:=beq_false_of_ne hn1
 have e2:(l==[102,97,108,115,101])=false:=beq_false_of_ne hn2
 have e3:(l==[110,117,108,108])=false:=beq_false_of_ne hn3
 have hx0:∀ W,(Instr.index 9 (.string (st l)) (.int .i64 0)).run Tryz.prog W=.ok (.int .u8 34) W:=fun W=>idx_any (st l) 0 34 (by rw [hlr];rfl) W
 have hpos:(0:Int)<(l.length:Int):=by rw [hlr,List.length_cons];omega
 have hrl:r.length≤402:=by rw [hlr,List.length_cons] at hl;omega
 have hnb:numB (numTail l)=none:=by rw [hlr];exact numB_no (by decide)
 rw [hnb] at h73
 have hst:stageL l=⟨3,0,0,inR r⟩:=by
  unfold stageL
  rw [if_neg hn1,if_neg hn2,if_neg hn3,hlr]
  rw [if_neg (by simp)];exact if_pos rfl
 rw [hst] at ht0
 have hK:(0:Int)≤3∧(3:Int)≤255:=by decide
 have hN:I64 0:=by decide
 have h75:∀ W,Calls Tryz.prog 94 #[.string (st l)] W fun e w'=>e=.returned (.string (st (inR r)))∧W=w':=fun W=>by
  have:=rinner_any (st l) (by rw [st_len];exact hl) W
  rw [show (st l).data.toList.drop 1=r by rw [hlr];rfl] at this
  exact this
 have hin:(inR r).length≤402:=Nat.le_trans (inR_len r) hrl
 have hSz:(st (inR r)).size≤402:=by rw [st_len];exact hin
 clear hnb hst hn1 hn2 hn3 hlr hrl hin
 have hmay:=fun W=>rmay_any (3) (0) (st (inR r)) W (by have:=hSz;unfold maxLen;omega)
 have htx:=fun W=>rtext_any (3) (0) (st (inR r)) hK hN (by omega) W
 obtain ⟨T,hT⟩:∃ T,T=textL (3) (0) (st (inR r)):=⟨_,rfl⟩
 rw [←hT] at htx
 cases hm:mayB (3) (0) (st (inR r)) with
 | false=>
   rw [hm] at hmay
   have hf:finL l t0=⟨0,0,4,[]⟩:=by rw [ht0];unfold finL;rw [if_neg (fun h=>h rfl),if_neg (fun h=>by rw [hm] at h;exact absurd h.1 (by decide))]
   rw [hf]
   clear hf hT hm htx ht0
   go_enter Tryz.func43,Tryz.ntmps43
   go_wp2_with (first
    | (go_at_call 92;(with_reducible refine (h73 _).mono ?_);rintro e w1 ⟨hr,o1⟩;obtain ⟨vv,nn,rfl,hv⟩:=hr;obtain ⟨ng,oa,la,ca,rfl⟩:=hv.form;have H1:=hid ((H0.out.old o1).old ((Old.refl _).alloc (.cells #[.bool ng,.slice oa la ca] 131)));clear hv o1;have a0:=H1.out.v.c0;have a1:=H1.out.v.c1;have a2:=H1.out.v.c2;have af0:=H1.out.v.f 0;have af1:=H1.out.v.f 1;have af2:=H1.out.v.f 2;have b0:=H1.out.r.c0;have b1:=H1.out.r.c1;have b2:=H1.out.r.c2;have bf0:=H1.out.r.f 0;have bf1:=H1.out.r.f 1;have bf2:=H1.out.r.f 2)
    | (go_at_call 94;(with_reducible refine (h75 _).mono ?_);rintro e w4 ⟨rfl,rfl⟩)
    | (go_at_call 10;(with_reducible refine (hmay _).mono ?_);rintro e w5 ⟨rfl,o5⟩;have H5:=hid ((H1.out.put 3 0 (st (inR r))).old o5);clear o5;have p0:=H5.out.v.c0;have p1:=H5.out.v.c1;have p2:=H5.out.v.c2;have pf0:=H5.out.v.f 0;have pf1:=H5.out.v.f 1;have pf2:=H5.out.v.f 2;have q0:=H5.out.r.c0;have q1:=H5.out.r.c1;have q2:=H5.out.r.c2;have qf0:=H5.out.r.f 0;have qf1:=H5.out.r.f 1;have qf2:=H5.out.r.f 2))
   all_goals
    refine bodyPost_ret (ret_v rfl _ _ w.heap.size rfl rfl ((H5.out).r.set _ _ _)) rfl ?_
    exact ⟨rfl,old3 (H5.out).o (Nat.le_refl _) _ _ _⟩
 | true=>
   rw [hm] at hmay
   by_cases hq:T=l
   ·have hf:finL l t0=t0:=by rw [ht0];unfold finL;rw [if_neg (fun h=>h rfl),if_pos ⟨hm,by rw [←hT];exact hq⟩]
    rw [hf,ht0]
    subst hq
    clear hf hT hm ht0
    go_enter Tryz.func43,Tryz.ntmps43
    go_wp2_with (first
     | (go_at_call 92;(with_reducible refine (h73 _).mono ?_);rintro e w1 ⟨hr,o1⟩;obtain ⟨vv,nn,rfl,hv⟩:=hr;obtain ⟨ng,oa,la,ca,rfl⟩:=hv.form;have H1:=hid ((H0.out.old o1).old ((Old.refl _).alloc (.cells #[.bool ng,.slice oa la ca] 131)));clear hv o1;have a0:=H1.out.v.c0;have a1:=H1.out.v.c1;have a2:=H1.out.v.c2;have af0:=H1.out.v.f 0;have af1:=H1.out.v.f 1;have af2:=H1.out.v.f 2;have b0:=H1.out.r.c0;have b1:=H1.out.r.c1;have b2:=H1.out.r.c2;have bf0:=H1.out.r.f 0;have bf1:=H1.out.r.f 1;have bf2:=H1.out.r.f 2)
     | (go_at_call 94;(with_reducible refine (h75 _).mono ?_);rintro e w4 ⟨rfl,rfl⟩)
     | (go_at_call 10;(with_reducible refine (hmay _).mono ?_);rintro e w5 ⟨rfl,o5⟩;have H5:=hid ((H1.out.put 3 0 (st (inR r))).old o5);clear o5;have p0:=H5.out.v.c0;have p1:=H5.out.v.c1;have p2:=H5.out.v.c2;have pf0:=H5.out.v.f 0;have pf1:=H5.out.v.f 1;have pf2:=H5.out.v.f 2;have q0:=H5.out.r.c0;have q1:=H5.out.r.c1;have q2:=H5.out.r.c2;have qf0:=H5.out.r.f 0;have qf1:=H5.out.r.f 1;have qf2:=H5.out.r.f 2)
     | (go_at_call 53;(with_reducible refine (htx _).mono ?_);rintro e w6 ⟨rfl,o6⟩;have H6:=hid (H5.out.old o6);clear o6;have r0:=H6.out.v.c0;have r1:=H6.out.v.c1;have r2:=H6.out.v.c2;have rf0:=H6.out.v.f 0;have rf1:=H6.out.v.f 1;have rf2:=H6.out.v.f 2;have s0:=H6.out.r.c0;have s1:=H6.out.r.c1;have s2:=H6.out.r.c2;have sf0:=H6.out.r.f 0;have sf1:=H6.out.r.f 1;have sf2:=H6.out.r.f 2))
    all_goals
     refine bodyPost_ret (ret_v rfl _ _ w.heap.size rfl rfl ((H6.out).r.set _ _ _)) rfl ?_
     exact ⟨rfl,old3 (H6.out).o (Nat.le_refl _) _ _ _⟩
   ·have hf:finL l t0=⟨0,0,4,[]⟩:=by rw [ht0];unfold finL;rw [if_neg (fun h=>h rfl),if_neg (fun h=>hq (hT.trans h.2))]
    rw [hf]
    have hq1:(T==l)=false:=beq_false_of_ne hq
    have hq2:(st T==st l)=false:=by rw [st_beqN];exact hq1
    clear hf hT hm ht0
    go_enter Tryz.func43,Tryz.ntmps43
    go_wp2_with (first
     | (go_at_call 92;(with_reducible refine (h73 _).mono ?_);rintro e w1 ⟨hr,o1⟩;obtain ⟨vv,nn,rfl,hv⟩:=hr;obtain ⟨ng,oa,la,ca,rfl⟩:=hv.form;have H1:=hid ((H0.out.old o1).old ((Old.refl _).alloc (.cells #[.bool ng,.slice oa la ca] 131)));clear hv o1;have a0:=H1.out.v.c0;have a1:=H1.out.v.c1;have a2:=H1.out.v.c2;have af0:=H1.out.v.f 0;have af1:=H1.out.v.f 1;have af2:=H1.out.v.f 2;have b0:=H1.out.r.c0;have b1:=H1.out.r.c1;have b2:=H1.out.r.c2;have bf0:=H1.out.r.f 0;have bf1:=H1.out.r.f 1;have bf2:=H1.out.r.f 2)
     | (go_at_call 94;(with_reducible refine (h75 _).mono ?_);rintro e w4 ⟨rfl,rfl⟩)
     | (go_at_call 10;(with_reducible refine (hmay _).mono ?_);rintro e w5 ⟨rfl,o5⟩;have H5:=hid ((H1.out.put 3 0 (st (inR r))).old o5);clear o5;have p0:=H5.out.v.c0;have p1:=H5.out.v.c1;have p2:=H5.out.v.c2;have pf0:=H5.out.v.f 0;have pf1:=H5.out.v.f 1;have pf2:=H5.out.v.f 2;have q0:=H5.out.r.c0;have q1:=H5.out.r.c1;have q2:=H5.out.r.c2;have qf0:=H5.out.r.f 0;have qf1:=H5.out.r.f 1;have qf2:=H5.out.r.f 2)
     | (go_at_call 53;(with_reducible refine (htx _).mono ?_);rintro e w6 ⟨rfl,o6⟩;have H6:=hid (H5.out.old o6);clear o6;have r0:=H6.out.v.c0;have r1:=H6.out.v.c1;have r2:=H6.out.v.c2;have rf0:=H6.out.v.f 0;have rf1:=H6.out.v.f 1;have rf2:=H6.out.v.f 2;have s0:=H6.out.r.c0;have s1:=H6.out.r.c1;have s2:=H6.out.r.c2;have sf0:=H6.out.r.f 0;have sf1:=H6.out.r.f 1;have sf2:=H6.out.r.f 2))
    all_goals
     refine bodyPost_ret (ret_v rfl _ _ w.heap.size rfl rfl ((H6.out).r.set _ _ _)) rfl ?_
     exact ⟨rfl,old3 (H6.out).o (Nat.le_refl _) _ _ _⟩
end Go.Proofs.YtmkmafkkpigfpaaGreatDoor
