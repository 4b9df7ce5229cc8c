/- The document's lexer: Lex. Lex, its walk. The document's reader: its block; the next word. -/
import Derived.Test.YtmkmafkkpigfpaaGreatDoorFE
set_option maxHeartbeats 4000000
namespace Go.Proofs.YtmkmafkkpigfpaaGreatDoor
open Go.ChangeShapes Go.WideShapes Go.ChangeAt Go.RowKit Go.Lib
set_option linter.unusedVariables false
set_option linter.unusedSimpArgs false
set_option maxRecDepth 100000
theorem Wds.first {c:UInt8} {r:List UInt8} {L C:Nat} {T:List Tk} {E ln cl:Int} (h:Wds (c::r) L C T E ln cl) (h1:c≠32) (h2:c≠10) (h3:c≠59) :
 ((meanW (c::r)).2≠0∧T=[]∧E=(meanW (c::r)).2∧ln=(L:Int)∧cl=(C:Int))∨
 ((meanW (c::r)).2=0∧∃ T',T=(meanW (c::r)).1.at L C::T'∧Wds ((c::r).drop (wlen (c::r))) L (C+wlen (c::r)) T' E ln cl):=by
 have hs0:skipL false (c::r) L C=(c::r,L,C):=by
  rw [skipL,if_neg h1,if_neg h2,if_neg h3]
 generalize hl:c::r=l at *
 cases h with
 | done hs=>rw [hs0,←hl] at hs;cases hs
 | bad hs hm=>
   rw [hs0,←hl] at hs
   cases hs
   rw [hl] at hm ⊢
   exact Or.inl ⟨hm,rfl,rfl,rfl,rfl⟩
 | word hs hm hw=>
   rw [hs0,←hl] at hs
   cases hs
   rw [hl] at hm hw ⊢
   exact Or.inr ⟨hm,_,rfl,hw⟩
theorem Wds.sp {r:List UInt8} {L C:Nat} {T:List Tk} {E ln cl:Int} (h:Wds (32::r) L C T E ln cl):Wds r L (C+1) T E ln cl:=Wds.skip (show skipL false r L (C+1)=skipL false (32::r) L C from rfl) h
theorem Wds.nl {r:List UInt8} {L C:Nat} {T:List Tk} {E ln cl:Int} (h:Wds (10::r) L C T E ln cl):Wds r (L+1) 1 T E ln cl:=Wds.skip (show skipL false r (L+1) 1=skipL false (10::r) L C from rfl) h
theorem Wds.end {L C:Nat} {T:List Tk} {E ln cl:Int} (h:Wds [] L C T E ln cl):T=[]∧E=0∧ln=0∧cl=0:=by
 cases h with
 | done hs=>exact ⟨rfl,rfl,rfl,rfl⟩
 | bad hs hm=>rw [show skipL false [] L C=([],L,C) from rfl] at hs;cases hs
 | word hs hm hw=>rw [show skipL false [] L C=([],L,C) from rfl] at hs;cases hs
theorem skip_rem {r:List UInt8} {L C:Nat}:skipL false (59::r) L C=skipL true (59::r) L C:=rfl
theorem skip_in {c:UInt8} {r:List UInt8} {L C:Nat} (h:c≠10):skipL true (c::r) L C=skipL true r L (C+1):=by rw [skipL,if_neg h]
structure Lq (w A:World) (v:Value) (T:List Tk):Prop where
 old:Old w A
 p3:Pl A w.heap.size 0 0
 p6:Pl A (w.heap.size+1) 0 0
 row:A.ownsRow (w.heap.size+1+1) 64 7 v T.length (tcells T)
theorem Lq.oldw {w A A':World} {v:Value} {T:List Tk} (h:Lq w A v T) (ho:Old A A'):Lq w A' v T:=⟨h.old.trans ho,h.p3.old ho,h.p6.old ho,own_old h.row ho⟩
theorem Pl.new (w:World) (L C:Int):Pl (w.alloc (.cells #[.int .i64 L,.int .i64 C] 31)) w.heap.size L C:=(MapKept.heap_alloc w _).1
theorem lq0 (w:World):Lq w ((w.alloc (.cells #[.int .i64 0,.int .i64 0] 31)).alloc (.cells #[.int .i64 0,.int .i64 0] 31)) (.slice none 0 0) []:=by
 refine ⟨((Old.refl w).alloc _).alloc _,(Pl.new w 0 0).old ((Old.refl _).alloc _),?_,World.ownsRow_nil _ _ _ _⟩
 have h:=Pl.new (w.alloc (.cells #[.int .i64 0,.int .i64 0] 31)) 0 0
 rw [sz_alloc] at h
 exact h
theorem ret_pl {fn:Func} (hf:fn.results=#[.tmp 2,.cell 3 31,.tmp 4]) (tmps:Array Value) (W:World) (g3:Nat) {v e:Value} {a b:Int} (h2:tmps.getD 2 undef=v) (h3:tmps.getD 3 undef=.pointer (some ⟨g3,0,none⟩)) (h4:tmps.getD 4 undef=e)
 (H3:Pl W g3 a b):(results fn tmps).run Tryz.prog W=.ok (.tuple #[v,.agg #[.int .i64 a,.int .i64 b],e]) W:=by
 have h2':tmps[2]?.getD undef=v:=by simpa using h2
 have h3':tmps[3]?.getD undef=.pointer (some ⟨g3,0,none⟩):=by simpa using h3
 have h4':tmps[4]?.getD undef=e:=by simpa using h4
 have r3:=run_loadVar_row (P:=Tryz.prog) W g3 31 31 #[.int .i64 a,.int .i64 b] (0,0) _ H3 Tryz.underlying31 rfl size25
 simp [results,hf,Sem.run_bind,Result.andThen,h2',h3',h4',asAddr,r3]
abbrev lexQ (w:World) (T:List Tk) (E ln cl:Int) (e:Ending) (w':World):Prop:=
 (∃ v,e=.returned (.tuple #[v,.agg #[.int .i64 ln,.int .i64 cl],.int .i64 E])∧w'.ownsRow w.heap.size 64 7 v (if E=0 then T else []).length (tcells (if E=0 then T else [])))∧Old w w'
theorem Pl.far {w:World} {g p o:Nat} {L C:Int} (h:Pl w g L C) (hne:p≠g) (u:Value):Pl (w.setCell ⟨p,o,none⟩ u) g L C:=(far_heap hne).trans h
theorem lex_bad {w A:World} {v:Value} {T:List Tk} (H:Lq w A v T) (E ln cl:Int) (hE:E≠0) (T':List Tk):lexQ w T' E ln cl (.returned (.tuple #[.slice none 0 0,.agg #[.int .i64 ln,.int .i64 cl],.int .i64 E])) (((A.setCell ⟨w.heap.size,0,none⟩ (.int .i64 ln)).setCell ⟨w.heap.size,1,none⟩ (.int .i64 cl)).drew):=
 ⟨⟨_,rfl,by rw [if_neg hE];exact World.ownsRow_nil _ _ _ _⟩,((H.old.setCell (p:=⟨w.heap.size,0,none⟩) (Nat.le_refl _) _).setCell (p:=⟨w.heap.size,1,none⟩) (Nat.le_refl _) _).drew⟩
theorem own_drew {A:World} {base n size:Nat} {e:TypeId} {v:Value} {cs:List Value} (h:A.ownsRow base e size v n cs):A.drew.ownsRow base e size v n cs:=h
theorem lex_good {w A:World} {v:Value} {T:List Tk} (H:Lq w A v T):lexQ w T 0 0 0 (.returned (.tuple #[v,.agg #[.int .i64 0,.int .i64 0],.int .i64 0])) (((A.setCell ⟨w.heap.size,0,none⟩ (.int .i64 0)).setCell ⟨w.heap.size,1,none⟩ (.int .i64 0)).drew):=
 ⟨⟨_,rfl,by
   rw [if_pos rfl]
   exact own_drew (own_low (own_far (own_far H.row (b:=w.heap.size) H.p3 (by decide) _) (b:=w.heap.size) (Pl.set0 H.p3 _) (by decide) _) (by omega))⟩,((H.old.setCell (p:=⟨w.heap.size,0,none⟩) (Nat.le_refl _) _).setCell (p:=⟨w.heap.size,1,none⟩) (Nat.le_refl _) _).drew⟩
theorem grown_pl {W w':World} {base size n k:Nat} {v:Value} {cs:List Value} {ob:Array Value} {t:TypeId} {fr:Nat × Nat} (hk:W.heap[k]?=some (.cells ob t fr)) (hg:W.grownBy w' v.ownBlock) (ho:W.ownsRow base 64 size v n cs) (ht:t≠64):w'.heap[k]?=some (.cells ob t fr):=
 (hg.block k (blk_lt hk) (fun e=>by
   rcases ho.2 with ⟨rfl,_⟩|⟨g,cap,cur,rfl,h1,h2,_⟩
   ·simp [Value.ownBlock] at e
   ·have e1:k=g:=by simpa [Value.ownBlock] using e
    subst e1
    rw [hk] at h2
    injection h2 with h2
    injection h2 with _ e2 _
    exact ht e2)).trans hk
theorem own_row_lo {W:World} {base size n k:Nat} {v:Value} {cs:List Value} {e:TypeId} (h:W.ownsRow base e size v n cs) (hk:v.ownBlock=some k):base≤k:=by
 rcases h.2 with ⟨rfl,_⟩|⟨g,cap,cur,rfl,h1,_⟩
 ·simp [Value.ownBlock] at hk
 ·have:g=k:=by simpa [Value.ownBlock] using hk
  omega
theorem Lq.more {w A A':World} {v v':Value} {T:List Tk} (H:Lq w A v T) (x:Tk) (hrow:A'.ownsRow (w.heap.size+1+1) 64 7 v' (T.length+1) (tcells T++tcells [x])) (hg:A.grownBy A' v.ownBlock):Lq w A' v' (T++[x]):=
 ⟨H.old.grown hg (fun k hk=>Nat.le_trans (by omega) (own_row_lo H.row hk)),grown_pl H.p3 hg H.row (by decide),grown_pl H.p6 hg H.row (by decide),by rw [tcells_app,List.length_append];exact hrow⟩
theorem Pl.lt {w:World} {g:Nat} {L C:Int} (h:Pl w g L C):g<w.heap.size:=blk_lt h
def Lf (s:ByteArray) (k L B:Nat) (T TT:List Tk) (E ln cl:Int):Prop:=∃ T',TT=T++T'∧Wds (s.data.toList.drop k) L (k-B+1) T' E ln cl
theorem Lf.sp {s:ByteArray} {k L B:Nat} {T TT:List Tk} {E ln cl:Int} (h:Lf s k L B T TT E ln cl) (hd:s.data.toList.drop k=32::s.data.toList.drop (k+1)) (hB:B≤k):Lf s (k+1) L B T TT E ln cl:=by
 obtain ⟨T',e,hw⟩:=h
 rw [hd] at hw
 have:=hw.sp
 rw [show k-B+1+1=k+1-B+1 by omega] at this
 exact ⟨T',e,this⟩
theorem Lf.nl {s:ByteArray} {k L B:Nat} {T TT:List Tk} {E ln cl:Int} (h:Lf s k L B T TT E ln cl) (hd:s.data.toList.drop k=10::s.data.toList.drop (k+1)):Lf s (k+1) (L+1) (k+1) T TT E ln cl:=by
 obtain ⟨T',e,hw⟩:=h
 rw [hd] at hw
 refine ⟨T',e,?_⟩
 rw [show k+1-(k+1)+1=1 by omega]
 exact hw.nl
def Rm (s:ByteArray) (k L B j:Nat):Prop:=skipL false (s.data.toList.drop k) L (k-B+1)=skipL true (s.data.toList.drop j) L (j-B+1)
theorem Rm.go {s:ByteArray} {k L B j:Nat} {c:UInt8} (h:Rm s k L B j) (hd:s.data.toList.drop j=c::s.data.toList.drop (j+1)) (hc:c≠10) (hB:B≤j):Rm s k L B (j+1):=by
 unfold Rm at *
 rw [h,hd,skip_in hc,show j-B+1+1=j+1-B+1 by omega]
theorem Rm.out {s:ByteArray} {k L B j:Nat} {T TT:List Tk} {E ln cl:Int} (h:Rm s k L B j) (hl:Lf s k L B T TT E ln cl) (hd:s.data.toList.drop j=[]∨∃ r,s.data.toList.drop j=10::r):Lf s j L B T TT E ln cl:=by
 obtain ⟨T',e,hw⟩:=hl
 refine ⟨T',e,Wds.skip ?_ hw⟩
 unfold Rm at h
 rw [h]
 rcases hd with hd|⟨r,hd⟩
 ·rw [hd];rfl
 ·rw [hd];rfl
theorem rlex_any (RP:RParse) (s:ByteArray) (w:World) (hs:s.size≤65536) (he:Env w) (TT:List Tk) (E ln cl:Int) (hT:Wds s.data.toList 1 1 TT E ln cl) :
 Calls Tryz.prog 13 #[.string s] w fun e w'=>lexQ w TT E ln cl e w':=by
 have H0:=hid (lq0 w)
 have HE:=hid he
 have HR:=hid RP
 have hlen:=hT.len
 rw [Array.length_toList] at hlen
 have HT:=hid (show Lf s 0 1 0 [] TT E ln cl from ⟨TT,rfl,hT⟩)
 have hle:¬ (65536:Int)<(s.size:Int):=by omega
 have hlen2:TT.length≤65536:=Nat.le_trans hlen hs
 obtain ⟨i,hi,hz,hsz',hby⟩:=info_parts info33
 clear he RP hT hlen
 go_enter Tryz.func13,Tryz.ntmps13
 go_wp2_with fail
 go_loopw [5,7,8,9] (fun v5 v7 v8 v9 wr=>∃ (oa:Option Addr) (cap k L B:Nat) (T:List Tk),v5=.slice oa T.length cap∧v7=.int .i64 (L:Int)∧v8=.int .i64 (B:Int)∧v9=.int .i64 (k:Int)∧k≤s.size∧B≤k∧L≤k+1∧Hid (Lq w wr (.slice oa T.length cap) T)∧Hid (Lf s k L B T TT E ln cl)) (fun _ _ _ v9 _=>(s.size-RowKit.intOf v9).toNat)
 case atStart=>exact ⟨none,0,0,1,0,[],rfl,rfl,rfl,rfl,by omega,by omega,by omega,H0,HT⟩
 case round=>
  clear H0 HT
  obtain ⟨oa,cap,k,L,B,T,rfl,rfl,rfl,rfl,hk,hB,hL,HQ,HF⟩:=hrel
  rcases Nat.lt_or_ge k s.size with hks|hks
  ·obtain ⟨c,hd⟩:=drop_ex hks
   have hx:=fun W=>idx_any s k c (drop_get hd) W
   have HD:=hid hd
   clear hd
   by_cases h32:c=32
   ·subst h32
    replace hx:∀ W,(Instr.index 9 (.string s) (.int .i64 (k:Int))).run Tryz.prog W=.ok (.int .u8 32) W:=hx
    have HF2:=hid (HF.out.sp HD.out hB)
    go_wp2_with fail
    exact ⟨⟨oa,cap,k+1,L,B,T,rfl,by simp,by simp,by simp,by omega,by omega,by omega,HQ,HF2⟩,by simp only [RowKit.intOf];omega⟩
   by_cases h10:c=10
   ·subst h10
    replace hx:∀ W,(Instr.index 9 (.string s) (.int .i64 (k:Int))).run Tryz.prog W=.ok (.int .u8 10) W:=hx
    have HF2:=hid (HF.out.nl HD.out)
    go_wp2_with fail
    exact ⟨⟨oa,cap,k+1,L+1,k+1,T,rfl,by simp,by simp,by simp,by omega,by omega,by omega,HQ,HF2⟩,by simp only [RowKit.intOf];omega⟩
   by_cases h59:c=59
   ·subst h59
    replace hx:∀ W,(Instr.index 9 (.string s) (.int .i64 (k:Int))).run Tryz.prog W=.ok (.int .u8 59) W:=hx
    have HM:=hid (show Rm s k L B k from by unfold Rm;rw [HD.out];exact skip_rem)
    go_wp2_with fail
    go_loopw [9] (fun v9 wr2=>∃ j:Nat,v9=.int .i64 (j:Int)∧k≤j∧j≤s.size∧Hid (Rm s k L B j)∧wr2=wr) (fun v9 _=>(s.size-RowKit.intOf v9).toNat)
    case atStart=>exact ⟨k,rfl,by omega,by omega,HM,rfl⟩
    case round=>
     clear HM hx
     obtain ⟨j,rfl,hkj,hj,HM,rfl⟩:=hrel
     rcases Nat.lt_or_ge j s.size with hjs|hjs
     ·obtain ⟨d,hd2⟩:=drop_ex hjs
      have hx:=fun W=>idx_any s j d (drop_get hd2) W
      by_cases hd10:d=10
      ·subst hd10
       replace hx:∀ W,(Instr.index 9 (.string s) (.int .i64 (j:Int))).run Tryz.prog W=.ok (.int .u8 10) W:=hx
       have hjk:k≠j:=by
        rintro rfl
        rw [HD.out] at hd2
        injection hd2 with e1 _
        exact absurd e1 (by decide)
       have HF2:=hid (HM.out.out HF.out (Or.inr ⟨_,hd2⟩))
       clear hd2
       go_wp2_with fail
       exact ⟨⟨oa,cap,j,L,B,T,rfl,by simp,by simp,by simp,by omega,by omega,by omega,HQ,HF2⟩,by simp only [RowKit.intOf];omega⟩
      ·have HM2:=hid (HM.out.go hd2 hd10 (by omega))
       have i10:((d.toNat:Int)==10)=false:=beq_false_of_ne (u8_int (d:=10) hd10)
       have j10:((d.toNat:Int) != 10)=true:=by rw [bne,i10];rfl
       clear hd2 hd10
       generalize (d.toNat:Int)=v at *
       go_wp2_with fail
       exact ⟨⟨j+1,by simp,by omega,by omega,HM2,by first|rfl|trivial⟩,by simp only [RowKit.intOf];omega⟩
     ·have hjk:k≠j:=by omega
      have HF2:=hid (HM.out.out HF.out (Or.inl (drop_no hjs)))
      go_wp2_with fail
      exact ⟨⟨oa,cap,j,L,B,T,rfl,by simp,by simp,by simp,by omega,by omega,by omega,HQ,HF2⟩,by simp only [RowKit.intOf];omega⟩
   ·have i32:((c.toNat:Int)==32)=false:=beq_false_of_ne (u8_int (d:=32) h32)
    have i10:((c.toNat:Int)==10)=false:=beq_false_of_ne (u8_int (d:=10) h10)
    have i59:((c.toNat:Int)==59)=false:=beq_false_of_ne (u8_int (d:=59) h59)
    obtain ⟨T',hTT,hw⟩:=HF.out
    rw [HD.out] at hw
    have hrw:=fun W hW=>rword_any HR.out s k (by omega) hks W hW
    have hwl:=wlen_le (l:=s.data.toList.drop k) (by rw [HD.out];exact List.cons_ne_nil _ _)
    have hwp:=wlen_pos (s.data.toList.drop k)
    rw [List.length_drop,Array.length_toList,show s.data.size=s.size from rfl] at hwl
    have hTl:T.length≤65536:=by
     rw [hTT,List.length_append] at hlen2
     omega
    rcases hw.first h32 h10 h59 with ⟨hne,hT0,hE0,hln,hcl⟩|⟨heq,T2,hT2,hw2⟩
    ·rw [←HD.out] at hne hE0
     unfold wordE at hrw
     simp only [if_neg hne] at hrw
     rw [←hE0] at hrw hne
     subst hln hcl
     obtain ⟨⟨xk,xt,xvk,xvn,xvs,xln,xcl⟩,hx0⟩:∃ x,x=(meanW (s.data.toList.drop k)).1:=⟨_,rfl⟩
     rw [←hx0] at hrw
     have HW:=hid hrw
     have hC:((k-B+1:Nat):Int)=(k:Int)-(B:Int)+1:=by omega
     have HC:=hid hC
     have HNE:=hid hne
     clear hx0 hrw hw hTT hT0 hE0 HF HD h32 h10 h59 hwl hwp hC
     generalize (c.toNat:Int)=v at *
     go_wp2_with (first
      | (go_at_call 21;(with_reducible refine (HW.out _ (HE.out.old (HQ.out.old.alloc _))).mono ?_);rintro e w3 ⟨rfl,o3⟩))
     have ho4:Old wr (w3.alloc (.cells #[.int .u8 xk,.string (st xt),.int .u8 xvk,.int .i64 xvn,.string (st xvs),.int .i64 xln,.int .i64 xcl] 64)):=(((Old.refl wr).alloc _).trans o3).alloc _
     have HP:=hid ((Pl.new wr (L:Int) ((k:Int)-(B:Int)+1)).old (o3.alloc (.cells #[.int .u8 xk,.string (st xt),.int .u8 xvk,.int .i64 xvn,.string (st xvs),.int .i64 xln,.int .i64 xcl] 64)))
     have HS:=hid (Sv.new w3 (x0:=.int .u8 xk) (x1:=.string (st xt)) (x2:=.int .u8 xvk) (x3:=.int .i64 xvn) (x4:=.string (st xvs)) (x5:=.int .i64 xln) (x6:=.int .i64 xcl))
     have HQ4:=hid (HQ.out.oldw ho4)
     have hne1:wr.heap.size≠w.heap.size:=Nat.ne_of_gt HQ.out.p3.lt
     have hne2:w3.heap.size≠wr.heap.size:=Nat.ne_of_gt (Nat.lt_of_lt_of_le (Pl.new wr (L:Int) ((k:Int)-(B:Int)+1)).lt o3.size)
     have hne3:w3.heap.size≠w.heap.size:=Nat.ne_of_gt (Nat.lt_of_lt_of_le HQ.out.p3.lt (Nat.le_trans ((Old.refl wr).alloc (.cells #[.int .i64 (L:Int),.int .i64 ((k:Int)-(B:Int)+1)] 31)).size o3.size))
     have hbas:w.heap.size+1+1≤(w3.alloc (.cells #[.int .u8 xk,.string (st xt),.int .u8 xvk,.int .i64 xvn,.string (st xvs),.int .i64 xln,.int .i64 xcl] 64)).heap.size:=Nat.le_trans (Nat.succ_le_of_lt HQ.out.p6.lt) ho4.size
     clear o3 ho4 hx hbas hne2 hne3
     generalize w3.alloc (.cells #[.int .u8 xk,.string (st xt),.int .u8 xvk,.int .i64 xvn,.string (st xvs),.int .i64 xln,.int .i64 xcl] 64)=W at *
     have p0:=HQ4.out.p3.c0
     have p1:=HQ4.out.p3.c1
     have p2:=HQ4.out.p3.f 0
     have p3:=HQ4.out.p3.f 1
     have t0:=HP.out.c0
     have t1:=HP.out.c1
     go_region_held3 (fun w'=>w'.cell? ⟨wr.heap.size,0,none⟩=some (.int .i64 (L:Int))∧w'.cell? ⟨wr.heap.size,1,none⟩=some (.int .i64 ((k:Int)-(B:Int)+1)))
      (first|with_reducible exact ⟨t0,t1⟩|with_reducible exact ⟨((HP.out.far (Ne.symm hne1) _).far (Ne.symm hne1) _).c0,((HP.out.far (Ne.symm hne1) _).far (Ne.symm hne1) _).c1⟩|with_reducible exact ⟨(cell_drew _ _).trans ((HP.out.far (Ne.symm hne1) _).far (Ne.symm hne1) _).c0,(cell_drew _ _).trans ((HP.out.far (Ne.symm hne1) _).far (Ne.symm hne1) _).c1⟩|go_keep)
      (fail)
     all_goals
      go_wp2_with fail
      refine bodyPost_ret (ret_pl rfl _ _ w.heap.size rfl rfl rfl (show Pl (World.drew _) _ _ _ from ((HQ4.out.p3.set0 _).set1 _))) rfl ?_
      rw [HC.out]
      exact lex_bad HQ4.out E _ _ HNE.out _
    ·rw [←HD.out] at heq hT2 hw2
     unfold wordE at hrw
     simp only [if_pos heq] at hrw
     rw [heq] at hrw
     obtain ⟨x,hx0⟩:∃ x,x=(meanW (s.data.toList.drop k)).1:=⟨_,rfl⟩
     obtain ⟨m,hm⟩:∃ m,m=k+wlen (s.data.toList.drop k):=⟨_,rfl⟩
     rw [←hx0,←hm] at hrw
     rw [←hx0] at hT2
     have hF2:Lf s m L B (T++[x.at L (k-B+1)]) TT E ln cl:=by
      refine ⟨T2,by rw [hTT,hT2,List.append_assoc];rfl,?_⟩
      rw [dd,←hm] at hw2
      rw [show m-B+1=k-B+1+wlen (s.data.toList.drop k) by omega]
      exact hw2
     have HF2:=hid hF2
     have HW:=hid hrw
     have hC:((k-B+1:Nat):Int)=(k:Int)-(B:Int)+1:=by omega
     have HC:=hid hC
     have hmk:k<m:=by omega
     have hms:m≤s.size:=by omega
     obtain ⟨xk,xt,xvk,xvn,xvs,xln,xcl⟩:=x
     clear hx0 hrw hw hTT hT2 hw2 heq hF2 HF HD h32 h10 h59 hwl hwp hC hm
     generalize (c.toNat:Int)=v at *
     go_upto_region 22 with (first
      | (go_at_call 21;(with_reducible refine (HW.out _ (HE.out.old (HQ.out.old.alloc _))).mono ?_);rintro e w3 ⟨rfl,o3⟩))
     have ho4:Old wr (w3.alloc (.cells #[.int .u8 xk,.string (st xt),.int .u8 xvk,.int .i64 xvn,.string (st xvs),.int .i64 xln,.int .i64 xcl] 64)):=(((Old.refl wr).alloc _).trans o3).alloc _
     have HP:=hid ((Pl.new wr (L:Int) ((k:Int)-(B:Int)+1)).old (o3.alloc (.cells #[.int .u8 xk,.string (st xt),.int .u8 xvk,.int .i64 xvn,.string (st xvs),.int .i64 xln,.int .i64 xcl] 64)))
     have HS:=hid (Sv.new w3 (x0:=.int .u8 xk) (x1:=.string (st xt)) (x2:=.int .u8 xvk) (x3:=.int .i64 xvn) (x4:=.string (st xvs)) (x5:=.int .i64 xln) (x6:=.int .i64 xcl))
     have HQ4:=hid (HQ.out.oldw ho4)
     have hne1:wr.heap.size≠w.heap.size:=Nat.ne_of_gt HQ.out.p3.lt
     have hne2:w3.heap.size≠wr.heap.size:=Nat.ne_of_gt (Nat.lt_of_lt_of_le (Pl.new wr (L:Int) ((k:Int)-(B:Int)+1)).lt o3.size)
     have hne3:w3.heap.size≠w.heap.size:=Nat.ne_of_gt (Nat.lt_of_lt_of_le HQ.out.p3.lt (Nat.le_trans ((Old.refl wr).alloc (.cells #[.int .i64 (L:Int),.int .i64 ((k:Int)-(B:Int)+1)] 31)).size o3.size))
     have hbas:w.heap.size+1+1≤(w3.alloc (.cells #[.int .u8 xk,.string (st xt),.int .u8 xvk,.int .i64 xvn,.string (st xvs),.int .i64 xln,.int .i64 xcl] 64)).heap.size:=Nat.le_trans (Nat.succ_le_of_lt HQ.out.p6.lt) ho4.size
     have HO4:=hid ho4
     have hge:wr.heap.size≤w3.heap.size:=Nat.le_trans ((Old.refl wr).alloc (.cells #[.int .i64 (L:Int),.int .i64 ((k:Int)-(B:Int)+1)] 31)).size o3.size
     clear o3 ho4 hx
     generalize w3.alloc (.cells #[.int .u8 xk,.string (st xt),.int .u8 xvk,.int .i64 xvn,.string (st xvs),.int .i64 xln,.int .i64 xcl] 64)=W at *
     have t0:=HP.out.c0
     have t1:=HP.out.c1
     have s5:=HS.out.c 5
     have s6:=HS.out.c 6
     have f5:=HS.out.f 5
     have f6:=HS.out.f 6
     go_upto_region 23 with fail
     have ho5:=(HO4.out.setCell (p:=⟨w3.heap.size,5,none⟩) hge (.int .i64 (L:Int))).setCell (p:=⟨w3.heap.size,6,none⟩) hge (.int .i64 ((k:Int)-(B:Int)+1))
     have hs5:=(HS.out.set5 (.int .i64 (L:Int))).set6 (.int .i64 ((k:Int)-(B:Int)+1))
     generalize (W.setCell ⟨w3.heap.size,5,none⟩ (.int .i64 (L:Int))).setCell ⟨w3.heap.size,6,none⟩ (.int .i64 ((k:Int)-(B:Int)+1))=W5 at *
     have hq5:=HQ.out.oldw ho5
     have d0:=hs5.c 0
     have d1:=hs5.c 1
     have d2:=hs5.c 2
     have d3:=hs5.c 3
     have d4:=hs5.c 4
     have d5:=hs5.c 5
     have d6:=hs5.c 6
     have HQ6:=hid (hq5.oldw ((Old.refl W5).alloc (.cells #[.int .u8 xk,.string (st xt),.int .u8 xvk,.int .i64 xvn,.string (st xvs),.int .i64 (L:Int),.int .i64 ((k:Int)-(B:Int)+1)] 64)))
     have HC1:=hid (cr_one7 (Sv.new W5 (x0:=.int .u8 xk) (x1:=.string (st xt)) (x2:=.int .u8 xvk) (x3:=.int .i64 xvn) (x4:=.string (st xvs)) (x5:=.int .i64 (L:Int)) (x6:=.int .i64 ((k:Int)-(B:Int)+1))))
     have HONE:=hid (show ∀ u∈[Value.int .u8 xk,.string (st xt),.int .u8 xvk,.int .i64 xvn,.string (st xvs),.int .i64 (L:Int),.int .i64 ((k:Int)-(B:Int)+1)],u.oneCell'=true from tcells_one [⟨xk,xt,xvk,xvn,xvs,(L:Int),(k:Int)-(B:Int)+1⟩])
     have L1:=hid (show (T.length+1)*72≤140737488355328 by omega)
     have L2:=hid (show T.length+1≤maxLen by unfold maxLen;omega)
     have L3:=hid (show w.heap.size+1+1≤(W5.alloc (.cells #[.int .u8 xk,.string (st xt),.int .u8 xvk,.int .i64 xvn,.string (st xvs),.int .i64 (L:Int),.int .i64 ((k:Int)-(B:Int)+1)] 64)).heap.size from Nat.le_trans (Nat.succ_le_of_lt hq5.p6.lt) ((Old.refl W5).alloc (.cells #[.int .u8 xk,.string (st xt),.int .u8 xvk,.int .i64 xvn,.string (st xvs),.int .i64 (L:Int),.int .i64 ((k:Int)-(B:Int)+1)] 64)).size)
     clear ho5 hs5 hq5 hbas t0 t1 s5 s6 f5 f6 HP HS HQ4 HO4
     go_wp2_with (first
      | (at_builtin;refine wpList_appC _ rfl _ _ 58 rfl (w.heap.size+1+1) 64 i _ 7 72 Tryz.underlying58 hi hz hsz' hby rfl (Nat.zero_lt_succ 6) (.slice oa T.length cap) T.length (tcells T) rfl HQ6.out.row (.slice (some ⟨W5.heap.size,0,none⟩) 1 1) 1 _ rfl HC1.out HONE.out L1.out L2.out L3.out ?_;intro v7 w7 hown hgr _;have HQ7:=hid (Lq.more HQ6.out ⟨xk,xt,xvk,xvn,xvs,(L:Int),(k:Int)-(B:Int)+1⟩ hown hgr);obtain ⟨ob,cap2,rfl⟩:=own_shape hown;clear hown hgr))
     have hx':(⟨xk,xt,xvk,xvn,xvs,(L:Int),(k:Int)-(B:Int)+1⟩:Tk)=(⟨xk,xt,xvk,xvn,xvs,xln,xcl⟩:Tk).at L (k-B+1):=by
      unfold Tk.at
      rw [HC.out]
     have hq:=HQ7.out
     rw [hx'] at hq
     exact ⟨⟨ob,cap2,m,L,B,T++[(⟨xk,xt,xvk,xvn,xvs,xln,xcl⟩:Tk).at L (k-B+1)],by rw [List.length_append];rfl,rfl,rfl,rfl,hms,by omega,by omega,hid (by rw [List.length_append];exact hq),HF2⟩,by simp only [RowKit.intOf];omega⟩
  ·have hf:=HF.out
   obtain ⟨T',hTT,hw⟩:=hf
   rw [drop_no hks] at hw
   obtain ⟨rfl,rfl,rfl,rfl⟩:=hw.end
   rw [List.append_nil] at hTT
   subst hTT
   clear hw HF
   go_upto_region 25 with fail
   have p0:=HQ.out.p3.c0
   have p1:=HQ.out.p3.c1
   have p2:=HQ.out.p3.f 0
   have p3:=HQ.out.p3.f 1
   have t0:=HQ.out.p6.c0
   have t1:=HQ.out.p6.c1
   have hne1:w.heap.size≠w.heap.size+1:=by omega
   go_region_held3 (fun w'=>w'.cell? ⟨w.heap.size+1,0,none⟩=some (.int .i64 0)∧w'.cell? ⟨w.heap.size+1,1,none⟩=some (.int .i64 0))
    (first|with_reducible exact ⟨t0,t1⟩|with_reducible exact ⟨((HQ.out.p6.far hne1 _).far hne1 _).c0,((HQ.out.p6.far hne1 _).far hne1 _).c1⟩|with_reducible exact ⟨(cell_drew _ _).trans ((HQ.out.p6.far hne1 _).far hne1 _).c0,(cell_drew _ _).trans ((HQ.out.p6.far hne1 _).far hne1 _).c1⟩|go_keep)
    (fail)
   all_goals
    go_wp2_with fail
    refine bodyPost_ret (ret_pl rfl _ _ w.heap.size rfl rfl rfl (show Pl (World.drew _) _ _ _ from ((HQ.out.p3.set0 _).set1 _))) rfl ?_
    exact lex_good HQ.out
def RqB (w:World) (b:Nat) (vw:Value) (n o:Int) (vt:Value) (e m:Int):Prop:=
 w.heap[b]?=some (.cells #[vw,.int .i64 n,.int .i64 o,vt,.int .i64 e,.int .i64 m] 82 (0,0))
section
variable {w w':World} {b:Nat} {vw vt:Value} {n o e m:Int}
theorem RqB.c (h:RqB w b vw n o vt e m) (k:Nat):w.cell? ⟨b,k,none⟩=#[vw,.int .i64 n,.int .i64 o,vt,.int .i64 e,.int .i64 m][k]?:=by unfold RqB at h;simp [World.cell?,h]
theorem RqB.f (h:RqB w b vw n o vt e m) (k:Nat):w.frozen? ⟨b,k,none⟩=false:=by unfold RqB at h;simp [World.frozen?,h]
theorem RqB.lt (h:RqB w b vw n o vt e m):b<w.heap.size:=blk_lt h
theorem RqB.old (h:RqB w b vw n o vt e m) (ho:Old w w'):RqB w' b vw n o vt e m:=(ho.block b h.lt).trans h
theorem RqB.put (h:RqB w b vw n o vt e m) (k:Nat) (u:Value):(w.setCell ⟨b,k,none⟩ u).heap[b]?=some (.cells (#[vw,.int .i64 n,.int .i64 o,vt,.int .i64 e,.int .i64 m].setIfInBounds k u) 82 (0,0)):=by
 have hlt:=h.lt
 unfold RqB at h
 show (w.heap.modify b _)[b]?=_
 rw [Array.getElem?_modify,if_pos rfl,h]
 simp
theorem RqB.set1 (h:RqB w b vw n o vt e m) (u:Int):RqB (w.setCell ⟨b,1,none⟩ (.int .i64 u)) b vw u o vt e m:=h.put 1 _
theorem RqB.set2 (h:RqB w b vw n o vt e m) (u:Int):RqB (w.setCell ⟨b,2,none⟩ (.int .i64 u)) b vw n u vt e m:=h.put 2 _
theorem RqB.set3 (h:RqB w b vw n o vt e m) (u:Value):RqB (w.setCell ⟨b,3,none⟩ u) b vw n o u e m:=h.put 3 _
theorem RqB.set4 (h:RqB w b vw n o vt e m) (u:Int):RqB (w.setCell ⟨b,4,none⟩ (.int .i64 u)) b vw n o vt u m:=h.put 4 _
theorem RqB.set5 (h:RqB w b vw n o vt e m) (u:Int):RqB (w.setCell ⟨b,5,none⟩ (.int .i64 u)) b vw n o vt e u:=h.put 5 _
theorem RqB.far (h:RqB w b vw n o vt e m) {g:Nat} (hg:g≠b) (k:Nat) (u:Value):RqB (w.setCell ⟨g,k,none⟩ u) b vw n o vt e m:=(far_heap hg).trans h
theorem RqB.ne (h:RqB w b vw n o vt e m) {k:Nat} {cs:Array Value} {t:TypeId} {fr:Nat × Nat} (hk:w.heap[k]?=some (.cells cs t fr)) (ht:t≠82):k≠b:=by
 rintro rfl
 unfold RqB at h
 rw [h] at hk
 injection hk with hk
 injection hk with e1 e2 e3
 exact ht e2.symm
end
def nextL (l:List Tk):List UInt8:=if (wordL l).k=1∨(wordL l).k=7 then (wordL l).t else []
theorem next_is {s:List UInt8} {l:List Tk} (hs:s≠[]):isL s l=(nextL l==s):=by
 unfold isL isT nextL
 by_cases h:(wordL l).k=1∨(wordL l).k=7
 ·rw [if_pos h]
  have:((wordL l).k==1||(wordL l).k==7)=true:=by simpa using h
  rw [this,Bool.true_and]
 ·rw [if_neg h]
  have:((wordL l).k==1||(wordL l).k==7)=false:=by simpa using h
  rw [this,Bool.false_and,beq_false_of_ne (Ne.symm hs)]
theorem rnext_any {w:World} {b n:Nat} {vw vt:Value} {o e m:Int} {A:List Tk} (h:RqB w b vw n o vt e m) (hw:Rw w vw A) (hn:n≤A.length) (hA:A.length≤200000) :
 Calls Tryz.prog 48 #[.pointer (some ⟨b,0,none⟩)] w fun e' w'=>e'=.returned (.string (st (nextL (A.drop n))))∧Old w w':=by
 obtain ⟨oa,cap,rfl,h1,h2,h3⟩:=hw
 have HO:=hid (Old.refl w)
 obtain ⟨N,hN⟩:∃ N,N=A.length:=⟨_,rfl⟩
 have r0:=h.c 0
 have r1:=h.c 1
 rcases Nat.lt_or_ge n A.length with hlt|hge
 ·have hx:A[n]?=some A[n]:=List.getElem?_eq_getElem hlt
  have hd:wordL (A.drop n)=A[n]:=by rw [List.drop_eq_getElem_cons hlt];rfl
  unfold nextL
  rw [hd]
  obtain ⟨g,rfl,hg,_,c0,c1,c2,c3,c4,c5,c6⟩:=h3 n _ hx
  obtain ⟨x,hX⟩:∃ x,x=A[n]:=⟨_,rfl⟩
  rw [←hX] at c0 c1 ⊢
  rw [←hN] at hlt h1 hA r0
  obtain ⟨k,t,vk,vn,vs,ln,cl⟩:=x
  simp only at c0 c1 ⊢
  clear hX hx hd h3 hN hn h c2 c3 c4 c5 c6
  by_cases k1:k=1
  ·subst k1
   rw [if_pos (Or.inl rfl)]
   go_enter Tryz.func48,Tryz.ntmps48
   go_wp2
   go_quiet (fail)
   go_wp2
   go_quiet (fail)
   go_wp2
   go_ret
   exact ⟨rfl,(HO.out.drewN _).drewN _⟩
  by_cases k7:k=7
  ·subst k7
   rw [if_pos (Or.inr rfl)]
   go_enter Tryz.func48,Tryz.ntmps48
   go_wp2
   go_quiet (fail)
   go_wp2
   go_quiet (fail)
   go_wp2
   go_ret
   exact ⟨rfl,(HO.out.drewN _).drewN _⟩
  ·rw [if_neg (by rintro (h|h);exact k1 h;exact k7 h)]
   have i1:(k==1)=false:=beq_false_of_ne k1
   have i7:(k==7)=false:=beq_false_of_ne k7
   go_enter Tryz.func48,Tryz.ntmps48
   go_wp2
   go_quiet (fail)
   go_wp2
   go_ret
   exact ⟨rfl,HO.out.drewN _⟩
 ·have hd:A.drop n=[]:=List.drop_eq_nil_of_le hge
  rw [hd]
  have hnA:n=A.length:=Nat.le_antisymm hn hge
  rw [←hN] at r0 hnA hA
  subst hnA
  have e1:nextL []=[]:=rfl
  rw [e1]
  clear h1 h2 h3 hge hd hn hN h e1
  go_enter Tryz.func48,Tryz.ntmps48
  go_wp2
  go_quiet (fail)
  go_wp2
  go_ret
  exact ⟨rfl,HO.out.drewN _⟩
theorem cf2 {W:World} {p g k:Nat} (h:g≠p) (u v:Value):((W.setCell ⟨p,0,none⟩ u).setCell ⟨p,1,none⟩ v).cell? ⟨g,k,none⟩=W.cell? ⟨g,k,none⟩:=by
 refine World.cell?_of_block ?_
 simp only [World.setCell]
 simp [Array.getElem?_modify,Ne.symm h]
theorem cfd (W:World) (a:Addr):W.drew.cell? a=W.cell? a:=rfl
theorem cf2d {W:World} {p g k:Nat} (h:g≠p) (u v:Value):((W.setCell ⟨p,0,none⟩ u).setCell ⟨p,1,none⟩ v).drew.cell? ⟨g,k,none⟩=W.cell? ⟨g,k,none⟩:=(cfd _ _).trans (cf2 h u v)
theorem ret_pl1 {fn:Func} (hf:fn.results=#[.cell 2 31]) (tmps:Array Value) (W:World) (g:Nat) {a c:Int} (h2:tmps.getD 2 undef=.pointer (some ⟨g,0,none⟩)) (H:Pl W g a c) :
 (results fn tmps).run Tryz.prog W=.ok (.agg #[.int .i64 a,.int .i64 c]) W:=by
 have h2':tmps[2]?.getD undef=.pointer (some ⟨g,0,none⟩):=by simpa using h2
 have r3:=run_loadVar_row (P:=Tryz.prog) W g 31 31 #[.int .i64 a,.int .i64 c] (0,0) _ H Tryz.underlying31 rfl size25
 simp [results,hf,Sem.run_bind,Result.andThen,h2',asAddr,r3]
theorem pl_new (w:World) (L C:Int):Pl (w.alloc (.cells #[.int .i64 L,.int .i64 C] 31)) w.heap.size L C:=(MapKept.heap_alloc w _).1
theorem rplace_any {w:World} {b n:Nat} {vw vt:Value} {o e m:Int} {A:List Tk} (h:RqB w b vw n o vt e m) (hw:Rw w vw A) (hn:n≤A.length) (hA:A.length≤200000) :
 Calls Tryz.prog 47 #[.pointer (some ⟨b,0,none⟩)] w fun e' w'=>e'=.returned (.agg #[.int .i64 (wordL (A.drop n)).ln,.int .i64 (wordL (A.drop n)).cl])∧Old w w':=by
 obtain ⟨oa,cap,rfl,h1,h2,h3⟩:=hw
 have HO:=hid ((Old.refl w).alloc (.cells #[.int .i64 0,.int .i64 0] 31))
 have HP:=hid (pl_new w 0 0)
 obtain ⟨N,hN⟩:∃ N,N=A.length:=⟨_,rfl⟩
 have h':=h.old HO.out
 have nb:b≠w.heap.size:=Nat.ne_of_lt h.lt
 have r0:=h'.c 0
 have r1:=h'.c 1
 have p0:=HP.out.c0
 have p1:=HP.out.c1
 have p2:=HP.out.f 0
 have p3:=HP.out.f 1
 rcases Nat.lt_or_ge n A.length with hlt|hge
 ·have hx:A[n]?=some A[n]:=List.getElem?_eq_getElem hlt
  have hd:wordL (A.drop n)=A[n]:=by rw [List.drop_eq_getElem_cons hlt];rfl
  rw [hd]
  obtain ⟨g,rfl,hg,_,c0,c1,c2,c3,c4,c5,c6⟩:=h3 n _ hx
  have ng:g≠w.heap.size:=Nat.ne_of_lt hg
  replace c5:=(HO.out.cell (p:=⟨g,n*7+5,none⟩) hg).trans c5
  replace c6:=(HO.out.cell (p:=⟨g,n*7+6,none⟩) hg).trans c6
  obtain ⟨x,hX⟩:∃ x,x=A[n]:=⟨_,rfl⟩
  rw [←hX] at c5 c6 ⊢
  rw [←hN] at hlt h1 hA r0
  obtain ⟨k,t,vk,vn,vs,ln,cl⟩:=x
  simp only at c5 c6 ⊢
  clear hX hx hd h3 hN hn h h' c0 c1 c2 c3 c4 hg
  go_enter Tryz.func47,Tryz.ntmps47
  go_wp2
  generalize w.alloc (.cells #[.int .i64 0,.int .i64 0] 31)=W at *
  go_quiet (fail)
  go_wp2
  have q0:(W.drewN nq).cell? ⟨b,0,none⟩=some (.slice (some ⟨g,0,none⟩) N cap):=r0
  have q1:(W.drewN nq).cell? ⟨b,1,none⟩=some (.int .i64 (n:Int)):=r1
  have q5:(W.drewN nq).cell? ⟨g,n*7+5,none⟩=some (.int .i64 ln):=c5
  have q6:(W.drewN nq).cell? ⟨g,n*7+6,none⟩=some (.int .i64 cl):=c6
  have HP2:=hid (show Pl (W.drewN nq) w.heap.size 0 0 from HP.out)
  have HO2:=hid (HO.out.drewN nq)
  clear r0 r1 c5 c6 p0 p1 p2 p3 HP HO
  generalize W.drewN nq=W2 at *
  have p0:=HP2.out.c0
  have p1:=HP2.out.c1
  have p2:=HP2.out.f 0
  have p3:=HP2.out.f 1
  go_region_held3 (fun w'=>w'.cell? ⟨b,0,none⟩=some (.slice (some ⟨g,0,none⟩) N cap)∧w'.cell? ⟨b,1,none⟩=some (.int .i64 (n:Int))∧w'.cell? ⟨g,n*7+5,none⟩=some (.int .i64 ln)∧w'.cell? ⟨g,n*7+6,none⟩=some (.int .i64 cl))
   (first|with_reducible exact ⟨q0,q1,q5,q6⟩|with_reducible exact ⟨(cf2 nb _ _).trans q0,(cf2 nb _ _).trans q1,(cf2 ng _ _).trans q5,(cf2 ng _ _).trans q6⟩|with_reducible exact ⟨(cf2d nb _ _).trans q0,(cf2d nb _ _).trans q1,(cf2d ng _ _).trans q5,(cf2d ng _ _).trans q6⟩|go_keep)
   (fail)
  all_goals
   go_wp2
   refine bodyPost_ret (ret_pl1 rfl _ _ w.heap.size rfl (show Pl (World.drew _) _ _ _ from ((HP2.out.set0 _).set1 _))) rfl ?_
   exact ⟨rfl,((HO2.out.setCell (p:=⟨w.heap.size,0,none⟩) (Nat.le_refl _) _).setCell (p:=⟨w.heap.size,1,none⟩) (Nat.le_refl _) _).drew⟩
 ·have hd:A.drop n=[]:=List.drop_eq_nil_of_le hge
  rw [hd]
  have hnA:n=A.length:=Nat.le_antisymm hn hge
  rw [←hN] at r0 hnA hA
  subst hnA
  have e1:wordL []=Tk.zero:=rfl
  rw [e1]
  show Calls _ _ _ _ fun e' w'=>e'=.returned (.agg #[.int .i64 0,.int .i64 0])∧_
  clear h1 h2 h3 hge hd hn hN h h' e1
  go_enter Tryz.func47,Tryz.ntmps47
  go_wp2
  generalize w.alloc (.cells #[.int .i64 0,.int .i64 0] 31)=W at *
  go_quiet (fail)
  have HP2:=hid (show Pl (W.drewN nq) w.heap.size 0 0 from HP.out)
  have HO2:=hid (HO.out.drewN nq)
  clear r0 r1 p0 p1 p2 p3 HP HO
  generalize W.drewN nq=W2 at *
  have p0:=HP2.out.c0
  have p1:=HP2.out.c1
  have p2:=HP2.out.f 0
  have p3:=HP2.out.f 1
  go_wp2
  refine bodyPost_ret (ret_pl1 rfl _ _ w.heap.size rfl ((HP2.out.set0 _).set1 _)) rfl ?_
  exact ⟨rfl,(HO2.out.setCell (p:=⟨w.heap.size,0,none⟩) (Nat.le_refl _) _).setCell (p:=⟨w.heap.size,1,none⟩) (Nat.le_refl _) _⟩
theorem rstop_any {w:World} {b:Nat} {vw vt:Value} {n o e m:Int} (h:RqB w b vw n o vt e m) (er:Int) :
 Calls Tryz.prog 96 #[.pointer (some ⟨b,0,none⟩),.int .i64 er] w fun e' w'=>e'=.returned (.tuple #[])∧Chx (·= b) w w'∧RqB w' b vw n o vt (if e=0 then er else e) (if e=0 then n else m):=by
 have r1:=h.c 1
 have r4:=h.c 4
 have f4:=h.f 4
 have f5:=h.f 5
 by_cases h0:e=0
 ·subst h0
  rw [if_pos rfl,if_pos rfl]
  have HR:=hid ((h.set4 er).set5 n)
  have HC:=hid ((Chx.ofSet w ⟨b,4,none⟩ (.int .i64 er)).trans (Chx.ofSet _ ⟨b,5,none⟩ (.int .i64 n)))
  have k1:=(h.set4 er).c 1
  have k5:=(h.set4 er).f 5
  have k6:=(h.set4 er).c 5
  clear h
  go_enter Tryz.func96,Tryz.ntmps96
  go_wp2
  refine bodyPost_end (v:=.tuple #[]) (by simp [results,Tryz.results96,go_sem]) rfl ⟨rfl,HC.out,HR.out⟩
 ·rw [if_neg h0,if_neg h0]
  have HR:=hid h
  clear h
  go_enter Tryz.func96,Tryz.ntmps96
  go_wp2
  refine bodyPost_end (v:=.tuple #[]) (by simp [results,Tryz.results96,go_sem]) rfl ⟨rfl,Chx.refl _,HR.out⟩
end Go.Proofs.YtmkmafkkpigfpaaGreatDoor
