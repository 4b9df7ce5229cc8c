/- The document's numbers as text: all of them. The document's texts in quotes: what stands in them. The document's Parse, plain: it says what the program's says. The document's Parse: the walk. -/
import Derived.Test.YtmkmafkkpigfpaaGreatDoorGC
set_option maxHeartbeats 3200000
namespace Go.Proofs.YtmkmafkkpigfpaaGreatDoor
open Go.ChangeShapes Go.WideShapes Go.ChangeAt Go.RowKit Go.Lib
set_option linter.unusedVariables false
set_option linter.unusedSimpArgs false
set_option maxRecDepth 100000
theorem rnum_empty (s:ByteArray) (h0:s.size=0) (w:World) :
 Calls Tryz.prog 92 #[.string s] w fun e w'=>numRes false (numB []) e w'∧Old w w':=by
 obtain ⟨B,hB⟩:∃ B:List UInt8,B=[]:=⟨_,rfl⟩
 obtain ⟨G,hG⟩:∃ G,G=scN 0 B 0 none 0:=⟨_,rfl⟩
 have HB:=hid (show numOf B G=none by rw [hG,hB];rfl)
 have hq:numB []=numOf B G:=by rw [hG,←numB_of,hB]
 rw [hq]
 have H0:=hid (nr0 w)
 have hl0:s.data.toList=[]:=List.eq_nil_of_length_eq_zero (by rw [Array.length_toList];exact h0)
 have hs0:s=⟨#[]⟩:=ba_ext (by rw [ba_list,hl0,ba_list])
 subst hs0
 clear hB hG hq h0 hl0
 go_enter Tryz.func92,Tryz.ntmps92
 go_wp2_with fail
 go_loopw [6,7] (fun v6 v7 wr=>v6=.int .i64 0∧v7=.int .i64 (-1)∧Hid (Nr w 0 wr)) (fun _ _ _=>0)
 case atStart=>exact ⟨rfl,rfl,H0⟩
 case round=>
  clear H0
  obtain ⟨rfl,rfl,HNR⟩:=hrel
  obtain ⟨⟨nb,ob,lb,cb,TB,RB⟩,TA,OO⟩:=HNR.out
  have HT:=hid TB
  have HA:=hid TA
  have HV:=hid RB
  have HO:=hid OO
  have d0:=TB.c0
  have d1:=TB.c1
  have e0:=TA.c0
  have e1:=TA.c1
  have e2:=TA.f 0
  have e3:=TA.f 1
  clear TB TA RB OO
  go_wp2_with fail
  all_goals
   refine bodyPost_ret (ret_num rfl _ _ w.heap.size rfl rfl rfl (HA.out.set _ _)) rfl ?_
   exact ⟨by rw [HB.out];exact ⟨_,_,rfl,RN.two HA.out HV.out _ _⟩,(HO.out.setCell (p:=⟨w.heap.size,0,none⟩) (Nat.le_refl _) _).setCell (p:=⟨w.heap.size,1,none⟩) (Nat.le_refl _) _⟩
def numTail (l:List UInt8):List UInt8:=if l.head?==some 45 then l.tail else l
theorem rnumber_any (s:ByteArray) (hs:s.size≤402) (w:World):Calls Tryz.prog 92 #[.string s] w fun e w'=>numRes (s.data.toList.head?==some 45) (numB (numTail s.data.toList)) e w'∧Old w w':=by
 rcases Nat.eq_zero_or_pos s.size with h0|h0
 ·have e:s.data.toList=[]:=List.eq_nil_of_length_eq_zero (by rw [Array.length_toList];exact h0)
  rw [e]
  exact rnum_empty s h0 w
 ·unfold numTail
  cases hn:(s.data.toList.head?==some 45) with
  | true=>exact rnum_neg s hs h0 hn _ (by rw [if_pos rfl,List.drop_one]) w
  | false=>exact rnum_pos s hs h0 hn _ (by rw [if_neg (by exact Bool.false_ne_true),List.drop_zero]) w
def inR:List UInt8→List UInt8
 | []=>[]
 | [_]=>[]
 | c::d::r=>if c=92 then d::inR r else c::inR (d::r)
theorem inR_esc:∀ v:List UInt8,inR (escL v++[34])=v
 | []=>rfl
 | c::v=>by
   have ih:=inR_esc v
   rw [esc_cons]
   unfold escB
   split
   ·next he=>
    show inR (92::c::(escL v++[34]))=c::v
    rw [inR,if_pos rfl,ih]
   ·next he=>
    rw [not_or] at he
    show inR (c::(escL v++[34]))=c::v
    cases hx:escL v++[34] with
    | nil=>simp at hx
    | cons d r=>
      rw [inR,if_neg he.2,←hx,ih]
theorem rinner_any (s:ByteArray) (hs:s.size≤402) (w:World):Calls Tryz.prog 94 #[.string s] w fun e w'=>e=.returned (.string (st (inR (s.data.toList.drop 1))))∧w=w':=by
 obtain ⟨T,hT⟩:∃ T,T=inR (s.data.toList.drop 1):=⟨_,rfl⟩
 rw [←hT]
 have HT:=hid (show T=[]++inR (s.data.toList.drop 1) from hT)
 clear hT
 go_enter Tryz.func94,Tryz.ntmps94
 go_wp2_with fail
 go_loopw [3,4] (fun v3 v4 wr=>∃ (k:Nat) (a:List UInt8),v3=.string (st a)∧v4=.int .i64 (k:Int)∧1≤k∧k≤s.size+1∧a.length≤k∧Hid (T=a++inR (s.data.toList.drop k))∧wr=w) (fun _ v4 _=>(s.size+1-RowKit.intOf v4).toNat)
 case atStart=>exact ⟨1,[],rfl,rfl,by omega,by omega,by simp,HT,rfl⟩
 case round=>
  clear HT
  obtain ⟨k,a,rfl,rfl,hk1,hk,hal,HT,rfl⟩:=hrel
  rcases Nat.lt_or_ge (k+1) s.size with hks|hks
  ·obtain ⟨c,hd⟩:=drop_ex (s:=s) (k:=k) (by omega)
   obtain ⟨d,hd2⟩:=drop_ex (s:=s) (k:=k+1) hks
   have hx:=fun W=>idx_any s k c (drop_get hd) W
   have ht:=HT.out
   rw [hd,hd2,inR] at ht
   by_cases hc:c=92
   ·subst hc
    replace hx:∀ W,(Instr.index 9 (.string s) (.int .i64 (k:Int))).run Tryz.prog W=.ok (.int .u8 92) W:=hx
    rw [if_pos rfl] at ht
    have hsl:=sl_at s (k+1) 1 ((k:Int)+1) ((k:Int)+1+1) (by omega) (by omega) (by omega)
    rw [hd2] at hsl
    replace hsl:∀ W,(Instr.slice 9 (.string s) (some (.int .i64 ((k:Int)+1))) (some (.int .i64 ((k:Int)+1+1))) none).run Tryz.prog W=.ok (.string (st [d])) W:=hsl
    have HT2:=hid (show T=(a++[d])++inR (s.data.toList.drop (k+1+1)) by rw [ht,List.append_assoc];rfl)
    have happ:=st_app a [d]
    obtain ⟨z,hz⟩:∃ z,z=st [d]:=⟨_,rfl⟩
    have hzs:z.size=1:=by rw [hz];rfl
    have hov:¬ 9223372036854775807<a.length+z.size:=by omega
    rw [←hz] at hsl happ
    have HA:=hid happ
    clear ht hd hd2 hz happ
    go_wp2_with fail
    exact ⟨⟨k+1+1,a++[d],by rw [←HA.out],by simp,by omega,by omega,by simp;omega,HT2,by first|rfl|trivial⟩,by simp only [RowKit.intOf];omega⟩
   ·rw [if_neg hc] at ht
    have hsl:=sl_at s k 1 (k:Int) ((k:Int)+1) rfl (by omega) (by omega)
    rw [hd] at hsl
    replace hsl:∀ W,(Instr.slice 9 (.string s) (some (.int .i64 (k:Int))) (some (.int .i64 ((k:Int)+1))) none).run Tryz.prog W=.ok (.string (st [c])) W:=hsl
    have HT2:=hid (show T=(a++[c])++inR (s.data.toList.drop (k+1)) by rw [ht,List.append_assoc,hd2];rfl)
    have happ:=st_app a [c]
    obtain ⟨z,hz⟩:∃ z,z=st [c]:=⟨_,rfl⟩
    have hzs:z.size=1:=by rw [hz];rfl
    have hov:¬ 9223372036854775807<a.length+z.size:=by omega
    rw [←hz] at hsl happ
    have HA:=hid happ
    have i92:((c.toNat:Int)==92)=false:=beq_false_of_ne (u8_int (d:=92) hc)
    clear ht hd hd2 hz happ hc
    generalize (c.toNat:Int)=v at *
    go_wp2_with fail
    exact ⟨⟨k+1,a++[c],by rw [←HA.out],by simp,by omega,by omega,by simp;omega,HT2,by first|rfl|trivial⟩,by simp only [RowKit.intOf];omega⟩
  ·have ht:=HT.out
   have hin:inR (s.data.toList.drop k)=[]:=by
    rcases Nat.lt_or_ge k s.size with h|h
    ·obtain ⟨c,hd⟩:=drop_ex h
     rw [hd,drop_no hks];rfl
    ·rw [drop_no h];rfl
   rw [hin,List.append_nil] at ht
   subst ht
   clear hin HT
   go_wp2_with fail
   go_ret
   exact ⟨rfl,rfl⟩
def stageL (l:List UInt8):Rd3:=
 if l=[116,114,117,101] then ⟨4,1,0,[]⟩
 else if l=[102,97,108,115,101] then ⟨4,0,0,[]⟩
 else if l=[110,117,108,108] then ⟨0,0,0,[]⟩
 else if l.head?=some 35 then ⟨5,0,0,l.tail⟩
 else if l.head?=some 34 then ⟨3,0,0,inR l.tail⟩
 else match numB (numTail l) with
  | none=>⟨0,0,4,[]⟩
  | some (x,d)=>if I64 (if l.head?==some 45 then -(x:Int) else (x:Int)) then ⟨if d then 2 else 1,if l.head?==some 45 then -(x:Int) else (x:Int),0,[]⟩ else ⟨0,0,9,[]⟩
def finL (l:List UInt8) (t:Rd3):Rd3:=
 if t.e≠0 then ⟨0,0,t.e,[]⟩ else if mayB t.k t.n (st t.s)=true∧textL t.k t.n (st t.s)=l then t else ⟨0,0,4,[]⟩
theorem text_may {k n:Int} {s:ByteArray} {l:List UInt8} (hl:l≠[]) (h:textL k n s=l):mayB k n s=true:=by
 cases hm:mayB k n s with
 | true=>rfl
 | false=>
   exfalso
   unfold textL at h
   rw [hm] at h
   exact hl h.symm
theorem numB_no {c:UInt8} {r:List UInt8} (h:dg8 c=false):numB (c::r)=none:=by
 unfold numB
 rw [scN,if_neg (by rintro ⟨_,_,h⟩;omega),if_neg (by rw [h];exact Bool.false_ne_true)]
theorem fin_same {l:List UInt8} {t:Rd3} (hl:l≠[]) (h4:¬ 402<l.length) (ht:readL l=t):finL l t=parseL l:=by
 unfold finL parseL
 rw [if_neg h4,ht]
 by_cases h0:t.e=0
 ·rw [if_neg (fun h=>h h0),if_pos h0]
  by_cases hx:textL t.k t.n (st t.s)=l
  ·rw [if_pos ⟨text_may hl hx,hx⟩,if_pos hx]
  ·rw [if_neg (fun h=>hx h.2),if_neg hx]
 ·rw [if_pos h0,if_neg h0]
theorem fin_four {l:List UInt8}:finL l ⟨0,0,4,[]⟩=⟨0,0,4,[]⟩:=rfl
theorem text_word {k n:Int} {W l:List UInt8} (hW:textL k n (st [])=W) (hr:readL l=⟨k,n,0,[]⟩) (h4:¬ 402<l.length) (hne:l≠W):parseL l=⟨0,0,4,[]⟩:=by
 unfold parseL
 rw [if_neg h4,hr,if_pos rfl]
 exact if_neg (fun h=>hne (h.symm.trans hW))
theorem text_str {n:Int} {s:ByteArray} (hm:mayB 3 n s=true):textL 3 n s=34::(escL s.data.toList++[34]):=by
 unfold textL
 rw [if_neg (by rw [hm];decide)]
 rfl
theorem stage_parse (l:List UInt8) (h4:¬ 402<l.length):finL l (stageL l)=parseL l:=by
 cases l with
 | nil=>rfl
 | cons c r=>
   have hl:c::r≠[]:=List.cons_ne_nil _ _
   unfold stageL
   split
   ·next h=>rw [h] at h4 ⊢;exact fin_same (by simp) h4 rfl
   split
   ·next h1 h=>rw [h] at h4 ⊢;exact fin_same (by simp) h4 rfl
   split
   ·next h1 h2 h=>rw [h] at h4 ⊢;exact fin_same (by simp) h4 rfl
   next n1 n2 n3=>
   split
   ·next h=>
    have hc:c=35:=by simpa using h
    subst hc
    exact fin_same hl h4 rfl
   split
   ·next h' h=>
    have hc:c=34:=by simpa using h
    subst hc
    have hr:=read34 r
    have hp:parseL (34::r)=if textL 3 0 (st (unqL (Lib.trimSuffix r [34])))=34::r then ⟨3,0,0,unqL (Lib.trimSuffix r [34])⟩ else ⟨0,0,4,[]⟩:=by
     unfold parseL
     rw [if_neg h4,hr,if_pos rfl]
    rw [hp]
    show finL (34::r) ⟨3,0,0,inR r⟩=_
    unfold finL
    rw [if_neg (fun h=>h rfl)]
    by_cases hx:mayB 3 0 (st (inR r))=true∧textL 3 0 (st (inR r))=34::r
    ·rw [if_pos hx]
     have hb:=read_back 3 0 (st (inR r)) hx.1 (by decide)
     rw [hx.2,hr] at hb
     have hs:unqL (Lib.trimSuffix r [34])=inR r:=by injection hb
     rw [hs,if_pos hx.2]
    ·rw [if_neg hx]
     by_cases hy:textL 3 0 (st (unqL (Lib.trimSuffix r [34])))=34::r
     ·exfalso
      apply hx
      have hm:=text_may hl hy
      have ht:=text_str hm
      rw [hy] at ht
      injection ht with _ ht
      have hi:=inR_esc (unqL (Lib.trimSuffix r [34]))
      rw [←ht] at hi
      rw [hi]
      exact ⟨hm,hy⟩
     ·rw [if_neg hy]
   next n4 n5=>
   have c35:c≠35:=fun e=>n4 (by rw [e];rfl)
   have c34:c≠34:=fun e=>n5 (by rw [e];rfl)
   by_cases hnum:c=45∨dg8 c=true
   ·have hrl:=readL_num (l:=c::r) rfl hnum
    obtain ⟨⟨wh,rs,pt⟩,hcut⟩:∃ x,x=Lib.cut (numTail (c::r)) [46]:=⟨_,rfl⟩
    have hrd:=numB_read (decide (c=45)) (numTail (c::r)) wh rs pt hcut.symm
    have hneg:((c::r).head?==some 45)=decide (c=45):=by
     show (some c==some (45:UInt8))=_
     by_cases h45:c=45
     ·subst h45;rfl
     ·rw [decide_eq_false h45];simpa using h45
    have hN:readN (c::r)=readC (if decide (c=45)=true then [45] else []) wh rs pt:=by
     by_cases h45:c=45
     ·subst h45
      have ht:numTail (45::r)=r:=rfl
      rw [ht] at hcut
      exact readN_neg hcut.symm
     ·have ht:numTail (c::r)=c::r:=by unfold numTail;rw [hneg,decide_eq_false h45];rfl
      rw [ht] at hcut
      rw [decide_eq_false h45]
      exact readN_plain rfl h45 hcut.symm
    refine fin_same hl h4 ?_
    rw [hrl,hN,hrd,hneg]
    cases numB (numTail (c::r)) with
    | none=>rfl
    | some p=>
      obtain ⟨x,d⟩:=p
      simp only
      generalize (if decide (c=45)=true then -(x:Int) else (x:Int))=X
      by_cases hI:I64 X
      ·simp only [if_pos hI]
      ·simp only [if_neg hI]
   ·rw [not_or] at hnum
    have hdg:dg8 c=false:=by simpa using hnum.2
    have ht:numTail (c::r)=c::r:=by
     unfold numTail
     rw [if_neg]
     show ¬ (some c==some (45:UInt8))=true
     simpa using hnum.1
    rw [ht,numB_no hdg]
    show finL (c::r) ⟨0,0,4,[]⟩=_
    rw [fin_four]
    symm
    by_cases k1:c=110
    ·subst k1;exact text_word (W:=[110,117,108,108]) (k:=0) (n:=0) (by kernel_rfl) rfl h4 n3
    by_cases k2:c=116
    ·subst k2;exact text_word (W:=[116,114,117,101]) (k:=4) (n:=1) (by kernel_rfl) rfl h4 n1
    by_cases k3:c=102
    ·subst k3;exact text_word (W:=[102,97,108,115,101]) (k:=4) (n:=0) (by kernel_rfl) rfl h4 n2
    have hr:readL (c::r)=⟨0,0,4,[]⟩:=by
     rw [readL,if_neg k1,if_neg k2,if_neg k3,if_neg c34,if_neg c35,if_neg (by rw [not_or];exact hnum)]
    unfold parseL
    rw [if_neg h4,hr,if_neg (by show ¬ (4:Int)=0;decide)]
theorem rtruth_any (b:Bool) (w:World):Calls Tryz.prog 93 #[.bool b] w fun e w'=>e=.returned (vl 4 (if b=true then 1 else 0) ⟨#[]⟩)∧Old w w':=by
 cases b
 ·go_enter Tryz.func93,Tryz.ntmps93
  go_wp2
  exact bodyPost_ret (v:=vl 4 0 ⟨#[]⟩) (by simp [results,Tryz.results93,go_sem]) rfl ⟨rfl,((Old.refl w).alloc _).alloc _⟩
 ·go_enter Tryz.func93,Tryz.ntmps93
  go_wp2
  exact bodyPost_ret (v:=vl 4 1 ⟨#[]⟩) (by simp [results,Tryz.results93,go_sem]) rfl ⟨rfl,((Old.refl w).alloc _).alloc _⟩
structure Pq (w W:World) (k n:Int) (s:ByteArray):Prop where
 r:Three W w.heap.size (.int .u8 0) (.int .i64 0) (.string ⟨#[]⟩)
 v:Three W (w.heap.size+1) (.int .u8 k) (.int .i64 n) (.string s)
 o:Old w W
theorem Pq.old {w W W':World} {k n:Int} {s:ByteArray} (h:Pq w W k n s) (ho:Old W W'):Pq w W' k n s:=⟨h.r.old ho,h.v.old ho,h.o.trans ho⟩
theorem Three.far {w:World} {b g o:Nat} {x y z:Value} (h:Three w b x y z) (hne:g≠b) (u:Value):Three (w.setCell ⟨g,o,none⟩ u) b x y z:=(far_heap hne).trans h
theorem Pq.put {w W:World} {k n:Int} {s:ByteArray} (h:Pq w W k n s) (k' n':Int) (s':ByteArray):Pq w (((W.setCell ⟨w.heap.size+1,0,none⟩ (.int .u8 k')).setCell ⟨w.heap.size+1,1,none⟩ (.int .i64 n')).setCell ⟨w.heap.size+1,2,none⟩ (.string s')) k' n' s':=
 ⟨((h.r.far (by omega) _).far (by omega) _).far (by omega) _,h.v.set _ _ _,old3 h.o (Nat.le_succ _) _ _ _⟩
theorem Pq.put0 {w W:World} {k n:Int} {s:ByteArray} (h:Pq w W k n s) (k':Int):Pq w (W.setCell ⟨w.heap.size+1,0,none⟩ (.int .u8 k')) k' n s:=
 ⟨h.r.far (by omega) _,h.v.set0 _,h.o.setCell (p:=⟨w.heap.size+1,0,none⟩) (Nat.le_succ _) _⟩
abbrev zobj3:Obj:=.cells #[.int .u8 0,.int .i64 0,.string ⟨#[]⟩] 26
theorem pq0 (w:World):Pq w ((w.alloc zobj3).alloc zobj3) 0 0 ⟨#[]⟩:=by
 refine ⟨(Three.new w _ _ _).alloc _,?_,((Old.refl w).alloc _).alloc _⟩
 have h:=Three.new (w.alloc zobj3) (.int .u8 0) (.int .i64 0) (.string ⟨#[]⟩)
 rw [sz_alloc] at h
 exact h
theorem ret_v {fn:Func} (hf:fn.results=#[.cell 2 26,.tmp 3]) (tmps:Array Value) (W:World) (g:Nat) {x y z b:Value} (h2:tmps.getD 2 undef=.pointer (some ⟨g,0,none⟩)) (h3:tmps.getD 3 undef=b) (H:Three W g x y z) :
 (results fn tmps).run Tryz.prog W=.ok (.tuple #[.agg #[x,y,z],b]) W:=by
 have h2':tmps[2]?.getD undef=.pointer (some ⟨g,0,none⟩):=by simpa using h2
 have h3':tmps[3]?.getD undef=b:=by simpa using h3
 have r:=run_loadVar_row (P:=Tryz.prog) W g 26 26 #[x,y,z] (0,0) _ H Tryz.underlying26 rfl (by kernel_rfl)
 simp [results,hf,Sem.run_bind,Result.andThen,h2',h3',asAddr,r]
theorem st_beqN (a b:List UInt8):(st a==st b)=(a==b):=by
 show (a.toArray==b.toArray)=(a==b)
 simp
theorem st_len (l:List UInt8):(st l).size=l.length:=by simp [st,ByteArray.size]
theorem rparse_long (l:List UInt8) (h:402<l.length) (hl:l.length≤70000) (w:World):Calls Tryz.prog 43 #[.string (st l)] w fun e w'=>e=rd ⟨0,0,3,[]⟩∧Old w w':=by
 have HO:=hid ((Old.refl w).alloc zobj3)
 have HT:=hid (Three.new w (.int .u8 0) (.int .i64 0) (.string ⟨#[]⟩))
 have c0:=HT.out.c0
 have c1:=HT.out.c1
 have c2:=HT.out.c2
 have f0:=HT.out.f 0
 have f1:=HT.out.f 1
 have f2:=HT.out.f 2
 go_enter Tryz.func43,Tryz.ntmps43
 go_wp2_with fail
 all_goals
  refine bodyPost_ret (ret_v rfl _ _ w.heap.size rfl rfl HT.out) rfl ?_
  exact ⟨rfl,HO.out⟩
theorem rparse_true (l:List UInt8) (hl:l.length≤402) (hw:l=[116,114,117,101]) (w:World) (t0:Rd3) (ht0:t0=stageL l):Calls Tryz.prog 43 #[.string (st l)] w fun e w'=>e=rd (finL l t0)∧Old w w':=by
 have H0:=hid (pq0 w)
 have h73:=fun W=>rnumber_any (st l) (by rw [st_len];exact hl) W
 have hle:¬ (402:Int)<(l.length:Int):=by omega
 have hnb:numB (numTail l)=none:=by rw [hw];kernel_rfl
 have ht:stageL l=⟨4,1,0,[]⟩:=by rw [hw];kernel_rfl
 rw [ht] at ht0
 rw [hnb] at h73
 have hf:finL l t0=t0:=by rw [ht0,hw];kernel_rfl
 have hmay:=fun W=>rmay_any 4 1 ⟨#[]⟩ W (by unfold maxLen;decide)
 have htx:=fun W=>rtext_any 4 1 ⟨#[]⟩ (by decide) (by decide) (by decide) W
 rw [show mayB 4 1 ⟨#[]⟩=true by kernel_rfl] at hmay
 rw [show textL 4 1 ⟨#[]⟩=l by rw [hw];kernel_rfl] at htx
 rw [hf,ht0]
 subst hw
 clear hf ht ht0 hnb
 go_enter Tryz.func43,Tryz.ntmps43
 go_wp2_with (first
  | (go_at_call 92;(with_reducible refine (h73 _).mono ?_);rintro e w1 ⟨hr,o1⟩;obtain ⟨vv,nn,rfl,hv⟩:=hr;obtain ⟨ng,oa,la,ca,rfl⟩:=hv.form;have H1:=hid ((H0.out.old o1).old ((Old.refl _).alloc (.cells #[.bool ng,.slice oa la ca] 131)));clear hv o1;have a0:=H1.out.v.c0;have a1:=H1.out.v.c1;have a2:=H1.out.v.c2;have af0:=H1.out.v.f 0;have af1:=H1.out.v.f 1;have af2:=H1.out.v.f 2;have b0:=H1.out.r.c0;have b1:=H1.out.r.c1;have b2:=H1.out.r.c2;have bf0:=H1.out.r.f 0;have bf1:=H1.out.r.f 1;have bf2:=H1.out.r.f 2)
  | (go_at_call 93;(with_reducible refine (rtruth_any _ _).mono ?_);rintro e w4 ⟨rfl,o4⟩;replace H1:=hid (H1.out.old o4);clear o4 a0 a1 a2 af0 af1 af2 b0 b1 b2 bf0 bf1 bf2;have a0:=H1.out.v.c0;have a1:=H1.out.v.c1;have a2:=H1.out.v.c2;have af0:=H1.out.v.f 0;have af1:=H1.out.v.f 1;have af2:=H1.out.v.f 2;have b0:=H1.out.r.c0;have b1:=H1.out.r.c1;have b2:=H1.out.r.c2;have bf0:=H1.out.r.f 0;have bf1:=H1.out.r.f 1;have bf2:=H1.out.r.f 2)
  | (go_at_call 10;(with_reducible refine (hmay _).mono ?_);rintro e w5 ⟨rfl,o5⟩;have H5:=hid ((H1.out.put 4 1 ⟨#[]⟩).old o5);clear o5;have p0:=H5.out.v.c0;have p1:=H5.out.v.c1;have p2:=H5.out.v.c2;have pf0:=H5.out.v.f 0;have pf1:=H5.out.v.f 1;have pf2:=H5.out.v.f 2;have q0:=H5.out.r.c0;have q1:=H5.out.r.c1;have q2:=H5.out.r.c2;have qf0:=H5.out.r.f 0;have qf1:=H5.out.r.f 1;have qf2:=H5.out.r.f 2)
  | (go_at_call 53;(with_reducible refine (htx _).mono ?_);rintro e w6 ⟨rfl,o6⟩;have H6:=hid (H5.out.old o6);clear o6;have r0:=H6.out.v.c0;have r1:=H6.out.v.c1;have r2:=H6.out.v.c2;have rf0:=H6.out.v.f 0;have rf1:=H6.out.v.f 1;have rf2:=H6.out.v.f 2;have s0:=H6.out.r.c0;have s1:=H6.out.r.c1;have s2:=H6.out.r.c2;have sf0:=H6.out.r.f 0;have sf1:=H6.out.r.f 1;have sf2:=H6.out.r.f 2))
 all_goals
  refine bodyPost_ret (ret_v rfl _ _ w.heap.size rfl rfl ((H6.out).r.set _ _ _)) rfl ?_
  exact ⟨rfl,old3 (H6.out).o (Nat.le_refl _) _ _ _⟩
theorem rparse_false (l:List UInt8) (hl:l.length≤402) (hw:l=[102,97,108,115,101]) (w:World) (t0:Rd3) (ht0:t0=stageL l):Calls Tryz.prog 43 #[.string (st l)] w fun e w'=>e=rd (finL l t0)∧Old w w':=by
 have H0:=hid (pq0 w)
 have h73:=fun W=>rnumber_any (st l) (by rw [st_len];exact hl) W
 have hle:¬ (402:Int)<(l.length:Int):=by omega
 have hnb:numB (numTail l)=none:=by rw [hw];kernel_rfl
 have ht:stageL l=⟨4,0,0,[]⟩:=by rw [hw];kernel_rfl
 rw [ht] at ht0
 rw [hnb] at h73
 have hf:finL l t0=t0:=by rw [ht0,hw];kernel_rfl
 have hmay:=fun W=>rmay_any 4 0 ⟨#[]⟩ W (by unfold maxLen;decide)
 have htx:=fun W=>rtext_any 4 0 ⟨#[]⟩ (by decide) (by decide) (by decide) W
 rw [show mayB 4 0 ⟨#[]⟩=true by kernel_rfl] at hmay
 rw [show textL 4 0 ⟨#[]⟩=l by rw [hw];kernel_rfl] at htx
 rw [hf,ht0]
 subst hw
 clear hf ht ht0 hnb
 go_enter Tryz.func43,Tryz.ntmps43
 go_wp2_with (first
  | (go_at_call 92;(with_reducible refine (h73 _).mono ?_);rintro e w1 ⟨hr,o1⟩;obtain ⟨vv,nn,rfl,hv⟩:=hr;obtain ⟨ng,oa,la,ca,rfl⟩:=hv.form;have H1:=hid ((H0.out.old o1).old ((Old.refl _).alloc (.cells #[.bool ng,.slice oa la ca] 131)));clear hv o1;have a0:=H1.out.v.c0;have a1:=H1.out.v.c1;have a2:=H1.out.v.c2;have af0:=H1.out.v.f 0;have af1:=H1.out.v.f 1;have af2:=H1.out.v.f 2;have b0:=H1.out.r.c0;have b1:=H1.out.r.c1;have b2:=H1.out.r.c2;have bf0:=H1.out.r.f 0;have bf1:=H1.out.r.f 1;have bf2:=H1.out.r.f 2)
  | (go_at_call 93;(with_reducible refine (rtruth_any _ _).mono ?_);rintro e w4 ⟨rfl,o4⟩;replace H1:=hid (H1.out.old o4);clear o4 a0 a1 a2 af0 af1 af2 b0 b1 b2 bf0 bf1 bf2;have a0:=H1.out.v.c0;have a1:=H1.out.v.c1;have a2:=H1.out.v.c2;have af0:=H1.out.v.f 0;have af1:=H1.out.v.f 1;have af2:=H1.out.v.f 2;have b0:=H1.out.r.c0;have b1:=H1.out.r.c1;have b2:=H1.out.r.c2;have bf0:=H1.out.r.f 0;have bf1:=H1.out.r.f 1;have bf2:=H1.out.r.f 2)
  | (go_at_call 10;(with_reducible refine (hmay _).mono ?_);rintro e w5 ⟨rfl,o5⟩;have H5:=hid ((H1.out.put 4 0 ⟨#[]⟩).old o5);clear o5;have p0:=H5.out.v.c0;have p1:=H5.out.v.c1;have p2:=H5.out.v.c2;have pf0:=H5.out.v.f 0;have pf1:=H5.out.v.f 1;have pf2:=H5.out.v.f 2;have q0:=H5.out.r.c0;have q1:=H5.out.r.c1;have q2:=H5.out.r.c2;have qf0:=H5.out.r.f 0;have qf1:=H5.out.r.f 1;have qf2:=H5.out.r.f 2)
  | (go_at_call 53;(with_reducible refine (htx _).mono ?_);rintro e w6 ⟨rfl,o6⟩;have H6:=hid (H5.out.old o6);clear o6;have r0:=H6.out.v.c0;have r1:=H6.out.v.c1;have r2:=H6.out.v.c2;have rf0:=H6.out.v.f 0;have rf1:=H6.out.v.f 1;have rf2:=H6.out.v.f 2;have s0:=H6.out.r.c0;have s1:=H6.out.r.c1;have s2:=H6.out.r.c2;have sf0:=H6.out.r.f 0;have sf1:=H6.out.r.f 1;have sf2:=H6.out.r.f 2))
 all_goals
  refine bodyPost_ret (ret_v rfl _ _ w.heap.size rfl rfl ((H6.out).r.set _ _ _)) rfl ?_
  exact ⟨rfl,old3 (H6.out).o (Nat.le_refl _) _ _ _⟩
theorem rparse_null (l:List UInt8) (hl:l.length≤402) (hw:l=[110,117,108,108]) (w:World) (t0:Rd3) (ht0:t0=stageL l):Calls Tryz.prog 43 #[.string (st l)] w fun e w'=>e=rd (finL l t0)∧Old w w':=by
 have H0:=hid (pq0 w)
 have h73:=fun W=>rnumber_any (st l) (by rw [st_len];exact hl) W
 have hle:¬ (402:Int)<(l.length:Int):=by omega
 have hnb:numB (numTail l)=none:=by rw [hw];kernel_rfl
 have ht:stageL l=⟨0,0,0,[]⟩:=by rw [hw];kernel_rfl
 rw [ht] at ht0
 rw [hnb] at h73
 have hf:finL l t0=t0:=by rw [ht0,hw];kernel_rfl
 have hmay:=fun W=>rmay_any 0 0 ⟨#[]⟩ W (by unfold maxLen;decide)
 have htx:=fun W=>rtext_any 0 0 ⟨#[]⟩ (by decide) (by decide) (by decide) W
 rw [show mayB 0 0 ⟨#[]⟩=true by kernel_rfl] at hmay
 rw [show textL 0 0 ⟨#[]⟩=l by rw [hw];kernel_rfl] at htx
 rw [hf,ht0]
 subst hw
 clear hf ht ht0 hnb
 go_enter Tryz.func43,Tryz.ntmps43
 go_wp2_with (first
  | (go_at_call 92;(with_reducible refine (h73 _).mono ?_);rintro e w1 ⟨hr,o1⟩;obtain ⟨vv,nn,rfl,hv⟩:=hr;obtain ⟨ng,oa,la,ca,rfl⟩:=hv.form;have H1:=hid ((H0.out.old o1).old ((Old.refl _).alloc (.cells #[.bool ng,.slice oa la ca] 131)));clear hv o1;have a0:=H1.out.v.c0;have a1:=H1.out.v.c1;have a2:=H1.out.v.c2;have af0:=H1.out.v.f 0;have af1:=H1.out.v.f 1;have af2:=H1.out.v.f 2;have b0:=H1.out.r.c0;have b1:=H1.out.r.c1;have b2:=H1.out.r.c2;have bf0:=H1.out.r.f 0;have bf1:=H1.out.r.f 1;have bf2:=H1.out.r.f 2)
  | (go_at_call 10;(with_reducible refine (hmay _).mono ?_);rintro e w5 ⟨rfl,o5⟩;have H5:=hid ((H1.out).old o5);clear o5;have p0:=H5.out.v.c0;have p1:=H5.out.v.c1;have p2:=H5.out.v.c2;have pf0:=H5.out.v.f 0;have pf1:=H5.out.v.f 1;have pf2:=H5.out.v.f 2;have q0:=H5.out.r.c0;have q1:=H5.out.r.c1;have q2:=H5.out.r.c2;have qf0:=H5.out.r.f 0;have qf1:=H5.out.r.f 1;have qf2:=H5.out.r.f 2)
  | (go_at_call 53;(with_reducible refine (htx _).mono ?_);rintro e w6 ⟨rfl,o6⟩;have H6:=hid (H5.out.old o6);clear o6;have r0:=H6.out.v.c0;have r1:=H6.out.v.c1;have r2:=H6.out.v.c2;have rf0:=H6.out.v.f 0;have rf1:=H6.out.v.f 1;have rf2:=H6.out.v.f 2;have s0:=H6.out.r.c0;have s1:=H6.out.r.c1;have s2:=H6.out.r.c2;have sf0:=H6.out.r.f 0;have sf1:=H6.out.r.f 1;have sf2:=H6.out.r.f 2))
 all_goals
  refine bodyPost_ret (ret_v rfl _ _ w.heap.size rfl rfl ((H6.out).r.set _ _ _)) rfl ?_
  exact ⟨rfl,old3 (H6.out).o (Nat.le_refl _) _ _ _⟩
end Go.Proofs.YtmkmafkkpigfpaaGreatDoor
