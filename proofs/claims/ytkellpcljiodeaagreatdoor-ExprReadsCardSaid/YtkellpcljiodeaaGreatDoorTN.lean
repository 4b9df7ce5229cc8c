/- Layer lexer: the words of a source, told one by one. -/
import Derived.Test.YtkellpcljiodeaaGreatDoorTM
set_option maxHeartbeats 1600000
namespace Go.Proofs.YtkellpcljiodeaaGreatDoor
open Go.ChangeShapes Go.WideShapes Go.ChangeAt Go.RowKit Go.Lib
set_option linter.unusedVariables false
set_option linter.unusedSimpArgs false
set_option maxRecDepth 100000
theorem drop_get_tk {l:List Tk} {i:Nat} {c:Tk} {r:List Tk} (h:l.drop i=c::r):l[i]?=some c:=by
 have:=congrArg (·[0]?) h
 simpa using this
theorem lexS_nil (f L C:Nat):lexS f [] L C=([],0,0,0):=by cases f<;>rfl
def Gw (bs:Nat) (s:ByteArray) (A:World):Prop:=Boxed A bs 9 (.string s)∧Env A
structure Iw (wr:World) (b:Nat) (s:ByteArray) (n0 k i L B f:Nat) (T:List Tk) (E ln cl:Int):Prop where
 rd:Rdr wr b s (i:Int) (L:Int) (B:Int)
 nb:n0≤b
 ib:B≤i
 il:i≤s.size
 ll:L≤i+1
 kt:k≤T.length
 fu:(s.data.toList.drop i).length<f
 eq:lexS f (s.data.toList.drop i) L (i+1-B)=(T.drop k,E,ln,cl)
theorem Iw.of_skip {w w':World} {b:Nat} {s:ByteArray} {n0 k i0 L0 C0 f:Nat} {T:List Tk} {E ln cl:Int} (h:Skd w w' b s i0 L0 C0) (hb:n0≤b) (hL:L0≤i0+1) (hk:k≤T.length) (hf:(s.data.toList.drop i0).length<f)
 (he:lexS f (skipL false (s.data.toList.drop i0) L0 C0).1 (skipL false (s.data.toList.drop i0) L0 C0).2.1 (skipL false (s.data.toList.drop i0) L0 C0).2.2=(T.drop k,E,ln,cl)) :
 ∃ i L B,Iw w' b s n0 k i L B f T E ln cl∧Chx (·= b) w w'∧i0≤i:=by
 obtain ⟨i,L,B,hr,hc,h1,h2,h3,h4,h5⟩:=h
 rw [h5] at he
 refine ⟨i,L,B,⟨hr,hb,h1,h2,by omega,hk,?_,he⟩,hc,h3⟩
 rw [List.length_drop] at hf ⊢
 omega
theorem Iw.word {wr:World} {b:Nat} {s:ByteArray} {n0 k i L B f:Nat} {T:List Tk} {E ln cl:Int} (h:Iw wr b s n0 k i L B f T E ln cl) (hi:i<s.size) (M:Tk) (me:Int)
 (hm:(M,me)=meanL (kindL (s.data.toList.drop i)) ((s.data.toList.drop i).take (wlen (s.data.toList.drop i)))) :
 (me=0→T[k]?=some { M with ln:=L,cl:=((i+1-B:Nat):Int) }∧∃ f',f=f'+1∧
   lexS f' (skipL false (s.data.toList.drop (i+wlen (s.data.toList.drop i))) L (i+wlen (s.data.toList.drop i)+1-B)).1 (skipL false (s.data.toList.drop (i+wlen (s.data.toList.drop i))) L (i+wlen (s.data.toList.drop i)+1-B)).2.1 (skipL false (s.data.toList.drop (i+wlen (s.data.toList.drop i))) L (i+wlen (s.data.toList.drop i)+1-B)).2.2=(T.drop (k+1),E,ln,cl))∧
 (me≠0→k=T.length∧E=me∧ln=L∧cl=((i+1-B:Nat):Int)):=by
 have hl:i<s.data.toList.length:=by rw [Array.length_toList];exact hi
 obtain ⟨l,hld⟩:∃ l,l=s.data.toList.drop i:=⟨_,rfl⟩
 obtain ⟨c,r,hcr⟩:∃ c r,l=c::r:=⟨_,_,by rw [hld];exact List.drop_eq_getElem_cons hl⟩
 have hf:=h.fu
 have he:=h.eq
 have hib:=h.ib
 rw [←hld] at hm hf he ⊢
 rw [hcr] at hm hf he ⊢
 obtain ⟨f',rfl⟩:∃ f',f=f'+1:=⟨f-1,by simp only [List.length_cons] at hf;omega⟩
 have hdd:s.data.toList.drop (i+wlen (c::r))=(c::r).drop (wlen (c::r)):=by rw [←hcr,hld,List.drop_drop]
 rw [lexS,←hm] at he
 constructor
 ·intro h0
  rw [if_pos h0] at he
  injection he with h1 h2
  refine ⟨drop_get_tk h1.symm,f',rfl,?_⟩
  rw [hdd,show i+wlen (c::r)+1-B=i+1-B+wlen (c::r) by omega]
  have h3:T.drop (k+1)=(T.drop k).tail:=by rw [List.tail_drop]
  rw [h3,←h1,List.tail_cons,←h2]
 ·intro h0
  rw [if_neg h0] at he
  injection he with h1 h2
  injection h2 with h2 h3
  injection h3 with h3 h4
  refine ⟨?_,h2.symm,h3.symm,h4.symm⟩
  have:=congrArg List.length h1
  rw [List.length_drop,List.length_nil] at this
  have:=h.kt
  omega
theorem Iw.done {wr:World} {b:Nat} {s:ByteArray} {n0 k i L B f:Nat} {T:List Tk} {E ln cl:Int} (h:Iw wr b s n0 k i L B f T E ln cl) (hi:s.size≤i):k=T.length∧E=0:=by
 have he:=h.eq
 rw [List.drop_eq_nil_of_le (by rw [Array.length_toList];exact hi),lexS_nil] at he
 injection he with h1 h2
 injection h2 with h2 h3
 have:=congrArg List.length h1
 rw [List.length_drop,List.length_nil] at this
 have:=h.kt
 exact ⟨by omega,h2.symm⟩
theorem tells_words (n:Nat) (hn:2≤n) (s:ByteArray) (hs:s.size≤800000) (bs n0:Nat) (T:List Tk) (E ln cl:Int) (hT:lexL s.data.toList=(T,E,ln,cl)) :
 TellsW Fence.wide n Tryz.prog 52 #[.pointer (some ⟨bs,0,none⟩)] n0 T E ln cl (Gw bs s):=by
 intro l J Z W hn0 hJo hZo hJG hY hYE h0
 refine callsIn_of_wp Tryz.func52 rfl trivial ?_ rfl
 simp only [Tryz.ntmps52,List.size_toArray,List.length_cons,List.length_nil,Nat.reduceAdd,Nat.reduceSub,Array.replicate_succ,Array.replicate_zero,List.push_toArray,List.append_toArray,List.nil_append,List.cons_append]
 have hb0:=(hJG 0 W h0).1.cell
 have HY:=hid hY
 have HYE:=hid hYE
 have HJG:=hid hJG
 have HJO:=hid hJo
 have HT:=hid hT
 have hn1:1≤n:=by omega
 have f23:Fence.wide.fn 53:=trivial
 have f24:Fence.wide.fn 54:=trivial
 have HR:Hid (Rdr (W.alloc (.cells #[.string s,.int .i64 0,.int .i64 1,.int .i64 0] 100)) W.heap.size s ((0:Nat):Int) ((1:Nat):Int) ((0:Nat):Int)):=hid (MapKept.heap_alloc W _).1
 have HJ:=hid (hJo 0 W _ h0 (Kr.ofOld ((Old.refl W).alloc (.cells #[.string s,.int .i64 0,.int .i64 1,.int .i64 0] 100))))
 clear hY hYE hJG hJo hT h0
 gi_wp2_with (first
  | (gi_at_call 53;refine (callsIn_wide.2 (skip_any _ W.heap.size 0 1 0 s HR.out (by omega) (Nat.zero_le _) (Nat.le_refl _) (by omega))).mono ?_;rintro e w1 ⟨⟨v,rfl⟩,hsk⟩;have HSK:=hid hsk;clear hsk))
 have hfirst:lexS (s.data.toList.length+1) (skipL false (s.data.toList.drop 0) 1 1).1 (skipL false (s.data.toList.drop 0) 1 1).2.1 (skipL false (s.data.toList.drop 0) 1 1).2.2=(T.drop 0,E,ln,cl):=by
  rw [List.drop_zero,List.drop_zero];exact HT.out
 obtain ⟨i1,L1,B1,hiw,hc1,_⟩:=Iw.of_skip (k:=0) HSK.out hn0 (by omega) (Nat.zero_le _) (by simp) hfirst
 have HIW:=hid hiw
 have HJ1:=hid (HJO.out 0 _ _ HJ.out (Kr.ofChx hc1 HR.out hn0))
 clear HR HJ HSK hfirst hiw hc1
 gi_loopw [] (fun wr=>∃ k i L B f:Nat,Hid (J k wr)∧Hid (Iw wr W.heap.size s n0 k i L B f T E ln cl)) (fun wr=>s.size-nextOf wr W.heap.size)
 case atStart=>exact ⟨0,i1,L1,B1,_,HJ1,HIW⟩
 case round=>
  clear HJ1 HIW
  obtain ⟨k,i,L,B,f,HJ,HI⟩:=hrel
  have c1:=HI.out.rd.c1
  have f1:=HI.out.rd.f 1
  have d0:=(HJG.out k wr HJ.out).1.cell
  have e0:=(HJG.out k wr HJ.out).1.frozen
  rcases Nat.lt_or_ge i s.size with hi|hi
  ·obtain ⟨⟨M,me⟩,hm⟩:∃ m,m=meanL (kindL (s.data.toList.drop i)) ((s.data.toList.drop i).take (wlen (s.data.toList.drop i))):=⟨_,rfl⟩
   have hw:=word_any wr wr W.heap.size i L B s HI.out.rd (by omega) hi HI.out.ib (by have:=HI.out.ll;omega) (HJG.out k wr HJ.out).2 (Old.refl wr)
   rw [←hm] at hw
   obtain ⟨hz,hnz⟩:=HI.out.word hi M me hm
   have hl:i<s.data.toList.length:=by rw [Array.length_toList];exact hi
   have hne:s.data.toList.drop i≠[]:=by rw [List.drop_eq_getElem_cons hl];simp
   have hwl:=wlen_le hne
   have hw1:1≤wlen (s.data.toList.drop i):=by unfold wlen;omega
   rw [List.length_drop,Array.length_toList] at hwl
   have hzs:s.data.size=s.size:=rfl
   obtain ⟨m,hml⟩:∃ m,m=i+wlen (s.data.toList.drop i):=⟨_,rfl⟩
   rw [←hml] at hw hz
   have HM1:=hid (show i<m by omega)
   have HM2:=hid (show m≤s.size by omega)
   obtain ⟨x,hx⟩:∃ x:Tk,x={ M with ln:=(L:Int),cl:=((i+1-B:Nat):Int) }:=⟨_,rfl⟩
   have hxl:x.ln=(L:Int):=by rw [hx]
   have hxc:x.cl=((i+1-B:Nat):Int):=by rw [hx]
   by_cases hme:me=0
   ·subst hme
    obtain ⟨hxk,f',rfl,hls⟩:=hz rfl
    simp only at hw
    rw [←hx] at hw hxk
    have HX:=hid hxk
    have HLS:=hid hls
    clear hx hz hnz hm hl hne hwl hw1 hml hzs hls hxk hxl hxc
    gi_wp2_with (first
     | (gi_at_call 54;refine (callsIn_wide.2 hw).mono ?_;rintro e w2 ⟨rfl,hr2,hc2⟩;have HR2:=hid hr2;have HJ2:=hid (HJO.out k wr _ HJ.out (Kr.trans (Kr.ofChx hc2 HI.out.rd HI.out.nb) (Kr.ofOld ((Old.refl w2).alloc (.cells #[.int .u8 x.k,.string (st x.t),.int .u8 x.vk,.int .i64 x.vn,.string (st x.vs),.int .i64 x.ln,.int .i64 x.cl] 57)))));have HS3:=hid (Sv.new w2 (x0:=.int .u8 x.k) (x1:=.string (st x.t)) (x2:=.int .u8 x.vk) (x3:=.int .i64 x.vn) (x4:=.string (st x.vs)) (x5:=.int .i64 x.ln) (x6:=.int .i64 x.cl));clear hr2 hc2;have a0:=HS3.out.c 0;have a1:=HS3.out.c 1;have a2:=HS3.out.c 2;have a3:=HS3.out.c 3;have a4:=HS3.out.c 4;have a5:=HS3.out.c 5;have a6:=HS3.out.c 6;have g0:=HS3.out.f 0;have g1:=HS3.out.f 1;have g2:=HS3.out.f 2;have g3:=HS3.out.f 3;have g4:=HS3.out.f 4;have g5:=HS3.out.f 5;have g6:=HS3.out.f 6;obtain ⟨fn,tmps,assign,body,hy,hR⟩:=HY.out k x _ HJ2.out HX.out))
    refine hR.mono ?_
    rintro e W3 ⟨rfl,hJ3,hk3⟩
    have HJ3:=hid hJ3
    have HR3:=hid (hk3.reader (HR2.out.old ((Old.refl w2).alloc (.cells #[.int .u8 x.k,.string (st x.t),.int .u8 x.vk,.int .i64 x.vn,.string (st x.vs),.int .i64 x.ln,.int .i64 x.cl] 57))))
    have hib:=HI.out.ib
    have hll:=HI.out.ll
    have him:=HM1.out
    have hBm:B≤m:=by omega
    have hL9:L≤900001:=by omega
    clear hJ3 hk3
    gi_wp2_with (first
     | (gi_at_call 53;refine (callsIn_wide.2 (skip_any _ W.heap.size m L B s HR3.out (by omega) HM2.out hBm hL9)).mono ?_;rintro e w4 ⟨⟨v2,rfl⟩,hsk⟩;have HSK:=hid hsk;clear hsk))
    have hkT:k<T.length:=(List.getElem?_eq_some_iff.1 HX.out).1
    have hfu:=HI.out.fu
    obtain ⟨i',L',B',hiw,hc4,him'⟩:=Iw.of_skip (k:=k+1) (f:=f') HSK.out hn0 (by omega) hkT (by
     rw [List.length_drop] at hfu ⊢
     rw [Array.length_toList] at hfu ⊢
     have:s.data.size=s.size:=rfl
     omega) HLS.out
    refine ⟨⟨k+1,i',L',B',f',hid (HJO.out _ _ _ HJ3.out (Kr.ofChx hc4 HR3.out hn0)),hid hiw⟩,?_⟩
    rw [nextOf_eq hiw.rd,nextOf_eq HI.out.rd]
    have:=hiw.il
    omega
   ·obtain ⟨hkT,hE,hln,hcl⟩:=hnz hme
    rw [←hx] at hw
    have hE0:E≠0:=by rw [hE];exact hme
    have HXL:=hid (hxl.trans hln.symm)
    have HXC:=hid (hxc.trans hcl.symm)
    have hm0:(me==0)=false:=by simpa using hme
    have hm1:(me != 0)=true:=by simpa using hme
    have HKT:=hid hkT
    have HE:=hid hE
    clear hx hz hnz hm hl hne hwl hw1 hml hzs hxl hxc hkT hE hln hcl
    gi_wp2_with (first
     | (gi_at_call 54;refine (callsIn_wide.2 hw).mono ?_;rintro e w2 ⟨rfl,hr2,hc2⟩;have HR2:=hid hr2;have HJ2:=hid (HJO.out k wr _ HJ.out (Kr.trans (Kr.ofChx hc2 HI.out.rd HI.out.nb) (Kr.ofOld ((Old.refl w2).alloc (.cells #[.int .u8 x.k,.string (st x.t),.int .u8 x.vk,.int .i64 x.vn,.string (st x.vs),.int .i64 x.ln,.int .i64 x.cl] 57)))));have HS3:=hid (Sv.new w2 (x0:=.int .u8 x.k) (x1:=.string (st x.t)) (x2:=.int .u8 x.vk) (x3:=.int .i64 x.vn) (x4:=.string (st x.vs)) (x5:=.int .i64 x.ln) (x6:=.int .i64 x.cl));clear hr2 hc2;have a0:=HS3.out.c 0;have a1:=HS3.out.c 1;have a2:=HS3.out.c 2;have a3:=HS3.out.c 3;have a4:=HS3.out.c 4;have a5:=HS3.out.c 5;have a6:=HS3.out.c 6;have g0:=HS3.out.f 0;have g1:=HS3.out.f 1;have g2:=HS3.out.f 2;have g3:=HS3.out.f 3;have g4:=HS3.out.f 4;have g5:=HS3.out.f 5;have g6:=HS3.out.f 6;obtain ⟨fn,tmps,assign,body,hy,hR⟩:=HYE.out x _ (by rw [←HKT.out];exact HJ2.out) hE0 HXL.out HXC.out;rw [HE.out] at hy))
    refine hR.mono ?_
    rintro e W3 ⟨⟨bb,rfl⟩,hZ3⟩
    have HZ3:=hid hZ3
    clear hZ3
    cases bb
    all_goals
     gi_wp2
     refine bodyPost_ret (results_none rfl _ _ _) rfl ?_
     exact ⟨⟨_,rfl⟩,HZ3.out⟩
  ·obtain ⟨hk,hE⟩:=HI.out.done hi
   gi_wp2
   go_end0
   exact ⟨⟨_,rfl⟩,by rw [←hk];exact HJ.out⟩
end Go.Proofs.YtkellpcljiodeaaGreatDoor
