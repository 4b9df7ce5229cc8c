/- Layer vtext: the text of a value. numbers are read. -/
import Derived.Lib.ParseIntBMem
import Derived.Lib.AtoiErrMem
import Derived.Test.YtkellpcljiodeaaGreatDoorLD
set_option maxHeartbeats 1600000
namespace Go.Proofs.YtkellpcljiodeaaGreatDoor
open Go.ChangeShapes Go.WideShapes Go.ChangeAt Go.RowKit Go.Lib
set_option linter.unusedVariables false
set_option maxRecDepth 100000
def textL (k n:Int) (s:ByteArray):List UInt8:=
 if mayB k n s=false then [] else if k=1 then Lib.itoa n else if k=2 then decL n else if k=3 then quoteL s.data.toList else if k=4 then Lib.formatBool (n==1) else if k=5 then 35::s.data.toList else [110,117,108,108]
theorem may_str {n:Int} {s:ByteArray} (h:mayB 3 n s=true):s.size≤200:=by
 unfold mayB textB at h
 simp at h
 omega
theorem may_sym {n:Int} {s:ByteArray} (h:mayB 5 n s=true):s.size≤12:=by
 unfold mayB nameB at h
 simp at h
 omega
theorem rs {a b:List UInt8} (h:a=b):Ending.returned (.string (st a))=.returned (.string (st b)):=by rw [h]
theorem text_any' (k n:Int) (s:ByteArray) (hk:0≤k∧k≤255) (hn:I64 n) (w:World) (he:Env w) :
 Calls Tryz.prog 80 #[vl k n s] w fun e w'=>e=.returned (.string (st (textL k n s)))∧Old w w':=by
 have HO:=hid ((Old.refl w).alloc (.cells #[.int .u8 k,.int .i64 n,.string s] 35))
 have HE:=hid (he.old HO.out)
 have HT:=hid (Three.new w (.int .u8 k) (.int .i64 n) (.string s))
 have HN:=hid hn
 clear he
 have hm:=fun W=>may_any k n s W
 cases hmay:mayB k n s
 ·rw [hmay] at hm
  have HM:=hid hmay
  clear hmay hn
  go_enter Tryz.func80,Tryz.ntmps80
  go_wp2_with (first
   | (go_at_call 116;(with_reducible refine (hm _).mono ?_);rintro e w1 ⟨rfl,o1⟩))
  go_ret
  exact ⟨rs (by unfold textL;rw [HM.out];rfl),HO.out.trans o1⟩
 ·rw [hmay] at hm
  have HM:=hid hmay
  clear hmay hn
  by_cases h1:k=1
  ·obtain rfl:=h1
   go_enter Tryz.func80,Tryz.ntmps80
   go_wp2_with (first
    | (go_at_call 116;(with_reducible refine (hm _).mono ?_);rintro e w1 ⟨rfl,o1⟩;replace HO:=hid (HO.out.trans o1);replace HE:=hid (HE.out.old o1);replace HT:=hid (HT.out.old o1);clear o1;have c0:=HT.out.c0;have c1:=HT.out.c1;have c2:=HT.out.c2)
    | (go_at_call 117;(with_reducible refine (fi_any n HN.out _ HE.out).mono ?_);rintro e w2 ⟨rfl,o2⟩))
   go_ret
   refine ⟨rs ?_,HO.out.trans o2⟩
   unfold textL
   rw [HM.out]
   rfl
  by_cases h2:k=2
  ·obtain rfl:=h2
   go_enter Tryz.func80,Tryz.ntmps80
   go_wp2_with (first
    | (go_at_call 116;(with_reducible refine (hm _).mono ?_);rintro e w1 ⟨rfl,o1⟩;replace HO:=hid (HO.out.trans o1);replace HE:=hid (HE.out.old o1);replace HT:=hid (HT.out.old o1);clear o1;have c0:=HT.out.c0;have c1:=HT.out.c1;have c2:=HT.out.c2)
    | (go_at_call 118;(with_reducible refine (dec_any n HN.out _ HE.out).mono ?_);rintro e w2 ⟨rfl,o2⟩))
   go_ret
   refine ⟨rs ?_,HO.out.trans o2⟩
   unfold textL
   rw [HM.out]
   rfl
  by_cases h3:k=3
  ·obtain rfl:=h3
   have hs3:=hid (show s.size≤1000 by have:=may_str HM.out;omega)
   go_enter Tryz.func80,Tryz.ntmps80
   go_wp2_with (first
    | (go_at_call 116;(with_reducible refine (hm _).mono ?_);rintro e w1 ⟨rfl,o1⟩;replace HO:=hid (HO.out.trans o1);replace HE:=hid (HE.out.old o1);replace HT:=hid (HT.out.old o1);clear o1;have c0:=HT.out.c0;have c1:=HT.out.c1;have c2:=HT.out.c2)
    | (go_at_call 119;(with_reducible refine (quoted_any s _ hs3.out).mono ?_);rintro e w2 ⟨rfl,o2⟩))
   go_ret
   refine ⟨rs ?_,HO.out.trans o2⟩
   unfold textL
   rw [HM.out]
   rfl
  by_cases h4:k=4
  ·obtain rfl:=h4
   go_enter Tryz.func80,Tryz.ntmps80
   go_wp2_with (first
    | (go_at_call 116;(with_reducible refine (hm _).mono ?_);rintro e w1 ⟨rfl,o1⟩;replace HO:=hid (HO.out.trans o1);replace HE:=hid (HE.out.old o1);replace HT:=hid (HT.out.old o1);clear o1;have c0:=HT.out.c0;have c1:=HT.out.c1;have c2:=HT.out.c2)
    | (go_at_call 120;(with_reducible refine (Tryz.strconv_FormatBool _ _).mono ?_);rintro e w2 ⟨rfl,rfl⟩))
   go_ret
   refine ⟨rs ?_,HO.out⟩
   unfold textL
   rw [HM.out]
   rfl
  by_cases h5:k=5
  ·obtain rfl:=h5
   have hs5:(s.size:Int)≤8388608:=by have:=may_sym HM.out;omega
   go_enter Tryz.func80,Tryz.ntmps80
   go_wp2_with (first
    | (go_at_call 116;(with_reducible refine (hm _).mono ?_);rintro e w1 ⟨rfl,o1⟩;replace HO:=hid (HO.out.trans o1);replace HE:=hid (HE.out.old o1);replace HT:=hid (HT.out.old o1);clear o1;have c0:=HT.out.c0;have c1:=HT.out.c1;have c2:=HT.out.c2)
    | fail)
   go_ret
   refine ⟨rs ?_,HO.out⟩
   unfold textL
   rw [HM.out]
   rfl
  ·have e1:(k==1)=false:=by simpa using h1
   have e2:(k==2)=false:=by simpa using h2
   have e3:(k==3)=false:=by simpa using h3
   have e4:(k==4)=false:=by simpa using h4
   have e5:(k==5)=false:=by simpa using h5
   have H:=hid (And.intro h1 (And.intro h2 (And.intro h3 (And.intro h4 h5))))
   clear h1 h2 h3 h4 h5
   go_enter Tryz.func80,Tryz.ntmps80
   go_wp2_with (first
    | (go_at_call 116;(with_reducible refine (hm _).mono ?_);rintro e w1 ⟨rfl,o1⟩;replace HO:=hid (HO.out.trans o1);replace HE:=hid (HE.out.old o1);replace HT:=hid (HT.out.old o1);clear o1;have c0:=HT.out.c0;have c1:=HT.out.c1;have c2:=HT.out.c2))
   go_ret
   refine ⟨rs ?_,HO.out⟩
   unfold textL
   rw [HM.out,if_neg (by decide),if_neg H.out.1,if_neg H.out.2.1,if_neg H.out.2.2.1,if_neg H.out.2.2.2.1,if_neg H.out.2.2.2.2]
def numOk {α:Type}:Lib.NumEnd α→Bool
 | .ok _=>true
 | .range=>true
 | _=>false
def numV (k:Int) (l:List UInt8):Int × Int × Int:=match Lib.parseIntB 64 l with
 | .ok v=>(k,v,0)
 | _=>(0,0,9)
abbrev rt (t:Int × Int × Int):Ending:=rv t.1 t.2.1 t.2.2 ⟨#[]⟩
theorem Old.ofBytes {w w':World} {T:TypeId} (h:w'=w∨∃ t,w'=Lib.bytesWorld w T t):Old w w':=by
 rcases h with rfl|⟨t,rfl⟩
 ·exact Old.refl _
 ·exact Old.ofBelow (Lib.bytesWorld_below _ _ _) (Nat.le_refl _)
theorem number_any (k:Int) (s:ByteArray) (w:World) (he:Env w) (hs:s.size≤1000) (h:numOk (Lib.parseIntB 64 s.data.toList)=true) :
 Calls Tryz.prog 210 #[.int .u8 k,.string s] w fun e w'=>e=rt (numV k s.data.toList)∧Old w w':=by
 have HO:=hid ((Old.refl w).alloc (.cells #[.int .u8 0,.int .i64 0,.string ⟨#[]⟩] 35))
 have HT:=hid (Three.new w (.int .u8 0) (.int .i64 0) (.string ⟨#[]⟩))
 unfold numV
 cases hp:Lib.parseIntB 64 s.data.toList with
 | ok v=>
   have hc:=fun W=>Tryz.strconv_ParseInt_10_at64_ok s (by omega) v hp W
   clear hp h
   go_enter Tryz.func210,Tryz.ntmps210
   go_wp2_with (go_at_call 217;(with_reducible refine (hc _).mono ?_);rintro e w1 ⟨rfl,o1⟩;have T:=hid (HT.out.old (Old.ofBytes o1));have c0:=T.out.c0;have c1:=T.out.c1;have c2:=T.out.c2;have f0:=T.out.f 0;have f1:=T.out.f 1;have f2:=T.out.f 2)
   have R:=T.out.set (.int .u8 k) (.int .i64 v) (.string ⟨#[]⟩)
   exact bodyPost_ret (v:=.tuple #[vl k v ⟨#[]⟩,.int .i64 0]) (by simp [results,Tryz.results210,go_sem,R.c0,R.c1,R.c2]) rfl ⟨rfl,old3 (HO.out.trans (Old.ofBytes o1)) (Nat.le_refl _) _ _ _⟩
 | range=>
   have he':=he.old HO.out
   obtain ⟨ev,h1,h2⟩:=he'.err
   have hc:=Tryz.strconv_ParseInt_10_at64_range s (by omega) hp ev _ h1 h2
   clear hp h h1 h2 he he'
   go_enter Tryz.func210,Tryz.ntmps210
   go_wp2_with (go_at_call 217;(with_reducible refine hc.mono ?_);rintro e w1 ⟨N,rfl,hN,hN2,hb⟩;have T:=hid (HT.out.old (Old.ofBelow hb (Nat.le_refl _)));have c0:=T.out.c0;have c1:=T.out.c1;have c2:=T.out.c2;have f0:=T.out.f 0;have f1:=T.out.f 1;have f2:=T.out.f 2)
   have R:=T.out.set (.int .u8 0) (.int .i64 0) (.string ⟨#[]⟩)
   exact bodyPost_ret (v:=.tuple #[vl 0 0 ⟨#[]⟩,.int .i64 9]) (by simp [results,Tryz.results210,go_sem,R.c0,R.c1,R.c2]) rfl ⟨rfl,old3 (HO.out.trans (Old.ofBelow hb (Nat.le_refl _))) (Nat.le_refl _) _ _ _⟩
 | _=>rw [hp] at h;cases h
def readC (S wh rs:List UInt8) (pt:Bool):Int × Int × Int:=
 if wholeL wh=false then (0,0,4)
 else if pt=false then numV 1 (S++wh)
 else if (!digsL rs||decide (4<rs.length))=true then (0,0,4)
 else numV 2 (S++wh++rs++Lib.repeatL [48] (4-rs.length))
theorem cut_len {Z wh rs:List UInt8} {pt:Bool} (h:Lib.cut Z [46]=(wh,rs,pt)):wh.length≤Z.length∧rs.length≤Z.length:=by
 unfold Lib.cut at h
 split at h
 ·simp only [Prod.mk.injEq] at h
  obtain ⟨rfl,rfl,_⟩:=h
  simp only [List.length_take,List.length_drop]
  omega
 ·simp only [Prod.mk.injEq] at h
  obtain ⟨rfl,rfl,_⟩:=h
  simp
theorem whole_digs {l:List UInt8} (h:wholeL l=true):digsL l=true:=by
 unfold wholeL at h
 rw [Bool.and_eq_true] at h
 exact h.1
theorem uint_digs (M:Nat):∀ (l:List UInt8) (acc:Nat),l.all dg8=true→numOk (Lib.parseUintM M acc l)=true
 | [],acc,_=>by unfold Lib.parseUintM;rfl
 | c::l,acc,h=>by
   rw [List.all_cons,Bool.and_eq_true] at h
   have hc:48≤c.toNat∧c.toNat≤57:=by have:=h.1;unfold dg8 at this;simpa using this
   unfold Lib.parseUintM
   rw [if_pos hc]
   split
   ·rfl
   ·split
    ·rfl
    ·exact uint_digs M l _ h.2
theorem digs_split {l:List UInt8} (h:digsL l=true):l≠[]∧l.all dg8=true:=by
 unfold digsL at h
 rw [Bool.and_eq_true] at h
 refine ⟨?_,h.2⟩
 rintro rfl
 cases h.1
theorem syn_neg {l:List UInt8} (h:digsL l=true):numOk (Lib.parseIntB 64 (45::l))=true:=by
 obtain ⟨h1,h2⟩:=digs_split h
 have hu:numOk (Lib.parseUintB 64 l)=true:=by
  unfold Lib.parseUintB
  rw [if_neg h1]
  exact uint_digs _ _ _ h2
 unfold Lib.parseIntB
 have e:(45:UInt8).toNat=43∨(45:UInt8).toNat=45:=Or.inr rfl
 simp only [if_pos e]
 cases hp:Lib.parseUintB 64 l with
 | range=>rfl
 | ok u=>
   simp only
   split
   ·rfl
   ·split<;>rfl
 | _=>rw [hp] at hu;cases hu
theorem syn_pos {l:List UInt8} (h:digsL l=true):numOk (Lib.parseIntB 64 l)=true:=by
 obtain ⟨h1,h2⟩:=digs_split h
 have hu:numOk (Lib.parseUintB 64 l)=true:=by
  unfold Lib.parseUintB
  rw [if_neg h1]
  exact uint_digs _ _ _ h2
 cases l with
 | nil=>exact absurd rfl h1
 | cons c l=>
   rw [List.all_cons,Bool.and_eq_true] at h2
   have hc:48≤c.toNat∧c.toNat≤57:=by have:=h2.1;unfold dg8 at this;simpa using this
   have e:¬ (c.toNat=43∨c.toNat=45):=by omega
   unfold Lib.parseIntB
   simp only [if_neg e]
   cases hp:Lib.parseUintB 64 (c::l) with
   | range=>rfl
   | ok u=>
     simp only
     split
     ·rfl
     ·split<;>rfl
   | _=>rw [hp] at hu;cases hu
theorem app_st (a b:List UInt8):(⟨a.toArray⟩:ByteArray)++st b=st (a++b):=by
 rw [ByteArray.mk_append_mk]
theorem app_st3 (a b c d:List UInt8):(⟨a.toArray⟩:ByteArray)++st b++st c++st d=st (a++b++c++d):=by
 rw [app_st,app_st,app_st]
theorem rep_len:∀ (n:Nat),n≤4→(Lib.repeatL [48] n).length≤4
 | 0,_=>by simp [Lib.repeatL]
 | 1,_=>by simp [Lib.repeatL]
 | 2,_=>by simp [Lib.repeatL]
 | 3,_=>by simp [Lib.repeatL]
 | 4,_=>by simp [Lib.repeatL]
theorem rep_digs:∀ (n:Nat),(Lib.repeatL [48] n).all dg8=true
 | 0=>rfl
 | n+1=>by
   unfold Lib.repeatL
   rw [List.all_append,rep_digs n]
   rfl
theorem digs_app {a b:List UInt8} (h:digsL a=true) (k:b.all dg8=true):digsL (a++b)=true:=by
 obtain ⟨h1,h2⟩:=digs_split h
 unfold digsL
 rw [List.all_append,h2,k]
 cases a with
 | nil=>exact absurd rfl h1
 | cons x l=>rfl
theorem ext1 (c:UInt8) (l:List UInt8):(st (c::l)).extract 1 (l.length+1)=st l:=by
 apply ba_ext
 rw [Lib.extract_toList,ByteArray.toList_eq]
 simp
theorem rn_neg (c:UInt8) (l wh rs:List UInt8) (pt:Bool) (hc:c=45) (hcut:Lib.cut l [46]=(wh,rs,pt)) (hl:l.length≤900) (w:World) (he:Env w) :
 Calls Tryz.prog 199 #[.string (st (c::l))] w fun e w'=>e=rt (readC [45] wh rs pt)∧Old w w':=by
 have hlen:=cut_len hcut
 have HO:=hid ((Old.refl w).alloc (.cells #[.int .u8 0,.int .i64 0,.string ⟨#[]⟩] 35))
 have HT:=hid (Three.new w (.int .u8 0) (.int .i64 0) (.string ⟨#[]⟩))
 have HE:=hid (he.old HO.out)
 have hsw:wh.length≤950:=Nat.le_trans hlen.1 (by first|omega|(rw [List.length_cons];omega))
 have hsr:rs.length≤950:=Nat.le_trans hlen.2 (by first|omega|(rw [List.length_cons];omega))
 have hcc:∀ W,Env W→Calls Tryz.prog 208 #[.string (st l),.string (st [46])] W fun e w'=>e=.returned (.tuple #[.string (st wh),.string (st rs),.bool pt])∧Old W w':=by
  intro W hW
  obtain ⟨m,hm⟩:=hW.len
  have h:=Tryz.strings_Cut (st l) (st [46]) m W (by simp [ByteArray.size];omega) hm
  have e:Lib.cut (st l).data.toList (st [46]).data.toList=(wh,rs,pt):=hcut
  rw [e] at h
  exact h.mono fun _ _ h=>⟨h.1,Old.ofDrewN h.2⟩
 have hww:=fun W=>whole_any (st wh) W (by simp [ByteArray.size];omega)
 have hdr:=fun W=>digits_any (st rs) W (by simp [ByteArray.size];omega)
 have edw:(st wh).data.toList=wh:=rfl
 have edr:(st rs).data.toList=rs:=rfl
 rw [edw] at hww
 rw [edr] at hdr
 subst hc
 have hx:(st (45::l)).extract 1 (l.length+1)=st l:=ext1 45 l
 clear hcut hlen he edw edr
 go_enter Tryz.func199,Tryz.ntmps199
 go_upto_region 3 with (fail)
 go_quiet (fail)
 go_upto_region 4 with (fail)
 replace HO:=hid (HO.out.drewN nq)
 replace HE:=hid (HE.out.old ((Old.refl _).drewN nq))
 replace HT:=hid (HT.out.old ((Old.refl _).drewN nq))
 cases hw:wholeL wh
 ·rw [hw] at hww
  have HW:=hid hw
  clear hw
  go_wp2_with (first
   | (go_at_call 208;(with_reducible refine (hcc _ HE.out).mono ?_);rintro e w1 ⟨rfl,o1⟩;replace HO:=hid (HO.out.trans o1);replace HE:=hid (HE.out.old o1);replace HT:=hid (HT.out.old o1);clear o1;(try clear c0 c1 c2 f0 f1 f2);have c0:=HT.out.c0;have c1:=HT.out.c1;have c2:=HT.out.c2;have f0:=HT.out.f 0;have f1:=HT.out.f 1;have f2:=HT.out.f 2)
   | (go_at_call 209;(with_reducible refine (hww _).mono ?_);rintro e w2 ⟨rfl,o2⟩;replace HO:=hid (HO.out.trans o2);replace HE:=hid (HE.out.old o2);replace HT:=hid (HT.out.old o2);clear o2;(try clear c0 c1 c2 f0 f1 f2);have c0:=HT.out.c0;have c1:=HT.out.c1;have c2:=HT.out.c2;have f0:=HT.out.f 0;have f1:=HT.out.f 1;have f2:=HT.out.f 2)
   )
  have R:=HT.out.set (.int .u8 0) (.int .i64 0) (.string ⟨#[]⟩)
  refine bodyPost_ret (v:=.tuple #[vl 0 0 ⟨#[]⟩,.int .i64 4]) (by simp [results,Tryz.results199,go_sem,R.c0,R.c1,R.c2]) rfl ⟨?_,old3 HO.out (Nat.le_refl _) _ _ _⟩
  unfold readC;rw [HW.out];rfl
 ·rw [hw] at hww
  have HW:=hid hw
  have lw:(wh.length:Int)≤8388608:=by omega
  cases pt
  ·have hnu:=fun W (hW:Env W)=>number_any 1 (st (45::wh)) W hW (by simp [ByteArray.size];omega) (syn_neg (whole_digs hw))
   have en:(st (45::wh)).data.toList=[45]++wh:=rfl
   rw [en] at hnu
   have ea:(⟨#[45]⟩:ByteArray)++st wh=st (45::wh):=app_st [45] wh
   rw [←ea] at hnu
   obtain ⟨K,N,E,hnv⟩:∃ K N E,numV 1 ([45]++wh)=(K,N,E):=⟨_,_,_,rfl⟩
   rw [hnv] at hnu
   replace hnu:∀ W,Env W→Calls Tryz.prog 210 #[.int .u8 1,.string ((⟨#[45]⟩:ByteArray)++st wh)] W fun e w'=>e=rv K N E ⟨#[]⟩∧Old W w':=hnu
   have HV:=hid hnv
   clear hw hnv en ea
   go_wp2_with (first
    | (go_at_call 208;(with_reducible refine (hcc _ HE.out).mono ?_);rintro e w1 ⟨rfl,o1⟩;replace HO:=hid (HO.out.trans o1);replace HE:=hid (HE.out.old o1);replace HT:=hid (HT.out.old o1);clear o1;(try clear c0 c1 c2 f0 f1 f2);have c0:=HT.out.c0;have c1:=HT.out.c1;have c2:=HT.out.c2;have f0:=HT.out.f 0;have f1:=HT.out.f 1;have f2:=HT.out.f 2)
    | (go_at_call 209;(with_reducible refine (hww _).mono ?_);rintro e w2 ⟨rfl,o2⟩;replace HO:=hid (HO.out.trans o2);replace HE:=hid (HE.out.old o2);replace HT:=hid (HT.out.old o2);clear o2;(try clear c0 c1 c2 f0 f1 f2);have c0:=HT.out.c0;have c1:=HT.out.c1;have c2:=HT.out.c2;have f0:=HT.out.f 0;have f1:=HT.out.f 1;have f2:=HT.out.f 2)
    | (go_at_call 210;(with_reducible refine (hnu _ HE.out).mono ?_);rintro e w5 ⟨rfl,o5⟩;replace HO:=hid (HO.out.trans o5);replace HE:=hid (HE.out.old o5);replace HT:=hid (HT.out.old o5);clear o5;(try clear c0 c1 c2 f0 f1 f2);have c0:=HT.out.c0;have c1:=HT.out.c1;have c2:=HT.out.c2;have f0:=HT.out.f 0;have f1:=HT.out.f 1;have f2:=HT.out.f 2)
    )
   have R:=HT.out.set (.int .u8 K) (.int .i64 N) (.string ⟨#[]⟩)
   refine bodyPost_ret (v:=.tuple #[vl K N ⟨#[]⟩,.int .i64 E]) (by simp [results,Tryz.results199,go_sem,R.c0,R.c1,R.c2]) rfl ⟨?_,old3 HO.out (Nat.le_refl _) _ _ _⟩
   unfold readC;rw [HW.out,if_neg (by decide),if_pos rfl,HV.out]
  ·clear hw
   cases hdg:digsL rs
   ·rw [hdg] at hdr
    have HD:=hid hdg
    clear hdg
    go_wp2_with (first
     | (go_at_call 208;(with_reducible refine (hcc _ HE.out).mono ?_);rintro e w1 ⟨rfl,o1⟩;replace HO:=hid (HO.out.trans o1);replace HE:=hid (HE.out.old o1);replace HT:=hid (HT.out.old o1);clear o1;(try clear c0 c1 c2 f0 f1 f2);have c0:=HT.out.c0;have c1:=HT.out.c1;have c2:=HT.out.c2;have f0:=HT.out.f 0;have f1:=HT.out.f 1;have f2:=HT.out.f 2)
     | (go_at_call 209;(with_reducible refine (hww _).mono ?_);rintro e w2 ⟨rfl,o2⟩;replace HO:=hid (HO.out.trans o2);replace HE:=hid (HE.out.old o2);replace HT:=hid (HT.out.old o2);clear o2;(try clear c0 c1 c2 f0 f1 f2);have c0:=HT.out.c0;have c1:=HT.out.c1;have c2:=HT.out.c2;have f0:=HT.out.f 0;have f1:=HT.out.f 1;have f2:=HT.out.f 2)
     | (go_at_call 211;(with_reducible refine (hdr _).mono ?_);rintro e w3 ⟨rfl,o3⟩;replace HO:=hid (HO.out.trans o3);replace HE:=hid (HE.out.old o3);replace HT:=hid (HT.out.old o3);clear o3;(try clear c0 c1 c2 f0 f1 f2);have c0:=HT.out.c0;have c1:=HT.out.c1;have c2:=HT.out.c2;have f0:=HT.out.f 0;have f1:=HT.out.f 1;have f2:=HT.out.f 2)
     )
    have R:=HT.out.set (.int .u8 0) (.int .i64 0) (.string ⟨#[]⟩)
    refine bodyPost_ret (v:=.tuple #[vl 0 0 ⟨#[]⟩,.int .i64 4]) (by simp [results,Tryz.results199,go_sem,R.c0,R.c1,R.c2]) rfl ⟨?_,old3 HO.out (Nat.le_refl _) _ _ _⟩
    unfold readC;rw [HW.out,if_neg (by decide),if_neg (by decide),HD.out];rfl
   ·rw [hdg] at hdr
    have HD:=hid hdg
    by_cases h4:4<rs.length
    ·have e4:((4:Int)<(rs.length:Int)):=by omega
     have H4:=hid h4
     clear hdg h4
     go_wp2_with (first
      | (go_at_call 208;(with_reducible refine (hcc _ HE.out).mono ?_);rintro e w1 ⟨rfl,o1⟩;replace HO:=hid (HO.out.trans o1);replace HE:=hid (HE.out.old o1);replace HT:=hid (HT.out.old o1);clear o1;(try clear c0 c1 c2 f0 f1 f2);have c0:=HT.out.c0;have c1:=HT.out.c1;have c2:=HT.out.c2;have f0:=HT.out.f 0;have f1:=HT.out.f 1;have f2:=HT.out.f 2)
      | (go_at_call 209;(with_reducible refine (hww _).mono ?_);rintro e w2 ⟨rfl,o2⟩;replace HO:=hid (HO.out.trans o2);replace HE:=hid (HE.out.old o2);replace HT:=hid (HT.out.old o2);clear o2;(try clear c0 c1 c2 f0 f1 f2);have c0:=HT.out.c0;have c1:=HT.out.c1;have c2:=HT.out.c2;have f0:=HT.out.f 0;have f1:=HT.out.f 1;have f2:=HT.out.f 2)
      | (go_at_call 211;(with_reducible refine (hdr _).mono ?_);rintro e w3 ⟨rfl,o3⟩;replace HO:=hid (HO.out.trans o3);replace HE:=hid (HE.out.old o3);replace HT:=hid (HT.out.old o3);clear o3;(try clear c0 c1 c2 f0 f1 f2);have c0:=HT.out.c0;have c1:=HT.out.c1;have c2:=HT.out.c2;have f0:=HT.out.f 0;have f1:=HT.out.f 1;have f2:=HT.out.f 2)
      )
     have R:=HT.out.set (.int .u8 0) (.int .i64 0) (.string ⟨#[]⟩)
     refine bodyPost_ret (v:=.tuple #[vl 0 0 ⟨#[]⟩,.int .i64 4]) (by simp [results,Tryz.results199,go_sem,R.c0,R.c1,R.c2]) rfl ⟨?_,old3 HO.out (Nat.le_refl _) _ _ _⟩
     unfold readC;rw [HW.out,if_neg (by decide),if_neg (by decide),if_pos (by simp [H4.out])]
    ·have h4':rs.length≤4:=by omega
     have e4:¬ ((4:Int)<(rs.length:Int)):=by omega
     have H4:=hid h4
     have ec:((4-rs.length:Nat):Int)=4-(rs.length:Int):=by omega
     have hrp:∀ W,Calls Tryz.prog 212 #[.string ⟨#[48]⟩,.int .i64 (4-(rs.length:Int))] W fun e w'=>e=.returned (.string (st (Lib.repeatL [48] (4-rs.length))))∧Old W w':=by
      intro W
      have h:=Tryz.strings_Repeat ⟨#[48]⟩ (4-rs.length) W (by omega) (by simp [ByteArray.size];omega)
      rw [ec] at h
      exact h.mono fun _ _ h=>⟨h.1,Old.ofBelow h.2 (Nat.le_refl _)⟩
     have hrl:(Lib.repeatL [48] (4-rs.length)).length≤4:=rep_len _ (by omega)
     have lr:(rs.length:Int)≤8388608:=by omega
     have lp:((Lib.repeatL [48] (4-rs.length)).length:Int)≤8388608:=by omega
     have hsyn:=syn_neg (digs_app (digs_app (whole_digs HW.out) (digs_split HD.out).2) (rep_digs (4-rs.length)))
     generalize hZ:Lib.repeatL [48] (4-rs.length)=Z4 at *
     have HZ:=hid hZ
     have hnu:=fun W (hW:Env W)=>number_any 2 (st ([45]++wh++rs++Z4)) W hW (by simp [ByteArray.size];omega) (by simpa using hsyn)
     have ea:(⟨#[45]⟩:ByteArray)++st wh++st rs++st Z4=st ([45]++wh++rs++Z4):=app_st3 [45] wh rs Z4
     have en:(st ([45]++wh++rs++Z4)).data.toList=[45]++wh++rs++Z4:=rfl
     rw [en,←ea] at hnu
     obtain ⟨K,N,E,hnv⟩:∃ K N E,numV 2 ([45]++wh++rs++Z4)=(K,N,E):=⟨_,_,_,rfl⟩
     rw [hnv] at hnu
     replace hnu:∀ W,Env W→Calls Tryz.prog 210 #[.int .u8 2,.string ((⟨#[45]⟩:ByteArray)++st wh++st rs++st Z4)] W fun e w'=>e=rv K N E ⟨#[]⟩∧Old W w':=hnu
     have HV:=hid hnv
     clear hnv en ea hsyn hZ ec hdg h4 hrl
     go_wp2_with (first
      | (go_at_call 208;(with_reducible refine (hcc _ HE.out).mono ?_);rintro e w1 ⟨rfl,o1⟩;replace HO:=hid (HO.out.trans o1);replace HE:=hid (HE.out.old o1);replace HT:=hid (HT.out.old o1);clear o1;(try clear c0 c1 c2 f0 f1 f2);have c0:=HT.out.c0;have c1:=HT.out.c1;have c2:=HT.out.c2;have f0:=HT.out.f 0;have f1:=HT.out.f 1;have f2:=HT.out.f 2)
      | (go_at_call 209;(with_reducible refine (hww _).mono ?_);rintro e w2 ⟨rfl,o2⟩;replace HO:=hid (HO.out.trans o2);replace HE:=hid (HE.out.old o2);replace HT:=hid (HT.out.old o2);clear o2;(try clear c0 c1 c2 f0 f1 f2);have c0:=HT.out.c0;have c1:=HT.out.c1;have c2:=HT.out.c2;have f0:=HT.out.f 0;have f1:=HT.out.f 1;have f2:=HT.out.f 2)
      | (go_at_call 211;(with_reducible refine (hdr _).mono ?_);rintro e w3 ⟨rfl,o3⟩;replace HO:=hid (HO.out.trans o3);replace HE:=hid (HE.out.old o3);replace HT:=hid (HT.out.old o3);clear o3;(try clear c0 c1 c2 f0 f1 f2);have c0:=HT.out.c0;have c1:=HT.out.c1;have c2:=HT.out.c2;have f0:=HT.out.f 0;have f1:=HT.out.f 1;have f2:=HT.out.f 2)
      | (go_at_call 212;(with_reducible refine (hrp _).mono ?_);rintro e w4 ⟨rfl,o4⟩;replace HO:=hid (HO.out.trans o4);replace HE:=hid (HE.out.old o4);replace HT:=hid (HT.out.old o4);clear o4;(try clear c0 c1 c2 f0 f1 f2);have c0:=HT.out.c0;have c1:=HT.out.c1;have c2:=HT.out.c2;have f0:=HT.out.f 0;have f1:=HT.out.f 1;have f2:=HT.out.f 2)
      | (go_at_call 210;(with_reducible refine (hnu _ HE.out).mono ?_);rintro e w5 ⟨rfl,o5⟩;replace HO:=hid (HO.out.trans o5);replace HE:=hid (HE.out.old o5);replace HT:=hid (HT.out.old o5);clear o5;(try clear c0 c1 c2 f0 f1 f2);have c0:=HT.out.c0;have c1:=HT.out.c1;have c2:=HT.out.c2;have f0:=HT.out.f 0;have f1:=HT.out.f 1;have f2:=HT.out.f 2)
      )
     have R:=HT.out.set (.int .u8 K) (.int .i64 N) (.string ⟨#[]⟩)
     refine bodyPost_ret (v:=.tuple #[vl K N ⟨#[]⟩,.int .i64 E]) (by simp [results,Tryz.results199,go_sem,R.c0,R.c1,R.c2]) rfl ⟨?_,old3 HO.out (Nat.le_refl _) _ _ _⟩
     unfold readC;rw [HW.out,if_neg (by decide),if_neg (by decide),HD.out,if_neg (by simp [H4.out]),HZ.out,HV.out]
theorem rn_pos (c:UInt8) (l wh rs:List UInt8) (pt:Bool) (hc:¬ c=45) (hcut:Lib.cut (c::l) [46]=(wh,rs,pt)) (hl:l.length≤900) (w:World) (he:Env w) :
 Calls Tryz.prog 199 #[.string (st (c::l))] w fun e w'=>e=rt (readC [] wh rs pt)∧Old w w':=by
 have hlen:=cut_len hcut
 have HO:=hid ((Old.refl w).alloc (.cells #[.int .u8 0,.int .i64 0,.string ⟨#[]⟩] 35))
 have HT:=hid (Three.new w (.int .u8 0) (.int .i64 0) (.string ⟨#[]⟩))
 have HE:=hid (he.old HO.out)
 have hsw:wh.length≤950:=Nat.le_trans hlen.1 (by first|omega|(rw [List.length_cons];omega))
 have hsr:rs.length≤950:=Nat.le_trans hlen.2 (by first|omega|(rw [List.length_cons];omega))
 have hcc:∀ W,Env W→Calls Tryz.prog 208 #[.string (st (c::l)),.string (st [46])] W fun e w'=>e=.returned (.tuple #[.string (st wh),.string (st rs),.bool pt])∧Old W w':=by
  intro W hW
  obtain ⟨m,hm⟩:=hW.len
  have h:=Tryz.strings_Cut (st (c::l)) (st [46]) m W (by simp [ByteArray.size];omega) hm
  have e:Lib.cut (st (c::l)).data.toList (st [46]).data.toList=(wh,rs,pt):=hcut
  rw [e] at h
  exact h.mono fun _ _ h=>⟨h.1,Old.ofDrewN h.2⟩
 have hww:=fun W=>whole_any (st wh) W (by simp [ByteArray.size];omega)
 have hdr:=fun W=>digits_any (st rs) W (by simp [ByteArray.size];omega)
 have edw:(st wh).data.toList=wh:=rfl
 have edr:(st rs).data.toList=rs:=rfl
 rw [edw] at hww
 rw [edr] at hdr
 have hc1:((((st (c::l))[0]'(by simp [ByteArray.size])).toNat:Int)==45)=false:=by
  show ((c.toNat:Int)==45)=false
  rw [beq_eq_false_iff_ne]
  intro e
  exact hc (UInt8.toNat_inj.1 (by show c.toNat=45;omega))
 clear hcut hlen he edw edr hc
 go_enter Tryz.func199,Tryz.ntmps199
 go_upto_region 4 with (fail)
 cases hw:wholeL wh
 ·rw [hw] at hww
  have HW:=hid hw
  clear hw
  go_wp2_with (first
   | (go_at_call 208;(with_reducible refine (hcc _ HE.out).mono ?_);rintro e w1 ⟨rfl,o1⟩;replace HO:=hid (HO.out.trans o1);replace HE:=hid (HE.out.old o1);replace HT:=hid (HT.out.old o1);clear o1;(try clear c0 c1 c2 f0 f1 f2);have c0:=HT.out.c0;have c1:=HT.out.c1;have c2:=HT.out.c2;have f0:=HT.out.f 0;have f1:=HT.out.f 1;have f2:=HT.out.f 2)
   | (go_at_call 209;(with_reducible refine (hww _).mono ?_);rintro e w2 ⟨rfl,o2⟩;replace HO:=hid (HO.out.trans o2);replace HE:=hid (HE.out.old o2);replace HT:=hid (HT.out.old o2);clear o2;(try clear c0 c1 c2 f0 f1 f2);have c0:=HT.out.c0;have c1:=HT.out.c1;have c2:=HT.out.c2;have f0:=HT.out.f 0;have f1:=HT.out.f 1;have f2:=HT.out.f 2)
   )
  have R:=HT.out.set (.int .u8 0) (.int .i64 0) (.string ⟨#[]⟩)
  refine bodyPost_ret (v:=.tuple #[vl 0 0 ⟨#[]⟩,.int .i64 4]) (by simp [results,Tryz.results199,go_sem,R.c0,R.c1,R.c2]) rfl ⟨?_,old3 HO.out (Nat.le_refl _) _ _ _⟩
  unfold readC;rw [HW.out];rfl
 ·rw [hw] at hww
  have HW:=hid hw
  have lw:(wh.length:Int)≤8388608:=by omega
  cases pt
  ·have hnu:=fun W (hW:Env W)=>number_any 1 (st (wh)) W hW (by simp [ByteArray.size];omega) (syn_pos (whole_digs hw))
   have en:(st (wh)).data.toList=[]++wh:=rfl
   rw [en] at hnu
   have ea:(⟨#[]⟩:ByteArray)++st wh=st (wh):=app_st [] wh
   rw [←ea] at hnu
   obtain ⟨K,N,E,hnv⟩:∃ K N E,numV 1 ([]++wh)=(K,N,E):=⟨_,_,_,rfl⟩
   rw [hnv] at hnu
   replace hnu:∀ W,Env W→Calls Tryz.prog 210 #[.int .u8 1,.string ((⟨#[]⟩:ByteArray)++st wh)] W fun e w'=>e=rv K N E ⟨#[]⟩∧Old W w':=hnu
   have HV:=hid hnv
   clear hw hnv en ea
   go_wp2_with (first
    | (go_at_call 208;(with_reducible refine (hcc _ HE.out).mono ?_);rintro e w1 ⟨rfl,o1⟩;replace HO:=hid (HO.out.trans o1);replace HE:=hid (HE.out.old o1);replace HT:=hid (HT.out.old o1);clear o1;(try clear c0 c1 c2 f0 f1 f2);have c0:=HT.out.c0;have c1:=HT.out.c1;have c2:=HT.out.c2;have f0:=HT.out.f 0;have f1:=HT.out.f 1;have f2:=HT.out.f 2)
    | (go_at_call 209;(with_reducible refine (hww _).mono ?_);rintro e w2 ⟨rfl,o2⟩;replace HO:=hid (HO.out.trans o2);replace HE:=hid (HE.out.old o2);replace HT:=hid (HT.out.old o2);clear o2;(try clear c0 c1 c2 f0 f1 f2);have c0:=HT.out.c0;have c1:=HT.out.c1;have c2:=HT.out.c2;have f0:=HT.out.f 0;have f1:=HT.out.f 1;have f2:=HT.out.f 2)
    | (go_at_call 210;(with_reducible refine (hnu _ HE.out).mono ?_);rintro e w5 ⟨rfl,o5⟩;replace HO:=hid (HO.out.trans o5);replace HE:=hid (HE.out.old o5);replace HT:=hid (HT.out.old o5);clear o5;(try clear c0 c1 c2 f0 f1 f2);have c0:=HT.out.c0;have c1:=HT.out.c1;have c2:=HT.out.c2;have f0:=HT.out.f 0;have f1:=HT.out.f 1;have f2:=HT.out.f 2)
    )
   have R:=HT.out.set (.int .u8 K) (.int .i64 N) (.string ⟨#[]⟩)
   refine bodyPost_ret (v:=.tuple #[vl K N ⟨#[]⟩,.int .i64 E]) (by simp [results,Tryz.results199,go_sem,R.c0,R.c1,R.c2]) rfl ⟨?_,old3 HO.out (Nat.le_refl _) _ _ _⟩
   unfold readC;rw [HW.out,if_neg (by decide),if_pos rfl,HV.out]
  ·clear hw
   cases hdg:digsL rs
   ·rw [hdg] at hdr
    have HD:=hid hdg
    clear hdg
    go_wp2_with (first
     | (go_at_call 208;(with_reducible refine (hcc _ HE.out).mono ?_);rintro e w1 ⟨rfl,o1⟩;replace HO:=hid (HO.out.trans o1);replace HE:=hid (HE.out.old o1);replace HT:=hid (HT.out.old o1);clear o1;(try clear c0 c1 c2 f0 f1 f2);have c0:=HT.out.c0;have c1:=HT.out.c1;have c2:=HT.out.c2;have f0:=HT.out.f 0;have f1:=HT.out.f 1;have f2:=HT.out.f 2)
     | (go_at_call 209;(with_reducible refine (hww _).mono ?_);rintro e w2 ⟨rfl,o2⟩;replace HO:=hid (HO.out.trans o2);replace HE:=hid (HE.out.old o2);replace HT:=hid (HT.out.old o2);clear o2;(try clear c0 c1 c2 f0 f1 f2);have c0:=HT.out.c0;have c1:=HT.out.c1;have c2:=HT.out.c2;have f0:=HT.out.f 0;have f1:=HT.out.f 1;have f2:=HT.out.f 2)
     | (go_at_call 211;(with_reducible refine (hdr _).mono ?_);rintro e w3 ⟨rfl,o3⟩;replace HO:=hid (HO.out.trans o3);replace HE:=hid (HE.out.old o3);replace HT:=hid (HT.out.old o3);clear o3;(try clear c0 c1 c2 f0 f1 f2);have c0:=HT.out.c0;have c1:=HT.out.c1;have c2:=HT.out.c2;have f0:=HT.out.f 0;have f1:=HT.out.f 1;have f2:=HT.out.f 2)
     )
    have R:=HT.out.set (.int .u8 0) (.int .i64 0) (.string ⟨#[]⟩)
    refine bodyPost_ret (v:=.tuple #[vl 0 0 ⟨#[]⟩,.int .i64 4]) (by simp [results,Tryz.results199,go_sem,R.c0,R.c1,R.c2]) rfl ⟨?_,old3 HO.out (Nat.le_refl _) _ _ _⟩
    unfold readC;rw [HW.out,if_neg (by decide),if_neg (by decide),HD.out];rfl
   ·rw [hdg] at hdr
    have HD:=hid hdg
    by_cases h4:4<rs.length
    ·have e4:((4:Int)<(rs.length:Int)):=by omega
     have H4:=hid h4
     clear hdg h4
     go_wp2_with (first
      | (go_at_call 208;(with_reducible refine (hcc _ HE.out).mono ?_);rintro e w1 ⟨rfl,o1⟩;replace HO:=hid (HO.out.trans o1);replace HE:=hid (HE.out.old o1);replace HT:=hid (HT.out.old o1);clear o1;(try clear c0 c1 c2 f0 f1 f2);have c0:=HT.out.c0;have c1:=HT.out.c1;have c2:=HT.out.c2;have f0:=HT.out.f 0;have f1:=HT.out.f 1;have f2:=HT.out.f 2)
      | (go_at_call 209;(with_reducible refine (hww _).mono ?_);rintro e w2 ⟨rfl,o2⟩;replace HO:=hid (HO.out.trans o2);replace HE:=hid (HE.out.old o2);replace HT:=hid (HT.out.old o2);clear o2;(try clear c0 c1 c2 f0 f1 f2);have c0:=HT.out.c0;have c1:=HT.out.c1;have c2:=HT.out.c2;have f0:=HT.out.f 0;have f1:=HT.out.f 1;have f2:=HT.out.f 2)
      | (go_at_call 211;(with_reducible refine (hdr _).mono ?_);rintro e w3 ⟨rfl,o3⟩;replace HO:=hid (HO.out.trans o3);replace HE:=hid (HE.out.old o3);replace HT:=hid (HT.out.old o3);clear o3;(try clear c0 c1 c2 f0 f1 f2);have c0:=HT.out.c0;have c1:=HT.out.c1;have c2:=HT.out.c2;have f0:=HT.out.f 0;have f1:=HT.out.f 1;have f2:=HT.out.f 2)
      )
     have R:=HT.out.set (.int .u8 0) (.int .i64 0) (.string ⟨#[]⟩)
     refine bodyPost_ret (v:=.tuple #[vl 0 0 ⟨#[]⟩,.int .i64 4]) (by simp [results,Tryz.results199,go_sem,R.c0,R.c1,R.c2]) rfl ⟨?_,old3 HO.out (Nat.le_refl _) _ _ _⟩
     unfold readC;rw [HW.out,if_neg (by decide),if_neg (by decide),if_pos (by simp [H4.out])]
    ·have h4':rs.length≤4:=by omega
     have e4:¬ ((4:Int)<(rs.length:Int)):=by omega
     have H4:=hid h4
     have ec:((4-rs.length:Nat):Int)=4-(rs.length:Int):=by omega
     have hrp:∀ W,Calls Tryz.prog 212 #[.string ⟨#[48]⟩,.int .i64 (4-(rs.length:Int))] W fun e w'=>e=.returned (.string (st (Lib.repeatL [48] (4-rs.length))))∧Old W w':=by
      intro W
      have h:=Tryz.strings_Repeat ⟨#[48]⟩ (4-rs.length) W (by omega) (by simp [ByteArray.size];omega)
      rw [ec] at h
      exact h.mono fun _ _ h=>⟨h.1,Old.ofBelow h.2 (Nat.le_refl _)⟩
     have hrl:(Lib.repeatL [48] (4-rs.length)).length≤4:=rep_len _ (by omega)
     have lr:(rs.length:Int)≤8388608:=by omega
     have lp:((Lib.repeatL [48] (4-rs.length)).length:Int)≤8388608:=by omega
     have hsyn:=syn_pos (digs_app (digs_app (whole_digs HW.out) (digs_split HD.out).2) (rep_digs (4-rs.length)))
     generalize hZ:Lib.repeatL [48] (4-rs.length)=Z4 at *
     have HZ:=hid hZ
     have hnu:=fun W (hW:Env W)=>number_any 2 (st ([]++wh++rs++Z4)) W hW (by simp [ByteArray.size];omega) (by simpa using hsyn)
     have ea:(⟨#[]⟩:ByteArray)++st wh++st rs++st Z4=st ([]++wh++rs++Z4):=app_st3 [] wh rs Z4
     have en:(st ([]++wh++rs++Z4)).data.toList=[]++wh++rs++Z4:=rfl
     rw [en,←ea] at hnu
     obtain ⟨K,N,E,hnv⟩:∃ K N E,numV 2 ([]++wh++rs++Z4)=(K,N,E):=⟨_,_,_,rfl⟩
     rw [hnv] at hnu
     replace hnu:∀ W,Env W→Calls Tryz.prog 210 #[.int .u8 2,.string ((⟨#[]⟩:ByteArray)++st wh++st rs++st Z4)] W fun e w'=>e=rv K N E ⟨#[]⟩∧Old W w':=hnu
     have HV:=hid hnv
     clear hnv en ea hsyn hZ ec hdg h4 hrl
     go_wp2_with (first
      | (go_at_call 208;(with_reducible refine (hcc _ HE.out).mono ?_);rintro e w1 ⟨rfl,o1⟩;replace HO:=hid (HO.out.trans o1);replace HE:=hid (HE.out.old o1);replace HT:=hid (HT.out.old o1);clear o1;(try clear c0 c1 c2 f0 f1 f2);have c0:=HT.out.c0;have c1:=HT.out.c1;have c2:=HT.out.c2;have f0:=HT.out.f 0;have f1:=HT.out.f 1;have f2:=HT.out.f 2)
      | (go_at_call 209;(with_reducible refine (hww _).mono ?_);rintro e w2 ⟨rfl,o2⟩;replace HO:=hid (HO.out.trans o2);replace HE:=hid (HE.out.old o2);replace HT:=hid (HT.out.old o2);clear o2;(try clear c0 c1 c2 f0 f1 f2);have c0:=HT.out.c0;have c1:=HT.out.c1;have c2:=HT.out.c2;have f0:=HT.out.f 0;have f1:=HT.out.f 1;have f2:=HT.out.f 2)
      | (go_at_call 211;(with_reducible refine (hdr _).mono ?_);rintro e w3 ⟨rfl,o3⟩;replace HO:=hid (HO.out.trans o3);replace HE:=hid (HE.out.old o3);replace HT:=hid (HT.out.old o3);clear o3;(try clear c0 c1 c2 f0 f1 f2);have c0:=HT.out.c0;have c1:=HT.out.c1;have c2:=HT.out.c2;have f0:=HT.out.f 0;have f1:=HT.out.f 1;have f2:=HT.out.f 2)
      | (go_at_call 212;(with_reducible refine (hrp _).mono ?_);rintro e w4 ⟨rfl,o4⟩;replace HO:=hid (HO.out.trans o4);replace HE:=hid (HE.out.old o4);replace HT:=hid (HT.out.old o4);clear o4;(try clear c0 c1 c2 f0 f1 f2);have c0:=HT.out.c0;have c1:=HT.out.c1;have c2:=HT.out.c2;have f0:=HT.out.f 0;have f1:=HT.out.f 1;have f2:=HT.out.f 2)
      | (go_at_call 210;(with_reducible refine (hnu _ HE.out).mono ?_);rintro e w5 ⟨rfl,o5⟩;replace HO:=hid (HO.out.trans o5);replace HE:=hid (HE.out.old o5);replace HT:=hid (HT.out.old o5);clear o5;(try clear c0 c1 c2 f0 f1 f2);have c0:=HT.out.c0;have c1:=HT.out.c1;have c2:=HT.out.c2;have f0:=HT.out.f 0;have f1:=HT.out.f 1;have f2:=HT.out.f 2)
      )
     have R:=HT.out.set (.int .u8 K) (.int .i64 N) (.string ⟨#[]⟩)
     refine bodyPost_ret (v:=.tuple #[vl K N ⟨#[]⟩,.int .i64 E]) (by simp [results,Tryz.results199,go_sem,R.c0,R.c1,R.c2]) rfl ⟨?_,old3 HO.out (Nat.le_refl _) _ _ _⟩
     unfold readC;rw [HW.out,if_neg (by decide),if_neg (by decide),HD.out,if_neg (by simp [H4.out]),HZ.out,HV.out]
end Go.Proofs.YtkellpcljiodeaaGreatDoor
