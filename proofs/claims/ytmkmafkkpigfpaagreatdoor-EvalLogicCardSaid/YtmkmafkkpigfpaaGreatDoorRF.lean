/- The document's own numbers: digits added. digits compared, and taken away. digits taken away. noughts at the end struck. out of an int64. -/
import Derived.Test.YtmkmafkkpigfpaaGreatDoorIB
set_option maxHeartbeats 1600000
namespace Go.Proofs.YtmkmafkkpigfpaaGreatDoor
open Go.ChangeShapes Go.WideShapes Go.ChangeAt Go.RowKit
set_option linter.unusedVariables false
def UpR (w:World) (a b:List Int) (k:Nat) (v:Value) (wr:World):Prop:=wr.ownsRow w.heap.size 3 1 v k ((upK a b k).1.map (Value.int .i64))∧Below w.heap.size w wr
theorem UpR.next {w:World} {a b:List Int} {k:Nat} {v v':Value} {wr w1:World} {s:Int} {o:Obj} (h:UpR w a b k v wr) (hs:s=(upK a b k).2+a.getD k 0+b.getD k 0)
 (hown:w1.ownsRow w.heap.size 3 1 v' (k+1) ((upK a b k).1.map (Value.int .i64)++[.int .i64 (s%10000)])) (hg:(wr.alloc o).grownBy w1 v.ownBlock):UpR w a b (k+1) v' w1:=by
 refine ⟨?_,?_⟩
 ·simp only [upK,List.map_append,List.map_cons,List.map_nil,←hs];exact hown
 ·have hz:=h.2.size
  refine (h.2.alloc hz o).grown hg (by simp;omega) (fun j hj=>(h.1.lt j hj).1)
set_option maxRecDepth 100000 in
theorem up_any (a b:List Int) (va vb:Value) (w:World) (ha:Rd w va a) (hb:Rd w vb b) (da:Dg a) (db:Dg b) (la:a.length≤1000) (lb:b.length≤1000) :
 Calls Tryz.prog 164 #[va,vb] w (RetD w (upL a b)):=by
 obtain ⟨oa,ca,rfl,a1,a2,a3⟩:=ha
 obtain ⟨ob,cb,rfl,b1,b2,b3⟩:=hb
 obtain ⟨i0,hi,hz0,hz1,hz2⟩:=info_parts info3N
 have HD:=Lib.hid (up_done da db)
 have HM:=Lib.hid (fun k=>up_more da db k)
 have HC:=Lib.hid (fun k=>upK_m da db k)
 have hN:=up_le a b
 have hG:=up_ge a b
 have HE:Hid (upL a b=(upK a b (upN a b)).1):=rfl
 generalize hNE:upN a b=N at *
 clear hNE
 have hN':N≤1001:=by omega
 clear hN
 go_enter Tryz.func164,Tryz.ntmps164
 go_wp2
 go_loopw [5,6,7] (fun v m i wr=>∃ (k:Nat) (c:Int),k≤N∧i=.int .i64 k∧m=.int .i64 c∧Hid (c=(upK a b k).2)∧UpR w a b k v wr) (fun _ _ i _=>N-(intOf i).toNat)
 case atStart=>exact ⟨0,0,Nat.zero_le _,rfl,rfl,rfl,World.ownsRow_nil _ _ _ _,Below.refl _ _⟩
 case round=>
  obtain ⟨k,c,hk,rfl,rfl,HCk,R⟩:=hrel
  have hc:=HC.out k
  rw [←HCk.out] at hc
  by_cases hkN:k<N
  ·have hm:=HM.out k hkN
   rw [←HCk.out] at hm
   obtain ⟨x,hx⟩:∃ x,x=a.getD k 0:=⟨_,rfl⟩
   obtain ⟨y,hy⟩:∃ y,y=b.getD k 0:=⟨_,rfl⟩
   have dx:=dg_getD da k
   have dy:=dg_getD db k
   rw [←hx] at dx
   rw [←hy] at dy
   have HX:=Lib.hid hx
   have HY:=Lib.hid hy
   clear hx hy
   by_cases hka:k<a.length
   ·clear hm
    obtain ⟨g,rfl,hgl,hcell⟩:=a3 k hka
    have hcx:=(R.2.cell (p:=⟨g,k,none⟩) hgl).trans hcell
    rw [←HX.out] at hcx
    clear hcell
    by_cases hkb:k<b.length
    ·clear hG
     obtain ⟨g',rfl,hgl',hcell'⟩:=b3 k hkb
     have hcy:=(R.2.cell (p:=⟨g',k,none⟩) hgl').trans hcell'
     rw [←HY.out] at hcy
     clear hcell'
     clear a3 b3 HD HM HC
     go_wp2_with (at_builtin;refine wpList_append_own _ rfl _ _ 52 rfl w.heap.size 3 i0 (.int .i64 0) 1 8 Tryz.underlying52 hi hz0 hz1 hz2 rfl (by decide) _ _ _ rfl (R.1.alloc _) ⟨wr.heap.size,0,none⟩ 1 1 [.int .i64 ((c+x+y)%10000)] rfl rfl ?c1 ?c2 ?c3 ?c4 ?c5 ?_)
     case c1=>
      intro j u hj
      match j,hj with
      | 0,hj=>simp at hj;subst hj;simp [Addr.add]
     case c2=>intro u hu;simp at hu;subst hu;rfl
     case c3=>unfold maxLen;omega
     case c4=>omega
     case c5=>have:=R.2.size;simp;omega
     intro v' w1 hown' hgrow _
     have R':=R.next (s:=c+x+y) (by rw [←HCk.out,←HX.out,←HY.out]) hown' hgrow
     have HC':Hid ((c+x+y)/10000=(upK a b (k+1)).2):=by
      have e:c+x+y=(upK a b k).2+a.getD k 0+b.getD k 0:=by rw [←HCk.out,←HX.out,←HY.out]
      show _=((upK a b k).2+a.getD k 0+b.getD k 0)/10000
      rw [←e]
     clear hown' hgrow R HCk HX HY
     go_wp2
     go_roundw
     case rel=>exact ⟨k+1,(c+x+y)/10000,by omega,by go_num,rfl,HC',R'⟩
     case measure=>simp [intOf];omega
    ·have hy0:y=0:=HY.out.trans (getD_past (by omega))
     subst hy0
     clear hG
     clear a3 b3 HD HM HC
     go_wp2_with (at_builtin;refine wpList_append_own _ rfl _ _ 52 rfl w.heap.size 3 i0 (.int .i64 0) 1 8 Tryz.underlying52 hi hz0 hz1 hz2 rfl (by decide) _ _ _ rfl (R.1.alloc _) ⟨wr.heap.size,0,none⟩ 1 1 [.int .i64 ((c+x)%10000)] rfl rfl ?c1 ?c2 ?c3 ?c4 ?c5 ?_)
     case c1=>
      intro j u hj
      match j,hj with
      | 0,hj=>simp at hj;subst hj;simp [Addr.add]
     case c2=>intro u hu;simp at hu;subst hu;rfl
     case c3=>unfold maxLen;omega
     case c4=>omega
     case c5=>have:=R.2.size;simp;omega
     intro v' w1 hown' hgrow _
     have R':=R.next (s:=c+x) (by rw [←HCk.out,←HX.out,←HY.out];omega) hown' hgrow
     have HC':Hid ((c+x)/10000=(upK a b (k+1)).2):=by
      have e:c+x=(upK a b k).2+a.getD k 0+b.getD k 0:=by rw [←HCk.out,←HX.out,←HY.out];omega
      show _=((upK a b k).2+a.getD k 0+b.getD k 0)/10000
      rw [←e]
     clear hown' hgrow R HCk HX HY
     go_wp2
     go_roundw
     case rel=>exact ⟨k+1,(c+x)/10000,by omega,by go_num,rfl,HC',R'⟩
     case measure=>simp [intOf];omega
   ·have hx0:x=0:=HX.out.trans (getD_past (by omega))
    subst hx0
    by_cases hkb:k<b.length
    ·clear hm hG
     obtain ⟨g',rfl,hgl',hcell'⟩:=b3 k hkb
     have hcy:=(R.2.cell (p:=⟨g',k,none⟩) hgl').trans hcell'
     rw [←HY.out] at hcy
     clear hcell'
     clear a3 b3 HD HM HC
     go_wp2_with (at_builtin;refine wpList_append_own _ rfl _ _ 52 rfl w.heap.size 3 i0 (.int .i64 0) 1 8 Tryz.underlying52 hi hz0 hz1 hz2 rfl (by decide) _ _ _ rfl (R.1.alloc _) ⟨wr.heap.size,0,none⟩ 1 1 [.int .i64 ((c+y)%10000)] rfl rfl ?c1 ?c2 ?c3 ?c4 ?c5 ?_)
     case c1=>
      intro j u hj
      match j,hj with
      | 0,hj=>simp at hj;subst hj;simp [Addr.add]
     case c2=>intro u hu;simp at hu;subst hu;rfl
     case c3=>unfold maxLen;omega
     case c4=>omega
     case c5=>have:=R.2.size;simp;omega
     intro v' w1 hown' hgrow _
     have R':=R.next (s:=c+y) (by rw [←HCk.out,←HX.out,←HY.out];omega) hown' hgrow
     have HC':Hid ((c+y)/10000=(upK a b (k+1)).2):=by
      have e:c+y=(upK a b k).2+a.getD k 0+b.getD k 0:=by rw [←HCk.out,←HX.out,←HY.out];omega
      show _=((upK a b k).2+a.getD k 0+b.getD k 0)/10000
      rw [←e]
     clear hown' hgrow R HCk HX HY
     go_wp2
     go_roundw
     case rel=>exact ⟨k+1,(c+y)/10000,by omega,by go_num,rfl,HC',R'⟩
     case measure=>simp [intOf];omega
    ·have hy0:y=0:=HY.out.trans (getD_past (by omega))
     subst hy0
     have hc0:0<c:=by omega
     clear hm hG
     clear a3 b3 HD HM HC
     go_wp2_with (at_builtin;refine wpList_append_own _ rfl _ _ 52 rfl w.heap.size 3 i0 (.int .i64 0) 1 8 Tryz.underlying52 hi hz0 hz1 hz2 rfl (by decide) _ _ _ rfl (R.1.alloc _) ⟨wr.heap.size,0,none⟩ 1 1 [.int .i64 ((c)%10000)] rfl rfl ?c1 ?c2 ?c3 ?c4 ?c5 ?_)
     case c1=>
      intro j u hj
      match j,hj with
      | 0,hj=>simp at hj;subst hj;simp [Addr.add]
     case c2=>intro u hu;simp at hu;subst hu;rfl
     case c3=>unfold maxLen;omega
     case c4=>omega
     case c5=>have:=R.2.size;simp;omega
     intro v' w1 hown' hgrow _
     have R':=R.next (s:=c) (by rw [←HCk.out,←HX.out,←HY.out];omega) hown' hgrow
     have HC':Hid ((c)/10000=(upK a b (k+1)).2):=by
      have e:c=(upK a b k).2+a.getD k 0+b.getD k 0:=by rw [←HCk.out,←HX.out,←HY.out];omega
      show _=((upK a b k).2+a.getD k 0+b.getD k 0)/10000
      rw [←e]
     clear hown' hgrow R HCk HX HY
     go_wp2
     go_roundw
     case rel=>exact ⟨k+1,(c)/10000,by omega,by go_num,rfl,HC',R'⟩
     case measure=>simp [intOf];omega
  ·obtain rfl:k=N:=by omega
   have hc0:c=0:=HCk.out.trans HD.out
   subst hc0
   have h1:=hG.1
   have h2:=hG.2
   clear HM HC hG a3 b3
   go_wp2
   go_ret
   exact ⟨_,rfl,by rw [HE.out];exact Rd.of_owns R.1,Old.ofBelow R.2 (Nat.le_refl _)⟩
def RetC (w:World) (x y:Int) (e:Ending) (w':World):Prop:=∃ r:Int,e=.returned (.int .i64 r)∧(r<0↔x<y)∧(0<r↔y<x)∧Old w w'
theorem retC {w w1:World} {x y r:Int} (h1:r<0↔x<y) (h2:0<r↔y<x) (ho:Old w w1):RetC w x y (.returned (.int .i64 r)) w1:=⟨r,rfl,h1,h2,ho⟩
theorem drop_eq {a b:List Int} {k:Nat} (ha:k<a.length) (hb:k<b.length) (h:a.drop (k+1)=b.drop (k+1)) (hk:a.getD k 0=b.getD k 0):a.drop k=b.drop k:=by
 rw [List.drop_eq_getElem_cons ha,List.drop_eq_getElem_cons hb,h]
 congr 1
 rw [List.getD_eq_getElem?_getD,List.getD_eq_getElem?_getD,List.getElem?_eq_getElem ha,List.getElem?_eq_getElem hb] at hk
 exact hk
set_option maxRecDepth 100000 in
theorem by_any (a b:List Int) (va vb:Value) (w:World) (ha:Rd w va a) (hb:Rd w vb b) (da:Dg a) (db:Dg b) (ca:Can a) (cb:Can b) (la:a.length≤2000) (lb:b.length≤2000) :
 Calls Tryz.prog 165 #[va,vb] w (RetC w (val a) (val b)):=by
 obtain ⟨oa,c1,rfl,a1,a2,a3⟩:=ha
 obtain ⟨ob,c2,rfl,b1,b2,b3⟩:=hb
 by_cases hne:a.length=b.length
 ·obtain ⟨n,hn⟩:∃ n,n=a.length:=⟨_,rfl⟩
  rw [←hne,←hn]
  rw [←hn] at la hne a1 a3
  rw [←hne] at lb b1 b3
  have HN:=Lib.hid hn
  have HN':=Lib.hid hne
  clear hn hne
  go_enter Tryz.func165,Tryz.ntmps165
  go_wp2
  go_loopw [5] (fun i wr=>∃ k:Nat,k≤n∧i=.int .i64 ((k:Int)-1)∧Hid (a.drop k=b.drop k)∧Hid (∃ q,wr=w.drewN q)) (fun i _=>(intOf i+1).toNat)
  case atStart=>exact ⟨n,Nat.le_refl _,rfl,by show a.drop n=b.drop n;rw [List.drop_eq_nil_of_le (by rw [HN.out];exact Nat.le_refl _),List.drop_eq_nil_of_le (by rw [HN'.out];exact Nat.le_refl _)],⟨0,rfl⟩⟩
  case round=>
   obtain ⟨k,hk,rfl,HE,HQ⟩:=hrel
   obtain ⟨q0,rfl⟩:=HQ.out
   rcases k with _|k
   ·have e:a=b:=by have:=HE.out;rw [List.drop_zero,List.drop_zero] at this;exact this
    have E:=Lib.hid e
    clear e
    go_wp2
    go_ret
    exact retC (by rw [E.out];omega) (by rw [E.out];omega) ((Old.refl _).drewN _)
   ·obtain ⟨g,rfl,hgl,hcell⟩:=a3 k (by omega)
    obtain ⟨g',rfl,hgl',hcell'⟩:=b3 k (by omega)
    obtain ⟨x,hx⟩:∃ x,x=a.getD k 0:=⟨_,rfl⟩
    obtain ⟨y,hy⟩:∃ y,y=b.getD k 0:=⟨_,rfl⟩
    rw [←hx] at hcell
    rw [←hy] at hcell'
    have HX:=Lib.hid hx
    have HY:=Lib.hid hy
    clear hx hy a3 b3
    by_cases hxy:x=y
    ·subst hxy
     go_wp2
     go_quiet (fail)
     go_wp2
     have HE':=Lib.hid (drop_eq (k:=k) (by have:=HN.out;omega) (by have:=HN'.out;omega) HE.out (HX.out.symm.trans HY.out))
     exact ⟨⟨k,by omega,rfl,HE',⟨_,rfl⟩⟩,by simp [intOf]⟩
    ·have hxy1:(x==y)=false:=by simpa using hxy
     have dx:=dg_getD da k
     have dy:=dg_getD db k
     rw [←HX.out] at dx
     rw [←HY.out] at dy
     have HL:=Lib.hid (fun h:x<y=>digit_lt da db HE.out (by rw [←HX.out,←HY.out];exact h))
     have HG:=Lib.hid (fun h:y<x=>digit_lt db da HE.out.symm (by rw [←HX.out,←HY.out];exact h))
     go_wp2
     go_quiet (fail)
     go_wp2
     go_quiet (fail)
     go_wp2
     go_ret
     refine retC ?_ ?_ ((((Old.refl _).drewN _).drewN _).drewN _)
     ·constructor
      ·intro h;exact HL.out (by omega)
      ·intro h
       rcases Int.lt_or_gt_of_ne hxy with h1|h1
       ·omega
       ·have:=HG.out h1;omega
     ·constructor
      ·intro h;exact HG.out (by omega)
      ·intro h
       rcases Int.lt_or_gt_of_ne hxy with h1|h1
       ·have:=HL.out h1;omega
       ·omega
 ·have HL:=Lib.hid (fun h:a.length<b.length=>len_lt da db cb h)
  have HG:=Lib.hid (fun h:b.length<a.length=>len_lt db da ca h)
  clear a3 b3
  have hne':((a.length:Int)==b.length)=false:=by
   have:¬ (a.length:Int)=b.length:=by omega
   simpa using this
  go_enter Tryz.func165,Tryz.ntmps165
  go_wp2
  go_ret
  refine retC ?_ ?_ (Old.refl _)
  ·constructor
   ·intro h;exact HL.out (by omega)
   ·intro h
    rcases Nat.lt_or_gt_of_ne hne with h1|h1
    ·omega
    ·have:=HG.out h1;omega
  ·constructor
   ·intro h;exact HG.out (by omega)
   ·intro h
    rcases Nat.lt_or_gt_of_ne hne with h1|h1
    ·have:=HL.out h1;omega
    ·omega
def DnR (w:World) (a b:List Int) (k:Nat) (v:Value) (wr:World):Prop:=wr.ownsRow w.heap.size 3 1 v k ((dnK a b k).1.map (Value.int .i64))∧Below w.heap.size w wr
theorem DnR.next {w:World} {a b:List Int} {k:Nat} {v v':Value} {wr w1:World} {d:Int} {o:Obj} (h:DnR w a b k v wr) (hd:(dnK a b (k+1)).1=(dnK a b k).1++[d])
 (hown:w1.ownsRow w.heap.size 3 1 v' (k+1) ((dnK a b k).1.map (Value.int .i64)++[.int .i64 d])) (hg:(wr.alloc o).grownBy w1 v.ownBlock):DnR w a b (k+1) v' w1:=by
 refine ⟨?_,?_⟩
 ·rw [hd,List.map_append];exact hown
 ·have hz:=h.2.size
  refine (h.2.alloc hz o).grown hg (by simp;omega) (fun j hj=>(h.1.lt j hj).1)
theorem DnR.low {w:World} {a b:List Int} {k:Nat} {v v':Value} {wr w1:World} {x:Int} {o:Obj} (h:DnR w a b k v wr) (e:x=a.getD k 0-(dnK a b k).2-b.getD k 0) (hx:x<0)
 (hown:w1.ownsRow w.heap.size 3 1 v' (k+1) ((dnK a b k).1.map (Value.int .i64)++[.int .i64 (x+10000)])) (hg:(wr.alloc o).grownBy w1 v.ownBlock):DnR w a b (k+1) v' w1:=
 h.next (by rw [dnK,←e,if_pos hx]) hown hg
theorem DnR.high {w:World} {a b:List Int} {k:Nat} {v v':Value} {wr w1:World} {x:Int} {o:Obj} (h:DnR w a b k v wr) (e:x=a.getD k 0-(dnK a b k).2-b.getD k 0) (hx:¬ x<0)
 (hown:w1.ownsRow w.heap.size 3 1 v' (k+1) ((dnK a b k).1.map (Value.int .i64)++[.int .i64 x])) (hg:(wr.alloc o).grownBy w1 v.ownBlock):DnR w a b (k+1) v' w1:=
 h.next (by rw [dnK,←e,if_neg hx]) hown hg
theorem dn_low {a b:List Int} {k:Nat} {x:Int} (e:x=a.getD k 0-(dnK a b k).2-b.getD k 0) (hx:x<0):1=(dnK a b (k+1)).2:=by rw [dnK,←e,if_pos hx]
theorem dn_high {a b:List Int} {k:Nat} {x:Int} (e:x=a.getD k 0-(dnK a b k).2-b.getD k 0) (hx:¬ x<0):0=(dnK a b (k+1)).2:=by rw [dnK,←e,if_neg hx]
set_option maxRecDepth 100000 in
theorem down_any (a b:List Int) (va vb:Value) (w:World) (ha:Rd w va a) (hb:Rd w vb b) (da:Dg a) (db:Dg b) (la:a.length≤1000) (lb:b.length≤1000) :
 Calls Tryz.prog 166 #[va,vb] w (RetD w (dnL a b)):=by
 obtain ⟨oa,ca,rfl,a1,a2,a3⟩:=ha
 obtain ⟨ob,cb,rfl,b1,b2,b3⟩:=hb
 obtain ⟨i0,hi,hz0,hz1,hz2⟩:=info_parts info3N
 have HE:Hid (dnL a b=(dnK a b a.length).1):=rfl
 go_enter Tryz.func166,Tryz.ntmps166
 go_wp2
 go_loopw [5,6,7,8] (fun v m i _ wr=>∃ (k:Nat) (c:Int),k≤a.length∧i=.int .i64 k∧m=.int .i64 c∧Hid (c=(dnK a b k).2)∧DnR w a b k v wr) (fun _ _ i _ _=>a.length-(intOf i).toNat)
 case atStart=>exact ⟨0,0,Nat.zero_le _,rfl,rfl,rfl,World.ownsRow_nil _ _ _ _,Below.refl _ _⟩
 case round=>
  obtain ⟨k,c,hk,rfl,rfl,HCk,R⟩:=hrel
  have hc:0≤c∧c≤1:=by have:=dnK_m a b k;rw [←HCk.out] at this;omega
  by_cases hka:k<a.length
  ·obtain ⟨x,hx⟩:∃ x,x=a.getD k 0:=⟨_,rfl⟩
   obtain ⟨y,hy⟩:∃ y,y=b.getD k 0:=⟨_,rfl⟩
   have dx:=dg_getD da k
   have dy:=dg_getD db k
   rw [←hx] at dx
   rw [←hy] at dy
   have HX:=Lib.hid hx
   have HY:=Lib.hid hy
   clear hx hy
   obtain ⟨g,rfl,hgl,hcell⟩:=a3 k hka
   have hcx:=(R.2.cell (p:=⟨g,k,none⟩) hgl).trans hcell
   rw [←HX.out] at hcx
   clear hcell
   by_cases hkb:k<b.length
   ·obtain ⟨g',rfl,hgl',hcell'⟩:=b3 k hkb
    have hcy:=(R.2.cell (p:=⟨g',k,none⟩) hgl').trans hcell'
    rw [←HY.out] at hcy
    clear hcell'
    by_cases hneg:x-c-y<0
    ·clear a3 b3
     go_wp2_with (at_builtin;refine wpList_append_own _ rfl _ _ 52 rfl w.heap.size 3 i0 (.int .i64 0) 1 8 Tryz.underlying52 hi hz0 hz1 hz2 rfl (by decide) _ _ _ rfl (R.1.alloc _) ⟨wr.heap.size,0,none⟩ 1 1 [.int .i64 (x-c-y+10000)] rfl rfl (new_one _ _ _) (one_int _) (by unfold maxLen;omega) (by omega) (by have:=R.2.size;simp;omega) ?_)
     intro v' w1 hown' hgrow _
     have e:x-c-y=a.getD k 0-(dnK a b k).2-b.getD k 0:=by rw [←HCk.out,←HX.out,←HY.out]
     have R':=R.low (x:=x-c-y) e (by omega) hown' hgrow
     have HC':=Lib.hid (dn_low e (by omega))
     clear hown' hgrow R HCk HX HY e
     go_wp2
     go_roundw
     case rel=>exact ⟨k+1,1,by omega,by go_num,rfl,HC',R'⟩
     case measure=>simp [intOf];omega
    ·clear a3 b3
     go_wp2_with (at_builtin;refine wpList_append_own _ rfl _ _ 52 rfl w.heap.size 3 i0 (.int .i64 0) 1 8 Tryz.underlying52 hi hz0 hz1 hz2 rfl (by decide) _ _ _ rfl (R.1.alloc _) ⟨wr.heap.size,0,none⟩ 1 1 [.int .i64 (x-c-y)] rfl rfl (new_one _ _ _) (one_int _) (by unfold maxLen;omega) (by omega) (by have:=R.2.size;simp;omega) ?_)
     intro v' w1 hown' hgrow _
     have e:x-c-y=a.getD k 0-(dnK a b k).2-b.getD k 0:=by rw [←HCk.out,←HX.out,←HY.out]
     have R':=R.high (x:=x-c-y) e (by omega) hown' hgrow
     have HC':=Lib.hid (dn_high e (by omega))
     clear hown' hgrow R HCk HX HY e
     go_wp2
     go_roundw
     case rel=>exact ⟨k+1,0,by omega,by go_num,rfl,HC',R'⟩
     case measure=>simp [intOf];omega
   ·have hy0:y=0:=HY.out.trans (getD_past (by omega))
    subst hy0
    by_cases hneg:x-c<0
    ·clear a3 b3
     go_wp2_with (at_builtin;refine wpList_append_own _ rfl _ _ 52 rfl w.heap.size 3 i0 (.int .i64 0) 1 8 Tryz.underlying52 hi hz0 hz1 hz2 rfl (by decide) _ _ _ rfl (R.1.alloc _) ⟨wr.heap.size,0,none⟩ 1 1 [.int .i64 (x-c+10000)] rfl rfl (new_one _ _ _) (one_int _) (by unfold maxLen;omega) (by omega) (by have:=R.2.size;simp;omega) ?_)
     intro v' w1 hown' hgrow _
     have e:x-c=a.getD k 0-(dnK a b k).2-b.getD k 0:=by rw [←HCk.out,←HX.out,←HY.out];omega
     have R':=R.low (x:=x-c) e (by omega) hown' hgrow
     have HC':=Lib.hid (dn_low e (by omega))
     clear hown' hgrow R HCk HX HY e
     go_wp2
     go_roundw
     case rel=>exact ⟨k+1,1,by omega,by go_num,rfl,HC',R'⟩
     case measure=>simp [intOf];omega
    ·clear a3 b3
     go_wp2_with (at_builtin;refine wpList_append_own _ rfl _ _ 52 rfl w.heap.size 3 i0 (.int .i64 0) 1 8 Tryz.underlying52 hi hz0 hz1 hz2 rfl (by decide) _ _ _ rfl (R.1.alloc _) ⟨wr.heap.size,0,none⟩ 1 1 [.int .i64 (x-c)] rfl rfl (new_one _ _ _) (one_int _) (by unfold maxLen;omega) (by omega) (by have:=R.2.size;simp;omega) ?_)
     intro v' w1 hown' hgrow _
     have e:x-c=a.getD k 0-(dnK a b k).2-b.getD k 0:=by rw [←HCk.out,←HX.out,←HY.out];omega
     have R':=R.high (x:=x-c) e (by omega) hown' hgrow
     have HC':=Lib.hid (dn_high e (by omega))
     clear hown' hgrow R HCk HX HY e
     go_wp2
     go_roundw
     case rel=>exact ⟨k+1,0,by omega,by go_num,rfl,HC',R'⟩
     case measure=>simp [intOf];omega
  ·obtain rfl:k=a.length:=by omega
   clear a3 b3
   go_wp2
   go_ret
   exact ⟨_,rfl,by rw [HE.out];exact Rd.of_owns R.1,Old.ofBelow R.2 (Nat.le_refl _)⟩
def RetN (w:World) (neg:Bool) (ds:List Int) (e:Ending) (w':World):Prop:=∃ v,e=.returned (.agg #[.bool neg,v])∧Rd w' v ds∧Old w w'
theorem Two.rd {wr:World} {b o:Nat} {x:Bool} {a:Option Addr} {n c:Nat} {v:Value} {ds:List Int} (h:Two wr b (.bool x) (.slice a n c)) (hr:Rd wr v ds) (u:Value):Rd (wr.setCell ⟨b,o,none⟩ u) v ds:=by
 obtain ⟨oa,cap,rfl,h1,h2,h3⟩:=hr
 refine ⟨oa,cap,rfl,h1,h2,fun j hj=>?_⟩
 obtain ⟨g,rfl,hg,hc⟩:=h3 j hj
 refine ⟨g,rfl,by simp [World.setCell];exact hg,?_⟩
 have hne:g≠b:=by
  rintro rfl
  unfold Two at h
  simp only [World.cell?,h] at hc
  match j,hc with
  | 0,hc=>simp at hc
  | 1,hc=>simp at hc
  | j+2,hc=>simp at hc
 rw [World.cell?_setCell_other _ _ _ _ (by intro e;exact hne (congrArg Addr.block e).symm)]
 exact hc
theorem Two.set0 {wr:World} {b:Nat} {u0 v0:Value} (h:Two wr b u0 v0) (u:Value):Two (wr.setCell ⟨b,0,none⟩ u) b u v0:=by
 have hlt:=h.lt
 unfold Two at *
 have h':wr.heap[b]=.cells #[u0,v0] 131 (0,0):=by simpa [Array.getElem?_eq_getElem hlt] using h
 show (wr.heap.modify b _)[b]?=_
 rw [Array.getElem?_eq_getElem (by simpa using hlt),Array.getElem_modify_self,h']
 rfl
theorem Two.set1 {wr:World} {b:Nat} {u0 v0:Value} (h:Two wr b u0 v0) (v:Value):Two (wr.setCell ⟨b,1,none⟩ v) b u0 v:=by
 have hlt:=h.lt
 unfold Two at *
 have h':wr.heap[b]=.cells #[u0,v0] 131 (0,0):=by simpa [Array.getElem?_eq_getElem hlt] using h
 show (wr.heap.modify b _)[b]?=_
 rw [Array.getElem?_eq_getElem (by simpa using hlt),Array.getElem_modify_self,h']
 rfl
theorem Two.set {wr:World} {b:Nat} {u0 v0:Value} (h:Two wr b u0 v0) (u v:Value):Two ((wr.setCell ⟨b,0,none⟩ u).setCell ⟨b,1,none⟩ v) b u v:=(h.set0 u).set1 v
theorem Two.rd2 {wr:World} {b:Nat} {x:Bool} {a:Option Addr} {n c:Nat} {v:Value} {ds:List Int} (h:Two wr b (.bool x) (.slice a n c)) (hr:Rd wr v ds) (u u':Value):Rd ((wr.setCell ⟨b,0,none⟩ u).setCell ⟨b,1,none⟩ u') v ds:=by
 obtain ⟨oa,cap,rfl,h1,h2,h3⟩:=hr
 refine ⟨oa,cap,rfl,h1,h2,fun j hj=>?_⟩
 obtain ⟨g,rfl,hg,hc⟩:=h3 j hj
 refine ⟨g,rfl,by simp [World.setCell];exact hg,?_⟩
 have hne:g≠b:=by
  rintro rfl
  unfold Two at h
  simp only [World.cell?,h] at hc
  match j,hc with
  | 0,hc=>simp at hc
  | 1,hc=>simp at hc
  | j+2,hc=>simp at hc
 rw [World.cell?_setCell_other _ _ _ _ (by intro e;exact hne (congrArg Addr.block e).symm),World.cell?_setCell_other _ _ _ _ (by intro e;exact hne (congrArg Addr.block e).symm)]
 exact hc
theorem ret_two {W wr:World} {b:Nat} {x:Bool} {a:Option Addr} {n c:Nat} (h:Two wr b (.bool x) (.slice a n c)) (hb:W.heap.size≤b) (ho:Old W wr) {neg:Bool} {v:Value} {ds:List Int} (hr:Rd wr v ds) :
 RetN W neg ds (.returned (.agg #[.bool neg,v])) ((wr.setCell ⟨b,0,none⟩ (.bool neg)).setCell ⟨b,1,none⟩ v):=
 ⟨v,rfl,h.rd2 hr _ _,(ho.setCell hb _).setCell hb _⟩
theorem retN {w w1:World} {neg neg':Bool} {v:Value} {ds ds':List Int} (hn:neg=neg') (hd:ds=ds') (hr:Rd w1 v ds) (ho:Old w w1):RetN w neg' ds' (.returned (.agg #[.bool neg,v])) w1:=by
 subst hn hd;exact ⟨v,rfl,hr,ho⟩
set_option maxRecDepth 100000 in
theorem trim_core (neg sg:Bool) (l ds:List Int) (v:Value) (w:World) (hl:Rd w v l) (dl:Dg l) (ll:l.length≤2000)
 (h0:val l=0→false=sg∧[]=ds) (h1:∀ k,k+1≤l.length→val (l.take (k+1))=val l→¬ l.getD k 0=0→neg=sg∧l.take (k+1)=ds) :
 Calls Tryz.prog 163 #[.bool neg,v] w (RetN w sg ds):=by
 obtain ⟨oa,ca,rfl,a1,a2,a3⟩:=hl
 unfold maxLen at a2
 have H0:=Lib.hid h0
 have H1:=Lib.hid h1
 clear h0 h1
 cases neg
 all_goals
  go_enter Tryz.func163,Tryz.ntmps163
  go_wp2
  go_loop [1] (fun v=>∃ k:Nat,k≤l.length∧v=.slice oa k ca∧Hid (val (l.take k)=val l)) (fun v=>match v with|.slice _ n _=>n|_=>0)
  case atStart=>exact ⟨l.length,Nat.le_refl _,rfl,by rw [List.take_of_length_le (Nat.le_refl _)];exact rfl⟩
  case round=>
   obtain ⟨k,hk,rfl,HV⟩:=hrel
   rcases k with _|k
   ·obtain ⟨e1,e2⟩:=H0.out (by have:=HV.out;rw [List.take_zero] at this;exact this.symm)
    have E1:=Lib.hid e1
    have E2:=Lib.hid e2
    clear e1 e2 HV
    have hR:∀ o,Rd (w.alloc o) (.slice oa 0 ca) []:=fun o=>by
     have:=Rd.take (k:=0) a1 a2 a3 (by omega)
     rw [List.take_zero] at this
     exact this.old ((Old.refl _).alloc _)
    clear a3
    go_wp2
    exact bodyPost_ret (v:=.agg #[.bool false,.slice oa 0 ca]) (by simp [results,Tryz.results163,go_sem]) rfl (retN E1.out E2.out (hR _) ((Old.refl _).alloc _))
   ·have hR:∀ o,Rd (w.alloc o) (.slice oa (k+1) ca) (l.take (k+1)):=fun o=>(Rd.take (k:=k+1) a1 a2 a3 hk).old ((Old.refl _).alloc _)
    obtain ⟨g,rfl,hgl,hcell⟩:=a3 k (by omega)
    obtain ⟨x,hx⟩:∃ x,x=l.getD k 0:=⟨_,rfl⟩
    rw [←hx] at hcell
    have HX:=Lib.hid hx
    clear hx a3
    by_cases hx0:x=0
    ·subst hx0
     have HV':=Lib.hid ((val_drop0 l k hk HX.out.symm).symm.trans HV.out)
     clear hR
     go_wp2
     exact ⟨⟨k,by omega,rfl,HV'⟩,Nat.lt_succ_self k⟩
    ·have hx1:(x==0)=false:=eq0_false hx0
     obtain ⟨e1,e2⟩:=H1.out k hk HV.out (by rw [←HX.out];exact hx0)
     have E1:=Lib.hid e1
     have E2:=Lib.hid e2
     clear e1 e2 HV hx0
     go_wp2
     exact bodyPost_ret (v:=.agg #[.bool _,.slice (some ⟨g,0,none⟩) (k+1) ca]) (by simp [results,Tryz.results163,go_sem]) rfl (retN E1.out E2.out (hR _) ((Old.refl _).alloc _))
theorem trim_any (neg:Bool) (l:List Int) (v:Value) (w:World) (hl:Rd w v l) (dl:Dg l) (ll:l.length≤2000) :
 Calls Tryz.prog 163 #[.bool neg,v] w (RetN w (neg&&decide (¬ val l=0)) (dig (val l).toNat)):=by
 refine trim_core neg _ l _ v w hl dl ll (fun h=>?_) (fun k hk hv hx=>?_)
 ·simp [h,dig_zero]
 ·have e:=trim_dig dl hk hv (Or.inr (by simpa using hx))
  have hc:=can_val (dg_take dl (k+1)) (can_take l k hk hx) (by intro h;have:=congrArg List.length h;rw [List.length_take,Nat.min_eq_left hk] at this;exact absurd this (by simp))
  rw [hv] at hc
  refine ⟨?_,e⟩
  have:¬ val l=0:=by omega
  simp [this]
def OfR (w:World) (N:Nat) (n:Int) (v:Value) (wr:World):Prop:=∃ o:List Int,dig N=o++dig n.natAbs∧wr.ownsRow (w.heap.size+1) 3 1 v o.length (o.map (Value.int .i64))∧Below w.heap.size w wr∧Two wr w.heap.size (.bool false) (.slice none 0 0)
theorem of_next {w wr w1:World} {N:Nat} {n m x:Int} {v v':Value} {o:List Int} {ob:Obj} (hm:m.natAbs=n.natAbs/10000) (e:dig N=o++x::dig (n.natAbs/10000))
 (hown:wr.ownsRow (w.heap.size+1) 3 1 v o.length (o.map (Value.int .i64))) (hbl:Below w.heap.size w wr) (hcl:Two wr w.heap.size (.bool false) (.slice none 0 0))
 (hown':w1.ownsRow (w.heap.size+1) 3 1 v' (o.length+1) (o.map (Value.int .i64)++[.int .i64 x])) (hg:(wr.alloc ob).grownBy w1 v.ownBlock):OfR w N m v' w1:=by
 have hz:=hcl.lt
 refine ⟨o++[x],by rw [e,hm,List.append_assoc];rfl,?_,?_,?_⟩
 ·rw [List.length_append,List.map_append];exact hown'
 ·exact (hbl.alloc hbl.size ob).grown hg (by simp;omega) (fun j hj=>by have:=(hown.lt j hj).1;omega)
 ·exact (hcl.alloc ob).grown hg (fun h=>by have:=(hown.lt _ h).1;omega)
set_option maxRecDepth 100000 in
theorem of_any (n0:Int) (w:World) (h:I64 n0):Calls Tryz.prog 100 #[.int .i64 n0] w (RetN w (decide (n0<0)) (dig n0.natAbs)):=by
 obtain ⟨i0,hi,hz0,hz1,hz2⟩:=info_parts info3N
 obtain ⟨N,hN⟩:∃ N,N=n0.natAbs:=⟨_,rfl⟩
 have hl:(dig N).length≤5:=dig_len (by unfold I64 at h;show (N:Int)<100000000000000000000;omega)
 rw [←hN]
 have HN:=Lib.hid hN
 clear hN
 unfold I64 at h
 go_enter Tryz.func100,Tryz.ntmps100
 go_wp2
 go_loopw [0,4,5] (fun a v _ wr=>∃ n:Int,(-9223372036854775808≤n∧n≤9223372036854775807)∧a=.int .i64 n∧OfR w N n v wr) (fun a _ _ _=>(intOf a).natAbs)
 case atStart=>exact ⟨n0,h,rfl,[],by rw [HN.out];rfl,World.ownsRow_nil _ _ _ _,(Below.refl _ _).alloc (Nat.le_refl _) _,Two.new _ _ _⟩
 case round=>
  obtain ⟨n,hn,rfl,R⟩:=hrel
  by_cases hz:n=0
  ·subst hz
   obtain ⟨o,e,hown,hbl,hcl⟩:=R
   have hR:=Rd.of_owns hown
   obtain ⟨oa,cap,rfl,_,_,_⟩:=id hR
   have c0:=hcl.c0
   have c1:=hcl.c1
   have f0:=hcl.f 0
   have f1:=hcl.f 1
   have E:=Lib.hid e
   clear e hown
   go_wp2
   have hE:dig N=o:=by have:=E.out;rw [this,show Int.natAbs 0=0 from rfl,dig_zero,List.append_nil]
   rw [hE]
   have ht:=Two.set hcl (.bool (decide (n0<0))) (.slice oa o.length cap)
   exact bodyPost_ret (v:=.agg #[.bool (decide (n0<0)),.slice oa o.length cap]) (by simp [results,Tryz.results100,go_sem,ht.c0,ht.c1]) rfl (ret_two hcl (Nat.le_refl _) (Old.ofBelow hbl (Nat.le_refl _)) hR)
  ·have hz':(n==0)=false:=eq0_false hz
   have hz2':(n != 0)=true:=by simpa using hz
   obtain ⟨o,e,hown,hbl,hcl⟩:=R
   have hol:o.length≤5:=by have:=congrArg List.length e;rw [List.length_append] at this;omega
   have hR:=Rd.of_owns hown
   obtain ⟨oa,cap,rfl,_,_,_⟩:=id hR
   clear hR
   have E:=Lib.hid e
   clear e
   obtain ⟨t,ht⟩:∃ t,n.tmod 10000=t:=⟨_,rfl⟩
   obtain ⟨m,hm⟩:∃ m,n.tdiv 10000=m:=⟨_,rfl⟩
   have h1:t.natAbs=n.natAbs%10000:=by rw [←ht,Int.natAbs_tmod];rfl
   have h2:m.natAbs=n.natAbs/10000:=by rw [←hm,Int.natAbs_tdiv];rfl
   have bt:-10000<t∧t<10000:=by omega
   have bm:-9223372036854775808≤m∧m≤9223372036854775807:=by omega
   have hlt:m.natAbs<n.natAbs:=by omega
   have HT:=Lib.hid h1
   have HM:=Lib.hid h2
   clear h1 h2
   by_cases hneg:t<0
   ·
    have hx:(-t:Int)=((n.natAbs%10000:Nat):Int):=by have:=HT.out;omega
    have HX:=Lib.hid hx
    clear hx
    go_wp2_with (at_builtin;refine wpList_append_own _ rfl _ _ 52 rfl (w.heap.size+1) 3 i0 (.int .i64 0) 1 8 Tryz.underlying52 hi hz0 hz1 hz2 rfl (by decide) _ _ _ rfl (hown.alloc _) ⟨wr.heap.size,0,none⟩ 1 1 [.int .i64 (-t)] rfl rfl (new_one _ _ _) (one_int _) (by unfold maxLen;omega) (by omega) (by have:=hcl.lt;simp;omega) ?_)
    intro v' w1 hown' hgrow _
    have R':OfR w N m v' w1:=of_next HM.out (by have:=E.out;rw [dig_pos (n:=n.natAbs) (by omega)] at this;rw [this,HX.out]) hown hbl hcl hown' hgrow
    clear hown' hgrow hown HX HT HM E hbl hcl
    go_wp2
    go_roundw
    case rel=>exact ⟨m,bm,rfl,R'⟩
    case measure=>simp [intOf];omega
   ·
    have hx:(t:Int)=((n.natAbs%10000:Nat):Int):=by have:=HT.out;omega
    have HX:=Lib.hid hx
    clear hx
    go_wp2_with (at_builtin;refine wpList_append_own _ rfl _ _ 52 rfl (w.heap.size+1) 3 i0 (.int .i64 0) 1 8 Tryz.underlying52 hi hz0 hz1 hz2 rfl (by decide) _ _ _ rfl (hown.alloc _) ⟨wr.heap.size,0,none⟩ 1 1 [.int .i64 (t)] rfl rfl (new_one _ _ _) (one_int _) (by unfold maxLen;omega) (by omega) (by have:=hcl.lt;simp;omega) ?_)
    intro v' w1 hown' hgrow _
    have R':OfR w N m v' w1:=of_next HM.out (by have:=E.out;rw [dig_pos (n:=n.natAbs) (by omega)] at this;rw [this,HX.out]) hown hbl hcl hown' hgrow
    clear hown' hgrow hown HX HT HM E hbl hcl
    go_wp2
    go_roundw
    case rel=>exact ⟨m,bm,rfl,R'⟩
    case measure=>simp [intOf];omega
end Go.Proofs.YtmkmafkkpigfpaaGreatDoor
