/- The document's own numbers: products. products of whole numbers. noughts at the end struck, in place; and a row behind a digit. quotients: memory, and the plain facts of a long division. -/
import Derived.Laws.MakeOwn
import Derived.RegionTactic
import Derived.Deep.AppendLies
import Derived.OneCell
import Derived.Test.YtmkmafkkpigfpaaGreatDoorRI
import Derived.Test.YtmkmafkkpigfpaaGreatDoorRN
set_option maxHeartbeats 3200000
namespace Go.Proofs.YtmkmafkkpigfpaaGreatDoor
open Go.ChangeShapes Go.WideShapes Go.ChangeAt Go.RowKit
set_option linter.unusedVariables false
structure MlW (w:World) (B:Nat) (u0 v0 u1 v1:Value) (S:Nat) (wr:World):Prop where
 six:Six wr B u0 v0 u1 v1
 sum:∃ o c,Two wr (B+1+1+1) (.bool false) (.slice o (dig S).length c)∧Rd wr (.slice o (dig S).length c) (dig S)
 old:Old w wr
theorem Two.far {w:World} {b:Nat} {u v:Value} (h:Two w b u v) {p:Addr} (hp:b≠p.block) (x:Value):Two (w.setCell p x) b u v:=(Below.heap_setCell w p x b hp).trans h
theorem MlW.next {w wo w3:World} {B:Nat} {u0 v0 u1 v1:Value} {S S':Nat} {o:Option Addr} {c:Nat} (M:MlW w B u0 v0 u1 v1 S wo) (ho:Old wo w3) (hB:w.heap.size≤B) (R:Rd w3 (.slice o (dig S').length c) (dig S')) :
 MlW w B u0 v0 u1 v1 S' ((w3.setCell ⟨B+1+1+1,0,none⟩ (.bool false)).setCell ⟨B+1+1+1,1,none⟩ (.slice o (dig S').length c)):=by
 obtain ⟨⟨h0,h1,h2⟩,⟨o',c',h3,h4⟩,h5⟩:=M
 refine ⟨⟨?_,?_,?_⟩,⟨o,c,(h3.old ho).set _ _,Two.rd2 (h3.old ho) R _ _⟩,((h5.trans ho).setCell (by show w.heap.size≤B+1+1+1;omega) _).setCell (by show w.heap.size≤B+1+1+1;omega) _⟩
 ·exact ((h0.old ho).far (by show B≠B+1+1+1;omega) _).far (by show B≠B+1+1+1;omega) _
 ·exact ((h1.old ho).far (by show B+1≠B+1+1+1;omega) _).far (by show B+1≠B+1+1+1;omega) _
 ·exact ((h2.old ho).far (by show B+1+1≠B+1+1+1;omega) _).far (by show B+1+1≠B+1+1+1;omega) _
def MlR (wo:World) (da:List Int) (d:Int) (i j:Nat) (v:Value) (wr:World):Prop:=wr.ownsRow wo.heap.size 3 1 v (i+j) ((shl i (mlK da d j).1).map (Value.int .i64))∧Below wo.heap.size wo wr
theorem MlR.drewN {wo:World} {da:List Int} {d:Int} {i j:Nat} {v:Value} {wr:World} (h:MlR wo da d i j v wr) (n:Nat):MlR wo da d i j v (wr.drewN n):=⟨h.1,⟨h.2.os,h.2.tape,h.2.output,h.2.size,h.2.block⟩⟩
theorem MlR.next {wo:World} {da:List Int} {d:Int} {i j:Nat} {v v':Value} {wr w1:World} {s:Int} {o:Obj} (h:MlR wo da d i j v wr) (hs:s=(mlK da d j).2+da.getD j 0*d)
 (hown:w1.ownsRow wo.heap.size 3 1 v' (i+j+1) ((shl i (mlK da d j).1).map (Value.int .i64)++[.int .i64 (s%10000)])) (hg:(wr.alloc o).grownBy w1 v.ownBlock):MlR wo da d i (j+1) v' w1:=by
 refine ⟨?_,?_⟩
 ·have e:shl i (mlK da d (j+1)).1=shl i (mlK da d j).1++[s%10000]:=by
   simp only [mlK,shl,←hs,List.append_assoc]
  rw [e,List.map_append];exact hown
 ·have hz:=h.2.size
  refine (h.2.alloc hz o).grown hg (by simp;omega) (fun j hj=>(h.1.lt j hj).1)
theorem ml_start {wo w0:World} {da:List Int} {d:Int} {i:Nat} (hown:w0.ownsRow wo.heap.size 3 1 (.slice (some ⟨wo.heap.size,0,none⟩) i i) i (madeCells (Value.int .i64 0).cells (i*1)).toList) (hg:wo.grownBy w0 none):MlR wo da d i 0 (.slice (some ⟨wo.heap.size,0,none⟩) i i) w0:=by
 refine ⟨?_,(Below.refl _ _).grown hg (Nat.le_refl _) (fun k h=>by cases h)⟩
 have e:(shl i (mlK da d 0).1).map (Value.int .i64)=List.replicate i (Value.int .i64 0):=by simp [shl,mlK]
 rw [e,Nat.add_zero]
 have e2:(madeCells (Value.int .i64 0).cells (i*1)).toList=List.replicate i (Value.int .i64 0):=by rw [Nat.mul_one];exact toList_madeCells_one _ _
 rw [←e2];exact hown
theorem rd_cell {W:World} {oa:Option Addr} {la ca:Nat} {da:List Int} (h:Rd W (.slice oa la ca) da) {j:Nat} (hj:j<da.length):∃ g,oa=some ⟨g,0,none⟩∧W.cell? ⟨g,j,none⟩=some (.int .i64 (da.getD j 0)):=by
 obtain ⟨oa',ca',e,_,_,h3⟩:=h
 simp only [Value.slice.injEq] at e
 obtain ⟨rfl,_,rfl⟩:=e
 obtain ⟨g,h4,_,h5⟩:=h3 j hj
 exact ⟨g,h4,h5⟩
set_option maxRecDepth 100000 in
theorem mul_walk2 (na nb:Bool) (oa ob:Option Addr) (la ca lb cb:Nat) (w:World) (da db:List Int) (S:Nat→Nat) (sg:Bool) (ds:List Int)
 (hx:Rd w (.slice oa la ca) da) (hy:Rd w (.slice ob lb cb) db) (ga:Dg da) (gb:Dg db) (hla:la=da.length) (hlb:lb=db.length) (sa:la≤200) (sb:lb≤100)
 (s0:S 0=0) (sS:∀ i,i<lb→(dig (S i)).length≤500)
 (hup:∀ i,i<lb→∀ W u v,Rd W u (dig (S i))→Rd W v (shl i (mlL da (db.getD i 0)))→Calls Tryz.prog 164 #[u,v] W (RetD W (upL (dig (S i)) (shl i (mlL da (db.getD i 0))))))
 (htr:∀ i,i<lb→∀ W v,Rd W v (upL (dig (S i)) (shl i (mlL da (db.getD i 0))))→Calls Tryz.prog 163 #[.bool false,v] W (RetN W false (dig (S (i+1)))))
 (hfin:∀ W v,Rd W v (dig (S lb))→Calls Tryz.prog 163 #[.bool (na != nb),v] W (RetN W sg ds)) :
 Calls Tryz.prog 137 #[.agg #[.bool na,.slice oa la ca],.agg #[.bool nb,.slice ob lb cb]] w (RetN w sg ds):=by
 obtain ⟨i0,hi,hz0,hz1,hz2⟩:=info_parts info3N
 have hS:=Six.new w (.bool na) (.slice oa la ca) (.bool nb) (.slice ob lb cb)
 have h3:=Two.new (((w.alloc (.cells #[.bool na,.slice oa la ca] 131)).alloc (.cells #[.bool nb,.slice ob lb cb] 131)).alloc (.cells #[.bool false,.slice none 0 0] 131)) (.bool false) (.slice none 0 0)
 have hz:(((w.alloc (.cells #[.bool na,.slice oa la ca] 131)).alloc (.cells #[.bool nb,.slice ob lb cb] 131)).alloc (.cells #[.bool false,.slice none 0 0] 131)).heap.size=w.heap.size+1+1+1:=by simp
 rw [hz] at h3
 have HW:Hid (MlW w w.heap.size (.bool na) (.slice oa la ca) (.bool nb) (.slice ob lb cb) (S 0) ((((w.alloc (.cells #[.bool na,.slice oa la ca] 131)).alloc (.cells #[.bool nb,.slice ob lb cb] 131)).alloc (.cells #[.bool false,.slice none 0 0] 131)).alloc (.cells #[.bool false,.slice none 0 0] 131))):=by
  refine ⟨hS.old ((Old.refl _).alloc _),⟨none,0,?_,?_⟩,((((Old.refl _).alloc _).alloc _).alloc _).alloc _⟩
  ·rw [s0,dig_zero];exact h3
  ·rw [s0,dig_zero];exact Rd.nil _
 clear hS h3 hz
 have HUP:=Lib.hid hup
 have HTR:=Lib.hid htr
 have HFI:=Lib.hid hfin
 have HSS:=Lib.hid sS
 have HLA:=Lib.hid hla
 have HLB:=Lib.hid hlb
 clear hup htr hfin sS s0 hla hlb
 go_enter Tryz.func137,Tryz.ntmps137
 go_wp2_with fail
 go_loopw [6] (fun i wr=>∃ k:Nat,k≤lb∧i=.int .i64 k∧Hid (MlW w w.heap.size (.bool na) (.slice oa la ca) (.bool nb) (.slice ob lb cb) (S k) wr)) (fun i _=>lb-(intOf i).toNat)
 case atStart=>exact ⟨0,Nat.zero_le _,rfl,HW⟩
 case round=>
  clear HW
  obtain ⟨i,hil,rfl,M⟩:=hrel
  obtain ⟨wo,rfl⟩:∃ wo:World,wo=wr:=⟨_,rfl⟩
  have tx:=M.out.six.t0.c1
  have ty:=M.out.six.t1.c1
  by_cases hlt:i<lb
  ·obtain ⟨d,hd⟩:∃ d,d=db.getD i 0:=⟨_,rfl⟩
   have bd:=dg_getD gb i
   rw [←hd] at bd
   have HUPi:=Lib.hid (HUP.out i hlt)
   have HTRi:=Lib.hid (HTR.out i hlt)
   have HSSi:=Lib.hid (HSS.out i hlt)
   rw [←hd] at HUPi HTRi
   have HD:=Lib.hid hd
   clear hd HUP HTR HFI HSS
   have HDone:=Lib.hid (ml_done ga bd)
   have HMore:=Lib.hid (fun k=>ml_more ga bd k)
   have HCar:=Lib.hid (fun k=>mlK_m ga bd k)
   have hN:=ml_le da d
   have HML:Hid (mlL da d=(mlK da d (mlN da d)).1):=rfl
   generalize hNE:mlN da d=N at *
   clear hNE
   rw [←HLA.out] at hN
   go_wp2_with (at_make;refine wpList_make_full _ rfl _ _ 52 rfl wo.heap.size 3 i0 (.int .i64 0) 1 Tryz.underlying52 hi hz0 hz1 .i64 .i64 _ _ i rfl rfl rfl rfl (by rw [hz2];omega) (by unfold maxLen;omega) (Nat.le_refl _) ?_;intro w0 hown0 hgrow0)
   have R0:MlR wo da d i 0 (.slice (some ⟨wo.heap.size,0,none⟩) i i) w0:=ml_start hown0 hgrow0
   have HR0:=Lib.hid R0
   clear R0 hown0 hgrow0
   go_loopw [7,8,9] (fun v m k wr=>∃ (j:Nat) (c:Int),j≤N∧k=.int .i64 j∧m=.int .i64 c∧Hid (c=(mlK da d j).2)∧Hid (MlR wo da d i j v wr)) (fun _ _ k _=>N-(intOf k).toNat)
   case atStart=>exact ⟨0,0,Nat.zero_le _,rfl,rfl,rfl,HR0⟩
   case round=>
    clear HR0 tx ty
    obtain ⟨j,c,hj,rfl,rfl,HCk,HR⟩:=hrel
    have R:=HR.out
    clear HR
    have tx:=(R.2.cell (p:=⟨w.heap.size,1,none⟩) M.out.six.t0.lt).trans M.out.six.t0.c1
    have ty:=(R.2.cell (p:=⟨w.heap.size+1,1,none⟩) M.out.six.t1.lt).trans M.out.six.t1.c1
    have hc:=HCar.out j
    rw [←HCk.out] at hc
    have HO:=Lib.hid (M.out.old.trans (Old.ofBelow R.2 (Nat.le_refl _)))
    by_cases hjN:j<N
    ·have hm:=HMore.out j hjN
     rw [←HCk.out,←HLA.out] at hm
     by_cases hja:j<la
     ·obtain ⟨x,hx'⟩:∃ x,x=da.getD j 0:=⟨_,rfl⟩
      have bx:=dg_getD ga j
      rw [←hx'] at bx
      have cx:=rd_cell (hx.old HO.out) (HLA.out▸hja)
      have cy:=rd_cell (hy.old HO.out) (HLB.out▸hlt)
      obtain ⟨g,rfl,cx⟩:=cx
      obtain ⟨g',rfl,cy⟩:=cy
      rw [←hx'] at cx
      rw [←HD.out] at cy
      obtain ⟨P,hP⟩:∃ P,P=x*d:=⟨_,rfl⟩
      have bP:=prod_bd bx bd
      rw [←hP] at bP
      have e1:IntKind.i64.wrap (x*d)=P:=by rw [←hP];exact IntWalk.i64_in _ (by omega)
      have e2:IntKind.i64.wrap (c+P)=c+P:=IntWalk.i64_in _ (by omega)
      have HSUM:Hid (c+P=(mlK da d j).2+da.getD j 0*d):=by show c+P=_;rw [HCk.out,hP,hx']
      clear hm hx' hP
      go_wp2_with fail
      go_quiet (fail)
      have R2:=MlR.drewN R nq
      clear e1 e2 R tx ty cx cy HO
      have R:=R2
      clear R2
      generalize wr.drewN nq=WR at *
      go_wp2_with (at_builtin;refine wpList_append_own _ rfl _ _ 52 rfl wo.heap.size 3 i0 (.int .i64 0) 1 8 Tryz.underlying52 hi hz0 hz1 hz2 rfl (by decide) _ _ _ rfl (R.1.alloc _) ⟨WR.heap.size,0,none⟩ 1 1 [.int .i64 ((c+P)%10000)] rfl rfl (new_one _ _ _) (one_int _) (by unfold maxLen;omega) (by omega) (by have:=R.2.size;simp;omega) ?_)
      intro v' w1 hown' hgrow _
      have R':=R.next (s:=c+P) (HSUM.out) hown' hgrow
      have HC':Hid ((c+P)/10000=(mlK da d (j+1)).2):=by
       show _=((mlK da d j).2+da.getD j 0*d)/10000
       rw [←HSUM.out]
      clear hown' hgrow R HCk HSUM
      go_wp2_with fail
      go_roundw
      case rel=>exact ⟨j+1,(c+P)/10000,by omega,by go_num,rfl,HC',R'⟩
      case measure=>simp [intOf];omega
     ·have hc0:0<c:=by omega
      have HSUM:Hid (c=(mlK da d j).2+da.getD j 0*d):=by show c=_;rw [HCk.out,getD_past (l:=da) (by have:=HLA.out;omega)];omega
      clear hm
      obtain ⟨WR,rfl⟩:∃ WR:World,WR=wr:=⟨_,rfl⟩
      go_wp2_with (at_builtin;refine wpList_append_own _ rfl _ _ 52 rfl wo.heap.size 3 i0 (.int .i64 0) 1 8 Tryz.underlying52 hi hz0 hz1 hz2 rfl (by decide) _ _ _ rfl (R.1.alloc _) ⟨WR.heap.size,0,none⟩ 1 1 [.int .i64 ((c)%10000)] rfl rfl (new_one _ _ _) (one_int _) (by unfold maxLen;omega) (by omega) (by have:=R.2.size;simp;omega) ?_)
      intro v' w1 hown' hgrow _
      have R':=R.next (s:=c) (HSUM.out) hown' hgrow
      have HC':Hid ((c)/10000=(mlK da d (j+1)).2):=by
       show _=((mlK da d j).2+da.getD j 0*d)/10000
       rw [←HSUM.out]
      clear hown' hgrow R HCk HSUM
      go_wp2_with fail
      go_roundw
      case rel=>exact ⟨j+1,(c)/10000,by omega,by go_num,rfl,HC',R'⟩
      case measure=>simp [intOf];omega
    ·obtain rfl:j=N:=by omega
     have hc0:c=0:=HCk.out.trans HDone.out
     subst hc0
     have hge:¬ j<la:=by omega
     obtain ⟨so,sc,h3,h4⟩:=M.out.sum
     have ob:=Old.ofBelow R.2 (Nat.le_refl _)
     have ts:=(h3.old ob).c1
     have R1:=Lib.hid (Rd.of_owns R.1)
     rw [←HML.out] at R1
     clear HMore HCar HDone hc HCk hN
     go_wp2_with fail
     refine (HUPi.out _ _ _ (h4.old ob) R1.out).mono ?_
     rintro e w2 ⟨v2,rfl,hr2,ho2⟩
     go_wp2_with fail
     refine (HTRi.out _ _ hr2).mono ?_
     rintro e w3 ⟨v3,rfl,hr3,ho3⟩
     obtain ⟨o3,c3,rfl,_⟩:=id hr3
     have OB:=Lib.hid (ob.trans (ho2.trans ho3))
     have T3:=Lib.hid (h3.old OB.out)
     have M':=Lib.hid (M.out.next OB.out (Nat.le_refl _) hr3)
     have t0:=T3.out.c0
     have t1:=T3.out.c1
     have t2:=T3.out.f 0
     have t3:=T3.out.f 1
     clear h3 h4 ob ts R1 hr2 ho2 hr3 ho3 R tx ty HO
     go_wp2_with fail
     go_roundw
     case rel=>exact ⟨i+1,by omega,by go_num,M'⟩
     case measure=>simp [intOf];omega
  ·obtain rfl:i=lb:=by omega
   obtain ⟨so,sc,h3,h4⟩:=M.out.sum
   have ts:=h3.c1
   have u0:=M.out.six.t0.c0
   have u1:=M.out.six.t1.c0
   clear HUP HTR HSS
   go_wp2_with fail
   refine (HFI.out _ _ h4).mono ?_
   rintro e w3 ⟨v3,rfl,hr3,ho3⟩
   obtain ⟨o3,c3,rfl,_⟩:=id hr3
   have T3:=Lib.hid (M.out.six.t2.old ho3)
   have O3:=Lib.hid (M.out.old.trans ho3)
   have R3:=Lib.hid hr3
   have t0:=T3.out.c0
   have t1:=T3.out.c1
   have t2:=T3.out.f 0
   have t3:=T3.out.f 1
   clear h3 h4 ts hr3 ho3 tx ty u0 u1
   go_wp2_with fail
   have ht:=Two.set T3.out (.bool sg) (.slice o3 ds.length c3)
   exact bodyPost_ret (v:=.agg #[.bool sg,.slice o3 ds.length c3]) (by simp [results,Tryz.results137,go_sem,ht.c0,ht.c1]) rfl (ret_two T3.out (by omega) O3.out R3.out)
theorem p10_add (j:Nat):∀ k,p10 (j+k)=p10 j*p10 k
 | 0=>by simp [p10]
 | k+1=>by
   show 10000*p10 (j+k)=p10 j*(10000*p10 k)
   rw [p10_add j k,Int.mul_left_comm]
theorem lo_mul {a b:Int} (ha:Lo a) (hb:Lo b):((a.natAbs*b.natAbs:Nat):Int)<p10 38:=by
 unfold Lo at *
 rw [Int.natCast_mul,show (38:Nat)=19+19 from rfl,p10_add]
 have h1:(a.natAbs:Int)*b.natAbs≤p10 19*b.natAbs:=Int.mul_le_mul_of_nonneg_right (by omega) (by omega)
 have h2:p10 19*(b.natAbs:Int)<p10 19*p10 19:=Int.mul_lt_mul_of_pos_left hb (p10_pos 19)
 omega
def msum (a:Nat) (l:List Int) (i:Nat):Nat:=a*(val (l.take i)).toNat
theorem msum_le (a b i:Nat):msum a (dig b) i≤a*b:=by
 unfold msum
 refine Nat.mul_le_mul_left a ?_
 have h:=val_split (dig b) i
 rw [dig_val] at h
 have h1:Dg ((dig b).drop i):=fun d h=>dig_dg b d (List.mem_of_mem_drop h)
 have h2:=(val_bd _ h1).1
 have h3:0≤p10 i*val ((dig b).drop i):=Int.mul_nonneg (Int.le_of_lt (p10_pos i)) h2
 omega
theorem msum_next (a:Nat) (l:List Int) (hl:Dg l) (i:Nat):(msum a l (i+1):Int)=msum a l i+p10 i*(a*l.getD i 0):=by
 unfold msum
 have h1:=(val_bd _ (dg_take hl i)).1
 have h2:=(val_bd _ (dg_take hl (i+1))).1
 have e1:((val (l.take (i+1))).toNat:Int)=val (l.take (i+1)):=by omega
 have e2:((val (l.take i)).toNat:Int)=val (l.take i):=by omega
 rw [Int.natCast_mul,Int.natCast_mul,e1,e2,val_take,Int.mul_add,Int.mul_left_comm]
theorem sgZ_sign (a b:Int) (p:Nat):((decide (a<0) != decide (b<0))&&decide (¬ (p:Int)=0))=decide (sgZ a b p<0):=by
 by_cases hs:(a<0↔b<0)
 ·rw [sgZ_same p hs,show (decide (a<0) != decide (b<0))=false by simp [hs],Bool.false_and]
  exact (decide_eq_false (by omega)).symm
 ·have h1:(decide (a<0) != decide (b<0))=true:=by
   by_cases ha:a<0<;>by_cases hb:b<0<;>simp [ha,hb] at hs ⊢
  rw [sgZ_other p hs,h1,Bool.true_and,decide_eq_decide]
  omega
theorem mul_sign (a b:Int):((decide (a<0) != decide (b<0))&&decide (¬ ((a.natAbs*b.natAbs:Nat):Int)=0))=decide (a*b<0):=by
 rw [sgZ_sign,sgZ_mul]
theorem mulI (a b:Int) (x y:Value) (w:World) (hx:RN w x a) (hy:RN w y b) (ha:Lo a) (hb:Lo b):Calls Tryz.prog 137 #[x,y] w (RetI w (a*b)):=by
 obtain ⟨va,rfl,ra⟩:=hx
 obtain ⟨vb,rfl,rb⟩:=hy
 obtain ⟨oa,ca,rfl,_⟩:=id ra
 obtain ⟨ob,cb,rfl,_⟩:=id rb
 have la:(dig a.natAbs).length≤19:=dig_len ha
 have lb:(dig b.natAbs).length≤19:=dig_len hb
 have lp:∀ i,(dig (msum a.natAbs (dig b.natAbs) i)).length≤38:=fun i=>Nat.le_trans (dig_mono (msum_le _ _ i)) (dig_len (lo_mul ha hb))
 have gd:∀ i,0≤(dig b.natAbs).getD i 0∧(dig b.natAbs).getD i 0<10000:=fun i=>dg_getD (dig_dg _) i
 have hsl:∀ i,i<(dig b.natAbs).length→(shl i (mlL (dig a.natAbs) ((dig b.natAbs).getD i 0))).length≤100:=fun i hi=>by
  rw [shl_len];have:=mlL_len (dig a.natAbs) ((dig b.natAbs).getD i 0);omega
 have hsd:∀ i,Dg (shl i (mlL (dig a.natAbs) ((dig b.natAbs).getD i 0))):=fun i=>shl_dg (mlL_dg (dig_dg _) (gd i))
 have hsv:∀ i,val (upL (dig (msum a.natAbs (dig b.natAbs) i)) (shl i (mlL (dig a.natAbs) ((dig b.natAbs).getD i 0))))=msum a.natAbs (dig b.natAbs) (i+1):=fun i=>by
  rw [upL_val (dig_dg _) (hsd i),dig_val,shl_val,mlL_val (dig_dg _) (gd i),dig_val,msum_next _ _ (dig_dg _)]
 have hend:msum a.natAbs (dig b.natAbs) (dig b.natAbs).length=a.natAbs*b.natAbs:=by
  unfold msum
  rw [List.take_of_length_le (Nat.le_refl _),dig_val,Int.toNat_natCast]
 have h:=mul_walk2 (decide (a<0)) (decide (b<0)) oa ob (dig a.natAbs).length ca (dig b.natAbs).length cb w (dig a.natAbs) (dig b.natAbs) (msum a.natAbs (dig b.natAbs)) _ _ ra rb (dig_dg _) (dig_dg _) rfl rfl (by omega) (by omega)
  (by unfold msum;rw [List.take_zero];rfl) (fun i _=>Nat.le_trans (lp i) (by omega))
  (fun i hi W u v h1 h2=>up_any _ _ u v W h1 h2 (dig_dg _) (hsd i) (Nat.le_trans (lp i) (by omega)) (Nat.le_trans (hsl i hi) (by omega)))
  (fun i hi W v h1=>by
    have h:=trim_any false _ v W h1 (upL_dg (dig_dg _) (hsd i)) (by have:=upL_len (dig (msum a.natAbs (dig b.natAbs) i)) (shl i (mlL (dig a.natAbs) ((dig b.natAbs).getD i 0)));have:=lp i;have:=hsl i hi;omega)
    rw [hsv i,Int.toNat_natCast,Bool.false_and] at h
    exact h)
  (fun W v h1=>trim_any _ _ v W h1 (dig_dg _) (Nat.le_trans (lp _) (by omega)))
 refine h.mono fun _ _ h=>retI_of h ?_ ?_
 ·rw [dig_val,hend];exact mul_sign a b
 ·rw [dig_val,hend,Int.toNat_natCast,Int.natAbs_mul]
theorem lo_mulS {a b:Int} (ha:(a.natAbs:Int)<p10 110) (hb:Lo b):((a.natAbs*b.natAbs:Nat):Int)<p10 129:=by
 unfold Lo at *
 rw [Int.natCast_mul,show (129:Nat)=110+19 from rfl,p10_add]
 have h1:(a.natAbs:Int)*b.natAbs≤p10 110*b.natAbs:=Int.mul_le_mul_of_nonneg_right (by omega) (by omega)
 have h2:p10 110*(b.natAbs:Int)<p10 110*p10 19:=Int.mul_lt_mul_of_pos_left hb (p10_pos 110)
 omega
theorem mulS (a b:Int) (x y:Value) (w:World) (hx:RN w x a) (hy:RN w y b) (ha:(a.natAbs:Int)<p10 110) (hb:Lo b):Calls Tryz.prog 137 #[x,y] w (RetI w (a*b)):=by
 obtain ⟨va,rfl,ra⟩:=hx
 obtain ⟨vb,rfl,rb⟩:=hy
 obtain ⟨oa,ca,rfl,_⟩:=id ra
 obtain ⟨ob,cb,rfl,_⟩:=id rb
 have la:(dig a.natAbs).length≤110:=dig_len ha
 have lb:(dig b.natAbs).length≤19:=dig_len hb
 have lp:∀ i,(dig (msum a.natAbs (dig b.natAbs) i)).length≤129:=fun i=>Nat.le_trans (dig_mono (msum_le _ _ i)) (dig_len (lo_mulS ha hb))
 have gd:∀ i,0≤(dig b.natAbs).getD i 0∧(dig b.natAbs).getD i 0<10000:=fun i=>dg_getD (dig_dg _) i
 have hsl:∀ i,i<(dig b.natAbs).length→(shl i (mlL (dig a.natAbs) ((dig b.natAbs).getD i 0))).length≤200:=fun i hi=>by
  rw [shl_len];have:=mlL_len (dig a.natAbs) ((dig b.natAbs).getD i 0);omega
 have hsd:∀ i,Dg (shl i (mlL (dig a.natAbs) ((dig b.natAbs).getD i 0))):=fun i=>shl_dg (mlL_dg (dig_dg _) (gd i))
 have hsv:∀ i,val (upL (dig (msum a.natAbs (dig b.natAbs) i)) (shl i (mlL (dig a.natAbs) ((dig b.natAbs).getD i 0))))=msum a.natAbs (dig b.natAbs) (i+1):=fun i=>by
  rw [upL_val (dig_dg _) (hsd i),dig_val,shl_val,mlL_val (dig_dg _) (gd i),dig_val,msum_next _ _ (dig_dg _)]
 have hend:msum a.natAbs (dig b.natAbs) (dig b.natAbs).length=a.natAbs*b.natAbs:=by
  unfold msum
  rw [List.take_of_length_le (Nat.le_refl _),dig_val,Int.toNat_natCast]
 have h:=mul_walk2 (decide (a<0)) (decide (b<0)) oa ob (dig a.natAbs).length ca (dig b.natAbs).length cb w (dig a.natAbs) (dig b.natAbs) (msum a.natAbs (dig b.natAbs)) _ _ ra rb (dig_dg _) (dig_dg _) rfl rfl (by omega) (by omega)
  (by unfold msum;rw [List.take_zero];rfl) (fun i _=>Nat.le_trans (lp i) (by omega))
  (fun i hi W u v h1 h2=>up_any _ _ u v W h1 h2 (dig_dg _) (hsd i) (Nat.le_trans (lp i) (by omega)) (Nat.le_trans (hsl i hi) (by omega)))
  (fun i hi W v h1=>by
    have h:=trim_any false _ v W h1 (upL_dg (dig_dg _) (hsd i)) (by have:=upL_len (dig (msum a.natAbs (dig b.natAbs) i)) (shl i (mlL (dig a.natAbs) ((dig b.natAbs).getD i 0)));have:=lp i;have:=hsl i hi;omega)
    rw [hsv i,Int.toNat_natCast,Bool.false_and] at h
    exact h)
  (fun W v h1=>trim_any _ _ v W h1 (dig_dg _) (Nat.le_trans (lp _) (by omega)))
 refine h.mono fun _ _ h=>retI_of h ?_ ?_
 ·rw [dig_val,hend];exact mul_sign a b
 ·rw [dig_val,hend,Int.toNat_natCast,Int.natAbs_mul]
def RetT (w:World) (oa:Option Addr) (ca:Nat) (neg:Bool) (ds:List Int) (e:Ending) (w':World):Prop:=∃ k,e=.returned (.agg #[.bool neg,.slice oa k ca])∧Rd w' (.slice oa k ca) ds∧Old w w'
theorem retT {w w1:World} {oa:Option Addr} {ca k:Nat} {neg neg':Bool} {ds ds':List Int} (hn:neg=neg') (hd:ds=ds') (hr:Rd w1 (.slice oa k ca) ds) (ho:Old w w1):RetT w oa ca neg' ds' (.returned (.agg #[.bool neg,.slice oa k ca])) w1:=by
 subst hn hd;exact ⟨k,rfl,hr,ho⟩
set_option maxRecDepth 100000 in
theorem trim_at (neg sg:Bool) (l ds:List Int) (oa:Option Addr) (na ca:Nat) (w:World) (hl:Rd w (.slice oa na ca) l) (dl:Dg l) (ll:l.length≤2000)
 (h0:val l=0→false=sg∧[]=ds) (h1:∀ k,k+1≤l.length→val (l.take (k+1))=val l→¬ l.getD k 0=0→neg=sg∧l.take (k+1)=ds) :
 Calls Tryz.prog 163 #[.bool neg,.slice oa na ca] w (RetT w oa ca sg ds):=by
 obtain ⟨oa',ca',e',a1,a2,a3⟩:=hl
 simp only [Value.slice.injEq] at e'
 obtain ⟨rfl,rfl,rfl⟩:=e'
 unfold maxLen at a2
 have H0:=Lib.hid h0
 have H1:=Lib.hid h1
 clear h0 h1
 cases neg
 all_goals
  go_enter Tryz.func163,Tryz.ntmps163
  go_wp2
  go_loop [1] (fun v=>∃ k:Nat,k≤l.length∧v=.slice oa k ca∧Hid (val (l.take k)=val l)) (fun v=>match v with|.slice _ n _=>n|_=>0)
  case atStart=>exact ⟨l.length,Nat.le_refl _,rfl,by rw [List.take_of_length_le (Nat.le_refl _)];exact rfl⟩
  case round=>
   obtain ⟨k,hk,rfl,HV⟩:=hrel
   rcases k with _|k
   ·obtain ⟨e1,e2⟩:=H0.out (by have:=HV.out;rw [List.take_zero] at this;exact this.symm)
    have E1:=Lib.hid e1
    have E2:=Lib.hid e2
    clear e1 e2 HV
    have hR:∀ o,Rd (w.alloc o) (.slice oa 0 ca) []:=fun o=>by
     have:=Rd.take (k:=0) a1 a2 a3 (by omega)
     rw [List.take_zero] at this
     exact this.old ((Old.refl _).alloc _)
    clear a3
    go_wp2
    exact bodyPost_ret (v:=.agg #[.bool false,.slice oa 0 ca]) (by simp [results,Tryz.results163,go_sem]) rfl (retT E1.out E2.out (hR _) ((Old.refl _).alloc _))
   ·have hR:∀ o,Rd (w.alloc o) (.slice oa (k+1) ca) (l.take (k+1)):=fun o=>(Rd.take (k:=k+1) a1 a2 a3 hk).old ((Old.refl _).alloc _)
    obtain ⟨g,rfl,hgl,hcell⟩:=a3 k (by omega)
    obtain ⟨x,hx⟩:∃ x,x=l.getD k 0:=⟨_,rfl⟩
    rw [←hx] at hcell
    have HX:=Lib.hid hx
    clear hx a3
    by_cases hx0:x=0
    ·subst hx0
     have HV':=Lib.hid ((val_drop0 l k hk HX.out.symm).symm.trans HV.out)
     clear hR
     go_wp2
     exact ⟨⟨k,by omega,rfl,HV'⟩,Nat.lt_succ_self k⟩
    ·have hx1:(x==0)=false:=eq0_false hx0
     obtain ⟨e1,e2⟩:=H1.out k hk HV.out (by rw [←HX.out];exact hx0)
     have E1:=Lib.hid e1
     have E2:=Lib.hid e2
     clear e1 e2 HV hx0
     go_wp2
     exact bodyPost_ret (v:=.agg #[.bool _,.slice (some ⟨g,0,none⟩) (k+1) ca]) (by simp [results,Tryz.results163,go_sem]) rfl (retT E1.out E2.out (hR _) ((Old.refl _).alloc _))
theorem trim_at_any (neg:Bool) (l:List Int) (oa:Option Addr) (na ca:Nat) (w:World) (hl:Rd w (.slice oa na ca) l) (dl:Dg l) (ll:l.length≤2000) :
 Calls Tryz.prog 163 #[.bool neg,.slice oa na ca] w (RetT w oa ca (neg&&decide (¬ val l=0)) (dig (val l).toNat)):=by
 refine trim_at neg _ l _ oa na ca w hl dl ll (fun h=>?_) (fun k hk hv hx=>?_)
 ·simp [h,dig_zero]
 ·have e:=trim_dig dl hk hv (Or.inr (by simpa using hx))
  have hc:=can_val (dg_take dl (k+1)) (can_take l k hk hx) (by intro h;have:=congrArg List.length h;rw [List.length_take,Nat.min_eq_left hk] at this;exact absurd this (by simp))
  rw [hv] at hc
  refine ⟨?_,e⟩
  have:¬ val l=0:=by omega
  simp [this]
theorem run_app_none (base:Nat) (W:World) (i:TypeInfo) (hi:Tryz.prog.info? 3=some i) (ty:TypeId) (v:Value) (n:Nat) (xs:List Value) (hown:W.ownsRow base 3 1 v n xs) (c:Nat) :
 (Builtin.append_ #[52,52] ty #[v,.slice none 0 c]).run Tryz.prog W=.ok v W:=by
 rcases hown.2 with ⟨rfl,rfl⟩|⟨g,cap,cur,rfl,_,_,hnc,_⟩
 ·simp [Builtin.append_,run_underlying Tryz.underlying52,sizeOf,typeInfo,hi,Builtin.lenOf,Builtin.firstCells]
 ·simp [Builtin.append_,run_underlying Tryz.underlying52,sizeOf,typeInfo,hi,Builtin.lenOf,Builtin.firstCells,hnc,storeCells]
theorem step_app {ops:Array Oper} {o:Oper} {a:Act} {K:Act→World→Prop} {Q:Exit→Act→World→Prop} {E:Prop} (W:World) (hgd:o.guard=none) (s x:Operand)
 (ho:o.op=.call { callee:=.builtin .append,args:=#[s,x],argTypes:=#[52,52] })
 (base:Nat) (i:TypeInfo) (hi:Tryz.prog.info? 3=some i) (hz:i.zero=some (.int .i64 0)) (hsize:i.size=1) (hby:i.bytes=8)
 (v:Value) (n:Nat) (xs:List Value) (hs:a.eval s=v) (hown:W.ownsRow base 3 1 v n xs)
 (oa:Option Addr) (m c:Nat) (ds:List Int) (hx:a.eval x=.slice oa m c) (hr:Rd W (.slice oa m c) ds) (hlen:n+m≤4000) (hbase:base≤W.heap.size)
 (h:∀ v' w',w'.ownsRow base 3 1 v' (n+m) (xs++ds.map (Value.int .i64))→W.grownBy w' v.ownBlock→K (a.put o.dst v') w') :
 if Region.wanted o (yielded ops a.tmps)=true then Oper.wp Tryz.prog o a W K Q else E:=by
 have hw:Region.wanted o (yielded ops a.tmps)=true:=by simp [Region.wanted,hgd]
 rw [if_pos hw]
 obtain ⟨oa',ca',e',r1,r2,r3⟩:=hr
 simp only [Value.slice.injEq] at e'
 obtain ⟨rfl,rfl,rfl⟩:=e'
 rcases oa with _|ad
 ·have hd:ds=[]:=by
   rcases ds with _|⟨d,r⟩
   ·rfl
   ·obtain ⟨g,h1,_⟩:=r3 0 (by simp)
    cases h1
  subst hd
  unfold Oper.wp execOp
  simp only [ho,resolve,invoke,builtin,Sem.run_bind,Sem.run_pure,Result.andThen_ok,List.map_toArray,List.map_cons,List.map_nil,hs,hx,List.length_nil,run_app_none base W i hi o.type v n xs hown c]
  exact h v W (by simpa using hown) (World.grownBy.refl W _)
 ·refine wp_append_own W s x 52 ho base 3 i (.int .i64 0) 1 8 Tryz.underlying52 hi hz hsize hby rfl (by decide) v n xs hs hown ad ds.length c (ds.map (Value.int .i64)) hx (by simp) ?_ ?_ (by unfold maxLen;omega) (by omega) hbase (fun v' w' h2 h3 _=>h v' w' h2 h3)
  ·intro j u hj
   rw [List.getElem?_map] at hj
   rcases Nat.lt_or_ge j ds.length with hl|hl
   ·rw [List.getElem?_eq_getElem hl] at hj
    obtain ⟨g,h1,_,h3⟩:=r3 j hl
    simp only [Option.some.injEq] at h1
    subst h1
    rw [show (⟨g,0,none⟩:Addr).add j=⟨g,j,none⟩ by rw [Addr.add_lit,Nat.zero_add],h3,List.getD_eq_getElem?_getD,List.getElem?_eq_getElem hl]
    exact hj
   ·rw [List.getElem?_eq_none hl] at hj;cases hj
  ·intro u hu
   obtain ⟨d,_,rfl⟩:=List.mem_map.1 hu
   rfl
structure Qo0 (w:World) (Ba Bb:Nat) (na nb:Bool) (va vb:Value) (wr:World):Prop where
 x:Two wr w.heap.size (.bool na) va
 y:Two wr (w.heap.size+1) (.bool nb) vb
 r1:Two wr (w.heap.size+1+1) (.bool false) (.slice none 0 0)
 r2:Two wr (w.heap.size+1+1+1) (.bool false) (.slice none 0 0)
 a:Two wr Ba (.bool false) va
 b:Two wr Bb (.bool false) vb
 old:Old w wr
theorem Qo0.step {w:World} {Ba Bb:Nat} {na nb:Bool} {va vb:Value} {wr w':World} (h:Qo0 w Ba Bb na nb va vb wr) (ho:Old wr w'):Qo0 w Ba Bb na nb va vb w':=
 ⟨h.x.old ho,h.y.old ho,h.r1.old ho,h.r2.old ho,h.a.old ho,h.b.old ho,h.old.trans ho⟩
theorem Qo0.far {w:World} {Ba Bb:Nat} {na nb:Bool} {va vb:Value} {wr:World} (h:Qo0 w Ba Bb na nb va vb wr) {p:Addr} (hp:w.heap.size+1+1+1<p.block) (ha:Ba≠p.block) (hb:Bb≠p.block) (u:Value):Qo0 w Ba Bb na nb va vb (wr.setCell p u):=
 ⟨h.x.far (by omega) u,h.y.far (by omega) u,h.r1.far (by omega) u,h.r2.far (by omega) u,h.a.far ha u,h.b.far hb u,h.old.setCell (by omega) u⟩
theorem six_blocks (w:World) (u1 v1 u2 v2 u3 v3 u4 v4 u5 v5 u6 v6:Value) :
 Two ((((((w.alloc (.cells #[u1,v1] 131)).alloc (.cells #[u2,v2] 131)).alloc (.cells #[u3,v3] 131)).alloc (.cells #[u4,v4] 131)).alloc (.cells #[u5,v5] 131)).alloc (.cells #[u6,v6] 131)) w.heap.size u1 v1∧
 Two ((((((w.alloc (.cells #[u1,v1] 131)).alloc (.cells #[u2,v2] 131)).alloc (.cells #[u3,v3] 131)).alloc (.cells #[u4,v4] 131)).alloc (.cells #[u5,v5] 131)).alloc (.cells #[u6,v6] 131)) (w.heap.size+1) u2 v2∧
 Two ((((((w.alloc (.cells #[u1,v1] 131)).alloc (.cells #[u2,v2] 131)).alloc (.cells #[u3,v3] 131)).alloc (.cells #[u4,v4] 131)).alloc (.cells #[u5,v5] 131)).alloc (.cells #[u6,v6] 131)) (w.heap.size+1+1) u3 v3∧
 Two ((((((w.alloc (.cells #[u1,v1] 131)).alloc (.cells #[u2,v2] 131)).alloc (.cells #[u3,v3] 131)).alloc (.cells #[u4,v4] 131)).alloc (.cells #[u5,v5] 131)).alloc (.cells #[u6,v6] 131)) (w.heap.size+1+1+1) u4 v4∧
 Two ((((((w.alloc (.cells #[u1,v1] 131)).alloc (.cells #[u2,v2] 131)).alloc (.cells #[u3,v3] 131)).alloc (.cells #[u4,v4] 131)).alloc (.cells #[u5,v5] 131)).alloc (.cells #[u6,v6] 131)) (w.heap.size+1+1+1+1) u5 v5∧
 Two ((((((w.alloc (.cells #[u1,v1] 131)).alloc (.cells #[u2,v2] 131)).alloc (.cells #[u3,v3] 131)).alloc (.cells #[u4,v4] 131)).alloc (.cells #[u5,v5] 131)).alloc (.cells #[u6,v6] 131)) (w.heap.size+1+1+1+1+1) u6 v6∧
 Old w ((((((w.alloc (.cells #[u1,v1] 131)).alloc (.cells #[u2,v2] 131)).alloc (.cells #[u3,v3] 131)).alloc (.cells #[u4,v4] 131)).alloc (.cells #[u5,v5] 131)).alloc (.cells #[u6,v6] 131)):=by
 have s1:(w.alloc (.cells #[u1,v1] 131)).heap.size=w.heap.size+1:=by simp
 have s2:((w.alloc (.cells #[u1,v1] 131)).alloc (.cells #[u2,v2] 131)).heap.size=w.heap.size+1+1:=by simp
 have s3:(((w.alloc (.cells #[u1,v1] 131)).alloc (.cells #[u2,v2] 131)).alloc (.cells #[u3,v3] 131)).heap.size=w.heap.size+1+1+1:=by simp
 have s4:((((w.alloc (.cells #[u1,v1] 131)).alloc (.cells #[u2,v2] 131)).alloc (.cells #[u3,v3] 131)).alloc (.cells #[u4,v4] 131)).heap.size=w.heap.size+1+1+1+1:=by simp
 have s5:(((((w.alloc (.cells #[u1,v1] 131)).alloc (.cells #[u2,v2] 131)).alloc (.cells #[u3,v3] 131)).alloc (.cells #[u4,v4] 131)).alloc (.cells #[u5,v5] 131)).heap.size=w.heap.size+1+1+1+1+1:=by simp
 have t2:=Two.new (w.alloc (.cells #[u1,v1] 131)) u2 v2
 have t3:=Two.new ((w.alloc (.cells #[u1,v1] 131)).alloc (.cells #[u2,v2] 131)) u3 v3
 have t4:=Two.new (((w.alloc (.cells #[u1,v1] 131)).alloc (.cells #[u2,v2] 131)).alloc (.cells #[u3,v3] 131)) u4 v4
 have t5:=Two.new ((((w.alloc (.cells #[u1,v1] 131)).alloc (.cells #[u2,v2] 131)).alloc (.cells #[u3,v3] 131)).alloc (.cells #[u4,v4] 131)) u5 v5
 have t6:=Two.new (((((w.alloc (.cells #[u1,v1] 131)).alloc (.cells #[u2,v2] 131)).alloc (.cells #[u3,v3] 131)).alloc (.cells #[u4,v4] 131)).alloc (.cells #[u5,v5] 131)) u6 v6
 rw [s1] at t2
 rw [s2] at t3
 rw [s3] at t4
 rw [s4] at t5
 rw [s5] at t6
 exact ⟨(((((Two.new w u1 v1).alloc _).alloc _).alloc _).alloc _).alloc _,(((t2.alloc _).alloc _).alloc _).alloc _,((t3.alloc _).alloc _).alloc _,(t4.alloc _).alloc _,t5.alloc _,t6,((((((Old.refl w).alloc _).alloc _).alloc _).alloc _).alloc _).alloc _⟩
theorem owns_old {w w':World} {base:Nat} {v:Value} {n:Nat} {xs:List Value} (h:w.ownsRow base 3 1 v n xs) (ho:Old w w'):w'.ownsRow base 3 1 v n xs:=by
 refine ⟨h.1,?_⟩
 rcases h.2 with h2|⟨g,cap,cur,hv,hg,hh,r⟩
 ·exact Or.inl h2
 ·refine Or.inr ⟨g,cap,cur,hv,hg,?_,r⟩
  rcases Nat.lt_or_ge g w.heap.size with h1|h1
  ·exact (ho.block g h1).trans hh
  ·rw [Array.getElem?_eq_none h1] at hh;cases hh
def Off (o:Option Addr) (b:Nat):Prop:=∀ g,o=some ⟨g,0,none⟩→g≠b
theorem Rd.far {w:World} {o:Option Addr} {k c:Nat} {ds:List Int} (h:Rd w (.slice o k c) ds) {p:Addr} (hp:Off o p.block) (u:Value):Rd (w.setCell p u) (.slice o k c) ds:=by
 obtain ⟨oa,cap,e,h1,h2,h3⟩:=h
 simp only [Value.slice.injEq] at e
 obtain ⟨rfl,rfl,rfl⟩:=e
 refine ⟨o,c,rfl,h1,h2,fun j hj=>?_⟩
 obtain ⟨g,rfl,hg,hc⟩:=h3 j hj
 refine ⟨g,rfl,by simp [World.setCell];exact hg,?_⟩
 rw [World.cell?_setCell_other _ _ _ _ (by intro e;exact hp g rfl (congrArg Addr.block e).symm)]
 exact hc
structure QoW (w:World) (Ba Bb Bq Br:Nat) (na nb:Bool) (va vb:Value) (n:Nat) (ql:List Int) (R:Nat) (wr:World):Prop where
 m:Qo0 w Ba Bb na nb va vb wr
 q:wr.ownsRow w.heap.size 3 1 (.slice (some ⟨Bq,0,none⟩) n n) n (ql.map (Value.int .i64))
 r:∃ o c,Two wr Br (.bool false) (.slice o (dig R).length c)∧Rd wr (.slice o (dig R).length c) (dig R)
structure Lies (w:World) (Ba Bb Bq Br:Nat):Prop where
 q0:w.heap.size+1+1+1<Bq
 qa:Ba≠Bq
 qb:Bb≠Bq
 r0:w.heap.size+1+1+1<Br
 ra:Ba≠Br
 rb:Bb≠Br
 qr:Bq≠Br
theorem QoW.step {w:World} {Ba Bb Bq Br:Nat} {na nb:Bool} {va vb:Value} {n:Nat} {ql:List Int} {R:Nat} {wr w':World} (h:QoW w Ba Bb Bq Br na nb va vb n ql R wr) (ho:Old wr w'):QoW w Ba Bb Bq Br na nb va vb n ql R w':=by
 obtain ⟨o,c,h1,h2⟩:=h.r
 exact ⟨h.m.step ho,owns_old h.q ho,o,c,h1.old ho,h2.old ho⟩
theorem QoW.setR {w:World} {Ba Bb Bq Br:Nat} {na nb:Bool} {va vb:Value} {n:Nat} {ql:List Int} {R R':Nat} {wr:World} {o:Option Addr} {c:Nat} (L:Lies w Ba Bb Bq Br) (h:QoW w Ba Bb Bq Br na nb va vb n ql R wr) (hr:Rd wr (.slice o (dig R').length c) (dig R')) :
 QoW w Ba Bb Bq Br na nb va vb n ql R' ((wr.setCell ⟨Br,0,none⟩ (.bool false)).setCell ⟨Br,1,none⟩ (.slice o (dig R').length c)):=by
 obtain ⟨o',c',h1,h2⟩:=h.r
 refine ⟨(h.m.far (p:=⟨Br,0,none⟩) L.r0 L.ra L.rb _).far (p:=⟨Br,1,none⟩) L.r0 L.ra L.rb _,?_,o,c,h1.set _ _,h1.rd2 hr _ _⟩
 refine ownsRow_setCell_other (ownsRow_setCell_other h.q ?_ _) ?_ _
 ·show some Bq≠some Br
  intro e;exact L.qr (Option.some.inj e)
 ·show some Bq≠some Br
  intro e;exact L.qr (Option.some.inj e)
theorem QoW.setQ {w:World} {Ba Bb Bq Br:Nat} {na nb:Bool} {va vb:Value} {n:Nat} {ql:List Int} {R:Nat} {wr:World} {o:Option Addr} {c:Nat} (L:Lies w Ba Bb Bq Br) (h:QoW w Ba Bb Bq Br na nb va vb n ql R wr) (h1:Two wr Br (.bool false) (.slice o (dig R).length c)) (h2:Rd wr (.slice o (dig R).length c) (dig R)) (hoff:Off o Bq) (k:Nat) (d:Int) :
 QoW w Ba Bb Bq Br na nb va vb n (ql.set k d) R (wr.setCell ⟨Bq,k,none⟩ (.int .i64 d)):=by
 refine ⟨h.m.far (p:=⟨Bq,k,none⟩) L.q0 L.qa L.qb _,?_,o,c,h1.far (by show Br≠Bq;exact fun e=>L.qr e.symm) _,h2.far (p:=⟨Bq,k,none⟩) hoff _⟩
 rw [List.map_set]
 exact (h.q.stored k _).1
def wv (l:List Int) (k:Nat):Nat:=(val (l.drop k)).toNat
theorem wv_int {l:List Int} (hl:Dg l) (k:Nat):(wv l k:Int)=val (l.drop k):=by
 have:=(val_drop_le hl k).1
 unfold wv;omega
theorem wv_next {l:List Int} (hl:Dg l) (k:Nat) (hk:k<l.length):(wv l k:Int)=l.getD k 0+10000*wv l (k+1):=by
 rw [wv_int hl,wv_int hl];exact val_drop_succ l k hk
theorem div_digit (d V b:Nat) (hb:0<b) (hd:d<10000):(d+10000*V)/b=(d+10000*(V%b))/b+10000*(V/b)∧(d+10000*V)%b=(d+10000*(V%b))%b∧(d+10000*(V%b))/b<10000:=by
 have e:V=V%b+b*(V/b):=(Nat.mod_add_div V b).symm
 have hm:=Nat.mod_lt V hb
 generalize V/b=q at *
 generalize V%b=r at *
 subst e
 have e2:d+10000*(r+b*q)=(d+10000*r)+b*(10000*q):=by rw [Nat.mul_add,Nat.mul_left_comm];omega
 rw [e2,Nat.add_mul_div_left _ _ hb,Nat.add_mul_mod_self_left]
 refine ⟨rfl,rfl,?_⟩
 rw [Nat.div_lt_iff_lt_mul hb]
 have:10000*r+10000≤10000*b:=by omega
 omega
theorem drop_set (l:List Int) (k:Nat) (d:Int) (hk:k<l.length):(l.set k d).drop k=d::l.drop (k+1):=by
 rw [List.drop_eq_getElem_cons (by simpa using hk),List.getElem_set_self]
 congr 1
 rw [List.drop_set_of_lt (by omega)]
theorem dg_set {l:List Int} (h:Dg l) (k:Nat) {d:Int} (h0:0≤d) (h1:d<10000):Dg (l.set k d):=by
 intro x hx
 rcases List.mem_or_eq_of_mem_set hx with hx|rfl
 ·exact h x hx
 ·exact ⟨h0,h1⟩
def QI (al:List Int) (b:Nat) (k:Nat) (ql:List Int):Prop:=ql.length=al.length∧Dg ql∧val (ql.drop k)=((wv al k/b:Nat):Int)
theorem QI.next {al:List Int} {b k:Nat} {ql:List Int} (ha:Dg al) (hb:0<b) (hk:k<al.length) (h:QI al b (k+1) ql) {T:Int} (hT:T=(((al.getD k 0).toNat+10000*(wv al (k+1)%b))/b:Nat)):QI al b k (ql.set k T):=by
 obtain ⟨h1,h2,h3⟩:=h
 have hg:=dg_getD ha k
 have hd:=div_digit (al.getD k 0).toNat (wv al (k+1)) b hb (by omega)
 have hw:=wv_next ha k hk
 have e:wv al k=(al.getD k 0).toNat+10000*wv al (k+1):=by omega
 refine ⟨by rw [List.length_set];exact h1,dg_set h2 k (by rw [hT];exact Int.natCast_nonneg _) (by rw [hT];exact Int.ofNat_lt.2 hd.2.2),?_⟩
 rw [drop_set ql k T (by omega)]
 show T+10000*val (ql.drop (k+1))=_
 rw [h3,e,hd.1,hT,Int.natCast_add,Int.natCast_mul]
 rfl
theorem QI.rest {al:List Int} {b k:Nat} (ha:Dg al) (hb:0<b) (hk:k<al.length):wv al k%b=((al.getD k 0).toNat+10000*(wv al (k+1)%b))%b:=by
 have hg:=dg_getD ha k
 have hd:=div_digit (al.getD k 0).toNat (wv al (k+1)) b hb (by omega)
 have hw:=wv_next ha k hk
 have e:wv al k=(al.getD k 0).toNat+10000*wv al (k+1):=by omega
 rw [e,hd.2.1]
theorem QI.zero {al:List Int} {b:Nat} {n:Nat} (hn:n=al.length):QI al b n (List.replicate n 0):=by
 refine ⟨by simp [hn],fun d hd=>by rw [(List.mem_replicate.1 hd).2];omega,?_⟩
 unfold wv
 rw [List.drop_eq_nil_of_le (by simp),List.drop_eq_nil_of_le (by omega)]
 simp [val]
end Go.Proofs.YtmkmafkkpigfpaaGreatDoor
