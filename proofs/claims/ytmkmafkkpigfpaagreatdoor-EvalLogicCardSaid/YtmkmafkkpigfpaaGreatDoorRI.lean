/- The document's own numbers: sums, differences, order. sums, differences and their order, of whole numbers. back into an int64. -/
import Derived.Test.YtmkmafkkpigfpaaGreatDoorRF
set_option maxHeartbeats 1600000
namespace Go.Proofs.YtmkmafkkpigfpaaGreatDoor
open Go.ChangeShapes Go.WideShapes Go.ChangeAt Go.RowKit
set_option linter.unusedVariables false
def RN (w:World) (x:Value) (n:Int):Prop:=∃ v,x=.agg #[.bool (decide (n<0)),v]∧Rd w v (dig n.natAbs)
theorem RN.old {w w':World} {x:Value} {n:Int} (h:RN w x n) (ho:Old w w'):RN w' x n:=by
 obtain ⟨v,rfl,hr⟩:=h;exact ⟨v,rfl,hr.old ho⟩
def RetI (w:World) (n:Int) (e:Ending) (w':World):Prop:=∃ x,e=.returned x∧RN w' x n∧Old w w'
theorem retI_of {w w':World} {e:Ending} {n:Int} {neg:Bool} {ds:List Int} (h:RetN w neg ds e w') (hn:neg=decide (n<0)) (hd:ds=dig n.natAbs):RetI w n e w':=by
 obtain ⟨v,rfl,hr,ho⟩:=h
 subst hn hd
 exact ⟨_,rfl,⟨v,rfl,hr⟩,ho⟩
theorem ofI (n:Int) (w:World) (h:I64 n):Calls Tryz.prog 100 #[.int .i64 n] w (RetI w n):=(of_any n w h).mono fun _ _ h=>retI_of h rfl rfl
def Sm (k:Nat) (n:Int):Prop:=(dig n.natAbs).length≤k
structure Six (w:World) (B:Nat) (u0 v0 u1 v1:Value):Prop where
 t0:Two w B u0 v0
 t1:Two w (B+1) u1 v1
 t2:Two w (B+1+1) (.bool false) (.slice none 0 0)
theorem Six.old {w w':World} {B:Nat} {u0 v0 u1 v1:Value} (h:Six w B u0 v0 u1 v1) (ho:Old w w'):Six w' B u0 v0 u1 v1:=⟨h.t0.old ho,h.t1.old ho,h.t2.old ho⟩
theorem Six.new (w:World) (u0 v0 u1 v1:Value):Six (((w.alloc (.cells #[u0,v0] 131)).alloc (.cells #[u1,v1] 131)).alloc (.cells #[.bool false,.slice none 0 0] 131)) w.heap.size u0 v0 u1 v1:=by
 refine ⟨((Two.new _ _ _).alloc _).alloc _,?_,?_⟩
 ·have:=(Two.new (w.alloc (.cells #[u0,v0] 131)) u1 v1).alloc (.cells #[.bool false,.slice none 0 0] 131)
  simpa using this
 ·have:=Two.new ((w.alloc (.cells #[u0,v0] 131)).alloc (.cells #[u1,v1] 131)) (.bool false) (.slice none 0 0)
  simpa using this
theorem cell_far {w2:World} {B b o:Nat} {x:Value} (h:w2.cell? ⟨b,o,none⟩=some x) (hne:¬ b=B) (u v:Value):((w2.setCell ⟨B,0,none⟩ u).setCell ⟨B,1,none⟩ v).cell? ⟨b,o,none⟩=some x:=by
 rw [World.cell?_setCell_other _ _ _ _ (by intro e;exact hne (congrArg Addr.block e).symm),World.cell?_setCell_other _ _ _ _ (by intro e;exact hne (congrArg Addr.block e).symm)]
 exact h
theorem ret_six {W w2:World} {B:Nat} {u0 v0 u1 v1:Value} (h:Six w2 B u0 v0 u1 v1) (hb:W.heap.size≤B+1+1) (ho:Old W w2) {neg:Bool} {v:Value} {ds:List Int} (hr:Rd w2 v ds) :
 RetN W neg ds (.returned (.agg #[.bool neg,v])) ((w2.setCell ⟨B+1+1,0,none⟩ (.bool neg)).setCell ⟨B+1+1,1,none⟩ v):=ret_two h.t2 hb ho hr
set_option maxRecDepth 100000 in
theorem add_same (na:Bool) (va vb:Value) (w:World) (da db l ds:List Int) (sg:Bool) (ha:Rd w va da) (hb:Rd w vb db)
 (hup:∀ W,Rd W va da→Rd W vb db→Calls Tryz.prog 164 #[va,vb] W (RetD W l)) (htr:∀ v W,Rd W v l→Calls Tryz.prog 163 #[.bool na,v] W (RetN W sg ds)) :
 Calls Tryz.prog 136 #[.agg #[.bool na,va],.agg #[.bool na,vb]] w (RetN w sg ds):=by
 obtain ⟨oa,ca,rfl,_⟩:=id ha
 obtain ⟨ob,cb,rfl,_⟩:=id hb
 obtain ⟨n,hn⟩:∃ n,n=da.length:=⟨_,rfl⟩
 obtain ⟨m,hm⟩:∃ m,m=db.length:=⟨_,rfl⟩
 rw [←hn] at ha hup ⊢
 rw [←hm] at hb hup ⊢
 clear hn hm
 have hS:=Six.new w (.bool na) (.slice oa n ca) (.bool na) (.slice ob m cb)
 have HO:=Lib.hid ((((Old.refl w).alloc (.cells #[.bool na,.slice oa n ca] 131)).alloc (.cells #[.bool na,.slice ob m cb] 131)).alloc (.cells #[.bool false,.slice none 0 0] 131))
 have hse:(na==na)=true:=by simp
 go_enter Tryz.func136,Tryz.ntmps136
 go_wp2_with fail
 generalize hW:((w.alloc (.cells #[.bool na,.slice oa n ca] 131)).alloc (.cells #[.bool na,.slice ob m cb] 131)).alloc (.cells #[.bool false,.slice none 0 0] 131)=W at *
 clear hW
 have ra:=Lib.hid (ha.old HO.out)
 have rb:=Lib.hid (hb.old HO.out)
 have c0:=hS.t0.c0
 have c1:=hS.t0.c1
 have c2:=hS.t1.c1
 have S1:=Lib.hid hS
 clear hS
 go_region_held3 (fun w'=>w'.cell? ⟨w.heap.size,0,none⟩=some (.bool na)∧w'.cell? ⟨w.heap.size,1,none⟩=some (.slice oa n ca)∧w'.cell? ⟨w.heap.size+1,1,none⟩=some (.slice ob m cb))
  (first|exact ⟨c0,c1,c2⟩|exact ⟨d0,d1,d2⟩|exact ⟨e0,e1,e2⟩|exact ⟨cell_far e0 (by omega) _ _,cell_far e1 (by omega) _ _,cell_far e2 (by omega) _ _⟩|go_keep)
  (first
    | (go_at_call 164;refine (hup _ ?_ ?_).mono ?_;exact ra.out.old (Old.refl _).drew;exact rb.out.old (Old.refl _).drew;rintro e w1 ⟨v1,rfl,hr1,ho1⟩;have S2:=Lib.hid (S1.out.old ((Old.refl _).drew.trans ho1));have d0:=S2.out.t0.c0;have d1:=S2.out.t0.c1;have d2:=S2.out.t1.c1)
    | (go_at_call 163;refine (htr _ _ hr1).mono ?_;rintro e w2 ⟨v2,rfl,hr2,ho2⟩;obtain ⟨o2,c2',rfl,_⟩:=id hr2;have S3:=Lib.hid (S2.out.old ho2);have O3:=Lib.hid (HO.out.drew.trans (ho1.trans ho2));have R3:=Lib.hid hr2;have e0:=S3.out.t0.c0;have e1:=S3.out.t0.c1;have e2:=S3.out.t1.c1;have e3:=S3.out.t2.c0;have e4:=S3.out.t2.c1;have e5:=S3.out.t2.f 0;have e6:=S3.out.t2.f 1;clear hr1 hr2 ho1 ho2 d0 d1 d2))
 all_goals go_wp2
 all_goals (have ht:=S3.out.t2.set (.bool sg) (.slice o2 ds.length c2');exact bodyPost_ret (v:=.agg #[.bool sg,.slice o2 ds.length c2']) (by simp [results,Tryz.results136,go_sem,ht.c0,ht.c1]) rfl (ret_six S3.out (by omega) O3.out R3.out))
set_option maxRecDepth 100000 in
theorem add_ge (na nb:Bool) (va vb:Value) (w:World) (da db l ds:List Int) (sg:Bool) (ha:Rd w va da) (hb:Rd w vb db) (hne:(na==nb)=false) (x y:Int) (hby:∀ W,Rd W va da→Rd W vb db→Calls Tryz.prog 165 #[va,vb] W (RetC W x y)) (hxy:y≤x)
 (hup:∀ W,Rd W va da→Rd W vb db→Calls Tryz.prog 166 #[va,vb] W (RetD W l)) (htr:∀ v W,Rd W v l→Calls Tryz.prog 163 #[.bool na,v] W (RetN W sg ds)) :
 Calls Tryz.prog 136 #[.agg #[.bool na,va],.agg #[.bool nb,vb]] w (RetN w sg ds):=by
 obtain ⟨oa,ca,rfl,_⟩:=id ha
 obtain ⟨ob,cb,rfl,_⟩:=id hb
 obtain ⟨n,hn⟩:∃ n,n=da.length:=⟨_,rfl⟩
 obtain ⟨m,hm⟩:∃ m,m=db.length:=⟨_,rfl⟩
 rw [←hn] at ha hup hby ⊢
 rw [←hm] at hb hup hby ⊢
 clear hn hm
 have hS:=Six.new w (.bool na) (.slice oa n ca) (.bool nb) (.slice ob m cb)
 have HO:=Lib.hid ((((Old.refl w).alloc (.cells #[.bool na,.slice oa n ca] 131)).alloc (.cells #[.bool nb,.slice ob m cb] 131)).alloc (.cells #[.bool false,.slice none 0 0] 131))
 skip
 go_enter Tryz.func136,Tryz.ntmps136
 go_wp2_with fail
 generalize hW:((w.alloc (.cells #[.bool na,.slice oa n ca] 131)).alloc (.cells #[.bool nb,.slice ob m cb] 131)).alloc (.cells #[.bool false,.slice none 0 0] 131)=W at *
 clear hW
 refine (hby _ (ha.old HO.out) (hb.old HO.out)).mono ?_
 rintro e w0 ⟨r,rfl,hr1,hr2,ho0⟩
 have hS:=hS.old ho0
 have HO:=Lib.hid (HO.out.trans ho0)
 have hr0:0≤r:=by by_cases h:r<0;exact absurd (hr1.1 h) (by omega);omega
 clear hr1 hr2 ho0 hxy
 go_wp2_with fail
 clear hr0
 obtain ⟨W,rfl⟩:∃ W,W=w0:=⟨_,rfl⟩
 have ra:=Lib.hid (ha.old HO.out)
 have rb:=Lib.hid (hb.old HO.out)
 have c0:=hS.t0.c0
 have c1:=hS.t0.c1
 have c2:=hS.t1.c1
 have S1:=Lib.hid hS
 clear hS
 go_region_held3 (fun w'=>w'.cell? ⟨w.heap.size,0,none⟩=some (.bool na)∧w'.cell? ⟨w.heap.size,1,none⟩=some (.slice oa n ca)∧w'.cell? ⟨w.heap.size+1,1,none⟩=some (.slice ob m cb))
  (first|exact ⟨c0,c1,c2⟩|exact ⟨d0,d1,d2⟩|exact ⟨e0,e1,e2⟩|exact ⟨cell_far e0 (by omega) _ _,cell_far e1 (by omega) _ _,cell_far e2 (by omega) _ _⟩|go_keep)
  (first
    | (go_at_call 166;refine (hup _ ?_ ?_).mono ?_;exact ra.out.old (Old.refl _).drew;exact rb.out.old (Old.refl _).drew;rintro e w1 ⟨v1,rfl,hr1,ho1⟩;have S2:=Lib.hid (S1.out.old ((Old.refl _).drew.trans ho1));have d0:=S2.out.t0.c0;have d1:=S2.out.t0.c1;have d2:=S2.out.t1.c1)
    | (go_at_call 163;refine (htr _ _ hr1).mono ?_;rintro e w2 ⟨v2,rfl,hr2,ho2⟩;obtain ⟨o2,c2',rfl,_⟩:=id hr2;have S3:=Lib.hid (S2.out.old ho2);have O3:=Lib.hid (HO.out.drew.trans (ho1.trans ho2));have R3:=Lib.hid hr2;have e0:=S3.out.t0.c0;have e1:=S3.out.t0.c1;have e2:=S3.out.t1.c1;have e3:=S3.out.t2.c0;have e4:=S3.out.t2.c1;have e5:=S3.out.t2.f 0;have e6:=S3.out.t2.f 1;clear hr1 hr2 ho1 ho2 d0 d1 d2))
 all_goals go_wp2
 all_goals (have ht:=S3.out.t2.set (.bool sg) (.slice o2 ds.length c2');exact bodyPost_ret (v:=.agg #[.bool sg,.slice o2 ds.length c2']) (by simp [results,Tryz.results136,go_sem,ht.c0,ht.c1]) rfl (ret_six S3.out (by omega) O3.out R3.out))
set_option maxRecDepth 100000 in
theorem add_lt (na nb:Bool) (va vb:Value) (w:World) (da db l ds:List Int) (sg:Bool) (ha:Rd w va da) (hb:Rd w vb db) (hne:(na==nb)=false) (x y:Int) (hby:∀ W,Rd W va da→Rd W vb db→Calls Tryz.prog 165 #[va,vb] W (RetC W x y)) (hxy:x<y)
 (hup:∀ W,Rd W va da→Rd W vb db→Calls Tryz.prog 166 #[vb,va] W (RetD W l)) (htr:∀ v W,Rd W v l→Calls Tryz.prog 163 #[.bool nb,v] W (RetN W sg ds)) :
 Calls Tryz.prog 136 #[.agg #[.bool na,va],.agg #[.bool nb,vb]] w (RetN w sg ds):=by
 obtain ⟨oa,ca,rfl,_⟩:=id ha
 obtain ⟨ob,cb,rfl,_⟩:=id hb
 obtain ⟨n,hn⟩:∃ n,n=da.length:=⟨_,rfl⟩
 obtain ⟨m,hm⟩:∃ m,m=db.length:=⟨_,rfl⟩
 rw [←hn] at ha hup hby ⊢
 rw [←hm] at hb hup hby ⊢
 clear hn hm
 have hS:=Six.new w (.bool na) (.slice oa n ca) (.bool nb) (.slice ob m cb)
 have HO:=Lib.hid ((((Old.refl w).alloc (.cells #[.bool na,.slice oa n ca] 131)).alloc (.cells #[.bool nb,.slice ob m cb] 131)).alloc (.cells #[.bool false,.slice none 0 0] 131))
 skip
 go_enter Tryz.func136,Tryz.ntmps136
 go_wp2_with fail
 generalize hW:((w.alloc (.cells #[.bool na,.slice oa n ca] 131)).alloc (.cells #[.bool nb,.slice ob m cb] 131)).alloc (.cells #[.bool false,.slice none 0 0] 131)=W at *
 clear hW
 refine (hby _ (ha.old HO.out) (hb.old HO.out)).mono ?_
 rintro e w0 ⟨r,rfl,hr1,hr2,ho0⟩
 have hS:=hS.old ho0
 have HO:=Lib.hid (HO.out.trans ho0)
 have hr0:r<0:=hr1.2 hxy
 clear hr1 hr2 ho0 hxy
 go_wp2_with fail
 clear hr0
 obtain ⟨W,rfl⟩:∃ W,W=w0:=⟨_,rfl⟩
 have ra:=Lib.hid (ha.old HO.out)
 have rb:=Lib.hid (hb.old HO.out)
 have c0:=hS.t1.c0
 have c1:=hS.t1.c1
 have c2:=hS.t0.c1
 have S1:=Lib.hid hS
 clear hS
 go_region_held3 (fun w'=>w'.cell? ⟨w.heap.size+1,0,none⟩=some (.bool nb)∧w'.cell? ⟨w.heap.size+1,1,none⟩=some (.slice ob m cb)∧w'.cell? ⟨w.heap.size,1,none⟩=some (.slice oa n ca))
  (first|exact ⟨c0,c1,c2⟩|exact ⟨d0,d1,d2⟩|exact ⟨e0,e1,e2⟩|exact ⟨cell_far e0 (by omega) _ _,cell_far e1 (by omega) _ _,cell_far e2 (by omega) _ _⟩|go_keep)
  (first
    | (go_at_call 166;refine (hup _ ?_ ?_).mono ?_;exact ra.out.old (Old.refl _).drew;exact rb.out.old (Old.refl _).drew;rintro e w1 ⟨v1,rfl,hr1,ho1⟩;have S2:=Lib.hid (S1.out.old ((Old.refl _).drew.trans ho1));have d0:=S2.out.t1.c0;have d1:=S2.out.t1.c1;have d2:=S2.out.t0.c1)
    | (go_at_call 163;refine (htr _ _ hr1).mono ?_;rintro e w2 ⟨v2,rfl,hr2,ho2⟩;obtain ⟨o2,c2',rfl,_⟩:=id hr2;have S3:=Lib.hid (S2.out.old ho2);have O3:=Lib.hid (HO.out.drew.trans (ho1.trans ho2));have R3:=Lib.hid hr2;have e0:=S3.out.t1.c0;have e1:=S3.out.t1.c1;have e2:=S3.out.t0.c1;have e3:=S3.out.t2.c0;have e4:=S3.out.t2.c1;have e5:=S3.out.t2.f 0;have e6:=S3.out.t2.f 1;clear hr1 hr2 ho1 ho2 d0 d1 d2))
 all_goals go_wp2
 all_goals (have ht:=S3.out.t2.set (.bool sg) (.slice o2 ds.length c2');exact bodyPost_ret (v:=.agg #[.bool sg,.slice o2 ds.length c2']) (by simp [results,Tryz.results136,go_sem,ht.c0,ht.c1]) rfl (ret_six S3.out (by omega) O3.out R3.out))
theorem val_up (a b:Nat):val (upL (dig a) (dig b))=(a:Int)+b:=by rw [upL_val (dig_dg a) (dig_dg b),dig_val,dig_val]
theorem dig_mono {a b:Nat} (h:a≤b):(dig a).length≤(dig b).length:=by
 rcases Nat.lt_or_ge (dig b).length (dig a).length with h1|h1
 ·have:=len_lt (dig_dg b) (dig_dg a) (dig_can a) h1
  rw [dig_val,dig_val] at this
  omega
 ·exact h1
theorem val_dn (a b:Nat) (h:b≤a):val (dnL (dig a) (dig b))=(a:Int)-b:=by rw [dnL_val (dig_dg a) (dig_dg b) (dig_mono h) (by rw [dig_val,dig_val];omega),dig_val,dig_val]
theorem addI (a b:Int) (x y:Value) (w:World) (hx:RN w x a) (hy:RN w y b) (sa:Sm 900 a) (sb:Sm 900 b):Calls Tryz.prog 136 #[x,y] w (RetI w (a+b)):=by
 obtain ⟨va,rfl,ra⟩:=hx
 obtain ⟨vb,rfl,rb⟩:=hy
 unfold Sm at sa sb
 have hl:=upL_len (dig a.natAbs) (dig b.natAbs)
 have hv:=val_up a.natAbs b.natAbs
 by_cases hs:decide (a<0)=decide (b<0)
 ·have hs':(a<0↔b<0):=by simpa using hs
  rw [←hs]
  have h:=add_same (decide (a<0)) va vb w (dig a.natAbs) (dig b.natAbs) (upL (dig a.natAbs) (dig b.natAbs)) _ _ ra rb
   (fun W h1 h2=>up_any _ _ va vb W h1 h2 (dig_dg _) (dig_dg _) (by omega) (by omega))
   (fun v W h=>trim_any _ _ v W h (upL_dg (dig_dg _) (dig_dg _)) (by omega))
  refine h.mono fun _ _ h=>retI_of h ?_ ?_
  ·rw [hv,Bool.eq_iff_iff,Bool.and_eq_true,decide_eq_true_iff,decide_eq_true_iff,decide_eq_true_iff];omega
  ·rw [hv]
   congr 1
   omega
 ·have hne:(decide (a<0)==decide (b<0))=false:=by simpa using hs
  have hs':¬ (a<0↔b<0):=by simpa using hs
  clear hs
  have hby:=fun W h1 h2=>by_any (dig a.natAbs) (dig b.natAbs) va vb W h1 h2 (dig_dg _) (dig_dg _) (dig_can _) (dig_can _) (by omega) (by omega)
  by_cases hc:b.natAbs≤a.natAbs
  ·have hv:=val_dn a.natAbs b.natAbs hc
   have h:=add_ge (decide (a<0)) (decide (b<0)) va vb w (dig a.natAbs) (dig b.natAbs) (dnL (dig a.natAbs) (dig b.natAbs)) _ _ ra rb hne _ _ hby (by rw [dig_val,dig_val];omega)
    (fun W h1 h2=>down_any _ _ va vb W h1 h2 (dig_dg _) (dig_dg _) (by omega) (by omega))
    (fun v W h=>trim_any _ _ v W h (dnL_dg (dig_dg _) (dig_dg _)) (by rw [dnL_len];omega))
   refine h.mono fun _ _ h=>retI_of h ?_ ?_
   ·rw [hv,Bool.eq_iff_iff,Bool.and_eq_true,decide_eq_true_iff,decide_eq_true_iff,decide_eq_true_iff];omega
   ·rw [hv]
    congr 1
    omega
  ·have hv:=val_dn b.natAbs a.natAbs (by omega)
   have h:=add_lt (decide (a<0)) (decide (b<0)) va vb w (dig a.natAbs) (dig b.natAbs) (dnL (dig b.natAbs) (dig a.natAbs)) _ _ ra rb hne _ _ hby (by rw [dig_val,dig_val];omega)
    (fun W h1 h2=>down_any _ _ vb va W h2 h1 (dig_dg _) (dig_dg _) (by omega) (by omega))
    (fun v W h=>trim_any _ _ v W h (dnL_dg (dig_dg _) (dig_dg _)) (by rw [dnL_len];omega))
   refine h.mono fun _ _ h=>retI_of h ?_ ?_
   ·rw [hv,Bool.eq_iff_iff,Bool.and_eq_true,decide_eq_true_iff,decide_eq_true_iff,decide_eq_true_iff];omega
   ·rw [hv]
    congr 1
    omega
set_option maxRecDepth 100000 in
theorem neg_walk (na:Bool) (va:Value) (w:World) (da ds:List Int) (sg:Bool) (ha:Rd w va da)
 (htr:∀ W,Rd W va da→Calls Tryz.prog 163 #[.bool (!na),va] W (RetN W sg ds)) :
 Calls Tryz.prog 138 #[.agg #[.bool na,va]] w (RetN w sg ds):=by
 obtain ⟨oa,ca,rfl,_⟩:=id ha
 obtain ⟨n,hn⟩:∃ n,n=da.length:=⟨_,rfl⟩
 rw [←hn] at ha htr ⊢
 clear hn
 have h1:=(Two.new w (.bool na) (.slice oa n ca)).alloc (.cells #[.bool false,.slice none 0 0] 131)
 have h2:=Two.new (w.alloc (.cells #[.bool na,.slice oa n ca] 131)) (.bool false) (.slice none 0 0)
 rw [show (w.alloc (.cells #[.bool na,.slice oa n ca] 131)).heap.size=w.heap.size+1 by simp] at h2
 have HO:=Lib.hid (((Old.refl w).alloc (.cells #[.bool na,.slice oa n ca] 131)).alloc (.cells #[.bool false,.slice none 0 0] 131))
 go_enter Tryz.func138,Tryz.ntmps138
 go_wp2_with fail
 generalize hW:(w.alloc (.cells #[.bool na,.slice oa n ca] 131)).alloc (.cells #[.bool false,.slice none 0 0] 131)=W at *
 clear hW
 refine (htr _ (ha.old HO.out)).mono ?_
 rintro e w2 ⟨v2,rfl,hr2,ho2⟩
 obtain ⟨o2,c2',rfl,_⟩:=id hr2
 have S3:=Lib.hid (h2.old ho2)
 have O3:=Lib.hid (HO.out.trans ho2)
 have R3:=Lib.hid hr2
 have e3:=S3.out.c0
 have e4:=S3.out.c1
 have e5:=S3.out.f 0
 have e6:=S3.out.f 1
 clear hr2 ho2 h1 h2
 go_wp2
 have ht:=Two.set S3.out (.bool sg) (.slice o2 ds.length c2')
 exact bodyPost_ret (v:=.agg #[.bool sg,.slice o2 ds.length c2']) (by simp [results,Tryz.results138,go_sem,ht.c0,ht.c1]) rfl (ret_two S3.out (by omega) O3.out R3.out)
theorem negI (a:Int) (x:Value) (w:World) (hx:RN w x a) (sa:Sm 900 a):Calls Tryz.prog 138 #[x] w (RetI w (-a)):=by
 obtain ⟨va,rfl,ra⟩:=hx
 unfold Sm at sa
 have h:=neg_walk (decide (a<0)) va w (dig a.natAbs) _ _ ra (fun W h=>trim_any _ _ va W h (dig_dg _) (by omega))
 refine h.mono fun _ _ h=>retI_of h ?_ ?_
 ·rw [dig_val,Bool.eq_iff_iff,Bool.and_eq_true,Bool.not_eq_true',decide_eq_false_iff_not,decide_eq_true_iff,decide_eq_true_iff];omega
 ·rw [dig_val]
  congr 1
  omega
set_option maxRecDepth 100000 in
theorem sub_walk (na nb:Bool) (oa ob:Option Addr) (la ca lb cb:Nat) (w:World) (a b c n:Int) (hx:RN w (.agg #[.bool na,.slice oa la ca]) a) (hy:RN w (.agg #[.bool nb,.slice ob lb cb]) b)
 (hng:∀ W,RN W (.agg #[.bool nb,.slice ob lb cb]) b→Calls Tryz.prog 138 #[.agg #[.bool nb,.slice ob lb cb]] W (RetI W c))
 (had:∀ W z,RN W (.agg #[.bool na,.slice oa la ca]) a→RN W z c→Calls Tryz.prog 136 #[.agg #[.bool na,.slice oa la ca],z] W (RetI W n)) :
 Calls Tryz.prog 167 #[.agg #[.bool na,.slice oa la ca],.agg #[.bool nb,.slice ob lb cb]] w (RetI w n):=by
 have hS:=Six.new w (.bool na) (.slice oa la ca) (.bool nb) (.slice ob lb cb)
 have HO:=Lib.hid ((((Old.refl w).alloc (.cells #[.bool na,.slice oa la ca] 131)).alloc (.cells #[.bool nb,.slice ob lb cb] 131)).alloc (.cells #[.bool false,.slice none 0 0] 131))
 go_enter Tryz.func167,Tryz.ntmps167
 go_wp2_with fail
 generalize hW:((w.alloc (.cells #[.bool na,.slice oa la ca] 131)).alloc (.cells #[.bool nb,.slice ob lb cb] 131)).alloc (.cells #[.bool false,.slice none 0 0] 131)=W at *
 clear hW
 have ra:=Lib.hid (hx.old HO.out)
 have rb:=Lib.hid (hy.old HO.out)
 have c0:=hS.t0.c0
 have c1:=hS.t0.c1
 have c2:=hS.t1.c0
 have c3:=hS.t1.c1
 have S1:=Lib.hid hS
 clear hS
 go_region_held3 (fun w'=>w'.cell? ⟨w.heap.size,0,none⟩=some (.bool na)∧w'.cell? ⟨w.heap.size,1,none⟩=some (.slice oa la ca)∧w'.cell? ⟨w.heap.size+1,0,none⟩=some (.bool nb)∧w'.cell? ⟨w.heap.size+1,1,none⟩=some (.slice ob lb cb))
  (first|exact ⟨c0,c1,c2,c3⟩|exact ⟨d0,d1,d2,d3⟩|exact ⟨e0,e1,e2,e9⟩|exact ⟨cell_far e0 (by omega) _ _,cell_far e1 (by omega) _ _,cell_far e2 (by omega) _ _,cell_far e9 (by omega) _ _⟩|go_keep)
  (first
    | (go_at_call 138;refine (hng _ ?_).mono ?_;exact rb.out.old (Old.refl _).drew;rintro e w1 ⟨v1,rfl,hr1,ho1⟩;have S2:=Lib.hid (S1.out.old ((Old.refl _).drew.trans ho1));have d0:=S2.out.t0.c0;have d1:=S2.out.t0.c1;have d2:=S2.out.t1.c0;have d3:=S2.out.t1.c1)
    | (go_at_call 136;refine (had _ _ ?_ hr1).mono ?_;exact ra.out.old ((Old.refl _).drew.trans ho1);rintro e w2 ⟨v2,rfl,⟨v3,rfl,hr2⟩,ho2⟩;obtain ⟨o2,c2',rfl,_⟩:=id hr2;have S3:=Lib.hid (S2.out.old ho2);have O3:=Lib.hid (HO.out.drew.trans (ho1.trans ho2));have R3:=Lib.hid hr2;have e0:=S3.out.t0.c0;have e1:=S3.out.t0.c1;have e2:=S3.out.t1.c0;have e9:=S3.out.t1.c1;have e3:=S3.out.t2.c0;have e4:=S3.out.t2.c1;have e5:=S3.out.t2.f 0;have e6:=S3.out.t2.f 1;clear hr1 hr2 ho1 ho2 d0 d1 d2 d3))
 all_goals go_wp2
 all_goals (have ht:=S3.out.t2.set (.bool (decide (n<0))) (.slice o2 (dig n.natAbs).length c2');exact bodyPost_ret (v:=.agg #[.bool (decide (n<0)),.slice o2 (dig n.natAbs).length c2']) (by simp [results,Tryz.results167,go_sem,ht.c0,ht.c1]) rfl (retI_of (ret_six S3.out (by omega) O3.out R3.out) rfl rfl))
theorem RN.form {w:World} {x:Value} {n:Int} (h:RN w x n):∃ na oa la ca,x=.agg #[.bool na,.slice oa la ca]:=by
 obtain ⟨v,rfl,hr⟩:=h
 obtain ⟨oa,ca,rfl,_⟩:=hr
 exact ⟨_,_,_,_,rfl⟩
theorem subI (a b:Int) (x y:Value) (w:World) (hx:RN w x a) (hy:RN w y b) (sa:Sm 900 a) (sb:Sm 900 b):Calls Tryz.prog 167 #[x,y] w (RetI w (a-b)):=by
 obtain ⟨na,oa,la,ca,rfl⟩:=hx.form
 obtain ⟨nb,ob,lb,cb,rfl⟩:=hy.form
 exact sub_walk na nb oa ob la ca lb cb w a b (-b) (a-b) hx hy (fun W h=>negI b _ W h sb) (fun W z h1 h2=>addI a (-b) _ z W h1 h2 sa (by unfold Sm at *;rw [Int.natAbs_neg];exact sb))
def RetS (w:World) (x y:Int) (e:Ending) (w':World):Prop:=∃ r:Int,e=.returned (.int .i64 r)∧((r=-1∧x<y)∨(r=0∧x=y)∨(r=1∧y<x))∧Old w w'
set_option maxRecDepth 100000 in
theorem cmp_walk (na nb:Bool) (oa ob:Option Addr) (la ca lb cb:Nat) (w:World) (a b:Int) (hx:RN w (.agg #[.bool na,.slice oa la ca]) a) (hy:RN w (.agg #[.bool nb,.slice ob lb cb]) b)
 (hsb:∀ W,RN W (.agg #[.bool na,.slice oa la ca]) a→RN W (.agg #[.bool nb,.slice ob lb cb]) b→Calls Tryz.prog 167 #[.agg #[.bool na,.slice oa la ca],.agg #[.bool nb,.slice ob lb cb]] W (RetI W (a-b))) (sd:Sm 900 (a-b)) :
 Calls Tryz.prog 139 #[.agg #[.bool na,.slice oa la ca],.agg #[.bool nb,.slice ob lb cb]] w (RetS w a b):=by
 have HO:=Lib.hid ((((Old.refl w).alloc (.cells #[.bool na,.slice oa la ca] 131)).alloc (.cells #[.bool nb,.slice ob lb cb] 131)))
 go_enter Tryz.func139,Tryz.ntmps139
 go_wp2_with fail
 generalize hW:((w.alloc (.cells #[.bool na,.slice oa la ca] 131)).alloc (.cells #[.bool nb,.slice ob lb cb] 131))=W at *
 clear hW
 refine (hsb _ (hx.old HO.out) (hy.old HO.out)).mono ?_
 rintro e w1 ⟨v1,rfl,⟨v2,rfl,hr1⟩,ho1⟩
 obtain ⟨o2,c2',rfl,_⟩:=id hr1
 have hl:(dig (a-b).natAbs).length=0↔a=b:=by
  rw [List.length_eq_zero_iff,dig_nil];omega
 unfold Sm at sd
 obtain ⟨n,hn⟩:∃ n,n=(dig (a-b).natAbs).length:=⟨_,rfl⟩
 rw [←hn] at hl sd ⊢
 have HL:=Lib.hid hl
 have O2:=Lib.hid (HO.out.trans ho1)
 clear hl hr1 ho1 hn hx hy hsb
 by_cases h1:a-b<0
 ·have hd:decide (a-b<0)=true:=by simpa using h1
  rw [hd]
  go_wp2
  go_ret
  exact ⟨_,rfl,Or.inl ⟨rfl,by omega⟩,O2.out.alloc _⟩
 ·have hd:decide (a-b<0)=false:=by simpa using h1
  rw [hd]
  by_cases h2:n=0
  ·have hab:=HL.out.1 h2
   have HAB:=Lib.hid hab
   subst h2
   clear hab h1 hd
   go_wp2
   go_ret
   exact ⟨_,rfl,Or.inr (Or.inl ⟨rfl,HAB.out⟩),O2.out.alloc _⟩
  ·have hab:b<a:=by have:=HL.out;omega
   have hp:0<n:=by omega
   clear h1 hd
   go_wp2
   go_ret
   exact ⟨_,rfl,Or.inr (Or.inr ⟨rfl,hab⟩),O2.out.alloc _⟩
theorem cmpI (a b:Int) (x y:Value) (w:World) (hx:RN w x a) (hy:RN w y b) (sa:Sm 900 a) (sb:Sm 900 b) (sd:Sm 900 (a-b)):Calls Tryz.prog 139 #[x,y] w (RetS w a b):=by
 obtain ⟨na,oa,la,ca,rfl⟩:=hx.form
 obtain ⟨nb,ob,lb,cb,rfl⟩:=hy.form
 exact cmp_walk na nb oa ob la ca lb cb w a b hx hy (fun W h1 h2=>subI a b _ _ W h1 h2 sa sb) sd
theorem val_drop_le {l:List Int} (hd:Dg l) (k:Nat):0≤val (l.drop k)∧val (l.drop k)≤val l:=by
 have h1:Dg (l.drop k):=fun d h=>hd d (List.mem_of_mem_drop h)
 have h2:=(val_bd _ h1).1
 have h3:=(val_bd _ (dg_take hd k)).1
 have h4:=val_split l k
 have h5:1*val (l.drop k)≤p10 k*val (l.drop k):=Int.mul_le_mul_of_nonneg_right (by have:=p10_pos k;omega) h2
 omega
theorem val_drop_succ (l:List Int) (k:Nat) (hk:k<l.length):val (l.drop k)=l.getD k 0+10000*val (l.drop (k+1)):=by
 rw [List.drop_eq_getElem_cons hk,List.getD_eq_getElem?_getD,List.getElem?_eq_getElem hk];rfl
set_option maxRecDepth 100000 in
theorem int_walk (na:Bool) (oa:Option Addr) (la ca:Nat) (w:World) (a lo hi:Int) (hx:RN w (.agg #[.bool na,.slice oa la ca]) a)
 (hof1:∀ W,Calls Tryz.prog 100 #[.int .i64 (-9223372036854775808)] W (RetI W lo)) (hof2:∀ W,Calls Tryz.prog 100 #[.int .i64 9223372036854775807] W (RetI W hi))
 (hc1:∀ W y,RN W (.agg #[.bool na,.slice oa la ca]) a→RN W y lo→Calls Tryz.prog 139 #[.agg #[.bool na,.slice oa la ca],y] W (RetS W a lo))
 (hc2:∀ W y,RN W (.agg #[.bool na,.slice oa la ca]) a→RN W y hi→Calls Tryz.prog 139 #[.agg #[.bool na,.slice oa la ca],y] W (RetS W a hi))
 (out1:a<lo→¬ I64 a) (out2:hi<a→¬ I64 a) (inn:lo≤a→a≤hi→I64 a) (sa:Sm 900 a) :
 Calls Tryz.prog 95 #[.agg #[.bool na,.slice oa la ca]] w fun e w'=>e=pr (fitV a) (fitE a)∧Old w w':=by
 have HO:=Lib.hid ((Old.refl w).alloc (.cells #[.bool na,.slice oa la ca] 131))
 have T0:=Lib.hid (Two.new w (.bool na) (.slice oa la ca))
 go_enter Tryz.func95,Tryz.ntmps95
 go_wp2_with fail
 generalize hW:(w.alloc (.cells #[.bool na,.slice oa la ca] 131))=W at *
 clear hW
 refine (hof1 _).mono ?_
 rintro e w1 ⟨x1,rfl,hx1,ho1⟩
 obtain ⟨n1,o1,l1,k1,rfl⟩:=hx1.form
 go_wp2_with fail
 refine (hof2 _).mono ?_
 rintro e w2 ⟨x2,rfl,hx2,ho2⟩
 obtain ⟨n2,o2,l2,k2,rfl⟩:=hx2.form
 have T2:=Lib.hid (T0.out.old (ho1.trans ho2))
 have O2:=Lib.hid (HO.out.trans (ho1.trans ho2))
 have X1:=Lib.hid (hx1.old ho2)
 have X2:=Lib.hid hx2
 clear hx1 hx2 ho1 ho2 T0
 have A2:=Lib.hid (hx.old O2.out)
 clear HO hx
 have t0:=T2.out.c0
 have t1:=T2.out.c1
 have tl:=T2.out.lt
 go_wp2_with fail
 have T3:=Lib.hid ((T2.out.alloc (.cells #[.bool n1,.slice o1 l1 k1] 131)).alloc (.cells #[.bool n2,.slice o2 l2 k2] 131))
 have T4:=Lib.hid ((Two.new w2 (.bool n1) (.slice o1 l1 k1)).alloc (.cells #[.bool n2,.slice o2 l2 k2] 131))
 have T5:=Two.new (w2.alloc (.cells #[.bool n1,.slice o1 l1 k1] 131)) (.bool n2) (.slice o2 l2 k2)
 rw [show (w2.alloc (.cells #[.bool n1,.slice o1 l1 k1] 131)).heap.size=w2.heap.size+1 by simp] at T5
 have O23:=((Old.refl w2).alloc (.cells #[.bool n1,.slice o1 l1 k1] 131)).alloc (.cells #[.bool n2,.slice o2 l2 k2] 131)
 have A3:=Lib.hid (A2.out.old O23)
 have X13:=Lib.hid (X1.out.old O23)
 have X23:=Lib.hid (X2.out.old O23)
 have O3:=Lib.hid (O2.out.trans O23)
 clear O23 A2 X1 X2 O2 T2 t0 t1 tl
 generalize hW:((w2.alloc (.cells #[.bool n1,.slice o1 l1 k1] 131)).alloc (.cells #[.bool n2,.slice o2 l2 k2] 131))=W3 at *
 clear hW
 refine (hc1 _ _ A3.out X13.out).mono ?_
 rintro e w4 ⟨r1,rfl,hr1,ho4⟩
 have O4:=Lib.hid (O3.out.trans ho4)
 have T34:=Lib.hid (T3.out.old ho4)
 have T44:=Lib.hid (T4.out.old ho4)
 have T54:=Lib.hid (T5.old ho4)
 have A4:=Lib.hid (A3.out.old ho4)
 have X24:=Lib.hid (X23.out.old ho4)
 clear O3 T3 T4 T5 A3 X13 X23 ho4
 have t0:=T34.out.c0
 have t1:=T34.out.c1
 have t4:=T54.out.c0
 have t5:=T54.out.c1
 have OUT1:=Lib.hid out1
 have OUT2:=Lib.hid out2
 have INN:=Lib.hid inn
 clear out1 out2 inn
 by_cases hlo:a<lo
 ·have hr:r1=-1:=by omega
  have HF:=Lib.hid (OUT1.out hlo)
  subst hr
  clear hr1
  go_wp2_with fail
  go_ret2
  exact ⟨two _ _ _ _ (fitV_out HF.out).symm (fitE_out HF.out).symm,O4.out⟩
 ·have hr:0≤r1:=by omega
  clear hr1
  go_wp2_with fail
  refine (hc2 _ _ A4.out X24.out).mono ?_
  rintro e w5 ⟨r2,rfl,hr2,ho5⟩
  have O5:=Lib.hid (O4.out.trans ho5)
  have T35:=Lib.hid (T34.out.old ho5)
  have A5:=Lib.hid (A4.out.old ho5)
  clear O4 T34 T44 T54 A4 X24 ho5 t0 t1 t4 t5
  have t0:=T35.out.c0
  have t1:=T35.out.c1
  by_cases hhi:hi<a
  ·have hr3:0<r2:=by omega
   have HF:=Lib.hid (OUT2.out hhi)
   clear hr2
   go_wp2_with fail
   go_ret2
   exact ⟨two _ _ _ _ (fitV_out HF.out).symm (fitE_out HF.out).symm,O5.out⟩
  ·have hr3:¬ 0<r2:=by omega
   have hf:=INN.out (by omega) (by omega)
   have HF:=Lib.hid hf
   clear hr2
   obtain ⟨v,ev,hrd⟩:=A5.out
   simp only [Value.agg.injEq,Array.mk.injEq,List.cons.injEq,and_true,Value.bool.injEq] at ev
   obtain ⟨ena,rfl⟩:=ev
   obtain ⟨oa',ca',eo,a1,a2,a3⟩:=hrd
   simp only [Value.slice.injEq] at eo
   obtain ⟨rfl,hla,rfl⟩:=eo
   unfold I64 at hf
   unfold Sm at sa
   have HLA:=Lib.hid hla
   rw [←hla] at sa a1 a3
   clear hla
   have HV:Hid (∀ k,0≤val ((dig a.natAbs).drop k)∧val ((dig a.natAbs).drop k)≤a.natAbs):=fun k=>by
    have:=val_drop_le (dig_dg a.natAbs) k
    rw [dig_val] at this;exact this
   have HN:Hid (∀ k,k<la→val ((dig a.natAbs).drop k)=(dig a.natAbs).getD k 0+10000*val ((dig a.natAbs).drop (k+1))):=fun k hk=>val_drop_succ _ k (by have:=HLA.out;omega)
   have HG:Hid (∀ k,0≤(dig a.natAbs).getD k 0∧(dig a.natAbs).getD k 0<10000):=fun k=>dg_getD (dig_dg _) k
   have H0:Hid (val ((dig a.natAbs).drop 0)=a.natAbs):=by show val ((dig a.natAbs).drop 0)=_;rw [List.drop_zero,dig_val]
   have HL:Hid (val ((dig a.natAbs).drop la)=0):=by show val ((dig a.natAbs).drop la)=0;rw [List.drop_eq_nil_of_le (by have:=HLA.out;omega)];rfl
   obtain ⟨V,hV⟩:∃ V:Nat→Int,V=fun k=>val ((dig a.natAbs).drop k):=⟨_,rfl⟩
   obtain ⟨D,hD⟩:∃ D:Nat→Int,D=fun k=>(dig a.natAbs).getD k 0:=⟨_,rfl⟩
   have HV':Hid (∀ k,0≤V k∧V k≤a.natAbs):=by rw [hV];exact HV
   have HN':Hid (∀ k,k<la→V k=D k+10000*V (k+1)):=by rw [hV,hD];exact HN
   have HG':Hid (∀ k,0≤D k∧D k<10000):=by rw [hD];exact HG
   have H0':Hid (V 0=a.natAbs):=by rw [hV];exact H0
   have HL':Hid (V la=0):=by rw [hV];exact HL
   have a3':Hid (∀ j,j<la→∃ g,oa=some ⟨g,0,none⟩∧g<w5.heap.size∧w5.cell? ⟨g,j,none⟩=some (.int .i64 (D j))):=by rw [hD];exact a3
   clear HV HN HG H0 HL a3 hV hD HLA A5
   by_cases hneg:a<0
   ·obtain rfl:na=true:=by rw [ena];simpa using hneg
    clear ena
    go_wp2_with fail
    go_loop [6,7] (fun n i=>∃ k:Nat,k≤la∧i=.int .i64 ((k:Int)-1)∧n=.int .i64 (-(V k))) (fun _ i=>(intOf i+1).toNat)
    case atStart=>exact ⟨la,Nat.le_refl _,rfl,by rw [HL'.out];rfl⟩
    case round=>
     obtain ⟨k,hk,rfl,rfl⟩:=hrel
     rcases k with _|k
     ·have e0:=H0'.out
      have E0:Hid (-(V 0)=a):=by show -(V 0)=a;omega
      clear e0
      go_wp2_with fail
      go_ret2
      exact ⟨two _ _ _ _ (E0.out.trans (fitV_in HF.out).symm) (fitE_in HF.out).symm,O5.out⟩
     ·obtain ⟨g,rfl,hg,hcell⟩:=a3'.out k (by omega)
      have b1:=HV'.out k
      have b2:=HV'.out (k+1)
      have b3:=HG'.out k
      have b4:=HN'.out k (by omega)
      obtain ⟨x,hx⟩:∃ x,x=D k:=⟨_,rfl⟩
      obtain ⟨y,hy⟩:∃ y,y=V (k+1):=⟨_,rfl⟩
      obtain ⟨z,hz⟩:∃ z,z=V k:=⟨_,rfl⟩
      rw [←hx] at hcell b3 b4
      rw [←hy] at b2 b4 ⊢
      rw [←hz] at b1 b4
      have HZ:Hid (-y*10000-x=-(V k)):=by show -y*10000-x=-(V k);rw [←hz];omega
      have b5:-9223372036854775808≤-y*10000-x:=by omega
      have b6:-9223372036854775808≤-y*10000:=by omega
      clear hx hy hz b4 b1
      go_wp2_with fail
      exact ⟨⟨k,by omega,rfl,congrArg (Value.int IntKind.i64) HZ.out⟩,by simp [intOf]⟩
   ·obtain rfl:na=false:=by rw [ena];simpa using hneg
    clear ena
    go_wp2_with fail
    go_loop [6,7] (fun n i=>∃ k:Nat,k≤la∧i=.int .i64 ((k:Int)-1)∧n=.int .i64 (V k)) (fun _ i=>(intOf i+1).toNat)
    case atStart=>exact ⟨la,Nat.le_refl _,rfl,by rw [HL'.out]⟩
    case round=>
     obtain ⟨k,hk,rfl,rfl⟩:=hrel
     rcases k with _|k
     ·have e0:=H0'.out
      have E0:Hid (V 0=a):=by show V 0=a;omega
      clear e0
      go_wp2_with fail
      go_ret2
      exact ⟨two _ _ _ _ (E0.out.trans (fitV_in HF.out).symm) (fitE_in HF.out).symm,O5.out⟩
     ·obtain ⟨g,rfl,hg,hcell⟩:=a3'.out k (by omega)
      have b1:=HV'.out k
      have b2:=HV'.out (k+1)
      have b3:=HG'.out k
      have b4:=HN'.out k (by omega)
      obtain ⟨x,hx⟩:∃ x,x=D k:=⟨_,rfl⟩
      obtain ⟨y,hy⟩:∃ y,y=V (k+1):=⟨_,rfl⟩
      obtain ⟨z,hz⟩:∃ z,z=V k:=⟨_,rfl⟩
      rw [←hx] at hcell b3 b4
      rw [←hy] at b2 b4 ⊢
      rw [←hz] at b1 b4
      have HZ:Hid (y*10000+x=V k):=by show y*10000+x=V k;rw [←hz];omega
      have b5:y*10000+x≤9223372036854775807:=by omega
      have b6:y*10000≤9223372036854775807:=by omega
      clear hx hy hz b4 b1
      go_wp2_with fail
      exact ⟨⟨k,by omega,rfl,congrArg (Value.int IntKind.i64) HZ.out⟩,by simp [intOf]⟩
theorem sm_big {n:Int} (h:(n.natAbs:Int)<p10 20):Sm 900 n:=Nat.le_trans (dig_len h) (by omega)
def Lo (n:Int):Prop:=(n.natAbs:Int)<p10 19
theorem p10_19:p10 20=10000*p10 19:=rfl
theorem Lo.sm {n:Int} (h:Lo n):Sm 900 n:=sm_big (by unfold Lo at h;have:=p10_pos 19;rw [p10_19];omega)
theorem Lo.sub {n m:Int} (h:Lo n) (k:Lo m):Sm 900 (n-m):=sm_big (by unfold Lo at h k;rw [p10_19];omega)
theorem i64_lo {n:Int} (h:I64 n):Lo n:=by
 unfold Lo I64 at *
 have:p10 19=10000000000000000000000000000000000000000000000000000000000000000000000000000:=by decide
 rw [this];omega
theorem sm_far {n:Int} (h:(n.natAbs:Int)<p10 112):Sm 900 n:=Nat.le_trans (dig_len h) (by omega)
theorem p10_112:p10 112=10000*(10000*p10 110):=rfl
theorem i64_far {n:Int} (h:I64 n):(n.natAbs:Int)<p10 110:=Int.lt_of_lt_of_le (i64_lo h) (p10_mono (by omega))
theorem sub_far {n m:Int} (h:(n.natAbs:Int)<p10 110) (k:(m.natAbs:Int)<p10 110):Sm 900 (n-m):=sm_far (by rw [p10_112];omega)
theorem one_far {n:Int} (h:(n.natAbs:Int)<p10 110):Sm 900 n:=sm_far (by rw [p10_112];omega)
theorem intS (a:Int) (x:Value) (w:World) (hx:RN w x a) (ha:(a.natAbs:Int)<p10 110):Calls Tryz.prog 95 #[x] w fun e w'=>e=pr (fitV a) (fitE a)∧Old w w':=by
 obtain ⟨na,oa,la,ca,rfl⟩:=hx.form
 have h1:I64 (-9223372036854775808):=by decide
 have h2:I64 9223372036854775807:=by decide
 exact int_walk na oa la ca w a (-9223372036854775808) 9223372036854775807 hx (fun W=>ofI _ W h1) (fun W=>ofI _ W h2)
  (fun W y k1 k2=>cmpI _ _ _ _ W k1 k2 (one_far ha) (i64_lo h1).sm (sub_far ha (i64_far h1))) (fun W y k1 k2=>cmpI _ _ _ _ W k1 k2 (one_far ha) (i64_lo h2).sm (sub_far ha (i64_far h2)))
  (fun h k=>by unfold I64 at k;omega) (fun h k=>by unfold I64 at k;omega) (fun h k=>⟨h,k⟩) (one_far ha)
end Go.Proofs.YtmkmafkkpigfpaaGreatDoor
