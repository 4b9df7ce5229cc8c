/- The document's own numbers: quotients: the walk. -/
import Derived.Deep.RegionLaw
import Derived.Test.YtmkmafkkpigfpaaGreatDoorRP
set_option maxHeartbeats 6400000
namespace Go.Proofs.YtmkmafkkpigfpaaGreatDoor
open Go.ChangeShapes Go.WideShapes Go.ChangeAt Go.RowKit
set_option linter.unusedVariables false
theorem trim_digit (x R R':Nat) (oa:Option Addr) (na ca:Nat) (w:World) (hl:Rd w (.slice oa na ca) ((x:Int)::dig R)) (hx:x<10000) (ll:(dig R).length≤1000) (hR:R'=x+10000*R) :
 Calls Tryz.prog 163 #[.bool false,.slice oa na ca] w (RetT w oa ca false (dig R')):=by
 have hd:Dg ((x:Int)::dig R):=by
  intro d h
  rcases List.mem_cons.1 h with rfl|h
  ·omega
  ·exact dig_dg R d h
 have h:=trim_at_any false _ oa na ca w hl hd (by rw [List.length_cons];omega)
 have e:val ((x:Int)::dig R)=(R':Int):=by simp only [val];rw [dig_val];omega
 rw [e,Int.toNat_natCast,Bool.false_and] at h
 exact h
theorem rd_cell_lt {W:World} {oa:Option Addr} {la ca:Nat} {da:List Int} (h:Rd W (.slice oa la ca) da) {j:Nat} (hj:j<da.length):∃ g,oa=some ⟨g,0,none⟩∧g<W.heap.size∧W.cell? ⟨g,j,none⟩=some (.int .i64 (da.getD j 0)):=by
 obtain ⟨oa',ca',e,_,_,h3⟩:=h
 simp only [Value.slice.injEq] at e
 obtain ⟨rfl,_,rfl⟩:=e
 exact h3 j hj
theorem rd_len {w:World} {o:Option Addr} {k c:Nat} {ds:List Int} (h:Rd w (.slice o k c) ds):k=ds.length:=by
 obtain ⟨oa,cap,e,_⟩:=h
 simp only [Value.slice.injEq] at e
 exact e.2.1
theorem rn_nat {w:World} {o:Option Addr} {k c:Nat} {R:Nat} (h:Rd w (.slice o k c) (dig R)):RN w (.agg #[.bool false,.slice o k c]) (R:Int):=by
 refine ⟨_,?_,by rw [Int.natAbs_natCast];exact h⟩
 rw [show decide ((R:Int)<0)=false from decide_eq_false (by omega)]
theorem off_of {g b:Nat} (h:g≠b):Off (some ⟨g,0,none⟩) b:=by
 intro g' e
 simp only [Option.some.injEq,Addr.mk.injEq,and_true] at e
 omega
def P7 (w:World) (Ba Bb Bq Br:Nat) (na nb:Bool) (va vb:Value) (n:Nat) (ql:List Int) (R:Nat) (wx:World):Prop:=
 QoW w Ba Bb Bq Br na nb va vb n ql R wx∧∃ g c,Two wx Br (.bool false) (.slice (some ⟨g,0,none⟩) (dig R).length c)∧Rd wx (.slice (some ⟨g,0,none⟩) (dig R).length c) (dig R)∧g≠Bq
theorem QoW.p7 {w:World} {Ba Bb Bq Br:Nat} {na nb:Bool} {va vb:Value} {n:Nat} {ql:List Int} {R R':Nat} {wr:World} {g c:Nat} (h:QoW w Ba Bb Bq Br na nb va vb n ql R wr) (L:Lies w Ba Bb Bq Br) (hr:Rd wr (.slice (some ⟨g,0,none⟩) (dig R').length c) (dig R')) (hg:g≠Bq) :
 P7 w Ba Bb Bq Br na nb va vb n ql R' ((wr.setCell ⟨Br,0,none⟩ (.bool false)).setCell ⟨Br,1,none⟩ (.slice (some ⟨g,0,none⟩) (dig R').length c)):=by
 obtain ⟨o',c',h1,h2⟩:=h.r
 exact ⟨h.setR L hr,g,c,h1.set _ _,h1.rd2 hr _ _,hg⟩
theorem rn_of {w:World} {z:Value} {n:Int} {r:Nat} (h:RN w z n) (e:n=(r:Int)):∃ o c,z=.agg #[.bool false,.slice o (dig r).length c]∧Rd w (.slice o (dig r).length c) (dig r):=by
 subst e
 obtain ⟨v,rfl,hr⟩:=h
 rw [Int.natAbs_natCast] at hr
 obtain ⟨o,c,rfl,_⟩:=id hr
 refine ⟨o,c,?_,hr⟩
 rw [show decide ((r:Int)<0)=false from decide_eq_false (by omega)]
def RetQ (w:World) (s1:Bool) (d1:List Int) (s2:Bool) (d2:List Int) (e:Ending) (w':World):Prop:=∃ v1 v2,e=.returned (.tuple #[.agg #[.bool s1,v1],.agg #[.bool s2,v2]])∧Rd w' v1 d1∧Rd w' v2 d2∧Old w w'
set_option maxRecDepth 100000 in
theorem quo_walk2 (na nb:Bool) (oa ob:Option Addr) (la ca lb cb:Nat) (w:World) (al:List Int) (bb:Nat) (s1 s2:Bool) (d1 d2:List Int)
 (hx:Rd w (.slice oa la ca) al) (hy:RN w (.agg #[.bool false,.slice ob lb cb]) (bb:Int)) (hla:la=al.length) (ga:Dg al) (hbb:0<bb) (sla:la≤100)
 (hof:∀ (t:Int) W,0≤t→t≤9999→Calls Tryz.prog 100 #[.int .i64 t] W (RetI W t))
 (hml:∀ (t:Int) W z,0≤t→t≤9999→RN W z t→RN W (.agg #[.bool false,.slice ob lb cb]) bb→Calls Tryz.prog 137 #[z,.agg #[.bool false,.slice ob lb cb]] W (RetI W (t*bb)))
 (hcm:∀ (t:Int) (R:Nat) W z y,0≤t→t≤9999→R<10000*bb→RN W z (t*bb)→RN W y (R:Int)→Calls Tryz.prog 139 #[z,y] W (RetS W (t*bb) R))
 (hsb:∀ (t:Int) (R:Nat) W z y,0≤t→t≤9999→R<10000*bb→RN W y (R:Int)→RN W z (t*bb)→Calls Tryz.prog 167 #[y,z] W (RetI W (R-t*bb)))
 (hsz:∀ R,R<10000*bb→(dig R).length≤500)
 (hf1:∀ W v ql,QI al bb 0 ql→Rd W v ql→Calls Tryz.prog 163 #[.bool (na != nb),v] W (RetN W s1 d1))
 (hf2:∀ W v,Rd W v (dig (wv al 0%bb))→Calls Tryz.prog 163 #[.bool na,v] W (RetN W s2 d2)) :
 Calls Tryz.prog 140 #[.agg #[.bool na,.slice oa la ca],.agg #[.bool nb,.slice ob lb cb]] w (RetQ w s1 d1 s2 d2):=by
 obtain ⟨i0,hi,hz0,hz1,hz2⟩:=info_parts info3N
 have HOF:=Lib.hid hof
 have HML:=Lib.hid hml
 have HCM:=Lib.hid hcm
 have HSB:=Lib.hid hsb
 have HSZ:=Lib.hid hsz
 have HF1:=Lib.hid hf1
 have HF2:=Lib.hid hf2
 have HLA:=Lib.hid hla
 clear hof hml hcm hsb hsz hf1 hf2 hla
 go_enter Tryz.func140,Tryz.ntmps140
 go_upto_region 1 with (fail)
 go_cut [6,7] from 14 to 19 (fun p q wc=>∃ Ba Bb,p=.pointer (some ⟨Ba,0,none⟩)∧q=.pointer (some ⟨Bb,0,none⟩)∧Qo0 w Ba Bb na nb (.slice oa la ca) (.slice ob lb cb) wc)
 case first=>
  go_region
  all_goals go_wp2_with fail
  all_goals go_meet
  ·obtain ⟨h1,h2,h3,h4,h5,h6,h7⟩:=six_blocks w (.bool na) (.slice oa la ca) (.bool nb) (.slice ob lb cb) (.bool false) (.slice none 0 0) (.bool false) (.slice none 0 0) (.bool false) (.slice oa la ca) (.bool false) (.slice ob lb cb)
   exact ⟨_,_,rfl,rfl,h1,h2,h3,h4,h5,h6,h7.drew⟩
  ·obtain ⟨h1,h2,h3,h4,h5,h6,h7⟩:=six_blocks w (.bool na) (.slice oa la ca) (.bool nb) (.slice ob lb cb) (.bool false) (.slice none 0 0) (.bool false) (.slice none 0 0) (.bool false) (.slice ob lb cb) (.bool false) (.slice oa la ca)
   exact ⟨_,_,rfl,rfl,h1,h2,h3,h4,h6,h5,h7.drew⟩
 case rest=>
  obtain ⟨Ba,Bb,rfl,rfl,M0⟩:=hcut
  have ta:=M0.a.c1
  have HM0:=Lib.hid M0
  clear M0
  go_wp2_with (at_make;refine wpList_make_full _ rfl _ _ 52 rfl w.heap.size 3 i0 (.int .i64 0) 1 Tryz.underlying52 hi hz0 hz1 .i64 .i64 _ _ la rfl rfl rfl rfl (by rw [hz2];omega) (by unfold maxLen;omega) (HM0.out.old.size) ?_;intro w0 hown0 hgrow0;have t0a:=(HM0.out.step (Old.grown (Old.refl _) hgrow0 (fun k h=>by cases h))).a.c1;have t0l:=(HM0.out.step (Old.grown (Old.refl _) hgrow0 (fun k h=>by cases h))).a.lt;clear ta)
  have M1:=HM0.out.step (Old.grown (Old.refl _) hgrow0 (fun k h=>by cases h))
  have L:Lies w Ba Bb wc.heap.size w0.heap.size:=by
   have h1:=HM0.out.r2.lt
   have h2:=HM0.out.a.lt
   have h3:=HM0.out.b.lt
   have h4:=hown0.lt wc.heap.size rfl
   exact ⟨h1,by omega,by omega,by omega,by omega,by omega,by omega⟩
  have W1:QoW w Ba Bb wc.heap.size w0.heap.size na nb (.slice oa la ca) (.slice ob lb cb) la (List.replicate la 0) (wv al la%bb) (w0.alloc (.cells #[.bool false,.slice none 0 0] 131)):=by
   have e:wv al la%bb=0:=by
    unfold wv
    rw [List.drop_eq_nil_of_le (by rw [HLA.out];exact Nat.le_refl _)]
    exact Nat.zero_mod bb
   rw [e]
   refine ⟨M1.step ((Old.refl _).alloc _),?_,none,0,by rw [dig_zero];exact Two.new _ _ _,by rw [dig_zero];exact Rd.nil _⟩
   have e2:(madeCells (Value.int .i64 0).cells (la*1)).toList=(List.replicate la (0:Int)).map (Value.int .i64):=by rw [Nat.mul_one,List.map_replicate];exact toList_madeCells_one _ _
   rw [←e2];exact hown0.alloc _
  have HL:=Lib.hid L
  have HW1:=Lib.hid W1
  clear L W1 M1 hown0 hgrow0 t0a t0l HM0
  obtain ⟨Bq,hBq⟩:∃ Bq,Bq=wc.heap.size:=⟨_,rfl⟩
  rw [←hBq] at HL HW1 ⊢
  clear hBq
  go_loopw [10] (fun i wr=>∃ k:Nat,k≤la∧i=.int .i64 ((k:Int)-1)∧Hid (∃ ql,QI al bb k ql∧QoW w Ba Bb Bq w0.heap.size na nb (.slice oa la ca) (.slice ob lb cb) la ql (wv al k%bb) wr)) (fun i _=>(intOf i+1).toNat)
  case atStart=>exact ⟨la,Nat.le_refl _,rfl,_,QI.zero HLA.out,HW1.out⟩
  case round=>
   clear HW1
   obtain ⟨k,hk,rfl,HQ⟩:=hrel
   obtain ⟨ql,hQ,hW⟩:=HQ.out
   clear HQ
   obtain ⟨wo,rfl⟩:∃ wo:World,wo=wr:=⟨_,rfl⟩
   rcases k with _|k
   ·skip
    obtain ⟨ro,rc,h1,h2⟩:=hW.r
    have c0:=hW.m.x.c0
    have c1:=hW.m.y.c0
    have c2:=h1.c1
    have HWo:=Lib.hid hW
    have H1:=Lib.hid h1
    have H2:=Lib.hid h2
    have RQ:=Lib.hid (Rd.of_owns hW.q)
    have HQI:=Lib.hid hQ
    clear hW h1 h2 hQ HOF HML HCM HSB HSZ
    obtain ⟨R0,hR0⟩:∃ R0,R0=wv al 0%bb:=⟨_,rfl⟩
    rw [←hR0] at HWo H1 H2 HF2 c2
    clear hR0
    go_wp2_with fail
    go_region_held3 (fun w'=>w'.cell? ⟨w.heap.size,0,none⟩=some (.bool na)∧w'.cell? ⟨w.heap.size+1,0,none⟩=some (.bool nb)∧w'.cell? ⟨w0.heap.size,1,none⟩=some (.slice ro (dig R0).length rc))
     (first|(with_reducible exact ⟨d0,d1',d2'⟩)|(with_reducible exact ⟨e0,e1,e2⟩)|(with_reducible exact ⟨x0,x1,x2⟩)|(with_reducible exact ⟨y0,y1,y2⟩)|(with_reducible exact ⟨z0,z1,z2⟩)|(with_reducible exact ⟨q0,q1,q2⟩)|go_keep)
     (first
       | (go_at_call_of 163 (Value.slice (some ⟨Bq,0,none⟩) la la);refine (HF1.out _ _ ql HQI.out (RQ.out.old (Old.refl _).drew)).mono ?_;rintro e w1 ⟨v1,rfl,hr1,ho1⟩;obtain ⟨o1,k1,rfl,_⟩:=id hr1;have O1:=Lib.hid ((Old.refl _).drew.trans ho1);have R1:=Lib.hid hr1;have d0:=((HWo.out.step O1.out).m.x).c0;have d1':=((HWo.out.step O1.out).m.y).c0;have d2':=(H1.out.old O1.out).c1;clear hr1 ho1)
       | (go_at_call 163;refine (HF2.out _ _ (H2.out.old O1.out)).mono ?_;rintro e w2 ⟨v2,rfl,hr2,ho2⟩;obtain ⟨o2,k2,rfl,_⟩:=id hr2;have O2:=Lib.hid (O1.out.trans ho2);have R2:=Lib.hid hr2;have R12:=Lib.hid (R1.out.old ho2);have e0:=((HWo.out.step O2.out).m.x).c0;have e1:=((HWo.out.step O2.out).m.y).c0;have e2:=(H1.out.old O2.out).c1;have T1:=Lib.hid (HWo.out.step O2.out).m.r1;have T2:=Lib.hid (HWo.out.step O2.out).m.r2;have t0:=T1.out.c0;have t1:=T1.out.c1;have t2:=T1.out.f 0;have t3:=T1.out.f 1;have t4:=T2.out.c0;have t5:=T2.out.c1;have t6:=T2.out.f 0;have t7:=T2.out.f 1;have br2:¬ w0.heap.size=w.heap.size+1+1:=by have:=HL.out.r0;omega
          have br3:¬ w0.heap.size=w.heap.size+1+1+1:=by have:=HL.out.r0;omega
          have x0:=cell_far (B:=w.heap.size+1+1) e0 (by omega) (.bool s1) (.slice o1 d1.length k1);have x1:=cell_far (B:=w.heap.size+1+1) e1 (by omega) (.bool s1) (.slice o1 d1.length k1);have x2:=cell_far (B:=w.heap.size+1+1) e2 br2 (.bool s1) (.slice o1 d1.length k1)
          have y0:=cell_far (B:=w.heap.size+1+1+1) e0 (by omega) (.bool s2) (.slice o2 d2.length k2);have y1:=cell_far (B:=w.heap.size+1+1+1) e1 (by omega) (.bool s2) (.slice o2 d2.length k2);have y2:=cell_far (B:=w.heap.size+1+1+1) e2 br3 (.bool s2) (.slice o2 d2.length k2)
          have z0:=cell_far (B:=w.heap.size+1+1+1) x0 (by omega) (.bool s2) (.slice o2 d2.length k2);have z1:=cell_far (B:=w.heap.size+1+1+1) x1 (by omega) (.bool s2) (.slice o2 d2.length k2);have z2:=cell_far (B:=w.heap.size+1+1+1) x2 br3 (.bool s2) (.slice o2 d2.length k2)
          have q0:=cell_far (B:=w.heap.size+1+1) y0 (by omega) (.bool s1) (.slice o1 d1.length k1);have q1:=cell_far (B:=w.heap.size+1+1) y1 (by omega) (.bool s1) (.slice o1 d1.length k1);have q2:=cell_far (B:=w.heap.size+1+1) y2 br2 (.bool s1) (.slice o1 d1.length k1)
          clear hr2 ho2 d0 d1' d2'))
    go_wp2_with fail
    have T2':=(T2.out.far (p:=⟨w.heap.size+1+1,0,none⟩) (by show w.heap.size+1+1+1≠w.heap.size+1+1;omega) (.bool s1)).far (p:=⟨w.heap.size+1+1,1,none⟩) (by show w.heap.size+1+1+1≠w.heap.size+1+1;omega) (.slice o1 d1.length k1)
    have A3:=T2'.set (.bool s2) (.slice o2 d2.length k2)
    have A2:=((T1.out.set (.bool s1) (.slice o1 d1.length k1)).far (p:=⟨w.heap.size+1+1+1,0,none⟩) (by show w.heap.size+1+1≠w.heap.size+1+1+1;omega) (.bool s2)).far (p:=⟨w.heap.size+1+1+1,1,none⟩) (by show w.heap.size+1+1≠w.heap.size+1+1+1;omega) (.slice o2 d2.length k2)
    have Q1:=T2'.rd2 (T1.out.rd2 R12.out (.bool s1) (.slice o1 d1.length k1)) (.bool s2) (.slice o2 d2.length k2)
    have Q2:=T2'.rd2 (T1.out.rd2 R2.out (.bool s1) (.slice o1 d1.length k1)) (.bool s2) (.slice o2 d2.length k2)
    have Q3:=((((HWo.out.m.old.trans O2.out).setCell (p:=⟨w.heap.size+1+1,0,none⟩) (by show w.heap.size≤w.heap.size+1+1;omega) (.bool s1)).setCell (p:=⟨w.heap.size+1+1,1,none⟩) (by show w.heap.size≤w.heap.size+1+1;omega) (.slice o1 d1.length k1)).setCell (p:=⟨w.heap.size+1+1+1,0,none⟩) (by show w.heap.size≤w.heap.size+1+1+1;omega) (.bool s2)).setCell (p:=⟨w.heap.size+1+1+1,1,none⟩) (by show w.heap.size≤w.heap.size+1+1+1;omega) (.slice o2 d2.length k2)
    exact bodyPost_ret (v:=.tuple #[.agg #[.bool s1,.slice o1 d1.length k1],.agg #[.bool s2,.slice o2 d2.length k2]]) (by simp [results,Tryz.results140,go_sem,A2.c0,A2.c1,A3.c0,A3.c1]) rfl ⟨_,_,rfl,Q1,Q2,Q3⟩
   ·obtain ⟨ro,rc,h1,h2⟩:=hW.r
    obtain ⟨R,hR⟩:∃ R,R=wv al (k+1)%bb:=⟨_,rfl⟩
    rw [←hR] at h1 h2 hW
    have bR:R<bb:=by rw [hR];exact Nat.mod_lt _ hbb
    obtain ⟨x,hx'⟩:∃ x:Nat,x=(al.getD k 0).toNat:=⟨_,rfl⟩
    have gx:=dg_getD ga k
    have ex:(x:Int)=al.getD k 0:=by omega
    have bx:x<10000:=by omega
    obtain ⟨g,eg,lg,cx'⟩:=rd_cell_lt hx (j:=k) (by rw [←HLA.out];omega)
    have cx:=(hW.m.old.cell (p:=⟨g,k,none⟩) lg).trans cx'
    rw [←ex] at cx
    clear cx'
    have gr:¬ g=w0.heap.size:=by have:=HL.out.r0;omega
    subst eg
    have HR:=Lib.hid hR
    have HX:=Lib.hid hx'
    clear hR hx' gx ex
    have ca1:=hW.m.a.c1
    have cr1:=h1.c1
    have lr:=h1.lt
    have lq:=hW.q.lt Bq rfl
    have lx:=World.block_lt_of_cell? wo _ cx
    have n1:=World.new_ne wo _ ca1
    have n2:=World.new_ne wo _ cx
    have lR:(dig R).length≤500:=HSZ.out R (by omega)
    have HWo:=Lib.hid hW
    have H1:=Lib.hid h1
    have H2:=Lib.hid h2
    have OWN:=Lib.hid ((World.ownsRow_lit (base:=wo.heap.size) (e:=3) (size:=1) wo #[.int .i64 (x:Int)] 1 (Nat.le_refl _) (by unfold maxLen;omega) rfl).drew)
    clear hW h1 h2
    obtain ⟨R',hR'⟩:∃ R',R'=x+10000*R:=⟨_,rfl⟩
    have HR':=Lib.hid hR'
    have bR':R'<10000*bb:=by omega
    have lR':=HSZ.out R' bR'
    clear hR'
    have ek:((k+1:Nat):Int)-1=(k:Int):=by omega
    have EK:=Lib.hid ek
    rw [ek]
    clear ek
    have hk0:(0:Int)≤(k:Int):=by omega
    have hk1:(k:Int)<(la:Int):=by omega
    go_upto_region 7 with (fail)
    go_cut [10] from 29 to 70 (fun i wx=>i=.int .i64 (k:Int)∧Hid (P7 w Ba Bb Bq w0.heap.size na nb (.slice (some ⟨g,0,none⟩) la ca) (.slice ob lb cb) la ql R' wx))
    case first=>
     have n3:=World.new_ne wo _ cr1
     go_region_law (first
      | (refine step_app _ (by rfl) _ _ (by rfl) wo.heap.size i0 hi hz0 hz1 hz2 _ 1 [.int .i64 (x:Int)] (by rfl) OWN.out ro (dig R).length rc (dig R) (by rfl) (H2.out.old (((Old.refl _).alloc _).drew)) (by omega) (by simp) ?_;intro v1 w1 hown1 hgrow1;have O1:=Lib.hid ((((Old.refl wo).alloc (.cells #[.int .i64 (x:Int)] 3)).drew).grown hgrow1 (fun j hj=>by simp [Value.ownBlock] at hj;omega));have d0:=(O1.out.cell (p:=⟨Ba,1,none⟩) HWo.out.m.a.lt).trans ca1;have d1':=(O1.out.cell (p:=⟨g,k,none⟩) lx).trans cx;have R1:Hid (Rd w1 v1 ((x:Int)::dig R)):=Rd.of_owns (n:=1+(dig R).length) hown1;obtain ⟨g1,cap1,rfl,bg1,lg1⟩:=hown1.form (by omega);clear hown1 hgrow1)
      | (go_simp;go_at_call 163;refine (trim_digit x R R' _ _ _ _ R1.out bx (by omega) HR'.out).mono ?_;rintro e w2 ⟨k2,rfl,hr2,ho2⟩;obtain rfl:=rd_len hr2;have O2:=Lib.hid (O1.out.trans ho2);have R2:=Lib.hid hr2;have e0:=(ho2.cell (p:=⟨Ba,1,none⟩) ((HWo.out.step O1.out).m.a.lt)).trans d0;have e1:=(ho2.cell (p:=⟨g,k,none⟩) (Nat.lt_of_lt_of_le lx O1.out.size)).trans d1';have T2:=Lib.hid (H1.out.old O2.out);have e3:=T2.out.c0;have e4:=T2.out.c1;have e5:=T2.out.f 0;have e6:=T2.out.f 1;clear hr2 ho2 d0 d1' R1))
     all_goals go_wp2_with fail
     all_goals go_meet
     all_goals exact ⟨rfl,(HWo.out.step O2.out).p7 HL.out R2.out (by omega)⟩
    case rest=>
     obtain ⟨rfl,HP⟩:=hcut
     clear HWo H1 H2 OWN ca1 cr1 lr lq lx n1 n2 cx lR gr bR
     obtain ⟨hP,g1,c1,hP1,hP2,hP3⟩:=HP.out
     clear HP
     obtain ⟨T,hT⟩:∃ T:Int,T=((R'/bb:Nat):Int):=⟨_,rfl⟩
     have hT0:0≤T:=by rw [hT];exact Int.natCast_nonneg _
     have hT1:T≤9999:=by
      have:R'/bb<10000:=by rw [Nat.div_lt_iff_lt_mul hbb];exact bR'
      omega
     have HTM:Hid (∀ t:Int,0≤t→(t*bb≤R'↔t≤T)):=by
      intro t ht
      obtain ⟨n,rfl⟩:=Int.eq_ofNat_of_zero_le ht
      rw [hT,←Int.natCast_mul]
      have:=Nat.le_div_iff_mul_le (x:=n) (y:=R') hbb
      omega
     have HT:=Lib.hid hT
     clear hT
     have HP:=Lib.hid hP
     have HP1:=Lib.hid hP1
     have HP2:=Lib.hid hP2
     have HP3:=Lib.hid hP3
     clear hP hP1 hP2 hP3
     obtain ⟨W7,rfl⟩:∃ W7:World,W7=wc:=⟨_,rfl⟩
     go_wp2_with fail
     go_loopw [11,12,13] (fun l h _ wr=>∃ a b:Int,0≤a∧a≤T∧T≤b∧b≤9999∧l=.int .i64 a∧h=.int .i64 b∧Hid (Old W7 wr)) (fun l h _ _=>(intOf h-intOf l).toNat)
     case atStart=>exact ⟨0,9999,by omega,hT0,hT1,by omega,rfl,rfl,Old.refl _⟩
     case round=>
      obtain ⟨a,b,ha,haT,hbT,hb,rfl,rfl,HO⟩:=hrel
      by_cases hab:a<b
      ·have hm1:a<(a+b+1)/2:=by omega
       have hm2:(a+b+1)/2≤b:=by omega
       go_wp2_with fail
       generalize (a+b+1)/2=m at *
       have tb:=(HP.out.m.b.old HO.out)
       have tr:=(HP1.out.old HO.out)
       have c0:=tb.c0
       have c1':=tb.c1
       have c2:=tr.c0
       have c3:=tr.c1
       have yb:=Lib.hid (hy.old (HP.out.m.old.trans HO.out))
       have yr:=Lib.hid (rn_nat (HP2.out.old HO.out))
       have TB:=Lib.hid tb
       have TR:=Lib.hid tr
       clear tb tr
       by_cases hmT:m≤T
       ·have HMT:=Lib.hid ((HTM.out m (by omega)).2 hmT)
        go_region_held3 (fun w'=>w'.cell? ⟨Bb,0,none⟩=some (.bool false)∧w'.cell? ⟨Bb,1,none⟩=some (.slice ob lb cb)∧w'.cell? ⟨w0.heap.size,0,none⟩=some (.bool false)∧w'.cell? ⟨w0.heap.size,1,none⟩=some (.slice (some ⟨g1,0,none⟩) (dig R').length c1))
         (first|exact ⟨c0,c1',c2,c3⟩|exact ⟨d0,d1',d2',d3⟩|exact ⟨e0,e1,e2,e3⟩|exact ⟨f0,f1,f2,f3⟩|go_keep)
         (first
           | (go_at_call 100;refine (HOF.out m _ (by omega) (by omega)).mono ?_;rintro e w1 ⟨z1,rfl,hz1',ho1⟩;have O1:=Lib.hid ((Old.refl _).drew.trans ho1);have Z1:=Lib.hid hz1';have d0:=(TB.out.old O1.out).c0;have d1':=(TB.out.old O1.out).c1;have d2':=(TR.out.old O1.out).c0;have d3:=(TR.out.old O1.out).c1;clear hz1' ho1)
           | (go_at_call 137;refine (HML.out m _ _ (by omega) (by omega) Z1.out (yb.out.old O1.out)).mono ?_;rintro e w2 ⟨z2,rfl,hz2',ho2⟩;have O2:=Lib.hid (O1.out.trans ho2);have Z2:=Lib.hid hz2';have e0:=(TB.out.old O2.out).c0;have e1:=(TB.out.old O2.out).c1;have e2:=(TR.out.old O2.out).c0;have e3:=(TR.out.old O2.out).c1;clear hz2' ho2)
           | (go_at_call 139;refine (HCM.out m R' _ _ _ (by omega) (by omega) bR' Z2.out (yr.out.old O2.out)).mono ?_;rintro e w3 ⟨r,rfl,hr,ho3⟩;have hr0:r≤0:=by have:=HMT.out;omega
              have O3:=Lib.hid (HO.out.trans (O2.out.trans ho3));have f0:=(TB.out.old (O2.out.trans ho3)).c0;have f1:=(TB.out.old (O2.out.trans ho3)).c1;have f2:=(TR.out.old (O2.out.trans ho3)).c0;have f3:=(TR.out.old (O2.out.trans ho3)).c1;clear hr ho3))
        go_wp2_with fail
        go_roundw
        case rel=>exact ⟨m,b,by omega,hmT,hbT,hb,rfl,rfl,O3⟩
        case measure=>simp [intOf];omega
       ·have HMT:Hid ((R':Int)<m*bb):=by
         show (R':Int)<m*bb
         rcases Int.lt_or_le (R':Int) (m*bb) with h|h
         ·exact h
         ·exact absurd ((HTM.out m (by omega)).1 h) hmT
        go_region_held3 (fun w'=>w'.cell? ⟨Bb,0,none⟩=some (.bool false)∧w'.cell? ⟨Bb,1,none⟩=some (.slice ob lb cb)∧w'.cell? ⟨w0.heap.size,0,none⟩=some (.bool false)∧w'.cell? ⟨w0.heap.size,1,none⟩=some (.slice (some ⟨g1,0,none⟩) (dig R').length c1))
         (first|exact ⟨c0,c1',c2,c3⟩|exact ⟨d0,d1',d2',d3⟩|exact ⟨e0,e1,e2,e3⟩|exact ⟨f0,f1,f2,f3⟩|go_keep)
         (first
           | (go_at_call 100;refine (HOF.out m _ (by omega) (by omega)).mono ?_;rintro e w1 ⟨z1,rfl,hz1',ho1⟩;have O1:=Lib.hid ((Old.refl _).drew.trans ho1);have Z1:=Lib.hid hz1';have d0:=(TB.out.old O1.out).c0;have d1':=(TB.out.old O1.out).c1;have d2':=(TR.out.old O1.out).c0;have d3:=(TR.out.old O1.out).c1;clear hz1' ho1)
           | (go_at_call 137;refine (HML.out m _ _ (by omega) (by omega) Z1.out (yb.out.old O1.out)).mono ?_;rintro e w2 ⟨z2,rfl,hz2',ho2⟩;have O2:=Lib.hid (O1.out.trans ho2);have Z2:=Lib.hid hz2';have e0:=(TB.out.old O2.out).c0;have e1:=(TB.out.old O2.out).c1;have e2:=(TR.out.old O2.out).c0;have e3:=(TR.out.old O2.out).c1;clear hz2' ho2)
           | (go_at_call 139;refine (HCM.out m R' _ _ _ (by omega) (by omega) bR' Z2.out (yr.out.old O2.out)).mono ?_;rintro e w3 ⟨r,rfl,hr,ho3⟩;have hr0:¬ r≤0:=by have:=HMT.out;omega
              have O3:=Lib.hid (HO.out.trans (O2.out.trans ho3));have f0:=(TB.out.old (O2.out.trans ho3)).c0;have f1:=(TB.out.old (O2.out.trans ho3)).c1;have f2:=(TR.out.old (O2.out.trans ho3)).c0;have f3:=(TR.out.old (O2.out.trans ho3)).c1;clear hr ho3))
        go_wp2_with fail
        go_roundw
        case rel=>exact ⟨a,m-1,ha,haT,by omega,by omega,rfl,rfl,O3⟩
        case measure=>simp [intOf];omega
      ·obtain rfl:a=T:=by omega
       obtain rfl:b=a:=by omega
       have hq7:=HP.out.step HO.out
       have cq:wr.cell? ⟨Bq,k,none⟩=some (.int .i64 (ql.getD k 0)):=by
        rw [hq7.q.cellAt k (by omega),List.getElem?_map,List.getElem?_eq_getElem (by have:=hQ.1;have:=HLA.out;omega),List.getD_eq_getElem?_getD,List.getElem?_eq_getElem (by have:=hQ.1;have:=HLA.out;omega)];rfl
       have fq:=hq7.q.frozenAt k
       have HQ8:=Lib.hid (hq7.setQ HL.out (HP1.out.old HO.out) (HP2.out.old HO.out) (off_of HP3.out) k b)
       have T8:=Lib.hid ((HP1.out.old HO.out).far (p:=⟨Bq,k,none⟩) (by show w0.heap.size≠Bq;exact fun e=>HL.out.qr e.symm) (.int .i64 b))
       have R8:=Lib.hid ((HP2.out.old HO.out).far (p:=⟨Bq,k,none⟩) (off_of HP3.out) (.int .i64 b))
       have hlen:(k:Int)<(la:Int):=by omega
       clear hq7
       go_upto_region 15 with (fail)
       obtain ⟨W8,hW8⟩:∃ W8,W8=wr.setCell ⟨Bq,k,none⟩ (.int .i64 b):=⟨_,rfl⟩
       rw [←hW8] at HQ8 T8 R8 ⊢
       clear hW8 cq fq
       have TB:=Lib.hid HQ8.out.m.b
       have c0:=TB.out.c0
       have c1':=TB.out.c1
       have c2:=T8.out.c0
       have c3:=T8.out.c1
       have yb:=Lib.hid (hy.old HQ8.out.m.old)
       have yr:=Lib.hid (rn_nat R8.out)
       have HRR:Hid ((R':Int)-b*bb=((wv al k%bb:Nat):Int)):=by
        show (R':Int)-b*bb=((wv al k%bb:Nat):Int)
        rw [QI.rest ga hbb (by have:=HLA.out;omega),←HX.out,←HR.out,←HR'.out,HT.out,←Int.natCast_mul]
        have:=Nat.div_add_mod' R' bb
        omega
       go_region_with (first
        | (go_at_call 100;refine (HOF.out b _ (by omega) (by omega)).mono ?_;rintro e w1 ⟨z1,rfl,hz1',ho1⟩;have O1:=Lib.hid ((Old.refl _).drew.trans ho1);have Z1:=Lib.hid hz1';have d0:=(TB.out.old O1.out).c0;have d1':=(TB.out.old O1.out).c1;have d2':=(T8.out.old O1.out).c0;have d3:=(T8.out.old O1.out).c1;clear hz1' ho1)
        | (go_at_call 137;refine (HML.out b _ _ (by omega) (by omega) Z1.out (yb.out.old O1.out)).mono ?_;rintro e w2 ⟨z2,rfl,hz2',ho2⟩;have O2:=Lib.hid (O1.out.trans ho2);have Z2:=Lib.hid hz2';have e0:=(TB.out.old O2.out).c0;have e1:=(TB.out.old O2.out).c1;have e2:=(T8.out.old O2.out).c0;have e3:=(T8.out.old O2.out).c1;clear hz2' ho2)
        | (go_at_call 167;refine (HSB.out b R' _ _ _ (by omega) (by omega) bR' (yr.out.old O2.out) Z2.out).mono ?_;rintro e w3 ⟨z3,rfl,hz3',ho3⟩;have Z3:=rn_of hz3' HRR.out;obtain ⟨o3,k3,rfl,rd3⟩:=Z3;clear hz3'
           have O3:=Lib.hid (O2.out.trans ho3);have R3:=Lib.hid rd3;have f0:=(TB.out.old O3.out).c0;have f1:=(TB.out.old O3.out).c1;have f2:=(T8.out.old O3.out).c0;have f3:=(T8.out.old O3.out).c1;have f4:=(T8.out.old O3.out).f 0;have f5:=(T8.out.old O3.out).f 1;clear rd3 ho3))
       all_goals
        have HQ9:=Lib.hid ((HQ8.out.step O3.out).setR HL.out R3.out)
        go_wp2_with fail
        go_roundw
        case rel=>exact ⟨k,by omega,by go_num,_,QI.next ga hbb (by have:=HLA.out;omega) hQ (by rw [HT.out,HR'.out,HX.out,HR.out]),HQ9.out⟩
        case measure=>simp [intOf]
end Go.Proofs.YtmkmafkkpigfpaaGreatDoor
