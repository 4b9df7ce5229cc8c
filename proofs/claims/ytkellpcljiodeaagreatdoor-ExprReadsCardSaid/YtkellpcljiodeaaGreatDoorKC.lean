/- Layer expr: an infix operator, and what stands behind it. -/
import Derived.Test.YtkellpcljiodeaaGreatDoorKB
set_option maxHeartbeats 1600000
namespace Go.Proofs.YtkellpcljiodeaaGreatDoor
open Go.ChangeShapes Go.WideShapes Go.ChangeAt Go.RowKit Go.Lib
set_option linter.unusedVariables false
set_option linter.unusedSimpArgs false
set_option maxRecDepth 100000
theorem take_at {w0:Wz} {w:World} {b n o:Nat} {vw vm vt:Value} {A:List Tk} {T:List Nd} (H:Rr w0 b vw vm A T n o vt w) (hn:n≤A.length) (hA:A.length≤200000) {k xk xn ln cl:Int} {t xs:List UInt8} (hx:wordL (A.drop n)=⟨k,t,xk,xn,xs,ln,cl⟩) :
 Calls Tryz.prog 143 #[.pointer (some ⟨b,0,none⟩)] w fun e w'=>e=.returned (.agg #[.int .u8 k,.string (st t),.int .u8 xk,.int .i64 xn,.string (st xs),.int .i64 ln,.int .i64 cl])∧Chx (·= b) w w'∧RdB w' b vw ((n+1:Nat):Int) o vt vm:=by
 have h:=take_any H hn hA
 rw [hx] at h
 exact h
def Lv (w0:Wz) (b:Nat) (vw vm:Value) (A:List Tk) (F:Nat):Prop:=
 ∀ (L o n:Nat) (T:List Nd) (vt:Value) (w:World),L≤7→o≤12→n≤A.length→T.length≤n→Rr w0 b vw vm A T n o vt w→P F (.lvl L) o (A.drop n)≠.out→
   Calls Tryz.prog (56+L) #[.pointer (some ⟨b,0,none⟩)] w (Res w0 b vw vm A T n o w (P F (.lvl L) o (A.drop n)))
theorem drop_tl (A:List Tk) (n:Nat):(A.drop n).tail=A.drop (n+1):=by rw [List.tail_drop]
theorem drop_lt {A:List Tk} {n:Nat} (h:A.drop n≠[]):n<A.length:=by
 rcases Nat.lt_or_ge n A.length with hlt|hge
 ·exact hlt
 ·exact absurd (List.drop_eq_nil_of_le hge) h
theorem kr_new {w:World} {base:Nat} (h:base≤w.heap.size) (hs:List Nat) (hm:hs.length≤1000) (cs:Array Value) (hc:cs.toList=hs.map fun k:Nat=>Value.int .i64 (k:Int)):KR (w.alloc (.cells cs 3)) base (.slice (some ⟨w.heap.size,0,none⟩) hs.length hs.length) hs:=by
 have hl:cs.size=hs.length:=by rw [←Array.length_toList,hc,List.length_map]
 refine ⟨by simp,Or.inr ⟨w.heap.size,hs.length,cs,rfl,h,(MapKept.heap_alloc w _).1,Nat.le_refl _,by unfold maxLen;omega,by omega,?_⟩⟩
 rw [hc,List.take_of_length_le (by simp)]
theorem pl_cg {N0 b:Nat} {w w':World} {g:Nat} {L C:Int} {vw vt vm:Value} {n o:Int} (h:Pl w g L C) (hr:RdB w b vw n o vt vm) (c:Cg N0 b w w'):Pl w' g L C:=c.cells h (hr.ne h (by decide)) (by decide)
structure Rt (w0:Wz) (b:Nat) (vw vm:Value) (A:List Tk) (T:List Nd) (n o:Nat) (w:World) (ns:List Nd) (r:List Tk) (m:Nat) (w':World):Prop where
 hr:r=A.drop m
 hm:m≤A.length
 cg:Cg w0.heap.size b w w'
 ok:Rok w0 b vw vm A (T++ns) m o w'
 pos:1≤ns.length
 le:n+ns.length≤m
theorem calls_rt {w0:Wz} {b n o f:Nat} {vw vm:Value} {A:List Tk} {T ns:List Nd} {r:List Tk} {args:Array Value} {w:World} (h:Calls Tryz.prog f args w (Res w0 b vw vm A T n o w (.ok ns r))) {R:Nat} (hR:R=T.length+ns.length-1) :
 Calls Tryz.prog f args w fun e w'=>∃ m,e=.returned (.int .i64 (R:Int))∧Hid (Rt w0 b vw vm A T n o w ns r m w'):=by
 refine h.mono ?_
 rintro e w' ⟨m,h1,h2,h3,h4,h5,h6,h7⟩
 exact ⟨m,by rw [hR];exact h3,hid ⟨h1,h2,h4,h5,h6,h7⟩⟩
theorem calls_no {w0:Wz} {b n o f:Nat} {vw vm:Value} {A:List Tk} {T:List Nd} {er:Int} {r:List Tk} {args:Array Value} {w:World} (h:Calls Tryz.prog f args w (Res w0 b vw vm A T n o w (.no er r))) :
 Calls Tryz.prog f args w fun e w'=>e=pan er∧Hid (∀ (w1:World) (T':List Nd) (c' o':Nat),Cg w0.heap.size b w1 w→Res w0 b vw vm A T' c' o' w1 (.no er r) (pan er) w'):=by
 refine h.mono ?_
 rintro e w' ⟨m,h1,h2,h3,h4,h5⟩
 exact ⟨h3,hid (fun w1 T' c' o' hc=>⟨m,h1,h2,rfl,hc.trans h4,h5⟩)⟩
theorem pair_add {w0:Wz} {w w3:World} {b n o m Lf R:Nat} {vw vm:Value} {A:List Tk} {T0 ns0 ns2:List Nd} {r:List Tk} (h:Rt w0 b vw vm A (T0++ns0) n o w ns2 r m w3) (hLf:Lf=T0.length+ns0.length-1) (hR:R=(T0++ns0).length+ns2.length-1) (opn:Nat) (ln cl:Int) (hA:A.length≤200000) (hT:(T0++ns0).length≤n) :
 Calls Tryz.prog 141 #[.pointer (some ⟨b,0,none⟩),.agg #[.int .u8 (opn:Int),.int .u8 0,.int .i64 0,.string ⟨#[]⟩,.string ⟨#[]⟩,.slice (some ⟨w3.heap.size,0,none⟩) 2 2,.int .i64 ln,.int .i64 cl]] (w3.alloc (.cells #[.int .i64 (Lf:Int),.int .i64 (R:Int)] 3)) fun e w'=>
  ∃ Z:Nat,e=.returned (.int .i64 (Z:Int))∧Z=(T0++ns0++ns2).length∧Cg w0.heap.size b w3 w'∧Rok w0 b vw vm A (T0++ns0++ns2++[⟨opn,0,0,[],[],[ns2.length+1,1],ln,cl⟩]) m o w':=by
 obtain ⟨vt,hrr⟩:=h.ok
 have ho:=(Old.refl w3).alloc (.cells #[.int .i64 (Lf:Int),.int .i64 (R:Int)] 3)
 have hl:=h.le
 have hm:=h.hm
 have hk:=kr_new (w:=w3) hrr.ri.old.size [Lf,R] (by simp) #[.int .i64 (Lf:Int),.int .i64 (R:Int)] rfl
 have e1:[Lf,R]=[ns2.length+1,1].map ((T0++ns0++ns2).length-·):=by
  simp only [List.map_cons,List.map_nil,List.length_append] at hLf hR ⊢
  rw [hLf,hR]
  congr 1
  omega
 rw [e1] at hk
 refine (add_any (hrr.oldw ho) ⟨opn,0,0,[],[],[ns2.length+1,1],ln,cl⟩ _ ⟨hk,fun g e hs=>by have:=hrr.ri.sb g hs;simp [Value.ownBlock] at e;omega⟩ (by rw [List.length_append];omega)).mono ?_
 rintro e w' ⟨h1,h2,h3⟩
 exact ⟨_,h1,rfl,(Cg.ofOld ho).trans h2,h3⟩
theorem pair_done {w0:Wz} {w w1 w3 w4:World} {b n c o m:Nat} {vw vm:Value} {A:List Tk} {T0 ns0 ns2:List Nd} {r:List Tk} {x:Nd} (h:Rt w0 b vw vm A (T0++ns0) n o w1 ns2 r m w3) (c1:Cg w0.heap.size b w w1) (c2:Cg w0.heap.size b w3 w4) (hr:Rok w0 b vw vm A (T0++ns0++ns2++[x]) m o w4) (hc:c+ns0.length+1≤n) {Z:Nat} (hZ:Z=(T0++ns0++ns2).length) :
 Res w0 b vw vm A T0 c o w (.ok (ns0++ns2++[x]) r) (.returned (.int .i64 (Z:Int))) w4:=by
 subst hZ
 refine ⟨m,h.hr,h.hm,?_,(c1.trans h.cg).trans c2,?_,by simp;omega,?_⟩
 ·congr 3
  simp
  omega
 ·rw [←List.append_assoc,←List.append_assoc]
  exact hr
 ·have:=h.le
  simp
  omega
theorem pairs_any {w0:Wz} {w:World} {b n c o F L:Nat} {vw vm vt:Value} {A:List Tk} {T0 ns0:List Nd} (ih:Lv w0 b vw vm A F) (H:Rr w0 b vw vm A (T0++ns0) n o vt w) (hA:A.length≤200000) (ho:o≤12) (hTn:(T0++ns0).length≤n) (hc:c+ns0.length≤n)
 (hL:L=0∨L=1∨L=3∨L=4∨L=5) (hi:inL L (A.drop n)≠0) (hout:pairP (P F) L ns0 o (A.drop n)≠.out) :
 Calls Tryz.prog 100 #[.pointer (some ⟨b,0,none⟩),.int .i64 (L:Int),.int .i64 ((T0.length+ns0.length-1:Nat):Int)] w (Res w0 b vw vm A T0 c o w (pairP (P F) L ns0 o (A.drop n))):=by
 have hlt:=drop_lt (inL_ne hi)
 have hn:=Nat.le_of_lt hlt
 obtain ⟨x,hx⟩:∃ x,wordL (A.drop n)=x:=⟨_,rfl⟩
 obtain ⟨k,t,xk,xn,xs,ln,cl⟩:=x
 have hfl:=fld_at k xk xn ln cl (st t) (st xs)
 have hin:=fun W (h:Old w W)=>infix_any (H.oldw h) hn hA L
 have htk:=fun W (h:Old w W)=>take_at (H.oldw h) hn hA hx
 unfold pairP at hout ⊢
 rw [hx,drop_tl] at *
 have hne:=bnd_out hout
 obtain ⟨opn,hop⟩:∃ z,inL L (A.drop n)=z:=⟨_,rfl⟩
 rw [hop] at hin hi ⊢
 have HIN:=hid hin
 have HTK:=hid htk
 have HX:=hid H
 have HNN:=hid hTn
 have HB2:=hid (Nat.le_succ_of_le hTn)
 have HCC:=hid (show c+ns0.length+1≤n+1 by omega)
 have HLT:=hid hlt
 clear hin htk hx hop hTn
 have hih:=fun (vt':Value) W (h:Rr w0 b vw vm A (T0++ns0) (n+1) o vt' W)=>ih (L+1) o (n+1) (T0++ns0) vt' W (by omega) ho hlt (Nat.le_succ_of_le HNN.out) h hne
 clear ih
 obtain ⟨Lf,hLf⟩:∃ Lf,Lf=T0.length+ns0.length-1:=⟨_,rfl⟩
 rw [←hLf]
 have HLF:=hid hLf
 clear hLf
 cases hP:P F (.lvl (L+1)) o (A.drop (n+1)) with
 | out=>exact absurd hP hne
 | no er r=>
   rw [hP] at hih
   have HIH:=hid (fun vt' W (h:Rr w0 b vw vm A (T0++ns0) (n+1) o vt' W)=>calls_no (hih vt' W h))
   clear hih hlt hn H hP hne hout
   rcases hL with rfl|rfl|rfl|rfl|rfl
   ·go_enter Tryz.func100,Tryz.ntmps100
    go_wp2_with (first
     | (go_at_call 99;refine (HIN.out _ (Old.refl _)).mono ?_;rintro e w1 ⟨rfl,o1⟩;have O1:=hid o1;clear o1)
     | (go_at_call 143;refine (HTK.out _ O1.out).mono ?_;rintro e w2 ⟨rfl,h2,h3⟩;have H2:=hid ((HX.out.oldw O1.out).chx h2 h3);have C2:=hid ((Chx.ofOld O1.out).trans h2);have HPL:=hid (show Pl (w2.alloc (.cells #[.int .i64 ln,.int .i64 cl] 26)) w2.heap.size ln cl from (MapKept.heap_alloc w2 _).1);replace H2:=hid (H2.out.oldw ((Old.refl w2).alloc (.cells #[.int .i64 ln,.int .i64 cl] 26)));have C3:=hid (C2.out.trans (Chx.ofOld ((Old.refl w2).alloc (.cells #[.int .i64 ln,.int .i64 cl] 26))));have c5:=H2.out.rd.c 5;clear h2 h3)
     | (go_at_call 57;refine (HIH.out _ _ H2.out).mono ?_;rintro e w3 ⟨rfl,h3⟩;have H3:=hid (h3.out _ T0 c o (Cg.ofChx C3.out));clear h3))
    exact ⟨rfl,H3.out⟩
   ·go_enter Tryz.func100,Tryz.ntmps100
    go_wp2_with (first
     | (go_at_call 99;refine (HIN.out _ (Old.refl _)).mono ?_;rintro e w1 ⟨rfl,o1⟩;have O1:=hid o1;clear o1)
     | (go_at_call 143;refine (HTK.out _ O1.out).mono ?_;rintro e w2 ⟨rfl,h2,h3⟩;have H2:=hid ((HX.out.oldw O1.out).chx h2 h3);have C2:=hid ((Chx.ofOld O1.out).trans h2);have HPL:=hid (show Pl (w2.alloc (.cells #[.int .i64 ln,.int .i64 cl] 26)) w2.heap.size ln cl from (MapKept.heap_alloc w2 _).1);replace H2:=hid (H2.out.oldw ((Old.refl w2).alloc (.cells #[.int .i64 ln,.int .i64 cl] 26)));have C3:=hid (C2.out.trans (Chx.ofOld ((Old.refl w2).alloc (.cells #[.int .i64 ln,.int .i64 cl] 26))));have c5:=H2.out.rd.c 6;clear h2 h3)
     | (go_at_call 58;refine (HIH.out _ _ H2.out).mono ?_;rintro e w3 ⟨rfl,h3⟩;have H3:=hid (h3.out _ T0 c o (Cg.ofChx C3.out));clear h3))
    exact ⟨rfl,H3.out⟩
   ·go_enter Tryz.func100,Tryz.ntmps100
    go_wp2_with (first
     | (go_at_call 99;refine (HIN.out _ (Old.refl _)).mono ?_;rintro e w1 ⟨rfl,o1⟩;have O1:=hid o1;clear o1)
     | (go_at_call 143;refine (HTK.out _ O1.out).mono ?_;rintro e w2 ⟨rfl,h2,h3⟩;have H2:=hid ((HX.out.oldw O1.out).chx h2 h3);have C2:=hid ((Chx.ofOld O1.out).trans h2);have HPL:=hid (show Pl (w2.alloc (.cells #[.int .i64 ln,.int .i64 cl] 26)) w2.heap.size ln cl from (MapKept.heap_alloc w2 _).1);replace H2:=hid (H2.out.oldw ((Old.refl w2).alloc (.cells #[.int .i64 ln,.int .i64 cl] 26)));have C3:=hid (C2.out.trans (Chx.ofOld ((Old.refl w2).alloc (.cells #[.int .i64 ln,.int .i64 cl] 26))));have c5:=H2.out.rd.c 8;clear h2 h3)
     | (go_at_call 60;refine (HIH.out _ _ H2.out).mono ?_;rintro e w3 ⟨rfl,h3⟩;have H3:=hid (h3.out _ T0 c o (Cg.ofChx C3.out));clear h3))
    exact ⟨rfl,H3.out⟩
   ·go_enter Tryz.func100,Tryz.ntmps100
    go_wp2_with (first
     | (go_at_call 99;refine (HIN.out _ (Old.refl _)).mono ?_;rintro e w1 ⟨rfl,o1⟩;have O1:=hid o1;clear o1)
     | (go_at_call 143;refine (HTK.out _ O1.out).mono ?_;rintro e w2 ⟨rfl,h2,h3⟩;have H2:=hid ((HX.out.oldw O1.out).chx h2 h3);have C2:=hid ((Chx.ofOld O1.out).trans h2);have HPL:=hid (show Pl (w2.alloc (.cells #[.int .i64 ln,.int .i64 cl] 26)) w2.heap.size ln cl from (MapKept.heap_alloc w2 _).1);replace H2:=hid (H2.out.oldw ((Old.refl w2).alloc (.cells #[.int .i64 ln,.int .i64 cl] 26)));have C3:=hid (C2.out.trans (Chx.ofOld ((Old.refl w2).alloc (.cells #[.int .i64 ln,.int .i64 cl] 26))));have c5:=H2.out.rd.c 9;clear h2 h3)
     | (go_at_call 61;refine (HIH.out _ _ H2.out).mono ?_;rintro e w3 ⟨rfl,h3⟩;have H3:=hid (h3.out _ T0 c o (Cg.ofChx C3.out));clear h3))
    exact ⟨rfl,H3.out⟩
   ·go_enter Tryz.func100,Tryz.ntmps100
    go_wp2_with (first
     | (go_at_call 99;refine (HIN.out _ (Old.refl _)).mono ?_;rintro e w1 ⟨rfl,o1⟩;have O1:=hid o1;clear o1)
     | (go_at_call 143;refine (HTK.out _ O1.out).mono ?_;rintro e w2 ⟨rfl,h2,h3⟩;have H2:=hid ((HX.out.oldw O1.out).chx h2 h3);have C2:=hid ((Chx.ofOld O1.out).trans h2);have HPL:=hid (show Pl (w2.alloc (.cells #[.int .i64 ln,.int .i64 cl] 26)) w2.heap.size ln cl from (MapKept.heap_alloc w2 _).1);replace H2:=hid (H2.out.oldw ((Old.refl w2).alloc (.cells #[.int .i64 ln,.int .i64 cl] 26)));have C3:=hid (C2.out.trans (Chx.ofOld ((Old.refl w2).alloc (.cells #[.int .i64 ln,.int .i64 cl] 26))));have c5:=H2.out.rd.c 10;clear h2 h3)
     | (go_at_call 62;refine (HIH.out _ _ H2.out).mono ?_;rintro e w3 ⟨rfl,h3⟩;have H3:=hid (h3.out _ T0 c o (Cg.ofChx C3.out));clear h3))
    exact ⟨rfl,H3.out⟩
 | ok ns2 r=>
   rw [hP] at hih
   obtain ⟨R,hR⟩:∃ R,R=(T0++ns0).length+ns2.length-1:=⟨_,rfl⟩
   have HIH:=hid (fun vt' W (h:Rr w0 b vw vm A (T0++ns0) (n+1) o vt' W)=>calls_rt (hih vt' W h) hR)
   have HRR:=hid hR
   clear hih hlt hn H hP hne hout hR
   rcases hL with rfl|rfl|rfl|rfl|rfl
   ·go_enter Tryz.func100,Tryz.ntmps100
    go_wp2_with (first
     | (go_at_call 99;refine (HIN.out _ (Old.refl _)).mono ?_;rintro e w1 ⟨rfl,o1⟩;have O1:=hid o1;clear o1)
     | (go_at_call 143;refine (HTK.out _ O1.out).mono ?_;rintro e w2 ⟨rfl,h2,h3⟩;have H2:=hid ((HX.out.oldw O1.out).chx h2 h3);have C2:=hid ((Chx.ofOld O1.out).trans h2);have HPL:=hid (show Pl (w2.alloc (.cells #[.int .i64 ln,.int .i64 cl] 26)) w2.heap.size ln cl from (MapKept.heap_alloc w2 _).1);replace H2:=hid (H2.out.oldw ((Old.refl w2).alloc (.cells #[.int .i64 ln,.int .i64 cl] 26)));have C3:=hid (C2.out.trans (Chx.ofOld ((Old.refl w2).alloc (.cells #[.int .i64 ln,.int .i64 cl] 26))));have c5:=H2.out.rd.c 5;clear h2 h3)
     | (go_at_call 57;refine (HIH.out _ _ H2.out).mono ?_;rintro e w3 ⟨m,rfl,h3⟩;replace HPL:=hid ((pl_cg HPL.out H2.out.rd h3.out.cg).old ((Old.refl w3).alloc (.cells #[.int .i64 (Lf:Int),.int .i64 (R:Int)] 3)));have p0:=HPL.out.c0;have p1:=HPL.out.c1)
     | (go_at_call 141;refine (pair_add h3.out HLF.out HRR.out opn ln cl hA HB2.out).mono ?_;rintro e w4 ⟨Z,rfl,hZ,h4,h5⟩;have H4:=hid (pair_done h3.out (Cg.ofChx C3.out) h4 h5 HCC.out hZ);clear h4 h5 hZ))
    go_ret
    exact H4.out
   ·go_enter Tryz.func100,Tryz.ntmps100
    go_wp2_with (first
     | (go_at_call 99;refine (HIN.out _ (Old.refl _)).mono ?_;rintro e w1 ⟨rfl,o1⟩;have O1:=hid o1;clear o1)
     | (go_at_call 143;refine (HTK.out _ O1.out).mono ?_;rintro e w2 ⟨rfl,h2,h3⟩;have H2:=hid ((HX.out.oldw O1.out).chx h2 h3);have C2:=hid ((Chx.ofOld O1.out).trans h2);have HPL:=hid (show Pl (w2.alloc (.cells #[.int .i64 ln,.int .i64 cl] 26)) w2.heap.size ln cl from (MapKept.heap_alloc w2 _).1);replace H2:=hid (H2.out.oldw ((Old.refl w2).alloc (.cells #[.int .i64 ln,.int .i64 cl] 26)));have C3:=hid (C2.out.trans (Chx.ofOld ((Old.refl w2).alloc (.cells #[.int .i64 ln,.int .i64 cl] 26))));have c5:=H2.out.rd.c 6;clear h2 h3)
     | (go_at_call 58;refine (HIH.out _ _ H2.out).mono ?_;rintro e w3 ⟨m,rfl,h3⟩;replace HPL:=hid ((pl_cg HPL.out H2.out.rd h3.out.cg).old ((Old.refl w3).alloc (.cells #[.int .i64 (Lf:Int),.int .i64 (R:Int)] 3)));have p0:=HPL.out.c0;have p1:=HPL.out.c1)
     | (go_at_call 141;refine (pair_add h3.out HLF.out HRR.out opn ln cl hA HB2.out).mono ?_;rintro e w4 ⟨Z,rfl,hZ,h4,h5⟩;have H4:=hid (pair_done h3.out (Cg.ofChx C3.out) h4 h5 HCC.out hZ);clear h4 h5 hZ))
    go_ret
    exact H4.out
   ·go_enter Tryz.func100,Tryz.ntmps100
    go_wp2_with (first
     | (go_at_call 99;refine (HIN.out _ (Old.refl _)).mono ?_;rintro e w1 ⟨rfl,o1⟩;have O1:=hid o1;clear o1)
     | (go_at_call 143;refine (HTK.out _ O1.out).mono ?_;rintro e w2 ⟨rfl,h2,h3⟩;have H2:=hid ((HX.out.oldw O1.out).chx h2 h3);have C2:=hid ((Chx.ofOld O1.out).trans h2);have HPL:=hid (show Pl (w2.alloc (.cells #[.int .i64 ln,.int .i64 cl] 26)) w2.heap.size ln cl from (MapKept.heap_alloc w2 _).1);replace H2:=hid (H2.out.oldw ((Old.refl w2).alloc (.cells #[.int .i64 ln,.int .i64 cl] 26)));have C3:=hid (C2.out.trans (Chx.ofOld ((Old.refl w2).alloc (.cells #[.int .i64 ln,.int .i64 cl] 26))));have c5:=H2.out.rd.c 8;clear h2 h3)
     | (go_at_call 60;refine (HIH.out _ _ H2.out).mono ?_;rintro e w3 ⟨m,rfl,h3⟩;replace HPL:=hid ((pl_cg HPL.out H2.out.rd h3.out.cg).old ((Old.refl w3).alloc (.cells #[.int .i64 (Lf:Int),.int .i64 (R:Int)] 3)));have p0:=HPL.out.c0;have p1:=HPL.out.c1)
     | (go_at_call 141;refine (pair_add h3.out HLF.out HRR.out opn ln cl hA HB2.out).mono ?_;rintro e w4 ⟨Z,rfl,hZ,h4,h5⟩;have H4:=hid (pair_done h3.out (Cg.ofChx C3.out) h4 h5 HCC.out hZ);clear h4 h5 hZ))
    go_ret
    exact H4.out
   ·go_enter Tryz.func100,Tryz.ntmps100
    go_wp2_with (first
     | (go_at_call 99;refine (HIN.out _ (Old.refl _)).mono ?_;rintro e w1 ⟨rfl,o1⟩;have O1:=hid o1;clear o1)
     | (go_at_call 143;refine (HTK.out _ O1.out).mono ?_;rintro e w2 ⟨rfl,h2,h3⟩;have H2:=hid ((HX.out.oldw O1.out).chx h2 h3);have C2:=hid ((Chx.ofOld O1.out).trans h2);have HPL:=hid (show Pl (w2.alloc (.cells #[.int .i64 ln,.int .i64 cl] 26)) w2.heap.size ln cl from (MapKept.heap_alloc w2 _).1);replace H2:=hid (H2.out.oldw ((Old.refl w2).alloc (.cells #[.int .i64 ln,.int .i64 cl] 26)));have C3:=hid (C2.out.trans (Chx.ofOld ((Old.refl w2).alloc (.cells #[.int .i64 ln,.int .i64 cl] 26))));have c5:=H2.out.rd.c 9;clear h2 h3)
     | (go_at_call 61;refine (HIH.out _ _ H2.out).mono ?_;rintro e w3 ⟨m,rfl,h3⟩;replace HPL:=hid ((pl_cg HPL.out H2.out.rd h3.out.cg).old ((Old.refl w3).alloc (.cells #[.int .i64 (Lf:Int),.int .i64 (R:Int)] 3)));have p0:=HPL.out.c0;have p1:=HPL.out.c1)
     | (go_at_call 141;refine (pair_add h3.out HLF.out HRR.out opn ln cl hA HB2.out).mono ?_;rintro e w4 ⟨Z,rfl,hZ,h4,h5⟩;have H4:=hid (pair_done h3.out (Cg.ofChx C3.out) h4 h5 HCC.out hZ);clear h4 h5 hZ))
    go_ret
    exact H4.out
   ·go_enter Tryz.func100,Tryz.ntmps100
    go_wp2_with (first
     | (go_at_call 99;refine (HIN.out _ (Old.refl _)).mono ?_;rintro e w1 ⟨rfl,o1⟩;have O1:=hid o1;clear o1)
     | (go_at_call 143;refine (HTK.out _ O1.out).mono ?_;rintro e w2 ⟨rfl,h2,h3⟩;have H2:=hid ((HX.out.oldw O1.out).chx h2 h3);have C2:=hid ((Chx.ofOld O1.out).trans h2);have HPL:=hid (show Pl (w2.alloc (.cells #[.int .i64 ln,.int .i64 cl] 26)) w2.heap.size ln cl from (MapKept.heap_alloc w2 _).1);replace H2:=hid (H2.out.oldw ((Old.refl w2).alloc (.cells #[.int .i64 ln,.int .i64 cl] 26)));have C3:=hid (C2.out.trans (Chx.ofOld ((Old.refl w2).alloc (.cells #[.int .i64 ln,.int .i64 cl] 26))));have c5:=H2.out.rd.c 10;clear h2 h3)
     | (go_at_call 62;refine (HIH.out _ _ H2.out).mono ?_;rintro e w3 ⟨m,rfl,h3⟩;replace HPL:=hid ((pl_cg HPL.out H2.out.rd h3.out.cg).old ((Old.refl w3).alloc (.cells #[.int .i64 (Lf:Int),.int .i64 (R:Int)] 3)));have p0:=HPL.out.c0;have p1:=HPL.out.c1)
     | (go_at_call 141;refine (pair_add h3.out HLF.out HRR.out opn ln cl hA HB2.out).mono ?_;rintro e w4 ⟨Z,rfl,hZ,h4,h5⟩;have H4:=hid (pair_done h3.out (Cg.ofChx C3.out) h4 h5 HCC.out hZ);clear h4 h5 hZ))
    go_ret
    exact H4.out
end Go.Proofs.YtkellpcljiodeaaGreatDoor
namespace Go.Proofs.YtkellpcljiodeaaGreatDoor
open Go.ChangeShapes Go.WideShapes Go.ChangeAt Go.RowKit Go.Lib
set_option linter.unusedVariables false
set_option linter.unusedSimpArgs false
set_option maxRecDepth 100000
theorem nextOf_rd {W:World} {b:Nat} {vw vt vm:Value} {n:Nat} {o:Int} (h:RdB W b vw (n:Int) o vt vm):nextOf W b=n:=by
 unfold nextOf
 rw [h.c 1]
 rfl
structure Ch (w0:Wz) (b:Nat) (vw vm:Value) (A:List Tk) (T:List Nd) (c o:Nat) (w:World) (X:Rz) (F L:Nat) (G:Nat) (ns:List Nd) (m Lf:Nat) (wr:World):Prop where
 le:G≤F
 cg:Cg w0.heap.size b w wr
 ok:Rok w0 b vw vm A (T++ns) m o wr
 pos:1≤ns.length
 bd:c+ns.length≤m
 hm:m≤A.length
 lf:Lf=T.length+ns.length-1
 eq:P G (.tail L ns) o (A.drop m)=X
theorem ch_pair {w0:Wz} {w wr:World} {b c o F L G m Lf:Nat} {vw vm:Value} {A:List Tk} {T ns:List Nd} {X:Rz} (ih:∀ G,G≤F→Lv w0 b vw vm A G) (hA:A.length≤200000) (ho:o≤12) (hT:T.length≤c) (hX:X≠.out)
 (hL:L=0∨L=1∨L=3∨L=4∨L=5) (h:Ch w0 b vw vm A T c o w X F L G ns m Lf wr) (hi:inL L (A.drop m)≠0) {w1:World} (ho1:Old wr w1) :
 Calls Tryz.prog 100 #[.pointer (some ⟨b,0,none⟩),.int .i64 (L:Int),.int .i64 (Lf:Int)] w1 fun e w'=>
  (∃ (G':Nat) (ns':List Nd) (m' Lf':Nat),e=.returned (.int .i64 (Lf':Int))∧Hid (Ch w0 b vw vm A T c o w X F L G' ns' m' Lf' w'∧m<m'))∨
  (∃ er,e=pan er∧Hid (Res w0 b vw vm A T c o w X (pan er) w')):=by
 obtain ⟨vt,hrr⟩:=h.ok
 have hbd:=h.bd
 cases G with
 | zero=>exact absurd h.eq.symm (fun e=>hX (e.trans rfl))
 | succ G=>
   have heq:=h.eq
   unfold P at heq
   rw [if_neg hi] at heq
   have hne:pairP (P G) L ns o (A.drop m)≠.out:=fun e=>hX (by rw [←heq,e];rfl)
   have hp:=pairs_any (c:=c) (ih G (by have:=h.le;omega)) (hrr.oldw ho1) hA ho (by rw [List.length_append];omega) hbd hL hi hne
   rw [←h.lf] at hp
   refine hp.mono ?_
   intro e w' hr
   cases hz:pairP (P G) L ns o (A.drop m) with
   | out=>exact absurd hz hne
   | no er r=>
     rw [hz] at hr heq
     obtain ⟨n',h1,h2,h3,h4,h5⟩:=hr
     refine Or.inr ⟨er,h3,hid ?_⟩
     rw [←heq]
     exact ⟨n',h1,h2,rfl,(h.cg.trans (Cg.ofOld ho1)).trans h4,h5⟩
   | ok ns' r=>
     have htk:=(takes G).pair (inL_ne hi) hz
     rw [hz] at hr heq
     obtain ⟨n',h1,h2,h3,h4,h5,h6,h7⟩:=hr
     refine Or.inl ⟨G,ns',n',_,h3,hid ⟨⟨by have:=h.le;omega,(h.cg.trans (Cg.ofOld ho1)).trans h4,h5,h6,h7,h2,rfl,?_⟩,?_⟩⟩
     ·rw [←h1]
      exact heq
     ·rw [h1,List.length_drop,List.length_drop] at htk
      omega
theorem chain_any {w0:Wz} {w:World} {b n o F L:Nat} {vw vm vt:Value} {A:List Tk} {T:List Nd} (ih:∀ G,G≤F→Lv w0 b vw vm A G) (H:Rr w0 b vw vm A T n o vt w) (hn:n≤A.length) (hA:A.length≤200000) (ho:o≤12) (hTn:T.length≤n)
 (hL:L=0∨L=1∨L=4∨L=5) {X:Rz} (hX:(P F (.lvl (L+1)) o (A.drop n)).bnd (fun ns r=>P F (.tail L ns) o r)=X) (hout:X≠.out) :
 Calls Tryz.prog 97 #[.pointer (some ⟨b,0,none⟩),.int .i64 (L:Int)] w (Res w0 b vw vm A T n o w X):=by
 have hne:P F (.lvl (L+1)) o (A.drop n)≠.out:=fun e=>hout (by rw [←hX,e];rfl)
 have hih:=ih F (Nat.le_refl _) (L+1) o n T vt w (by omega) ho hn hTn H hne
 cases hP:P F (.lvl (L+1)) o (A.drop n) with
 | out=>exact absurd hP hne
 | no er r=>
   rw [hP] at hih hX
   have hX':Rz.no er r=X:=hX
   subst hX'
   have HIH:=hid (calls_no hih)
   have HC:=hid (Cg.refl (N0:=w0.heap.size) (b:=b) w)
   have c5:=H.rd.c (4+L+1)
   clear hih hne hP ih hX hout
   rcases hL with rfl|rfl|rfl|rfl
   ·go_enter Tryz.func97,Tryz.ntmps97
    go_wp2_with (go_at_call 57;refine HIH.out.mono ?_;rintro e w1 ⟨rfl,h1⟩;have H1:=hid (h1.out _ T n o HC.out);clear h1)
    exact ⟨rfl,H1.out⟩
   ·go_enter Tryz.func97,Tryz.ntmps97
    go_wp2_with (go_at_call 58;refine HIH.out.mono ?_;rintro e w1 ⟨rfl,h1⟩;have H1:=hid (h1.out _ T n o HC.out);clear h1)
    exact ⟨rfl,H1.out⟩
   ·go_enter Tryz.func97,Tryz.ntmps97
    go_wp2_with (go_at_call 61;refine HIH.out.mono ?_;rintro e w1 ⟨rfl,h1⟩;have H1:=hid (h1.out _ T n o HC.out);clear h1)
    exact ⟨rfl,H1.out⟩
   ·go_enter Tryz.func97,Tryz.ntmps97
    go_wp2_with (go_at_call 62;refine HIH.out.mono ?_;rintro e w1 ⟨rfl,h1⟩;have H1:=hid (h1.out _ T n o HC.out);clear h1)
    exact ⟨rfl,H1.out⟩
 | ok ns r=>
   rw [hP] at hih hX
   have hX':P F (.tail L ns) o r=X:=hX
   obtain ⟨R,hR⟩:∃ R,R=T.length+ns.length-1:=⟨_,rfl⟩
   have HIH:=hid (calls_rt hih hR)
   have c5:=H.rd.c (4+L+1)
   have HT:=hid (show ∀ (G:Nat) (ns:List Nd) (m Lf:Nat) (wr:World),Ch w0 b vw vm A T n o w X F L G ns m Lf wr→inL L (A.drop m)≠0→∀ w1,Old wr w1→Calls Tryz.prog 100 #[.pointer (some ⟨b,0,none⟩),.int .i64 (L:Int),.int .i64 (Lf:Int)] w1 fun e w'=>
    (∃ (G':Nat) (ns':List Nd) (m' Lf':Nat),e=.returned (.int .i64 (Lf':Int))∧Hid (Ch w0 b vw vm A T n o w X F L G' ns' m' Lf' w'∧m<m'))∨
    (∃ er,e=pan er∧Hid (Res w0 b vw vm A T n o w X (pan er) w')) from fun G ns m Lf wr h hi w1 ho1=>ch_pair ih hA ho hTn hout (by omega) h hi ho1)
   have HI:=hid (show ∀ (G:Nat) (ns:List Nd) (m Lf:Nat) (wr:World),Ch w0 b vw vm A T n o w X F L G ns m Lf wr→Calls Tryz.prog 99 #[.pointer (some ⟨b,0,none⟩),.int .i64 (L:Int)] wr fun e w'=>e=.returned (.int .u8 (inL L (A.drop m):Nat))∧Old wr w' from fun G ns m Lf wr h=>by
    obtain ⟨vt',hrr⟩:=h.ok
    exact infix_any hrr h.hm hA L)
   have HB:=hid (show ∀ (m:Nat) (w1:World),Rt w0 b vw vm A T n o w ns r m w1→Ch w0 b vw vm A T n o w X F L F ns m R w1 from fun m w1 h=>⟨Nat.le_refl _,h.cg,h.ok,h.pos,h.le,h.hm,hR,by rw [←h.hr];exact hX'⟩)
   have HN:=hid (show ∀ (G:Nat) (ns:List Nd) (m Lf:Nat) (wr:World),Ch w0 b vw vm A T n o w X F L G ns m Lf wr→nextOf wr b=m from fun G ns m Lf wr h=>by
    obtain ⟨vt',hrr⟩:=h.ok
    exact nextOf_rd hrr.rd)
   have HE:=hid (show ∀ (G:Nat) (ns:List Nd) (m Lf:Nat) (wr:World),Ch w0 b vw vm A T n o w X F L G ns m Lf wr→inL L (A.drop m)=0→∀ w1,Old wr w1→Res w0 b vw vm A T n o w X (.returned (.int .i64 (Lf:Int))) w1 from fun G ns m Lf wr h hz w1 ho1=>by
    cases G with
    | zero=>exact absurd h.eq.symm (fun e=>hout (e.trans rfl))
    | succ G=>
      have heq:=h.eq
      unfold P at heq
      rw [if_pos hz] at heq
      rw [←heq]
      obtain ⟨vt',hrr⟩:=h.ok
      exact ⟨m,rfl,h.hm,by rw [h.lf],h.cg.trans (Cg.ofOld ho1),⟨vt',hrr.oldw ho1⟩,h.pos,h.bd⟩)
   clear hih hne hP ih hX hX' hout hR H
   rcases hL with rfl|rfl|rfl|rfl
   ·go_enter Tryz.func97,Tryz.ntmps97
    go_wp2_with (go_at_call 57;refine HIH.out.mono ?_;rintro e w1 ⟨m,rfl,h1⟩;have H1:=hid (HB.out _ _ h1.out);clear h1)
    go_loopw [5] (fun i wr=>∃ (G:Nat) (ns:List Nd) (m Lf:Nat),i=.int .i64 (Lf:Int)∧Hid (Ch w0 b vw vm A T n o w X F 0 G ns m Lf wr)) (fun i wr=>A.length-nextOf wr b)
    case atStart=>exact ⟨F,ns,m,R,rfl,H1⟩
    case round=>
     clear H1
     obtain ⟨G,ns,m,Lf,rfl,H1⟩:=hrel
     by_cases hz:inL 0 (A.drop m)=0
     ·have hin:=HI.out _ _ _ _ _ H1.out
      rw [hz] at hin
      go_wp2_with (go_at_call 99;refine hin.mono ?_;rintro e w2 ⟨rfl,o2⟩;have H2:=hid (HE.out _ _ _ _ _ H1.out hz _ o2);clear o2)
      go_ret
      exact H2.out
     ·have hin:=HI.out _ _ _ _ _ H1.out
      have hpr:=HT.out _ _ _ _ _ H1.out hz
      obtain ⟨q,hq⟩:∃ q,q=inL 0 (A.drop m):=⟨_,rfl⟩
      have hq0:¬ (q:Int)=0:=by omega
      rw [←hq] at hin
      clear hq
      go_wp2_with (first
       | (go_at_call 99;refine hin.mono ?_;rintro e w2 ⟨rfl,o2⟩;have O2:=hid o2;clear o2)
       | (go_at_call 100;refine (hpr _ O2.out).mono ?_;rintro e w3 (⟨G',ns',m',Lf',rfl,h3⟩|⟨er,rfl,h3⟩)))
      ·refine ⟨⟨G',ns',m',Lf',rfl,hid h3.out.1⟩,?_⟩
       rw [HN.out _ _ _ _ _ h3.out.1,HN.out _ _ _ _ _ H1.out]
       have:=h3.out.2
       have:=h3.out.1.hm
       omega
      ·exact ⟨rfl,h3.out⟩
   ·go_enter Tryz.func97,Tryz.ntmps97
    go_wp2_with (go_at_call 58;refine HIH.out.mono ?_;rintro e w1 ⟨m,rfl,h1⟩;have H1:=hid (HB.out _ _ h1.out);clear h1)
    go_loopw [5] (fun i wr=>∃ (G:Nat) (ns:List Nd) (m Lf:Nat),i=.int .i64 (Lf:Int)∧Hid (Ch w0 b vw vm A T n o w X F 1 G ns m Lf wr)) (fun i wr=>A.length-nextOf wr b)
    case atStart=>exact ⟨F,ns,m,R,rfl,H1⟩
    case round=>
     clear H1
     obtain ⟨G,ns,m,Lf,rfl,H1⟩:=hrel
     by_cases hz:inL 1 (A.drop m)=0
     ·have hin:=HI.out _ _ _ _ _ H1.out
      rw [hz] at hin
      go_wp2_with (go_at_call 99;refine hin.mono ?_;rintro e w2 ⟨rfl,o2⟩;have H2:=hid (HE.out _ _ _ _ _ H1.out hz _ o2);clear o2)
      go_ret
      exact H2.out
     ·have hin:=HI.out _ _ _ _ _ H1.out
      have hpr:=HT.out _ _ _ _ _ H1.out hz
      obtain ⟨q,hq⟩:∃ q,q=inL 1 (A.drop m):=⟨_,rfl⟩
      have hq0:¬ (q:Int)=0:=by omega
      rw [←hq] at hin
      clear hq
      go_wp2_with (first
       | (go_at_call 99;refine hin.mono ?_;rintro e w2 ⟨rfl,o2⟩;have O2:=hid o2;clear o2)
       | (go_at_call 100;refine (hpr _ O2.out).mono ?_;rintro e w3 (⟨G',ns',m',Lf',rfl,h3⟩|⟨er,rfl,h3⟩)))
      ·refine ⟨⟨G',ns',m',Lf',rfl,hid h3.out.1⟩,?_⟩
       rw [HN.out _ _ _ _ _ h3.out.1,HN.out _ _ _ _ _ H1.out]
       have:=h3.out.2
       have:=h3.out.1.hm
       omega
      ·exact ⟨rfl,h3.out⟩
   ·go_enter Tryz.func97,Tryz.ntmps97
    go_wp2_with (go_at_call 61;refine HIH.out.mono ?_;rintro e w1 ⟨m,rfl,h1⟩;have H1:=hid (HB.out _ _ h1.out);clear h1)
    go_loopw [5] (fun i wr=>∃ (G:Nat) (ns:List Nd) (m Lf:Nat),i=.int .i64 (Lf:Int)∧Hid (Ch w0 b vw vm A T n o w X F 4 G ns m Lf wr)) (fun i wr=>A.length-nextOf wr b)
    case atStart=>exact ⟨F,ns,m,R,rfl,H1⟩
    case round=>
     clear H1
     obtain ⟨G,ns,m,Lf,rfl,H1⟩:=hrel
     by_cases hz:inL 4 (A.drop m)=0
     ·have hin:=HI.out _ _ _ _ _ H1.out
      rw [hz] at hin
      go_wp2_with (go_at_call 99;refine hin.mono ?_;rintro e w2 ⟨rfl,o2⟩;have H2:=hid (HE.out _ _ _ _ _ H1.out hz _ o2);clear o2)
      go_ret
      exact H2.out
     ·have hin:=HI.out _ _ _ _ _ H1.out
      have hpr:=HT.out _ _ _ _ _ H1.out hz
      obtain ⟨q,hq⟩:∃ q,q=inL 4 (A.drop m):=⟨_,rfl⟩
      have hq0:¬ (q:Int)=0:=by omega
      rw [←hq] at hin
      clear hq
      go_wp2_with (first
       | (go_at_call 99;refine hin.mono ?_;rintro e w2 ⟨rfl,o2⟩;have O2:=hid o2;clear o2)
       | (go_at_call 100;refine (hpr _ O2.out).mono ?_;rintro e w3 (⟨G',ns',m',Lf',rfl,h3⟩|⟨er,rfl,h3⟩)))
      ·refine ⟨⟨G',ns',m',Lf',rfl,hid h3.out.1⟩,?_⟩
       rw [HN.out _ _ _ _ _ h3.out.1,HN.out _ _ _ _ _ H1.out]
       have:=h3.out.2
       have:=h3.out.1.hm
       omega
      ·exact ⟨rfl,h3.out⟩
   ·go_enter Tryz.func97,Tryz.ntmps97
    go_wp2_with (go_at_call 62;refine HIH.out.mono ?_;rintro e w1 ⟨m,rfl,h1⟩;have H1:=hid (HB.out _ _ h1.out);clear h1)
    go_loopw [5] (fun i wr=>∃ (G:Nat) (ns:List Nd) (m Lf:Nat),i=.int .i64 (Lf:Int)∧Hid (Ch w0 b vw vm A T n o w X F 5 G ns m Lf wr)) (fun i wr=>A.length-nextOf wr b)
    case atStart=>exact ⟨F,ns,m,R,rfl,H1⟩
    case round=>
     clear H1
     obtain ⟨G,ns,m,Lf,rfl,H1⟩:=hrel
     by_cases hz:inL 5 (A.drop m)=0
     ·have hin:=HI.out _ _ _ _ _ H1.out
      rw [hz] at hin
      go_wp2_with (go_at_call 99;refine hin.mono ?_;rintro e w2 ⟨rfl,o2⟩;have H2:=hid (HE.out _ _ _ _ _ H1.out hz _ o2);clear o2)
      go_ret
      exact H2.out
     ·have hin:=HI.out _ _ _ _ _ H1.out
      have hpr:=HT.out _ _ _ _ _ H1.out hz
      obtain ⟨q,hq⟩:∃ q,q=inL 5 (A.drop m):=⟨_,rfl⟩
      have hq0:¬ (q:Int)=0:=by omega
      rw [←hq] at hin
      clear hq
      go_wp2_with (first
       | (go_at_call 99;refine hin.mono ?_;rintro e w2 ⟨rfl,o2⟩;have O2:=hid o2;clear o2)
       | (go_at_call 100;refine (hpr _ O2.out).mono ?_;rintro e w3 (⟨G',ns',m',Lf',rfl,h3⟩|⟨er,rfl,h3⟩)))
      ·refine ⟨⟨G',ns',m',Lf',rfl,hid h3.out.1⟩,?_⟩
       rw [HN.out _ _ _ _ _ h3.out.1,HN.out _ _ _ _ _ H1.out]
       have:=h3.out.2
       have:=h3.out.1.hm
       omega
      ·exact ⟨rfl,h3.out⟩
end Go.Proofs.YtkellpcljiodeaaGreatDoor
