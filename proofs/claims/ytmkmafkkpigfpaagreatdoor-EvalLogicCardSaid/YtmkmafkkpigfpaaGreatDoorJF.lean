/- The document's reader: levels; an operator that stands ahead. -/
import Derived.Test.YtmkmafkkpigfpaaGreatDoorJE
set_option maxHeartbeats 4000000
namespace Go.Proofs.YtmkmafkkpigfpaaGreatDoor
open Go.ChangeShapes Go.WideShapes Go.ChangeAt Go.RowKit Go.Lib
set_option linter.unusedVariables false
set_option linter.unusedSimpArgs false
set_option maxRecDepth 100000
def LvQ (w0:Wz) (b:Nat) (vw:Value) (A:List Tk) (F:Nat):Prop:=
 ∀ (L o n N:Nat) (T:List Nd) (vt:Value) (w:World),L≤7→o≤12→n≤A.length→T.length≤n→Qr w0 b vw A T n o vt w→P F (.lvl L) o (A.drop n)≠.out→T.length+(A.length-n)+F≤N→N≤1000000→
   Calls Tryz.prog 22 #[.pointer (some ⟨b,0,none⟩),.int .i64 (L:Int)] w (RRes w0 b vw A T n o N vt w (P F (.lvl L) o (A.drop n)))
theorem in_none {L:Nat} (hL:L=2∨L=6) (l:List Tk):inL L l=0:=by
 unfold inL inT
 rw [if_neg]
 rintro ⟨h,_⟩
 have:∀ s:List UInt8,(inOp s).2≠2∧(inOp s).2≠6:=fun s=>by
  by_cases h0:s=[111,114]
  ·subst h0;exact ⟨by decide,by decide⟩
  by_cases h1:s=[97,110,100]
  ·subst h1;exact ⟨by decide,by decide⟩
  by_cases h2:s=[61]
  ·subst h2;exact ⟨by decide,by decide⟩
  by_cases h3:s=[60,62]
  ·subst h3;exact ⟨by decide,by decide⟩
  by_cases h4:s=[60]
  ·subst h4;exact ⟨by decide,by decide⟩
  by_cases h5:s=[60,61]
  ·subst h5;exact ⟨by decide,by decide⟩
  by_cases h6:s=[62]
  ·subst h6;exact ⟨by decide,by decide⟩
  by_cases h7:s=[62,61]
  ·subst h7;exact ⟨by decide,by decide⟩
  by_cases h8:s=[43]
  ·subst h8;exact ⟨by decide,by decide⟩
  by_cases h9:s=[45]
  ·subst h9;exact ⟨by decide,by decide⟩
  by_cases h10:s=[42]
  ·subst h10;exact ⟨by decide,by decide⟩
  by_cases h11:s=[47]
  ·subst h11;exact ⟨by decide,by decide⟩
  have hz:inOp s=(0,0):=by
   unfold inOp
   rw [if_neg h0,if_neg h1,if_neg h2,if_neg h3,if_neg h4,if_neg h5,if_neg h6,if_neg h7,if_neg h8,if_neg h9,if_neg h10,if_neg h11]
  rw [hz]
  exact ⟨by decide,by decide⟩
 have:=this (wordL l).t
 omega
theorem plq_cv {b:Nat} {w w':World} {g:Nat} {L C:Int} {vw vt v v':Value} {n o e m:Int} (h:Pl w g L C) (hr:RqB w b vw n o vt e m) (hv:v.ownBlock≠some g) (c:Cv b v v' w w'):Pl w' g L C:=c.at h (hr.ne h (by decide)) hv
structure Rg (w0:Wz) (b:Nat) (vw:Value) (A:List Tk) (T:List Nd) (n o:Nat) (v0:Value) (w:World) (ns:List Nd) (r:List Tk) (m:Nat) (vt:Value) (w':World):Prop where
 hr:r=A.drop m
 hm:m≤A.length
 cg:Cv b v0 vt w w'
 ok:Qr w0 b vw A (T++ns) m o vt w'
 pos:1≤ns.length
 le:n+ns.length≤m
theorem calls_rg {w0:Wz} {b n o N f:Nat} {vw v0:Value} {A:List Tk} {T ns:List Nd} {r:List Tk} {args:Array Value} {w:World} (h:Calls Tryz.prog f args w (RRes w0 b vw A T n o N v0 w (.ok ns r))) {R:Nat} (hR:R=T.length+ns.length-1) :
 Calls Tryz.prog f args w fun e w'=>∃ m vt,e=.returned (.int .i64 (R:Int))∧Hid (Rg w0 b vw A T n o v0 w ns r m vt w'):=by
 refine h.mono ?_
 rintro e w' ⟨m,vt,h1,h2,h3,h4,h5,h6,h7⟩
 exact ⟨m,vt,by rw [hR];exact h3,hid ⟨h1,h2,h4,h5,h6,h7⟩⟩
theorem one_put {w0:Wz} {w:World} {b n o o1 m R O1:Nat} {vw v0 vt:Value} {A:List Tk} {T ns:List Nd} {r:List Tk} {w5:World} (h:Rg w0 b vw A T n o1 v0 w ns r m vt w5) (hR:R=T.length+ns.length-1) (hO:(O1:Int)-1=(o:Int)) (op:Nat) (pn pc:Int) (hA:A.length≤200000) (hT:T.length≤n) :
 Calls Tryz.prog 50 #[.pointer (some ⟨b,0,none⟩),.agg #[.int .u8 (op:Int),.int .u8 0,.int .i64 0,.string ⟨#[]⟩,.string ⟨#[]⟩,.slice (some ⟨w5.heap.size,0,none⟩) 1 1,.int .i64 pn,.int .i64 pc]] ((w5.setCell ⟨b,2,none⟩ (.int .i64 ((O1:Int)-1))).alloc (.cells #[.int .i64 (R:Int)] 3)) fun e w'=>
  e=.returned (.int .i64 ((T++ns).length:Nat))∧∃ vt',Cv b vt vt' w5 w'∧Qr w0 b vw A (T++ns++[⟨op,0,0,[],[],[1],pn,pc⟩]) m o vt' w':=by
 have hcs:=Chx.ofSet w5 ⟨b,2,none⟩ (.int .i64 ((O1:Int)-1))
 have h6:Qr w0 b vw A (T++ns) m o vt (w5.setCell ⟨b,2,none⟩ (.int .i64 ((O1:Int)-1))):=h.ok.chx hcs (by
  have:=h.ok.rd.set2 ((O1:Int)-1)
  rw [←hO]
  exact this)
 have ho:=(Old.refl (w5.setCell ⟨b,2,none⟩ (.int .i64 ((O1:Int)-1)))).alloc (.cells #[.int .i64 (R:Int)] 3)
 have hsz:(w5.setCell ⟨b,2,none⟩ (.int .i64 ((O1:Int)-1))).heap.size=w5.heap.size:=by simp [World.setCell]
 have hk:=kr_new (w:=(w5.setCell ⟨b,2,none⟩ (.int .i64 ((O1:Int)-1)))) h6.qi.old.size [R] (by simp) #[.int .i64 (R:Int)] rfl
 have e1:[R]=[1].map ((T++ns).length-·):=by
  simp only [List.map_cons,List.map_nil,List.length_append]
  rw [hR]
 rw [hsz,e1] at hk
 have hl:=h.le
 have hm:=h.hm
 refine (rput_good (h6.oldw ho) ⟨op,0,0,[],[],[1],pn,pc⟩ _ ⟨hk,fun g e hs=>by have:=h.ok.sb g hs;simp [Value.ownBlock] at e;omega⟩ (by rw [List.length_append];omega)).mono ?_
 rintro e w' ⟨h1,vt',h2,h3⟩
 exact ⟨h1,vt',((Cv.ofChx hcs).trans (Cv.ofOld ho)).trans h2,h3⟩
structure Rb2 (w0:Wz) (b:Nat) (vw:Value) (A:List Tk) (N:Nat) (v0:Value) (w:World) (er:Int) (r:List Tk) (m:Nat) (vt:Value) (w':World):Prop where
 hr:r=A.drop m
 hm:m≤A.length
 cg:Cv b v0 vt w w'
 qs:Qs w0 b vw A er m N vt w'
theorem calls_rb {w0:Wz} {b n o N f:Nat} {vw v0:Value} {A:List Tk} {T:List Nd} {er:Int} {r:List Tk} {args:Array Value} {w:World} (h:Calls Tryz.prog f args w (RRes w0 b vw A T n o N v0 w (.no er r))) :
 Calls Tryz.prog f args w fun e w'=>∃ (i:Int) (m:Nat) (vt:Value),e=.returned (.int .i64 i)∧Hid (Rb2 w0 b vw A N v0 w er r m vt w'):=by
 refine h.mono ?_
 rintro e w' ⟨m,i,vt,h1,h2,h3,h4,h5⟩
 exact ⟨i,m,vt,h3,hid ⟨h1,h2,h4,h5⟩⟩
theorem rpre {L op:Nat} {Li L1i opi:Int} {ws:List UInt8} (hL:(L=2∧op=6∧Li=2∧L1i=3∧opi=6∧ws=[110,111,116])∨(L=6∧op=17∧Li=6∧L1i=7∧opi=17∧ws=[45])) {w0:Wz} {w:World} {b n o F N:Nat} {vw vt:Value} {A:List Tk} {T:List Nd} (ih:LvQ w0 b vw A F) (H:Qr w0 b vw A T n o vt w) (hn:n≤A.length) (hA:A.length≤200000) (ho:o≤12) (hTn:T.length≤n)
 (hout:preP (P F) L o (A.drop n)≠.out) (hN:T.length+(A.length-n)+(F+1)≤N) (hN2:N≤1000000) :
 Calls Tryz.prog 22 #[.pointer (some ⟨b,0,none⟩),.int .i64 Li] w (RRes w0 b vw A T n o N vt w (preP (P F) L o (A.drop n))):=by
 have hL2:L=2∨L=6:=hL.imp (·.1) (·.1)
 have hw:preW L=ws:=by rcases hL with ⟨rfl,_,_,_,_,rfl⟩|⟨rfl,_,_,_,_,rfl⟩<;>rfl
 have ho1:preO L=op:=by rcases hL with ⟨rfl,rfl,_⟩|⟨rfl,rfl,_⟩<;>rfl
 have hws:ws≠[]:=by rcases hL with ⟨_,_,_,_,_,rfl⟩|⟨_,_,_,_,_,rfl⟩<;>simp
 have hLi:(L:Int)=Li:=by omega
 have h1i:((L+1:Nat):Int)=L1i:=by omega
 have hopi:(op:Int)=opi:=by omega
 have HIN0:=hid (show ∀ (m:Nat) W,Calls Tryz.prog 51 #[.int .i64 Li,.string (st (nextL (A.drop m)))] W fun e w'=>e=.returned (.int .u8 0)∧Old W w' from fun m W=>by have:=rinfix_any L (by omega) (A.drop m) W;rw [in_none hL2,hLi] at this;exact this)
 have HOPI:=hid hopi
 have HH:=hid H
 have r4:=H.rd.c 4
 have hpl:=fun (W:World)=>rplace_any H.rd H.qi.wordsAt hn hA
 have hx:=fun (W:World) (h:Qr w0 b vw A T n o vt W)=>rnext_any h.rd h.qi.wordsAt hn hA
 obtain ⟨pn,hpn⟩:∃ pn,pn=(wordL (A.drop n)).ln:=⟨_,rfl⟩
 obtain ⟨pc,hpc⟩:∃ pc,pc=(wordL (A.drop n)).cl:=⟨_,rfl⟩
 rw [←hpn,←hpc] at hpl
 replace hpl:=hpl w
 have HPN:=hid hpn
 have HPC:=hid hpc
 clear hpn hpc
 unfold preP at hout ⊢
 rw [hw,ho1] at hout
 rw [hw,ho1]
 have hnx:=next_is (s:=ws) (l:=A.drop n) hws
 cases hb:isL ws (A.drop n)
 ·rw [hb] at hout hnx
  simp only [if_true] at hout ⊢
  obtain ⟨tx,htx⟩:∃ tx,tx=nextL (A.drop n):=⟨_,rfl⟩
  have e1:(tx==ws)=false:=by rw [htx];exact hnx.symm
  have HX:=hid (fun (W:World) (h:Qr w0 b vw A T n o vt W)=>by have:=hx W h;rw [←htx] at this;exact this)
  have hi3:=fun (W:World) (h:Qr w0 b vw A T n o vt W)=>ih (L+1) o n N T vt W (by omega) ho hn hTn h hout (by omega) hN2
  simp only [h1i] at hi3
  cases hP:P F (.lvl (L+1)) o (A.drop n) with
  | out=>exact absurd hP hout
  | no er r=>
    rw [hP] at hi3
    have HI:=hid (show ∀ W,Qr w0 b vw A T n o vt W→Calls Tryz.prog 22 #[.pointer (some ⟨b,0,none⟩),.int .i64 L1i] W _ from fun W h=>calls_rb (hi3 W h))
    clear H hi3 hP hout hnx hb htx hx
    clear hw ho1 hws hLi h1i hopi hL2
    rcases hL with ⟨e8,e9,rfl,rfl,rfl,rfl⟩|⟨e8,e9,rfl,rfl,rfl,rfl⟩
    all_goals
     clear e8 e9
     go_enter Tryz.func22,Tryz.ntmps22
     go_wp2_with (first
      | (go_at_call 47;(with_reducible refine hpl.mono ?_);rintro e w1 ⟨rfl,o1⟩;have H1:=hid ((HH.out.oldw o1).oldw ((Old.refl _).alloc (.cells #[.int .i64 pn,.int .i64 pc] 31)));have HC1:=hid (Cv.ofOld (b:=b) (v:=vt) (o1.trans ((Old.refl _).alloc (.cells #[.int .i64 pn,.int .i64 pc] 31))));clear o1)
      | (go_at_call 48;(with_reducible refine (HX.out _ H1.out).mono ?_);rintro e w2 ⟨rfl,o2⟩;have H2:=hid (H1.out.oldw o2);have HC2:=hid (HC1.out.trans (Cv.ofOld o2));clear o2)
      | (go_at_call 22;(with_reducible refine (HI.out _ H2.out).mono ?_);rintro e w3 ⟨i,m,vt3,rfl,hb3⟩))
     obtain ⟨n3,o3,cs3,k3,q1,q2,q3,q4⟩:=hb3.out.qs.st
     have x4:=q3.c 4
     have i0:(er==0)=false:=beq_false_of_ne hb3.out.qs.ne
     have i1:(er != 0)=true:=by rw [bne,i0];rfl
     have HB3:=hid (show Rb2 w0 b vw A N vt w er r m vt3 w3 from ⟨hb3.out.hr,hb3.out.hm,HC2.out.trans hb3.out.cg,hb3.out.qs⟩)
     clear q1 q2 q3 q4 hb3
     go_loopw [8] (fun v wr=>v=.int .i64 i∧wr=w3) (fun _ _=>0)
     case atStart=>exact ⟨rfl,rfl⟩
     case round=>
      obtain ⟨rfl,rfl⟩:=hrel
      go_wp2_with fail
      all_goals
       go_ret
       exact ⟨m,i,vt3,HB3.out.hr,HB3.out.hm,rfl,HB3.out.cg,HB3.out.qs⟩
  | ok ns r=>
    rw [hP] at hi3
    obtain ⟨R,hR⟩:∃ R,R=T.length+ns.length-1:=⟨_,rfl⟩
    have HI:=hid (show ∀ W,Qr w0 b vw A T n o vt W→Calls Tryz.prog 22 #[.pointer (some ⟨b,0,none⟩),.int .i64 L1i] W _ from fun W h=>calls_rg (hi3 W h) hR)
    clear H hi3 hP hout hnx hb htx hx
    have HRR:=hid hR
    clear hR
    clear hw ho1 hws hLi h1i hopi hL2
    rcases hL with ⟨e8,e9,rfl,rfl,rfl,rfl⟩|⟨e8,e9,rfl,rfl,rfl,rfl⟩
    all_goals
     clear e8 e9
     go_enter Tryz.func22,Tryz.ntmps22
     go_wp2_with (first
      | (go_at_call 47;(with_reducible refine hpl.mono ?_);rintro e w1 ⟨rfl,o1⟩;have H1:=hid ((HH.out.oldw o1).oldw ((Old.refl _).alloc (.cells #[.int .i64 pn,.int .i64 pc] 31)));have HC1:=hid (Cv.ofOld (b:=b) (v:=vt) (o1.trans ((Old.refl _).alloc (.cells #[.int .i64 pn,.int .i64 pc] 31))));clear o1)
      | (go_at_call 48;(with_reducible refine (HX.out _ H1.out).mono ?_);rintro e w2 ⟨rfl,o2⟩;have H2:=hid (H1.out.oldw o2);have HC2:=hid (HC1.out.trans (Cv.ofOld o2));clear o2)
      | (go_at_call 22;(with_reducible refine (HI.out _ H2.out).mono ?_);rintro e w3 ⟨m,vt3,rfl,hg3⟩))
     have q4:=hg3.out.ok.rd.c 4
     have HNX:=hid (rnext_any hg3.out.ok.rd hg3.out.ok.qi.wordsAt hg3.out.hm hA)
     have HG3:=hid (show Rg w0 b vw A T n o vt w ns r m vt3 w3 from ⟨hg3.out.hr,hg3.out.hm,HC2.out.trans hg3.out.cg,hg3.out.ok,hg3.out.pos,hg3.out.le⟩)
     have HIN:=hid (HIN0.out m)
     clear hg3
     go_loopw [8] (fun v wr=>v=.int .i64 (R:Int)∧wr=w3) (fun _ _=>0)
     case atStart=>exact ⟨rfl,rfl⟩
     case round=>
      obtain ⟨rfl,rfl⟩:=hrel
      go_wp2_with (first
       | (go_at_call 48;(with_reducible refine HNX.out.mono ?_);rintro e w4 ⟨rfl,o4⟩;have O4:=hid o4;clear o4)
       | (go_at_call 51;(with_reducible refine (HIN.out _).mono ?_);rintro e w5 ⟨rfl,o5⟩;have O5:=hid (O4.out.trans o5);clear o5))
      go_ret
      exact ⟨m,vt3,HG3.out.hr,HG3.out.hm,by rw [HRR.out];rfl,HG3.out.cg.trans (Cv.ofOld O5.out),HG3.out.ok.oldw O5.out,HG3.out.pos,HG3.out.le⟩
 ·rw [hb] at hout hnx
  simp only [Bool.true_eq_false,if_false] at hout ⊢
  have hlt:n<A.length:=drop_lt (isL_ne hb)
  have htx:nextL (A.drop n)=ws:=by simpa using hnx.symm
  have HX:=hid (fun (W:World) (h:Qr w0 b vw A T n o vt W)=>by have:=hx W h;rw [htx] at this;exact this)
  by_cases h12:o=12
  ·subst h12
   rw [if_pos rfl] at hout ⊢
   clear H hout hnx hb htx hx
   clear hw ho1 hws hLi h1i hopi hL2
   rcases hL with ⟨e8,e9,rfl,rfl,rfl,rfl⟩|⟨e8,e9,rfl,rfl,rfl,rfl⟩
   all_goals
    clear e8 e9
    go_enter Tryz.func22,Tryz.ntmps22
    go_wp2_with (first
     | (go_at_call 47;(with_reducible refine hpl.mono ?_);rintro e w1 ⟨rfl,o1⟩;have H1:=hid ((HH.out.oldw o1).oldw ((Old.refl _).alloc (.cells #[.int .i64 pn,.int .i64 pc] 31)));have HC1:=hid (Cv.ofOld (b:=b) (v:=vt) (o1.trans ((Old.refl _).alloc (.cells #[.int .i64 pn,.int .i64 pc] 31))));clear o1)
     | (go_at_call 48;(with_reducible refine (HX.out _ H1.out).mono ?_);rintro e w2 ⟨rfl,o2⟩;have H2:=hid (H1.out.oldw o2);have HC2:=hid (HC1.out.trans (Cv.ofOld o2));clear o2)
     | (go_at_call 49;refine (rdeep_no H2.out.rd (by decide) (by decide)).mono ?_;rintro e w3 ⟨rfl,c3,h3⟩;have r4':=h3.c 4;have HQ3:=hid (H2.out.stopped (N:=N) c3 h3 (by decide) hn (by omega));have HC3:=hid (HC2.out.trans (Cv.ofChx c3));clear c3 h3))
    go_ret
    exact ⟨n,-1,vt,rfl,hn,rfl,HC3.out,HQ3.out⟩
  ·rw [if_neg h12] at hout ⊢
   rw [drop_tl] at hout ⊢
   obtain ⟨O1,hO1⟩:∃ O1,O1=o+1:=⟨_,rfl⟩
   rw [←hO1] at hout ⊢
   have hi3:=fun (W:World) (h:Qr w0 b vw A T (n+1) O1 vt W)=>ih L O1 (n+1) (N-1) T vt W (by omega) (by omega) (by omega) (by omega) h (bnd_out hout) (by omega) (by omega)
   simp only [hLi] at hi3
   have hOi:(O1:Int)-1=(o:Int):=by omega
   have hO2:(o:Int)+1=(O1:Int):=by omega
   have HO1:=hid hO1
   have HOi:=hid hOi
   have HO2:=hid hO2
   have hN1:((n+1:Nat):Int)=(n:Int)+1:=by omega
   have HN1:=hid hN1
   have hO13:O1≤13:=by omega
   clear hO1 hOi hO2 hN1
   cases hP:P F (.lvl L) O1 (A.drop (n+1)) with
   | out=>rw [hP] at hout;exact absurd rfl hout
   | no er r=>
     rw [hP] at hi3
     have HI:=hid (show ∀ W,Qr w0 b vw A T (n+1) O1 vt W→Calls Tryz.prog 22 #[.pointer (some ⟨b,0,none⟩),.int .i64 Li] W _ from fun W h=>calls_rb (hi3 W h))
     show Calls _ _ _ _ (RRes w0 b vw A T n o N vt w (.no er r))
     clear H hi3 hP hout hnx hb htx hx
     clear hw ho1 hws hLi h1i hopi hL2
     rcases hL with ⟨e8,e9,rfl,rfl,rfl,rfl⟩|⟨e8,e9,rfl,rfl,rfl,rfl⟩
     all_goals
      clear e8 e9
      go_enter Tryz.func22,Tryz.ntmps22
      go_wp2_with (first
       | (go_at_call 47;(with_reducible refine hpl.mono ?_);rintro e w1 ⟨rfl,o1⟩;have H1:=hid ((HH.out.oldw o1).oldw ((Old.refl _).alloc (.cells #[.int .i64 pn,.int .i64 pc] 31)));have P1:=hid (pl_new w1 pn pc);have HC1:=hid (Cv.ofOld (b:=b) (v:=vt) (o1.trans ((Old.refl _).alloc (.cells #[.int .i64 pn,.int .i64 pc] 31))));clear o1)
       | (go_at_call 48;(with_reducible refine (HX.out _ H1.out).mono ?_);rintro e w2 ⟨rfl,o2⟩;have H2:=hid (H1.out.oldw o2);have P2:=hid (P1.out.old o2);have HC2:=hid (HC1.out.trans (Cv.ofOld o2));clear o2)
       | (go_at_call 49;refine (rdeep_ok H2.out.rd (by omega) (by omega)).mono ?_;rintro e w3 ⟨rfl,c3,h3⟩;rw [HO2.out] at h3;have H3:=hid (H2.out.chx c3 h3);have P3:=hid (plq_cv P2.out H2.out.rd (H2.out.ne P2.out (by decide)) (Cv.ofChx c3));have HC3:=hid (HC2.out.trans (Cv.ofChx c3));clear c3;have x4:=h3.c 4;have x1:=h3.c 1;have y1:=h3.f 1;have H4:=hid (show Qr w0 b vw A T (n+1) O1 vt (w3.setCell ⟨b,1,none⟩ (.int .i64 ((n:Int)+1))) from H3.out.chx (Chx.ofSet _ ⟨b,1,none⟩ _) (by rw [HN1.out];exact h3.set1 _));have P4:=hid (plq_cv P3.out h3 (H3.out.ne P3.out (by decide)) (Cv.ofChx (Chx.ofSet w3 ⟨b,1,none⟩ (.int .i64 ((n:Int)+1)))));have HC4:=hid (HC3.out.trans (Cv.ofChx (Chx.ofSet w3 ⟨b,1,none⟩ (.int .i64 ((n:Int)+1)))));clear h3)
       | (go_at_call 22;(with_reducible refine (HI.out _ H4.out).mono ?_);rintro e w5 ⟨i,m,vt5,rfl,hb5⟩;have P5:=hid (plq_cv P4.out H4.out.rd (H4.out.ne P4.out (by decide)) hb5.out.cg);obtain ⟨n5,o5,cs5,k5,q1,q2,q3,q4⟩:=hb5.out.qs.st;have z2:=q3.c 2;have z3:=q3.f 2;have hcs:=Chx.ofSet w5 ⟨b,2,none⟩ (.int .i64 (wrap64 (o5-1)));have HC6:=hid ((HC4.out.trans hb5.out.cg).trans (Cv.ofChx hcs));have H6:=hid (show Qs w0 b vw A er m (N-1) vt5 (w5.setCell ⟨b,2,none⟩ (.int .i64 (wrap64 (o5-1)))) from ⟨⟨n5,_,cs5,k5,q1,q2,q3.set2 _,own_chq q4 (by decide) q3 hcs⟩,hb5.out.qs.ne,hb5.out.qs.qi.cv (Cv.ofChx (v:=vt5) hcs) hb5.out.qs.lo⟩);have P6:=(plq_cv P5.out q3 (hb5.out.qs.ner P5.out (by decide)) (Cv.ofChx hcs)).old ((Old.refl _).alloc (.cells #[.int .i64 i] 3));have HPU:=(show Calls Tryz.prog 50 #[.pointer (some ⟨b,0,none⟩),.agg #[.int .u8 (op:Int),.int .u8 0,.int .i64 0,.string ⟨#[]⟩,.string ⟨#[]⟩,.slice (some ⟨w5.heap.size,0,none⟩) 1 1,.int .i64 pn,.int .i64 pc]] ((w5.setCell ⟨b,2,none⟩ (.int .i64 (wrap64 (o5-1)))).alloc (.cells #[.int .i64 i] 3)) _ from rput_bad (H6.out.oldw ((Old.refl _).alloc (.cells #[.int .i64 i] 3))) ⟨op,0,0,[],[],[],pn,pc⟩ (.slice (some ⟨w5.heap.size,0,none⟩) 1 1) rfl (by omega));rw [HOPI.out] at HPU;replace HPU:=hid HPU;have HM:=hid (show r=A.drop m∧m≤A.length from ⟨hb5.out.hr,hb5.out.hm⟩);clear q1 q2 q3 q4 hcs hb5;have d0:=P6.c0;have d1:=P6.c1)
       | (go_at_call 50;(with_reducible refine HPU.out.mono ?_);rintro e w7 ⟨⟨j,rfl⟩,vt7,hc7,h7⟩;have HC7:=hid ((HC6.out.trans (Cv.ofOld ((Old.refl _).alloc (.cells #[.int .i64 i] 3)))).trans hc7);have H7:=hid h7;clear hc7 h7))
      go_ret
      exact ⟨m,j,vt7,HM.out.1,HM.out.2,rfl,HC7.out,by have:=H7.out;rw [show N-1+1=N by omega] at this;exact this⟩
   | ok ns r=>
     rw [hP] at hi3
     obtain ⟨R,hR⟩:∃ R,R=T.length+ns.length-1:=⟨_,rfl⟩
     have HI:=hid (show ∀ W,Qr w0 b vw A T (n+1) O1 vt W→Calls Tryz.prog 22 #[.pointer (some ⟨b,0,none⟩),.int .i64 Li] W _ from fun W h=>calls_rg (hi3 W h) hR)
     have HRR:=hid hR
     show Calls _ _ _ _ (RRes w0 b vw A T n o N vt w (.ok (ns++[ndOp op [1] (wordL (A.drop n))]) r))
     have hnd:ndOp op [1] (wordL (A.drop n))=⟨op,0,0,[],[],[1],pn,pc⟩:=by rw [HPN.out,HPC.out];rfl
     rw [hnd]
     clear H hi3 hP hout hnx hb htx hx hR hnd
     clear hw ho1 hws hLi h1i hopi hL2
     rcases hL with ⟨e8,e9,rfl,rfl,rfl,rfl⟩|⟨e8,e9,rfl,rfl,rfl,rfl⟩
     all_goals
      clear e8 e9
      go_enter Tryz.func22,Tryz.ntmps22
      go_wp2_with (first
       | (go_at_call 47;(with_reducible refine hpl.mono ?_);rintro e w1 ⟨rfl,o1⟩;have H1:=hid ((HH.out.oldw o1).oldw ((Old.refl _).alloc (.cells #[.int .i64 pn,.int .i64 pc] 31)));have P1:=hid (pl_new w1 pn pc);have HC1:=hid (Cv.ofOld (b:=b) (v:=vt) (o1.trans ((Old.refl _).alloc (.cells #[.int .i64 pn,.int .i64 pc] 31))));clear o1)
       | (go_at_call 48;(with_reducible refine (HX.out _ H1.out).mono ?_);rintro e w2 ⟨rfl,o2⟩;have H2:=hid (H1.out.oldw o2);have P2:=hid (P1.out.old o2);have HC2:=hid (HC1.out.trans (Cv.ofOld o2));clear o2)
       | (go_at_call 49;refine (rdeep_ok H2.out.rd (by omega) (by omega)).mono ?_;rintro e w3 ⟨rfl,c3,h3⟩;rw [HO2.out] at h3;have H3:=hid (H2.out.chx c3 h3);have P3:=hid (plq_cv P2.out H2.out.rd (H2.out.ne P2.out (by decide)) (Cv.ofChx c3));have HC3:=hid (HC2.out.trans (Cv.ofChx c3));clear c3;have x4:=h3.c 4;have x1:=h3.c 1;have y1:=h3.f 1;have H4:=hid (show Qr w0 b vw A T (n+1) O1 vt (w3.setCell ⟨b,1,none⟩ (.int .i64 ((n:Int)+1))) from H3.out.chx (Chx.ofSet _ ⟨b,1,none⟩ _) (by rw [HN1.out];exact h3.set1 _));have P4:=hid (plq_cv P3.out h3 (H3.out.ne P3.out (by decide)) (Cv.ofChx (Chx.ofSet w3 ⟨b,1,none⟩ (.int .i64 ((n:Int)+1)))));have HC4:=hid (HC3.out.trans (Cv.ofChx (Chx.ofSet w3 ⟨b,1,none⟩ (.int .i64 ((n:Int)+1)))));clear h3)
       | (go_at_call 22;(with_reducible refine (HI.out _ H4.out).mono ?_);rintro e w5 ⟨m,vt5,rfl,hg5⟩;have z2:=hg5.out.ok.rd.c 2;have z4:=hg5.out.ok.rd.c 4;have z3:=hg5.out.ok.rd.f 2;have hcs:=Chx.ofSet w5 ⟨b,2,none⟩ (.int .i64 ((O1:Int)-1));have P6:=(plq_cv (plq_cv P4.out H4.out.rd (H4.out.ne P4.out (by decide)) hg5.out.cg) hg5.out.ok.rd (hg5.out.ok.ne (plq_cv P4.out H4.out.rd (H4.out.ne P4.out (by decide)) hg5.out.cg) (by decide)) (Cv.ofChx hcs)).old ((Old.refl _).alloc (.cells #[.int .i64 (R:Int)] 3));have HPU:=(show Calls Tryz.prog 50 #[.pointer (some ⟨b,0,none⟩),.agg #[.int .u8 (op:Int),.int .u8 0,.int .i64 0,.string ⟨#[]⟩,.string ⟨#[]⟩,.slice (some ⟨w5.heap.size,0,none⟩) 1 1,.int .i64 pn,.int .i64 pc]] ((w5.setCell ⟨b,2,none⟩ (.int .i64 ((O1:Int)-1))).alloc (.cells #[.int .i64 (R:Int)] 3)) _ from one_put hg5.out HRR.out HOi.out op pn pc hA (Nat.le_succ_of_le hTn));rw [HOPI.out] at HPU;replace HPU:=hid HPU;have HC5:=hid (HC4.out.trans hg5.out.cg);have HM:=hid hg5.out;clear hcs hg5;have d0:=P6.c0;have d1:=P6.c1)
       | (go_at_call 50;(with_reducible refine HPU.out.mono ?_);rintro e w7 ⟨rfl,vt7,hc7,h7⟩;have HC7:=hid (HC5.out.trans hc7);have H7:=hid h7;clear hc7 h7))
      go_ret
      refine ⟨m,vt7,HM.out.hr,HM.out.hm,?_,HC7.out,?_,by simp,?_⟩
      ·simp
      ·rw [←List.append_assoc,HOPI.out];exact H7.out
      ·have:=HM.out.le;simp;omega
end Go.Proofs.YtmkmafkkpigfpaaGreatDoor
