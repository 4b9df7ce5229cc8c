/- The document's reader: levels that take what stands side by side, to the left first. -/
import Derived.Test.YtmkmafkkpigfpaaGreatDoorJF
set_option maxHeartbeats 4000000
namespace Go.Proofs.YtmkmafkkpigfpaaGreatDoor
open Go.ChangeShapes Go.WideShapes Go.ChangeAt Go.RowKit Go.Lib
set_option linter.unusedVariables false
set_option linter.unusedSimpArgs false
set_option maxRecDepth 100000
theorem row_far {w:World} {base size n g k:Nat} {e:TypeId} {v u:Value} {cs:List Value} (h:w.ownsRow base e size v n cs) (hg:v.ownBlock≠some g):(w.setCell ⟨g,k,none⟩ u).ownsRow base e size v n cs:=by
 refine ⟨h.1,?_⟩
 rcases h.2 with h'|⟨g',cap,cur,rfl,hb',hg',hc⟩
 ·exact Or.inl h'
 ·exact Or.inr ⟨g',cap,cur,rfl,hb',(far_heap (by rintro rfl;exact hg rfl)).trans hg',hc⟩
theorem row_ne2 {w:World} {base size n k:Nat} {e:TypeId} {v:Value} {cs:List Value} {ds:Array Value} {t:TypeId} {fr:Nat × Nat} (h:w.ownsRow base e size v n cs) (hk:w.heap[k]?=some (.cells ds t fr)) (ht:t≠e):v.ownBlock≠some k:=by
 intro e'
 rcases h.2 with ⟨rfl,_⟩|⟨g,cap,cur,rfl,_,hg,_⟩
 ·simp [Value.ownBlock] at e'
 ·have:g=k:=by simpa [Value.ownBlock] using e'
  subst this
  rw [hk] at hg
  injection hg with hg
  injection hg with _ e2 _
  exact ht e2
theorem row_hi {w:World} {base size n k:Nat} {v:Value} {cs:List Value} {e:TypeId} (h:w.ownsRow base e size v n cs) (hk:v.ownBlock=some k):k<w.heap.size:=by
 rcases h.2 with ⟨rfl,_⟩|⟨g,cap,cur,rfl,h1,hg,_⟩
 ·simp [Value.ownBlock] at hk
 ·have:g=k:=by simpa [Value.ownBlock] using hk
  subst this
  exact blk_lt hg
theorem Cv.poke {b g k:Nat} {v v' u:Value} {w w':World} (h:Cv b v v' w w') (hg:w.heap.size≤g):Cv b v v' w (w'.setCell ⟨g,k,none⟩ u):=
 ⟨h.os,h.output,by rw [World.setCell];simpa using h.size,fun i hi hb hv=>(far_heap (by omega)).trans (h.block i hi hb hv),h.own⟩
section
variable {w0:Wz} {w w':World} {b n o:Nat} {vw vt:Value} {A:List Tk} {T:List Nd}
theorem Qr.far (h:Qr w0 b vw A T n o vt w) {g k:Nat} {cs:Array Value} {fr:Nat × Nat} (u:Value) (hg:g≠b) (hv:vt.ownBlock≠some g) (hk:w.heap[g]?=some (.cells cs 54 fr)) (hlo:w0.heap.size≤g):Qr w0 b vw A T n o vt (w.setCell ⟨g,k,none⟩ u):=by
 refine ⟨h.rd.far hg k u,⟨h.qi.old.setCell (p:=⟨g,k,none⟩) hlo u,h.qi.lo,h.qi.words⟩,?_,fun k hk=>by rw [World.setCell];simpa using h.sb k hk⟩
 obtain ⟨kvs,h1,h2,h3⟩:=h.tree
 exact ⟨kvs,h1,row_far h2 hv,fun i x v hx hw=>⟨row_far (h3 i x v hx hw).1 (row_ne2 (h3 i x v hx hw).1 hk (by decide)),(h3 i x v hx hw).2⟩⟩
theorem Qs.far {e:Int} {m N:Nat} (h:Qs w0 b vw A e m N vt w) {g k:Nat} (u:Value) (hg:g≠b) (hv:vt.ownBlock≠some g) (hlo:w0.heap.size≤g):Qs w0 b vw A e m N vt (w.setCell ⟨g,k,none⟩ u):=by
 obtain ⟨n',o',cs,k',h1,h2,h3,h4⟩:=h.st
 exact ⟨⟨n',o',cs,k',h1,h2,h3.far hg k u,row_far h4 hv⟩,h.ne,⟨h.qi.old.setCell (p:=⟨g,k,none⟩) hlo u,h.qi.lo,h.qi.words⟩⟩
theorem Qr.hi (h:Qr w0 b vw A T n o vt w) (g:Nat) (e:vt.ownBlock=some g):g<w.heap.size:=by
 obtain ⟨cs,k,h2⟩:=h.row
 exact row_hi h2 e
end
theorem Nv.set5 {w:World} {g:Nat} {op vk vn ln cl:Int} {x y kv:Value} (h:Nv w g #[.int .u8 op,.int .u8 vk,.int .i64 vn,x,y,kv,.int .i64 ln,.int .i64 cl]) (u:Value):Nv (w.setCell ⟨g,5,none⟩ u) g #[.int .u8 op,.int .u8 vk,.int .i64 vn,x,y,u,.int .i64 ln,.int .i64 cl]:=by
 have hlt:g<w.heap.size:=blk_lt h
 unfold Nv at h ⊢
 show (w.heap.modify g _)[g]?=_
 rw [Array.getElem?_modify,if_pos rfl,h]
 simp
theorem Nv.cv {b:Nat} {v v':Value} {w w':World} {g:Nat} {cs:Array Value} (h:Nv w g cs) (hb:g≠b) (hv:v.ownBlock≠some g) (c:Cv b v v' w w'):Nv w' g cs:=c.at h hb hv
theorem Nv.old {w w':World} {g:Nat} {cs:Array Value} (h:Nv w g cs) (ho:Old w w'):Nv w' g cs:=(ho.block g (blk_lt h)).trans h
def Kq (F L o:Nat) (G:Nat) (ns:List Nd) (l:List Tk):Rz:=
 if L=3 then (if inL 3 l=0 then .ok ns l else pairP (P F) 3 ns o l) else P G (.tail L ns) o l
def K2 (G L o:Nat) (ns:List Nd) (r:List Tk):Rz:=if L=3 then .ok ns r else P G (.tail L ns) o r
theorem lvl_kq {F L o:Nat} {l:List Tk} (hL:L=0∨L=1∨L=3∨L=4∨L=5):P (F+1) (.lvl L) o l=(P F (.lvl (L+1)) o l).bnd fun ns r=>Kq F L o F ns r:=by
 rcases hL with rfl|rfl|rfl|rfl|rfl<;>rw [P_lvl]<;>rfl
theorem kq_stop {F L o G:Nat} {ns:List Nd} {l:List Tk} {X:Rz} (h:Kq F L o G ns l=X) (hX:X≠.out) (hi:inL L l=0):X=.ok ns l:=by
 unfold Kq at h
 by_cases h3:L=3
 ·subst h3
  rw [if_pos rfl,if_pos hi] at h
  exact h.symm
 ·rw [if_neg h3] at h
  cases G with
  | zero=>exact absurd h.symm hX
  | succ G=>rw [P_tail,if_pos hi] at h;exact h.symm
theorem bnd_bnd (x:Rz) (f g:List Nd→List Tk→Rz):(x.bnd f).bnd g=x.bnd fun ns r=>(f ns r).bnd g:=by cases x<;>rfl
theorem kq_step {F L o G:Nat} {ns:List Nd} {l:List Tk} {X:Rz} (h:Kq F L o G ns l=X) (hX:X≠.out) (hi:inL L l≠0) (hG:G≤F) :
 ∃ G1,G1≤F∧X=(P G1 (.lvl (L+1)) o l.tail).bnd fun ns2 r=>K2 G1 L o (ns++ns2++[ndOp (inL L l) [ns2.length+1,1] (wordL l)]) r:=by
 unfold Kq at h
 by_cases h3:L=3
 ·subst h3
  rw [if_pos rfl,if_neg hi] at h
  exact ⟨F,Nat.le_refl _,h.symm⟩
 ·rw [if_neg h3] at h
  cases G with
  | zero=>exact absurd h.symm hX
  | succ G=>
    rw [P_tail,if_neg hi] at h
    refine ⟨G,by omega,?_⟩
    rw [←h]
    unfold pairP
    rw [bnd_bnd]
    congr 1
    funext ns2 r
    show P G _ o r=K2 G L o _ r
    unfold K2
    rw [if_neg h3]
def errOf (w:World) (b:Nat):Int:=match w.cell? ⟨b,4,none⟩ with|some (.int _ e)=>e|_=>0
def leftOf (N:Nat) (w:World) (b:Nat):Nat:=if errOf w b=0 then N+1-nextOf w b else 0
theorem left_good {W:World} {b n N:Nat} {vw vt:Value} {o m:Int} (h:RqB W b vw (n:Int) o vt 0 m):leftOf N W b=N+1-n:=by
 unfold leftOf errOf nextOf
 rw [h.c 4,h.c 1]
 rfl
theorem left_bad {w0:Wz} {W:World} {b N m M:Nat} {vw vt:Value} {e:Int} {A:List Tk} (h:Qs w0 b vw A e m M vt W):leftOf N W b=0:=by
 obtain ⟨n,o,cs,k,h1,h2,h3,h4⟩:=h.st
 unfold leftOf errOf
 rw [h3.c 4]
 exact if_neg h.ne
structure Gq (w0:Wz) (b:Nat) (vw:Value) (A:List Tk) (T:List Nd) (c o:Nat) (v0:Value) (w:World) (X:Rz) (F L G:Nat) (ns:List Nd) (m R:Nat) (vt:Value) (wr:World):Prop where
 le:G≤F
 cg:Cv b v0 vt w wr
 ok:Qr w0 b vw A (T++ns) m o vt wr
 pos:1≤ns.length
 bd:c+ns.length≤m
 hm:m≤A.length
 lf:R=T.length+ns.length-1
 eq:Kq F L o G ns (A.drop m)=X
structure Bq2 (w0:Wz) (b:Nat) (vw:Value) (A:List Tk) (N:Nat) (v0:Value) (w:World) (X:Rz) (wr:World):Prop where
 ex:∃ (er:Int) (r:List Tk) (m:Nat) (vt:Value),X=.no er r∧Rb2 w0 b vw A N v0 w er r m vt wr
theorem two_put {w0:Wz} {w:World} {b n o g m Lf R:Nat} {vw v0 vt:Value} {A:List Tk} {T ns0 ns:List Nd} {r:List Tk} {w5:World} (h:Rg w0 b vw A (T++ns0) n o v0 w ns r m vt w5) (hLf:Lf=T.length+ns0.length-1) (hR:R=(T++ns0).length+ns.length-1) (h0:1≤ns0.length) (op:Nat) (pn pc:Int) (hA:A.length≤200000) (hT:(T++ns0).length≤n)
 (hg:g≠b) (hv:vt.ownBlock≠some g) {cs:Array Value} (hk:w5.heap[g]?=some (.cells cs 54 (0,0))) (hlo:w0.heap.size≤g) :
 Calls Tryz.prog 50 #[.pointer (some ⟨b,0,none⟩),.agg #[.int .u8 (op:Int),.int .u8 0,.int .i64 0,.string ⟨#[]⟩,.string ⟨#[]⟩,.slice (some ⟨w5.heap.size,0,none⟩) 2 2,.int .i64 pn,.int .i64 pc]] ((w5.alloc (.cells #[.int .i64 (Lf:Int),.int .i64 (R:Int)] 3)).setCell ⟨g,5,none⟩ (.slice (some ⟨w5.heap.size,0,none⟩) 2 2)) fun e w'=>
  e=.returned (.int .i64 ((T++ns0++ns).length:Nat))∧∃ vt',Cv b vt vt' ((w5.alloc (.cells #[.int .i64 (Lf:Int),.int .i64 (R:Int)] 3)).setCell ⟨g,5,none⟩ (.slice (some ⟨w5.heap.size,0,none⟩) 2 2)) w'∧Qr w0 b vw A (T++ns0++ns++[⟨op,0,0,[],[],[ns.length+1,1],pn,pc⟩]) m o vt' w':=by
 have ho:=(Old.refl w5).alloc (.cells #[.int .i64 (Lf:Int),.int .i64 (R:Int)] 3)
 have hglt:g<w5.heap.size:=blk_lt hk
 have hk2:=(ho.block g hglt).trans hk
 have h6:=h.ok.oldw ho
 have h7:=h6.far (k:=5) (.slice (some ⟨w5.heap.size,0,none⟩) 2 2) hg hv hk2 hlo
 have hl:=h.le
 have hm:=h.hm
 have hps:=h.pos
 have hkr:=kr_new (w:=w5) h.ok.qi.old.size [Lf,R] (by simp) #[.int .i64 (Lf:Int),.int .i64 (R:Int)] rfl
 have e1:[Lf,R]=[ns.length+1,1].map ((T++ns0++ns).length-·):=by
  simp only [List.map_cons,List.map_nil,List.length_append] at hLf hR ⊢
  rw [hLf,hR]
  congr 1
  omega
 rw [e1] at hkr
 have hkr2:=row_far (k:=5) (u:=.slice (some ⟨w5.heap.size,0,none⟩) 2 2) hkr (row_ne2 hkr hk2 (by decide))
 exact rput_good h7 ⟨op,0,0,[],[],[ns.length+1,1],pn,pc⟩ _ ⟨hkr2,fun g' e hs=>by have:=h.ok.sb g' hs;simp [Value.ownBlock] at e;omega⟩ (by simp only [List.length_append] at hT ⊢;omega)
theorem rlvl_any {w0:Wz} {w:World} {b n o F N L:Nat} {vw vt0:Value} {A:List Tk} {T:List Nd} (ih:∀ G,G≤F→LvQ w0 b vw A G) (H:Qr w0 b vw A T n o vt0 w) (hn:n≤A.length) (hA:A.length≤200000) (ho:o≤12) (hTn:T.length≤n)
 (hL:L=0∨L=1∨L=3∨L=4∨L=5) {X:Rz} (hX:(P F (.lvl (L+1)) o (A.drop n)).bnd (fun ns r=>Kq F L o F ns r)=X) (hout:X≠.out) (hN:T.length+(A.length-n)+(F+1)≤N) (hN2:N≤1000000) :
 Calls Tryz.prog 22 #[.pointer (some ⟨b,0,none⟩),.int .i64 (L:Int)] w (RRes w0 b vw A T n o N vt0 w X):=by
 have HH:=hid H
 have r4:=H.rd.c 4
 have i7:((L:Int)==7)=false:=beq_false_of_ne (by omega)
 have i2:((L:Int)==2)=false:=beq_false_of_ne (by omega)
 have i6:((L:Int)==6)=false:=beq_false_of_ne (by omega)
 have hL6:L≤6:=by omega
 have hpl:=rplace_any H.rd H.qi.wordsAt hn hA
 obtain ⟨an,han⟩:∃ an,an=(wordL (A.drop n)).ln:=⟨_,rfl⟩
 obtain ⟨ac,hac⟩:∃ ac,ac=(wordL (A.drop n)).cl:=⟨_,rfl⟩
 rw [←han,←hac] at hpl
 clear han hac
 have hne:P F (.lvl (L+1)) o (A.drop n)≠.out:=fun e=>hout (by rw [←hX,e];rfl)
 have hi3:=fun (W:World) (h:Qr w0 b vw A T n o vt0 W)=>ih F (Nat.le_refl _) (L+1) o n (N-1) T vt0 W (by omega) ho hn hTn h hne (by omega) (by omega)
 cases hP:P F (.lvl (L+1)) o (A.drop n) with
 | out=>exact absurd hP hne
 | no er r=>
   rw [hP] at hi3 hX
   have hX':Rz.no er r=X:=hX
   subst hX'
   have HI:=hid (show ∀ W,Qr w0 b vw A T n o vt0 W→Calls Tryz.prog 22 #[.pointer (some ⟨b,0,none⟩),.int .i64 ((L:Int)+1)] W _ from fun W h=>calls_rb (hi3 W h))
   clear H hi3 hP hout hne hX
   go_enter Tryz.func22,Tryz.ntmps22
   go_wp2_with (first
    | (go_at_call 47;(with_reducible refine hpl.mono ?_);rintro e w1 ⟨rfl,o1⟩;have H1:=hid ((HH.out.oldw o1).oldw ((Old.refl _).alloc (.cells #[.int .i64 an,.int .i64 ac] 31)));have HC1:=hid (Cv.ofOld (b:=b) (v:=vt0) (o1.trans ((Old.refl _).alloc (.cells #[.int .i64 an,.int .i64 ac] 31))));clear o1)
    | (go_at_call 22;(with_reducible refine (HI.out _ H1.out).mono ?_);rintro e w3 ⟨i,m,vt3,rfl,hb3⟩))
   obtain ⟨n3,o3,cs3,k3,q1,q2,q3,q4⟩:=hb3.out.qs.st
   have x4:=q3.c 4
   have i0:(er==0)=false:=beq_false_of_ne hb3.out.qs.ne
   have i1:(er != 0)=true:=by rw [bne,i0];rfl
   have HB3:=hid (show Rb2 w0 b vw A N vt0 w er r m vt3 w3 from ⟨hb3.out.hr,hb3.out.hm,HC1.out.trans hb3.out.cg,by obtain ⟨n',o',cs,k,h1,h2,h3,h4⟩:=hb3.out.qs.st;exact ⟨⟨n',o',cs,k,h1,by omega,h3,h4⟩,hb3.out.qs.ne,hb3.out.qs.qi⟩⟩)
   clear q1 q2 q3 q4 hb3
   go_loopw [8] (fun v wr=>v=.int .i64 i∧wr=w3) (fun _ _=>0)
   case atStart=>exact ⟨rfl,rfl⟩
   case round=>
    obtain ⟨rfl,rfl⟩:=hrel
    go_wp2_with fail
    all_goals
     go_ret
     exact ⟨m,i,vt3,HB3.out.hr,HB3.out.hm,rfl,HB3.out.cg,HB3.out.qs⟩
 | ok ns r=>
   rw [hP] at hi3 hX
   have hX':Kq F L o F ns r=X:=hX
   obtain ⟨R,hR⟩:∃ R,R=T.length+ns.length-1:=⟨_,rfl⟩
   have HI:=hid (show ∀ W,Qr w0 b vw A T n o vt0 W→Calls Tryz.prog 22 #[.pointer (some ⟨b,0,none⟩),.int .i64 ((L:Int)+1)] W _ from fun W h=>calls_rg (hi3 W h) hR)
   have HRR:=hid hR
   have HX:=hid hX'
   have IH:=hid ih
   have HOUT:=hid hout
   clear H hi3 hP hout hne hX hX' hR ih
   go_enter Tryz.func22,Tryz.ntmps22
   go_wp2_with (first
    | (go_at_call 47;(with_reducible refine hpl.mono ?_);rintro e w1 ⟨rfl,o1⟩;have H1:=hid ((HH.out.oldw o1).oldw ((Old.refl _).alloc (.cells #[.int .i64 an,.int .i64 ac] 31)));have HC1:=hid (Cv.ofOld (b:=b) (v:=vt0) (o1.trans ((Old.refl _).alloc (.cells #[.int .i64 an,.int .i64 ac] 31))));clear o1)
    | (go_at_call 22;(with_reducible refine (HI.out _ H1.out).mono ?_);rintro e w3 ⟨m,vt3,rfl,hg3⟩))
   have HG3:=hid (show Gq w0 b vw A T n o vt0 w X F L F ns m R vt3 w3 from ⟨Nat.le_refl _,HC1.out.trans hg3.out.cg,hg3.out.ok,hg3.out.pos,hg3.out.le,hg3.out.hm,HRR.out,by rw [←hg3.out.hr];exact HX.out⟩)
   clear hg3 HI HH HC1 H1 hpl r4
   go_loopw [8] (fun v wr=>(∃ (G:Nat) (ns:List Nd) (m R:Nat) (vt:Value),v=.int .i64 (R:Int)∧Hid (Gq w0 b vw A T n o vt0 w X F L G ns m R vt wr))∨(∃ i:Int,v=.int .i64 i∧Hid (Bq2 w0 b vw A N vt0 w X wr))) (fun _ wr=>leftOf A.length wr b)
   case atStart=>exact Or.inl ⟨F,ns,m,R,vt3,rfl,HG3⟩
   case round=>
    clear HG3
    rcases hrel with ⟨G,ns,m,R,vt,rfl,H1⟩|⟨i,rfl,H1⟩
    ·have x4:=H1.out.ok.rd.c 4
     have HO:=hid (Old.refl wr)
     have HNX:=hid (show ∀ W,Old wr W→Calls Tryz.prog 48 #[.pointer (some ⟨b,0,none⟩)] W _ from fun W h=>rnext_any (H1.out.ok.oldw h).rd (H1.out.ok.oldw h).qi.wordsAt H1.out.hm hA)
     by_cases hz:inL L (A.drop m)=0
     ·have HIN:=hid (show ∀ W,Calls Tryz.prog 51 #[.int .i64 (L:Int),.string (st (nextL (A.drop m)))] W fun e w'=>e=.returned (.int .u8 0)∧Old W w' from fun W=>by have:=rinfix_any L hL6 (A.drop m) W;rw [hz] at this;exact this)
      have HE:=hid (kq_stop H1.out.eq HOUT.out hz)
      clear hz
      go_wp2_with (first
       | (go_at_call 48;(with_reducible refine (HNX.out _ HO.out).mono ?_);rintro e w1 ⟨rfl,o1⟩;replace HO:=hid (HO.out.trans o1);clear o1)
       | (go_at_call 51;(with_reducible refine (HIN.out _).mono ?_);rintro e w1 ⟨rfl,o1⟩;replace HO:=hid (HO.out.trans o1);clear o1))
      go_ret
      rw [HE.out]
      exact ⟨m,vt,rfl,H1.out.hm,by rw [←H1.out.lf];rfl,H1.out.cg.trans (Cv.ofOld HO.out),H1.out.ok.oldw HO.out,H1.out.pos,H1.out.bd⟩
     ·obtain ⟨G1,hG1,hE⟩:=kq_step H1.out.eq HOUT.out hz H1.out.le
      have hlt:m<A.length:=drop_lt (inL_ne hz)
      obtain ⟨q,hq⟩:∃ q,q=inL L (A.drop m):=⟨_,rfl⟩
      have hq0:((q:Int)==0)=false:=beq_false_of_ne (by omega)
      have HIN:=hid (show ∀ W,Calls Tryz.prog 51 #[.int .i64 (L:Int),.string (st (nextL (A.drop m)))] W fun e w'=>e=.returned (.int .u8 (q:Int))∧Old W w' from fun W=>by rw [hq];exact rinfix_any L hL6 (A.drop m) W)
      obtain ⟨pn,hpn⟩:∃ pn,pn=(wordL (A.drop m)).ln:=⟨_,rfl⟩
      obtain ⟨pc,hpc⟩:∃ pc,pc=(wordL (A.drop m)).cl:=⟨_,rfl⟩
      have HPL:=hid (show ∀ W,Old wr W→Calls Tryz.prog 47 #[.pointer (some ⟨b,0,none⟩)] W fun e w'=>e=.returned (.agg #[.int .i64 pn,.int .i64 pc])∧Old W w' from fun W h=>by rw [hpn,hpc];exact rplace_any (H1.out.ok.oldw h).rd (H1.out.ok.oldw h).qi.wordsAt H1.out.hm hA)
      rw [drop_tl] at hE
      have hnd:ndOp (inL L (A.drop m))=fun ks x=>ndOp q ks x:=by rw [←hq]
      rw [←hq] at hE
      have hbd:=H1.out.bd
      have hTT:(T++ns).length≤m+1:=by rw [List.length_append];omega
      have hN1:(T++ns).length+(A.length-(m+1))+G1≤N-1:=by rw [List.length_append];omega
      have hne1:P G1 (.lvl (L+1)) o (A.drop (m+1))≠.out:=fun e=>HOUT.out (by rw [hE,e];rfl)
      have hi4:=fun (W:World) (h:Qr w0 b vw A (T++ns) (m+1) o vt W)=>IH.out G1 hG1 (L+1) o (m+1) (N-1) (T++ns) vt W (by omega) ho (by omega) hTT h hne1 hN1 (by omega)
      have HLT:=hid hlt
      have HTT:=hid hTT
      clear hz hq hbd hTT hN1 hne1 hnd
      have HND:=hid (show ∀ ks,ndOp q ks (wordL (A.drop m))=⟨q,0,0,[],[],ks,pn,pc⟩ from fun ks=>by rw [hpn,hpc];rfl)
      clear hpn hpc
      cases hP1:P G1 (.lvl (L+1)) o (A.drop (m+1)) with
      | out=>exact absurd (by rw [hE,hP1];rfl) HOUT.out
      | no er r=>
        have HE:=hid (show X=.no er r by rw [hE,hP1];rfl)
        rw [hP1] at hi4
        have HI:=hid (show ∀ W,Qr w0 b vw A (T++ns) (m+1) o vt W→Calls Tryz.prog 22 #[.pointer (some ⟨b,0,none⟩),.int .i64 ((L:Int)+1)] W _ from fun W h=>calls_rb (hi4 W h))
        clear hi4 hE hP1
        obtain ⟨B3,hB3⟩:∃ B3,B3=((L:Int)==3):=⟨_,rfl⟩
        have e3:=hB3.symm
        have HB3:=hid hB3
        clear hB3
        go_wp2_with (first
         | (go_at_call 48;(with_reducible refine (HNX.out _ HO.out).mono ?_);rintro e w1 ⟨rfl,o1⟩;replace HO:=hid (HO.out.trans o1);clear o1)
         | (go_at_call 51;(with_reducible refine (HIN.out _).mono ?_);rintro e w1 ⟨rfl,o1⟩;replace HO:=hid (HO.out.trans o1);clear o1)
         | (go_at_call 47;(with_reducible refine (HPL.out _ HO.out).mono ?_);rintro e w6 ⟨rfl,o6⟩;replace HO:=hid (HO.out.trans o6);clear o6;have O7:=(Old.refl w6).alloc (.cells #[.int .u8 (q:Int),.int .u8 0,.int .i64 0,.string ⟨#[]⟩,.string ⟨#[]⟩,.slice none 0 0,.int .i64 pn,.int .i64 pc] 54);have H7:=hid ((H1.out.ok.oldw HO.out).oldw O7);have NV7:=hid (show Nv (w6.alloc (.cells #[.int .u8 (q:Int),.int .u8 0,.int .i64 0,.string ⟨#[]⟩,.string ⟨#[]⟩,.slice none 0 0,.int .i64 pn,.int .i64 pc] 54)) w6.heap.size _ from (MapKept.heap_alloc w6 _).1);have x1:=H7.out.rd.c 1;have y1:=H7.out.rd.f 1;have hcs:=Chx.ofSet (w6.alloc (.cells #[.int .u8 (q:Int),.int .u8 0,.int .i64 0,.string ⟨#[]⟩,.string ⟨#[]⟩,.slice none 0 0,.int .i64 pn,.int .i64 pc] 54)) ⟨b,1,none⟩ (.int .i64 ((m:Int)+1));have H8:=hid (show Qr w0 b vw A (T++ns) (m+1) o vt ((w6.alloc (.cells #[.int .u8 (q:Int),.int .u8 0,.int .i64 0,.string ⟨#[]⟩,.string ⟨#[]⟩,.slice none 0 0,.int .i64 pn,.int .i64 pc] 54)).setCell ⟨b,1,none⟩ (.int .i64 ((m:Int)+1))) from H7.out.chx hcs (H7.out.rd.set1 _));have hgb:w6.heap.size≠b:=Nat.ne_of_gt (H1.out.ok.oldw HO.out).rd.lt;have GB:=hid hgb;have GV:=hid (show vt.ownBlock≠some w6.heap.size from fun e=>Nat.lt_irrefl _ ((H1.out.ok.oldw HO.out).hi _ e));have NV8:=hid (NV7.out.cv hgb GV.out (Cv.ofChx (v:=vt) hcs));have HC8:=hid (show Cv b vt vt wr ((w6.alloc (.cells #[.int .u8 (q:Int),.int .u8 0,.int .i64 0,.string ⟨#[]⟩,.string ⟨#[]⟩,.slice none 0 0,.int .i64 pn,.int .i64 pc] 54)).setCell ⟨b,1,none⟩ (.int .i64 ((m:Int)+1))) from (Cv.ofOld (HO.out.trans O7)).trans (Cv.ofChx hcs));have LO:=hid (show w0.heap.size≤w6.heap.size from (H1.out.ok.oldw HO.out).qi.old.size);have WS:=hid (show wr.heap.size≤w6.heap.size from HO.out.size);clear O7 hcs hgb)
         | (go_at_call 22;(with_reducible refine (HI.out _ H8.out).mono ?_);rintro e w9 ⟨i,m9,vt9,rfl,hb9⟩;have Y9:=hb9;have HB9:=hb9;have VG9:=hid (show vt9.ownBlock≠some w6.heap.size from fun e=>by rcases Y9.out.cg.own _ e with h|h;exact GV.out h;exact absurd (blk_lt NV8.out) (Nat.not_lt.2 h));have NV9:=hid (NV8.out.cv GB.out GV.out Y9.out.cg);have O10:=(Old.refl w9).alloc (.cells #[.int .i64 (R:Int),.int .i64 i] 3);have NV10:=hid (NV9.out.old O10);have NV11:=hid (NV10.out.set5 (.slice (some ⟨w9.heap.size,0,none⟩) 2 2));have f5:=NV10.out.f 5;have c5:=NV10.out.c 5;have d0:=NV11.out.c 0;have d1:=NV11.out.c 1;have d2:=NV11.out.c 2;have d3:=NV11.out.c 3;have d4:=NV11.out.c 4;have d5:=NV11.out.c 5;have d6:=NV11.out.c 6;have d7:=NV11.out.c 7;have HC11:=hid (((HC8.out.trans Y9.out.cg).trans (Cv.ofOld O10)).poke (k:=5) (u:=.slice (some ⟨w9.heap.size,0,none⟩) 2 2) WS.out);have HPU:=hid (show Calls Tryz.prog 50 #[.pointer (some ⟨b,0,none⟩),.agg #[.int .u8 (q:Int),.int .u8 0,.int .i64 0,.string ⟨#[]⟩,.string ⟨#[]⟩,.slice (some ⟨w9.heap.size,0,none⟩) 2 2,.int .i64 pn,.int .i64 pc]] ((w9.alloc (.cells #[.int .i64 (R:Int),.int .i64 i] 3)).setCell ⟨w6.heap.size,5,none⟩ (.slice (some ⟨w9.heap.size,0,none⟩) 2 2)) _ from rput_bad ((hb9.out.qs.oldw O10).far (k:=5) (.slice (some ⟨w9.heap.size,0,none⟩) 2 2) GB.out VG9.out LO.out) ⟨q,0,0,[],[],[],pn,pc⟩ (.slice (some ⟨w9.heap.size,0,none⟩) 2 2) rfl (by omega));clear O10 hb9)
         | (go_at_call 50;(with_reducible refine HPU.out.mono ?_);rintro e w12 ⟨⟨j,rfl⟩,vt12,hc12,h12⟩;have HC12:=hid (HC11.out.trans hc12);have H12:=hid (show Qs w0 b vw A er m9 N vt12 w12 from by rw [show N-1+1=N by omega] at h12;exact h12);clear hc12 h12))
        ·have h3:L=3:=by rename_i hb;have h:=HB3.out;rw [hb] at h;have h':=h.symm;simp at h';omega
         go_ret
         rw [HE.out]
         exact ⟨m9,j,vt12,HB9.out.hr,HB9.out.hm,rfl,H1.out.cg.trans HC12.out,H12.out⟩
        ·have h3:L≠3:=by rename_i hb;have h:=HB3.out;rw [hb] at h;intro h4;subst h4;exact absurd h (by decide)
         refine ⟨Or.inr ⟨j,rfl,hid ⟨⟨er,r,m9,vt12,HE.out,HB9.out.hr,HB9.out.hm,H1.out.cg.trans HC12.out,H12.out⟩⟩⟩,?_⟩
         rw [left_bad H12.out,left_good H1.out.ok.rd]
         have:=H1.out.hm
         omega
      | ok ns2 r=>
        have HE:=hid (show X=K2 G1 L o (ns++ns2++[⟨q,0,0,[],[],[ns2.length+1,1],pn,pc⟩]) r by rw [hE,hP1,←HND.out];rfl)
        rw [hP1] at hi4
        obtain ⟨R2,hR2⟩:∃ R2,R2=(T++ns).length+ns2.length-1:=⟨_,rfl⟩
        have HI:=hid (show ∀ W,Qr w0 b vw A (T++ns) (m+1) o vt W→Calls Tryz.prog 22 #[.pointer (some ⟨b,0,none⟩),.int .i64 ((L:Int)+1)] W _ from fun W h=>calls_rg (hi4 W h) hR2)
        have HR2:=hid hR2
        clear hi4 hE hP1 hR2
        obtain ⟨B3,hB3⟩:∃ B3,B3=((L:Int)==3):=⟨_,rfl⟩
        have e3:=hB3.symm
        have HB3:=hid hB3
        clear hB3
        go_wp2_with (first
         | (go_at_call 48;(with_reducible refine (HNX.out _ HO.out).mono ?_);rintro e w1 ⟨rfl,o1⟩;replace HO:=hid (HO.out.trans o1);clear o1)
         | (go_at_call 51;(with_reducible refine (HIN.out _).mono ?_);rintro e w1 ⟨rfl,o1⟩;replace HO:=hid (HO.out.trans o1);clear o1)
         | (go_at_call 47;(with_reducible refine (HPL.out _ HO.out).mono ?_);rintro e w6 ⟨rfl,o6⟩;replace HO:=hid (HO.out.trans o6);clear o6;have O7:=(Old.refl w6).alloc (.cells #[.int .u8 (q:Int),.int .u8 0,.int .i64 0,.string ⟨#[]⟩,.string ⟨#[]⟩,.slice none 0 0,.int .i64 pn,.int .i64 pc] 54);have H7:=hid ((H1.out.ok.oldw HO.out).oldw O7);have NV7:=hid (show Nv (w6.alloc (.cells #[.int .u8 (q:Int),.int .u8 0,.int .i64 0,.string ⟨#[]⟩,.string ⟨#[]⟩,.slice none 0 0,.int .i64 pn,.int .i64 pc] 54)) w6.heap.size _ from (MapKept.heap_alloc w6 _).1);have x1:=H7.out.rd.c 1;have y1:=H7.out.rd.f 1;have hcs:=Chx.ofSet (w6.alloc (.cells #[.int .u8 (q:Int),.int .u8 0,.int .i64 0,.string ⟨#[]⟩,.string ⟨#[]⟩,.slice none 0 0,.int .i64 pn,.int .i64 pc] 54)) ⟨b,1,none⟩ (.int .i64 ((m:Int)+1));have H8:=hid (show Qr w0 b vw A (T++ns) (m+1) o vt ((w6.alloc (.cells #[.int .u8 (q:Int),.int .u8 0,.int .i64 0,.string ⟨#[]⟩,.string ⟨#[]⟩,.slice none 0 0,.int .i64 pn,.int .i64 pc] 54)).setCell ⟨b,1,none⟩ (.int .i64 ((m:Int)+1))) from H7.out.chx hcs (H7.out.rd.set1 _));have hgb:w6.heap.size≠b:=Nat.ne_of_gt (H1.out.ok.oldw HO.out).rd.lt;have GB:=hid hgb;have GV:=hid (show vt.ownBlock≠some w6.heap.size from fun e=>Nat.lt_irrefl _ ((H1.out.ok.oldw HO.out).hi _ e));have NV8:=hid (NV7.out.cv hgb GV.out (Cv.ofChx (v:=vt) hcs));have HC8:=hid (show Cv b vt vt wr ((w6.alloc (.cells #[.int .u8 (q:Int),.int .u8 0,.int .i64 0,.string ⟨#[]⟩,.string ⟨#[]⟩,.slice none 0 0,.int .i64 pn,.int .i64 pc] 54)).setCell ⟨b,1,none⟩ (.int .i64 ((m:Int)+1))) from (Cv.ofOld (HO.out.trans O7)).trans (Cv.ofChx hcs));have LO:=hid (show w0.heap.size≤w6.heap.size from (H1.out.ok.oldw HO.out).qi.old.size);have WS:=hid (show wr.heap.size≤w6.heap.size from HO.out.size);clear O7 hcs hgb)
         | (go_at_call 22;(with_reducible refine (HI.out _ H8.out).mono ?_);rintro e w9 ⟨m9,vt9,rfl,hg9⟩;have Y9:=hg9;have HM:=hg9;have VG9:=hid (show vt9.ownBlock≠some w6.heap.size from fun e=>by rcases Y9.out.cg.own _ e with h|h;exact GV.out h;exact absurd (blk_lt NV8.out) (Nat.not_lt.2 h));have NV9:=hid (NV8.out.cv GB.out GV.out Y9.out.cg);have O10:=(Old.refl w9).alloc (.cells #[.int .i64 (R:Int),.int .i64 (R2:Int)] 3);have NV10:=hid (NV9.out.old O10);have NV11:=hid (NV10.out.set5 (.slice (some ⟨w9.heap.size,0,none⟩) 2 2));have f5:=NV10.out.f 5;have c5:=NV10.out.c 5;have d0:=NV11.out.c 0;have d1:=NV11.out.c 1;have d2:=NV11.out.c 2;have d3:=NV11.out.c 3;have d4:=NV11.out.c 4;have d5:=NV11.out.c 5;have d6:=NV11.out.c 6;have d7:=NV11.out.c 7;have HC11:=hid (((HC8.out.trans Y9.out.cg).trans (Cv.ofOld O10)).poke (k:=5) (u:=.slice (some ⟨w9.heap.size,0,none⟩) 2 2) WS.out);have HPU:=hid (show Calls Tryz.prog 50 #[.pointer (some ⟨b,0,none⟩),.agg #[.int .u8 (q:Int),.int .u8 0,.int .i64 0,.string ⟨#[]⟩,.string ⟨#[]⟩,.slice (some ⟨w9.heap.size,0,none⟩) 2 2,.int .i64 pn,.int .i64 pc]] ((w9.alloc (.cells #[.int .i64 (R:Int),.int .i64 (R2:Int)] 3)).setCell ⟨w6.heap.size,5,none⟩ (.slice (some ⟨w9.heap.size,0,none⟩) 2 2)) _ from two_put hg9.out H1.out.lf HR2.out H1.out.pos q pn pc hA HTT.out GB.out VG9.out NV9.out LO.out);clear O10 hg9)
         | (go_at_call 50;(with_reducible refine HPU.out.mono ?_);rintro e w12 ⟨rfl,vt12,hc12,h12⟩;have HC12:=hid (HC11.out.trans hc12);have H12:=hid h12;clear hc12 h12))
        ·have h3:L=3:=by rename_i hb;have h:=HB3.out;rw [hb] at h;have h':=h.symm;simp at h';omega
         go_ret
         rw [HE.out]
         unfold K2
         rw [if_pos h3]
         refine ⟨m9,vt12,HM.out.hr,HM.out.hm,?_,H1.out.cg.trans HC12.out,?_,by simp only [List.length_append,List.length_cons,List.length_nil];omega,?_⟩
         ·have hv:((T.length:Int)+((ns.length:Int)+(ns2.length:Int)))=((T.length+(ns++ns2++[(⟨q,0,0,[],[],[ns2.length+1,1],pn,pc⟩:Nd)]).length-1:Nat):Int):=by
           simp only [List.length_append,List.length_cons,List.length_nil]
           omega
          exact congrArg (fun z:Int=>Ending.returned (.int .i64 z)) hv
         ·have:=H12.out
          rw [List.append_assoc,List.append_assoc] at this
          rw [List.append_assoc]
          exact this
         ·have:=HM.out.le
          have:=H1.out.bd
          simp only [List.length_append,List.length_cons,List.length_nil]
          omega
        ·have h3:L≠3:=by rename_i hb;have h:=HB3.out;rw [hb] at h;intro h4;subst h4;exact absurd h (by decide)
         have hle:=HM.out.le
         have hbd:=H1.out.bd
         have hq:Qr w0 b vw A (T++(ns++ns2++[⟨q,0,0,[],[],[ns2.length+1,1],pn,pc⟩])) m9 o vt12 w12:=by
          have:=H12.out
          rw [List.append_assoc,List.append_assoc] at this
          rw [List.append_assoc]
          exact this
         refine ⟨Or.inl ⟨G1,ns++ns2++[⟨q,0,0,[],[],[ns2.length+1,1],pn,pc⟩],m9,(T++ns++ns2).length,vt12,congrArg (fun z:Int=>Value.int .i64 z) (show ((T.length:Int)+((ns.length:Int)+(ns2.length:Int)))=_ by simp only [List.length_append];omega),hid ⟨hG1,H1.out.cg.trans HC12.out,hq,by simp only [List.length_append,List.length_cons,List.length_nil];omega,?_,HM.out.hm,?_,?_⟩⟩,?_⟩
         ·simp only [List.length_append,List.length_cons,List.length_nil]
          omega
         ·simp only [List.length_append,List.length_cons,List.length_nil]
          omega
         ·rw [HE.out,←HM.out.hr]
          unfold Kq K2
          rw [if_neg h3,if_neg h3]
         ·rw [left_good H12.out.rd,left_good H1.out.ok.rd]
          have:=HM.out.hm
          omega
    ·obtain ⟨er,r,m,vt,hX,hb⟩:=H1.out.ex
     obtain ⟨n3,o3,cs3,k3,q1,q2,q3,q4⟩:=hb.qs.st
     have x4:=q3.c 4
     have i0:(er==0)=false:=beq_false_of_ne hb.qs.ne
     have HX:=hid hX
     have HB:=hid hb
     clear q1 q2 q3 q4 hb hX
     go_wp2_with fail
     go_ret
     rw [HX.out]
     exact ⟨m,i,vt,HB.out.hr,HB.out.hm,rfl,HB.out.cg,HB.out.qs⟩
end Go.Proofs.YtmkmafkkpigfpaaGreatDoor
