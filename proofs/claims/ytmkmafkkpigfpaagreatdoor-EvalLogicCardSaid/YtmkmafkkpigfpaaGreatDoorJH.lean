/- The document's reader: atoms. -/
import Derived.Test.YtmkmafkkpigfpaaGreatDoorJG
set_option maxHeartbeats 8000000
namespace Go.Proofs.YtmkmafkkpigfpaaGreatDoor
open Go.ChangeShapes Go.WideShapes Go.ChangeAt Go.RowKit Go.Lib
set_option linter.unusedVariables false
set_option linter.unusedSimpArgs false
set_option maxRecDepth 100000
theorem pk_far {W:World} {ob:Obj} {g k:Nat} (hg:g<W.heap.size) (y0 y1 y2 y3 y4 y5 y6:Value):(poke7 (W.alloc ob) W.heap.size y0 y1 y2 y3 y4 y5 y6).cell? ⟨g,k,none⟩=W.cell? ⟨g,k,none⟩:=by
 have hne:W.heap.size≠g:=Nat.ne_of_gt hg
 have h1:(poke7 (W.alloc ob) W.heap.size y0 y1 y2 y3 y4 y5 y6).heap[g]?=W.heap[g]?:=
  ((far_heap hne).trans ((far_heap hne).trans ((far_heap hne).trans ((far_heap hne).trans ((far_heap hne).trans ((far_heap hne).trans (far_heap hne))))))).trans (((Old.refl W).alloc ob).block g hg)
 exact World.cell?_of_block (w:=W) h1
theorem rres_pre {w0:Wz} {w W w':World} {b c o N:Nat} {vw vt:Value} {A:List Tk} {T:List Nd} {x:Rz} {e:Ending} (hc:Cv b vt vt w W) (h:RRes w0 b vw A T c o N vt W x e w'):RRes w0 b vw A T c o N vt w x e w':=by
 cases x with
 | out=>trivial
 | ok ns r=>obtain ⟨m,v,h1,h2,h3,h4,h5,h6,h7⟩:=h;exact ⟨m,v,h1,h2,h3,hc.trans h4,h5,h6,h7⟩
 | no er r=>obtain ⟨m,i,v,h1,h2,h3,h4,h5⟩:=h;exact ⟨m,i,v,h1,h2,h3,hc.trans h4,h5⟩
theorem rres_int {w0:Wz} {W w':World} {b c o N:Nat} {vw vt:Value} {A:List Tk} {T:List Nd} {x:Rz} {e:Ending} (hx:x≠.out) (h:RRes w0 b vw A T c o N vt W x e w'):∃ i:Int,e=.returned (.int .i64 i):=by
 cases x with
 | out=>exact absurd rfl hx
 | ok ns r=>obtain ⟨m,v,h1,h2,h3,_⟩:=h;exact ⟨_,h3⟩
 | no er r=>obtain ⟨m,i,v,h1,h2,h3,_⟩:=h;exact ⟨_,h3⟩
theorem sv_facts {W:World} {b:Nat} {x0 x1 x2 x3 x4 x5 x6:Value} (h:Sv W b x0 x1 x2 x3 x4 x5 x6):W.cell? ⟨b,0,none⟩=some x0∧W.cell? ⟨b,1,none⟩=some x1∧W.cell? ⟨b,2,none⟩=some x2∧W.cell? ⟨b,3,none⟩=some x3∧W.cell? ⟨b,4,none⟩=some x4∧W.cell? ⟨b,5,none⟩=some x5∧W.cell? ⟨b,6,none⟩=some x6∧W.frozen? ⟨b,0,none⟩=false∧W.frozen? ⟨b,1,none⟩=false∧W.frozen? ⟨b,2,none⟩=false∧W.frozen? ⟨b,3,none⟩=false∧W.frozen? ⟨b,4,none⟩=false∧W.frozen? ⟨b,5,none⟩=false∧W.frozen? ⟨b,6,none⟩=false:=
 ⟨h.c 0,h.c 1,h.c 2,h.c 3,h.c 4,h.c 5,h.c 6,h.f 0,h.f 1,h.f 2,h.f 3,h.f 4,h.f 5,h.f 6⟩
theorem leaf_facts {w0:Wz} {w W3:World} {b n o:Nat} {vw vt:Value} {A:List Tk} {T:List Nd} (H:Qr w0 b vw A T n o vt w) (ho:Old w W3) (hnn:n<A.length) (hA:A.length≤200000) (hTn:T.length≤n) (op vk vn:Int) (vs nm:List UInt8) (s1 s2:Value) (e1:s1=.string (st vs)) (e2:s2=.string (st nm)) (ln cl:Int) :
 (W3.alloc (.cells #[.int .u8 op,.int .u8 vk,.int .i64 vn,s1,s2,.slice none 0 0,.int .i64 ln,.int .i64 cl] 54)).cell? ⟨b,1,none⟩=some (.int .i64 (n:Int))∧(W3.alloc (.cells #[.int .u8 op,.int .u8 vk,.int .i64 vn,s1,s2,.slice none 0 0,.int .i64 ln,.int .i64 cl] 54)).frozen? ⟨b,1,none⟩=false∧((W3.alloc (.cells #[.int .u8 op,.int .u8 vk,.int .i64 vn,s1,s2,.slice none 0 0,.int .i64 ln,.int .i64 cl] 54)).setCell ⟨b,1,none⟩ (.int .i64 ((n:Int)+1))).cell? ⟨W3.heap.size,0,none⟩=some (.int .u8 op)∧((W3.alloc (.cells #[.int .u8 op,.int .u8 vk,.int .i64 vn,s1,s2,.slice none 0 0,.int .i64 ln,.int .i64 cl] 54)).setCell ⟨b,1,none⟩ (.int .i64 ((n:Int)+1))).cell? ⟨W3.heap.size,1,none⟩=some (.int .u8 vk)∧((W3.alloc (.cells #[.int .u8 op,.int .u8 vk,.int .i64 vn,s1,s2,.slice none 0 0,.int .i64 ln,.int .i64 cl] 54)).setCell ⟨b,1,none⟩ (.int .i64 ((n:Int)+1))).cell? ⟨W3.heap.size,2,none⟩=some (.int .i64 vn)∧((W3.alloc (.cells #[.int .u8 op,.int .u8 vk,.int .i64 vn,s1,s2,.slice none 0 0,.int .i64 ln,.int .i64 cl] 54)).setCell ⟨b,1,none⟩ (.int .i64 ((n:Int)+1))).cell? ⟨W3.heap.size,3,none⟩=some (s1)∧((W3.alloc (.cells #[.int .u8 op,.int .u8 vk,.int .i64 vn,s1,s2,.slice none 0 0,.int .i64 ln,.int .i64 cl] 54)).setCell ⟨b,1,none⟩ (.int .i64 ((n:Int)+1))).cell? ⟨W3.heap.size,4,none⟩=some (s2)∧((W3.alloc (.cells #[.int .u8 op,.int .u8 vk,.int .i64 vn,s1,s2,.slice none 0 0,.int .i64 ln,.int .i64 cl] 54)).setCell ⟨b,1,none⟩ (.int .i64 ((n:Int)+1))).cell? ⟨W3.heap.size,5,none⟩=some (.slice none 0 0)∧((W3.alloc (.cells #[.int .u8 op,.int .u8 vk,.int .i64 vn,s1,s2,.slice none 0 0,.int .i64 ln,.int .i64 cl] 54)).setCell ⟨b,1,none⟩ (.int .i64 ((n:Int)+1))).cell? ⟨W3.heap.size,6,none⟩=some (.int .i64 ln)∧((W3.alloc (.cells #[.int .u8 op,.int .u8 vk,.int .i64 vn,s1,s2,.slice none 0 0,.int .i64 ln,.int .i64 cl] 54)).setCell ⟨b,1,none⟩ (.int .i64 ((n:Int)+1))).cell? ⟨W3.heap.size,7,none⟩=some (.int .i64 cl)∧
 Hid (Calls Tryz.prog 50 #[.pointer (some ⟨b,0,none⟩),.agg #[.int .u8 op,.int .u8 vk,.int .i64 vn,s1,s2,.slice none 0 0,.int .i64 ln,.int .i64 cl]] ((W3.alloc (.cells #[.int .u8 op,.int .u8 vk,.int .i64 vn,s1,s2,.slice none 0 0,.int .i64 ln,.int .i64 cl] 54)).setCell ⟨b,1,none⟩ (.int .i64 ((n:Int)+1))) fun e w'=>e=.returned (.int .i64 (T.length:Int))∧Hid (∃ vt',Cv b vt vt' w w'∧Qr w0 b vw A (T++[⟨op,vk,vn,vs,nm,[],ln,cl⟩]) (n+1) o vt' w')):=by
 subst e1 e2
 have hO5:=ho.alloc (.cells (ncl op vk vn vs nm (.slice none 0 0) ln cl) 54)
 have H5:=H.oldw hO5
 have hlt:=Nat.lt_of_lt_of_le H.rd.lt ho.size
 have N5:Nv (W3.alloc (.cells (ncl op vk vn vs nm (.slice none 0 0) ln cl) 54)) W3.heap.size _:=(MapKept.heap_alloc W3 _).1
 have hcs:=Chx.ofSet (W3.alloc (.cells (ncl op vk vn vs nm (.slice none 0 0) ln cl) 54)) ⟨b,1,none⟩ (.int .i64 ((n:Int)+1))
 have H6:Qr w0 b vw A T (n+1) o vt _:=H5.chx hcs (H5.rd.set1 _)
 have N6:=N5.cv (Nat.ne_of_gt hlt) (fun e=>by have:=H.hi _ e;have:=ho.size;omega) (Cv.ofChx (v:=vt) hcs)
 refine ⟨H5.rd.c 1,H5.rd.f 1,N6.c 0,N6.c 1,N6.c 2,N6.c 3,N6.c 4,N6.c 5,N6.c 6,N6.c 7,hid ((rput_good H6 ⟨op,vk,vn,vs,nm,[],ln,cl⟩ (.slice none 0 0) (KS.nil _ _ _) (by omega)).mono ?_)⟩
 rintro e w' ⟨h1,vt',h2,h3⟩
 exact ⟨h1,hid ⟨vt',((Cv.ofOld hO5).trans (Cv.ofChx hcs)).trans h2,h3⟩⟩
theorem atom_lit {rec:Md→Nat→List Tk→Rz} {o:Nat} {l:List Tk} (h:(wordL l).k=4∨(wordL l).k=5∨(wordL l).k=6):atomP rec o l=.ok [ndLit (wordL l).vk (wordL l).vn (wordL l).vs (wordL l)] l.tail:=by
 unfold atomP
 rw [if_pos h]
theorem atom_var {rec:Md→Nat→List Tk→Rz} {o:Nat} {l:List Tk} (h:(wordL l).k=2):atomP rec o l=.ok [⟨2,0,0,[],(wordL l).t,[],(wordL l).ln,(wordL l).cl⟩] l.tail:=by
 unfold atomP
 rw [if_neg (by omega),if_pos h]
theorem atom_self {rec:Md→Nat→List Tk→Rz} {o:Nat} {l:List Tk} (h:(wordL l).k=3):atomP rec o l=.ok [⟨3,0,0,[],[],[],(wordL l).ln,(wordL l).cl⟩] l.tail:=by
 unfold atomP
 rw [if_neg (by omega),if_neg (by omega),if_pos h]
theorem atom_name {rec:Md→Nat→List Tk→Rz} {o:Nat} {l:List Tk} (h:(wordL l).k=1):atomP rec o l=nameP rec o l:=by
 unfold atomP
 rw [if_neg (by omega),if_neg (by omega),if_neg (by omega),if_pos h]
theorem is_cut {l:List Tk} (h1:(wordL l).k≠1) (s:List UInt8):isL s l=true↔(wordL l).k=7∧(wordL l).t=s:=by
 unfold isL isT
 simp only [Bool.and_eq_true,Bool.or_eq_true,beq_iff_eq]
 constructor
 ·rintro ⟨h|h,h2⟩
  ·exact absurd h h1
  ·exact ⟨h,h2⟩
 ·rintro ⟨h,h2⟩
  exact ⟨Or.inr h,h2⟩
theorem atom_group {rec:Md→Nat→List Tk→Rz} {o:Nat} {l:List Tk} (h:isL [40] l=true) (h1:(wordL l).k≠1):atomP rec o l=groupP rec o l:=by
 obtain ⟨h7,ht⟩:=(is_cut h1 _).1 h
 unfold atomP
 rw [if_neg (by omega),if_neg (by omega),if_neg (by omega),if_neg h1,if_pos ⟨h7,ht⟩]
theorem atom_other {rec:Md→Nat→List Tk→Rz} {o:Nat} {l:List Tk} (h:isL [40] l=false) (h1:(wordL l).k≠1) (h2:(wordL l).k≠2) (h3:(wordL l).k≠3) (h4:(wordL l).k≠4) (h5:(wordL l).k≠5) (h6:(wordL l).k≠6):atomP rec o l=.no 4 l:=by
 unfold atomP
 rw [if_neg (by omega),if_neg h2,if_neg h3,if_neg h1,if_neg]
 intro e
 rw [(is_cut h1 _).2 e] at h
 cases h
theorem ratom_end {w0:Wz} {w:World} {b n o N:Nat} {vw vt:Value} {A:List Tk} {T:List Nd} (H:Qr w0 b vw A T n o vt w) (hn:n=A.length) (hA:A.length≤200000) (hN:T.length≤N) :
 Calls Tryz.prog 46 #[.pointer (some ⟨b,0,none⟩)] w (RRes w0 b vw A T n o N vt w (.no 4 (A.drop n))):=by
 obtain ⟨oa,cap,hvw,h1,h2,h3⟩:=H.qi.wordsAt
 have HH:=hid H
 have r0:=H.rd.c 0
 have r1:=H.rd.c 1
 have HN:=hid hN
 subst hvw
 obtain ⟨M,hM⟩:∃ M,M=A.length:=⟨_,rfl⟩
 have HM:=hid (show n≤A.length by omega)
 rw [←hM] at hn hA r0
 subst hn
 clear H h1 h2 h3 hN hM
 go_enter Tryz.func46,Tryz.ntmps46
 go_wp2
 go_quiet (fail)
 have H2:=hid (HH.out.oldw ((Old.refl w).drewN nq))
 go_wp2_with (first
  | (go_at_call 96;refine (rstop_any H2.out.rd 4).mono ?_;rintro e w3 ⟨rfl,c3,h3⟩;have HQ3:=hid (H2.out.stopped (N:=N) c3 (by rw [if_pos rfl,if_pos rfl] at h3;exact h3) (by decide) HM.out HN.out);have HC3:=hid ((Cv.ofOld (b:=b) (v:=vt) ((Old.refl w).drewN nq)).trans (Cv.ofChx c3));clear c3 h3))
 go_ret
 exact ⟨n,-1,vt,rfl,HM.out,rfl,HC3.out,HQ3.out⟩
def CallQ (w0:Wz) (b:Nat) (vw:Value) (A:List Tk) (F:Nat):Prop:=
 ∀ (op lo hi o n N:Nat) (T:List Nd) (vt:Value) (w:World),o≤12→n<A.length→T.length≤n→Qr w0 b vw A T n o vt w→callP (P F) (op,lo,hi) o (A.drop n)≠.out→18≤op→op≤26→1≤lo→lo≤hi→hi≤8→T.length+(A.length-n)+(F+1)≤N→N≤1000000→
   Calls Tryz.prog 98 #[.pointer (some ⟨b,0,none⟩),.int .u8 (op:Int),.int .i64 (lo:Int),.int .i64 (hi:Int)] w (RRes w0 b vw A T n o N vt w (callP (P F) (op,lo,hi) o (A.drop n)))
theorem call_hi {s:List UInt8} {c:Nat × Nat × Nat} (h:callL s=some c):c.2.2≤8:=by
 unfold callL at h
 repeat' split at h
 all_goals first|(injection h with h;subst h;decide)|cases h
theorem ratom_at {w0:Wz} {w:World} {b n o F N:Nat} {vw vt:Value} {A:List Tk} {T:List Nd} (ih:LvQ w0 b vw A F) (cq:CallQ w0 b vw A F) (H:Qr w0 b vw A T n o vt w) (hnn:n<A.length) (hA:A.length≤200000) (ho:o≤12) (hTn:T.length≤n)
 {X:Rz} (hX:atomP (P F) o (A.drop n)=X) (hout:X≠.out) (hN:T.length+(A.length-n)+(F+1)≤N) (hN2:N≤1000000) :
 Calls Tryz.prog 46 #[.pointer (some ⟨b,0,none⟩)] w (RRes w0 b vw A T n o N vt w X):=by
 have hTN:T.length≤N:=by omega
 obtain ⟨oa,cap,hvw,h1,h2,h3⟩:=H.qi.wordsAt
 have HH:=hid H
 have r0:=H.rd.c 0
 have r1:=H.rd.c 1
 subst hvw
 have hx:A[n]?=some A[n]:=List.getElem?_eq_getElem hnn
 have hd:wordL (A.drop n)=A[n]:=by rw [List.drop_eq_getElem_cons hnn];rfl
 obtain ⟨g,rfl,hg,_,c0,c1,c2,c3,c4,c5,c6⟩:=h3 n _ hx
 rw [←hd] at c0 c1 c2 c3 c4 c5 c6
 obtain ⟨x,hxx⟩:∃ x,x=wordL (A.drop n):=⟨_,rfl⟩
 rw [←hxx] at c0 c1 c2 c3 c4 c5 c6
 obtain ⟨k,t,vk,vn,vs,ln,cl⟩:=x
 simp only at c0 c1 c2 c3 c4 c5 c6
 have HW:=hid hxx.symm
 obtain ⟨M,hM⟩:∃ M,M=A.length:=⟨_,rfl⟩
 have HM:=hid hM
 have hn:n<M:=by omega
 have hAM:M≤200000:=by omega
 rw [←hM] at r0 h1
 replace r0:w.cell? ⟨b,0,none⟩=some (.slice (some ⟨g,0,none⟩) M cap):=r0
 replace r1:w.cell? ⟨b,1,none⟩=some (.int .i64 (n:Int)):=r1
 have HX:=hid hX
 have HOUT:=hid hout
 have IH:=hid ih
 have CQ:=hid cq
 clear H h3 hM hx hd hxx hX hout ih cq
 go_enter Tryz.func46,Tryz.ntmps46
 go_wp2
 go_quiet (fail)
 go_wp2
 have HZ:=hid (show Sv ((w.drewN (nq+1)).alloc (.cells #[.int .u8 0,.string ⟨#[]⟩,.int .u8 0,.int .i64 0,.string ⟨#[]⟩,.int .i64 0,.int .i64 0] 64)) w.heap.size _ _ _ _ _ _ _ from sv0 (w.drewN (nq+1)))
 obtain ⟨a0,a1,a2,a3,a4,a5,a6,f0,f1,f2,f3,f4,f5,f6⟩:=sv_facts HZ.out
 have PF:=hid (show ∀ (g' k':Nat) (v:Value),g'<w.heap.size→w.cell? ⟨g',k',none⟩=some v→(World.setCell (World.setCell (World.setCell (World.setCell (World.setCell (World.setCell (World.setCell ((w.drewN (nq+1)).alloc (.cells #[.int .u8 0,.string ⟨#[]⟩,.int .u8 0,.int .i64 0,.string ⟨#[]⟩,.int .i64 0,.int .i64 0] 64)) ⟨w.heap.size,0,none⟩ (.int .u8 k)) ⟨w.heap.size,1,none⟩ (.string (st t))) ⟨w.heap.size,2,none⟩ (.int .u8 vk)) ⟨w.heap.size,3,none⟩ (.int .i64 vn)) ⟨w.heap.size,4,none⟩ (.string (st vs))) ⟨w.heap.size,5,none⟩ (.int .i64 ln)) ⟨w.heap.size,6,none⟩ (.int .i64 cl)).cell? ⟨g',k',none⟩=some v from fun g' k' v h1 h2=>(pk_far (W:=w.drewN (nq+1)) h1 _ _ _ _ _ _ _).trans h2)
 have hb:=HH.out.rd.lt
 go_region_held3 (fun w'=>w'.cell? ⟨b,0,none⟩=some (.slice (some ⟨g,0,none⟩) M cap)∧w'.cell? ⟨b,1,none⟩=some (.int .i64 (n:Int))∧w'.cell? ⟨g,n*7,none⟩=some (.int .u8 k)∧w'.cell? ⟨g,n*7+1,none⟩=some (.string (st t))∧w'.cell? ⟨g,n*7+2,none⟩=some (.int .u8 vk)∧w'.cell? ⟨g,n*7+3,none⟩=some (.int .i64 vn)∧w'.cell? ⟨g,n*7+4,none⟩=some (.string (st vs))∧w'.cell? ⟨g,n*7+5,none⟩=some (.int .i64 ln)∧w'.cell? ⟨g,n*7+6,none⟩=some (.int .i64 cl))
  (first|with_reducible exact ⟨r0,r1,c0,c1,c2,c3,c4,c5,c6⟩|with_reducible exact ⟨PF.out _ _ _ hb r0,PF.out _ _ _ hb r1,PF.out _ _ _ hg c0,PF.out _ _ _ hg c1,PF.out _ _ _ hg c2,PF.out _ _ _ hg c3,PF.out _ _ _ hg c4,PF.out _ _ _ hg c5,PF.out _ _ _ hg c6⟩|go_keep)
  (fail)
 have HT:=hid (show Sv (World.setCell (World.setCell (World.setCell (World.setCell (World.setCell (World.setCell (World.setCell ((w.drewN (nq+1)).alloc (.cells #[.int .u8 0,.string ⟨#[]⟩,.int .u8 0,.int .i64 0,.string ⟨#[]⟩,.int .i64 0,.int .i64 0] 64)) ⟨w.heap.size,0,none⟩ (.int .u8 k)) ⟨w.heap.size,1,none⟩ (.string (st t))) ⟨w.heap.size,2,none⟩ (.int .u8 vk)) ⟨w.heap.size,3,none⟩ (.int .i64 vn)) ⟨w.heap.size,4,none⟩ (.string (st vs))) ⟨w.heap.size,5,none⟩ (.int .i64 ln)) ⟨w.heap.size,6,none⟩ (.int .i64 cl)) w.heap.size _ _ _ _ _ _ _ from HZ.out.poke _ _ _ _ _ _ _)
 have HO:=hid (show Old w (World.setCell (World.setCell (World.setCell (World.setCell (World.setCell (World.setCell (World.setCell ((w.drewN (nq+1)).alloc (.cells #[.int .u8 0,.string ⟨#[]⟩,.int .u8 0,.int .i64 0,.string ⟨#[]⟩,.int .i64 0,.int .i64 0] 64)) ⟨w.heap.size,0,none⟩ (.int .u8 k)) ⟨w.heap.size,1,none⟩ (.string (st t))) ⟨w.heap.size,2,none⟩ (.int .u8 vk)) ⟨w.heap.size,3,none⟩ (.int .i64 vn)) ⟨w.heap.size,4,none⟩ (.string (st vs))) ⟨w.heap.size,5,none⟩ (.int .i64 ln)) ⟨w.heap.size,6,none⟩ (.int .i64 cl)) from old_poke7 (((Old.refl w).drewN (nq+1)).alloc _) (Nat.le_refl _) _ _ _ _ _ _ _)
 clear a0 a1 a2 a3 a4 a5 a6 f0 f1 f2 f3 f4 f5 f6 c0 c1 c2 c3 c4 c5 c6 r0 r1 HZ PF hb hg
 generalize (World.setCell (World.setCell (World.setCell (World.setCell (World.setCell (World.setCell (World.setCell ((w.drewN (nq+1)).alloc (.cells #[.int .u8 0,.string ⟨#[]⟩,.int .u8 0,.int .i64 0,.string ⟨#[]⟩,.int .i64 0,.int .i64 0] 64)) ⟨w.heap.size,0,none⟩ (.int .u8 k)) ⟨w.heap.size,1,none⟩ (.string (st t))) ⟨w.heap.size,2,none⟩ (.int .u8 vk)) ⟨w.heap.size,3,none⟩ (.int .i64 vn)) ⟨w.heap.size,4,none⟩ (.string (st vs))) ⟨w.heap.size,5,none⟩ (.int .i64 ln)) ⟨w.heap.size,6,none⟩ (.int .i64 cl))=W3 at *
 generalize w.heap.size=gt at HT ⊢
 have T4:=hid (HT.out.old ((Old.refl W3).alloc (.cells #[.int .u8 1,.int .u8 vk,.int .i64 vn,.string (st vs),.string ⟨#[]⟩,.slice none 0 0,.int .i64 ln,.int .i64 cl] 54)))
 have H4:=hid (HH.out.oldw (HO.out.alloc (.cells #[.int .u8 1,.int .u8 vk,.int .i64 vn,.string (st vs),.string ⟨#[]⟩,.slice none 0 0,.int .i64 ln,.int .i64 cl] 54)))
 have HC4:=hid (show Cv b vt vt w (W3.alloc (.cells #[.int .u8 1,.int .u8 vk,.int .i64 vn,.string (st vs),.string ⟨#[]⟩,.slice none 0 0,.int .i64 ln,.int .i64 cl] 54)) from Cv.ofOld (HO.out.alloc _))
 obtain ⟨d0,d1,d2,d3,d4,d5,d6,_⟩:=sv_facts HT.out
 obtain ⟨e0,e1,e2,e3,e4,e5,e6,_⟩:=sv_facts T4.out
 by_cases h456:k=4∨k=5∨k=6
 ·have hXX:X=.ok [⟨1,vk,vn,vs,[],[],ln,cl⟩] (A.drop (n+1)):=by rw [←HX.out,atom_lit (by rw [HW.out];exact h456),HW.out,drop_tl];rfl
  have HCR:=hid hXX
  clear hXX
  rcases h456 with h|h|h<;>subst h
  all_goals
   obtain ⟨x1,y1,q0,q1,q2,q3,q4,q5,q6,q7,HPU⟩:=leaf_facts HH.out HO.out hnn hA hTn 1 vk vn vs [] (.string (st vs)) (.string ⟨#[]⟩) rfl rfl ln cl
   go_wp2_with (first
    | (go_at_call 97;refine (rcall_any _ _).mono ?_;rintro e w8 ⟨rfl,rfl⟩;rw [HCR.out])
    | (go_at_call 50;(with_reducible refine HPU.out.mono ?_);rintro e w7 ⟨rfl,h7⟩))
   go_ret
   obtain ⟨vt7,hc7,hq7⟩:=h7.out
   rw [HCR.out]
   exact ⟨n+1,vt7,rfl,hnn,by simp,hc7,hq7,Nat.le_refl _,Nat.le_refl _⟩
 by_cases hk2:k=2
 ·subst hk2
  have hXX:X=.ok [⟨2,0,0,[],t,[],ln,cl⟩] (A.drop (n+1)):=by rw [←HX.out,atom_var (by rw [HW.out]),HW.out,drop_tl]
  have HCR:=hid hXX
  clear hXX h456
  obtain ⟨x1,y1,q0,q1,q2,q3,q4,q5,q6,q7,HPU⟩:=leaf_facts HH.out HO.out hnn hA hTn 2 0 0 [] t (.string ⟨#[]⟩) (.string (st t)) rfl rfl ln cl
  go_wp2_with (first
   | (go_at_call 97;refine (rcall_any _ _).mono ?_;rintro e w8 ⟨rfl,rfl⟩;rw [HCR.out])
   | (go_at_call 50;(with_reducible refine HPU.out.mono ?_);rintro e w7 ⟨rfl,h7⟩))
  go_ret
  obtain ⟨vt7,hc7,hq7⟩:=h7.out
  rw [HCR.out]
  exact ⟨n+1,vt7,rfl,hnn,by simp,hc7,hq7,Nat.le_refl _,Nat.le_refl _⟩
 by_cases hk3:k=3
 ·subst hk3
  have hXX:X=.ok [⟨3,0,0,[],[],[],ln,cl⟩] (A.drop (n+1)):=by rw [←HX.out,atom_self (by rw [HW.out]),HW.out,drop_tl]
  have HCR:=hid hXX
  clear hXX h456 hk2
  obtain ⟨x1,y1,q0,q1,q2,q3,q4,q5,q6,q7,HPU⟩:=leaf_facts HH.out HO.out hnn hA hTn 3 0 0 [] [] (.string ⟨#[]⟩) (.string ⟨#[]⟩) rfl rfl ln cl
  go_wp2_with (first
   | (go_at_call 97;refine (rcall_any _ _).mono ?_;rintro e w8 ⟨rfl,rfl⟩;rw [HCR.out])
   | (go_at_call 50;(with_reducible refine HPU.out.mono ?_);rintro e w7 ⟨rfl,h7⟩))
  go_ret
  obtain ⟨vt7,hc7,hq7⟩:=h7.out
  rw [HCR.out]
  exact ⟨n+1,vt7,rfl,hnn,by simp,hc7,hq7,Nat.le_refl _,Nat.le_refl _⟩
 by_cases hk1:k=1
 ·subst hk1
  have hXn:X=nameP (P F) o (A.drop n):=by rw [←HX.out,atom_name (by rw [HW.out])]
  unfold nameP at hXn
  rw [HW.out,drop_tl] at hXn
  simp only at hXn
  clear h456 hk2 hk3
  by_cases n0:t=[116,114,117,101]
  ·subst n0
   rw [if_pos rfl] at hXn
   have HEQ:=hid hXn
   have HCR:=hid (show callR [116,114,117,101]=(0,0,0) by decide)
   clear hXn
   obtain ⟨x1,y1,q0,q1,q2,q3,q4,q5,q6,q7,HPU⟩:=leaf_facts HH.out HO.out hnn hA hTn 1 4 1 [] [] (.string ⟨#[]⟩) (.string ⟨#[]⟩) rfl rfl ln cl
   go_wp2_with (first
    | (go_at_call 97;refine (rcall_any _ _).mono ?_;rintro e w8 ⟨rfl,rfl⟩;rw [HCR.out])
    | (go_at_call 50;(with_reducible refine HPU.out.mono ?_);rintro e w7 ⟨rfl,h7⟩))
   go_ret
   obtain ⟨vt7,hc7,hq7⟩:=h7.out
   rw [HEQ.out]
   exact ⟨n+1,vt7,rfl,hnn,by simp,hc7,hq7,Nat.le_refl _,Nat.le_refl _⟩
  by_cases n1:t=[102,97,108,115,101]
  ·subst n1
   rw [if_neg (by decide),if_pos rfl] at hXn
   have HEQ:=hid hXn
   have HCR:=hid (show callR [102,97,108,115,101]=(0,0,0) by decide)
   clear hXn
   obtain ⟨x1,y1,q0,q1,q2,q3,q4,q5,q6,q7,HPU⟩:=leaf_facts HH.out HO.out hnn hA hTn 1 4 0 [] [] (.string ⟨#[]⟩) (.string ⟨#[]⟩) rfl rfl ln cl
   go_wp2_with (first
    | (go_at_call 97;refine (rcall_any _ _).mono ?_;rintro e w8 ⟨rfl,rfl⟩;rw [HCR.out])
    | (go_at_call 50;(with_reducible refine HPU.out.mono ?_);rintro e w7 ⟨rfl,h7⟩))
   go_ret
   obtain ⟨vt7,hc7,hq7⟩:=h7.out
   rw [HEQ.out]
   exact ⟨n+1,vt7,rfl,hnn,by simp,hc7,hq7,Nat.le_refl _,Nat.le_refl _⟩
  by_cases n2:t=[110,117,108,108]
  ·subst n2
   rw [if_neg (by decide),if_neg (by decide),if_pos rfl] at hXn
   have HEQ:=hid hXn
   have HCR:=hid (show callR [110,117,108,108]=(0,0,0) by decide)
   clear hXn
   obtain ⟨x1,y1,q0,q1,q2,q3,q4,q5,q6,q7,HPU⟩:=leaf_facts HH.out HO.out hnn hA hTn 1 0 0 [] [] (.string ⟨#[]⟩) (.string ⟨#[]⟩) rfl rfl ln cl
   go_wp2_with (first
    | (go_at_call 97;refine (rcall_any _ _).mono ?_;rintro e w8 ⟨rfl,rfl⟩;rw [HCR.out])
    | (go_at_call 50;(with_reducible refine HPU.out.mono ?_);rintro e w7 ⟨rfl,h7⟩))
   go_ret
   obtain ⟨vt7,hc7,hq7⟩:=h7.out
   rw [HEQ.out]
   exact ⟨n+1,vt7,rfl,hnn,by simp,hc7,hq7,Nat.le_refl _,Nat.le_refl _⟩
  rw [if_neg n0,if_neg n1,if_neg n2] at hXn
  have p0:(t==[116,114,117,101])=false:=beq_false_of_ne n0
  have p1:(t==[102,97,108,115,101])=false:=beq_false_of_ne n1
  have p2:(t==[110,117,108,108])=false:=beq_false_of_ne n2
  clear n0 n1 n2
  cases hc:callL t with
  | none=>
    rw [hc] at hXn
    have HEQ:=hid hXn
    have hcr:callR t=(0,0,0):=by unfold callR;rw [hc];rfl
    clear hXn hc
    go_wp2_with (first
     | (go_at_call 97;refine (rcall_any t _).mono ?_;rintro e w8 ⟨rfl,rfl⟩;rw [hcr])
     | (go_at_call 96;refine (rstop_any H4.out.rd 4).mono ?_;rintro e w3 ⟨rfl,c3,h3⟩;have HQ3:=hid (H4.out.stopped (N:=N) c3 (by rw [if_pos rfl,if_pos rfl] at h3;exact h3) (by decide) (Nat.le_of_lt hnn) hTN);have HC5:=hid (HC4.out.trans (Cv.ofChx (v:=vt) c3));clear c3 h3))
    go_ret
    rw [HEQ.out]
    exact ⟨n,-1,vt,rfl,Nat.le_of_lt hnn,rfl,HC5.out,HQ3.out⟩
  | some c=>
    rw [hc] at hXn
    have HEQ:=hid hXn
    have hcr:callR t=c:=by unfold callR;rw [hc];rfl
    obtain ⟨_,g1,g2,g3,g4⟩:=call_facts hc
    have g5:=call_hi hc
    obtain ⟨q,lo,hi⟩:=c
    simp only at g1 g2 g3 g4 g5
    have i0:((q:Int)==0)=false:=beq_false_of_ne (by omega)
    have HQ:=hid (show Calls Tryz.prog 98 #[.pointer (some ⟨b,0,none⟩),.int .u8 (q:Int),.int .i64 (lo:Int),.int .i64 (hi:Int)] (W3.alloc (.cells #[.int .u8 1,.int .u8 vk,.int .i64 vn,.string (st vs),.string ⟨#[]⟩,.slice none 0 0,.int .i64 ln,.int .i64 cl] 54)) (RRes w0 b _ A T n o N vt (W3.alloc (.cells #[.int .u8 1,.int .u8 vk,.int .i64 vn,.string (st vs),.string ⟨#[]⟩,.slice none 0 0,.int .i64 ln,.int .i64 cl] 54)) X) from by rw [HEQ.out];exact CQ.out q lo hi o n N T vt _ ho hnn hTn H4.out (fun e=>HOUT.out (HEQ.out.trans e)) g1 g2 g3 g4 g5 hN hN2)
    clear hXn hc g1 g2 g3 g4 g5
    go_wp2_with (first
     | (go_at_call 97;refine (rcall_any t _).mono ?_;rintro e w8 ⟨rfl,rfl⟩;rw [hcr])
     | (go_at_call 98;(with_reducible refine HQ.out.mono ?_);rintro e w9 h9;obtain ⟨i,rfl⟩:=rres_int HOUT.out h9;have H9:=hid h9;clear h9))
    go_ret
    exact rres_pre HC4.out H9.out
 have hk4:k≠4:=fun h=>h456 (Or.inl h)
 have hk5:k≠5:=fun h=>h456 (Or.inr (Or.inl h))
 have hk6:k≠6:=fun h=>h456 (Or.inr (Or.inr h))
 have kk1:(k==1)=false:=beq_false_of_ne hk1
 have kk2:(k==2)=false:=beq_false_of_ne hk2
 have kk3:(k==3)=false:=beq_false_of_ne hk3
 have kk4:(k==4)=false:=beq_false_of_ne hk4
 have kk5:(k==5)=false:=beq_false_of_ne hk5
 have kk6:(k==6)=false:=beq_false_of_ne hk6
 have w1:(wordL (A.drop n)).k≠1:=by rw [HW.out];exact hk1
 have hnx:=next_is (s:=[40]) (l:=A.drop n) (by simp)
 cases hi:isL [40] (A.drop n)
 ·have hXX:X=.no 4 (A.drop n):=by rw [←HX.out,atom_other hi w1 (by rw [HW.out];exact hk2) (by rw [HW.out];exact hk3) (by rw [HW.out];exact hk4) (by rw [HW.out];exact hk5) (by rw [HW.out];exact hk6)]
  have HEQ:=hid hXX
  obtain ⟨tx,htx⟩:∃ tx,tx=nextL (A.drop n):=⟨_,rfl⟩
  have etl:(tx==[40])=false:=by rw [htx,←hnx];exact hi
  have HNX:=hid (show Calls Tryz.prog 48 #[.pointer (some ⟨b,0,none⟩)] (W3.alloc (.cells #[.int .u8 1,.int .u8 vk,.int .i64 vn,.string (st vs),.string ⟨#[]⟩,.slice none 0 0,.int .i64 ln,.int .i64 cl] 54)) fun e w'=>e=.returned (.string (st tx))∧Old (W3.alloc (.cells #[.int .u8 1,.int .u8 vk,.int .i64 vn,.string (st vs),.string ⟨#[]⟩,.slice none 0 0,.int .i64 ln,.int .i64 cl] 54)) w' from by rw [htx];exact rnext_any H4.out.rd H4.out.qi.wordsAt (Nat.le_of_lt hnn) hA)
  have HI40:=hid hi
  clear hXX htx hi hnx hk1 hk2 hk3 hk4 hk5 hk6 w1 h456
  go_wp2_with (first
   | (go_at_call 48;(with_reducible refine HNX.out.mono ?_);rintro e w5 ⟨rfl,o5⟩;have H5:=hid (H4.out.oldw o5);have HC5:=hid (HC4.out.trans (Cv.ofOld (v:=vt) o5));clear o5;have HM1:=hid (show Calls Tryz.prog 99 #[.pointer (some ⟨b,0,none⟩),.string ⟨#[40]⟩] w5 _ from rmust_no H5.out.rd H5.out.qi.wordsAt (Nat.le_of_lt hnn) hA [40] (by simp) HI40.out))
   | (go_at_call 99;(with_reducible refine HM1.out.mono ?_);rintro e w6 ⟨rfl,c6,h6⟩;have HQ6:=hid (H5.out.stopped (N:=N) c6 h6 (by decide) (Nat.le_of_lt hnn) hTN);have HC6:=hid (HC5.out.trans (Cv.ofChx (v:=vt) c6));have HEX:=hid (show Calls Tryz.prog 22 #[.pointer (some ⟨b,0,none⟩),.int .i64 0] w6 _ from rexpr_stop HQ6.out 0);clear c6 h6)
   | (go_at_call 22;(with_reducible refine HEX.out.mono ?_);rintro e w7 ⟨rfl,rfl⟩;obtain ⟨n9,o9,cs9,k9,j1,j2,j3,j4⟩:=HQ6.out.st;have J1:=hid j1;have J2:=hid j2;have J3:=hid j3;have J4:=hid j4;have HM2:=hid (show Calls Tryz.prog 99 #[.pointer (some ⟨b,0,none⟩),.string ⟨#[41]⟩] w7 _ from rmust_stop j3 (by decide) [41]);clear j1 j2 j3 j4)
   | (go_at_call 99;(with_reducible refine HM2.out.mono ?_);rintro e w8 ⟨rfl,o8⟩;have R8:=hid (J3.out.old o8);have z2:=R8.out.c 2;have z3:=R8.out.f 2;have hcs:=Chx.ofSet w8 ⟨b,2,none⟩ (.int .i64 (wrap64 (o9-1)));have HC9:=hid ((HC6.out.trans (Cv.ofOld (v:=vt) o8)).trans (Cv.ofChx (v:=vt) hcs));have HQ9:=hid (show Qs w0 b _ A 4 n N vt (w8.setCell ⟨b,2,none⟩ (.int .i64 (wrap64 (o9-1)))) from ⟨⟨n9,_,cs9,k9,J1.out,J2.out,R8.out.set2 _,own_chq (own_old J4.out o8) (by decide) R8.out hcs⟩,by decide,(HQ6.out.oldw o8).qi.cv (Cv.ofChx (v:=vt) hcs) HQ6.out.lo⟩);clear hcs o8))
  go_ret
  rw [HEQ.out]
  exact ⟨n,-1,vt,rfl,Nat.le_of_lt hnn,rfl,HC9.out,HQ9.out⟩
 ·have htx:nextL (A.drop n)=[40]:=by rw [hi] at hnx;simpa using hnx.symm
  have HNX:=hid (show Calls Tryz.prog 48 #[.pointer (some ⟨b,0,none⟩)] (W3.alloc (.cells #[.int .u8 1,.int .u8 vk,.int .i64 vn,.string (st vs),.string ⟨#[]⟩,.slice none 0 0,.int .i64 ln,.int .i64 cl] 54)) fun e w'=>e=.returned (.string ⟨#[40]⟩)∧Old (W3.alloc (.cells #[.int .u8 1,.int .u8 vk,.int .i64 vn,.string (st vs),.string ⟨#[]⟩,.slice none 0 0,.int .i64 ln,.int .i64 cl] 54)) w' from by have:=rnext_any H4.out.rd H4.out.qi.wordsAt (Nat.le_of_lt hnn) hA;rw [htx] at this;exact this)
  have hXg:X=groupP (P F) o (A.drop n):=by rw [←HX.out,atom_group hi w1]
  unfold groupP at hXg
  rw [drop_tl] at hXg
  have HI40:=hid hi
  have HA:=hid hA
  clear htx hi hnx hk1 hk2 hk3 hk4 hk5 hk6 w1 h456
  by_cases h12:o=12
  ·rw [if_pos h12] at hXg
   have HEQ:=hid hXg
   clear hXg
   go_wp2_with (first
    | (go_at_call 48;(with_reducible refine HNX.out.mono ?_);rintro e w5 ⟨rfl,o5⟩;have H5:=hid (H4.out.oldw o5);have HC5:=hid (HC4.out.trans (Cv.ofOld (v:=vt) o5));clear o5)
    | (go_at_call 49;refine (rdeep_no H5.out.rd (by omega) (by omega)).mono ?_;rintro e w6 ⟨rfl,c6,h6⟩;have HQ6:=hid (H5.out.stopped (N:=N) c6 h6 (by decide) (Nat.le_of_lt hnn) hTN);have HC6:=hid (HC5.out.trans (Cv.ofChx (v:=vt) c6));obtain ⟨n9,o9,cs9,k9,j1,j2,j3,j4⟩:=HQ6.out.st;have HM1:=hid (show Calls Tryz.prog 99 #[.pointer (some ⟨b,0,none⟩),.string ⟨#[40]⟩] w6 _ from rmust_stop j3 HQ6.out.ne [40]);clear j1 j2 j3 j4;clear c6 h6)
    | (go_at_call 99;(with_reducible refine HM1.out.mono ?_);rintro e w7 ⟨rfl,o7⟩;have HQ7:=hid (HQ6.out.oldw o7);have HC7:=hid (HC6.out.trans (Cv.ofOld (v:=vt) o7));have HEX:=hid (show Calls Tryz.prog 22 #[.pointer (some ⟨b,0,none⟩),.int .i64 0] w7 _ from rexpr_stop HQ7.out 0);obtain ⟨n9,o9,cs9,k9,j1,j2,j3,j4⟩:=HQ7.out.st;have HM2:=hid (show Calls Tryz.prog 99 #[.pointer (some ⟨b,0,none⟩),.string ⟨#[41]⟩] w7 _ from rmust_stop j3 HQ7.out.ne [41]);clear j1 j2 j3 j4;clear o7)
    | (go_at_call 22;(with_reducible refine HEX.out.mono ?_);rintro e w7' ⟨rfl,rfl⟩)
    | (go_at_call 99;(with_reducible refine HM2.out.mono ?_);rintro e w8 ⟨rfl,o8⟩;obtain ⟨n9,o9,cs9,k9,j1,j2,j3,j4⟩:=HQ7.out.st;have R8:=j3.old o8;have z2:=R8.c 2;have z3:=R8.f 2;have hcs:=Chx.ofSet w8 ⟨b,2,none⟩ (.int .i64 (wrap64 (o9-1)));have HC9:=hid ((HC7.out.trans (Cv.ofOld (v:=vt) o8)).trans (Cv.ofChx (v:=vt) hcs));have HQ9:=hid (show Qs w0 b _ A 12 n N vt (w8.setCell ⟨b,2,none⟩ (.int .i64 (wrap64 (o9-1)))) from ⟨⟨n9,_,cs9,k9,j1,j2,R8.set2 _,own_chq (own_old j4 o8) (by decide) R8 hcs⟩,HQ7.out.ne,(HQ7.out.oldw o8).qi.cv (Cv.ofChx (v:=vt) hcs) HQ7.out.lo⟩);clear j1 j2 j3 j4 hcs o8 R8))
   go_ret
   rw [HEQ.out]
   exact ⟨n,-1,vt,rfl,Nat.le_of_lt hnn,rfl,HC9.out,HQ9.out⟩
  rw [if_neg h12] at hXg
  have HO2:=hid (show (o:Int)+1=((o+1:Nat):Int) by omega)
  obtain ⟨O1,hO1⟩:∃ O1,O1=o+1:=⟨_,rfl⟩
  rw [←hO1] at hXg HO2
  have HOi:=hid (show (O1:Int)-1=(o:Int) by omega)
  have hO13:O1≤13:=by omega
  have hO11:1≤O1:=by omega
  have hin:P F (.lvl 0) O1 (A.drop (n+1))≠.out:=fun e=>HOUT.out (by rw [hXg,e];rfl)
  have hi3:=fun (W:World) (h:Qr w0 b _ A T (n+1) O1 vt W)=>IH.out 0 O1 (n+1) N T vt W (by omega) (by omega) (by omega) (by omega) h hin (by omega) hN2
  clear hO1
  cases hP:P F (.lvl 0) O1 (A.drop (n+1)) with
  | out=>exact absurd hP hin
  | no er r=>
    rw [hP] at hi3 hXg
    have HEQ:=hid (show X=.no er r from hXg)
    have HI:=hid (show ∀ W,Qr w0 b _ A T (n+1) O1 vt W→Calls Tryz.prog 22 #[.pointer (some ⟨b,0,none⟩),.int .i64 0] W _ from fun W h=>calls_rb (hi3 W h))
    clear hi3 hXg hin hP
    go_wp2_with (first
     | (go_at_call 48;(with_reducible refine HNX.out.mono ?_);rintro e w5 ⟨rfl,o5⟩;have H5:=hid (H4.out.oldw o5);have HC5:=hid (HC4.out.trans (Cv.ofOld (v:=vt) o5));clear o5)
     | (go_at_call 49;refine (rdeep_ok H5.out.rd (by omega) (by omega)).mono ?_;rintro e w6 ⟨rfl,c6,h6⟩;rw [HO2.out] at h6;have H6:=hid (H5.out.chx c6 h6);have HC6:=hid (HC5.out.trans (Cv.ofChx (v:=vt) c6));have HM1:=hid (show Calls Tryz.prog 99 #[.pointer (some ⟨b,0,none⟩),.string ⟨#[40]⟩] w6 _ from rmust_ok H6.out.rd H6.out.qi.wordsAt (Nat.le_of_lt hnn) HA.out [40] (by simp) HI40.out);clear c6 h6)
     | (go_at_call 99;(with_reducible refine HM1.out.mono ?_);rintro e w7 ⟨rfl,c7,h7⟩;have H7:=hid (H6.out.chx c7 h7);have HC7:=hid (HC6.out.trans (Cv.ofChx (v:=vt) c7));clear c7 h7)
     | (go_at_call 22;(with_reducible refine (HI.out _ H7.out).mono ?_);rintro e w8 ⟨i,m,vt8,rfl,hb8⟩;have HQ8:=hid hb8.out.qs;have HC8:=hid (HC7.out.trans hb8.out.cg);have HMM:=hid (show r=A.drop m∧m≤A.length from ⟨hb8.out.hr,hb8.out.hm⟩);obtain ⟨n9,o9,cs9,k9,j1,j2,j3,j4⟩:=HQ8.out.st;have HM2:=hid (show Calls Tryz.prog 99 #[.pointer (some ⟨b,0,none⟩),.string ⟨#[41]⟩] w8 _ from rmust_stop j3 HQ8.out.ne [41]);clear j1 j2 j3 j4;clear hb8)
     | (go_at_call 99;(with_reducible refine HM2.out.mono ?_);rintro e w9 ⟨rfl,o8⟩;obtain ⟨n9,o9,cs9,k9,j1,j2,j3,j4⟩:=HQ8.out.st;have R8:=j3.old o8;have z2:=R8.c 2;have z3:=R8.f 2;have hcs:=Chx.ofSet w9 ⟨b,2,none⟩ (.int .i64 (wrap64 (o9-1)));have HC9:=hid ((HC8.out.trans (Cv.ofOld (v:=vt8) o8)).trans (Cv.ofChx (v:=vt8) hcs));have HQ9:=hid (show Qs w0 b _ A er m N vt8 (w9.setCell ⟨b,2,none⟩ (.int .i64 (wrap64 (o9-1)))) from ⟨⟨n9,_,cs9,k9,j1,j2,R8.set2 _,own_chq (own_old j4 o8) (by decide) R8 hcs⟩,HQ8.out.ne,(HQ8.out.oldw o8).qi.cv (Cv.ofChx (v:=vt8) hcs) HQ8.out.lo⟩);clear j1 j2 j3 j4 hcs o8 R8))
    go_ret
    rw [HEQ.out]
    exact ⟨m,i,vt8,HMM.out.1,HMM.out.2,rfl,HC9.out,HQ9.out⟩
  | ok ns r=>
    rw [hP] at hi3 hXg
    obtain ⟨R,hR⟩:∃ R,R=T.length+ns.length-1:=⟨_,rfl⟩
    have HI:=hid (show ∀ W,Qr w0 b _ A T (n+1) O1 vt W→Calls Tryz.prog 22 #[.pointer (some ⟨b,0,none⟩),.int .i64 0] W _ from fun W h=>calls_rg (hi3 W h) hR)
    have HRR:=hid hR
    cases hi41:isL [41] r
    ·have HEQ:=hid (show X=.no 4 r by rw [hXg];show (if isL [41] r then _ else _)=_;rw [hi41];rfl)
     have HIR:=hid hi41
     clear hi3 hXg hin hP hR hi41
     go_wp2_with (first
      | (go_at_call 48;(with_reducible refine HNX.out.mono ?_);rintro e w5 ⟨rfl,o5⟩;have H5:=hid (H4.out.oldw o5);have HC5:=hid (HC4.out.trans (Cv.ofOld (v:=vt) o5));clear o5)
      | (go_at_call 49;refine (rdeep_ok H5.out.rd (by omega) (by omega)).mono ?_;rintro e w6 ⟨rfl,c6,h6⟩;rw [HO2.out] at h6;have H6:=hid (H5.out.chx c6 h6);have HC6:=hid (HC5.out.trans (Cv.ofChx (v:=vt) c6));have HM1:=hid (show Calls Tryz.prog 99 #[.pointer (some ⟨b,0,none⟩),.string ⟨#[40]⟩] w6 _ from rmust_ok H6.out.rd H6.out.qi.wordsAt (Nat.le_of_lt hnn) HA.out [40] (by simp) HI40.out);clear c6 h6)
      | (go_at_call 99;(with_reducible refine HM1.out.mono ?_);rintro e w7 ⟨rfl,c7,h7⟩;have H7:=hid (H6.out.chx c7 h7);have HC7:=hid (HC6.out.trans (Cv.ofChx (v:=vt) c7));clear c7 h7)
      | (go_at_call 22;(with_reducible refine (HI.out _ H7.out).mono ?_);rintro e w8 ⟨m,vt8,rfl,hg8⟩;have HG8:=hg8;have HC8:=hid (HC7.out.trans hg8.out.cg);have HM2:=hid (show Calls Tryz.prog 99 #[.pointer (some ⟨b,0,none⟩),.string ⟨#[41]⟩] w8 _ from rmust_no hg8.out.ok.rd hg8.out.ok.qi.wordsAt hg8.out.hm HA.out [41] (by simp) (by rw [←hg8.out.hr];exact HIR.out));clear hg8)
      | (go_at_call 99;(with_reducible refine HM2.out.mono ?_);rintro e w9 ⟨rfl,c9,h9⟩;have HQ8:=hid (HG8.out.ok.stopped (N:=N) c9 h9 (by decide) HG8.out.hm (by have:=HG8.out.le;have:=HG8.out.hm;rw [List.length_append];omega));have HC8':=hid (HC8.out.trans (Cv.ofChx (v:=vt8) c9));have o8:=Old.refl w9;obtain ⟨n9,o9,cs9,k9,j1,j2,j3,j4⟩:=HQ8.out.st;have R8:=j3.old o8;have z2:=R8.c 2;have z3:=R8.f 2;have hcs:=Chx.ofSet w9 ⟨b,2,none⟩ (.int .i64 (wrap64 (o9-1)));have HC9:=hid ((HC8'.out.trans (Cv.ofOld (v:=vt8) o8)).trans (Cv.ofChx (v:=vt8) hcs));have HQ9:=hid (show Qs w0 b _ A 4 m N vt8 (w9.setCell ⟨b,2,none⟩ (.int .i64 (wrap64 (o9-1)))) from ⟨⟨n9,_,cs9,k9,j1,j2,R8.set2 _,own_chq (own_old j4 o8) (by decide) R8 hcs⟩,HQ8.out.ne,(HQ8.out.oldw o8).qi.cv (Cv.ofChx (v:=vt8) hcs) HQ8.out.lo⟩);clear j1 j2 j3 j4 hcs o8 R8;clear c9 h9))
     go_ret
     rw [HEQ.out]
     exact ⟨m,(R:Int),vt8,HG8.out.hr,HG8.out.hm,rfl,HC9.out,HQ9.out⟩
    ·have HEQ:=hid (show X=.ok ns r.tail by rw [hXg];show (if isL [41] r then _ else _)=_;rw [hi41];rfl)
     have HIR:=hid hi41
     clear hi3 hXg hin hP hR hi41
     go_wp2_with (first
      | (go_at_call 48;(with_reducible refine HNX.out.mono ?_);rintro e w5 ⟨rfl,o5⟩;have H5:=hid (H4.out.oldw o5);have HC5:=hid (HC4.out.trans (Cv.ofOld (v:=vt) o5));clear o5)
      | (go_at_call 49;refine (rdeep_ok H5.out.rd (by omega) (by omega)).mono ?_;rintro e w6 ⟨rfl,c6,h6⟩;rw [HO2.out] at h6;have H6:=hid (H5.out.chx c6 h6);have HC6:=hid (HC5.out.trans (Cv.ofChx (v:=vt) c6));have HM1:=hid (show Calls Tryz.prog 99 #[.pointer (some ⟨b,0,none⟩),.string ⟨#[40]⟩] w6 _ from rmust_ok H6.out.rd H6.out.qi.wordsAt (Nat.le_of_lt hnn) HA.out [40] (by simp) HI40.out);clear c6 h6)
      | (go_at_call 99;(with_reducible refine HM1.out.mono ?_);rintro e w7 ⟨rfl,c7,h7⟩;have H7:=hid (H6.out.chx c7 h7);have HC7:=hid (HC6.out.trans (Cv.ofChx (v:=vt) c7));clear c7 h7)
      | (go_at_call 22;(with_reducible refine (HI.out _ H7.out).mono ?_);rintro e w8 ⟨m,vt8,rfl,hg8⟩;have HG8:=hg8;have HC8:=hid (HC7.out.trans hg8.out.cg);have HM2:=hid (show Calls Tryz.prog 99 #[.pointer (some ⟨b,0,none⟩),.string ⟨#[41]⟩] w8 _ from rmust_ok hg8.out.ok.rd hg8.out.ok.qi.wordsAt hg8.out.hm HA.out [41] (by simp) (by rw [←hg8.out.hr];exact HIR.out));clear hg8)
      | (go_at_call 99;(with_reducible refine HM2.out.mono ?_);rintro e w9 ⟨rfl,c9,h9⟩;have z2:=h9.c 2;have z3:=h9.f 2;have hcs:=Chx.ofSet w9 ⟨b,2,none⟩ (.int .i64 ((O1:Int)-1));have H9:=hid (show Qr w0 b _ A (T++ns) (m+1) o vt8 (w9.setCell ⟨b,2,none⟩ (.int .i64 ((O1:Int)-1))) from (HG8.out.ok.chx c9 h9).chx hcs (by rw [←HOi.out];exact h9.set2 _));have HC9:=hid ((HC8.out.trans (Cv.ofChx (v:=vt8) c9)).trans (Cv.ofChx (v:=vt8) hcs));clear c9 h9 hcs))
     go_ret
     rw [HEQ.out]
     have hlt:m<A.length:=drop_lt (isL_ne (by rw [←HG8.out.hr];exact HIR.out))
     refine ⟨m+1,vt8,by rw [HG8.out.hr,drop_tl],hlt,by rw [HRR.out];rfl,HC9.out,H9.out,HG8.out.pos,?_⟩
     have:=HG8.out.le
     omega
theorem ratom_any {w0:Wz} {w:World} {b n o F N:Nat} {vw vt:Value} {A:List Tk} {T:List Nd} (ih:LvQ w0 b vw A F) (cq:CallQ w0 b vw A F) (H:Qr w0 b vw A T n o vt w) (hn:n≤A.length) (hA:A.length≤200000) (ho:o≤12) (hTn:T.length≤n)
 (hout:atomP (P F) o (A.drop n)≠.out) (hN:T.length+(A.length-n)+(F+1)≤N) (hN2:N≤1000000) :
 Calls Tryz.prog 46 #[.pointer (some ⟨b,0,none⟩)] w (RRes w0 b vw A T n o N vt w (atomP (P F) o (A.drop n))):=by
 rcases Nat.lt_or_ge n A.length with hlt|hge
 ·exact ratom_at ih cq H hlt hA ho hTn rfl hout hN hN2
 ·have hd:A.drop n=[]:=List.drop_eq_nil_of_le hge
  have e:atomP (P F) o (A.drop n)=.no 4 (A.drop n):=by rw [hd];rfl
  rw [e]
  exact ratom_end H (Nat.le_antisymm hn hge) hA (by omega)
end Go.Proofs.YtmkmafkkpigfpaaGreatDoor
