/- The document's Read. The document's Read is the program's, for every text of at most 65536 bytes. Layer expr: what is read is the document's (the law's walk). -/
import Derived.Test.YtkellpcljiodeaaGreatDoorGI
set_option maxHeartbeats 3200000
namespace Go.Proofs.YtkellpcljiodeaaGreatDoor
open Go.ChangeShapes Go.WideShapes Go.ChangeAt Go.RowKit Go.Lib
set_option linter.unusedVariables false
set_option linter.unusedSimpArgs false
set_option maxRecDepth 100000
theorem qread_bad (s:ByteArray) (w:World) {N:Nat} {E ln cl:Int} (hE:¬ E=0) (hl:∀ W,Old w W→Calls Tryz.prog 26 #[.string s] W fun e w'=>(∃ oa cap,e=.returned (.tuple #[.slice oa N cap,.agg #[.int .i64 ln,.int .i64 cl],.int .i64 E]))∧Old W w') :
 Calls Tryz.prog 10 #[.string s] w fun e w'=>Rdt w w' ([],ln,cl,E) e∧Old w w':=by
 have ho:=(Old.refl w).alloc (.cells #[.int .i64 0,.int .i64 0] 26)
 have HP:=hid (show Pl (w.alloc (.cells #[.int .i64 0,.int .i64 0] 26)) w.heap.size 0 0 from (MapKept.heap_alloc w _).1)
 have HL:=hid (hl _ ho)
 have HO:=hid ho
 clear hl ho
 go_enter Tryz.func10,Tryz.ntmps10
 go_wp2_with (go_at_call 26;refine HL.out.mono ?_;rintro e w1 ⟨⟨oa,cap,rfl⟩,o1⟩;have NE:=hid (Nat.ne_of_lt (blk_lt (HP.out.old o1)));have o2:=(Old.refl w1).alloc (.cells #[.int .i64 ln,.int .i64 cl] 26);have P3:=hid ((HP.out.old o1).old o2);have P6:=hid (show Pl (w1.alloc (.cells #[.int .i64 ln,.int .i64 cl] 26)) w1.heap.size ln cl from (MapKept.heap_alloc w1 _).1);have O3:=hid ((HO.out.trans o1).trans o2);clear o1 o2)
 generalize w1.alloc (.cells #[.int .i64 ln,.int .i64 cl] 26)=W at *
 have g0:=P3.out.c0
 have g1:=P3.out.c1
 have g2:=P3.out.f 0
 have g3:=P3.out.f 1
 have d0:=P6.out.c0
 have d1:=P6.out.c1
 have F6:=hid (pl_far P6.out NE.out ln cl)
 go_region_held3 (fun w'=>w'.cell? ⟨w1.heap.size,0,none⟩=some (.int .i64 ln)∧w'.cell? ⟨w1.heap.size,1,none⟩=some (.int .i64 cl))
  (first|exact ⟨d0,d1⟩|exact ⟨F6.out.c0,F6.out.c1⟩|go_keep)
  (fail)
 all_goals
  have H4:=hid (pl_set P3.out ln cl)
  have O4:=hid (old_set O3.out (Nat.le_refl _) ln cl)
  have q0:=H4.out.c0
  have q1:=H4.out.c1
  clear d0 d1 g0 g1 g2 g3
  go_wp2
  refine bodyPost_ret (v:=.tuple #[.slice none 0 0,.agg #[.int .i64 ln,.int .i64 cl],.int .i64 E]) (by simp [results,Tryz.results10,go_sem,q0,q1]) rfl ⟨⟨_,rfl,TreeR.nil _ _ _⟩,O4.out.os,O4.out.output,O4.out.size,O4.out.block⟩
def LexOq (s:ByteArray) (w:World) (N:Nat) (ln cl:Int) (A:List Tk):Prop:=∀ W,Old w W→Calls Tryz.prog 26 #[.string s] W fun e w'=>∃ oa cap,e=.returned (.tuple #[.slice oa N cap,.agg #[.int .i64 ln,.int .i64 cl],.int .i64 0])∧Hid (Rw w' (.slice oa N cap) A)∧Old W w'
def ParseAq (w:World) (N:Nat) (A:List Tk) (n:Nat) (E:Int) (X:Value→World→Prop):Prop:=∀ oa cap W,Rw W (.slice oa N cap) A→Old w W→Calls Tryz.prog 27 #[.slice oa N cap,.int .i64 0] W fun e w'=>∃ vt,e=.returned (.tuple #[vt,.int .i64 (n:Int),.int .i64 E])∧Hid (X vt w')∧Old W w'
def BehAq (N:Nat) (A:List Tk) (p q:Int):Prop:=∀ oa cap W,Rw W (.slice oa N cap) A→Calls Tryz.prog 28 #[.slice oa N cap] W fun e w'=>e=.returned (.agg #[.int .i64 p,.int .i64 q])∧Old W w'
theorem rw_place {W:World} {oa:Option Addr} {N cap n d:Nat} {A:List Tk} {a c:Int} (hw:Rw W (.slice oa N cap) A) (hn:n<A.length) (hp:Pl W d a c):∃ g,oa=some ⟨g,0,none⟩∧N=A.length∧N≤cap∧W.cell? ⟨g,n*7+5,none⟩=some (.int .i64 (wordL (A.drop n)).ln)∧W.cell? ⟨g,n*7+6,none⟩=some (.int .i64 (wordL (A.drop n)).cl)∧d≠g:=by
 obtain ⟨oa',cap',e,h1,h2,h3⟩:=hw
 injection e with e1 e2 e3
 subst e1 e3
 have hx:A[n]?=some A[n]:=List.getElem?_eq_getElem hn
 have hd:wordL (A.drop n)=A[n]:=by rw [List.drop_eq_getElem_cons hn];rfl
 rw [hd]
 obtain ⟨g,e4,hg,_,c0,c1,c2,c3,c4,c5,c6⟩:=h3 n _ hx
 refine ⟨g,e4,e2,by omega,c5,c6,?_⟩
 rintro rfl
 unfold Pl at hp
 simp [World.cell?,hp] at c5
section
variable {s:ByteArray} {w:World} {N n:Nat} {E ln cl p q:Int} {A:List Tk} {X:Value→World→Prop}
theorem qread_err (hE:¬ E=0) (hnA:n<A.length) (hNA:N=A.length) (hN2:N≤200000) (hl:LexOq s w N ln cl A) (hp:ParseAq w N A n E X):Calls Tryz.prog 10 #[.string s] w fun e w'=>Rdt w w' ([],(wordL (A.drop n)).ln,(wordL (A.drop n)).cl,E) e∧Old w w':=by
 have ho:=(Old.refl w).alloc (.cells #[.int .i64 0,.int .i64 0] 26)
 have HP:=hid (show Pl (w.alloc (.cells #[.int .i64 0,.int .i64 0] 26)) w.heap.size 0 0 from (MapKept.heap_alloc w _).1)
 have HL:=hid (hl _ ho)
 have HO:=hid ho
 have HPA:=hid hp
 have hE2:(E==0)=false:=beq_false_of_ne hE
 have hn2:(n:Int)<(N:Int):=by omega
 have hn0:(0:Int)≤(n:Int):=Int.natCast_nonneg n
 have hn3:((n:Int)==(N:Int))=false:=beq_false_of_ne (by omega)
 have hnN:n<N:=by omega
 have hn4:(n:Int)<(A.length:Int):=by omega
 have HNA:=hid hnA
 obtain ⟨p,hp1⟩:∃ p,p=(wordL (A.drop n)).ln:=⟨_,rfl⟩
 obtain ⟨q,hq1⟩:∃ q,q=(wordL (A.drop n)).cl:=⟨_,rfl⟩
 rw [←hp1,←hq1]
 have HPQ:=hid (And.intro hp1 hq1)
 clear hl ho hp hp1 hq1 hNA hnA
 go_enter Tryz.func10,Tryz.ntmps10
 go_wp2_with (first
  | (go_at_call 26;refine HL.out.mono ?_;rintro e w1 ⟨oa,cap,rfl,hw,o1⟩;have o2:=(Old.refl w1).alloc (.cells #[.int .i64 ln,.int .i64 cl] 26);have P3:=hid ((HP.out.old o1).old o2);have RW:=hid (hw.out.old o2);have O3:=hid ((HO.out.trans o1).trans o2);clear o1 o2 hw)
  | (go_at_call 27;refine (HPA.out _ _ _ RW.out O3.out).mono ?_;rintro e w4 ⟨vt,rfl,hx,o4⟩;replace P3:=hid (P3.out.old o4);replace RW:=hid (RW.out.old o4);replace O3:=hid (O3.out.trans o4);clear o4))
 obtain ⟨g,rfl,hz1,hz2,c5,c6,hne⟩:=rw_place RW.out HNA.out P3.out
 rw [←HPQ.out.1] at c5
 rw [←HPQ.out.2] at c6
 have g0:=P3.out.c0
 have g1:=P3.out.c1
 have g2:=P3.out.f 0
 have g3:=P3.out.f 1
 have H4:=hid (pl_set P3.out p q)
 have FAR:=hid (show ∀ k v,w4.cell? ⟨g,k,none⟩=some v→((w4.setCell ⟨w.heap.size,0,none⟩ (.int .i64 p)).setCell ⟨w.heap.size,1,none⟩ (.int .i64 q)).cell? ⟨g,k,none⟩=some v from fun k v h=>(World.cell?_of_block ((far_heap hne).trans (far_heap hne))).trans h)
 go_region_held3 (fun w'=>w'.cell? ⟨g,n*7+5,none⟩=some (.int .i64 p)∧w'.cell? ⟨g,n*7+6,none⟩=some (.int .i64 q))
  (first|exact ⟨c5,c6⟩|exact ⟨FAR.out _ _ c5,FAR.out _ _ c6⟩|go_keep)
  (fail)
 all_goals
  have O4:=hid (old_set O3.out (Nat.le_refl _) p q)
  have q0:=H4.out.c0
  have q1:=H4.out.c1
  clear c5 c6 g0 g1 g2 g3
  go_wp2
  refine bodyPost_ret (v:=.tuple #[.slice none 0 0,.agg #[.int .i64 p,.int .i64 q],.int .i64 E]) (by simp [results,Tryz.results10,go_sem,q0,q1]) rfl ⟨⟨_,rfl,TreeR.nil _ _ _⟩,O4.out.os,O4.out.output,O4.out.size,O4.out.block⟩
theorem qread_rest (hnA:n<A.length) (hNA:N=A.length) (hN2:N≤200000) (hl:LexOq s w N ln cl A) (hp:ParseAq w N A n 0 X):Calls Tryz.prog 10 #[.string s] w fun e w'=>Rdt w w' ([],(wordL (A.drop n)).ln,(wordL (A.drop n)).cl,4) e∧Old w w':=by
 have ho:=(Old.refl w).alloc (.cells #[.int .i64 0,.int .i64 0] 26)
 have HP:=hid (show Pl (w.alloc (.cells #[.int .i64 0,.int .i64 0] 26)) w.heap.size 0 0 from (MapKept.heap_alloc w _).1)
 have HL:=hid (hl _ ho)
 have HO:=hid ho
 have HPA:=hid hp
 have hn2:(n:Int)<(N:Int):=by omega
 have hn0:(0:Int)≤(n:Int):=Int.natCast_nonneg n
 have hn3:((n:Int)==(N:Int))=false:=beq_false_of_ne (by omega)
 have hnN:n<N:=by omega
 have hn4:(n:Int)<(A.length:Int):=by omega
 have HNA:=hid hnA
 obtain ⟨p,hp1⟩:∃ p,p=(wordL (A.drop n)).ln:=⟨_,rfl⟩
 obtain ⟨q,hq1⟩:∃ q,q=(wordL (A.drop n)).cl:=⟨_,rfl⟩
 rw [←hp1,←hq1]
 have HPQ:=hid (And.intro hp1 hq1)
 clear hl ho hp hp1 hq1 hNA hnA
 go_enter Tryz.func10,Tryz.ntmps10
 go_wp2_with (first
  | (go_at_call 26;refine HL.out.mono ?_;rintro e w1 ⟨oa,cap,rfl,hw,o1⟩;have o2:=(Old.refl w1).alloc (.cells #[.int .i64 ln,.int .i64 cl] 26);have P3:=hid ((HP.out.old o1).old o2);have RW:=hid (hw.out.old o2);have O3:=hid ((HO.out.trans o1).trans o2);clear o1 o2 hw)
  | (go_at_call 27;refine (HPA.out _ _ _ RW.out O3.out).mono ?_;rintro e w4 ⟨vt,rfl,hx,o4⟩;replace P3:=hid (P3.out.old o4);replace RW:=hid (RW.out.old o4);replace O3:=hid (O3.out.trans o4);clear o4))
 obtain ⟨g,rfl,hz1,hz2,c5,c6,hne⟩:=rw_place RW.out HNA.out P3.out
 rw [←HPQ.out.1] at c5
 rw [←HPQ.out.2] at c6
 have g0:=P3.out.c0
 have g1:=P3.out.c1
 have g2:=P3.out.f 0
 have g3:=P3.out.f 1
 have H4:=hid (pl_set P3.out p q)
 have FAR:=hid (show ∀ k v,w4.cell? ⟨g,k,none⟩=some v→((w4.setCell ⟨w.heap.size,0,none⟩ (.int .i64 p)).setCell ⟨w.heap.size,1,none⟩ (.int .i64 q)).cell? ⟨g,k,none⟩=some v from fun k v h=>(World.cell?_of_block ((far_heap hne).trans (far_heap hne))).trans h)
 go_region_held3 (fun w'=>w'.cell? ⟨g,n*7+5,none⟩=some (.int .i64 p)∧w'.cell? ⟨g,n*7+6,none⟩=some (.int .i64 q))
  (first|exact ⟨c5,c6⟩|exact ⟨FAR.out _ _ c5,FAR.out _ _ c6⟩|go_keep)
  (fail)
 all_goals
  have O4:=hid (old_set O3.out (Nat.le_refl _) p q)
  have q0:=H4.out.c0
  have q1:=H4.out.c1
  clear c5 c6 g0 g1 g2 g3
  go_wp2
  refine bodyPost_ret (v:=.tuple #[.slice none 0 0,.agg #[.int .i64 p,.int .i64 q],.int .i64 4]) (by simp [results,Tryz.results10,go_sem,q0,q1]) rfl ⟨⟨_,rfl,TreeR.nil _ _ _⟩,O4.out.os,O4.out.output,O4.out.size,O4.out.block⟩
theorem qread_end (hE:¬ E=0) (hnN:n=N) (hN2:N≤200000) (hl:LexOq s w N ln cl A) (hp:ParseAq w N A n E X) (hq:BehAq N A p q):Calls Tryz.prog 10 #[.string s] w fun e w'=>Rdt w w' ([],p,q,E) e∧Old w w':=by
 subst hnN
 have ho:=(Old.refl w).alloc (.cells #[.int .i64 0,.int .i64 0] 26)
 have HP:=hid (show Pl (w.alloc (.cells #[.int .i64 0,.int .i64 0] 26)) w.heap.size 0 0 from (MapKept.heap_alloc w _).1)
 have HL:=hid (hl _ ho)
 have HO:=hid ho
 have HPA:=hid hp
 have HQ:=hid hq
 have hE2:(E==0)=false:=beq_false_of_ne hE
 clear hl ho hp hq
 go_enter Tryz.func10,Tryz.ntmps10
 go_wp2_with (first
  | (go_at_call 26;refine HL.out.mono ?_;rintro e w1 ⟨oa,cap,rfl,hw,o1⟩;have o2:=(Old.refl w1).alloc (.cells #[.int .i64 ln,.int .i64 cl] 26);have P3:=hid ((HP.out.old o1).old o2);have RW:=hid (hw.out.old o2);have O3:=hid ((HO.out.trans o1).trans o2);clear o1 o2 hw)
  | (go_at_call 27;refine (HPA.out _ _ _ RW.out O3.out).mono ?_;rintro e w4 ⟨vt,rfl,hx,o4⟩;replace P3:=hid (P3.out.old o4);replace RW:=hid (RW.out.old o4);replace O3:=hid (O3.out.trans o4);clear o4)
  | (go_at_call 28;refine (HQ.out _ _ _ RW.out).mono ?_;rintro e w5 ⟨rfl,o5⟩;replace P3:=hid (P3.out.old o5);replace O3:=hid (O3.out.trans o5);have g0:=P3.out.c0;have g1:=P3.out.c1;have g2:=P3.out.f 0;have g3:=P3.out.f 1;clear o5))
 have H4:=hid (pl_set P3.out p q)
 have O4:=hid (old_set O3.out (Nat.le_refl _) p q)
 have q0:=H4.out.c0
 have q1:=H4.out.c1
 refine bodyPost_ret (v:=.tuple #[.slice none 0 0,.agg #[.int .i64 p,.int .i64 q],.int .i64 E]) (by simp [results,Tryz.results10,go_sem,q0,q1]) rfl ⟨⟨_,rfl,TreeR.nil _ _ _⟩,O4.out⟩
theorem qread_good {T:List Nd} (hnN:n=N) (hN2:N≤200000) (hl:LexOq s w N ln cl A) (hp:ParseAq w N A n 0 (fun vt w'=>TreeR (fun _=>False) w' w.heap.size vt T)):Calls Tryz.prog 10 #[.string s] w fun e w'=>Rdt w w' (T,0,0,0) e∧Old w w':=by
 subst hnN
 have ho:=(Old.refl w).alloc (.cells #[.int .i64 0,.int .i64 0] 26)
 have HP:=hid (show Pl (w.alloc (.cells #[.int .i64 0,.int .i64 0] 26)) w.heap.size 0 0 from (MapKept.heap_alloc w _).1)
 have HL:=hid (hl _ ho)
 have HO:=hid ho
 have HPA:=hid hp
 clear hl ho hp
 go_enter Tryz.func10,Tryz.ntmps10
 go_wp2_with (first
  | (go_at_call 26;refine HL.out.mono ?_;rintro e w1 ⟨oa,cap,rfl,hw,o1⟩;have o2:=(Old.refl w1).alloc (.cells #[.int .i64 ln,.int .i64 cl] 26);have P3:=hid ((HP.out.old o1).old o2);have RW:=hid (hw.out.old o2);have O3:=hid ((HO.out.trans o1).trans o2);clear o1 o2 hw)
  | (go_at_call 27;refine (HPA.out _ _ _ RW.out O3.out).mono ?_;rintro e w4 ⟨vt,rfl,hx,o4⟩;replace P3:=hid (P3.out.old o4);replace RW:=hid (RW.out.old o4);replace O3:=hid (O3.out.trans o4);have g0:=P3.out.c0;have g1:=P3.out.c1;have g2:=P3.out.f 0;have g3:=P3.out.f 1;obtain ⟨ob,cb,rfl⟩:=(show ∃ ob cb,vt=.slice ob T.length cb from by { obtain ⟨kvs,_,h2,_⟩:=hx.out;exact own_shape h2 });clear o4))
 have H4:=hid (pl_set P3.out 0 0)
 have O4:=hid (old_set O3.out (Nat.le_refl _) 0 0)
 have q0:=H4.out.c0
 have q1:=H4.out.c1
 refine bodyPost_ret (v:=.tuple #[.slice ob T.length cb,.agg #[.int .i64 0,.int .i64 0],.int .i64 0]) (by simp [results,Tryz.results10,go_sem,q0,q1]) rfl ⟨⟨_,rfl,?_⟩,O4.out⟩
 exact hx.out.side P3.out (by decide) (by decide) ((Chx.ofSet w4 ⟨w.heap.size,0,none⟩ _).trans (Chx.ofSet _ ⟨w.heap.size,1,none⟩ _))
end
theorem qread_any (s:ByteArray) (w:World) (hs:s.size≤65536) (he:Env w) {R:List Nd × Int × Int × Int} (hR:R=readP s.data.toList):Calls Tryz.prog 10 #[.string s] w fun e w'=>Rdt w w' R e∧Old w w':=by
 subst hR
 have hz:s.data.toList.length=s.size:=Array.length_toList
 obtain ⟨⟨TT,E0,ln0,cl0⟩,hT0⟩:∃ x,lexL s.data.toList=x:=⟨_,rfl⟩
 have hw0:=wds_of hT0
 obtain ⟨⟨A,E,ln,cl⟩,hT⟩:∃ x,x=lexR s.data.toList:=⟨_,rfl⟩
 have hA0:E=E0∧ln=ln0∧cl=cl0∧A=if E0=0 then TT else []:=by
  unfold lexR at hT
  rw [hT0] at hT
  by_cases h:E0=0
  ·rw [if_pos h] at hT ⊢
   injection hT with h1 h2
   injection h2 with h2 h3
   injection h3 with h3 h4
   exact ⟨h2,h3,h4,h1⟩
  ·rw [if_neg h] at hT ⊢
   injection hT with h1 h2
   injection h2 with h2 h3
   injection h3 with h3 h4
   exact ⟨h2,h3,h4,h1⟩
 obtain ⟨rfl,rfl,rfl,hA1⟩:=hA0
 have hlex:∀ W,Old w W→Calls Tryz.prog 26 #[.string s] W fun e w'=>(∃ oa cap,e=.returned (.tuple #[.slice oa A.length cap,.agg #[.int .i64 ln,.int .i64 cl],.int .i64 E])∧w'.ownsRow W.heap.size 57 7 (.slice oa A.length cap) A.length (tcells A))∧Old W w':=fun W h=>(rlex_any rparse s W hs (he.old h) TT E ln cl hw0).mono (by
  rintro e w' ⟨⟨v,h1,h2⟩,h3⟩
  rw [←hA1] at h2
  obtain ⟨oa,cap,rfl⟩:=own_shape h2
  exact ⟨⟨oa,cap,h1,h2⟩,h3⟩)
 unfold readP
 rw [←hT]
 by_cases hE:E=0
 ·rw [if_neg (by simp only;omega)]
  rw [if_pos hE] at hA1
  subst hA1
  have hf:=hw0.fine 1000000 (Nat.le_refl _) (Nat.le_refl _) (by omega) (by omega)
  have hse:=hw0.self
  have hA:A.length≤65536:=by have:=hw0.len;omega
  subst hE
  have hl:LexOq s w A.length ln cl A:=fun W h=>(hlex W h).mono (by
   rintro e w' ⟨⟨oa,cap,h1,h2⟩,h3⟩
   exact ⟨oa,cap,h1,hid (Rw.of_row h2),h3⟩)
  have hin:=parseX_in A
  have hfit:=parseX_fit A
  have hpa:=fun oa cap W (hw:Rw W (.slice oa A.length cap) A)=>qparse_any (oa:=oa) (cap:=cap) (w:=W) hA hw
  have hb:BehAq A.length A (behindL A).1 (behindL A).2:=fun oa cap W hw=>qbehind_any oa cap W (by omega) hf hse hw
  simp only
  cases hP:parseX A with
  | out=>exact absurd hP hin
  | no er r=>
    rw [hP] at hpa hfit
    obtain ⟨n,hr,hn⟩:∃ n,r=A.drop n∧n≤A.length:=parseX_no hP
    subst hr
    simp only
    rw [drop_len hn]
    have her:¬ er=0:=by rcases hfit with rfl|rfl|rfl<;>decide
    have hpz:ParseAq w A.length A n er (fun _ _=>True):=fun oa cap W hw ho=>(hpa oa cap W hw).mono (by
     rintro e w' ⟨⟨n',h1,h2,h3⟩,h4⟩
     have:n=n':=by
      have:=congrArg List.length h1
      rw [List.length_drop,List.length_drop] at this
      omega
     subst this
     exact ⟨_,h3,hid trivial,h4⟩)
    unfold placeL
    by_cases hlt:n<A.length
    ·rw [if_pos hlt]
     exact qread_err her hlt rfl (by omega) hl hpz
    ·rw [if_neg hlt]
     exact qread_end her (by omega) (by omega) hl hpz hb
  | ok ns r=>
    rw [hP] at hpa
    obtain ⟨n,hr,hn⟩:∃ n,r=A.drop n∧n≤A.length:=parseX_ok hP
    subst hr
    simp only
    by_cases h60:60<ns.length
    ·rw [if_pos h60]
     have hpz:ParseAq w A.length A 0 7 (fun _ _=>True):=fun oa cap W hw ho=>(hpa oa cap W hw).mono (by
      rintro e w' ⟨⟨n',h1,h2,h3⟩,h4⟩
      rw [if_pos h60] at h3
      exact ⟨_,h3,hid trivial,h4⟩)
     unfold placeL
     by_cases hlt:0<A.length
     ·rw [if_pos hlt]
      exact qread_err (n:=0) (by decide) hlt rfl (by omega) hl hpz
     ·rw [if_neg hlt]
      exact qread_end (n:=0) (by decide) (by omega) (by omega) hl hpz hb
    rw [if_neg h60]
    have hpz:ParseAq w A.length A n 0 (fun vt w'=>TreeR (fun _=>False) w' w.heap.size vt ns):=fun oa cap W hw ho=>(hpa oa cap W hw).mono (by
     rintro e w' ⟨⟨n',h1,h2,h3⟩,h4⟩
     rw [if_neg h60] at h3
     obtain ⟨vt,h5,h6⟩:=h3
     have:n=n':=by
      have:=congrArg List.length h1
      rw [List.length_drop,List.length_drop] at this
      omega
     subst this
     exact ⟨_,h5,hid (h6.mono ho.size),h4⟩)
    by_cases hrn:A.drop n≠[]
    ·rw [if_pos hrn,drop_len hn]
     have hlt:=drop_lt hrn
     unfold placeL
     rw [if_pos hlt]
     exact qread_rest hlt rfl (by omega) hl hpz
    ·rw [if_neg hrn]
     refine qread_good (n:=n) (N:=A.length) ?_ (by omega) hl hpz
     rcases Nat.lt_or_ge n A.length with hlt|hge
     ·exact absurd (fun e=>by
       have:=congrArg List.length e
       rw [List.length_drop] at this
       simp at this
       omega) hrn
     ·omega
 ·rw [if_pos (by simp only;exact hE)]
  exact qread_bad s w hE (fun W h=>(hlex W h).mono (by
   rintro e w' ⟨⟨oa,cap,h1,h2⟩,h3⟩
   exact ⟨⟨oa,cap,h1⟩,h3⟩))
theorem readP_good {l:List UInt8} (hl:l.length≤60000) {T:List Nd} {ln cl:Int} (h:readP l=(T,ln,cl,0)):ln=0∧cl=0∧T.length≤60∧Tr T∧AllOk T∧(lexR l).2.1=0∧parseX (lexR l).1=.ok T []:=by
 unfold readP at h
 split at h
 ·rename_i hE
  rw [Prod.mk.injEq,Prod.mk.injEq,Prod.mk.injEq] at h
  exact absurd h.2.2.2 hE
 rename_i hE
 have hE:(lexR l).2.1=0:=by simpa using hE
 have hin:=parseX_in (lexR l).1
 have hfit:=parseX_fit (lexR l).1
 have hw:Wds l 1 1 (lexR l).1 0 (lexR l).2.2.1 (lexR l).2.2.2:=by
  have e:lexR l=lexL l:=by
   unfold lexR at hE ⊢
   split at hE
   ·rename_i h0
    rw [if_pos h0]
   ·rename_i h0
    exact absurd hE h0
  rw [e] at hE ⊢
  rw [←hE]
  exact wds_of rfl
 have hf:=hw.fine 1000000 (Nat.le_refl _) (Nat.le_refl _) (by omega) (by omega)
 cases hP:parseX (lexR l).1 with
 | out=>exact absurd hP hin
 | no er r=>
   rw [hP] at h hfit
   simp only [Prod.mk.injEq] at h
   rcases hfit with e|e|e<;>rw [e] at h<;>exact absurd h.2.2.2 (by decide)
 | ok ns r=>
   rw [hP] at h
   simp only at h
   split at h
   ·simp only [Prod.mk.injEq] at h
    exact absurd h.2.2.2 (by decide)
   rename_i h60
   split at h
   ·simp only [Prod.mk.injEq] at h
    exact absurd h.2.2.2 (by decide)
   rename_i hr
   simp only [Prod.mk.injEq] at h
   obtain ⟨rfl,rfl,rfl,_⟩:=h
   have hr:r=[]:=by simpa using hr
   subst hr
   obtain ⟨t1,t2,_⟩:=sound (fuelOf (lexR l).1) (.lvl 0) 0 _ _ _ hP (fun x hx=>(hf x hx).toWdOk) trivial
   exact ⟨rfl,rfl,by omega,t1,t2,hE,rfl⟩
theorem readP_err {l:List UInt8} {T:List Nd} {ln cl E:Int} (h:readP l=(T,ln,cl,E)) (hE:E≠0):T=[]:=by
 unfold readP at h
 repeat' split at h
 all_goals
  simp only [Prod.mk.injEq] at h
  first
   | exact h.1.symm
   | exact absurd h.2.2.2.symm hE
theorem fewZ_ok {T:List Nd} (h:∀ x∈T,x.ks.length≤1000000):FewZ (absT T):=fun y hy=>by
 obtain ⟨i,hi⟩:=List.mem_iff_getElem?.1 hy
 obtain ⟨x,hx,rfl⟩:=abs_at hi
 have:=h x (List.mem_iff_getElem?.2 ⟨i,hx⟩)
 simpa using this
theorem readP_small {l:List UInt8} (hl:l.length≤60000) {T:List Nd} {ln cl E:Int} (h:readP l=(T,ln,cl,E)):T.length≤60∧FewZ (absT T):=by
 by_cases hE:E=0
 ·subst hE
  obtain ⟨_,_,h1,_,h2,_⟩:=readP_good hl h
  refine ⟨h1,fewZ_ok fun x hx=>?_⟩
  have h3:=(h2 x hx).many
  have h4:=kidN_le x.op
  omega
 ·have:=readP_err h hE
  subst this
  exact ⟨by simp,fewZ_ok fun x hx=>by simp at hx⟩
theorem qread_tw (s:ByteArray) (w:World) (hs:s.size≤65536) (he:Env w) {T:List Nd} {ln cl E:Int} (hR:readP s.data.toList=(T,ln,cl,E)) :
 Calls Tryz.prog 10 #[.string s] w fun e w'=>∃ oa cap,e=.returned (.tuple #[.slice oa T.length cap,.agg #[.int .i64 ln,.int .i64 cl],.int .i64 E])∧Hid (Tw w' (.slice oa T.length cap) T)∧Old w w':=
 (qread_any s w hs he hR.symm).mono (by
   rintro e w' ⟨⟨vt,h1,h2⟩,h3⟩
   have h4:=h2.tw
   obtain ⟨oa,cap,rfl,_⟩:=id h4
   exact ⟨oa,cap,h1,hid h4,h3⟩)
theorem reads_long (s t:ByteArray) (w:World) (he:Env w) (h:600<s.size∨600<t.size):Calls Tryz.prog 3 #[.string s,.string t] w fun e w'=>e=.returned (.bool true)∧Old w w':=by
 have HK:=hid (known_ok w he)
 clear he
 by_cases h1:600<s.size
 ·have h1':(600:Int)<(s.size:Int):=by omega
  go_enter Tryz.func3,Tryz.ntmps3
  go_wp2_with (go_at_call 8;(with_reducible refine HK.out.mono ?_);rintro e w1 ⟨rfl,o1⟩;have O1:=hid o1;clear o1)
  go_ret
  exact ⟨rfl,O1.out⟩
 ·have h1':¬ (600:Int)<(s.size:Int):=by omega
  have h2':(600:Int)<(t.size:Int):=by omega
  go_enter Tryz.func3,Tryz.ntmps3
  go_wp2_with (go_at_call 8;(with_reducible refine HK.out.mono ?_);rintro e w1 ⟨rfl,o1⟩;have O1:=hid o1;clear o1)
  go_ret
  exact ⟨rfl,O1.out⟩
theorem reads_in (s t:ByteArray) (w:World) (he:Env w) (h1:s.size≤600) (h2:t.size≤600):Calls Tryz.prog 3 #[.string s,.string t] w fun e w'=>e=.returned (.bool true)∧Old w w':=by
 have hz1:s.data.toList.length=s.size:=Array.length_toList
 have hz2:t.data.toList.length=t.size:=Array.length_toList
 obtain ⟨⟨T,ln,cl,E⟩,hR⟩:∃ x,readP s.data.toList=x:=⟨_,rfl⟩
 obtain ⟨⟨U,ln2,cl2,E2⟩,hR2⟩:∃ x,readP t.data.toList=x:=⟨_,rfl⟩
 obtain ⟨t1,t2⟩:=readP_small (by omega) hR
 obtain ⟨u1,u2⟩:=readP_small (by omega) hR2
 have HA:=hid (fun W (h:Old w W)=>read_tw s W (by omega) (he.old h) hR)
 have HB:=hid (fun W (h:Old w W)=>qread_tw s W (by omega) (he.old h) hR)
 have HC:=hid (fun W (h:Old w W)=>read_tw t W (by omega) (he.old h) hR2)
 have HD:=hid (fun W (h:Old w W)=>qread_tw t W (by omega) (he.old h) hR2)
 have HK:=hid (fun W (h:Old w W)=>known_ok W (he.old h))
 obtain ⟨D,hD⟩:∃ D,D=decide ((absT T).map Na.bare=(absT U).map Na.bare):=⟨_,rfl⟩
 have HS1:=hid (show ∀ (W:World) (va vb:Value),Tw W va T→Tw W vb T→Calls Tryz.prog 11 #[va,vb,.bool false] W fun e w'=>e=.returned (.bool true)∧Old W w' from fun W va vb a b=>by
  have:=rsame_any W false a.tz b.tz (by rw [abs_len];omega) (by rw [abs_len];omega) t2 t2
  rw [decide_eq_true rfl] at this
  exact this)
 have HS2:=hid (show ∀ (W:World) (va vb:Value),Tw W va T→Tw W vb U→Calls Tryz.prog 12 #[va,vb] W fun e w'=>e=.returned (.bool D)∧Old W w' from fun W va vb a b=>by
  rw [hD]
  exact esame_any W a.tz b.tz (by rw [abs_len];omega) (by rw [abs_len];omega) t2 u2)
 have HS3:=hid (show ∀ (W:World) (va vb:Value),Tw W va T→Tw W vb U→Calls Tryz.prog 11 #[va,vb,.bool true] W fun e w'=>e=.returned (.bool D)∧Old W w' from fun W va vb a b=>by
  rw [hD]
  exact rsame_any W true a.tz b.tz (by rw [abs_len];omega) (by rw [abs_len];omega) t2 u2)
 have HO:=hid (Old.refl w)
 have h1':¬ (600:Int)<(s.size:Int):=by omega
 have h2':¬ (600:Int)<(t.size:Int):=by omega
 clear he hz1 hz2 hR hR2 t1 t2 u1 u2 h1 h2 hD
 go_enter Tryz.func3,Tryz.ntmps3
 go_wp2_with (first
  | (go_at_call 9;(with_reducible refine (HA.out _ HO.out).mono ?_);rintro e w1 ⟨oa1,ca1,rfl,t1,o1⟩;have o1':=(Old.refl w1).alloc (.cells #[.int .i64 ln,.int .i64 cl] 26);have T1:=hid (t1.out.old o1');have P1:=hid (pl_new w1 ln cl);have O1:=hid (o1.trans o1');clear o1 o1' t1)
  | (go_at_call 10;(with_reducible refine (HB.out _ O1.out).mono ?_);rintro e w2 ⟨oa2,ca2,rfl,t2,o2⟩;have o2':=(Old.refl w2).alloc (.cells #[.int .i64 ln,.int .i64 cl] 26);have T2:=hid (t2.out.old o2');have P2:=hid (pl_new w2 ln cl);have T1':=hid (T1.out.old (o2.trans o2'));have P1':=hid (P1.out.old (o2.trans o2'));have O2:=hid ((O1.out.trans o2).trans o2');clear o2 o2' t2)
  | (go_at_call 9;(with_reducible refine (HC.out _ O2.out).mono ?_);rintro e w3 ⟨oa3,ca3,rfl,t3,o3⟩;have o3':=(Old.refl w3).alloc (.cells #[.int .i64 ln2,.int .i64 cl2] 26);have T3:=hid (t3.out.old o3');have T1'':=hid (T1'.out.old (o3.trans o3'));have P1'':=hid (P1'.out.old (o3.trans o3'));have T2':=hid (T2.out.old (o3.trans o3'));have P2':=hid (P2.out.old (o3.trans o3'));have O3:=hid ((O2.out.trans o3).trans o3');clear o3 o3' t3)
  | (go_at_call 10;(with_reducible refine (HD.out _ O3.out).mono ?_);rintro e w4 ⟨oa4,ca4,rfl,t4,o4⟩;have o4':=(Old.refl w4).alloc (.cells #[.int .i64 ln2,.int .i64 cl2] 26);have T4:=hid (t4.out.old o4');have X1:=hid (T1''.out.old (o4.trans o4'));have Q1:=hid (P1''.out.old (o4.trans o4'));have X2:=hid (T2'.out.old (o4.trans o4'));have Q2:=hid (P2'.out.old (o4.trans o4'));have X3:=hid (T3.out.old (o4.trans o4'));have O4:=hid ((O3.out.trans o4).trans o4');clear o4 o4' t4)
  | (go_at_call 11;(with_reducible refine (HS1.out _ _ _ X1.out X2.out).mono ?_);rintro e w5 ⟨rfl,o5⟩;have Y1:=hid (X1.out.old o5);have Y2:=hid (X2.out.old o5);have Y3:=hid (X3.out.old o5);have Y4:=hid (T4.out.old o5);have c1:=(Q1.out.old o5).c0;have c2:=(Q1.out.old o5).c1;have c3:=(Q2.out.old o5).c0;have c4:=(Q2.out.old o5).c1;have O5:=hid (O4.out.trans o5);clear o5)
  | (go_at_call 12;(with_reducible refine (HS2.out _ _ _ Y1.out Y3.out).mono ?_);rintro e w6 ⟨rfl,o6⟩;have Z2:=hid (Y2.out.old o6);have Z4:=hid (Y4.out.old o6);have O6:=hid (O5.out.trans o6);clear o6)
  | (go_at_call 11;(with_reducible refine (HS3.out _ _ _ Z2.out Z4.out).mono ?_);rintro e w7 ⟨rfl,o7⟩;have O7:=hid (O6.out.trans o7);clear o7)
  | (go_at_call 8;(with_reducible refine (HK.out _ O7.out).mono ?_);rintro e w8 ⟨rfl,o8⟩;have O8:=hid (O7.out.trans o8);clear o8))
 go_ret
 exact ⟨rfl,O8.out⟩
theorem reads_any (s t:ByteArray) (w:World) (he:Env w):Calls Tryz.prog 3 #[.string s,.string t] w fun e w'=>e=.returned (.bool true)∧Old w w':=by
 by_cases h:600<s.size∨600<t.size
 ·exact reads_long s t w he h
 ·exact reads_in s t w he (by omega) (by omega)
end Go.Proofs.YtkellpcljiodeaaGreatDoor
