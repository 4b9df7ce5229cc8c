/- The document's Read. The document's Read is the program's, for every text of at most 65536 bytes. Layer expr: what is read is the document's (the law's walk). Layer expr, plain: the numbers in a tree are such. -/
import Derived.Test.YtmkmafkkpigfpaaGreatDoorGI
set_option maxHeartbeats 1600000
namespace Go.Proofs.YtmkmafkkpigfpaaGreatDoor
open Go.ChangeShapes Go.WideShapes Go.ChangeAt Go.RowKit Go.Lib
set_option linter.unusedVariables false
set_option linter.unusedSimpArgs false
set_option maxRecDepth 100000
theorem qread_bad (s:ByteArray) (w:World) {N:Nat} {E ln cl:Int} (hE:¬ E=0) (hl:∀ W,Old w W→Calls Tryz.prog 13 #[.string s] W fun e w'=>(∃ oa cap,e=.returned (.tuple #[.slice oa N cap,.agg #[.int .i64 ln,.int .i64 cl],.int .i64 E]))∧Old W w') :
 Calls Tryz.prog 7 #[.string s] w fun e w'=>Rdt w w' ([],ln,cl,E) e∧Old w w':=by
 have ho:=(Old.refl w).alloc (.cells #[.int .i64 0,.int .i64 0] 31)
 have HP:=hid (show Pl (w.alloc (.cells #[.int .i64 0,.int .i64 0] 31)) w.heap.size 0 0 from (MapKept.heap_alloc w _).1)
 have HL:=hid (hl _ ho)
 have HO:=hid ho
 clear hl ho
 go_enter Tryz.func7,Tryz.ntmps7
 go_wp2_with (go_at_call 13;refine HL.out.mono ?_;rintro e w1 ⟨⟨oa,cap,rfl⟩,o1⟩;have NE:=hid (Nat.ne_of_lt (blk_lt (HP.out.old o1)));have o2:=(Old.refl w1).alloc (.cells #[.int .i64 ln,.int .i64 cl] 31);have P3:=hid ((HP.out.old o1).old o2);have P6:=hid (show Pl (w1.alloc (.cells #[.int .i64 ln,.int .i64 cl] 31)) w1.heap.size ln cl from (MapKept.heap_alloc w1 _).1);have O3:=hid ((HO.out.trans o1).trans o2);clear o1 o2)
 generalize w1.alloc (.cells #[.int .i64 ln,.int .i64 cl] 31)=W at *
 have g0:=P3.out.c0
 have g1:=P3.out.c1
 have g2:=P3.out.f 0
 have g3:=P3.out.f 1
 have d0:=P6.out.c0
 have d1:=P6.out.c1
 have F6:=hid (pl_far P6.out NE.out ln cl)
 go_region_held3 (fun w'=>w'.cell? ⟨w1.heap.size,0,none⟩=some (.int .i64 ln)∧w'.cell? ⟨w1.heap.size,1,none⟩=some (.int .i64 cl))
  (first|exact ⟨d0,d1⟩|exact ⟨F6.out.c0,F6.out.c1⟩|go_keep)
  (fail)
 all_goals
  have H4:=hid (pl_set P3.out ln cl)
  have O4:=hid (old_set O3.out (Nat.le_refl _) ln cl)
  have q0:=H4.out.c0
  have q1:=H4.out.c1
  clear d0 d1 g0 g1 g2 g3
  go_wp2
  refine bodyPost_ret (v:=.tuple #[.slice none 0 0,.agg #[.int .i64 ln,.int .i64 cl],.int .i64 E]) (by simp [results,Tryz.results7,go_sem,q0,q1]) rfl ⟨⟨_,rfl,TreeR.nil _ _ _⟩,O4.out.os,O4.out.output,O4.out.size,O4.out.block⟩
def LexOq (s:ByteArray) (w:World) (N:Nat) (ln cl:Int) (A:List Tk):Prop:=∀ W,Old w W→Calls Tryz.prog 13 #[.string s] W fun e w'=>∃ oa cap,e=.returned (.tuple #[.slice oa N cap,.agg #[.int .i64 ln,.int .i64 cl],.int .i64 0])∧Hid (Rw w' (.slice oa N cap) A)∧Old W w'
def ParseAq (w:World) (N:Nat) (A:List Tk) (n:Nat) (E:Int) (X:Value→World→Prop):Prop:=∀ oa cap W,Rw W (.slice oa N cap) A→Old w W→Calls Tryz.prog 14 #[.slice oa N cap,.int .i64 0] W fun e w'=>∃ vt,e=.returned (.tuple #[vt,.int .i64 (n:Int),.int .i64 E])∧Hid (X vt w')∧Old W w'
def BehAq (N:Nat) (A:List Tk) (p q:Int):Prop:=∀ oa cap W,Rw W (.slice oa N cap) A→Calls Tryz.prog 15 #[.slice oa N cap] W fun e w'=>e=.returned (.agg #[.int .i64 p,.int .i64 q])∧Old W w'
theorem rw_place {W:World} {oa:Option Addr} {N cap n d:Nat} {A:List Tk} {a c:Int} (hw:Rw W (.slice oa N cap) A) (hn:n<A.length) (hp:Pl W d a c):∃ g,oa=some ⟨g,0,none⟩∧N=A.length∧N≤cap∧W.cell? ⟨g,n*7+5,none⟩=some (.int .i64 (wordL (A.drop n)).ln)∧W.cell? ⟨g,n*7+6,none⟩=some (.int .i64 (wordL (A.drop n)).cl)∧d≠g:=by
 obtain ⟨oa',cap',e,h1,h2,h3⟩:=hw
 injection e with e1 e2 e3
 subst e1 e3
 have hx:A[n]?=some A[n]:=List.getElem?_eq_getElem hn
 have hd:wordL (A.drop n)=A[n]:=by rw [List.drop_eq_getElem_cons hn];rfl
 rw [hd]
 obtain ⟨g,e4,hg,_,c0,c1,c2,c3,c4,c5,c6⟩:=h3 n _ hx
 refine ⟨g,e4,e2,by omega,c5,c6,?_⟩
 rintro rfl
 unfold Pl at hp
 simp [World.cell?,hp] at c5
section
variable {s:ByteArray} {w:World} {N n:Nat} {E ln cl p q:Int} {A:List Tk} {X:Value→World→Prop}
theorem qread_err (hE:¬ E=0) (hnA:n<A.length) (hNA:N=A.length) (hN2:N≤200000) (hl:LexOq s w N ln cl A) (hp:ParseAq w N A n E X):Calls Tryz.prog 7 #[.string s] w fun e w'=>Rdt w w' ([],(wordL (A.drop n)).ln,(wordL (A.drop n)).cl,E) e∧Old w w':=by
 have ho:=(Old.refl w).alloc (.cells #[.int .i64 0,.int .i64 0] 31)
 have HP:=hid (show Pl (w.alloc (.cells #[.int .i64 0,.int .i64 0] 31)) w.heap.size 0 0 from (MapKept.heap_alloc w _).1)
 have HL:=hid (hl _ ho)
 have HO:=hid ho
 have HPA:=hid hp
 have hE2:(E==0)=false:=beq_false_of_ne hE
 have hn2:(n:Int)<(N:Int):=by omega
 have hn0:(0:Int)≤(n:Int):=Int.natCast_nonneg n
 have hn3:((n:Int)==(N:Int))=false:=beq_false_of_ne (by omega)
 have hnN:n<N:=by omega
 have hn4:(n:Int)<(A.length:Int):=by omega
 have HNA:=hid hnA
 obtain ⟨p,hp1⟩:∃ p,p=(wordL (A.drop n)).ln:=⟨_,rfl⟩
 obtain ⟨q,hq1⟩:∃ q,q=(wordL (A.drop n)).cl:=⟨_,rfl⟩
 rw [←hp1,←hq1]
 have HPQ:=hid (And.intro hp1 hq1)
 clear hl ho hp hp1 hq1 hNA hnA
 go_enter Tryz.func7,Tryz.ntmps7
 go_wp2_with (first
  | (go_at_call 13;refine HL.out.mono ?_;rintro e w1 ⟨oa,cap,rfl,hw,o1⟩;have o2:=(Old.refl w1).alloc (.cells #[.int .i64 ln,.int .i64 cl] 31);have P3:=hid ((HP.out.old o1).old o2);have RW:=hid (hw.out.old o2);have O3:=hid ((HO.out.trans o1).trans o2);clear o1 o2 hw)
  | (go_at_call 14;refine (HPA.out _ _ _ RW.out O3.out).mono ?_;rintro e w4 ⟨vt,rfl,hx,o4⟩;replace P3:=hid (P3.out.old o4);replace RW:=hid (RW.out.old o4);replace O3:=hid (O3.out.trans o4);clear o4))
 obtain ⟨g,rfl,hz1,hz2,c5,c6,hne⟩:=rw_place RW.out HNA.out P3.out
 rw [←HPQ.out.1] at c5
 rw [←HPQ.out.2] at c6
 have g0:=P3.out.c0
 have g1:=P3.out.c1
 have g2:=P3.out.f 0
 have g3:=P3.out.f 1
 have H4:=hid (pl_set P3.out p q)
 have FAR:=hid (show ∀ k v,w4.cell? ⟨g,k,none⟩=some v→((w4.setCell ⟨w.heap.size,0,none⟩ (.int .i64 p)).setCell ⟨w.heap.size,1,none⟩ (.int .i64 q)).cell? ⟨g,k,none⟩=some v from fun k v h=>(World.cell?_of_block ((far_heap hne).trans (far_heap hne))).trans h)
 go_region_held3 (fun w'=>w'.cell? ⟨g,n*7+5,none⟩=some (.int .i64 p)∧w'.cell? ⟨g,n*7+6,none⟩=some (.int .i64 q))
  (first|exact ⟨c5,c6⟩|exact ⟨FAR.out _ _ c5,FAR.out _ _ c6⟩|go_keep)
  (fail)
 all_goals
  have O4:=hid (old_set O3.out (Nat.le_refl _) p q)
  have q0:=H4.out.c0
  have q1:=H4.out.c1
  clear c5 c6 g0 g1 g2 g3
  go_wp2
  refine bodyPost_ret (v:=.tuple #[.slice none 0 0,.agg #[.int .i64 p,.int .i64 q],.int .i64 E]) (by simp [results,Tryz.results7,go_sem,q0,q1]) rfl ⟨⟨_,rfl,TreeR.nil _ _ _⟩,O4.out.os,O4.out.output,O4.out.size,O4.out.block⟩
theorem qread_rest (hnA:n<A.length) (hNA:N=A.length) (hN2:N≤200000) (hl:LexOq s w N ln cl A) (hp:ParseAq w N A n 0 X):Calls Tryz.prog 7 #[.string s] w fun e w'=>Rdt w w' ([],(wordL (A.drop n)).ln,(wordL (A.drop n)).cl,4) e∧Old w w':=by
 have ho:=(Old.refl w).alloc (.cells #[.int .i64 0,.int .i64 0] 31)
 have HP:=hid (show Pl (w.alloc (.cells #[.int .i64 0,.int .i64 0] 31)) w.heap.size 0 0 from (MapKept.heap_alloc w _).1)
 have HL:=hid (hl _ ho)
 have HO:=hid ho
 have HPA:=hid hp
 have hn2:(n:Int)<(N:Int):=by omega
 have hn0:(0:Int)≤(n:Int):=Int.natCast_nonneg n
 have hn3:((n:Int)==(N:Int))=false:=beq_false_of_ne (by omega)
 have hnN:n<N:=by omega
 have hn4:(n:Int)<(A.length:Int):=by omega
 have HNA:=hid hnA
 obtain ⟨p,hp1⟩:∃ p,p=(wordL (A.drop n)).ln:=⟨_,rfl⟩
 obtain ⟨q,hq1⟩:∃ q,q=(wordL (A.drop n)).cl:=⟨_,rfl⟩
 rw [←hp1,←hq1]
 have HPQ:=hid (And.intro hp1 hq1)
 clear hl ho hp hp1 hq1 hNA hnA
 go_enter Tryz.func7,Tryz.ntmps7
 go_wp2_with (first
  | (go_at_call 13;refine HL.out.mono ?_;rintro e w1 ⟨oa,cap,rfl,hw,o1⟩;have o2:=(Old.refl w1).alloc (.cells #[.int .i64 ln,.int .i64 cl] 31);have P3:=hid ((HP.out.old o1).old o2);have RW:=hid (hw.out.old o2);have O3:=hid ((HO.out.trans o1).trans o2);clear o1 o2 hw)
  | (go_at_call 14;refine (HPA.out _ _ _ RW.out O3.out).mono ?_;rintro e w4 ⟨vt,rfl,hx,o4⟩;replace P3:=hid (P3.out.old o4);replace RW:=hid (RW.out.old o4);replace O3:=hid (O3.out.trans o4);clear o4))
 obtain ⟨g,rfl,hz1,hz2,c5,c6,hne⟩:=rw_place RW.out HNA.out P3.out
 rw [←HPQ.out.1] at c5
 rw [←HPQ.out.2] at c6
 have g0:=P3.out.c0
 have g1:=P3.out.c1
 have g2:=P3.out.f 0
 have g3:=P3.out.f 1
 have H4:=hid (pl_set P3.out p q)
 have FAR:=hid (show ∀ k v,w4.cell? ⟨g,k,none⟩=some v→((w4.setCell ⟨w.heap.size,0,none⟩ (.int .i64 p)).setCell ⟨w.heap.size,1,none⟩ (.int .i64 q)).cell? ⟨g,k,none⟩=some v from fun k v h=>(World.cell?_of_block ((far_heap hne).trans (far_heap hne))).trans h)
 go_region_held3 (fun w'=>w'.cell? ⟨g,n*7+5,none⟩=some (.int .i64 p)∧w'.cell? ⟨g,n*7+6,none⟩=some (.int .i64 q))
  (first|exact ⟨c5,c6⟩|exact ⟨FAR.out _ _ c5,FAR.out _ _ c6⟩|go_keep)
  (fail)
 all_goals
  have O4:=hid (old_set O3.out (Nat.le_refl _) p q)
  have q0:=H4.out.c0
  have q1:=H4.out.c1
  clear c5 c6 g0 g1 g2 g3
  go_wp2
  refine bodyPost_ret (v:=.tuple #[.slice none 0 0,.agg #[.int .i64 p,.int .i64 q],.int .i64 4]) (by simp [results,Tryz.results7,go_sem,q0,q1]) rfl ⟨⟨_,rfl,TreeR.nil _ _ _⟩,O4.out.os,O4.out.output,O4.out.size,O4.out.block⟩
theorem qread_end (hE:¬ E=0) (hnN:n=N) (hN2:N≤200000) (hl:LexOq s w N ln cl A) (hp:ParseAq w N A n E X) (hq:BehAq N A p q):Calls Tryz.prog 7 #[.string s] w fun e w'=>Rdt w w' ([],p,q,E) e∧Old w w':=by
 subst hnN
 have ho:=(Old.refl w).alloc (.cells #[.int .i64 0,.int .i64 0] 31)
 have HP:=hid (show Pl (w.alloc (.cells #[.int .i64 0,.int .i64 0] 31)) w.heap.size 0 0 from (MapKept.heap_alloc w _).1)
 have HL:=hid (hl _ ho)
 have HO:=hid ho
 have HPA:=hid hp
 have HQ:=hid hq
 have hE2:(E==0)=false:=beq_false_of_ne hE
 clear hl ho hp hq
 go_enter Tryz.func7,Tryz.ntmps7
 go_wp2_with (first
  | (go_at_call 13;refine HL.out.mono ?_;rintro e w1 ⟨oa,cap,rfl,hw,o1⟩;have o2:=(Old.refl w1).alloc (.cells #[.int .i64 ln,.int .i64 cl] 31);have P3:=hid ((HP.out.old o1).old o2);have RW:=hid (hw.out.old o2);have O3:=hid ((HO.out.trans o1).trans o2);clear o1 o2 hw)
  | (go_at_call 14;refine (HPA.out _ _ _ RW.out O3.out).mono ?_;rintro e w4 ⟨vt,rfl,hx,o4⟩;replace P3:=hid (P3.out.old o4);replace RW:=hid (RW.out.old o4);replace O3:=hid (O3.out.trans o4);clear o4)
  | (go_at_call 15;refine (HQ.out _ _ _ RW.out).mono ?_;rintro e w5 ⟨rfl,o5⟩;replace P3:=hid (P3.out.old o5);replace O3:=hid (O3.out.trans o5);have g0:=P3.out.c0;have g1:=P3.out.c1;have g2:=P3.out.f 0;have g3:=P3.out.f 1;clear o5))
 have H4:=hid (pl_set P3.out p q)
 have O4:=hid (old_set O3.out (Nat.le_refl _) p q)
 have q0:=H4.out.c0
 have q1:=H4.out.c1
 refine bodyPost_ret (v:=.tuple #[.slice none 0 0,.agg #[.int .i64 p,.int .i64 q],.int .i64 E]) (by simp [results,Tryz.results7,go_sem,q0,q1]) rfl ⟨⟨_,rfl,TreeR.nil _ _ _⟩,O4.out⟩
theorem qread_good {T:List Nd} (hnN:n=N) (hN2:N≤200000) (hl:LexOq s w N ln cl A) (hp:ParseAq w N A n 0 (fun vt w'=>TreeR (fun _=>False) w' w.heap.size vt T)):Calls Tryz.prog 7 #[.string s] w fun e w'=>Rdt w w' (T,0,0,0) e∧Old w w':=by
 subst hnN
 have ho:=(Old.refl w).alloc (.cells #[.int .i64 0,.int .i64 0] 31)
 have HP:=hid (show Pl (w.alloc (.cells #[.int .i64 0,.int .i64 0] 31)) w.heap.size 0 0 from (MapKept.heap_alloc w _).1)
 have HL:=hid (hl _ ho)
 have HO:=hid ho
 have HPA:=hid hp
 clear hl ho hp
 go_enter Tryz.func7,Tryz.ntmps7
 go_wp2_with (first
  | (go_at_call 13;refine HL.out.mono ?_;rintro e w1 ⟨oa,cap,rfl,hw,o1⟩;have o2:=(Old.refl w1).alloc (.cells #[.int .i64 ln,.int .i64 cl] 31);have P3:=hid ((HP.out.old o1).old o2);have RW:=hid (hw.out.old o2);have O3:=hid ((HO.out.trans o1).trans o2);clear o1 o2 hw)
  | (go_at_call 14;refine (HPA.out _ _ _ RW.out O3.out).mono ?_;rintro e w4 ⟨vt,rfl,hx,o4⟩;replace P3:=hid (P3.out.old o4);replace RW:=hid (RW.out.old o4);replace O3:=hid (O3.out.trans o4);have g0:=P3.out.c0;have g1:=P3.out.c1;have g2:=P3.out.f 0;have g3:=P3.out.f 1;obtain ⟨ob,cb,rfl⟩:=(show ∃ ob cb,vt=.slice ob T.length cb from by { obtain ⟨kvs,_,h2,_⟩:=hx.out;exact own_shape h2 });clear o4))
 have H4:=hid (pl_set P3.out 0 0)
 have O4:=hid (old_set O3.out (Nat.le_refl _) 0 0)
 have q0:=H4.out.c0
 have q1:=H4.out.c1
 refine bodyPost_ret (v:=.tuple #[.slice ob T.length cb,.agg #[.int .i64 0,.int .i64 0],.int .i64 0]) (by simp [results,Tryz.results7,go_sem,q0,q1]) rfl ⟨⟨_,rfl,?_⟩,O4.out⟩
 exact hx.out.side P3.out (by decide) (by decide) ((Chx.ofSet w4 ⟨w.heap.size,0,none⟩ _).trans (Chx.ofSet _ ⟨w.heap.size,1,none⟩ _))
end
theorem qread_any (s:ByteArray) (w:World) (hs:s.size≤65536) (he:Env w) {R:List Nd × Int × Int × Int} (hR:R=readP s.data.toList):Calls Tryz.prog 7 #[.string s] w fun e w'=>Rdt w w' R e∧Old w w':=by
 subst hR
 have hz:s.data.toList.length=s.size:=Array.length_toList
 obtain ⟨⟨TT,E0,ln0,cl0⟩,hT0⟩:∃ x,lexL s.data.toList=x:=⟨_,rfl⟩
 have hw0:=wds_of hT0
 obtain ⟨⟨A,E,ln,cl⟩,hT⟩:∃ x,x=lexR s.data.toList:=⟨_,rfl⟩
 have hA0:E=E0∧ln=ln0∧cl=cl0∧A=if E0=0 then TT else []:=by
  unfold lexR at hT
  rw [hT0] at hT
  by_cases h:E0=0
  ·rw [if_pos h] at hT ⊢
   injection hT with h1 h2
   injection h2 with h2 h3
   injection h3 with h3 h4
   exact ⟨h2,h3,h4,h1⟩
  ·rw [if_neg h] at hT ⊢
   injection hT with h1 h2
   injection h2 with h2 h3
   injection h3 with h3 h4
   exact ⟨h2,h3,h4,h1⟩
 obtain ⟨rfl,rfl,rfl,hA1⟩:=hA0
 have hlex:∀ W,Old w W→Calls Tryz.prog 13 #[.string s] W fun e w'=>(∃ oa cap,e=.returned (.tuple #[.slice oa A.length cap,.agg #[.int .i64 ln,.int .i64 cl],.int .i64 E])∧w'.ownsRow W.heap.size 64 7 (.slice oa A.length cap) A.length (tcells A))∧Old W w':=fun W h=>(rlex_any rparse s W hs (he.old h) TT E ln cl hw0).mono (by
  rintro e w' ⟨⟨v,h1,h2⟩,h3⟩
  rw [←hA1] at h2
  obtain ⟨oa,cap,rfl⟩:=own_shape h2
  exact ⟨⟨oa,cap,h1,h2⟩,h3⟩)
 unfold readP
 rw [←hT]
 by_cases hE:E=0
 ·rw [if_neg (by simp only;omega)]
  rw [if_pos hE] at hA1
  subst hA1
  have hf:=hw0.fine 1000000 (Nat.le_refl _) (Nat.le_refl _) (by omega) (by omega)
  have hse:=hw0.self
  have hA:A.length≤65536:=by have:=hw0.len;omega
  subst hE
  have hl:LexOq s w A.length ln cl A:=fun W h=>(hlex W h).mono (by
   rintro e w' ⟨⟨oa,cap,h1,h2⟩,h3⟩
   exact ⟨oa,cap,h1,hid (Rw.of_row h2),h3⟩)
  have hin:=parseX_in A
  have hfit:=parseX_fit A
  have hpa:=fun oa cap W (hw:Rw W (.slice oa A.length cap) A)=>qparse_any (oa:=oa) (cap:=cap) (w:=W) hA hw
  have hb:BehAq A.length A (behindL A).1 (behindL A).2:=fun oa cap W hw=>qbehind_any oa cap W (by omega) hf hse hw
  simp only
  cases hP:parseX A with
  | out=>exact absurd hP hin
  | no er r=>
    rw [hP] at hpa hfit
    obtain ⟨n,hr,hn⟩:∃ n,r=A.drop n∧n≤A.length:=parseX_no hP
    subst hr
    simp only
    rw [drop_len hn]
    have her:¬ er=0:=by rcases hfit with rfl|rfl|rfl<;>decide
    have hpz:ParseAq w A.length A n er (fun _ _=>True):=fun oa cap W hw ho=>(hpa oa cap W hw).mono (by
     rintro e w' ⟨⟨n',h1,h2,h3⟩,h4⟩
     have:n=n':=by
      have:=congrArg List.length h1
      rw [List.length_drop,List.length_drop] at this
      omega
     subst this
     exact ⟨_,h3,hid trivial,h4⟩)
    unfold placeL
    by_cases hlt:n<A.length
    ·rw [if_pos hlt]
     exact qread_err her hlt rfl (by omega) hl hpz
    ·rw [if_neg hlt]
     exact qread_end her (by omega) (by omega) hl hpz hb
  | ok ns r=>
    rw [hP] at hpa
    obtain ⟨n,hr,hn⟩:∃ n,r=A.drop n∧n≤A.length:=parseX_ok hP
    subst hr
    simp only
    by_cases h60:60<ns.length
    ·rw [if_pos h60]
     have hpz:ParseAq w A.length A 0 7 (fun _ _=>True):=fun oa cap W hw ho=>(hpa oa cap W hw).mono (by
      rintro e w' ⟨⟨n',h1,h2,h3⟩,h4⟩
      rw [if_pos h60] at h3
      exact ⟨_,h3,hid trivial,h4⟩)
     unfold placeL
     by_cases hlt:0<A.length
     ·rw [if_pos hlt]
      exact qread_err (n:=0) (by decide) hlt rfl (by omega) hl hpz
     ·rw [if_neg hlt]
      exact qread_end (n:=0) (by decide) (by omega) (by omega) hl hpz hb
    rw [if_neg h60]
    have hpz:ParseAq w A.length A n 0 (fun vt w'=>TreeR (fun _=>False) w' w.heap.size vt ns):=fun oa cap W hw ho=>(hpa oa cap W hw).mono (by
     rintro e w' ⟨⟨n',h1,h2,h3⟩,h4⟩
     rw [if_neg h60] at h3
     obtain ⟨vt,h5,h6⟩:=h3
     have:n=n':=by
      have:=congrArg List.length h1
      rw [List.length_drop,List.length_drop] at this
      omega
     subst this
     exact ⟨_,h5,hid (h6.mono ho.size),h4⟩)
    by_cases hrn:A.drop n≠[]
    ·rw [if_pos hrn,drop_len hn]
     have hlt:=drop_lt hrn
     unfold placeL
     rw [if_pos hlt]
     exact qread_rest hlt rfl (by omega) hl hpz
    ·rw [if_neg hrn]
     refine qread_good (n:=n) (N:=A.length) ?_ (by omega) hl hpz
     rcases Nat.lt_or_ge n A.length with hlt|hge
     ·exact absurd (fun e=>by
       have:=congrArg List.length e
       rw [List.length_drop] at this
       simp at this
       omega) hrn
     ·omega
 ·rw [if_pos (by simp only;exact hE)]
  exact qread_bad s w hE (fun W h=>(hlex W h).mono (by
   rintro e w' ⟨⟨oa,cap,h1,h2⟩,h3⟩
   exact ⟨⟨oa,cap,h1⟩,h3⟩))
theorem readP_good {l:List UInt8} (hl:l.length≤60000) {T:List Nd} {ln cl:Int} (h:readP l=(T,ln,cl,0)):ln=0∧cl=0∧T.length≤60∧Tr T∧AllOk T∧(lexR l).2.1=0∧parseX (lexR l).1=.ok T []:=by
 unfold readP at h
 split at h
 ·rename_i hE
  rw [Prod.mk.injEq,Prod.mk.injEq,Prod.mk.injEq] at h
  exact absurd h.2.2.2 hE
 rename_i hE
 have hE:(lexR l).2.1=0:=by simpa using hE
 have hin:=parseX_in (lexR l).1
 have hfit:=parseX_fit (lexR l).1
 have hw:Wds l 1 1 (lexR l).1 0 (lexR l).2.2.1 (lexR l).2.2.2:=by
  have e:lexR l=lexL l:=by
   unfold lexR at hE ⊢
   split at hE
   ·rename_i h0
    rw [if_pos h0]
   ·rename_i h0
    exact absurd hE h0
  rw [e] at hE ⊢
  rw [←hE]
  exact wds_of rfl
 have hf:=hw.fine 1000000 (Nat.le_refl _) (Nat.le_refl _) (by omega) (by omega)
 cases hP:parseX (lexR l).1 with
 | out=>exact absurd hP hin
 | no er r=>
   rw [hP] at h hfit
   simp only [Prod.mk.injEq] at h
   rcases hfit with e|e|e<;>rw [e] at h<;>exact absurd h.2.2.2 (by decide)
 | ok ns r=>
   rw [hP] at h
   simp only at h
   split at h
   ·simp only [Prod.mk.injEq] at h
    exact absurd h.2.2.2 (by decide)
   rename_i h60
   split at h
   ·simp only [Prod.mk.injEq] at h
    exact absurd h.2.2.2 (by decide)
   rename_i hr
   simp only [Prod.mk.injEq] at h
   obtain ⟨rfl,rfl,rfl,_⟩:=h
   have hr:r=[]:=by simpa using hr
   subst hr
   obtain ⟨t1,t2,_⟩:=sound (fuelOf (lexR l).1) (.lvl 0) 0 _ _ _ hP (fun x hx=>(hf x hx).toWdOk) trivial
   exact ⟨rfl,rfl,by omega,t1,t2,hE,rfl⟩
theorem readP_err {l:List UInt8} {T:List Nd} {ln cl E:Int} (h:readP l=(T,ln,cl,E)) (hE:E≠0):T=[]:=by
 unfold readP at h
 repeat' split at h
 all_goals
  simp only [Prod.mk.injEq] at h
  first
   | exact h.1.symm
   | exact absurd h.2.2.2.symm hE
theorem fewZ_ok {T:List Nd} (h:∀ x∈T,x.ks.length≤1000000):FewZ (absT T):=fun y hy=>by
 obtain ⟨i,hi⟩:=List.mem_iff_getElem?.1 hy
 obtain ⟨x,hx,rfl⟩:=abs_at hi
 have:=h x (List.mem_iff_getElem?.2 ⟨i,hx⟩)
 simpa using this
theorem readP_small {l:List UInt8} (hl:l.length≤60000) {T:List Nd} {ln cl E:Int} (h:readP l=(T,ln,cl,E)):T.length≤60∧FewZ (absT T):=by
 by_cases hE:E=0
 ·subst hE
  obtain ⟨_,_,h1,_,h2,_⟩:=readP_good hl h
  refine ⟨h1,fewZ_ok fun x hx=>?_⟩
  have h3:=(h2 x hx).many
  have h4:=kidN_le x.op
  omega
 ·have:=readP_err h hE
  subst this
  exact ⟨by simp,fewZ_ok fun x hx=>by simp at hx⟩
theorem qread_tw (s:ByteArray) (w:World) (hs:s.size≤65536) (he:Env w) {T:List Nd} {ln cl E:Int} (hR:readP s.data.toList=(T,ln,cl,E)) :
 Calls Tryz.prog 7 #[.string s] w fun e w'=>∃ oa cap,e=.returned (.tuple #[.slice oa T.length cap,.agg #[.int .i64 ln,.int .i64 cl],.int .i64 E])∧Hid (Tw w' (.slice oa T.length cap) T)∧Old w w':=
 (qread_any s w hs he hR.symm).mono (by
   rintro e w' ⟨⟨vt,h1,h2⟩,h3⟩
   have h4:=h2.tw
   obtain ⟨oa,cap,rfl,_⟩:=id h4
   exact ⟨oa,cap,h1,hid h4,h3⟩)
end Go.Proofs.YtmkmafkkpigfpaaGreatDoor
namespace Go.Proofs.YtmkmafkkpigfpaaGreatDoor.V
open Go.ChangeShapes Go.WideShapes Go.ChangeAt Go.RowKit Go.Lib
set_option linter.unusedVariables false
set_option linter.unusedSimpArgs false
set_option maxRecDepth 100000
theorem i0 : I64 0 := by decide
theorem i1 : I64 1 := by decide
theorem numV_may (k : Int) (hk : 0 ≤ k ∧ k ≤ 255) (l : List UInt8) : (0 ≤ (numV k l).1 ∧ (numV k l).1 ≤ 255) ∧ I64 (numV k l).2.1 := by
  unfold numV
  split
  · next v h =>
    have := Lib.parseIntB_bounds h
    refine ⟨hk, ?_⟩
    unfold I64
    simp only [Nat.reducePow, Nat.reduceSub] at this ⊢
    omega
  · exact ⟨by decide, by decide⟩
theorem readC_may (S wh rs : List UInt8) (pt : Bool) : (0 ≤ (readC S wh rs pt).1 ∧ (readC S wh rs pt).1 ≤ 255) ∧ I64 (readC S wh rs pt).2.1 := by
  unfold readC
  split
  · exact ⟨by decide, by decide⟩
  split
  · exact numV_may 1 (by decide) _
  split
  · exact ⟨by decide, by decide⟩
  · exact numV_may 2 (by decide) _
theorem readN_may (l : List UInt8) : (0 ≤ (readN l).1 ∧ (readN l).1 ≤ 255) ∧ I64 (readN l).2.1 := by
  cases l with
  | nil => exact ⟨by decide, by decide⟩
  | cons c l =>
    have e : readN (c :: l) = if c = 45 then readC [45] (Lib.cut l [46]).1 (Lib.cut l [46]).2.1 (Lib.cut l [46]).2.2 else readC [] (Lib.cut (c :: l) [46]).1 (Lib.cut (c :: l) [46]).2.1 (Lib.cut (c :: l) [46]).2.2 := rfl
    rw [e]
    split
    · exact readC_may _ _ _ _
    · exact readC_may _ _ _ _
theorem readL_may (l : List UInt8) : (0 ≤ (readL l).k ∧ (readL l).k ≤ 255) ∧ I64 (readL l).n := by
  cases l with
  | nil => rw [readL]; decide
  | cons c r =>
    rw [readL]
    have := readN_may (c :: r)
    split
    · decide
    split
    · decide
    split
    · decide
    split
    · exact ⟨⟨by show (0 : Int) ≤ 3; decide, by show (3 : Int) ≤ 255; decide⟩, by show I64 0; decide⟩
    split
    · exact ⟨⟨by show (0 : Int) ≤ 5; decide, by show (5 : Int) ≤ 255; decide⟩, by show I64 0; decide⟩
    split
    · exact this
    · decide
theorem parseL_may (l : List UInt8) : I64 (parseL l).n := by
  unfold parseL
  split
  · exact i0
  split
  · split
    · exact (readL_may l).2
    · exact i0
  · exact i0
theorem valued_may (k : Int) (l : List UInt8) : I64 (valuedL k l).1.vn := by
  unfold valuedL
  split
  · decide
  split
  · decide
  · exact parseL_may l
theorem named_may (k : Int) (l : List UInt8) : I64 (namedL k l).1.vn := by
  unfold namedL
  split <;> exact i0
theorem mean_may (k : Nat) (l : List UInt8) : I64 (meanL k l).1.vn := by
  unfold meanL
  split
  · exact named_may _ _
  split
  · exact named_may _ _
  split
  · split
    · exact named_may 6 l.tail
    · exact named_may _ _
  split
  · exact valued_may _ _
  split
  · exact valued_may _ _
  split
  · exact i0
  split
  · exact i0
  · exact i0
def Vn (l : List Tk) : Prop := ∀ x ∈ l, I64 x.vn
theorem Wds.vn {s : List UInt8} {L C : Nat} {T : List Tk} {E ln cl : Int} (h : Wds s L C T E ln cl) : Vn T := by
  induction h with
  | done hs => intro x hx; cases hx
  | bad hs h1 => intro x hx; cases hx
  | word hs h1 _ ih =>
    intro x hx
    rcases List.mem_cons.1 hx with rfl | hx
    · exact mean_may _ _
    · exact ih x hx
theorem Vn.tail {l : List Tk} (h : Vn l) : Vn l.tail := fun x hx => h x (List.mem_of_mem_tail hx)
theorem Vn.word {l : List Tk} (h : Vn l) : I64 (wordL l).vn := by
  cases l with
  | nil => decide
  | cons x r => exact h x (by simp)
def Vo (ns : List Nd) : Prop := ∀ x ∈ ns, I64 x.vn
theorem Vo.app {a b : List Nd} (h : Vo a) (k : Vo b) : Vo (a ++ b) := fun x hx => by
  rcases List.mem_append.1 hx with hx | hx
  · exact h x hx
  · exact k x hx
theorem Vo.one {x : Nd} (h : I64 x.vn) : Vo [x] := fun y hy => by
  rcases List.mem_singleton.1 hy with rfl
  exact h
theorem Vo.z {x : Nd} (h : x.vn = 0) : Vo [x] := Vo.one (by rw [h]; decide)
def MdV : Md → Prop
  | .lvl _ => True
  | .tail _ ns => Vo ns
  | .args _ _ _ _ _ ns _ => Vo ns
def SafeN (rec : Md → Nat → List Tk → Rz) : Prop := ∀ m o l ns r, rec m o l = .ok ns r → Vn l → MdV m → Vo ns ∧ Vn r
theorem SafeN.pair {rec : Md → Nat → List Tk → Rz} (h : SafeN rec) {L : Nat} {ns0 : List Nd} {o : Nat} {l : List Tk} {ns : List Nd} {r : List Tk} (he : pairP rec L ns0 o l = .ok ns r) (hf : Vn l) (h0 : Vo ns0) : Vo ns ∧ Vn r := by
  obtain ⟨a, b, h1, h2⟩ := bnd_ok he
  injection h2 with h2 h3
  subst h2 h3
  obtain ⟨t1, t2⟩ := h _ _ _ _ _ h1 hf.tail trivial
  exact ⟨(h0.app t1).app (Vo.z rfl), t2⟩
theorem SafeN.atom {rec : Md → Nat → List Tk → Rz} (h : SafeN rec) {o : Nat} {l : List Tk} {ns : List Nd} {r : List Tk} (he : atomP rec o l = .ok ns r) (hf : Vn l) : Vo ns ∧ Vn r := by
  unfold atomP at he
  split at he
  · injection he with h2 h3
    subst h2 h3
    exact ⟨Vo.one hf.word, hf.tail⟩
  split at he
  · injection he with h2 h3
    subst h2 h3
    exact ⟨Vo.z rfl, hf.tail⟩
  split at he
  · injection he with h2 h3
    subst h2 h3
    exact ⟨Vo.z rfl, hf.tail⟩
  split at he
  · unfold nameP at he
    split at he
    · injection he with h2 h3
      subst h2 h3
      exact ⟨Vo.one i1, hf.tail⟩
    split at he
    · injection he with h2 h3
      subst h2 h3
      exact ⟨Vo.one i0, hf.tail⟩
    split at he
    · injection he with h2 h3
      subst h2 h3
      exact ⟨Vo.one i0, hf.tail⟩
    split at he
    · cases he
    · unfold callP at he
      split at he
      · cases he
      split at he
      · cases he
      obtain ⟨a, b, h1, h2⟩ := bnd_ok he
      obtain ⟨t1, t2⟩ := h _ _ _ _ _ h1 hf.tail.tail trivial
      exact h _ _ _ _ _ h2 t2 t1
  split at he
  · unfold groupP at he
    split at he
    · cases he
    obtain ⟨a, b, h1, h2⟩ := bnd_ok he
    obtain ⟨t1, t2⟩ := h _ _ _ _ _ h1 hf.tail trivial
    split at h2
    · injection h2 with h2 h3
      subst h2 h3
      exact ⟨t1, t2.tail⟩
    · cases h2
  · cases he
theorem SafeN.pre {rec : Md → Nat → List Tk → Rz} (h : SafeN rec) {L o : Nat} {l : List Tk} {ns : List Nd} {r : List Tk} (he : preP rec L o l = .ok ns r) (hf : Vn l) : Vo ns ∧ Vn r := by
  unfold preP at he
  split at he
  · exact h _ _ _ _ _ he hf trivial
  · split at he
    · cases he
    obtain ⟨a, b, h1, h2⟩ := bnd_ok he
    obtain ⟨t1, t2⟩ := h _ _ _ _ _ h1 hf.tail trivial
    injection h2 with h2 h3
    subst h2 h3
    exact ⟨t1.app (Vo.z rfl), t2⟩
theorem SafeN.cmp {rec : Md → Nat → List Tk → Rz} (h : SafeN rec) {o : Nat} {l : List Tk} {ns : List Nd} {r : List Tk} (he : cmpP rec o l = .ok ns r) (hf : Vn l) : Vo ns ∧ Vn r := by
  obtain ⟨a, b, h1, h2⟩ := bnd_ok he
  obtain ⟨t1, t2⟩ := h _ _ _ _ _ h1 hf trivial
  split at h2
  · injection h2 with h2 h3
    subst h2 h3
    exact ⟨t1, t2⟩
  · exact h.pair h2 t2 t1
theorem SafeN.args {rec : Md → Nat → List Tk → Rz} (h : SafeN rec) {op lo hi : Nat} {ln cl : Int} {ns0 : List Nd} {ks : List Nat} {o : Nat} {l : List Tk} {ns : List Nd} {r : List Tk} (he : argsP rec op lo hi ln cl ns0 ks o l = .ok ns r) (hf : Vn l) (h0 : Vo ns0) : Vo ns ∧ Vn r := by
  unfold argsP at he
  split at he
  · split at he
    · cases he
    obtain ⟨a, b, h1, h2⟩ := bnd_ok he
    obtain ⟨t1, t2⟩ := h _ _ _ _ _ h1 hf.tail trivial
    exact h _ _ _ _ _ h2 t2 (h0.app t1)
  split at he
  · cases he
  split at he
  · injection he with h2 h3
    subst h2 h3
    exact ⟨h0.app (Vo.z rfl), hf.tail⟩
  · cases he
theorem safeN : ∀ F, SafeN (P F)
  | 0 => fun m o l ns r he => by cases he
  | F + 1 => fun m o l ns r he hf hm => by
    have ih := safeN F
    cases m with
    | lvl L =>
      unfold P at he
      split at he
      · exact ih.atom he hf
      split at he
      · exact ih.pre he hf
      split at he
      · exact ih.cmp he hf
      obtain ⟨a, b, h1, h2⟩ := bnd_ok he
      obtain ⟨t1, t2⟩ := ih _ _ _ _ _ h1 hf trivial
      exact ih _ _ _ _ _ h2 t2 t1
    | tail L ns0 =>
      unfold P at he
      split at he
      · injection he with h2 h3
        subst h2 h3
        exact ⟨hm, hf⟩
      · obtain ⟨a, b, h1, h2⟩ := bnd_ok he
        obtain ⟨t1, t2⟩ := ih.pair h1 hf hm
        exact ih _ _ _ _ _ h2 t2 t1
    | args op lo hi ln cl ns0 ks =>
      unfold P at he
      exact ih.args he hf hm
theorem read_vn {l : List UInt8} (hl : l.length ≤ 60000) {T : List Nd} {ln cl : Int} (h : readP l = (T, ln, cl, 0)) : Vo T := by
  obtain ⟨_, _, _, _, _, h1, h2⟩ := readP_good hl h
  unfold parseX at h2
  refine (safeN _ _ _ _ _ _ h2 ?_ trivial).1
  obtain ⟨⟨TT, E, a, b⟩, hT⟩ : ∃ x, lexL l = x := ⟨_, rfl⟩
  have hw := wds_of hT
  unfold lexR
  rw [hT]
  split
  · exact V.Wds.vn hw
  · intro x hx; cases hx
end Go.Proofs.YtmkmafkkpigfpaaGreatDoor.V
