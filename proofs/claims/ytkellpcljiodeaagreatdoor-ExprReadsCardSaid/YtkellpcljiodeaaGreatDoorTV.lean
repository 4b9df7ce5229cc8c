/- Layer lexer: Lex. a word as it is written; Lex, as the laws ask it. -/
import Derived.Shelf.RegionOpen
import Derived.Test.YtkellpcljiodeaaGreatDoorTO
set_option maxHeartbeats 1600000
namespace Go.Proofs.YtkellpcljiodeaaGreatDoor
open Go.ChangeShapes Go.WideShapes Go.ChangeAt Go.RowKit Go.Lib
set_option linter.unusedVariables false
set_option linter.unusedSimpArgs false
set_option maxRecDepth 100000
theorem Old.putL {a w:World} (h:Old a w) {l:Nat} {o:Obj} (o':Obj) (hl:a.heap.size≤l) (ho:w.heap[l]?=some o):Old a (w.putObj l o'):=
 h.grown (grownBy_putObj' w l o') (fun k e=>by cases e;exact hl)
def tcells:List Tk→List Value
 | []=>[]
 | x::l=>.int .u8 x.k::.string (st x.t)::.int .u8 x.vk::.int .i64 x.vn::.string (st x.vs)::.int .i64 x.ln::.int .i64 x.cl::tcells l
theorem tcells_app:∀ (a b:List Tk),tcells (a++b)=tcells a++tcells b
 | [],b=>rfl
 | x::a,b=>by rw [List.cons_append,tcells,tcells_app a b];rfl
theorem tcells_one:∀ (l:List Tk),∀ u∈tcells l,u.oneCell'=true
 | [],u,h=>by cases h
 | x::l,u,h=>by
   simp only [tcells,List.mem_cons] at h
   rcases h with rfl|rfl|rfl|rfl|rfl|rfl|rfl|h
   ·rfl
   ·rfl
   ·rfl
   ·rfl
   ·rfl
   ·rfl
   ·rfl
   ·exact tcells_one l u h
theorem cr_one7 {W:World} {b:Nat} {x0 x1 x2 x3 x4 x5 x6:Value} (h:Sv W b x0 x1 x2 x3 x4 x5 x6):CR W (.slice (some ⟨b,0,none⟩) 1 1) 1 7 [x0,x1,x2,x3,x4,x5,x6]:=by
 refine ⟨_,1,rfl,Nat.le_refl _,by unfold maxLen;omega,rfl,fun j u hj=>⟨b,0,rfl,blk_lt h,?_⟩⟩
 rw [h.c (0+j),Nat.zero_add]
 rw [←List.getElem?_toArray] at hj
 exact hj
theorem info33:(Tryz.prog.info? 57).map (fun i=>(i.zero,i.size,i.bytes))=some (some zeroV,7,72):=by kernel_rfl
theorem words_any (s:ByteArray) (w:World):Calls Tryz.prog 38 #[.string s] w fun e w'=>e=.returned (.func (.func 52) #[] #[.pointer (some ⟨w.heap.size,0,none⟩)])∧w'=w.alloc (.cells #[.string s] 9):=by
 go_enter Tryz.func38,Tryz.ntmps38
 go_wp2
 go_ret
 exact ⟨rfl,rfl⟩
structure Rs (A:World) (n:Nat) (s:ByteArray):Prop where
 r2:Boxed A n 50 (.slice none 0 0)
 r3:Pl A (n+1) 0 0
 r4:Boxed A (n+1+1) 27 (.int .i64 0)
 src:Boxed A (n+1+1+1+1) 9 (.string s)
structure Lx (w:World) (s:ByteArray) (T:List Tk) (k:Nat) (A:World):Prop where
 rs:Rs A w.heap.size s
 old:Old w A
 row:∃ oa cap,Boxed A (w.heap.size+1+1+1) 50 (.slice oa k cap)∧A.ownsRow w.heap.size 57 7 (.slice oa k cap) k (tcells (T.take k))
theorem cells_kr {n0:Nat} {A B:World} {b:Nat} {cs:Array Value} {t:TypeId} {fr:Nat × Nat} (h:A.heap[b]?=some (.cells cs t fr)) (ht:t≠100) (k:Kr n0 A B):B.heap[b]?=some (.cells cs t fr):=
 k.block b _ h (Or.inr fun cs' fr' e=>by injection e with e1 e2 e3;exact ht e2)
theorem own_kr {n0:Nat} {A B:World} {base n size:Nat} {e:TypeId} {v:Value} {cs:List Value} (h:A.ownsRow base e size v n cs) (he:e≠100) (k:Kr n0 A B):B.ownsRow base e size v n cs:=by
 refine ⟨h.1,?_⟩
 rcases h.2 with h'|⟨g,cap,cur,rfl,hb,hg,hc⟩
 ·exact Or.inl h'
 ·exact Or.inr ⟨g,cap,cur,rfl,hb,cells_kr hg he k,hc⟩
theorem cells_putL {A:World} {b l:Nat} {cs:Array Value} {t:TypeId} {fr:Nat × Nat} {r:Loop} {o':Obj} (h:A.heap[b]?=some (.cells cs t fr)) (ho:A.heap[l]?=some (.loop r)):(A.putObj l o').heap[b]?=some (.cells cs t fr):=by
 have:b≠l:=fun e=>by
  rw [←e,h] at ho
  cases ho
 exact (World.putObj_heap_other this).trans h
theorem cells_putD {A:World} {b l:Nat} {cs:Array Value} {t:TypeId} {fr:Nat × Nat} {ds:Option (List Deferred)} {o':Obj} (h:A.heap[b]?=some (.cells cs t fr)) (ho:A.heap[l]?=some (.deferred ds)):(A.putObj l o').heap[b]?=some (.cells cs t fr):=by
 have:b≠l:=fun e=>by
  rw [←e,h] at ho
  cases ho
 exact (World.putObj_heap_other this).trans h
theorem own_putD {A:World} {base n size:Nat} {e:TypeId} {v:Value} {cs:List Value} {l:Nat} {ds:Option (List Deferred)} {o':Obj} (h:A.ownsRow base e size v n cs) (ho:A.heap[l]?=some (.deferred ds)):(A.putObj l o').ownsRow base e size v n cs:=by
 refine ⟨h.1,?_⟩
 rcases h.2 with h'|⟨g,cap,cur,rfl,hb,hg,hc⟩
 ·exact Or.inl h'
 ·exact Or.inr ⟨g,cap,cur,rfl,hb,cells_putD hg ho,hc⟩
theorem own_far {A:World} {base n size b o:Nat} {e t:TypeId} {v:Value} {cs:List Value} {cs':Array Value} {fr:Nat × Nat} (h:A.ownsRow base e size v n cs) (hb:A.heap[b]?=some (.cells cs' t fr)) (ht:t≠e) (u:Value):(A.setCell ⟨b,o,none⟩ u).ownsRow base e size v n cs:=by
 refine ⟨h.1,?_⟩
 rcases h.2 with h'|⟨g,cap,cur,rfl,hbs,hg,hc⟩
 ·exact Or.inl h'
 ·refine Or.inr ⟨g,cap,cur,rfl,hbs,(far_heap (fun e'=>?_)).trans hg,hc⟩
  rw [e',hg] at hb
  injection hb with hb
  injection hb with e1 e2 e3
  exact ht e2.symm
theorem Pl.set0 {w:World} {g:Nat} {L C:Int} (h:Pl w g L C) (u:Int):Pl (w.setCell ⟨g,0,none⟩ (.int .i64 u)) g u C:=by
 unfold Pl at *
 show (w.heap.modify g _)[g]?=_
 rw [Array.getElem?_modify,if_pos rfl,h]
 simp
theorem Pl.set1 {w:World} {g:Nat} {L C:Int} (h:Pl w g L C) (u:Int):Pl (w.setCell ⟨g,1,none⟩ (.int .i64 u)) g L u:=by
 unfold Pl at *
 show (w.heap.modify g _)[g]?=_
 rw [Array.getElem?_modify,if_pos rfl,h]
 simp
theorem kept_app {W w1:World} {tmp:Obj} {v v':Value} {B n0 k:Nat} {xs:List Value} (hrow:W.ownsRow n0 57 7 v k xs) (hgrow:(W.alloc tmp).grownBy w1 v.ownBlock) {j:Nat} {cs:Array Value} {t:TypeId} {fr:Nat × Nat}
 (hj:W.heap[j]?=some (.cells cs t fr)) (ht:t≠57) (hB:j≠B):(w1.setCell ⟨B,0,none⟩ v').heap[j]?=some (.cells cs t fr):=by
 have hlt:=blk_lt hj
 have h1:(W.alloc tmp).heap[j]?=some (.cells cs t fr):=(((Old.refl W).alloc tmp).block j hlt).trans hj
 have h2:some j≠v.ownBlock:=by
  rcases hrow.2 with ⟨rfl,_⟩|⟨g,cap,cur,rfl,_,hgb,_⟩
  ·simp [Value.ownBlock]
  ·intro e
   obtain rfl:j=g:=by simpa [Value.ownBlock] using e
   rw [hj] at hgb
   injection hgb with hgb
   injection hgb with e1 e2 e3
   exact ht e2
 exact (heap_set_other (Ne.symm hB)).trans ((hgrow.block j (blk_lt h1) h2).trans h1)
theorem Rs.kr {A B:World} {n n0:Nat} {s:ByteArray} (h:Rs A n s) (k:Kr n0 A B):Rs B n s:=⟨cells_kr h.r2 (by decide) k,cells_kr h.r3 (by decide) k,cells_kr h.r4 (by decide) k,cells_kr h.src (by decide) k⟩
theorem Rs.putL {A:World} {n l:Nat} {s:ByteArray} {r:Loop} {o':Obj} (h:Rs A n s) (ho:A.heap[l]?=some (.loop r)):Rs (A.putObj l o') n s:=⟨cells_putL h.r2 ho,cells_putL h.r3 ho,cells_putL h.r4 ho,cells_putL h.src ho⟩
theorem Lx.kr {w:World} {s:ByteArray} {T:List Tk} {k:Nat} {A B:World} (h:Lx w s T k A) (hk:Kr w.heap.size A B):Lx w s T k B:=by
 obtain ⟨oa,cap,h1,h2⟩:=h.row
 exact ⟨h.rs.kr hk,hk.old h.old (Nat.le_refl _),oa,cap,cells_kr h1 (by decide) hk,own_kr h2 (by decide) hk⟩
theorem Lx.putL {w:World} {s:ByteArray} {T:List Tk} {k:Nat} {A:World} {l:Nat} {r:Loop} (h:Lx w s T k A) (o':Obj) (hl:w.heap.size≤l) (ho:A.heap[l]?=some (.loop r)):Lx w s T k (A.putObj l o'):=by
 obtain ⟨oa,cap,h1,h2⟩:=h.row
 exact ⟨h.rs.putL ho,h.old.putL _ hl ho,oa,cap,cells_putL h1 ho,ownsRow_putObj h2 _ ho rfl⟩
structure Zx (w:World) (E ln cl:Int) (A:World):Prop where
 r2:Boxed A w.heap.size 50 (.slice none 0 0)
 r3:Pl A (w.heap.size+1) ln cl
 r4:Boxed A (w.heap.size+1+1) 27 (.int .i64 E)
 old:Old w A
theorem Zx.kr {w:World} {E ln cl:Int} {A B:World} (h:Zx w E ln cl A) (hk:Kr w.heap.size A B):Zx w E ln cl B:=⟨cells_kr h.r2 (by decide) hk,cells_kr h.r3 (by decide) hk,cells_kr h.r4 (by decide) hk,hk.old h.old (Nat.le_refl _)⟩
theorem Zx.putL {w:World} {E ln cl:Int} {A:World} {l:Nat} {r:Loop} (h:Zx w E ln cl A) (o':Obj) (hl:w.heap.size≤l) (ho:A.heap[l]?=some (.loop r)):Zx w E ln cl (A.putObj l o'):=⟨cells_putL h.r2 ho,cells_putL h.r3 ho,cells_putL h.r4 ho,h.old.putL _ hl ho⟩
theorem size25:(Tryz.prog.info? 26).map (·.size)=some 2:=by kernel_rfl
theorem load23 {W:World} {g:Nat} {v:Value} (h:Boxed W g 50 v):(loadVar 50 ⟨g,0,none⟩).run Tryz.prog W=.ok v W:=by
 have c:=h.cell
 simp [loadVar,Sem.run_bind,Tryz.isAgg50,c,go_sem]
theorem load26 {W:World} {g:Nat} {v:Value} (h:Boxed W g 27 v):(loadVar 27 ⟨g,0,none⟩).run Tryz.prog W=.ok v W:=by
 have c:=h.cell
 simp [loadVar,Sem.run_bind,Tryz.isAgg27,c,go_sem]
theorem ret_lex {fn:Func} (hf:fn.results=#[.cell 2 50,.cell 3 26,.cell 4 27]) (tmps:Array Value) (W:World) (g2 g3 g4:Nat) {v e:Value} {a b:Int} (h2:tmps.getD 2 undef=.pointer (some ⟨g2,0,none⟩)) (h3:tmps.getD 3 undef=.pointer (some ⟨g3,0,none⟩)) (h4:tmps.getD 4 undef=.pointer (some ⟨g4,0,none⟩))
 (H2:Boxed W g2 50 v) (H3:Pl W g3 a b) (H4:Boxed W g4 27 e):(results fn tmps).run Tryz.prog W=.ok (.tuple #[v,.agg #[.int .i64 a,.int .i64 b],e]) W:=by
 have h2':tmps[2]?.getD undef=.pointer (some ⟨g2,0,none⟩):=by simpa using h2
 have h3':tmps[3]?.getD undef=.pointer (some ⟨g3,0,none⟩):=by simpa using h3
 have h4':tmps[4]?.getD undef=.pointer (some ⟨g4,0,none⟩):=by simpa using h4
 have r3:=run_loadVar_row (P:=Tryz.prog) W g3 26 26 #[.int .i64 a,.int .i64 b] (0,0) _ H3 Tryz.underlying26 rfl size25
 simp [results,hf,Sem.run_bind,Result.andThen,h2',h3',h4',asAddr,load23 H2,load26 H4,r3]
attribute [local go_sem] Oper.semAt_some
def Ax (w:World) (s:ByteArray) (T:List Tk) (k:Nat) (x:Tk) (er:Int) (a:Act) (A:World):Prop:=
 Lx w s T k A∧∃ bw,Sv A bw (.int .u8 x.k) (.string (st x.t)) (.int .u8 x.vk) (.int .i64 x.vn) (.string (st x.vs)) (.int .i64 x.ln) (.int .i64 x.cl)∧w.heap.size+1+1+1+1<bw∧
  a={ tmps:=#[.string s,undef,.pointer (some ⟨w.heap.size,0,none⟩),.pointer (some ⟨w.heap.size+1,0,none⟩),.pointer (some ⟨w.heap.size+1+1,0,none⟩),.pointer (some ⟨w.heap.size+1+1+1,0,none⟩),.pointer (some ⟨bw,0,none⟩),.int .i64 er,.string s,.int .i64 (s.size:Int),.bool (decide (65536<(s.size:Int))),undef,.string s,.func (.func 52) #[] #[.pointer (some ⟨w.heap.size+1+1+1+1,0,none⟩)],x.v,.int .i64 er,undef,undef,undef,undef,undef,undef,undef,undef,undef,undef,undef],defers:=[] }
theorem lex_any (s:ByteArray) (w:World) (hs:s.size≤65536) (he:Env w) (T:List Tk) (E ln cl:Int) (hT:lexL s.data.toList=(T,E,ln,cl)) (hTl:T.length≤70000) (h00:E=0→ln=0∧cl=0) :
 Calls Tryz.prog 23 #[.string s] w fun e w'=>(∃ v,e=.returned (.tuple #[v,.agg #[.int .i64 ln,.int .i64 cl],.int .i64 E])∧w'.ownsRow w.heap.size 57 7 v (if E=0 then T else []).length (tcells (if E=0 then T else [])))∧Old w w':=by
 refine (callsIn_wide (n:=8)).1 ?_
 refine callsIn_of_wp_marks Tryz.func23 rfl trivial ?_ rfl
 simp only [Tryz.ntmps23,List.size_toArray,List.length_cons,List.length_nil,Nat.reduceAdd,Nat.reduceSub,Array.replicate_succ,Array.replicate_zero,List.push_toArray,List.append_toArray,List.nil_append,List.cons_append]
 have f13:Fence.wide.fn 38:=trivial
 gi_wp2_with (first
  | (gi_at_call 38;refine (callsIn_wide.2 (words_any s _)).mono ?_;rintro e w1 ⟨rfl,rfl⟩))
 have hE:=hid (fun A (h:Old w A)=>he.old h)
 refine wpIn_tellsW rfl (by omega) (gf:=52) (lb:=#[.pointer (some ⟨w.heap.size+1+1+1+1,0,none⟩)]) rfl trivial (enters_of Tryz.func52 (by kernel_rfl) rfl)
  (n0:=w.heap.size) (tells_words 7 (by omega) s (by omega) (w.heap.size+1+1+1+1) w.heap.size T E ln cl hT) (by simp;omega) rfl
  (Lx w s T) (Zx w E ln cl) (fun k A B h hk=>h.kr hk) (fun A B h hk=>h.kr hk) (fun k A l r r' h hl ho=>h.putL _ (by simp at hl;omega) ho) (fun A l r r' h hl ho=>h.putL _ (by simp at hl;omega) ho)
  (fun k A h=>⟨h.rs.src,hE.out A h.old⟩) ?_ (Ax w s T) ?al ?assign ?body ?stopb ?done ?stop
 ·obtain ⟨w1,h1⟩:∃ w1,w1=w.alloc (.cells #[.slice none 0 0] 50):=⟨_,rfl⟩
  obtain ⟨w2,h2⟩:∃ w2,w2=w1.alloc (.cells #[.int .i64 0,.int .i64 0] 26):=⟨_,rfl⟩
  obtain ⟨w3,h3⟩:∃ w3,w3=w2.alloc (.cells #[.int .i64 0] 27):=⟨_,rfl⟩
  obtain ⟨w4,h4⟩:∃ w4,w4=w3.alloc (.cells #[.slice none 0 0] 50):=⟨_,rfl⟩
  obtain ⟨w5,h5⟩:∃ w5,w5=w4.alloc (.cells #[.string s] 9):=⟨_,rfl⟩
  rw [←h1,←h2,←h3,←h4,←h5]
  have s1:w1.heap.size=w.heap.size+1:=by rw [h1,sz_alloc]
  have s2:w2.heap.size=w.heap.size+1+1:=by rw [h2,sz_alloc,s1]
  have s3:w3.heap.size=w.heap.size+1+1+1:=by rw [h3,sz_alloc,s2]
  have s4:w4.heap.size=w.heap.size+1+1+1+1:=by rw [h4,sz_alloc,s3]
  have o1:Old w w1:=by rw [h1];exact (Old.refl w).alloc _
  have o2:Old w1 w2:=by rw [h2];exact (Old.refl w1).alloc _
  have o3:Old w2 w3:=by rw [h3];exact (Old.refl w2).alloc _
  have o4:Old w3 w4:=by rw [h4];exact (Old.refl w3).alloc _
  have o5:Old w4 w5:=by rw [h5];exact (Old.refl w4).alloc _
  have e1:Boxed w1 w.heap.size 50 (.slice none 0 0):=by rw [h1];exact Boxed.new w 50 _
  have e2:Pl w2 (w.heap.size+1) 0 0:=by rw [h2,←s1];exact (MapKept.heap_alloc w1 _).1
  have e3:Boxed w3 (w.heap.size+1+1) 27 (.int .i64 0):=by rw [h3,←s2];exact Boxed.new w2 27 _
  have e4:Boxed w4 (w.heap.size+1+1+1) 50 (.slice none 0 0):=by rw [h4,←s3];exact Boxed.new w3 50 _
  have e5:Boxed w5 (w.heap.size+1+1+1+1) 9 (.string s):=by rw [h5,←s4];exact Boxed.new w4 9 _
  exact ⟨⟨Boxed.old e1 (((o2.trans o3).trans o4).trans o5),e2.old ((o3.trans o4).trans o5),Boxed.old e3 (o4.trans o5),e5⟩,(((o1.trans o2).trans o3).trans o4).trans o5,none,0,Boxed.old e4 o5,World.ownsRow_nil _ _ _ _⟩
 case al=>
  rintro k x er a' A l r r' ⟨h1,bw,h2,h3,rfl⟩ hl ho
  exact ⟨h1.putL _ (by simp at hl;omega) ho,bw,cells_putL h2 ho,h3,rfl⟩
 case assign=>
  intro l k x er A hi
  have HI:=hid hi
  have HK:=hid (Kr.ofOld (n0:=w.heap.size) ((Old.refl A).alloc (.cells #[.int .u8 x.k,.string (st x.t),.int .u8 x.vk,.int .i64 x.vn,.string (st x.vs),.int .i64 x.ln,.int .i64 x.cl] 57)))
  have HS:=hid (Sv.new A (x0:=.int .u8 x.k) (x1:=.string (st x.t)) (x2:=.int .u8 x.vk) (x3:=.int .i64 x.vn) (x4:=.string (st x.vs)) (x5:=.int .i64 x.ln) (x6:=.int .i64 x.cl))
  clear hi
  gi_wp2
  exact ⟨KeepsFrom.ofOld _ ((Old.refl A).alloc _),Kb.ofOld ((Old.refl A).alloc _),HI.out.kr HK.out,A.heap.size,HS.out,blk_lt HI.out.rs.src,rfl⟩
 case body=>
  rintro l k x a' A ⟨hC,bw,hS,hbw,rfl⟩ hk
  obtain ⟨oa,cap,hbx,hown⟩:=hC.row
  obtain ⟨i,hi,hz,hsz',hby⟩:=info_parts info33
  have hkT:k<T.length:=(List.getElem?_eq_some_iff.1 hk).1
  have HN:=hid (Sv.new A (x0:=.int .u8 x.k) (x1:=.string (st x.t)) (x2:=.int .u8 x.vk) (x3:=.int .i64 x.vn) (x4:=.string (st x.vs)) (x5:=.int .i64 x.ln) (x6:=.int .i64 x.cl))
  have HC1:=hid (cr_one7 HN.out)
  have HBX:=hid hbx
  have HOWN:=hid hown
  have HOWN2:=hid (own_old hown ((Old.refl A).alloc (.cells #[.int .u8 x.k,.string (st x.t),.int .u8 x.vk,.int .i64 x.vn,.string (st x.vs),.int .i64 x.ln,.int .i64 x.cl] 57)))
  have L1:=hid (show (k+1)*72≤140737488355328 by omega)
  have L2:=hid (show k+1≤maxLen by unfold maxLen;omega)
  have L3:=hid (show w.heap.size≤(A.alloc (.cells #[.int .u8 x.k,.string (st x.t),.int .u8 x.vk,.int .i64 x.vn,.string (st x.vs),.int .i64 x.ln,.int .i64 x.cl] 57)).heap.size by have:=hC.old.size;simp;omega)
  have L4:=hid hC.old.size
  have HONE:=hid (show ∀ u∈[Value.int .u8 x.k,.string (st x.t),.int .u8 x.vk,.int .i64 x.vn,.string (st x.vs),.int .i64 x.ln,.int .i64 x.cl],u.oneCell'=true from tcells_one [x])
  have HL:=hid hC
  have HK:=hid hk
  have b0:=hbx.cell
  have b1:=hbx.frozen
  have d0:=hS.c 0
  have d1:=hS.c 1
  have d2:=hS.c 2
  have d3:=hS.c 3
  have d4:=hS.c 4
  have d5:=hS.c 5
  have d6:=hS.c 6
  have e0:=hS.f 0
  have e1:=hS.f 1
  have e2:=hS.f 2
  have e3:=hS.f 3
  have e4:=hS.f 4
  have e5:=hS.f 5
  have e6:=hS.f 6
  clear hbx hown hC hk hkT hS
  gi_wp2_with (first
   | (gi_at_builtin;refine wpListIn_appC _ rfl _ _ 50 rfl w.heap.size 57 i _ 7 72 Tryz.underlying50 hi hz hsz' hby rfl (Nat.zero_lt_succ 6) (.slice oa k cap) k (tcells (T.take k)) rfl HOWN2.out (.slice (some ⟨A.heap.size,0,none⟩) 1 1) 1 _ rfl HC1.out HONE.out L1.out L2.out L3.out ?_;intro ob cap2 w1 hown1 hgrow;obtain ⟨q1,q2,q3,q4,q5⟩:=HBX.out.appended (by decide) HOWN.out L4.out (by omega) hown1 hgrow;have HG:=hid hgrow;have Q2:=hid q2;have Q3:=hid q3;have Q4:=hid q4;have Q5:=hid q5;clear hown1 hgrow q2 q3 q4 q5;have g0:=q1.cell;have gf:=q1.frozen;clear q1))
  have hne:∀ (j:Nat) (cs:Array Value) (fr:Nat × Nat),A.heap[j]?=some (.cells cs 100 fr)→j≠w.heap.size+1+1+1:=by
   rintro j cs fr hj rfl
   have:=hj.symm.trans HBX.out
   simp at this
  have hrs:=HL.out.rs
  refine ⟨Q4.out.from _,⟨Q4.out.size,fun j cs fr hj=>kept_app HOWN.out HG.out hj (by decide) (hne j cs fr hj)⟩,⟨kept_app HOWN.out HG.out hrs.r2 (by decide) (by omega),kept_app HOWN.out HG.out hrs.r3 (by decide) (by omega),kept_app HOWN.out HG.out hrs.r4 (by decide) (by omega),kept_app HOWN.out HG.out hrs.src (by decide) (by omega)⟩,HL.out.old.below Q5.out,ob,cap2,Q2.out,?_⟩
  have e1:T.take (k+1)=T.take k++[x]:=by rw [List.take_add_one,HK.out];rfl
  rw [e1,tcells_app]
  exact Q3.out
 case stopb=>
  rintro l x a' A ⟨hC,bw,hS,hbw,rfl⟩ hE0 hln hcl
  have HC:=hid hC
  have HLN:=hid hln
  have HCL:=hid hcl
  have b0:=hC.rs.r2.cell
  have b1:=hC.rs.r2.frozen
  have b2:=hC.rs.r3.c0
  have b3:=hC.rs.r3.c1
  have b4:=hC.rs.r3.f 0
  have b5:=hC.rs.r3.f 1
  have b6:=hC.rs.r4.cell
  have b7:=hC.rs.r4.frozen
  have d0:=hS.c 0
  have d1:=hS.c 1
  have d2:=hS.c 2
  have d3:=hS.c 3
  have d4:=hS.c 4
  have d5:=hS.c 5
  have d6:=hS.c 6
  have e0:=hS.f 0
  have e1:=hS.f 1
  have e2:=hS.f 2
  have e3:=hS.f 3
  have e4:=hS.f 4
  have e5:=hS.f 5
  have e6:=hS.f 6
  clear hC hS
  gi_wp2
  have hmo:Tryz.prog.follows .mixedOrders=true:=by kernel_rfl
  have g0:bw≠w.heap.size:=by omega
  have g1:bw≠w.heap.size+1:=by omega
  have g2:bw≠w.heap.size+1+1:=by omega
  have hrs:=HC.out.rs
  have HZX:Hid (Zx w E ln cl (((((A.setCell ⟨w.heap.size,0,none⟩ (.slice none 0 0)).setCell ⟨w.heap.size+1,0,none⟩ (.int .i64 ln)).setCell ⟨w.heap.size+1,1,none⟩ (.int .i64 cl)).setCell ⟨w.heap.size+1+1,0,none⟩ (.int .i64 E)).drew)):=hid
   ⟨(far_heap (by omega)).trans ((far_heap (by omega)).trans ((far_heap (by omega)).trans (hrs.r2.set _))),
    (far_heap (by omega)).trans (Pl.set1 (Pl.set0 ((far_heap (by omega)).trans hrs.r3) _) _),
    Boxed.set (.int .i64 E) (show Boxed _ _ 27 (.int .i64 0) from (far_heap (by omega)).trans ((far_heap (by omega)).trans ((far_heap (by omega)).trans hrs.r4))),
    ((((HC.out.old.setCell (p:=⟨w.heap.size,0,none⟩) (Nat.le_refl _) _).setCell (p:=⟨w.heap.size+1,0,none⟩) (Nat.le_succ _) _).setCell (p:=⟨w.heap.size+1,1,none⟩) (Nat.le_succ _) _).setCell (p:=⟨w.heap.size+1+1,0,none⟩) (by show w.heap.size≤w.heap.size+1+1;omega) _).drew⟩
  have HKF:Hid (KeepsOthers A (((((A.setCell ⟨w.heap.size,0,none⟩ (.slice none 0 0)).setCell ⟨w.heap.size+1,0,none⟩ (.int .i64 ln)).setCell ⟨w.heap.size+1,1,none⟩ (.int .i64 cl)).setCell ⟨w.heap.size+1+1,0,none⟩ (.int .i64 E)).drew)):=hid (((((KeepsOthers.setCell A _ _).trans (KeepsOthers.setCell _ _ _)).trans (KeepsOthers.setCell _ _ _)).trans (KeepsOthers.setCell _ _ _)).trans (KeepsOthers.drew _))
  clear hrs
  gi_region_o
  all_goals gi_wp2
  all_goals exact ⟨HKF.out.from _,HZX.out⟩
 case done=>
  intro hE0 D A hD hZ hA
  obtain ⟨oa,cap,hbx,hown⟩:=hZ.row
  have b0:=hZ.rs.r2.cell
  have b1:=hZ.rs.r2.frozen
  have b2:=hZ.rs.r3.c0
  have b3:=hZ.rs.r3.c1
  have b4:=hZ.rs.r3.f 0
  have b5:=hZ.rs.r3.f 1
  have b6:=hZ.rs.r4.cell
  have b7:=hZ.rs.r4.frozen
  have b8:=hbx.cell
  have b9:=hbx.frozen
  gi_wp2
  have hDw:w.heap.size+1+1+1+1<D:=by simp at hD;omega
  have hA4:((((A.setCell ⟨w.heap.size,0,none⟩ (.slice oa T.length cap)).setCell ⟨w.heap.size+1,0,none⟩ (.int .i64 0)).setCell ⟨w.heap.size+1,1,none⟩ (.int .i64 0)).setCell ⟨w.heap.size+1+1,0,none⟩ (.int .i64 0)).heap[D]?=some (.deferred (some [])):=
   (far_heap (by omega)).trans ((far_heap (by omega)).trans ((far_heap (by omega)).trans ((far_heap (by omega)).trans hA)))
  obtain ⟨rfl,rfl⟩:=h00 hE0
  have hrs:=hZ.rs
  have k2:Boxed ((((A.setCell ⟨w.heap.size,0,none⟩ (.slice oa T.length cap)).setCell ⟨w.heap.size+1,0,none⟩ (.int .i64 0)).setCell ⟨w.heap.size+1,1,none⟩ (.int .i64 0)).setCell ⟨w.heap.size+1+1,0,none⟩ (.int .i64 0)) w.heap.size 50 (.slice oa T.length cap):=
   (far_heap (by omega)).trans ((far_heap (by omega)).trans ((far_heap (by omega)).trans (hrs.r2.set _)))
  have k3:Pl ((((A.setCell ⟨w.heap.size,0,none⟩ (.slice oa T.length cap)).setCell ⟨w.heap.size+1,0,none⟩ (.int .i64 0)).setCell ⟨w.heap.size+1,1,none⟩ (.int .i64 0)).setCell ⟨w.heap.size+1+1,0,none⟩ (.int .i64 0)) (w.heap.size+1) 0 0:=
   (far_heap (by omega)).trans (Pl.set1 (Pl.set0 ((far_heap (by omega)).trans hrs.r3) _) _)
  have k4:Boxed ((((A.setCell ⟨w.heap.size,0,none⟩ (.slice oa T.length cap)).setCell ⟨w.heap.size+1,0,none⟩ (.int .i64 0)).setCell ⟨w.heap.size+1,1,none⟩ (.int .i64 0)).setCell ⟨w.heap.size+1+1,0,none⟩ (.int .i64 0)) (w.heap.size+1+1) 27 (.int .i64 0):=
   Boxed.set (.int .i64 0) (show Boxed _ _ 27 (.int .i64 0) from (far_heap (by omega)).trans ((far_heap (by omega)).trans ((far_heap (by omega)).trans hrs.r4)))
  have k5:((((A.setCell ⟨w.heap.size,0,none⟩ (.slice oa T.length cap)).setCell ⟨w.heap.size+1,0,none⟩ (.int .i64 0)).setCell ⟨w.heap.size+1,1,none⟩ (.int .i64 0)).setCell ⟨w.heap.size+1+1,0,none⟩ (.int .i64 0)).ownsRow w.heap.size 57 7 (.slice oa T.length cap) T.length (tcells (T.take T.length)):=
   own_far (own_far (own_far (own_far hown (b:=w.heap.size) hrs.r2 (by decide) _) (b:=w.heap.size+1) ((far_heap (by omega)).trans hrs.r3) (by decide) _) (b:=w.heap.size+1) (Pl.set0 ((far_heap (by omega)).trans hrs.r3) _) (by decide) _) (b:=w.heap.size+1+1) ((far_heap (by omega)).trans ((far_heap (by omega)).trans ((far_heap (by omega)).trans hrs.r4))) (by decide) _
  have k6:Old w ((((A.setCell ⟨w.heap.size,0,none⟩ (.slice oa T.length cap)).setCell ⟨w.heap.size+1,0,none⟩ (.int .i64 0)).setCell ⟨w.heap.size+1,1,none⟩ (.int .i64 0)).setCell ⟨w.heap.size+1+1,0,none⟩ (.int .i64 0)):=
   (((hZ.old.setCell (p:=⟨w.heap.size,0,none⟩) (Nat.le_refl _) _).setCell (p:=⟨w.heap.size+1,0,none⟩) (Nat.le_succ _) _).setCell (p:=⟨w.heap.size+1,1,none⟩) (Nat.le_succ _) _).setCell (p:=⟨w.heap.size+1+1,0,none⟩) (by show w.heap.size≤w.heap.size+1+1;omega) _
  refine ⟨by simp,.inl ⟨_,_,rfl,run_takeDeferred hA4,?_⟩⟩
  refine ⟨_,ret_lex rfl _ _ w.heap.size (w.heap.size+1) (w.heap.size+1+1) rfl rfl rfl (cells_putD k2 hA4) (cells_putD k3 hA4) (cells_putD k4 hA4),⟨_,rfl,?_⟩,k6.putL _ (by omega) hA4⟩
  try rw [if_pos hE0]
  rw [List.take_length] at k5
  exact own_putD k5 hA4
 case stop=>
  intro hE0 D A hD hZ hA
  gi_wp2
  have hDw:w.heap.size+1+1+1+1<D:=by simp at hD;omega
  refine ⟨by simp,.inl ⟨_,_,rfl,run_takeDeferred hA,?_⟩⟩
  refine ⟨_,ret_lex rfl _ _ w.heap.size (w.heap.size+1) (w.heap.size+1+1) rfl rfl rfl (cells_putD hZ.r2 hA) (cells_putD hZ.r3 hA) (cells_putD hZ.r4 hA),⟨_,rfl,?_⟩,hZ.old.putL _ (by omega) hA⟩
  exact World.ownsRow_nil _ _ _ _
theorem st_app (a b:List UInt8):st a++st b=st (a++b):=by
 apply ba_ext
 simp [ByteArray.toList_eq]
def lexR (l:List UInt8):List Tk × Int × Int × Int:=if (lexL l).2.1=0 then lexL l else ([],(lexL l).2)
theorem lex_at (s:ByteArray) (w:World) (hs:s.size≤65536) (he:Env w) (R:List Tk × Int × Int × Int) (hR:R=lexR s.data.toList) :
 Calls Tryz.prog 23 #[.string s] w fun e w'=>(∃ oa cap,e=.returned (.tuple #[.slice oa R.1.length cap,.agg #[.int .i64 R.2.2.1,.int .i64 R.2.2.2],.int .i64 R.2.1])∧w'.ownsRow w.heap.size 57 7 (.slice oa R.1.length cap) R.1.length (tcells R.1))∧Old w w':=by
 obtain ⟨⟨T,E,ln,cl⟩,hT⟩:∃ x,lexL s.data.toList=x:=⟨_,rfl⟩
 have hw:=wds_of hT
 have hl:=hw.len
 have hz:s.data.toList.length=s.size:=Array.length_toList
 refine (lex_any s w hs he T E ln cl hT (by omega) hw.zero).mono ?_
 rintro e w' ⟨⟨v,rfl,hv⟩,ho⟩
 have hR':R=(if E=0 then T else [],E,ln,cl):=by
  rw [hR]
  unfold lexR
  rw [hT]
  by_cases h:E=0
  ·rw [if_pos h,if_pos (show (T,E,ln,cl).2.1=0 from h)]
  ·rw [if_neg h,if_neg (show ¬ (T,E,ln,cl).2.1=0 from h)]
 subst hR'
 obtain ⟨oa,cap,rfl⟩:=own_shape hv
 exact ⟨⟨oa,cap,rfl,hv⟩,ho⟩
end Go.Proofs.YtkellpcljiodeaaGreatDoor
