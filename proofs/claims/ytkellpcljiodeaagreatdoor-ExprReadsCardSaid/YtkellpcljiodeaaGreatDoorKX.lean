/- Layer expr: a tree by its cells; four texts. whether two trees are the same (the program's, the document's). -/
import Derived.Test.YtkellpcljiodeaaGreatDoorKF
set_option maxHeartbeats 3200000
namespace Go.Proofs.YtkellpcljiodeaaGreatDoor
open Go.ChangeShapes Go.WideShapes Go.ChangeAt Go.RowKit Go.Lib
set_option linter.unusedVariables false
set_option linter.unusedSimpArgs false
set_option maxRecDepth 100000
theorem kx1:readP [63,97,32,43,32,50,32,42,32,51]=([⟨2,0,0,[],[97],[],1,1⟩,⟨1,1,2,[],[],[],1,6⟩,⟨1,1,3,[],[],[],1,10⟩,⟨15,0,0,[],[],[2,1],1,8⟩,⟨13,0,0,[],[],[4,1],1,4⟩],0,0,0):=by kernel_rfl
theorem kx2:readP [110,111,116,32,63,97,32,61,32,63]=([⟨2,0,0,[],[97],[],1,5⟩,⟨3,0,0,[],[],[],1,10⟩,⟨7,0,0,[],[],[2,1],1,8⟩,⟨6,0,0,[],[],[1],1,1⟩],0,0,0):=by kernel_rfl
theorem kx3:readP [49,32,60,32,50,32,60,32,51]=([],1,7,4):=by kernel_rfl
theorem kx4:readP [109,111,100,40,49,41]=([],1,6,14):=by kernel_rfl
theorem row_any {w:World} {base size:Nat} {e:TypeId} {oa:Option Addr} {n cap:Nat} {cs:List Value} (h:w.ownsRow base e size (.slice oa n cap) n cs) (hn:0<n):∃ g,oa=some ⟨g,0,none⟩∧g<w.heap.size∧n≤cap∧cap≤maxLen∧(∃ cur,w.heap[g]?=some (.cells cur e (0,0)))∧∀ j u,cs[j]?=some u→w.cell? ⟨g,j,none⟩=some u:=by
 obtain ⟨hl,h⟩:=h
 rcases h with ⟨h1,rfl⟩|⟨g,cap',cur,h1,hb,hg,hc,hm,hsz,ht⟩
 ·omega
 ·injection h1 with h1 h2 h3
  subst h1 h3
  refine ⟨g,rfl,blk_lt hg,hc,hm,⟨cur,hg⟩,fun j u hj=>?_⟩
  have hjl:j<cs.length:=(List.getElem?_eq_some_iff.1 hj).1
  rw [←ht,List.getElem?_take,if_pos (by omega),Array.getElem?_toList] at hj
  simp [World.cell?,hg,hj]
def Kw (w:World) (v:Value) (ks:List Nat):Prop:=∃ oa cap,v=.slice oa ks.length cap∧ks.length≤cap∧cap≤maxLen∧∀ (j k:Nat),ks[j]?=some k→∃ g,oa=some ⟨g,0,none⟩∧g<w.heap.size∧w.heap[g]?.isSome=true∧w.cell? ⟨g,j,none⟩=some (.int .i64 (k:Int))
theorem Kw.old {w w':World} {v:Value} {ks:List Nat} (h:Kw w v ks) (ho:Old w w'):Kw w' v ks:=by
 obtain ⟨oa,cap,h1,h2,h3,h4⟩:=h
 refine ⟨oa,cap,h1,h2,h3,fun i x hx=>?_⟩
 obtain ⟨g,e,hg,hs,a0⟩:=h4 i x hx
 exact ⟨g,e,Nat.lt_of_lt_of_le hg ho.size,by rw [ho.block g hg];exact hs,(ho.cell hg).trans a0⟩
theorem row_bound {w:World} {base e size n cap:Nat} {oa:Option Addr} {cs:List Value} (h:w.ownsRow base e size (.slice oa n cap) n cs):n≤cap∧cap≤maxLen:=by
 rcases h.2 with ⟨h1,h2,_⟩|⟨g,cap',cur,h1,_,_,hc,hm,_⟩
 ·injection h1 with h1 h2' h3
  rw [h2',h3]
  exact ⟨Nat.le_refl _,Nat.zero_le _⟩
 ·injection h1 with h1 h2 h3
  rw [h3]
  exact ⟨hc,hm⟩
theorem KR.kw {w:World} {base:Nat} {v:Value} {ks:List Nat} (h:KR w base v ks):Kw w v ks:=by
 obtain ⟨oa,cap,rfl⟩:=own_shape h
 obtain ⟨hb1,hb2⟩:=row_bound h
 refine ⟨oa,cap,rfl,hb1,hb2,fun j k hj=>?_⟩
 have hlt:j<ks.length:=(List.getElem?_eq_some_iff.1 hj).1
 obtain ⟨g,rfl,hg,h1,h2,⟨cur,hc⟩,h4⟩:=row_any h (by omega)
 exact ⟨g,rfl,hg,by rw [hc];rfl,h4 _ _ (by rw [List.getElem?_map,hj];rfl)⟩
def Tw (w:World) (v:Value) (T:List Nd):Prop:=∃ oa cap,v=.slice oa T.length cap∧T.length≤cap∧cap≤maxLen∧∀ (i:Nat) (x:Nd),T[i]?=some x→∃ g kv,oa=some ⟨g,0,none⟩∧g<w.heap.size∧w.heap[g]?.isSome=true∧w.cell? ⟨g,i*8,none⟩=some (.int .u8 x.op)∧w.cell? ⟨g,i*8+1,none⟩=some (.int .u8 x.vk)∧w.cell? ⟨g,i*8+2,none⟩=some (.int .i64 x.vn)∧
    w.cell? ⟨g,i*8+3,none⟩=some (.string (st x.vs))∧w.cell? ⟨g,i*8+4,none⟩=some (.string (st x.nm))∧w.cell? ⟨g,i*8+5,none⟩=some kv∧w.cell? ⟨g,i*8+6,none⟩=some (.int .i64 x.ln)∧w.cell? ⟨g,i*8+7,none⟩=some (.int .i64 x.cl)∧Kw w kv (x.ks.map (i-·))
theorem Tw.old {w w':World} {v:Value} {T:List Nd} (h:Tw w v T) (ho:Old w w'):Tw w' v T:=by
 obtain ⟨oa,cap,h1,h2,h3,h4⟩:=h
 refine ⟨oa,cap,h1,h2,h3,fun i x hx=>?_⟩
 obtain ⟨g,kv,e,hg,hs,a0,a1,a2,a3,a4,a5,a6,a7,hk⟩:=h4 i x hx
 exact ⟨g,kv,e,Nat.lt_of_lt_of_le hg ho.size,by rw [ho.block g hg];exact hs,(ho.cell hg).trans a0,(ho.cell hg).trans a1,(ho.cell hg).trans a2,(ho.cell hg).trans a3,(ho.cell hg).trans a4,(ho.cell hg).trans a5,(ho.cell hg).trans a6,(ho.cell hg).trans a7,hk.old ho⟩
theorem ncells_at:∀ {T:List Nd} {kvs:List Value} {i:Nat} {x:Nd} {v:Value},T[i]?=some x→kvs[i]?=some v→∀ j,j<8→(ncells T kvs)[i*8+j]?=(x.cells v)[j]?
 | [],_,i,x,v,h,_,j,hj=>by simp at h
 | _::_,[],i,x,v,_,h,j,hj=>by simp at h
 | y::T,u::kvs,0,x,v,h,k,j,hj=>by
   simp only [List.getElem?_cons_zero,Option.some.injEq] at h k
   subst h k
   rw [ncells,Nat.zero_mul,Nat.zero_add,List.getElem?_append_left (by simpa using hj)]
 | y::T,u::kvs,i+1,x,v,h,k,j,hj=>by
   simp only [List.getElem?_cons_succ] at h k
   rw [ncells,List.getElem?_append_right (by simp;omega)]
   rw [←ncells_at h k j hj]
   congr 1
   simp
   omega
theorem TreeR.tw {S:Nat→Prop} {w:World} {base:Nat} {v:Value} {T:List Nd} (h:TreeR S w base v T):Tw w v T:=by
 obtain ⟨kvs,t1,t2,t3⟩:=h
 obtain ⟨oa,cap,rfl⟩:=own_shape t2
 obtain ⟨hb1,hb2⟩:=row_bound t2
 refine ⟨oa,cap,rfl,hb1,hb2,fun i x hx=>?_⟩
 have hlt:i<T.length:=(List.getElem?_eq_some_iff.1 hx).1
 have hv:kvs[i]?=some kvs[i]:=List.getElem?_eq_getElem (by omega)
 obtain ⟨g,rfl,hg,h1,h2,⟨cur,hc⟩,h4⟩:=row_any t2 (by omega)
 have hn:=fun j hj=>ncells_at hx hv j hj
 exact ⟨g,_,rfl,hg,by rw [hc];rfl,h4 _ _ (hn 0 (by omega)),h4 _ _ (hn 1 (by omega)),h4 _ _ (hn 2 (by omega)),h4 _ _ (hn 3 (by omega)),h4 _ _ (hn 4 (by omega)),h4 _ _ (hn 5 (by omega)),h4 _ _ (hn 6 (by omega)),h4 _ _ (hn 7 (by omega)),(t3 i x _ hx hv).1.kw⟩
theorem read_tw (s:ByteArray) (w:World) (hs:s.size≤65536) (he:Env w) {T:List Nd} {ln cl E:Int} (hR:readP s.data.toList=(T,ln,cl,E)) :
 Calls Tryz.prog 9 #[.string s] w fun e w'=>∃ oa cap,e=.returned (.tuple #[.slice oa T.length cap,.agg #[.int .i64 ln,.int .i64 cl],.int .i64 E])∧Hid (Tw w' (.slice oa T.length cap) T)∧Old w w':=
 (eread_any s w hs he hR.symm).mono (by
   rintro e w' ⟨⟨vt,h1,h2⟩,h3⟩
   have h4:=h2.tw
   obtain ⟨oa,cap,rfl,_⟩:=id h4
   exact ⟨oa,cap,h1,hid h4,h3⟩)
end Go.Proofs.YtkellpcljiodeaaGreatDoor
namespace Go.Proofs.YtkellpcljiodeaaGreatDoor
open Go.ChangeShapes Go.WideShapes Go.ChangeAt Go.RowKit Go.Lib
set_option linter.unusedVariables false
set_option linter.unusedSimpArgs false
set_option maxRecDepth 100000
theorem tw_first {w:World} {v:Value} (h:Tw w v [⟨2,0,0,[],[97],[],1,1⟩,⟨1,1,2,[],[],[],1,6⟩,⟨1,1,3,[],[],[],1,10⟩,⟨15,0,0,[],[],[2,1],1,8⟩,⟨13,0,0,[],[],[4,1],1,4⟩]) :
 ∃ g cap h c2,v=.slice (some ⟨g,0,none⟩) 5 cap∧w.cell? ⟨g,32,none⟩=some (.int .u8 13)∧w.cell? ⟨g,37,none⟩=some (.slice (some ⟨h,0,none⟩) 2 c2)∧w.cell? ⟨h,1,none⟩=some (.int .i64 3):=by
 obtain ⟨oa,cap,rfl,h2,h3,h4⟩:=h
 obtain ⟨g,kv,rfl,hg,hs,a0,a1,a2,a3,a4,a5,a6,a7,hk⟩:=h4 4 _ rfl
 obtain ⟨ob,c2,rfl,k2,k3,k4⟩:=hk
 obtain ⟨h,rfl,hg2,hs2,b0⟩:=k4 1 3 rfl
 exact ⟨g,cap,h,c2,rfl,a0,a5,b0⟩
theorem tw_second {w:World} {v:Value} (h:Tw w v [⟨2,0,0,[],[97],[],1,5⟩,⟨3,0,0,[],[],[],1,10⟩,⟨7,0,0,[],[],[2,1],1,8⟩,⟨6,0,0,[],[],[1],1,1⟩]) :
 ∃ g cap,v=.slice (some ⟨g,0,none⟩) 4 cap∧w.cell? ⟨g,24,none⟩=some (.int .u8 6):=by
 obtain ⟨oa,cap,rfl,h2,h3,h4⟩:=h
 obtain ⟨g,kv,rfl,hg,hs,a0,_⟩:=h4 3 _ rfl
 exact ⟨g,cap,rfl,a0⟩
theorem known_ok (w:World) (he:Env w):Calls Tryz.prog 8 #[] w fun e w'=>e=.returned (.bool true)∧Old w w':=by
 have HK1:=hid (show ∀ W,Old w W→Calls Tryz.prog 9 #[.string ⟨#[63,97,32,43,32,50,32,42,32,51]⟩] W fun e w'=>∃ v,e=.returned (.tuple #[v,.agg #[.int .i64 0,.int .i64 0],.int .i64 0])∧Hid (Tw w' v [⟨2,0,0,[],[97],[],1,1⟩,⟨1,1,2,[],[],[],1,6⟩,⟨1,1,3,[],[],[],1,10⟩,⟨15,0,0,[],[],[2,1],1,8⟩,⟨13,0,0,[],[],[4,1],1,4⟩])∧Old W w' from fun W ho=>
  (read_tw ⟨#[63,97,32,43,32,50,32,42,32,51]⟩ W (by decide) (he.old ho) kx1).mono (by rintro e w' ⟨oa,cap,h1,h2,h3⟩;exact ⟨_,h1,h2,h3⟩))
 have HK2:=hid (show ∀ W,Old w W→Calls Tryz.prog 9 #[.string ⟨#[110,111,116,32,63,97,32,61,32,63]⟩] W fun e w'=>∃ v,e=.returned (.tuple #[v,.agg #[.int .i64 0,.int .i64 0],.int .i64 0])∧Hid (Tw w' v [⟨2,0,0,[],[97],[],1,5⟩,⟨3,0,0,[],[],[],1,10⟩,⟨7,0,0,[],[],[2,1],1,8⟩,⟨6,0,0,[],[],[1],1,1⟩])∧Old W w' from fun W ho=>
  (read_tw ⟨#[110,111,116,32,63,97,32,61,32,63]⟩ W (by decide) (he.old ho) kx2).mono (by rintro e w' ⟨oa,cap,h1,h2,h3⟩;exact ⟨_,h1,h2,h3⟩))
 have HK3:=hid (show ∀ W,Old w W→Calls Tryz.prog 9 #[.string ⟨#[49,32,60,32,50,32,60,32,51]⟩] W fun e w'=>∃ v,e=.returned (.tuple #[v,.agg #[.int .i64 1,.int .i64 7],.int .i64 4])∧Old W w' from fun W ho=>
  (read_tw ⟨#[49,32,60,32,50,32,60,32,51]⟩ W (by decide) (he.old ho) kx3).mono (by rintro e w' ⟨oa,cap,h1,h2,h3⟩;exact ⟨_,h1,h3⟩))
 have HK4:=hid (show ∀ W,Old w W→Calls Tryz.prog 9 #[.string ⟨#[109,111,100,40,49,41]⟩] W fun e w'=>∃ v,e=.returned (.tuple #[v,.agg #[.int .i64 1,.int .i64 6],.int .i64 14])∧Old W w' from fun W ho=>
  (read_tw ⟨#[109,111,100,40,49,41]⟩ W (by decide) (he.old ho) kx4).mono (by rintro e w' ⟨oa,cap,h1,h2,h3⟩;exact ⟨_,h1,h3⟩))
 have HO:=hid (Old.refl w)
 clear he
 go_enter Tryz.func8,Tryz.ntmps8
 go_wp2_with (first
  | (go_at_call 9;(with_reducible refine (HK1.out _ HO.out).mono ?_);rintro e w1 ⟨v1,rfl,t1,o1⟩;have o1':=(Old.refl w1).alloc (.cells #[.int .i64 0,.int .i64 0] 26);have T1:=hid (t1.out.old o1');have O1:=hid (o1.trans o1');clear o1 o1' t1)
  | (go_at_call 9;(with_reducible refine (HK2.out _ O1.out).mono ?_);rintro e w2 ⟨v2,rfl,t2,o2⟩;have o2':=(Old.refl w2).alloc (.cells #[.int .i64 0,.int .i64 0] 26);have T2:=hid (t2.out.old o2');have T1':=hid (T1.out.old (o2.trans o2'));have O2:=hid ((O1.out.trans o2).trans o2');clear o2 o2' t2)
  | (go_at_call 9;(with_reducible refine (HK3.out _ O2.out).mono ?_);rintro e w3 ⟨v3,rfl,o3⟩;have o3':=(Old.refl w3).alloc (.cells #[.int .i64 1,.int .i64 7] 26);have P3:=hid (show Pl (w3.alloc (.cells #[.int .i64 1,.int .i64 7] 26)) w3.heap.size 1 7 from (MapKept.heap_alloc w3 _).1);have T2':=hid (T2.out.old (o3.trans o3'));have T1'':=hid (T1'.out.old (o3.trans o3'));have O3:=hid ((O2.out.trans o3).trans o3');clear o3 o3')
  | (go_at_call 9;(with_reducible refine (HK4.out _ O3.out).mono ?_);rintro e w4 ⟨v4,rfl,o4⟩;have o4':=(Old.refl w4).alloc (.cells #[.int .i64 1,.int .i64 6] 26);obtain ⟨g,cap,h,c2,rfl,f1,f2,f3⟩:=tw_first (T1''.out.old (o4.trans o4'));obtain ⟨g2,cap2,rfl,f4⟩:=tw_second (T2'.out.old (o4.trans o4'));have P3':=P3.out.old (o4.trans o4');have f5:=P3'.c0;have f6:=P3'.c1;have O4:=hid ((O3.out.trans o4).trans o4');clear o4 o4' P3'))
 go_ret
 exact ⟨rfl,O4.out⟩
end Go.Proofs.YtkellpcljiodeaaGreatDoor
namespace Go.Proofs.YtkellpcljiodeaaGreatDoor
open Go.ChangeShapes Go.WideShapes Go.ChangeAt Go.RowKit Go.Lib
set_option linter.unusedVariables false
set_option linter.unusedSimpArgs false
set_option maxRecDepth 100000
structure Na where
 op:Int
 vk:Int
 vn:Int
 vs:List UInt8
 nm:List UInt8
 ks:List Int
 ln:Int
 cl:Int
deriving DecidableEq
def Na.bare (x:Na):Na:={ x with ln:=0,cl:=0 }
theorem na_bare {x y:Na}:x.bare=y.bare↔x.op=y.op∧x.vk=y.vk∧x.vn=y.vn∧x.vs=y.vs∧x.nm=y.nm∧x.ks=y.ks:=by
 unfold Na.bare
 simp only [Na.mk.injEq,and_true]
def Kz (w:World) (v:Value) (ks:List Int):Prop:=∃ oa cap,v=.slice oa ks.length cap∧ks.length≤cap∧cap≤maxLen∧∀ (j:Nat) (k:Int),ks[j]?=some k→∃ g,oa=some ⟨g,0,none⟩∧g<w.heap.size∧w.heap[g]?.isSome=true∧w.cell? ⟨g,j,none⟩=some (.int .i64 k)
theorem Kz.old {w w':World} {v:Value} {ks:List Int} (h:Kz w v ks) (ho:Old w w'):Kz w' v ks:=by
 obtain ⟨oa,cap,h1,h2,h3,h4⟩:=h
 refine ⟨oa,cap,h1,h2,h3,fun i x hx=>?_⟩
 obtain ⟨g,e,hg,hs,a0⟩:=h4 i x hx
 exact ⟨g,e,Nat.lt_of_lt_of_le hg ho.size,by rw [ho.block g hg];exact hs,(ho.cell hg).trans a0⟩
theorem Kw.kz {w:World} {v:Value} {ks:List Nat} (h:Kw w v ks):Kz w v (ks.map fun k:Nat=>(k:Int)):=by
 obtain ⟨oa,cap,h1,h2,h3,h4⟩:=h
 refine ⟨oa,cap,by rw [List.length_map];exact h1,by rw [List.length_map];exact h2,h3,fun j k hk=>?_⟩
 rw [List.getElem?_map] at hk
 cases hj:ks[j]? with
 | none=>rw [hj] at hk;cases hk
 | some x=>
   rw [hj] at hk
   injection hk with hk
   subst hk
   exact h4 j x hj
def Tz (w:World) (v:Value) (T:List Na):Prop:=∃ oa cap,v=.slice oa T.length cap∧T.length≤cap∧cap≤maxLen∧∀ (i:Nat) (x:Na),T[i]?=some x→∃ g kv,oa=some ⟨g,0,none⟩∧g<w.heap.size∧w.heap[g]?.isSome=true∧w.cell? ⟨g,i*8,none⟩=some (.int .u8 x.op)∧w.cell? ⟨g,i*8+1,none⟩=some (.int .u8 x.vk)∧w.cell? ⟨g,i*8+2,none⟩=some (.int .i64 x.vn)∧
    w.cell? ⟨g,i*8+3,none⟩=some (.string (st x.vs))∧w.cell? ⟨g,i*8+4,none⟩=some (.string (st x.nm))∧w.cell? ⟨g,i*8+5,none⟩=some kv∧w.cell? ⟨g,i*8+6,none⟩=some (.int .i64 x.ln)∧w.cell? ⟨g,i*8+7,none⟩=some (.int .i64 x.cl)∧Kz w kv x.ks
theorem Tz.old {w w':World} {v:Value} {T:List Na} (h:Tz w v T) (ho:Old w w'):Tz w' v T:=by
 obtain ⟨oa,cap,h1,h2,h3,h4⟩:=h
 refine ⟨oa,cap,h1,h2,h3,fun i x hx=>?_⟩
 obtain ⟨g,kv,e,hg,hs,a0,a1,a2,a3,a4,a5,a6,a7,hk⟩:=h4 i x hx
 exact ⟨g,kv,e,Nat.lt_of_lt_of_le hg ho.size,by rw [ho.block g hg];exact hs,(ho.cell hg).trans a0,(ho.cell hg).trans a1,(ho.cell hg).trans a2,(ho.cell hg).trans a3,(ho.cell hg).trans a4,(ho.cell hg).trans a5,(ho.cell hg).trans a6,(ho.cell hg).trans a7,hk.old ho⟩
def absT (T:List Nd):List Na:=T.mapIdx fun i x=>⟨x.op,x.vk,x.vn,x.vs,x.nm,(x.ks.map (i-·)).map fun k:Nat=>(k:Int),x.ln,x.cl⟩
theorem abs_len (T:List Nd):(absT T).length=T.length:=by simp [absT]
theorem abs_at {T:List Nd} {i:Nat} {y:Na} (h:(absT T)[i]?=some y):∃ x,T[i]?=some x∧y=⟨x.op,x.vk,x.vn,x.vs,x.nm,(x.ks.map (i-·)).map fun k:Nat=>(k:Int),x.ln,x.cl⟩:=by
 unfold absT at h
 rw [List.getElem?_mapIdx] at h
 cases hx:T[i]? with
 | none=>rw [hx] at h;cases h
 | some x=>
   rw [hx] at h
   injection h with h
   exact ⟨x,rfl,h.symm⟩
theorem Tw.tz {w:World} {v:Value} {T:List Nd} (h:Tw w v T):Tz w v (absT T):=by
 obtain ⟨oa,cap,h1,h2,h3,h4⟩:=h
 refine ⟨oa,cap,by rw [abs_len];exact h1,by rw [abs_len];exact h2,h3,fun i y hy=>?_⟩
 obtain ⟨x,hx,rfl⟩:=abs_at hy
 obtain ⟨g,kv,e,hg,hs,a0,a1,a2,a3,a4,a5,a6,a7,hk⟩:=h4 i x hx
 exact ⟨g,kv,e,hg,hs,a0,a1,a2,a3,a4,a5,a6,a7,hk.kz⟩
theorem equal_any (w:World) {ks ms:List Int} {va vb:Value} (ha:Kz w va ks) (hb:Kz w vb ms) (hl:ks.length≤1000000) (hm:ms.length≤1000000):Calls Tryz.prog 31 #[va,vb] w fun e w'=>e=.returned (.bool (decide (ks=ms)))∧Old w w':=by
 have HA:=hid ha
 have HB:=hid hb
 obtain ⟨oa,ca,rfl,a1,a2,_⟩:=ha
 obtain ⟨ob,cb,rfl,b1,b2,_⟩:=hb
 obtain ⟨n,hn⟩:∃ n,n=ks.length:=⟨_,rfl⟩
 obtain ⟨m,hm'⟩:∃ m,m=ms.length:=⟨_,rfl⟩
 rw [←hn] at HA hl a1 ⊢
 rw [←hm'] at HB hm b1 ⊢
 have HN:=hid hn
 have HM:=hid hm'
 unfold maxLen at a2 b2
 obtain ⟨B,hB⟩:∃ B,B=decide (ks=ms):=⟨_,rfl⟩
 rw [←hB]
 have HBB:=hid hB
 clear hB
 by_cases hnm:n=m
 ·subst hnm
  have HO:=hid (show Old w w∧∀ j,j<0→ks[j]?=ms[j]? from ⟨Old.refl w,fun j h=>by omega⟩)
  clear hn hm'
  go_enter Tryz.func31,Tryz.ntmps31
  go_wp2
  go_loopw [13] (fun i wr=>∃ k:Nat,k≤n∧i=.int .i64 (k:Int)∧Hid (Old w wr∧∀ j,j<k→ks[j]?=ms[j]?)) (fun i _=>(n-RowKit.intOf i).toNat)
  case atStart=>exact ⟨0,Nat.zero_le _,rfl,HO⟩
  case round=>
   clear HO
   obtain ⟨k,hk,rfl,HO⟩:=hrel
   rcases Nat.lt_or_ge k n with hkn|hkn
   ·obtain ⟨x,hx⟩:∃ x,ks[k]?=some x:=⟨_,List.getElem?_eq_getElem (by rw [←HN.out];exact hkn)⟩
    obtain ⟨y,hy⟩:∃ y,ms[k]?=some y:=⟨_,List.getElem?_eq_getElem (by rw [←HM.out];exact hkn)⟩
    obtain ⟨oa',ca',e1,_,_,h4⟩:=HA.out.old HO.out.1
    injection e1 with e1 z1 z2
    clear z1 z2
    subst e1
    obtain ⟨ga,rfl,lga,_,c0⟩:=h4 k x hx
    obtain ⟨ob',cb',e2,_,_,h5⟩:=HB.out.old HO.out.1
    injection e2 with e2 z1 z2
    clear z1 z2
    subst e2
    obtain ⟨gb,rfl,lgb,_,d0⟩:=h5 k y hy
    have HXY:=hid (And.intro hx hy)
    clear hx hy h4 h5 lga lgb
    by_cases hxy:x=y
    ·subst hxy
     go_wp2
     go_quiet (fail)
     go_wp2
     refine ⟨⟨k+1,by omega,by simp,hid ⟨HO.out.1.drewN _,fun j hj=>?_⟩⟩,by simp only [RowKit.intOf];omega⟩
     rcases Nat.lt_or_ge j k with h|h
     ·exact HO.out.2 j h
     ·obtain rfl:j=k:=by omega
      rw [HXY.out.1,HXY.out.2]
    ·have exy:(x==y)=false:=beq_false_of_ne hxy
     go_wp2
     go_quiet (fail)
     go_wp2
     go_ret
     have hBf:B=false:=HBB.out.trans (decide_eq_false fun e=>by
      have h1:=HXY.out.1
      rw [e,HXY.out.2] at h1
      injection h1 with h1
      exact hxy h1.symm)
     rw [hBf]
     exact ⟨rfl,HO.out.1.drewN _⟩
   ·obtain rfl:k=n:=by omega
    go_wp2
    go_ret
    have hBt:B=true:=HBB.out.trans (decide_eq_true (by
     apply List.ext_getElem?
     intro j
     rcases Nat.lt_or_ge j k with h|h
     ·exact HO.out.2 j h
     ·rw [List.getElem?_eq_none (by rw [←HN.out];exact h),List.getElem?_eq_none (by rw [←HM.out];exact h)]))
    rw [hBt]
    exact ⟨rfl,HO.out.1⟩
 ·have enm:((n:Int)==(m:Int))=false:=beq_false_of_ne (by omega)
  have HF:=hid (show B=false from HBB.out.trans (decide_eq_false fun e=>by
   rw [e] at hn
   exact hnm (hn.trans hm'.symm)))
  clear hn hm'
  go_enter Tryz.func31,Tryz.ntmps31
  go_wp2
  go_ret
  rw [HF.out]
  exact ⟨rfl,Old.refl w⟩
theorem node_any (w:World) {op vk vn op' vk' vn' l1 c1 l2 c2:Int} {vs nm vs' nm':List UInt8} {kva kvb:Value} {ks ms:List Int} (ha:Kz w kva ks) (hb:Kz w kvb ms) (hl:ks.length≤1000000) (hm:ms.length≤1000000) :
 Calls Tryz.prog 30 #[.agg #[.int .u8 op,.int .u8 vk,.int .i64 vn,.string (st vs),.string (st nm),kva,.int .i64 l1,.int .i64 c1],.agg #[.int .u8 op',.int .u8 vk',.int .i64 vn',.string (st vs'),.string (st nm'),kvb,.int .i64 l2,.int .i64 c2]] w fun e w'=>e=.returned (.bool (decide (op=op'∧vk=vk'∧vn=vn'∧vs=vs'∧nm=nm'∧ks=ms)))∧Old w w':=by
 obtain ⟨oa,ca,rfl,_⟩:=id ha
 obtain ⟨ob,cb,rfl,_⟩:=id hb
 obtain ⟨n,hn⟩:∃ n,n=ks.length:=⟨_,rfl⟩
 obtain ⟨m,hm'⟩:∃ m,m=ms.length:=⟨_,rfl⟩
 have HO:=hid (((Old.refl w).alloc (.cells #[.int .u8 op,.int .u8 vk,.int .i64 vn,.string (st vs),.string (st nm),.slice oa ks.length ca,.int .i64 l1,.int .i64 c1] 38)).alloc (.cells #[.int .u8 op',.int .u8 vk',.int .i64 vn',.string (st vs'),.string (st nm'),.slice ob ms.length cb,.int .i64 l2,.int .i64 c2] 38))
 have HE:=hid (fun W (h:Old w W)=>equal_any W (ha.old h) (hb.old h) hl hm)
 rw [←hn,←hm'] at HO HE
 rw [←hn,←hm']
 obtain ⟨B,hB⟩:∃ B,B=decide (ks=ms):=⟨_,rfl⟩
 rw [←hB] at HE
 have HBB:=hid hB
 clear ha hb hl hm hn hm' hB
 by_cases h1:op=op'
 ·subst h1
  by_cases h2:vk=vk'∧vn=vn'∧vs=vs'
  ·obtain ⟨rfl,rfl,rfl⟩:=h2
   by_cases h3:nm=nm'
   ·subst h3
    go_enter Tryz.func30,Tryz.ntmps30
    go_wp2_with (go_at_call 31;(with_reducible refine (HE.out _ HO.out).mono ?_);rintro e w1 ⟨rfl,o1⟩;have HO2:=hid (HO.out.trans o1);clear o1)
    go_ret
    refine ⟨?_,HO2.out⟩
    refine congrArg (fun b:Bool=>Ending.returned (.bool b)) ?_
    show B=_
    rw [HBB.out]
    exact decide_eq_decide.2 (by simp)
   ·have e3:(st nm==st nm')=false:=by rw [st_beq];exact beq_false_of_ne h3
    have e3':(nm==nm')=false:=beq_false_of_ne h3
    go_enter Tryz.func30,Tryz.ntmps30
    go_wp2_with (go_at_call 31;fail)
    go_ret
    refine ⟨?_,HO.out⟩
    refine congrArg (fun b:Bool=>Ending.returned (.bool b)) ?_
    exact (decide_eq_false fun h=>h3 h.2.2.2.2.1).symm
  ·by_cases k1:vk=vk'
   ·subst k1
    by_cases k2:vn=vn'
    ·subst k2
     have k3:vs≠vs':=fun h=>h2 ⟨rfl,rfl,h⟩
     have e3:(st vs==st vs')=false:=by rw [st_beq];exact beq_false_of_ne k3
     have e3':(vs==vs')=false:=beq_false_of_ne k3
     go_enter Tryz.func30,Tryz.ntmps30
     go_wp2_with (go_at_call 31;fail)
     go_ret
     refine ⟨?_,HO.out⟩
     refine congrArg (fun b:Bool=>Ending.returned (.bool b)) ?_
     first|rfl|exact (decide_eq_false fun h=>k3 h.2.2.2.1).symm
    ·have e2:(vn==vn')=false:=beq_false_of_ne k2
     go_enter Tryz.func30,Tryz.ntmps30
     go_wp2_with (go_at_call 31;fail)
     go_ret
     refine ⟨?_,HO.out⟩
     refine congrArg (fun b:Bool=>Ending.returned (.bool b)) ?_
     first|rfl|exact (decide_eq_false fun h=>k2 h.2.2.1).symm
   ·have e2:(vk==vk')=false:=beq_false_of_ne k1
    go_enter Tryz.func30,Tryz.ntmps30
    go_wp2_with (go_at_call 31;fail)
    go_ret
    refine ⟨?_,HO.out⟩
    refine congrArg (fun b:Bool=>Ending.returned (.bool b)) ?_
    first|rfl|exact (decide_eq_false fun h=>k1 h.2.1).symm
 ·have e1:(op==op')=false:=beq_false_of_ne h1
  go_enter Tryz.func30,Tryz.ntmps30
  go_wp2_with (go_at_call 31;fail)
  go_ret
  refine ⟨?_,HO.out⟩
  refine congrArg (fun b:Bool=>Ending.returned (.bool b)) ?_
  exact (decide_eq_false fun h=>h1 h.1).symm
def FewZ (T:List Na):Prop:=∀ x∈T,x.ks.length≤1000000
theorem map_differ {f:Na→Na} {T U:List Na} {k:Nat} {x y:Na} (hx:T[k]?=some x) (hy:U[k]?=some y) (h:f x≠f y):T.map f≠U.map f:=fun e=>by
 have h1:(T.map f)[k]?=(U.map f)[k]?:=by rw [e]
 rw [List.getElem?_map,List.getElem?_map,hx,hy] at h1
 injection h1 with h1
 exact h h1
theorem map_same {f:Na→Na} {T U:List Na} {n:Nat} (hT:n=T.length) (hU:n=U.length) (h:∀ j,j<n→(T.map f)[j]?=(U.map f)[j]?):T.map f=U.map f:=by
 apply List.ext_getElem?
 intro j
 rcases Nat.lt_or_ge j n with hj|hj
 ·exact h j hj
 ·rw [List.getElem?_eq_none (by rw [List.length_map,←hT];exact hj),List.getElem?_eq_none (by rw [List.length_map,←hU];exact hj)]
theorem eqf_any (w:World) {T U:List Na} {va vb:Value} (ha:Tz w va T) (hb:Tz w vb U) (hl:T.length≤1000000) (hl2:U.length≤1000000) (hf:FewZ T) (hg:FewZ U):Calls Tryz.prog 29 #[va,vb,.func (.func 30) #[] #[]] w fun e w'=>e=.returned (.bool (decide (T.map Na.bare=U.map Na.bare)))∧Old w w':=by
 have HA:=hid ha
 have HB:=hid hb
 obtain ⟨oa,ca,rfl,a1,a2,_⟩:=ha
 obtain ⟨ob,cb,rfl,b1,b2,_⟩:=hb
 obtain ⟨n,hn⟩:∃ n,n=T.length:=⟨_,rfl⟩
 obtain ⟨m,hm⟩:∃ m,m=U.length:=⟨_,rfl⟩
 rw [←hn] at HA hl a1 ⊢
 rw [←hm] at HB hl2 b1 ⊢
 have HN:=hid hn
 have HM:=hid hm
 have HF:=hid hf
 have HG:=hid hg
 unfold maxLen at a2 b2
 obtain ⟨B,hB⟩:∃ B,B=decide (T.map Na.bare=U.map Na.bare):=⟨_,rfl⟩
 rw [←hB]
 have HBB:=hid hB
 clear hB hf hg
 by_cases hnm:n=m
 ·subst hnm
  have HO:=hid (show Old w w∧∀ j,j<0→(T.map Na.bare)[j]?=(U.map Na.bare)[j]? from ⟨Old.refl w,fun j h=>by omega⟩)
  clear hn hm
  go_enter Tryz.func29,Tryz.ntmps29
  go_wp2
  go_loopw [17] (fun i wr=>∃ k:Nat,k≤n∧i=.int .i64 (k:Int)∧Hid (Old w wr∧∀ j,j<k→(T.map Na.bare)[j]?=(U.map Na.bare)[j]?)) (fun i _=>(n-RowKit.intOf i).toNat)
  case atStart=>exact ⟨0,Nat.zero_le _,rfl,HO⟩
  case round=>
   clear HO
   obtain ⟨k,hk,rfl,HO⟩:=hrel
   rcases Nat.lt_or_ge k n with hkn|hkn
   ·obtain ⟨x,hx⟩:∃ x,T[k]?=some x:=⟨_,List.getElem?_eq_getElem (by rw [←HN.out];exact hkn)⟩
    obtain ⟨y,hy⟩:∃ y,U[k]?=some y:=⟨_,List.getElem?_eq_getElem (by rw [←HM.out];exact hkn)⟩
    have HXY:=hid (And.intro hx hy)
    have hfx:=HF.out x (List.mem_iff_getElem?.2 ⟨k,hx⟩)
    have hgy:=HG.out y (List.mem_iff_getElem?.2 ⟨k,hy⟩)
    obtain ⟨oa',ca',e1,_,_,h4⟩:=HA.out.old HO.out.1
    injection e1 with e1 z1 z2
    clear z1 z2
    subst e1
    obtain ⟨ga,kva,rfl,lga,_,c0,c1,c2,c3,c4,c5,c6,c7,hka⟩:=h4 k x hx
    obtain ⟨ob',cb',e2,_,_,h5⟩:=HB.out.old HO.out.1
    injection e2 with e2 z1 z2
    clear z1 z2
    subst e2
    obtain ⟨gb,kvb,rfl,lgb,_,d0,d1,d2,d3,d4,d5,d6,d7,hkb⟩:=h5 k y hy
    obtain ⟨D,hD⟩:∃ D,D=decide (x.op=y.op∧x.vk=y.vk∧x.vn=y.vn∧x.vs=y.vs∧x.nm=y.nm∧x.ks=y.ks):=⟨_,rfl⟩
    have HD:=hid (show D=decide (x.bare=y.bare) from hD.trans (decide_eq_decide.2 na_bare.symm))
    obtain ⟨op,vk,vn,vs,nm,ks,l1,p1⟩:=x
    obtain ⟨op',vk',vn',vs',nm',ks',l2,p2⟩:=y
    simp only at c0 c1 c2 c3 c4 c5 c6 c7 d0 d1 d2 d3 d4 d5 d6 d7 hka hkb hfx hgy hD
    obtain ⟨oka,cka,rfl,_⟩:=id hka
    obtain ⟨okb,ckb,rfl,_⟩:=id hkb
    have HV:=hid (fun W (h:Old wr W)=>node_any (l1:=l1) (c1:=p1) (l2:=l2) (c2:=p2) (op:=op) (vk:=vk) (vn:=vn) (vs:=vs) (nm:=nm) (op':=op') (vk':=vk') (vn':=vn') (vs':=vs') (nm':=nm') W (hka.old h) (hkb.old h) hfx hgy)
    rw [←hD] at HV
    obtain ⟨K,hK⟩:∃ K,K=ks.length:=⟨_,rfl⟩
    obtain ⟨K2,hK2⟩:∃ K2,K2=ks'.length:=⟨_,rfl⟩
    rw [←hK] at HV c5
    rw [←hK2] at HV d5
    have na:wr.heap.size≠ga:=Nat.ne_of_gt lga
    have nb:wr.heap.size≠gb:=Nat.ne_of_gt lgb
    have na2:wr.heap.size+1≠ga:=by omega
    have nb2:wr.heap.size+1≠gb:=by omega
    have HO2:=hid (((Old.refl wr).alloc (.cells #[.int .u8 op,.int .u8 vk,.int .i64 vn,.string (st vs),.string (st nm),.slice oka K cka,.int .i64 l1,.int .i64 p1] 38)).alloc (.cells #[.int .u8 op',.int .u8 vk',.int .i64 vn',.string (st vs'),.string (st nm'),.slice okb K2 ckb,.int .i64 l2,.int .i64 p2] 38))
    have hO1:=(Old.refl wr).alloc (.cells #[.int .u8 op,.int .u8 vk,.int .i64 vn,.string (st vs),.string (st nm),.slice oka K cka,.int .i64 l1,.int .i64 p1] 38)
    replace d0:=hO1.c lgb d0
    replace d1:=hO1.c lgb d1
    replace d2:=hO1.c lgb d2
    replace d3:=hO1.c lgb d3
    replace d4:=hO1.c lgb d4
    replace d5:=hO1.c lgb d5
    replace d6:=hO1.c lgb d6
    replace d7:=hO1.c lgb d7
    clear hx hy h4 h5 lga lgb hka hkb hfx hgy hK hK2 hO1 hD
    cases D
    ·go_wp2_with (go_at_call 30;(with_reducible refine (HV.out _ HO2.out).mono ?_);rintro e w1 ⟨rfl,o1⟩;have HO3:=hid ((HO.out.1.trans HO2.out).trans o1);clear o1)
     go_ret
     have hBf:B=false:=HBB.out.trans (decide_eq_false (map_differ HXY.out.1 HXY.out.2 (of_decide_eq_false HD.out.symm)))
     rw [hBf]
     exact ⟨rfl,HO3.out⟩
    ·go_wp2_with (go_at_call 30;(with_reducible refine (HV.out _ HO2.out).mono ?_);rintro e w1 ⟨rfl,o1⟩;have HO3:=hid ((HO.out.1.trans HO2.out).trans o1);clear o1)
     refine ⟨⟨k+1,by omega,by simp,hid ⟨HO3.out,fun j hj=>?_⟩⟩,by simp only [RowKit.intOf];omega⟩
     rcases Nat.lt_or_ge j k with h|h
     ·exact HO.out.2 j h
     ·obtain rfl:j=k:=by omega
      rw [List.getElem?_map,List.getElem?_map,HXY.out.1,HXY.out.2]
      exact congrArg some (of_decide_eq_true HD.out.symm)
   ·obtain rfl:k=n:=by omega
    go_wp2
    go_ret
    have hBt:B=true:=HBB.out.trans (decide_eq_true (map_same HN.out HM.out HO.out.2))
    rw [hBt]
    exact ⟨rfl,HO.out.1⟩
 ·have enm:((n:Int)==(m:Int))=false:=beq_false_of_ne (by omega)
  have HF2:=hid (show B=false from HBB.out.trans (decide_eq_false fun e=>by
   have:=congrArg List.length e
   rw [List.length_map,List.length_map] at this
   exact hnm (hn.trans (this.trans hm.symm))))
  clear hn hm
  go_enter Tryz.func29,Tryz.ntmps29
  go_wp2
  go_ret
  rw [HF2.out]
  exact ⟨rfl,Old.refl w⟩
theorem esame_any (w:World) {T U:List Na} {va vb:Value} (ha:Tz w va T) (hb:Tz w vb U) (hl:T.length≤1000000) (hl2:U.length≤1000000) (hf:FewZ T) (hg:FewZ U):Calls Tryz.prog 12 #[va,vb] w fun e w'=>e=.returned (.bool (decide (T.map Na.bare=U.map Na.bare)))∧Old w w':=by
 have h:=eqf_any w ha hb hl hl2 hf hg
 obtain ⟨B,hB⟩:∃ B,B=decide (T.map Na.bare=U.map Na.bare):=⟨_,rfl⟩
 rw [←hB] at h ⊢
 clear ha hb hB
 go_enter Tryz.func12,Tryz.ntmps12
 go_wp2_with (go_at_call 29;refine h.mono ?_;rintro e w1 ⟨rfl,o1⟩;have O1:=hid o1;clear o1)
 go_ret
 exact ⟨rfl,O1.out⟩
end Go.Proofs.YtkellpcljiodeaaGreatDoor
