/- Layer expr: the reader's block; what its calls change; nodes as they lie. -/
import Derived.WalkLawsBesides
import Derived.Deep.RegionLaw
import Derived.Test.YtkellpcljiodeaaGreatDoorKA
import Derived.Test.YtkellpcljiodeaaGreatDoorTX
set_option maxHeartbeats 1600000
namespace Go.Proofs.YtkellpcljiodeaaGreatDoor
open Go.ChangeShapes Go.WideShapes Go.ChangeAt Go.RowKit Go.Lib
set_option linter.unusedVariables false
set_option linter.unusedSimpArgs false
set_option maxRecDepth 100000
abbrev fnB (f b:Nat):Value:=.func (.func f) #[.pointer (some ⟨b,0,none⟩)] #[]
def RdB (w:World) (b:Nat) (vw:Value) (n o:Int) (vt vm:Value):Prop:=
 w.heap[b]?=some (.cells #[vw,.int .i64 n,.int .i64 o,vt,fnB 56 b,fnB 57 b,fnB 58 b,fnB 59 b,fnB 60 b,fnB 61 b,fnB 62 b,fnB 63 b,vm] 81 (0,0))
section
variable {w w':World} {b:Nat} {vw vt vm:Value} {n o:Int}
theorem RdB.c (h:RdB w b vw n o vt vm) (k:Nat):w.cell? ⟨b,k,none⟩=#[vw,.int .i64 n,.int .i64 o,vt,fnB 56 b,fnB 57 b,fnB 58 b,fnB 59 b,fnB 60 b,fnB 61 b,fnB 62 b,fnB 63 b,vm][k]?:=by unfold RdB at h;simp [World.cell?,h]
theorem RdB.f (h:RdB w b vw n o vt vm) (k:Nat):w.frozen? ⟨b,k,none⟩=false:=by unfold RdB at h;simp [World.frozen?,h]
theorem RdB.lt (h:RdB w b vw n o vt vm):b<w.heap.size:=blk_lt h
theorem RdB.old (h:RdB w b vw n o vt vm) (ho:Old w w'):RdB w' b vw n o vt vm:=(ho.block b h.lt).trans h
theorem RdB.put (h:RdB w b vw n o vt vm) (k:Nat) (u:Value):(w.setCell ⟨b,k,none⟩ u).heap[b]?=some (.cells (#[vw,.int .i64 n,.int .i64 o,vt,fnB 56 b,fnB 57 b,fnB 58 b,fnB 59 b,fnB 60 b,fnB 61 b,fnB 62 b,fnB 63 b,vm].setIfInBounds k u) 81 (0,0)):=by
 have hlt:=h.lt
 unfold RdB at h
 show (w.heap.modify b _)[b]?=_
 rw [Array.getElem?_modify,if_pos rfl,h]
 simp
theorem RdB.set1 (h:RdB w b vw n o vt vm) (u:Int):RdB (w.setCell ⟨b,1,none⟩ (.int .i64 u)) b vw u o vt vm:=h.put 1 _
theorem RdB.set2 (h:RdB w b vw n o vt vm) (u:Int):RdB (w.setCell ⟨b,2,none⟩ (.int .i64 u)) b vw n u vt vm:=h.put 2 _
theorem RdB.set3 (h:RdB w b vw n o vt vm) (u:Value):RdB (w.setCell ⟨b,3,none⟩ u) b vw n o u vm:=h.put 3 _
theorem RdB.drewN (h:RdB w b vw n o vt vm) (k:Nat):RdB (w.drewN k) b vw n o vt vm:=h
theorem RdB.drew (h:RdB w b vw n o vt vm):RdB w.drew b vw n o vt vm:=h
theorem Chx.refl {S:Nat→Prop} (w:World):Chx S w w:=Chx.ofOld (Old.refl w)
end
structure Cg (N0 b:Nat) (w w':World):Prop where
 os:w'.os=w.os
 output:w'.output=w.output
 size:w.heap.size≤w'.heap.size
 block:∀ k,k<w.heap.size→k≠b→(N0≤k→∀ cs fr,w.heap[k]?≠some (.cells cs 38 fr))→w'.heap[k]?=w.heap[k]?
section
variable {N0 b:Nat} {w w':World}
theorem Cg.ofChx (h:Chx (·= b) w w'):Cg N0 b w w':=⟨h.os,h.output,h.size,fun k hk hb _=>h.block k hk hb⟩
theorem Cg.ofOld (h:Old w w'):Cg N0 b w w':=Cg.ofChx (Chx.ofOld h)
theorem Cg.refl (w:World):Cg N0 b w w:=Cg.ofOld (Old.refl w)
theorem Cg.trans {w'':World} (h:Cg N0 b w w') (k:Cg N0 b w' w''):Cg N0 b w w'':=
 ⟨k.os.trans h.os,k.output.trans h.output,Nat.le_trans h.size k.size,fun i hi hb hn=>
   have e:=h.block i hi hb hn
   (k.block i (Nat.lt_of_lt_of_le hi h.size) hb (fun h0 cs fr e'=>hn h0 cs fr (e.symm.trans e'))).trans e⟩
theorem Cg.old {a:World} (h:Cg N0 b w w') (ho:Old a w) (hn:a.heap.size≤N0) (hb:a.heap.size≤b):Old a w':=
 ⟨h.os.trans ho.os,h.output.trans ho.output,Nat.le_trans ho.size h.size,fun k hk=>(h.block k (Nat.lt_of_lt_of_le hk ho.size) (by omega) (by omega)).trans (ho.block k hk)⟩
theorem Cg.at {k:Nat} {ob:Obj} (h:Cg N0 b w w') (hk:w.heap[k]?=some ob) (hb:k≠b) (ht:∀ cs fr,ob≠.cells cs 38 fr):w'.heap[k]?=some ob:=
 (h.block k (blk_lt hk) hb (fun _ cs fr e=>ht cs fr (Option.some.inj (hk.symm.trans e)))).trans hk
theorem Cg.cells {k:Nat} {cs:Array Value} {t:TypeId} {fr:Nat × Nat} (h:Cg N0 b w w') (hk:w.heap[k]?=some (.cells cs t fr)) (hb:k≠b) (ht:t≠38):w'.heap[k]?=some (.cells cs t fr):=
 h.at hk hb (fun cs' fr' e=>by injection e with e1 e2 e3;exact ht e2)
theorem Cg.grown {v:Value} {size n:Nat} {cs:List Value} (h:w.grownBy w' v.ownBlock) (ho:w.ownsRow N0 38 size v n cs):Cg N0 b w w':=
 ⟨h.os,h.output,h.size,fun k hk hb hn=>h.block k hk (fun e=>by
   rcases ho.2 with ⟨rfl,_⟩|⟨g,cap,cur,rfl,h1,h2,_⟩
   ·simp [Value.ownBlock] at e
   ·have e1:k=g:=by simpa [Value.ownBlock] using e
    subst e1
    exact hn h1 _ _ h2)⟩
end
theorem RdB.ne {w:World} {b:Nat} {vw vt vm:Value} {n o:Int} (h:RdB w b vw n o vt vm) {k:Nat} {cs:Array Value} {t:TypeId} {fr:Nat × Nat} (hk:w.heap[k]?=some (.cells cs t fr)) (ht:t≠81):k≠b:=by
 rintro rfl
 unfold RdB at h
 rw [h] at hk
 injection hk with hk
 injection hk with e1 e2 e3
 exact ht e2.symm
theorem own_cg {w w':World} {N0 b base n size:Nat} {e:TypeId} {v:Value} {cs:List Value} {vw vt vm:Value} {i o:Int} (h:w.ownsRow base e size v n cs) (he:e≠38) (he2:e≠81) (hr:RdB w b vw i o vt vm) (c:Cg N0 b w w'):w'.ownsRow base e size v n cs:=by
 refine ⟨h.1,?_⟩
 rcases h.2 with h'|⟨g,cap,cur,rfl,hb',hg,hc⟩
 ·exact Or.inl h'
 ·exact Or.inr ⟨g,cap,cur,rfl,hb',c.cells hg (hr.ne hg he2) he,hc⟩
theorem own_chx {w w':World} {b base n size:Nat} {e:TypeId} {v:Value} {cs:List Value} {vw vt vm:Value} {i o:Int} (h:w.ownsRow base e size v n cs) (he2:e≠81) (hr:RdB w b vw i o vt vm) (c:Chx (·= b) w w'):w'.ownsRow base e size v n cs:=by
 refine ⟨h.1,?_⟩
 rcases h.2 with h'|⟨g,cap,cur,rfl,hb',hg,hc⟩
 ·exact Or.inl h'
 ·exact Or.inr ⟨g,cap,cur,rfl,hb',(c.block g (blk_lt hg) (hr.ne hg he2)).trans hg,hc⟩
def KR (w:World) (base:Nat) (v:Value) (ks:List Nat):Prop:=w.ownsRow base 3 1 v ks.length (ks.map fun k:Nat=>Value.int .i64 (k:Int))
theorem KR.nil (w:World) (base:Nat):KR w base (.slice none 0 0) []:=World.ownsRow_nil _ _ _ _
abbrev Nd.cells (x:Nd) (v:Value):List Value:=[.int .u8 x.op,.int .u8 x.vk,.int .i64 x.vn,.string (st x.vs),.string (st x.nm),v,.int .i64 x.ln,.int .i64 x.cl]
abbrev Nd.val (x:Nd) (v:Value):Value:=.agg #[.int .u8 x.op,.int .u8 x.vk,.int .i64 x.vn,.string (st x.vs),.string (st x.nm),v,.int .i64 x.ln,.int .i64 x.cl]
def ncells:List Nd→List Value→List Value
 | x::T,v::kvs=>x.cells v++ncells T kvs
 | _,_=>[]
theorem ncells_snoc (x:Nd) (v:Value):∀ (T:List Nd) (kvs:List Value),kvs.length=T.length→ncells (T++[x]) (kvs++[v])=ncells T kvs++x.cells v
 | [],[],_=>rfl
 | y::T,u::kvs,h=>by
   rw [List.cons_append,List.cons_append,ncells,ncells_snoc x v T kvs (by simpa using h),ncells,List.append_assoc]
 | [],_::_,h=>by cases h
 | _::_,[],h=>by cases h
def KS (S:Nat→Prop) (w:World) (base:Nat) (v:Value) (ks:List Nat):Prop:=KR w base v ks∧∀ g,v.ownBlock=some g→¬ S g
theorem KS.nil (S:Nat→Prop) (w:World) (base:Nat):KS S w base (.slice none 0 0) []:=⟨KR.nil w base,fun g e=>by simp [Value.ownBlock] at e⟩
def TreeR (S:Nat→Prop) (w:World) (base:Nat) (vt:Value) (T:List Nd):Prop:=
 ∃ kvs,kvs.length=T.length∧w.ownsRow base 38 8 vt T.length (ncells T kvs)∧∀ (i:Nat) (x:Nd) (v:Value),T[i]?=some x→kvs[i]?=some v→KS S w base v (x.ks.map (i-·))
theorem TreeR.chx {S:Nat→Prop} {w w':World} {b base:Nat} {v:Value} {T:List Nd} {vw vt vm:Value} {i o:Int} (h:TreeR S w base v T) (hr:RdB w b vw i o vt vm) (c:Chx (·= b) w w'):TreeR S w' base v T:=by
 obtain ⟨kvs,h1,h2,h3⟩:=h
 exact ⟨kvs,h1,own_chx h2 (by decide) hr c,fun i x v hx hv=>⟨own_chx (h3 i x v hx hv).1 (by decide) hr c,(h3 i x v hx hv).2⟩⟩
theorem TreeR.old {S:Nat→Prop} {w w':World} {base:Nat} {v:Value} {T:List Nd} (h:TreeR S w base v T) (ho:Old w w'):TreeR S w' base v T:=by
 obtain ⟨kvs,h1,h2,h3⟩:=h
 exact ⟨kvs,h1,own_old h2 ho,fun i x v hx hv=>⟨own_old (h3 i x v hx hv).1 ho,(h3 i x v hx hv).2⟩⟩
theorem TreeR.nil (S:Nat→Prop) (w:World) (base:Nat):TreeR S w base (.slice none 0 0) []:=⟨[],rfl,World.ownsRow_nil _ _ _ _,fun i x v h=>by simp at h⟩
def cents:List (List UInt8 × Nat × Nat × Nat)→Nat→List MapEntry
 | [],_=>[]
 | x::l,n=>⟨.string (st x.1),.agg #[.int .u8 x.2.1,.int .i64 x.2.2.1,.int .i64 x.2.2.2],n⟩::cents l (n+1)
def callT:List (List UInt8 × Nat × Nat × Nat):=[([97,98,115],18,1,1),([109,105,110],19,1,8),([109,97,120],20,1,8),([109,111,100],21,2,2),([108,101,110,103,116,104],22,1,1),([117,112,112,101,114],23,1,1),([99,111,110,116,97,105,110,115],24,2,2),([115,116,97,114,116,115],25,2,2),([105,102],26,3,3)]
def CMap (w:World) (vm:Value):Prop:=∃ B,vm=.map (some B)∧w.heap[B]?=some (.map (cents callT 0).toArray 9)
theorem CMap.old {w w':World} {vm:Value} (h:CMap w vm) (ho:Old w w'):CMap w' vm:=by
 obtain ⟨B,rfl,h⟩:=h
 exact ⟨B,rfl,(ho.block B (blk_lt h)).trans h⟩
theorem CMap.cg {w w':World} {N0 b:Nat} {vm vm':Value} {vw vt:Value} {i o:Int} (h:CMap w vm) (hr:RdB w b vw i o vt vm') (c:Cg N0 b w w'):CMap w' vm:=by
 obtain ⟨B,rfl,h⟩:=h
 refine ⟨B,rfl,c.at h (fun e=>?_) (fun _ _ e=>by cases e)⟩
 subst e
 unfold RdB at hr
 rw [hr] at h
 cases h
structure Wz extends World where
 S:Nat→Prop
instance:Coe Wz World:=⟨Wz.toWorld⟩
structure Ri (w0:Wz) (b:Nat) (vw vm vt:Value) (A:List Tk) (T:List Nd) (w:World):Prop where
 old:Old w0 w
 lo:w0.heap.size≤b
 sb:∀ k,w0.S k→k<w.heap.size
 words:Rw w0 vw A
 map:CMap w vm
 tree:TreeR w0.S w w0.heap.size vt T
structure Rr (w0:Wz) (b:Nat) (vw vm:Value) (A:List Tk) (T:List Nd) (n o:Nat) (vt:Value) (w:World):Prop where
 rd:RdB w b vw n o vt vm
 ri:Ri w0 b vw vm vt A T w
section
variable {w0:Wz} {w w':World} {b n o:Nat} {vw vm vt:Value} {A:List Tk} {T:List Nd}
theorem Rr.oldw (h:Rr w0 b vw vm A T n o vt w) (ho:Old w w'):Rr w0 b vw vm A T n o vt w':=⟨h.rd.old ho,h.ri.old.trans ho,h.ri.lo,fun k hk=>Nat.lt_of_lt_of_le (h.ri.sb k hk) ho.size,h.ri.words,h.ri.map.old ho,h.ri.tree.old ho⟩
theorem Rr.chx (h:Rr w0 b vw vm A T n o vt w) (c:Chx (·= b) w w') {n' o':Nat} (hr:RdB w' b vw n' o' vt vm):Rr w0 b vw vm A T n' o' vt w':=
 ⟨hr,c.old h.ri.old (fun k hk=>by have:=h.ri.lo;omega),h.ri.lo,fun k hk=>Nat.lt_of_lt_of_le (h.ri.sb k hk) c.size,h.ri.words,h.ri.map.cg h.rd (Cg.ofChx (N0:=0) c),h.ri.tree.chx h.rd c⟩
theorem Rr.wordsAt (h:Rr w0 b vw vm A T n o vt w):Rw w vw A:=h.ri.words.old h.ri.old
end
end Go.Proofs.YtkellpcljiodeaaGreatDoor
namespace Go.Proofs.YtkellpcljiodeaaGreatDoor
open Go.ChangeShapes Go.WideShapes Go.ChangeAt Go.RowKit Go.Lib
set_option linter.unusedVariables false
set_option linter.unusedSimpArgs false
set_option maxRecDepth 100000
theorem ret_tok1 {fn:Func} {p:Tmp} (hf:fn.results=#[.cell p 57]) (tmps:Array Value) (w:World) (g:Nat) {x0 x1 x2 x3 x4 x5 x6:Value} (hp:tmps.getD p undef=.pointer (some ⟨g,0,none⟩)) (hg:Sv w g x0 x1 x2 x3 x4 x5 x6) :
 (results fn tmps).run Tryz.prog w=.ok (.agg #[x0,x1,x2,x3,x4,x5,x6]) w:=by
 have hp':tmps[p]?.getD undef=.pointer (some ⟨g,0,none⟩):=by simpa using hp
 have r:=run_loadVar_row (P:=Tryz.prog) w g 57 57 #[x0,x1,x2,x3,x4,x5,x6] (0,0) _ hg Tryz.underlying57 rfl size33
 simp [results,hf,Sem.run_bind,Result.andThen,hp',asAddr,r]
theorem Old.c {w w':World} (ho:Old w w') {g o:Nat} {v:Value} (hg:g<w.heap.size) (c:w.cell? ⟨g,o,none⟩=some v):w'.cell? ⟨g,o,none⟩=some v:=(ho.cell (p:=⟨g,o,none⟩) hg).trans c
theorem next_any {w0:Wz} {w:World} {b n o:Nat} {vw vm vt:Value} {A:List Tk} {T:List Nd} (H:Rr w0 b vw vm A T n o vt w) (hn:n≤A.length) (hA:A.length≤200000) :
 Calls Tryz.prog 101 #[.pointer (some ⟨b,0,none⟩)] w fun e w'=>e=.returned (wordL (A.drop n)).v∧Old w w':=by
 obtain ⟨oa,cap,rfl,h1,h2,h3⟩:=H.wordsAt
 have hs:=sv0 w
 have ho:=(Old.refl w).alloc (.cells #[.int .u8 0,.string ⟨#[]⟩,.int .u8 0,.int .i64 0,.string ⟨#[]⟩,.int .i64 0,.int .i64 0] 57)
 have hr:=H.rd.old ho
 obtain ⟨N,hN⟩:∃ N,N=A.length:=⟨_,rfl⟩
 have HN:=hid hN
 rcases Nat.lt_or_ge n A.length with hlt|hge
 ·have hx:A[n]?=some A[n]:=List.getElem?_eq_getElem hlt
  have hd:wordL (A.drop n)=A[n]:=by rw [List.drop_eq_getElem_cons hlt];rfl
  rw [hd]
  obtain ⟨g,rfl,hg,_,c0,c1,c2,c3,c4,c5,c6⟩:=h3 n _ hx
  obtain ⟨x,hX⟩:∃ x,x=A[n]:=⟨_,rfl⟩
  rw [←hX] at c0 c1 c2 c3 c4 c5 c6 ⊢
  rw [←hN] at hlt h1 hr
  replace c0:=ho.c hg c0
  replace c1:=ho.c hg c1
  replace c2:=ho.c hg c2
  replace c3:=ho.c hg c3
  replace c4:=ho.c hg c4
  replace c5:=ho.c hg c5
  replace c6:=ho.c hg c6
  clear hX hx hd h3 hN
  go_enter Tryz.func101,Tryz.ntmps101
  go_wp2
  generalize w.alloc (.cells #[.int .u8 0,.string ⟨#[]⟩,.int .u8 0,.int .i64 0,.string ⟨#[]⟩,.int .i64 0,.int .i64 0] 57)=W at *
  have r0:=hr.c 0
  have r1:=hr.c 1
  have hs':=hid hs
  have ho':=hid ho
  go_quiet (fail)
  go_wp2
  have hr2:=hr.drewN nq
  have hs2:Sv (W.drewN nq) w.heap.size _ _ _ _ _ _ _:=hs
  have ho2:=ho.drewN nq
  have e0:(W.drewN nq).cell? ⟨g,n*7,none⟩=some (.int .u8 x.k):=c0
  have e1:(W.drewN nq).cell? ⟨g,n*7+1,none⟩=some (.string (st x.t)):=c1
  have e2:(W.drewN nq).cell? ⟨g,n*7+2,none⟩=some (.int .u8 x.vk):=c2
  have e3:(W.drewN nq).cell? ⟨g,n*7+3,none⟩=some (.int .i64 x.vn):=c3
  have e4:(W.drewN nq).cell? ⟨g,n*7+4,none⟩=some (.string (st x.vs)):=c4
  have e5:(W.drewN nq).cell? ⟨g,n*7+5,none⟩=some (.int .i64 x.ln):=c5
  have e6:(W.drewN nq).cell? ⟨g,n*7+6,none⟩=some (.int .i64 x.cl):=c6
  clear c0 c1 c2 c3 c4 c5 c6 r0 r1 hs' ho' hs hr ho
  generalize W.drewN nq=W2 at *
  have r0:=hr2.c 0
  have r1:=hr2.c 1
  have a0:=hs2.c 0
  have a1:=hs2.c 1
  have a2:=hs2.c 2
  have a3:=hs2.c 3
  have a4:=hs2.c 4
  have a5:=hs2.c 5
  have a6:=hs2.c 6
  have s0:=hs2.f 0
  have s1:=hs2.f 1
  have s2:=hs2.f 2
  have s3:=hs2.f 3
  have s4:=hs2.f 4
  have s5:=hs2.f 5
  have s6:=hs2.f 6
  have HS:=hid hs2
  have HO:=hid ho2
  clear hr2 hs2 ho2
  go_still_tail 10,(by kernel_rfl)
  change wpList _ _ _ _ _ (World.drew W2)
  go_wp2
  refine bodyPost_ret (ret_tok1 rfl _ _ w.heap.size rfl (Sv.drew (HS.out.poke _ _ _ _ _ _ _))) rfl ?_
  exact ⟨rfl,(old_poke7 HO.out (Nat.le_refl _) _ _ _ _ _ _ _).drew⟩
 ·have hd:A.drop n=[]:=List.drop_eq_nil_of_le hge
  rw [hd]
  have hnA:n=A.length:=Nat.le_antisymm hn hge
  rw [←hN] at hr hnA
  subst hnA
  clear h1 h2 h3 hge hd hn hN
  go_enter Tryz.func101,Tryz.ntmps101
  go_wp2
  generalize w.alloc (.cells #[.int .u8 0,.string ⟨#[]⟩,.int .u8 0,.int .i64 0,.string ⟨#[]⟩,.int .i64 0,.int .i64 0] 57)=W at *
  have r0:=hr.c 0
  have r1:=hr.c 1
  have HS:=hid hs
  have HO:=hid ho
  have a0:=hs.c 0
  have a1:=hs.c 1
  have a2:=hs.c 2
  have a3:=hs.c 3
  have a4:=hs.c 4
  have a5:=hs.c 5
  have a6:=hs.c 6
  have s0:=hs.f 0
  have s1:=hs.f 1
  have s2:=hs.f 2
  have s3:=hs.f 3
  have s4:=hs.f 4
  have s5:=hs.f 5
  have s6:=hs.f 6
  go_quiet (fail)
  go_wp2
  refine bodyPost_ret (ret_tok1 rfl _ _ w.heap.size rfl (Sv.poke (w:=World.drewN _ nq) HS.out _ _ _ _ _ _ _)) rfl ?_
  exact ⟨rfl,old_poke7 (HO.out.drewN _) (Nat.le_refl _) _ _ _ _ _ _ _⟩
end Go.Proofs.YtkellpcljiodeaaGreatDoor
namespace Go.Proofs.YtkellpcljiodeaaGreatDoor
open Go.ChangeShapes Go.WideShapes Go.ChangeAt Go.RowKit Go.Lib
set_option linter.unusedVariables false
set_option linter.unusedSimpArgs false
set_option maxRecDepth 100000
theorem st_beq (a b:List UInt8):(st a==st b)=(a==b):=by
 show (a.toArray==b.toArray)=(a==b)
 simp
theorem give_any (p:Value) (e:Int) (w:World):Calls Tryz.prog 107 #[p,.int .i64 e] w fun e' w'=>e'=.panicked [{ v:=.iface 27 (.int .i64 e),recovered:=false }]∧w'=w:=by
 go_enter Tryz.func107,Tryz.ntmps107
 go_wp2
 exact ⟨rfl,rfl,rfl⟩
theorem op_any (s:List UInt8) (w:World):Calls Tryz.prog 142 #[.string (st s)] w fun e w'=>e=.returned (.tuple #[.int .u8 ((inOp s).1:Nat),.int .i64 ((inOp s).2:Nat)])∧w'=w:=by
 by_cases h1:s=[111,114]
 ·subst h1
  go_enter Tryz.func142,Tryz.ntmps142
  go_wp2
  go_ret2
  exact ⟨rfl,rfl⟩
 have e1:(s==[111,114])=false:=beq_false_of_ne h1
 by_cases h2:s=[97,110,100]
 ·subst h2
  go_enter Tryz.func142,Tryz.ntmps142
  go_wp2
  go_ret2
  exact ⟨rfl,rfl⟩
 have e2:(s==[97,110,100])=false:=beq_false_of_ne h2
 by_cases h3:s=[61]
 ·subst h3
  go_enter Tryz.func142,Tryz.ntmps142
  go_wp2
  go_ret2
  exact ⟨rfl,rfl⟩
 have e3:(s==[61])=false:=beq_false_of_ne h3
 by_cases h4:s=[60,62]
 ·subst h4
  go_enter Tryz.func142,Tryz.ntmps142
  go_wp2
  go_ret2
  exact ⟨rfl,rfl⟩
 have e4:(s==[60,62])=false:=beq_false_of_ne h4
 by_cases h5:s=[60]
 ·subst h5
  go_enter Tryz.func142,Tryz.ntmps142
  go_wp2
  go_ret2
  exact ⟨rfl,rfl⟩
 have e5:(s==[60])=false:=beq_false_of_ne h5
 by_cases h6:s=[60,61]
 ·subst h6
  go_enter Tryz.func142,Tryz.ntmps142
  go_wp2
  go_ret2
  exact ⟨rfl,rfl⟩
 have e6:(s==[60,61])=false:=beq_false_of_ne h6
 by_cases h7:s=[62]
 ·subst h7
  go_enter Tryz.func142,Tryz.ntmps142
  go_wp2
  go_ret2
  exact ⟨rfl,rfl⟩
 have e7:(s==[62])=false:=beq_false_of_ne h7
 by_cases h8:s=[62,61]
 ·subst h8
  go_enter Tryz.func142,Tryz.ntmps142
  go_wp2
  go_ret2
  exact ⟨rfl,rfl⟩
 have e8:(s==[62,61])=false:=beq_false_of_ne h8
 by_cases h9:s=[43]
 ·subst h9
  go_enter Tryz.func142,Tryz.ntmps142
  go_wp2
  go_ret2
  exact ⟨rfl,rfl⟩
 have e9:(s==[43])=false:=beq_false_of_ne h9
 by_cases h10:s=[45]
 ·subst h10
  go_enter Tryz.func142,Tryz.ntmps142
  go_wp2
  go_ret2
  exact ⟨rfl,rfl⟩
 have e10:(s==[45])=false:=beq_false_of_ne h10
 by_cases h11:s=[42]
 ·subst h11
  go_enter Tryz.func142,Tryz.ntmps142
  go_wp2
  go_ret2
  exact ⟨rfl,rfl⟩
 have e11:(s==[42])=false:=beq_false_of_ne h11
 by_cases h12:s=[47]
 ·subst h12
  go_enter Tryz.func142,Tryz.ntmps142
  go_wp2
  go_ret2
  exact ⟨rfl,rfl⟩
 have e12:(s==[47])=false:=beq_false_of_ne h12
 have hz:inOp s=(0,0):=by
  unfold inOp
  rw [if_neg h1,if_neg h2,if_neg h3,if_neg h4,if_neg h5,if_neg h6,if_neg h7,if_neg h8,if_neg h9,if_neg h10,if_neg h11,if_neg h12]
 rw [hz]
 clear hz h1 h2 h3 h4 h5 h6 h7 h8 h9 h10 h11 h12
 go_enter Tryz.func142,Tryz.ntmps142
 go_wp2
 go_ret2
 exact ⟨rfl,rfl⟩
end Go.Proofs.YtkellpcljiodeaaGreatDoor
namespace Go.Proofs.YtkellpcljiodeaaGreatDoor
open Go.ChangeShapes Go.WideShapes Go.ChangeAt Go.RowKit Go.Lib
set_option linter.unusedVariables false
set_option linter.unusedSimpArgs false
set_option maxRecDepth 100000
theorem is_any {w0:Wz} {w:World} {b n o:Nat} {vw vm vt:Value} {A:List Tk} {T:List Nd} (H:Rr w0 b vw vm A T n o vt w) (hn:n≤A.length) (hA:A.length≤200000) (s:List UInt8) :
 Calls Tryz.prog 139 #[.pointer (some ⟨b,0,none⟩),.string (st s)] w fun e w'=>e=.returned (.bool (isL s (A.drop n)))∧Old w w':=by
 have hw:=next_any H hn hA
 unfold isL
 revert hw
 generalize wordL (A.drop n)=x
 intro hw
 obtain ⟨k,t,vk,vn,vs,ln,cl⟩:=x
 have hT:isT ⟨k,t,vk,vn,vs,ln,cl⟩ s=((decide (k=1)||decide (k=7))&&(t==s)):=rfl
 rw [hT]
 clear hT H
 by_cases k1:k=1
 ·subst k1
  go_enter Tryz.func139,Tryz.ntmps139
  go_wp2_with (go_at_call 101;refine hw.mono ?_;rintro e w1 ⟨rfl,o1⟩;have O1:=hid o1;clear o1)
  go_ret
  exact ⟨by simp,(O1.out.alloc _)⟩
 by_cases k7:k=7
 ·subst k7
  go_enter Tryz.func139,Tryz.ntmps139
  go_wp2_with (go_at_call 101;refine hw.mono ?_;rintro e w1 ⟨rfl,o1⟩;have O1:=hid o1;clear o1)
  go_ret
  exact ⟨by simp,(O1.out.alloc _)⟩
 ·go_enter Tryz.func139,Tryz.ntmps139
  go_wp2_with (go_at_call 101;refine hw.mono ?_;rintro e w1 ⟨rfl,o1⟩;have O1:=hid o1;clear o1)
  go_ret
  exact ⟨by simp [k1,k7],(O1.out.alloc _)⟩
theorem infix_any {w0:Wz} {w:World} {b n o:Nat} {vw vm vt:Value} {A:List Tk} {T:List Nd} (H:Rr w0 b vw vm A T n o vt w) (hn:n≤A.length) (hA:A.length≤200000) (L:Nat) :
 Calls Tryz.prog 99 #[.pointer (some ⟨b,0,none⟩),.int .i64 (L:Int)] w fun e w'=>e=.returned (.int .u8 (inL L (A.drop n):Nat))∧Old w w':=by
 have hw:=next_any H hn hA
 have hi:=fun s W (h:Old w W)=>is_any (H.oldw h) hn hA s
 unfold inL
 unfold isL at hi
 revert hw hi
 generalize wordL (A.drop n)=x
 intro hw hi
 have HI:=hid (hi x.t)
 obtain ⟨k,t,vk,vn,vs,ln,cl⟩:=x
 unfold inT
 have hop:=fun W=>op_any t W
 simp only at HI hop ⊢
 clear hi H
 by_cases hL:(inOp t).2=L
 ·subst hL
  cases hb:isT ⟨k,t,vk,vn,vs,ln,cl⟩ t
  ·rw [hb] at HI
   go_enter Tryz.func99,Tryz.ntmps99
   go_wp2_with (first
    | (go_at_call 101;refine hw.mono ?_;rintro e w1 ⟨rfl,o1⟩;have O1:=hid (o1.alloc (.cells #[.int .u8 k,.string (st t),.int .u8 vk,.int .i64 vn,.string (st vs),.int .i64 ln,.int .i64 cl] 57));clear o1)
    | (go_at_call 142;refine (hop _).mono ?_;rintro e w2 ⟨rfl,rfl⟩)
    | (go_at_call 139;refine (HI.out _ O1.out).mono ?_;rintro e w3 ⟨rfl,o3⟩;have O3:=hid (O1.out.trans o3);clear o3))
   go_ret
   exact ⟨by simp,O3.out⟩
  ·rw [hb] at HI
   go_enter Tryz.func99,Tryz.ntmps99
   go_wp2_with (first
    | (go_at_call 101;refine hw.mono ?_;rintro e w1 ⟨rfl,o1⟩;have O1:=hid (o1.alloc (.cells #[.int .u8 k,.string (st t),.int .u8 vk,.int .i64 vn,.string (st vs),.int .i64 ln,.int .i64 cl] 57));clear o1)
    | (go_at_call 142;refine (hop _).mono ?_;rintro e w2 ⟨rfl,rfl⟩)
    | (go_at_call 139;refine (HI.out _ O1.out).mono ?_;rintro e w3 ⟨rfl,o3⟩;have O3:=hid (O1.out.trans o3);clear o3))
   go_ret
   exact ⟨by simp,O3.out⟩
 ·have hL':¬ ((inOp t).2:Int)=(L:Int):=by omega
  go_enter Tryz.func99,Tryz.ntmps99
  go_wp2_with (first
   | (go_at_call 101;refine hw.mono ?_;rintro e w1 ⟨rfl,o1⟩;have O1:=hid (o1.alloc (.cells #[.int .u8 k,.string (st t),.int .u8 vk,.int .i64 vn,.string (st vs),.int .i64 ln,.int .i64 cl] 57));clear o1)
   | (go_at_call 142;refine (hop _).mono ?_;rintro e w2 ⟨rfl,rfl⟩))
  go_ret
  exact ⟨by simp [hL],O1.out⟩
theorem RdB.far {w:World} {b g:Nat} {vw vt vm:Value} {n o:Int} (h:RdB w b vw n o vt vm) (hg:g≠b) (k:Nat) (u:Value):RdB (w.setCell ⟨g,k,none⟩ u) b vw n o vt vm:=(far_heap hg).trans h
theorem RdB.poke {w:World} {b g:Nat} {vw vt vm:Value} {n o:Int} (h:RdB w b vw n o vt vm) (hg:g≠b) (y0 y1 y2 y3 y4 y5 y6:Value):RdB (poke7 w g y0 y1 y2 y3 y4 y5 y6) b vw n o vt vm:=
 ((((((h.far hg 0 y0).far hg 1 y1).far hg 2 y2).far hg 3 y3).far hg 4 y4).far hg 5 y5).far hg 6 y6
theorem take_any {w0:Wz} {w:World} {b n o:Nat} {vw vm vt:Value} {A:List Tk} {T:List Nd} (H:Rr w0 b vw vm A T n o vt w) (hn:n≤A.length) (hA:A.length≤200000) :
 Calls Tryz.prog 143 #[.pointer (some ⟨b,0,none⟩)] w fun e w'=>e=.returned (wordL (A.drop n)).v∧Chx (·= b) w w'∧RdB w' b vw ((n+1:Nat):Int) o vt vm:=by
 have ho:=(Old.refl w).alloc (.cells #[.int .u8 0,.string ⟨#[]⟩,.int .u8 0,.int .i64 0,.string ⟨#[]⟩,.int .i64 0,.int .i64 0] 57)
 have hw:=next_any (H.oldw ho) hn hA
 have HS:=hid (sv0 w)
 have HR:=hid (H.rd.old ho)
 have HO:=hid ho
 have hb:w.heap.size≠b:=Nat.ne_of_gt H.rd.lt
 revert hw
 generalize wordL (A.drop n)=x
 intro hw
 obtain ⟨k,t,vk,vn,vs,ln,cl⟩:=x
 clear ho H
 go_enter Tryz.func143,Tryz.ntmps143
 go_wp2_with (go_at_call 101;refine hw.mono ?_;rintro e w1 ⟨rfl,o1⟩;have hb1:w1.heap.size≠b:=Nat.ne_of_gt (HR.out.old o1).lt;have hb2:w1.heap.size≠w.heap.size:=Nat.ne_of_gt (HS.out.old o1).lt;replace HS:=hid ((HS.out.old o1).old ((Old.refl w1).alloc (.cells #[.int .u8 k,.string (st t),.int .u8 vk,.int .i64 vn,.string (st vs),.int .i64 ln,.int .i64 cl] 57)));replace HR:=hid ((HR.out.old o1).old ((Old.refl w1).alloc (.cells #[.int .u8 k,.string (st t),.int .u8 vk,.int .i64 vn,.string (st vs),.int .i64 ln,.int .i64 cl] 57)));have O1:=hid ((HO.out.trans o1).alloc (.cells #[.int .u8 k,.string (st t),.int .u8 vk,.int .i64 vn,.string (st vs),.int .i64 ln,.int .i64 cl] 57));have r1:=HR.out.c 1;have f1:=HR.out.f 1;have a0:=HS.out.c 0;have a1:=HS.out.c 1;have a2:=HS.out.c 2;have a3:=HS.out.c 3;have a4:=HS.out.c 4;have a5:=HS.out.c 5;have a6:=HS.out.c 6;have f0:=HS.out.f 0;have g1:=HS.out.f 1;have g2:=HS.out.f 2;have g3:=HS.out.f 3;have g4:=HS.out.f 4;have g5:=HS.out.f 5;have g6:=HS.out.f 6;clear o1)
 refine bodyPost_ret (ret_tok1 rfl _ _ w.heap.size rfl (Sv.poke (HS.out.far (Ne.symm hb) _) _ _ _ _ _ _ _)) rfl ?_
 exact ⟨rfl,Chx.poke7 ((Chx.ofOld O1.out).trans (Chx.ofSet _ ⟨b,1,none⟩ _)) (Nat.le_refl _) _ _ _ _ _ _ _,(HR.out.set1 _).poke hb _ _ _ _ _ _ _⟩
theorem Sv.chx {w w':World} {g b:Nat} {x0 x1 x2 x3 x4 x5 x6:Value} (h:Sv w g x0 x1 x2 x3 x4 x5 x6) (c:Chx (·= b) w w') (hg:g≠b):Sv w' g x0 x1 x2 x3 x4 x5 x6:=(c.block g h.lt hg).trans h
theorem enter_any {w0:Wz} {w:World} {b n o:Nat} {vw vm vt:Value} {A:List Tk} {T:List Nd} (H:Rr w0 b vw vm A T n o vt w) (hn:n≤A.length) (hA:A.length≤200000) (ho:o≤12) :
 Calls Tryz.prog 140 #[.pointer (some ⟨b,0,none⟩)] w fun e w'=>if o=12 then e=.panicked [{ v:=.iface 27 (.int .i64 12),recovered:=false }]∧Old w w'
  else e=.returned (wordL (A.drop n)).v∧Chx (·= b) w w'∧RdB w' b vw ((n+1:Nat):Int) ((o+1:Nat):Int) vt vm:=by
 have hO:=(Old.refl w).alloc (.cells #[.int .u8 0,.string ⟨#[]⟩,.int .u8 0,.int .i64 0,.string ⟨#[]⟩,.int .i64 0,.int .i64 0] 57)
 have HS:=hid (sv0 w)
 have hR:=H.oldw hO
 have hb:w.heap.size≠b:=Nat.ne_of_gt H.rd.lt
 by_cases h12:o=12
 ·subst h12
  have r2:=hR.rd.c 2
  have HO:=hid hO
  clear H hR hO
  go_enter Tryz.func140,Tryz.ntmps140
  go_wp2_with (go_at_call 107;refine (give_any _ _ _).mono ?_;rintro e w1 ⟨rfl,rfl⟩)
  exact ⟨rfl,rfl,HO.out⟩
 ·have r2:=hR.rd.c 2
  have f2:=hR.rd.f 2
  have hS:=hR.rd.set2 ((o+1:Nat):Int)
  have hC:Chx (·= b) (w.alloc (.cells #[.int .u8 0,.string ⟨#[]⟩,.int .u8 0,.int .i64 0,.string ⟨#[]⟩,.int .i64 0,.int .i64 0] 57)) _:=Chx.ofSet _ ⟨b,2,none⟩ (.int .i64 ((o+1:Nat):Int))
  have ht:=take_any (hR.chx hC hS) hn hA
  rw [show (((o+1:Nat):Nat):Int)=(o:Int)+1 by omega] at ht
  have hT:=hid ht
  replace HS:=hid (Sv.far HS.out (o:=2) (Ne.symm hb) (.int .i64 ((o+1:Nat):Int)))
  have HC:=hid ((Chx.ofOld (S:=(·= b)) hO).trans hC)
  clear H hR hO hS hC ht
  go_enter Tryz.func140,Tryz.ntmps140
  go_wp2_with (go_at_call 143;refine hT.out.mono ?_;rintro e w1 ⟨rfl,h2,h3⟩;replace HS:=hid (Sv.chx HS.out h2 hb);have H2:=hid (HC.out.trans h2);have H3:=hid h3;clear h2 h3;have a0:=HS.out.c 0;have a1:=HS.out.c 1;have a2:=HS.out.c 2;have a3:=HS.out.c 3;have a4:=HS.out.c 4;have a5:=HS.out.c 5;have a6:=HS.out.c 6;have f0:=HS.out.f 0;have f1:=HS.out.f 1;have f2:=HS.out.f 2;have f3:=HS.out.f 3;have f4:=HS.out.f 4;have f5:=HS.out.f 5;have f6:=HS.out.f 6)
  refine bodyPost_ret (ret_tok1 rfl _ _ w.heap.size rfl (Sv.poke HS.out _ _ _ _ _ _ _)) rfl ?_
  exact ⟨rfl,Chx.poke7 H2.out (Nat.le_refl _) _ _ _ _ _ _ _,H3.out.poke hb _ _ _ _ _ _ _⟩
end Go.Proofs.YtkellpcljiodeaaGreatDoor
namespace Go.Proofs.YtkellpcljiodeaaGreatDoor
open Go.ChangeShapes Go.WideShapes Go.ChangeAt Go.RowKit Go.Lib
set_option linter.unusedVariables false
set_option linter.unusedSimpArgs false
set_option maxRecDepth 100000
theorem step_appC {ops:Array Oper} {o:Oper} {a:Act} {K:Act→World→Prop} {Q:Exit→Act→World→Prop} {R:Prop} (W:World) (hgd:o.guard=none) (s x:Operand) (t:TypeId)
 (ho:o.op=.call { callee:=.builtin .append,args:=#[s,x],argTypes:=#[t,t] })
 (base:Nat) (e:TypeId) (i:TypeInfo) (z:Value) (size bytes:Nat) (ht:Tryz.prog.underlying t=some (.slice e)) (hi:Tryz.prog.info? e=some i) (hz:i.zero=some z)
 (hsize:i.size=size) (hby:i.bytes=bytes) (hzs:z.cells.size=size) (hsz:0<size)
 (v:Value) (n:Nat) (xs:List Value) (hs:a.eval s=v) (hown:W.ownsRow base e size v n xs)
 (vx:Value) (m:Nat) (cs:List Value) (hx:a.eval x=vx) (hr:CR W vx m size cs) (h1:∀ u∈cs,u.oneCell'=true) (hlen:(n+m)*bytes≤140737488355328) (hlen2:n+m≤maxLen) (hbase:base≤W.heap.size)
 (h:∀ v' w',w'.ownsRow base e size v' (n+m) (xs++cs)→W.grownBy w' v.ownBlock→K (a.put o.dst v') w') :
 if Region.wanted o (yielded ops a.tmps)=true then Oper.wp Tryz.prog o a W K Q else R:=by
 have hw:Region.wanted o (yielded ops a.tmps)=true:=by simp [Region.wanted,hgd]
 rw [if_pos hw]
 obtain ⟨v',w',hrun,h2,h3,h4⟩:=run_appC (P:=Tryz.prog) W base t o.type e i z size bytes ht hi hz hsize hby hzs hsz v n xs hown vx m cs hr h1 hlen hlen2 hbase
 unfold Oper.wp execOp
 simp only [ho,resolve,invoke,builtin,Sem.run_bind,Sem.run_pure,Result.andThen_ok,List.map_toArray,List.map_cons,List.map_nil,hs,hx,hrun]
 exact h v' w' h2 h3
abbrev ncl (op vk vn:Int) (vs nm:List UInt8) (kv:Value) (ln cl:Int):Array Value:=#[.int .u8 op,.int .u8 vk,.int .i64 vn,.string (st vs),.string (st nm),kv,.int .i64 ln,.int .i64 cl]
abbrev zeroN:Value:=.agg #[.int .u8 0,.int .u8 0,.int .i64 0,.string ⟨#[]⟩,.string ⟨#[]⟩,.slice none 0 0,.int .i64 0,.int .i64 0]
theorem info37:(Tryz.prog.info? 38).map (fun i=>(i.zero,i.size,i.bytes))=some (some zeroN,8,96):=by kernel_rfl
def Rok (w0:Wz) (b:Nat) (vw vm:Value) (A:List Tk) (T:List Nd) (n o:Nat) (w:World):Prop:=∃ vt,Rr w0 b vw vm A T n o vt w
theorem KR.shape {w:World} {base:Nat} {v:Value} {ks:List Nat} (h:KR w base v ks):v.oneCell'=true:=by
 obtain ⟨oa,cap,rfl⟩:=own_shape h
 rfl
theorem grown_at {W w':World} {base size n k:Nat} {v:Value} {cs:List Value} {ob:Obj} (hk:W.heap[k]?=some ob) (hg:W.grownBy w' v.ownBlock) (ho:W.ownsRow base 38 size v n cs) (ht:∀ cs fr,ob≠.cells cs 38 fr):w'.heap[k]?=some ob:=
 (hg.block k (blk_lt hk) (fun e=>by
   rcases ho.2 with ⟨rfl,_⟩|⟨g,cap,cur,rfl,h1,h2,_⟩
   ·simp [Value.ownBlock] at e
   ·have e1:k=g:=by simpa [Value.ownBlock] using e
    subst e1
    exact ht _ _ (Option.some.inj (hk.symm.trans h2)))).trans hk
theorem RdB.grown {W w':World} {base size k b:Nat} {v:Value} {cs:List Value} {vw vt vm:Value} {n o:Int} (h:RdB W b vw n o vt vm) (hg:W.grownBy w' v.ownBlock) (ho:W.ownsRow base 38 size v k cs):RdB w' b vw n o vt vm:=
 grown_at h hg ho (fun cs fr e=>by injection e with _ e2;cases e2)
theorem KR.grown {W w':World} {base base' size k:Nat} {v u:Value} {cs:List Value} {ks:List Nat} (h:KR W base' u ks) (hg:W.grownBy w' v.ownBlock) (ho:W.ownsRow base 38 size v k cs):KR w' base' u ks:=by
 refine ⟨h.1,?_⟩
 rcases h.2 with h'|⟨g,cap,cur,rfl,hb',hg',hc⟩
 ·exact Or.inl h'
 ·exact Or.inr ⟨g,cap,cur,rfl,hb',grown_at hg' hg ho (fun cs fr e=>by injection e with _ e2;cases e2),hc⟩
theorem add_done {w0:Wz} {w W w5:World} {b n o:Nat} {vw vm vt v5:Value} {A:List Tk} {T:List Nd} (H:Rr w0 b vw vm A T n o vt w) {kvs:List Value} (t1:kvs.length=T.length)
 (t3:∀ (i:Nat) (x:Nd) (v:Value),T[i]?=some x→kvs[i]?=some v→KS w0.S w w0.heap.size v (x.ks.map (i-·))) (x:Nd) (kv:Value) (hk:KS w0.S w w0.heap.size kv (x.ks.map (T.length-·)))
 {N:Nat} (hN:N=T.length) (ho:Old w W) (OWN:W.ownsRow w0.heap.size 38 8 vt N (ncells T kvs)) (hown:w5.ownsRow w0.heap.size 38 8 v5 (N+1) (ncells T kvs++x.cells kv)) (hgr:W.grownBy w5 vt.ownBlock) :
 Cg w0.heap.size b w (w5.setCell ⟨b,3,none⟩ v5)∧Rok w0 b vw vm A (T++[x]) n o (w5.setCell ⟨b,3,none⟩ v5):=by
 subst hN
 have hr5:=(H.rd.old ho).grown hgr OWN
 have cs:Chx (·= b) w5 (w5.setCell ⟨b,3,none⟩ v5):=Chx.ofSet w5 ⟨b,3,none⟩ v5
 have cg:Cg w0.heap.size b w (w5.setCell ⟨b,3,none⟩ v5):=((Cg.ofOld ho).trans (Cg.grown hgr OWN)).trans (Cg.ofChx cs)
 refine ⟨cg,v5,hr5.set3 _,cg.old H.ri.old (Nat.le_refl _) H.ri.lo,H.ri.lo,fun k hk=>Nat.lt_of_lt_of_le (H.ri.sb k hk) cg.size,H.ri.words,H.ri.map.cg H.rd cg,kvs++[kv],by simp [t1],?_,?_⟩
 ·rw [ncells_snoc x kv T kvs t1,List.length_append]
  exact own_chx hown (by decide) hr5 cs
 ·intro i y v hy hv
  have up:∀ {u ks},KS w0.S w w0.heap.size u ks→KS w0.S (w5.setCell ⟨b,3,none⟩ v5) w0.heap.size u ks:=fun h=>⟨own_chx (KR.grown (own_old h.1 ho) hgr OWN) (by decide) hr5 cs,h.2⟩
  rcases Nat.lt_or_ge i T.length with hlt|hge
  ·rw [List.getElem?_append_left hlt] at hy
   rw [List.getElem?_append_left (by omega)] at hv
   exact up (t3 i y v hy hv)
  ·rw [List.getElem?_append_right hge] at hy
   rw [List.getElem?_append_right (by omega)] at hv
   have hi:i-T.length=0:=by
    have:=(List.getElem?_eq_some_iff.1 hy).1
    simp at this
    omega
   have hi2:i-kvs.length=0:=by omega
   rw [hi] at hy
   rw [hi2] at hv
   simp only [List.getElem?_cons_zero,Option.some.injEq] at hy hv
   subst hy hv
   have:i=T.length:=by omega
   subst this
   exact up hk
theorem add_any {w0:Wz} {w:World} {b n o:Nat} {vw vm vt:Value} {A:List Tk} {T:List Nd} (H:Rr w0 b vw vm A T n o vt w) (x:Nd) (kv:Value) (hk:KS w0.S w w0.heap.size kv (x.ks.map (T.length-·))) (hT:T.length≤1000000) :
 Calls Tryz.prog 141 #[.pointer (some ⟨b,0,none⟩),x.val kv] w fun e w'=>e=.returned (.int .i64 (T.length:Int))∧Cg w0.heap.size b w w'∧Rok w0 b vw vm A (T++[x]) n o w':=by
 obtain ⟨op,vk,vn,vs,nm,ks,ln,cl⟩:=x
 obtain ⟨i,hi,hz,hsz,hby⟩:=info_parts info37
 obtain ⟨kvs,t1,t2,t3⟩:=H.ri.tree
 obtain ⟨oa,cap,rfl⟩:=own_shape t2
 have hks:=hk.1.shape
 have ho1:=(Old.refl w).alloc (.cells (ncl op vk vn vs nm kv ln cl) 38)
 have hr1:=H.rd.old ho1
 obtain ⟨N,hN⟩:∃ N,N=T.length:=⟨_,rfl⟩
 rw [←hN] at hr1 t2 hT H ⊢
 have d0:(w.alloc (.cells (ncl op vk vn vs nm kv ln cl) 38)).heap[w.heap.size]?=some (.cells (ncl op vk vn vs nm kv ln cl) 38 (0,0)):=(MapKept.heap_alloc w _).1
 have hown:=own_old t2 ho1
 go_enter Tryz.func141,Tryz.ntmps141
 go_wp2
 generalize hW1:w.alloc (.cells (ncl op vk vn vs nm kv ln cl) 38)=W at *
 have r3:=hr1.c 3
 have f3:=hr1.f 3
 have c0:W.cell? ⟨w.heap.size,0,none⟩=some (.int .u8 op):=by simp [World.cell?,d0]
 have c1:W.cell? ⟨w.heap.size,1,none⟩=some (.int .u8 vk):=by simp [World.cell?,d0]
 have c2:W.cell? ⟨w.heap.size,2,none⟩=some (.int .i64 vn):=by simp [World.cell?,d0]
 have c3:W.cell? ⟨w.heap.size,3,none⟩=some (.string (st vs)):=by simp [World.cell?,d0]
 have c4:W.cell? ⟨w.heap.size,4,none⟩=some (.string (st nm)):=by simp [World.cell?,d0]
 have c5:W.cell? ⟨w.heap.size,5,none⟩=some kv:=by simp [World.cell?,d0]
 have c6:W.cell? ⟨w.heap.size,6,none⟩=some (.int .i64 ln):=by simp [World.cell?,d0]
 have c7:W.cell? ⟨w.heap.size,7,none⟩=some (.int .i64 cl):=by simp [World.cell?,d0]
 have hlt:w.heap.size<W.heap.size:=blk_lt d0
 have n1:W.heap.size≠w.heap.size:=Nat.ne_of_gt hlt
 have n2:W.heap.size≠b:=Nat.ne_of_gt hr1.lt
 have ho2:=((Old.refl W).alloc (.cells (ncl op vk vn vs nm kv ln cl) 38)).drew
 have OWN:=hid (own_old hown ho2)
 have CR1:=hid (show CR ((W.alloc (.cells (ncl op vk vn vs nm kv ln cl) 38)).drew) (.slice (some ⟨W.heap.size,0,none⟩) 1 1) 1 8 (ncl op vk vn vs nm kv ln cl).toList from ⟨_,1,rfl,Nat.le_refl _,by unfold maxLen;omega,rfl,fun j u hj=>⟨W.heap.size,0,rfl,by simp,by
  have hh:((W.alloc (.cells (ncl op vk vn vs nm kv ln cl) 38)).drew).heap[W.heap.size]?=some (.cells (ncl op vk vn vs nm kv ln cl) 38 (0,0)):=(MapKept.heap_alloc W _).1
  rw [Nat.zero_add]
  rw [Array.getElem?_toList] at hj
  unfold World.cell?
  simp only [hh]
  exact hj⟩⟩)
 have ONE:=hid (show ∀ u∈(ncl op vk vn vs nm kv ln cl).toList,u.oneCell'=true from fun u hu=>by
  simp only [List.mem_cons,List.not_mem_nil,or_false] at hu
  rcases hu with rfl|rfl|rfl|rfl|rfl|rfl|rfl|rfl
  all_goals first|rfl|exact hks)
 have L1:=hid (show (N+1)*96≤140737488355328 by omega)
 have L2:=hid (show N+1≤maxLen by unfold maxLen;omega)
 have L3:=hid (show w0.heap.size≤((W.alloc (.cells (ncl op vk vn vs nm kv ln cl) 38)).drew).heap.size from Nat.le_trans (H.ri.old.trans ho1).size ho2.size)
 have HR:=hid (hr1.old ho2)
 have p3:=HR.out.c 3
 have p3':=(hr1.old ((Old.refl W).alloc (.cells (ncl op vk vn vs nm kv ln cl) 38))).c 3
 have HO:=hid (ho1.trans ho2)
 have HH:=hid H
 have HT:=hid t3
 have HN:=hid hN
 have HK:=hid hk
 have HL:=hid t1
 clear hW1 d0 hlt ho2 hown t1 t2 t3 H hk ho1 hr1 hN hks
 go_region_law (first
  | (refine step_appC _ rfl _ _ 24 rfl w0.heap.size 38 i _ 8 96 Tryz.underlying24 hi hz hsz hby rfl (Nat.zero_lt_succ 7) (.slice oa N cap) N (ncells T kvs) rfl OWN.out (.slice (some ⟨W.heap.size,0,none⟩) 1 1) 1 _ rfl CR1.out ONE.out L1.out L2.out L3.out ?_;intro v5 w5 hown hgr;have HR5:=hid (HR.out.grown hgr OWN.out);have HW:=hid hown;have HG:=hid hgr;clear hown hgr;have q3:=HR5.out.c 3;have g3:=HR5.out.f 3;obtain ⟨ob,cb,rfl⟩:=own_shape HW.out))
 all_goals
  have HF:=hid (add_done HH.out HL.out HT.out ⟨op,vk,vn,vs,nm,ks,ln,cl⟩ kv HK.out HN.out HO.out OWN.out HW.out HG.out)
  have z3:=(HR5.out.set3 (.slice ob (N+1) cb)).c 3
  clear p3 p3' q3 g3
  go_wp2
  go_ret
  exact ⟨by simp,HF.out.1,HF.out.2⟩
end Go.Proofs.YtkellpcljiodeaaGreatDoor
namespace Go.Proofs.YtkellpcljiodeaaGreatDoor
open Go.ChangeShapes Go.WideShapes Go.ChangeAt Go.RowKit Go.Lib
set_option linter.unusedVariables false
set_option linter.unusedSimpArgs false
set_option maxRecDepth 100000
abbrev pan (e:Int):Ending:=.panicked [{ v:=.iface 27 (.int .i64 e),recovered:=false }]
def Res (w0:Wz) (b:Nat) (vw vm:Value) (A:List Tk) (T:List Nd) (c o:Nat) (w:World) (x:Rz) (e:Ending) (w':World):Prop:=
 match x with
 | .out=>True
 | .ok ns r=>∃ n':Nat,r=A.drop n'∧n'≤A.length∧e=.returned (.int .i64 ((T.length+ns.length-1:Nat):Int))∧Cg w0.heap.size b w w'∧Rok w0 b vw vm A (T++ns) n' o w'∧1≤ns.length∧c+ns.length≤n'
 | .no er r=>∃ n':Nat,r=A.drop n'∧n'≤A.length∧e=pan er∧Cg w0.heap.size b w w'∧∃ (o':Nat) (vt:Value),RdB w' b vw (n':Int) (o':Int) vt vm
theorem leave_any {w0:Wz} {w:World} {b n o:Nat} {vw vm vt:Value} {A:List Tk} {T:List Nd} (H:Rr w0 b vw vm A T n o vt w) (hn:n≤A.length) (hA:A.length≤200000) (ho:1≤o) (ho2:o≤12) :
 Calls Tryz.prog 146 #[.pointer (some ⟨b,0,none⟩)] w fun e w'=>if isL [41] (A.drop n) then e=.returned (.tuple #[])∧Chx (·= b) w w'∧RdB w' b vw ((n+1:Nat):Int) ((o-1:Nat):Int) vt vm
  else e=pan 4∧Old w w':=by
 have hi:=is_any H hn hA [41]
 have HH:=hid H
 cases hb:isL [41] (A.drop n)
 ·rw [hb] at hi
  clear H
  go_enter Tryz.func146,Tryz.ntmps146
  go_wp2_with (first
   | (go_at_call 139;refine hi.mono ?_;rintro e w1 ⟨rfl,o1⟩;have O1:=hid o1;clear o1)
   | (go_at_call 107;refine (give_any _ _ _).mono ?_;rintro e w2 ⟨rfl,rfl⟩))
  exact ⟨rfl,rfl,O1.out⟩
 ·rw [hb] at hi
  have hO:((o-1:Nat):Int)=(o:Int)-1:=by omega
  clear H
  go_enter Tryz.func146,Tryz.ntmps146
  go_wp2_with (first
   | (go_at_call 139;refine hi.mono ?_;rintro e w1 ⟨rfl,o1⟩;have O1:=hid o1;clear o1)
   | (go_at_call 143;refine (take_any (HH.out.oldw O1.out) hn hA).mono ?_;rintro e w2 ⟨rfl,h2,h3⟩;have C2:=hid ((Chx.ofOld O1.out).trans h2);have H3:=hid h3;have r2:=h3.c 2;have f2:=h3.f 2;clear h2 h3))
  go_end0
  exact ⟨rfl,C2.out.trans (Chx.ofSet _ ⟨b,2,none⟩ _),H3.out.set2 _⟩
def Nv (w:World) (g:Nat) (cs:Array Value):Prop:=w.heap[g]?=some (.cells cs 38 (0,0))
theorem Nv.c {w:World} {g:Nat} {cs:Array Value} (h:Nv w g cs) (k:Nat):w.cell? ⟨g,k,none⟩=cs[k]?:=by unfold Nv at h;simp [World.cell?,h]
theorem Nv.f {w:World} {g:Nat} {cs:Array Value} (h:Nv w g cs) (k:Nat):w.frozen? ⟨g,k,none⟩=false:=by unfold Nv at h;simp [World.frozen?,h]
theorem fld_at (k xk xn ln cl:Int) (t xs:ByteArray) (W:World):(Instr.field 57 (.agg #[.int .u8 k,.string t,.int .u8 xk,.int .i64 xn,.string xs,.int .i64 ln,.int .i64 cl]) 3).run Tryz.prog W=.ok (.agg #[.int .i64 ln,.int .i64 cl]) W:=by kernel_rfl
theorem leaf_any {w0:Wz} {w:World} {b n o:Nat} {vw vm vt:Value} {A:List Tk} {T:List Nd} (H:Rr w0 b vw vm A T n o vt w) (hn:n<A.length) (hA:A.length≤200000) (hTn:T.length≤n) (op vk vn:Int) (vs nm:List UInt8) :
 Calls Tryz.prog 103 #[.pointer (some ⟨b,0,none⟩),.agg (ncl op vk vn vs nm (.slice none 0 0) 0 0)] w (Res w0 b vw vm A T n o w (.ok [⟨op,vk,vn,vs,nm,[],(wordL (A.drop n)).ln,(wordL (A.drop n)).cl⟩] (A.drop (n+1)))):=by
 have ho:=(Old.refl w).alloc (.cells (ncl op vk vn vs nm (.slice none 0 0) 0 0) 38)
 have ht:=take_any (H.oldw ho) (Nat.le_of_lt hn) hA
 have HN:=hid (show Nv (w.alloc (.cells (ncl op vk vn vs nm (.slice none 0 0) 0 0) 38)) w.heap.size _ from (MapKept.heap_alloc w _).1)
 have hb:w.heap.size≠b:=Nat.ne_of_gt H.rd.lt
 have HO:=hid (Chx.ofOld (S:=(·= b)) ho)
 have HH:=hid H
 revert ht
 generalize wordL (A.drop n)=x
 intro ht
 obtain ⟨k,t,xk,xn,xs,ln,cl⟩:=x
 simp only [Tk.v] at ht
 have hfl:=fld_at k xk xn ln cl (st t) (st xs)
 have HT:=hid (show T.length≤1000000 by omega)
 have HTn:=hid hTn
 have HL:=hid hn
 clear ho H hTn
 go_enter Tryz.func103,Tryz.ntmps103
 go_wp2_with (first
  | (go_at_call 143;refine ht.mono ?_;rintro e w1 ⟨rfl,h2,h3⟩;replace HN:=hid (show Nv w1 w.heap.size _ from (h2.block _ (blk_lt HN.out) hb).trans HN.out);have C2:=hid (HO.out.trans h2);have H3:=hid h3;clear h2 h3;have c0:=HN.out.c 0;have c1:=HN.out.c 1;have c2:=HN.out.c 2;have c3:=HN.out.c 3;have c4:=HN.out.c 4;have c5:=HN.out.c 5;have c6:=HN.out.c 6;have c7:=HN.out.c 7;have f6:=HN.out.f 6;have f7:=HN.out.f 7)
  | (go_at_call 141;refine (add_any (HH.out.chx ((C2.out.beyond (o:=6) (Nat.le_refl _) _).beyond (o:=7) (Nat.le_refl _) _) ((H3.out.far hb 6 _).far hb 7 _)) ⟨op,vk,vn,vs,nm,[],ln,cl⟩ (.slice none 0 0) (KS.nil _ _ _) HT.out).mono ?_;rintro e w4 ⟨rfl,hc,hr⟩;have HC:=hid ((Cg.ofChx ((C2.out.beyond (o:=6) (Nat.le_refl _) (.int .i64 ln)).beyond (o:=7) (Nat.le_refl _) (.int .i64 cl))).trans hc);have HR:=hid hr;clear hc hr))
 go_ret
 exact ⟨n+1,rfl,HL.out,rfl,HC.out,HR.out,Nat.le_refl _,by simp⟩
theorem Res.pre {w0:Wz} {w W w':World} {b c o:Nat} {vw vm:Value} {A:List Tk} {T:List Nd} {x:Rz} {e:Ending} (hc:Cg w0.heap.size b w W) (h:Res w0 b vw vm A T c o W x e w'):Res w0 b vw vm A T c o w x e w':=by
 cases x with
 | out=>trivial
 | ok ns r=>
   obtain ⟨n',h1,h2,h3,h4,h5⟩:=h
   exact ⟨n',h1,h2,h3,hc.trans h4,h5⟩
 | no er r=>
   obtain ⟨n',h1,h2,h3,h4,h5⟩:=h
   exact ⟨n',h1,h2,h3,hc.trans h4,h5⟩
theorem literal_any {w0:Wz} {w:World} {b n o:Nat} {vw vm vt:Value} {A:List Tk} {T:List Nd} (H:Rr w0 b vw vm A T n o vt w) (hn:n<A.length) (hA:A.length≤200000) (hTn:T.length≤n) (vk vn:Int) (vs:List UInt8) (hs:vs.length≤1000000) :
 Calls Tryz.prog 102 #[.pointer (some ⟨b,0,none⟩),.agg #[.int .u8 vk,.int .i64 vn,.string (st vs)]] w (Res w0 b vw vm A T n o w (.ok [ndLit vk vn vs (wordL (A.drop n))] (A.drop (n+1)))):=by
 have HS:=hid (Three.new w (.int .u8 vk) (.int .i64 vn) (.string (st vs)))
 have HO:=hid ((Old.refl w).alloc (.cells #[.int .u8 vk,.int .i64 vn,.string (st vs)] 35))
 have hcl:=fun W=>clone_any (st vs) W hs
 have hlf:=fun W (h:Old w W)=>leaf_any (H.oldw h) hn hA hTn 1 vk vn vs []
 have HLF:=hid hlf
 clear hlf
 go_enter Tryz.func102,Tryz.ntmps102
 go_wp2_with (first
  | (go_at_call 104;refine (hcl _).mono ?_;rintro e w1 ⟨rfl,o1⟩;replace HS:=hid (HS.out.old o1);have O1:=hid ((HO.out.trans o1).setCell (p:=⟨w.heap.size,2,none⟩) (Nat.le_refl _) (.string (st vs)));have c0:=HS.out.c0;have c1:=HS.out.c1;have c2:=HS.out.c2;have f2:=HS.out.f 2;clear o1)
  | (go_at_call 103;refine (HLF.out _ O1.out).mono ?_;intro e w4 h4;replace h4:=Res.pre (Cg.ofOld O1.out) h4;have H4:=hid h4;obtain ⟨m,hd,hm,rfl,h6⟩:=h4;clear hd hm h6))
 go_ret
 exact H4.out
end Go.Proofs.YtkellpcljiodeaaGreatDoor
