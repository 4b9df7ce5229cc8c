/- Layer lexer: two rows of words that are the same. Layer expr: the reader's block; what its calls change; nodes as they lie. an infix operator, and what stands behind it. comparisons; what stands ahead; levels by their methods. a call's expressions, as they are gathered. a new reader; an expression is read, or given up. a tree by its cells; four texts. -/
import Derived.WalkLawsBesides
import Derived.Deep.RegionLaw
import Derived.Deep.AppendLies
import Derived.Defers
import Derived.Recover
import Derived.Test.YtmkmafkkpigfpaaGreatDoorKA
namespace Go.Proofs.YtmkmafkkpigfpaaGreatDoor
open Go.ChangeShapes Go.WideShapes Go.ChangeAt Go.RowKit Go.Lib
set_option linter.unusedVariables false
set_option linter.unusedSimpArgs false
set_option maxRecDepth 100000
theorem row_cells {w:World} {base:Nat} {oa:Option Addr} {n cap:Nat} {cs:List Value} (h:w.ownsRow base 64 7 (.slice oa n cap) n cs) (hn:0<n):∃ g,oa=some ⟨g,0,none⟩∧g<w.heap.size∧n≤cap∧cap≤maxLen∧(∃ cur,w.heap[g]?=some (.cells cur 64 (0,0)))∧∀ j u,cs[j]?=some u→w.cell? ⟨g,j,none⟩=some u:=by
 obtain ⟨hl,h⟩:=h
 rcases h with ⟨h1,rfl⟩|⟨g,cap',cur,h1,hb,hg,hc,hm,hsz,ht⟩
 ·omega
 ·injection h1 with h1 h2 h3
  subst h1 h3
  refine ⟨g,rfl,blk_lt hg,hc,hm,⟨cur,hg⟩,fun j u hj=>?_⟩
  have hjl:j<cs.length:=(List.getElem?_eq_some_iff.1 hj).1
  rw [←ht,List.getElem?_take,if_pos (by omega),Array.getElem?_toList] at hj
  simp [World.cell?,hg,hj]
theorem tcells_at:∀ {l:List Tk} {i:Nat} {x:Tk},l[i]?=some x→(tcells l)[i*7]?=some (.int .u8 x.k)∧(tcells l)[i*7+1]?=some (.string (st x.t))∧(tcells l)[i*7+2]?=some (.int .u8 x.vk)∧(tcells l)[i*7+3]?=some (.int .i64 x.vn)∧(tcells l)[i*7+4]?=some (.string (st x.vs))∧(tcells l)[i*7+5]?=some (.int .i64 x.ln)∧(tcells l)[i*7+6]?=some (.int .i64 x.cl)
 | [],i,x,h=>by simp at h
 | y::l,0,x,h=>by cases h;exact ⟨rfl,rfl,rfl,rfl,rfl,rfl,rfl⟩
 | y::l,i+1,x,h=>by
   have ih:=tcells_at (l:=l) (i:=i) (x:=x) (by simpa using h)
   rw [show (i+1)*7=i*7+1+1+1+1+1+1+1 by omega]
   exact ih
def Rw (w:World) (v:Value) (A:List Tk):Prop:=
 ∃ oa cap,v=.slice oa A.length cap∧A.length≤cap∧cap≤maxLen∧∀ i x,A[i]?=some x→∃ g,oa=some ⟨g,0,none⟩∧g<w.heap.size∧w.heap[g]?.isSome=true∧w.cell? ⟨g,i*7,none⟩=some (.int .u8 x.k)∧w.cell? ⟨g,i*7+1,none⟩=some (.string (st x.t))∧w.cell? ⟨g,i*7+2,none⟩=some (.int .u8 x.vk)∧
   w.cell? ⟨g,i*7+3,none⟩=some (.int .i64 x.vn)∧w.cell? ⟨g,i*7+4,none⟩=some (.string (st x.vs))∧w.cell? ⟨g,i*7+5,none⟩=some (.int .i64 x.ln)∧w.cell? ⟨g,i*7+6,none⟩=some (.int .i64 x.cl)
theorem Rw.old {w w':World} {v:Value} {A:List Tk} (h:Rw w v A) (ho:Old w w'):Rw w' v A:=by
 obtain ⟨oa,cap,h1,h2,h3,h4⟩:=h
 refine ⟨oa,cap,h1,h2,h3,fun i x hx=>?_⟩
 obtain ⟨g,e,hg,hs,a0,a1,a2,a3,a4,a5,a6⟩:=h4 i x hx
 exact ⟨g,e,Nat.lt_of_lt_of_le hg ho.size,by rw [ho.block g hg];exact hs,(ho.cell hg).trans a0,(ho.cell hg).trans a1,(ho.cell hg).trans a2,(ho.cell hg).trans a3,(ho.cell hg).trans a4,(ho.cell hg).trans a5,(ho.cell hg).trans a6⟩
theorem Rw.of_row {w:World} {base:Nat} {oa:Option Addr} {cap:Nat} {A:List Tk} (h:w.ownsRow base 64 7 (.slice oa A.length cap) A.length (tcells A)):Rw w (.slice oa A.length cap) A:=by
 rcases Nat.eq_zero_or_pos A.length with h0|h0
 ·have hA:A=[]:=List.eq_nil_of_length_eq_zero h0
  subst hA
  refine ⟨oa,cap,rfl,Nat.zero_le _,?_,fun i x hx=>by simp at hx⟩
  rcases h.2 with ⟨h1,_⟩|⟨g,cap',cur,h1,_,_,_,hm,_⟩
  ·injection h1 with h1 h2 h3
   rw [h3]
   exact Nat.zero_le _
  ·injection h1 with h1 h2 h3
   rw [h3]
   exact hm
 ·obtain ⟨g,rfl,hg,h1,h2,⟨cur,hc⟩,h4⟩:=row_cells h h0
  refine ⟨_,cap,rfl,h1,h2,fun i x hx=>?_⟩
  obtain ⟨a0,a1,a2,a3,a4,a5,a6⟩:=tcells_at hx
  exact ⟨g,rfl,hg,by rw [hc];rfl,h4 _ _ a0,h4 _ _ a1,h4 _ _ a2,h4 _ _ a3,h4 _ _ a4,h4 _ _ a5,h4 _ _ a6⟩
section
variable {w w':World} {b:Nat} {vw vt vm:Value} {n o:Int}
theorem Chx.refl {S:Nat→Prop} (w:World):Chx S w w:=Chx.ofOld (Old.refl w)
end
section
variable {N0 b:Nat} {w w':World}
end
def KR (w:World) (base:Nat) (v:Value) (ks:List Nat):Prop:=w.ownsRow base 3 1 v ks.length (ks.map fun k:Nat=>Value.int .i64 (k:Int))
theorem KR.nil (w:World) (base:Nat):KR w base (.slice none 0 0) []:=World.ownsRow_nil _ _ _ _
abbrev Nd.cells (x:Nd) (v:Value):List Value:=[.int .u8 x.op,.int .u8 x.vk,.int .i64 x.vn,.string (st x.vs),.string (st x.nm),v,.int .i64 x.ln,.int .i64 x.cl]
abbrev Nd.val (x:Nd) (v:Value):Value:=.agg #[.int .u8 x.op,.int .u8 x.vk,.int .i64 x.vn,.string (st x.vs),.string (st x.nm),v,.int .i64 x.ln,.int .i64 x.cl]
def ncells:List Nd→List Value→List Value
 | x::T,v::kvs=>x.cells v++ncells T kvs
 | _,_=>[]
theorem ncells_snoc (x:Nd) (v:Value):∀ (T:List Nd) (kvs:List Value),kvs.length=T.length→ncells (T++[x]) (kvs++[v])=ncells T kvs++x.cells v
 | [],[],_=>rfl
 | y::T,u::kvs,h=>by
   rw [List.cons_append,List.cons_append,ncells,ncells_snoc x v T kvs (by simpa using h),ncells,List.append_assoc]
 | [],_::_,h=>by cases h
 | _::_,[],h=>by cases h
def KS (S:Nat→Prop) (w:World) (base:Nat) (v:Value) (ks:List Nat):Prop:=KR w base v ks∧∀ g,v.ownBlock=some g→¬ S g
theorem KS.nil (S:Nat→Prop) (w:World) (base:Nat):KS S w base (.slice none 0 0) []:=⟨KR.nil w base,fun g e=>by simp [Value.ownBlock] at e⟩
def TreeR (S:Nat→Prop) (w:World) (base:Nat) (vt:Value) (T:List Nd):Prop:=
 ∃ kvs,kvs.length=T.length∧w.ownsRow base 54 8 vt T.length (ncells T kvs)∧∀ (i:Nat) (x:Nd) (v:Value),T[i]?=some x→kvs[i]?=some v→KS S w base v (x.ks.map (i-·))
theorem TreeR.old {S:Nat→Prop} {w w':World} {base:Nat} {v:Value} {T:List Nd} (h:TreeR S w base v T) (ho:Old w w'):TreeR S w' base v T:=by
 obtain ⟨kvs,h1,h2,h3⟩:=h
 exact ⟨kvs,h1,own_old h2 ho,fun i x v hx hv=>⟨own_old (h3 i x v hx hv).1 ho,(h3 i x v hx hv).2⟩⟩
theorem TreeR.nil (S:Nat→Prop) (w:World) (base:Nat):TreeR S w base (.slice none 0 0) []:=⟨[],rfl,World.ownsRow_nil _ _ _ _,fun i x v h=>by simp at h⟩
structure Wz extends World where
 S:Nat→Prop
instance:Coe Wz World:=⟨Wz.toWorld⟩
section
variable {w0:Wz} {w w':World} {b n o:Nat} {vw vm vt:Value} {A:List Tk} {T:List Nd}
end
end Go.Proofs.YtmkmafkkpigfpaaGreatDoor
namespace Go.Proofs.YtmkmafkkpigfpaaGreatDoor
open Go.ChangeShapes Go.WideShapes Go.ChangeAt Go.RowKit Go.Lib
set_option linter.unusedVariables false
set_option linter.unusedSimpArgs false
set_option maxRecDepth 100000
theorem Old.c {w w':World} (ho:Old w w') {g o:Nat} {v:Value} (hg:g<w.heap.size) (c:w.cell? ⟨g,o,none⟩=some v):w'.cell? ⟨g,o,none⟩=some v:=(ho.cell (p:=⟨g,o,none⟩) hg).trans c
end Go.Proofs.YtmkmafkkpigfpaaGreatDoor
namespace Go.Proofs.YtmkmafkkpigfpaaGreatDoor
open Go.ChangeShapes Go.WideShapes Go.ChangeAt Go.RowKit Go.Lib
set_option linter.unusedVariables false
set_option linter.unusedSimpArgs false
set_option maxRecDepth 100000
theorem st_beq (a b:List UInt8):(st a==st b)=(a==b):=by
 show (a.toArray==b.toArray)=(a==b)
 simp
end Go.Proofs.YtmkmafkkpigfpaaGreatDoor
namespace Go.Proofs.YtmkmafkkpigfpaaGreatDoor
open Go.ChangeShapes Go.WideShapes Go.ChangeAt Go.RowKit Go.Lib
set_option linter.unusedVariables false
set_option linter.unusedSimpArgs false
set_option maxRecDepth 100000
theorem Sv.chx {w w':World} {g b:Nat} {x0 x1 x2 x3 x4 x5 x6:Value} (h:Sv w g x0 x1 x2 x3 x4 x5 x6) (c:Chx (·= b) w w') (hg:g≠b):Sv w' g x0 x1 x2 x3 x4 x5 x6:=(c.block g h.lt hg).trans h
end Go.Proofs.YtmkmafkkpigfpaaGreatDoor
namespace Go.Proofs.YtmkmafkkpigfpaaGreatDoor
open Go.ChangeShapes Go.WideShapes Go.ChangeAt Go.RowKit Go.Lib
set_option linter.unusedVariables false
set_option linter.unusedSimpArgs false
set_option maxRecDepth 100000
abbrev ncl (op vk vn:Int) (vs nm:List UInt8) (kv:Value) (ln cl:Int):Array Value:=#[.int .u8 op,.int .u8 vk,.int .i64 vn,.string (st vs),.string (st nm),kv,.int .i64 ln,.int .i64 cl]
abbrev zeroN:Value:=.agg #[.int .u8 0,.int .u8 0,.int .i64 0,.string ⟨#[]⟩,.string ⟨#[]⟩,.slice none 0 0,.int .i64 0,.int .i64 0]
theorem info37:(Tryz.prog.info? 54).map (fun i=>(i.zero,i.size,i.bytes))=some (some zeroN,8,96):=by kernel_rfl
theorem KR.shape {w:World} {base:Nat} {v:Value} {ks:List Nat} (h:KR w base v ks):v.oneCell'=true:=by
 obtain ⟨oa,cap,rfl⟩:=own_shape h
 rfl
theorem grown_at {W w':World} {base size n k:Nat} {v:Value} {cs:List Value} {ob:Obj} (hk:W.heap[k]?=some ob) (hg:W.grownBy w' v.ownBlock) (ho:W.ownsRow base 54 size v n cs) (ht:∀ cs fr,ob≠.cells cs 54 fr):w'.heap[k]?=some ob:=
 (hg.block k (blk_lt hk) (fun e=>by
   rcases ho.2 with ⟨rfl,_⟩|⟨g,cap,cur,rfl,h1,h2,_⟩
   ·simp [Value.ownBlock] at e
   ·have e1:k=g:=by simpa [Value.ownBlock] using e
    subst e1
    exact ht _ _ (Option.some.inj (hk.symm.trans h2)))).trans hk
theorem KR.grown {W w':World} {base base' size k:Nat} {v u:Value} {cs:List Value} {ks:List Nat} (h:KR W base' u ks) (hg:W.grownBy w' v.ownBlock) (ho:W.ownsRow base 54 size v k cs):KR w' base' u ks:=by
 refine ⟨h.1,?_⟩
 rcases h.2 with h'|⟨g,cap,cur,rfl,hb',hg',hc⟩
 ·exact Or.inl h'
 ·exact Or.inr ⟨g,cap,cur,rfl,hb',grown_at hg' hg ho (fun cs fr e=>by injection e with _ e2;cases e2),hc⟩
end Go.Proofs.YtmkmafkkpigfpaaGreatDoor
namespace Go.Proofs.YtmkmafkkpigfpaaGreatDoor
open Go.ChangeShapes Go.WideShapes Go.ChangeAt Go.RowKit Go.Lib
set_option linter.unusedVariables false
set_option linter.unusedSimpArgs false
set_option maxRecDepth 100000
def Nv (w:World) (g:Nat) (cs:Array Value):Prop:=w.heap[g]?=some (.cells cs 54 (0,0))
theorem Nv.c {w:World} {g:Nat} {cs:Array Value} (h:Nv w g cs) (k:Nat):w.cell? ⟨g,k,none⟩=cs[k]?:=by unfold Nv at h;simp [World.cell?,h]
theorem Nv.f {w:World} {g:Nat} {cs:Array Value} (h:Nv w g cs) (k:Nat):w.frozen? ⟨g,k,none⟩=false:=by unfold Nv at h;simp [World.frozen?,h]
theorem drop_tl (A:List Tk) (n:Nat):(A.drop n).tail=A.drop (n+1):=by rw [List.tail_drop]
theorem drop_lt {A:List Tk} {n:Nat} (h:A.drop n≠[]):n<A.length:=by
 rcases Nat.lt_or_ge n A.length with hlt|hge
 ·exact hlt
 ·exact absurd (List.drop_eq_nil_of_le hge) h
theorem kr_new {w:World} {base:Nat} (h:base≤w.heap.size) (hs:List Nat) (hm:hs.length≤1000) (cs:Array Value) (hc:cs.toList=hs.map fun k:Nat=>Value.int .i64 (k:Int)):KR (w.alloc (.cells cs 3)) base (.slice (some ⟨w.heap.size,0,none⟩) hs.length hs.length) hs:=by
 have hl:cs.size=hs.length:=by rw [←Array.length_toList,hc,List.length_map]
 refine ⟨by simp,Or.inr ⟨w.heap.size,hs.length,cs,rfl,h,(MapKept.heap_alloc w _).1,Nat.le_refl _,by unfold maxLen;omega,by omega,?_⟩⟩
 rw [hc,List.take_of_length_le (by simp)]
end Go.Proofs.YtmkmafkkpigfpaaGreatDoor
namespace Go.Proofs.YtmkmafkkpigfpaaGreatDoor
open Go.ChangeShapes Go.WideShapes Go.ChangeAt Go.RowKit Go.Lib
set_option linter.unusedVariables false
set_option linter.unusedSimpArgs false
set_option maxRecDepth 100000
section
variable {w0:Wz} {w:World} {b n c o:Nat} {vw vm vt:Value} {A:List Tk} {T:List Nd} {X:Rz}
end
end Go.Proofs.YtmkmafkkpigfpaaGreatDoor
namespace Go.Proofs.YtmkmafkkpigfpaaGreatDoor
open Go.ChangeShapes Go.WideShapes Go.ChangeAt Go.RowKit Go.Lib
set_option linter.unusedVariables false
set_option linter.unusedSimpArgs false
set_option maxRecDepth 100000
end Go.Proofs.YtmkmafkkpigfpaaGreatDoor
namespace Go.Proofs.YtmkmafkkpigfpaaGreatDoor
open Go.ChangeShapes Go.WideShapes Go.ChangeAt Go.RowKit Go.Lib
set_option linter.unusedVariables false
set_option linter.unusedSimpArgs false
set_option maxRecDepth 100000
end Go.Proofs.YtmkmafkkpigfpaaGreatDoor
namespace Go.Proofs.YtmkmafkkpigfpaaGreatDoor
open Go.ChangeShapes Go.WideShapes Go.ChangeAt Go.RowKit Go.Lib
set_option linter.unusedVariables false
set_option linter.unusedSimpArgs false
set_option maxRecDepth 100000
end Go.Proofs.YtmkmafkkpigfpaaGreatDoor
namespace Go.Proofs.YtmkmafkkpigfpaaGreatDoor
open Go.ChangeShapes Go.WideShapes Go.ChangeAt Go.RowKit Go.Lib
set_option linter.unusedVariables false
set_option linter.unusedSimpArgs false
set_option maxRecDepth 100000
abbrev wz (w0:Wz) (S:Nat→Prop):Wz:=⟨w0.toWorld,S⟩
theorem KS.weak {S S':Nat→Prop} {w:World} {base:Nat} {v:Value} {ks:List Nat} (h:KS S' w base v ks) (hs:∀ g,S g→S' g):KS S w base v ks:=⟨h.1,fun g e k=>h.2 g e (hs g k)⟩
theorem KR.lt {w:World} {base:Nat} {v:Value} {ks:List Nat} (h:KR w base v ks) {g:Nat} (e:v.ownBlock=some g):g<w.heap.size:=by
 rcases h.2 with ⟨rfl,_⟩|⟨g',cap,cur,rfl,h1,h2,_⟩
 ·simp [Value.ownBlock] at e
 ·have e1:g'=g:=by simpa [Value.ownBlock] using e
  subst e1
  exact blk_lt h2
theorem own_mono {w:World} {base base' size n:Nat} {e:TypeId} {v:Value} {cs:List Value} (h:w.ownsRow base e size v n cs) (hb:base'≤base):w.ownsRow base' e size v n cs:=by
 refine ⟨h.1,?_⟩
 rcases h.2 with h'|⟨g,cap,cur,rfl,hb',hg⟩
 ·exact Or.inl h'
 ·exact Or.inr ⟨g,cap,cur,rfl,Nat.le_trans hb hb',hg⟩
section
variable {w0:Wz} {S':Nat→Prop} {w:World} {b n o:Nat} {vw vm vt:Value} {A:List Tk} {T:List Nd}
end
abbrev kcs (T:List Nd) (ks:List Nat):List Value:=ks.map fun k=>Value.int .i64 ((T.length+k:Nat):Int)
section
variable {w0:Wz} {b n o F op lo hi gb gp G m g cap K:Nat} {vw vm vt:Value} {A:List Tk} {T ns:List Nd} {ks:List Nat} {X:Rz} {ln cl:Int} {w wr w1 w2 w3:World}
end
end Go.Proofs.YtmkmafkkpigfpaaGreatDoor
namespace Go.Proofs.YtmkmafkkpigfpaaGreatDoor
open Go.ChangeShapes Go.WideShapes Go.ChangeAt Go.RowKit Go.Lib
set_option linter.unusedVariables false
set_option linter.unusedSimpArgs false
set_option maxRecDepth 100000
theorem info3:(Tryz.prog.info? 3).map (fun i=>(i.zero,i.size,i.bytes))=some (some (.int .i64 0),1,8):=by kernel_rfl
section
variable {w0:Wz} {b n o F op lo hi gb gp G m g cap K R:Nat} {vw vm vt:Value} {A:List Tk} {T ns:List Nd} {ks:List Nat} {X:Rz} {ln cl:Int} {w w3:World}
end
end Go.Proofs.YtmkmafkkpigfpaaGreatDoor
namespace Go.Proofs.YtmkmafkkpigfpaaGreatDoor
open Go.ChangeShapes Go.WideShapes Go.ChangeAt Go.RowKit Go.Lib
set_option linter.unusedVariables false
set_option linter.unusedSimpArgs false
set_option maxRecDepth 100000
theorem kidN_le (op:Int):(kidN op).2≤8:=by
 unfold kidN
 repeat' split
 all_goals decide
end Go.Proofs.YtmkmafkkpigfpaaGreatDoor
namespace Go.Proofs.YtmkmafkkpigfpaaGreatDoor
open Go.ChangeShapes Go.WideShapes Go.ChangeAt Go.RowKit Go.Lib
set_option linter.unusedVariables false
set_option linter.unusedSimpArgs false
set_option maxRecDepth 100000
end Go.Proofs.YtmkmafkkpigfpaaGreatDoor
namespace Go.Proofs.YtmkmafkkpigfpaaGreatDoor
open Go.ChangeShapes Go.WideShapes Go.ChangeAt Go.RowKit Go.Lib
set_option linter.unusedVariables false
set_option linter.unusedSimpArgs false
set_option maxRecDepth 100000
theorem own_side {w w':World} {base size n g:Nat} {e t:TypeId} {v:Value} {cs:List Value} {cs':Array Value} {fr:Nat × Nat} (h:w.ownsRow base e size v n cs) (hg:w.heap[g]?=some (.cells cs' t fr)) (ht:e≠t) (c:Chx (·= g) w w'):w'.ownsRow base e size v n cs:=by
 refine ⟨h.1,?_⟩
 rcases h.2 with h'|⟨g',cap,cur,rfl,hb',hg',hc⟩
 ·exact Or.inl h'
 ·refine Or.inr ⟨g',cap,cur,rfl,hb',(c.block g' (blk_lt hg') (fun e2=>?_)).trans hg',hc⟩
  subst e2
  rw [hg] at hg'
  injection hg' with hg'
  injection hg' with _ h2
  exact ht h2.symm
end Go.Proofs.YtmkmafkkpigfpaaGreatDoor
namespace Go.Proofs.YtmkmafkkpigfpaaGreatDoor
open Go.ChangeShapes Go.WideShapes Go.ChangeAt Go.RowKit Go.Lib
set_option linter.unusedVariables false
set_option linter.unusedSimpArgs false
set_option maxRecDepth 100000
def Rz.fit:Rz→Prop
 | .no e _=>e=4∨e=12∨e=14
 | _=>True
theorem fit_bnd {x:Rz} {f:List Nd→List Tk→Rz} (h:x.fit) (hf:∀ ns r,(f ns r).fit):(x.bnd f).fit:=by
 cases x with
 | out=>trivial
 | no e r=>exact h
 | ok ns r=>exact hf ns r
theorem fit_ite {c:Prop} [Decidable c] {a b:Rz} (ha:a.fit) (hb:b.fit):(if c then a else b).fit:=by split<;>assumption
theorem fits:∀ F m o l,(P F m o l).fit
 | 0,m,o,l=>trivial
 | F+1,m,o,l=>by
   have ih:=fits F
   have f4:∀ r,(Rz.no 4 r).fit:=fun r=>Or.inl rfl
   have f12:∀ r,(Rz.no 12 r).fit:=fun r=>Or.inr (Or.inl rfl)
   have f14:∀ r,(Rz.no 14 r).fit:=fun r=>Or.inr (Or.inr rfl)
   have hp:∀ L ns o l,(pairP (P F) L ns o l).fit:=fun L ns o l=>fit_bnd (ih _ _ _) (fun _ _=>trivial)
   cases m with
   | lvl L=>
     rw [P_lvl]
     refine fit_ite ?_ (fit_ite ?_ (fit_ite ?_ (fit_bnd (ih _ _ _) (fun _ _=>ih _ _ _))))
     ·refine fit_ite trivial (fit_ite trivial (fit_ite trivial (fit_ite ?_ (fit_ite ?_ (f4 _)))))
      ·refine fit_ite trivial (fit_ite trivial (fit_ite trivial ?_))
       cases callL (wordL l).t with
       | none=>exact f4 _
       | some c=>exact fit_ite (f4 _) (fit_ite (f12 _) (fit_bnd (ih _ _ _) (fun _ _=>ih _ _ _)))
      ·exact fit_ite (f12 _) (fit_bnd (ih _ _ _) (fun _ _=>fit_ite trivial (f4 _)))
     ·exact fit_ite (ih _ _ _) (fit_ite (f12 _) (fit_bnd (ih _ _ _) (fun _ _=>trivial)))
     ·exact fit_bnd (ih _ _ _) (fun _ _=>fit_ite trivial (hp _ _ _ _))
   | tail L ns=>
     rw [P_tail]
     exact fit_ite trivial (fit_bnd (hp _ _ _ _) (fun _ _=>ih _ _ _))
   | args op lo hi ln cl ns ks=>
     rw [P_args]
     exact fit_ite (fit_ite (f14 _) (fit_bnd (ih _ _ _) (fun _ _=>ih _ _ _))) (fit_ite (f14 _) (fit_ite trivial (f4 _)))
theorem parseX_fit (l:List Tk):(parseX l).fit:=fits _ _ _ _
def Pz (w:World) (A:List Tk) (X:Rz) (e:Ending) (w':World):Prop:=
 match X with
 | .out=>True
 | .ok ns r=>∃ n':Nat,r=A.drop n'∧n'≤A.length∧if 60<ns.length then e=.returned (.tuple #[.slice none 0 0,.int .i64 0,.int .i64 7]) else ∃ vt,e=.returned (.tuple #[vt,.int .i64 (n':Int),.int .i64 0])∧TreeR (fun _=>False) w' w.heap.size vt ns
 | .no er r=>∃ n':Nat,r=A.drop n'∧n'≤A.length∧e=.returned (.tuple #[.slice none 0 0,.int .i64 (n':Int),.int .i64 er])
end Go.Proofs.YtmkmafkkpigfpaaGreatDoor
namespace Go.Proofs.YtmkmafkkpigfpaaGreatDoor
open Go.ChangeShapes Go.WideShapes Go.ChangeAt Go.RowKit Go.Lib
set_option linter.unusedVariables false
set_option linter.unusedSimpArgs false
set_option maxRecDepth 100000
def writtenL (x:Tk):Nat:=if x.k=2∨x.k=6 then 1+x.t.length else if x.k=3 then 1 else if x.k=5 then 2+x.t.length else x.t.length
theorem st_size (l:List UInt8):(st l).size=l.length:=by simp [ByteArray.size]
def behindL (A:List Tk):Int × Int:=if A.length=0 then (1,1) else ((wordL (A.drop (A.length-1))).ln,(wordL (A.drop (A.length-1))).cl+(writtenL (wordL (A.drop (A.length-1))):Nat))
def placeL (A:List Tk) (n:Nat):Int × Int:=if n<A.length then ((wordL (A.drop n)).ln,(wordL (A.drop n)).cl) else behindL A
end Go.Proofs.YtmkmafkkpigfpaaGreatDoor
namespace Go.Proofs.YtmkmafkkpigfpaaGreatDoor
open Go.ChangeShapes Go.WideShapes Go.ChangeAt Go.RowKit Go.Lib
set_option linter.unusedVariables false
set_option linter.unusedSimpArgs false
set_option maxRecDepth 100000
def readP (l:List UInt8):List Nd × Int × Int × Int:=
 if (lexR l).2.1≠0 then ([],(lexR l).2.2.1,(lexR l).2.2.2,(lexR l).2.1)
 else match parseX (lexR l).1 with
  | .out=>([],0,0,0)
  | .no e r=>([],(placeL (lexR l).1 ((lexR l).1.length-r.length)).1,(placeL (lexR l).1 ((lexR l).1.length-r.length)).2,e)
  | .ok ns r=>if 60<ns.length then ([],(placeL (lexR l).1 0).1,(placeL (lexR l).1 0).2,7)
    else if r≠[] then ([],(placeL (lexR l).1 ((lexR l).1.length-r.length)).1,(placeL (lexR l).1 ((lexR l).1.length-r.length)).2,4) else (ns,0,0,0)
def Rdt (w w':World) (R:List Nd × Int × Int × Int) (e:Ending):Prop:=∃ vt,e=.returned (.tuple #[vt,.agg #[.int .i64 R.2.1,.int .i64 R.2.2.1],.int .i64 R.2.2.2])∧TreeR (fun _=>False) w' w.heap.size vt R.1
theorem pl_set {w:World} {g:Nat} {a b:Int} (h:Pl w g a b) (p q:Int):Pl ((w.setCell ⟨g,0,none⟩ (.int .i64 p)).setCell ⟨g,1,none⟩ (.int .i64 q)) g p q:=by
 unfold Pl at h ⊢
 simp [World.setCell,Array.getElem?_modify,h]
theorem pl_far {w:World} {g g':Nat} {a b:Int} (h:Pl w g a b) (hne:g'≠g) (p q:Int):Pl ((w.setCell ⟨g',0,none⟩ (.int .i64 p)).setCell ⟨g',1,none⟩ (.int .i64 q)) g a b:=by
 unfold Pl at h ⊢
 simp [World.setCell,Array.getElem?_modify,hne,h]
theorem old_set {a w:World} {g:Nat} (h:Old a w) (hg:a.heap.size≤g) (p q:Int):Old a ((w.setCell ⟨g,0,none⟩ (.int .i64 p)).setCell ⟨g,1,none⟩ (.int .i64 q)):=
 (h.setCell (p:=⟨g,0,none⟩) hg (.int .i64 p)).setCell (p:=⟨g,1,none⟩) hg (.int .i64 q)
theorem TreeR.side {S:Nat→Prop} {w w':World} {base g:Nat} {v:Value} {T:List Nd} {cs':Array Value} {t:TypeId} {fr:Nat × Nat} (h:TreeR S w base v T) (hg:w.heap[g]?=some (.cells cs' t fr)) (h1:54≠t) (h2:3≠t) (c:Chx (·= g) w w'):TreeR S w' base v T:=by
 obtain ⟨kvs,t1,t2,t3⟩:=h
 exact ⟨kvs,t1,own_side t2 hg h1 c,fun i x v hx hv=>⟨own_side (t3 i x v hx hv).1 hg h2 c,(t3 i x v hx hv).2⟩⟩
section
variable {s:ByteArray} {w:World} {N n:Nat} {E ln cl p q:Int} {A:List Tk} {X:Value→World→Prop}
end
theorem TreeR.mono {S:Nat→Prop} {w:World} {base base':Nat} {v:Value} {T:List Nd} (h:TreeR S w base v T) (hb:base'≤base):TreeR S w base' v T:=by
 obtain ⟨kvs,h1,h2,h3⟩:=h
 exact ⟨kvs,h1,own_mono h2 hb,fun i x v hx hv=>⟨own_mono (h3 i x v hx hv).1 hb,(h3 i x v hx hv).2⟩⟩
theorem drop_len {A:List Tk} {n:Nat} (hn:n≤A.length):A.length-(A.drop n).length=n:=by rw [List.length_drop];omega
theorem row_any {w:World} {base size:Nat} {e:TypeId} {oa:Option Addr} {n cap:Nat} {cs:List Value} (h:w.ownsRow base e size (.slice oa n cap) n cs) (hn:0<n):∃ g,oa=some ⟨g,0,none⟩∧g<w.heap.size∧n≤cap∧cap≤maxLen∧(∃ cur,w.heap[g]?=some (.cells cur e (0,0)))∧∀ j u,cs[j]?=some u→w.cell? ⟨g,j,none⟩=some u:=by
 obtain ⟨hl,h⟩:=h
 rcases h with ⟨h1,rfl⟩|⟨g,cap',cur,h1,hb,hg,hc,hm,hsz,ht⟩
 ·omega
 ·injection h1 with h1 h2 h3
  subst h1 h3
  refine ⟨g,rfl,blk_lt hg,hc,hm,⟨cur,hg⟩,fun j u hj=>?_⟩
  have hjl:j<cs.length:=(List.getElem?_eq_some_iff.1 hj).1
  rw [←ht,List.getElem?_take,if_pos (by omega),Array.getElem?_toList] at hj
  simp [World.cell?,hg,hj]
def Kw (w:World) (v:Value) (ks:List Nat):Prop:=∃ oa cap,v=.slice oa ks.length cap∧ks.length≤cap∧cap≤maxLen∧∀ (j k:Nat),ks[j]?=some k→∃ g,oa=some ⟨g,0,none⟩∧g<w.heap.size∧w.heap[g]?.isSome=true∧w.cell? ⟨g,j,none⟩=some (.int .i64 (k:Int))
theorem Kw.old {w w':World} {v:Value} {ks:List Nat} (h:Kw w v ks) (ho:Old w w'):Kw w' v ks:=by
 obtain ⟨oa,cap,h1,h2,h3,h4⟩:=h
 refine ⟨oa,cap,h1,h2,h3,fun i x hx=>?_⟩
 obtain ⟨g,e,hg,hs,a0⟩:=h4 i x hx
 exact ⟨g,e,Nat.lt_of_lt_of_le hg ho.size,by rw [ho.block g hg];exact hs,(ho.cell hg).trans a0⟩
theorem row_bound {w:World} {base e size n cap:Nat} {oa:Option Addr} {cs:List Value} (h:w.ownsRow base e size (.slice oa n cap) n cs):n≤cap∧cap≤maxLen:=by
 rcases h.2 with ⟨h1,h2,_⟩|⟨g,cap',cur,h1,_,_,hc,hm,_⟩
 ·injection h1 with h1 h2' h3
  rw [h2',h3]
  exact ⟨Nat.le_refl _,Nat.zero_le _⟩
 ·injection h1 with h1 h2 h3
  rw [h3]
  exact ⟨hc,hm⟩
theorem KR.kw {w:World} {base:Nat} {v:Value} {ks:List Nat} (h:KR w base v ks):Kw w v ks:=by
 obtain ⟨oa,cap,rfl⟩:=own_shape h
 obtain ⟨hb1,hb2⟩:=row_bound h
 refine ⟨oa,cap,rfl,hb1,hb2,fun j k hj=>?_⟩
 have hlt:j<ks.length:=(List.getElem?_eq_some_iff.1 hj).1
 obtain ⟨g,rfl,hg,h1,h2,⟨cur,hc⟩,h4⟩:=row_any h (by omega)
 exact ⟨g,rfl,hg,by rw [hc];rfl,h4 _ _ (by rw [List.getElem?_map,hj];rfl)⟩
def Tw (w:World) (v:Value) (T:List Nd):Prop:=∃ oa cap,v=.slice oa T.length cap∧T.length≤cap∧cap≤maxLen∧∀ (i:Nat) (x:Nd),T[i]?=some x→∃ g kv,oa=some ⟨g,0,none⟩∧g<w.heap.size∧w.heap[g]?.isSome=true∧w.cell? ⟨g,i*8,none⟩=some (.int .u8 x.op)∧w.cell? ⟨g,i*8+1,none⟩=some (.int .u8 x.vk)∧w.cell? ⟨g,i*8+2,none⟩=some (.int .i64 x.vn)∧
    w.cell? ⟨g,i*8+3,none⟩=some (.string (st x.vs))∧w.cell? ⟨g,i*8+4,none⟩=some (.string (st x.nm))∧w.cell? ⟨g,i*8+5,none⟩=some kv∧w.cell? ⟨g,i*8+6,none⟩=some (.int .i64 x.ln)∧w.cell? ⟨g,i*8+7,none⟩=some (.int .i64 x.cl)∧Kw w kv (x.ks.map (i-·))
theorem Tw.old {w w':World} {v:Value} {T:List Nd} (h:Tw w v T) (ho:Old w w'):Tw w' v T:=by
 obtain ⟨oa,cap,h1,h2,h3,h4⟩:=h
 refine ⟨oa,cap,h1,h2,h3,fun i x hx=>?_⟩
 obtain ⟨g,kv,e,hg,hs,a0,a1,a2,a3,a4,a5,a6,a7,hk⟩:=h4 i x hx
 exact ⟨g,kv,e,Nat.lt_of_lt_of_le hg ho.size,by rw [ho.block g hg];exact hs,(ho.cell hg).trans a0,(ho.cell hg).trans a1,(ho.cell hg).trans a2,(ho.cell hg).trans a3,(ho.cell hg).trans a4,(ho.cell hg).trans a5,(ho.cell hg).trans a6,(ho.cell hg).trans a7,hk.old ho⟩
theorem ncells_at:∀ {T:List Nd} {kvs:List Value} {i:Nat} {x:Nd} {v:Value},T[i]?=some x→kvs[i]?=some v→∀ j,j<8→(ncells T kvs)[i*8+j]?=(x.cells v)[j]?
 | [],_,i,x,v,h,_,j,hj=>by simp at h
 | _::_,[],i,x,v,_,h,j,hj=>by simp at h
 | y::T,u::kvs,0,x,v,h,k,j,hj=>by
   simp only [List.getElem?_cons_zero,Option.some.injEq] at h k
   subst h k
   rw [ncells,Nat.zero_mul,Nat.zero_add,List.getElem?_append_left (by simpa using hj)]
 | y::T,u::kvs,i+1,x,v,h,k,j,hj=>by
   simp only [List.getElem?_cons_succ] at h k
   rw [ncells,List.getElem?_append_right (by simp;omega)]
   rw [←ncells_at h k j hj]
   congr 1
   simp
   omega
theorem TreeR.tw {S:Nat→Prop} {w:World} {base:Nat} {v:Value} {T:List Nd} (h:TreeR S w base v T):Tw w v T:=by
 obtain ⟨kvs,t1,t2,t3⟩:=h
 obtain ⟨oa,cap,rfl⟩:=own_shape t2
 obtain ⟨hb1,hb2⟩:=row_bound t2
 refine ⟨oa,cap,rfl,hb1,hb2,fun i x hx=>?_⟩
 have hlt:i<T.length:=(List.getElem?_eq_some_iff.1 hx).1
 have hv:kvs[i]?=some kvs[i]:=List.getElem?_eq_getElem (by omega)
 obtain ⟨g,rfl,hg,h1,h2,⟨cur,hc⟩,h4⟩:=row_any t2 (by omega)
 have hn:=fun j hj=>ncells_at hx hv j hj
 exact ⟨g,_,rfl,hg,by rw [hc];rfl,h4 _ _ (hn 0 (by omega)),h4 _ _ (hn 1 (by omega)),h4 _ _ (hn 2 (by omega)),h4 _ _ (hn 3 (by omega)),h4 _ _ (hn 4 (by omega)),h4 _ _ (hn 5 (by omega)),h4 _ _ (hn 6 (by omega)),h4 _ _ (hn 7 (by omega)),(t3 i x _ hx hv).1.kw⟩
end Go.Proofs.YtmkmafkkpigfpaaGreatDoor
namespace Go.Proofs.YtmkmafkkpigfpaaGreatDoor
open Go.ChangeShapes Go.WideShapes Go.ChangeAt Go.RowKit Go.Lib
set_option linter.unusedVariables false
set_option linter.unusedSimpArgs false
set_option maxRecDepth 100000
end Go.Proofs.YtmkmafkkpigfpaaGreatDoor
namespace Go.Proofs.YtmkmafkkpigfpaaGreatDoor
open Go.ChangeShapes Go.WideShapes Go.ChangeAt Go.RowKit Go.Lib
set_option linter.unusedVariables false
set_option linter.unusedSimpArgs false
set_option maxRecDepth 100000
end Go.Proofs.YtmkmafkkpigfpaaGreatDoor
