/- Layer lexer: two rows of words that are the same. -/
import Derived.Test.YtkellpcljiodeaaGreatDoorTV
namespace Go.Proofs.YtkellpcljiodeaaGreatDoor
open Go.ChangeShapes Go.WideShapes Go.ChangeAt Go.RowKit Go.Lib
set_option linter.unusedVariables false
set_option linter.unusedSimpArgs false
set_option maxRecDepth 100000
theorem row_cells {w:World} {base:Nat} {oa:Option Addr} {n cap:Nat} {cs:List Value} (h:w.ownsRow base 57 7 (.slice oa n cap) n cs) (hn:0<n):∃ g,oa=some ⟨g,0,none⟩∧g<w.heap.size∧n≤cap∧cap≤maxLen∧(∃ cur,w.heap[g]?=some (.cells cur 57 (0,0)))∧∀ j u,cs[j]?=some u→w.cell? ⟨g,j,none⟩=some u:=by
 obtain ⟨hl,h⟩:=h
 rcases h with ⟨h1,rfl⟩|⟨g,cap',cur,h1,hb,hg,hc,hm,hsz,ht⟩
 ·omega
 ·injection h1 with h1 h2 h3
  subst h1 h3
  refine ⟨g,rfl,blk_lt hg,hc,hm,⟨cur,hg⟩,fun j u hj=>?_⟩
  have hjl:j<cs.length:=(List.getElem?_eq_some_iff.1 hj).1
  rw [←ht,List.getElem?_take,if_pos (by omega),Array.getElem?_toList] at hj
  simp [World.cell?,hg,hj]
theorem tcells_at:∀ {l:List Tk} {i:Nat} {x:Tk},l[i]?=some x→(tcells l)[i*7]?=some (.int .u8 x.k)∧(tcells l)[i*7+1]?=some (.string (st x.t))∧(tcells l)[i*7+2]?=some (.int .u8 x.vk)∧(tcells l)[i*7+3]?=some (.int .i64 x.vn)∧(tcells l)[i*7+4]?=some (.string (st x.vs))∧(tcells l)[i*7+5]?=some (.int .i64 x.ln)∧(tcells l)[i*7+6]?=some (.int .i64 x.cl)
 | [],i,x,h=>by simp at h
 | y::l,0,x,h=>by cases h;exact ⟨rfl,rfl,rfl,rfl,rfl,rfl,rfl⟩
 | y::l,i+1,x,h=>by
   have ih:=tcells_at (l:=l) (i:=i) (x:=x) (by simpa using h)
   rw [show (i+1)*7=i*7+1+1+1+1+1+1+1 by omega]
   exact ih
def Rw (w:World) (v:Value) (A:List Tk):Prop:=
 ∃ oa cap,v=.slice oa A.length cap∧A.length≤cap∧cap≤maxLen∧∀ i x,A[i]?=some x→∃ g,oa=some ⟨g,0,none⟩∧g<w.heap.size∧w.heap[g]?.isSome=true∧w.cell? ⟨g,i*7,none⟩=some (.int .u8 x.k)∧w.cell? ⟨g,i*7+1,none⟩=some (.string (st x.t))∧w.cell? ⟨g,i*7+2,none⟩=some (.int .u8 x.vk)∧
   w.cell? ⟨g,i*7+3,none⟩=some (.int .i64 x.vn)∧w.cell? ⟨g,i*7+4,none⟩=some (.string (st x.vs))∧w.cell? ⟨g,i*7+5,none⟩=some (.int .i64 x.ln)∧w.cell? ⟨g,i*7+6,none⟩=some (.int .i64 x.cl)
theorem Rw.old {w w':World} {v:Value} {A:List Tk} (h:Rw w v A) (ho:Old w w'):Rw w' v A:=by
 obtain ⟨oa,cap,h1,h2,h3,h4⟩:=h
 refine ⟨oa,cap,h1,h2,h3,fun i x hx=>?_⟩
 obtain ⟨g,e,hg,hs,a0,a1,a2,a3,a4,a5,a6⟩:=h4 i x hx
 exact ⟨g,e,Nat.lt_of_lt_of_le hg ho.size,by rw [ho.block g hg];exact hs,(ho.cell hg).trans a0,(ho.cell hg).trans a1,(ho.cell hg).trans a2,(ho.cell hg).trans a3,(ho.cell hg).trans a4,(ho.cell hg).trans a5,(ho.cell hg).trans a6⟩
theorem Rw.of_row {w:World} {base:Nat} {oa:Option Addr} {cap:Nat} {A:List Tk} (h:w.ownsRow base 57 7 (.slice oa A.length cap) A.length (tcells A)):Rw w (.slice oa A.length cap) A:=by
 rcases Nat.eq_zero_or_pos A.length with h0|h0
 ·have hA:A=[]:=List.eq_nil_of_length_eq_zero h0
  subst hA
  refine ⟨oa,cap,rfl,Nat.zero_le _,?_,fun i x hx=>by simp at hx⟩
  rcases h.2 with ⟨h1,_⟩|⟨g,cap',cur,h1,_,_,_,hm,_⟩
  ·injection h1 with h1 h2 h3
   rw [h3]
   exact Nat.zero_le _
  ·injection h1 with h1 h2 h3
   rw [h3]
   exact hm
 ·obtain ⟨g,rfl,hg,h1,h2,⟨cur,hc⟩,h4⟩:=row_cells h h0
  refine ⟨_,cap,rfl,h1,h2,fun i x hx=>?_⟩
  obtain ⟨a0,a1,a2,a3,a4,a5,a6⟩:=tcells_at hx
  exact ⟨g,rfl,hg,by rw [hc];rfl,h4 _ _ a0,h4 _ _ a1,h4 _ _ a2,h4 _ _ a3,h4 _ _ a4,h4 _ _ a5,h4 _ _ a6⟩
end Go.Proofs.YtkellpcljiodeaaGreatDoor
