/- Layer lexer: what stands between words is passed over. a word in memory: seven cells; copies of texts. is a text a name. what a word means. what a word means, by its kind. the next word, with its place. a loop over words that are told one by one, till one is none. the words of a source, told one by one. -/
import Derived.TacticsInMore
import Derived.LoopNIn
import Derived.LoopIn
import Derived.OwnWalkIn
import Derived.Test.YtmkmafkkpigfpaaGreatDoorTF
namespace Go.Proofs.YtmkmafkkpigfpaaGreatDoor
open Go.ChangeShapes Go.WideShapes Go.ChangeAt Go.RowKit Go.Lib
set_option linter.unusedVariables false
set_option linter.unusedSimpArgs false
set_option maxRecDepth 100000
structure Chx (S:Nat→Prop) (w w':World):Prop where
 os:w'.os=w.os
 output:w'.output=w.output
 size:w.heap.size≤w'.heap.size
 block:∀ k,k<w.heap.size→¬ S k→w'.heap[k]?=w.heap[k]?
theorem Chx.ofOld {S:Nat→Prop} {w w':World} (h:Old w w'):Chx S w w':=⟨h.os,h.output,h.size,fun k hk _=>h.block k hk⟩
theorem Chx.trans {S:Nat→Prop} {a b c:World} (h:Chx S a b) (k:Chx S b c):Chx S a c:=
 ⟨k.os.trans h.os,k.output.trans h.output,Nat.le_trans h.size k.size,fun i hi hs=>(k.block i (Nat.lt_of_lt_of_le hi h.size) hs).trans (h.block i hi hs)⟩
theorem Chx.old {S:Nat→Prop} {a w w':World} (h:Chx S w w') (ho:Old a w) (hs:∀ k,S k→a.heap.size≤k):Old a w':=
 ⟨h.os.trans ho.os,h.output.trans ho.output,Nat.le_trans ho.size h.size,fun k hk=>(h.block k (Nat.lt_of_lt_of_le hk ho.size) (fun e=>by have:=hs k e;omega)).trans (ho.block k hk)⟩
theorem Chx.ofSet (w:World) (p:Addr) (u:Value):Chx (·= p.block) w (w.setCell p u):=
 ⟨rfl,rfl,by rw [World.setCell];simp,fun k hk hs=>by
   show (w.heap.modify p.block _)[k]?=_
   rw [Array.getElem?_modify,if_neg (fun e=>hs e.symm)]⟩
theorem Chx.drewN {S:Nat→Prop} {w w':World} (h:Chx S w w') (n:Nat):Chx S w (w'.drewN n):=⟨h.os,h.output,h.size,h.block⟩
theorem Chx.drew {S:Nat→Prop} {w w':World} (h:Chx S w w'):Chx S w w'.drew:=⟨h.os,h.output,h.size,h.block⟩
def nextOf (W:World) (b:Nat):Nat:=match W.cell? ⟨b,1,none⟩ with|some (.int _ n)=>n.toNat|_=>0
structure Tk where
 k:Int
 t:List UInt8
 vk:Int
 vn:Int
 vs:List UInt8
 ln:Int
 cl:Int
def Tk.cells (x:Tk):Array Value:=#[.int .u8 x.k,.string (st x.t),.int .u8 x.vk,.int .i64 x.vn,.string (st x.vs),.int .i64 x.ln,.int .i64 x.cl]
abbrev Tk.v (x:Tk):Value:=.agg #[.int .u8 x.k,.string (st x.t),.int .u8 x.vk,.int .i64 x.vn,.string (st x.vs),.int .i64 x.ln,.int .i64 x.cl]
def Tk.zero:Tk:=⟨0,[],0,0,[],0,0⟩
abbrev zeroV:Value:=.agg #[.int .u8 0,.string ⟨#[]⟩,.int .u8 0,.int .i64 0,.string ⟨#[]⟩,.int .i64 0,.int .i64 0]
def Sv (w:World) (b:Nat) (x0 x1 x2 x3 x4 x5 x6:Value):Prop:=w.heap[b]?=some (.cells #[x0,x1,x2,x3,x4,x5,x6] 64 (0,0))
section
variable {w w':World} {b:Nat} {x0 x1 x2 x3 x4 x5 x6:Value}
theorem Sv.c (h:Sv w b x0 x1 x2 x3 x4 x5 x6) (o:Nat):w.cell? ⟨b,o,none⟩=#[x0,x1,x2,x3,x4,x5,x6][o]?:=by unfold Sv at h;simp [World.cell?,h]
theorem Sv.f (h:Sv w b x0 x1 x2 x3 x4 x5 x6) (o:Nat):w.frozen? ⟨b,o,none⟩=false:=by unfold Sv at h;simp [World.frozen?,h]
theorem Sv.lt (h:Sv w b x0 x1 x2 x3 x4 x5 x6):b<w.heap.size:=blk_lt h
theorem Sv.old (h:Sv w b x0 x1 x2 x3 x4 x5 x6) (ho:Old w w'):Sv w' b x0 x1 x2 x3 x4 x5 x6:=(ho.block b h.lt).trans h
theorem Sv.new (w:World):Sv (w.alloc (.cells #[x0,x1,x2,x3,x4,x5,x6] 64)) w.heap.size x0 x1 x2 x3 x4 x5 x6:=(MapKept.heap_alloc w _).1
theorem Sv.put (h:Sv w b x0 x1 x2 x3 x4 x5 x6) (o:Nat) (u:Value):(w.setCell ⟨b,o,none⟩ u).heap[b]?=some (.cells (#[x0,x1,x2,x3,x4,x5,x6].setIfInBounds o u) 64 (0,0)):=by
 have hlt:=h.lt
 unfold Sv at h
 show (w.heap.modify b _)[b]?=_
 rw [Array.getElem?_modify,if_pos rfl,h]
 simp
theorem Sv.set0 (h:Sv w b x0 x1 x2 x3 x4 x5 x6) (u:Value):Sv (w.setCell ⟨b,0,none⟩ u) b u x1 x2 x3 x4 x5 x6:=h.put 0 u
theorem Sv.set1 (h:Sv w b x0 x1 x2 x3 x4 x5 x6) (u:Value):Sv (w.setCell ⟨b,1,none⟩ u) b x0 u x2 x3 x4 x5 x6:=h.put 1 u
theorem Sv.set2 (h:Sv w b x0 x1 x2 x3 x4 x5 x6) (u:Value):Sv (w.setCell ⟨b,2,none⟩ u) b x0 x1 u x3 x4 x5 x6:=h.put 2 u
theorem Sv.set3 (h:Sv w b x0 x1 x2 x3 x4 x5 x6) (u:Value):Sv (w.setCell ⟨b,3,none⟩ u) b x0 x1 x2 u x4 x5 x6:=h.put 3 u
theorem Sv.set4 (h:Sv w b x0 x1 x2 x3 x4 x5 x6) (u:Value):Sv (w.setCell ⟨b,4,none⟩ u) b x0 x1 x2 x3 u x5 x6:=h.put 4 u
theorem Sv.set5 (h:Sv w b x0 x1 x2 x3 x4 x5 x6) (u:Value):Sv (w.setCell ⟨b,5,none⟩ u) b x0 x1 x2 x3 x4 u x6:=h.put 5 u
theorem Sv.set6 (h:Sv w b x0 x1 x2 x3 x4 x5 x6) (u:Value):Sv (w.setCell ⟨b,6,none⟩ u) b x0 x1 x2 x3 x4 x5 u:=h.put 6 u
end
abbrev poke7 (w:World) (b:Nat) (y0 y1 y2 y3 y4 y5 y6:Value):World:=
 ((((((w.setCell ⟨b,0,none⟩ y0).setCell ⟨b,1,none⟩ y1).setCell ⟨b,2,none⟩ y2).setCell ⟨b,3,none⟩ y3).setCell ⟨b,4,none⟩ y4).setCell ⟨b,5,none⟩ y5).setCell ⟨b,6,none⟩ y6
theorem Sv.poke {w:World} {b:Nat} {x0 x1 x2 x3 x4 x5 x6:Value} (h:Sv w b x0 x1 x2 x3 x4 x5 x6) (y0 y1 y2 y3 y4 y5 y6:Value):Sv (poke7 w b y0 y1 y2 y3 y4 y5 y6) b y0 y1 y2 y3 y4 y5 y6:=
 ((((((h.set0 y0).set1 y1).set2 y2).set3 y3).set4 y4).set5 y5).set6 y6
theorem old_poke7 {a w:World} {b:Nat} (h:Old a w) (hb:a.heap.size≤b) (y0 y1 y2 y3 y4 y5 y6:Value):Old a (poke7 w b y0 y1 y2 y3 y4 y5 y6):=
 ((((((h.setCell (p:=⟨b,0,none⟩) hb y0).setCell (p:=⟨b,1,none⟩) hb y1).setCell (p:=⟨b,2,none⟩) hb y2).setCell (p:=⟨b,3,none⟩) hb y3).setCell (p:=⟨b,4,none⟩) hb y4).setCell (p:=⟨b,5,none⟩) hb y5).setCell (p:=⟨b,6,none⟩) hb y6
theorem size33:(Tryz.prog.info? 64).map (·.size)=some 7:=by kernel_rfl
theorem sv0 (w:World):Sv (w.alloc (.cells #[.int .u8 0,.string ⟨#[]⟩,.int .u8 0,.int .i64 0,.string ⟨#[]⟩,.int .i64 0,.int .i64 0] 64)) w.heap.size (.int .u8 0) (.string ⟨#[]⟩) (.int .u8 0) (.int .i64 0) (.string ⟨#[]⟩) (.int .i64 0) (.int .i64 0):=Sv.new w
theorem ba_list (s:ByteArray):s.toList=s.data.toList:=ByteArray.toList_eq s
def namedL (k:Int) (l:List UInt8):Tk × Int:=if isName l then (⟨k,l,0,0,[],0,0⟩,0) else (Tk.zero,4)
def valuedL (k:Int) (l:List UInt8):Tk × Int:=
 if (parseL l).e=9 then (Tk.zero,9) else if (parseL l).e≠0 then (Tk.zero,4)
 else (⟨k,if k=5 then l.tail.take (l.length-2) else l,(parseL l).k,(parseL l).n,(parseL l).s,0,0⟩,0)
def meanL (k:Nat) (l:List UInt8):Tk × Int:=
 if k=1 then namedL 1 l else if k=2 then namedL 2 l.tail
 else if k=6 then (if (namedL 6 l.tail).2=0 then ({ (namedL 6 l.tail).1 with vk:=5,vs:=l.tail },0) else namedL 6 l.tail)
 else if k=4 then valuedL 4 l else if k=5 then valuedL 5 l
 else if k=3 then (⟨3,[],0,0,[],0,0⟩,0) else if k=7 then (⟨7,l,0,0,[],0,0⟩,0) else (Tk.zero,4)
theorem Sv.drew {w:World} {b:Nat} {x0 x1 x2 x3 x4 x5 x6:Value} (h:Sv w b x0 x1 x2 x3 x4 x5 x6):Sv w.drew b x0 x1 x2 x3 x4 x5 x6:=h
theorem cell_far7 {w:World} {b g o:Nat} (h:g≠b) (y0 y1 y2 y3 y4 y5 y6:Value):(poke7 w b y0 y1 y2 y3 y4 y5 y6).cell? ⟨g,o,none⟩=w.cell? ⟨g,o,none⟩:=by
 refine World.cell?_of_block ?_
 simp only [World.setCell]
 simp [Array.getElem?_modify,Ne.symm h]
theorem kindL_le (l:List UInt8):kindL l≤7:=by
 cases l with
 | nil=>exact Nat.zero_le _
 | cons c r=>
   rw [show kindL (c::r)=if sm c then 1 else if dgc c then 4 else if c=34 then 5 else if c=35 then 6
    else if c=63 then (if hd sm r then 2 else 3) else if sgn c||pair (c::r) then 7 else 0 from rfl]
   repeat' split
   all_goals omega
theorem kind5 {c:UInt8} {r:List UInt8} (h:kindL (c::r)=5):c=34:=by
 rw [show kindL (c::r)=if sm c then 1 else if dgc c then 4 else if c=34 then 5 else if c=35 then 6
     else if c=63 then (if hd sm r then 2 else 3) else if sgn c||pair (c::r) then 7 else 0 from rfl] at h
 by_cases h1:c=34
 ·exact h1
 ·rw [if_neg h1] at h
  repeat' split at h
  all_goals omega
def Pl (w:World) (g:Nat) (L C:Int):Prop:=w.heap[g]?=some (.cells #[.int .i64 L,.int .i64 C] 31 (0,0))
theorem Pl.c0 {w:World} {g:Nat} {L C:Int} (h:Pl w g L C):w.cell? ⟨g,0,none⟩=some (.int .i64 L):=by unfold Pl at h;simp [World.cell?,h]
theorem Pl.c1 {w:World} {g:Nat} {L C:Int} (h:Pl w g L C):w.cell? ⟨g,1,none⟩=some (.int .i64 C):=by unfold Pl at h;simp [World.cell?,h]
theorem Pl.f {w:World} {g:Nat} {L C:Int} (h:Pl w g L C) (o:Nat):w.frozen? ⟨g,o,none⟩=false:=by unfold Pl at h;simp [World.frozen?,h]
theorem Pl.old {w w':World} {g:Nat} {L C:Int} (h:Pl w g L C) (ho:Old w w'):Pl w' g L C:=(ho.block g (blk_lt h)).trans h
theorem far_heap {W:World} {p o k:Nat} {u:Value} (h:p≠k):(W.setCell ⟨p,o,none⟩ u).heap[k]?=W.heap[k]?:=by
 show (W.heap.modify p _)[k]?=_
 rw [Array.getElem?_modify,if_neg h]
theorem Sv.far {w:World} {b:Nat} {x0 x1 x2 x3 x4 x5 x6:Value} (h:Sv w b x0 x1 x2 x3 x4 x5 x6) {p o:Nat} (hne:p≠b) (u:Value):Sv (w.setCell ⟨p,o,none⟩ u) b x0 x1 x2 x3 x4 x5 x6:=(far_heap hne).trans h
theorem Chx.beyond {S:Nat→Prop} {w W:World} (h:Chx S w W) {p o:Nat} (hp:w.heap.size≤p) (u:Value):Chx S w (W.setCell ⟨p,o,none⟩ u):=
 ⟨h.os,h.output,by have:=h.size;simp [World.setCell];exact this,fun k hk hs=>(far_heap (by omega)).trans (h.block k hk hs)⟩
theorem Chx.poke7 {S:Nat→Prop} {w W:World} (h:Chx S w W) {p:Nat} (hp:w.heap.size≤p) (y0 y1 y2 y3 y4 y5 y6:Value):Chx S w (poke7 W p y0 y1 y2 y3 y4 y5 y6):=
 ((((((h.beyond (o:=0) hp y0).beyond (o:=1) hp y1).beyond (o:=2) hp y2).beyond (o:=3) hp y3).beyond (o:=4) hp y4).beyond (o:=5) hp y5).beyond (o:=6) hp y6
end Go.Proofs.YtmkmafkkpigfpaaGreatDoor
namespace Go.Proofs.YtmkmafkkpigfpaaGreatDoor
open Go Go.RowKit Go.Lib
set_option linter.unusedVariables false
def lexS:Nat→List UInt8→Nat→Nat→List Tk × Int × Int × Int
 | 0,_,_,_=>([],0,0,0)
 | _+1,[],_,_=>([],0,0,0)
 | f+1,c::r,L,C=>
   if (meanL (kindL (c::r)) ((c::r).take (wlen (c::r)))).2=0 then
    ({ (meanL (kindL (c::r)) ((c::r).take (wlen (c::r)))).1 with ln:=L,cl:=C } ::
      (lexS f (skipL false ((c::r).drop (wlen (c::r))) L (C+wlen (c::r))).1 (skipL false ((c::r).drop (wlen (c::r))) L (C+wlen (c::r))).2.1 (skipL false ((c::r).drop (wlen (c::r))) L (C+wlen (c::r))).2.2).1,
      (lexS f (skipL false ((c::r).drop (wlen (c::r))) L (C+wlen (c::r))).1 (skipL false ((c::r).drop (wlen (c::r))) L (C+wlen (c::r))).2.1 (skipL false ((c::r).drop (wlen (c::r))) L (C+wlen (c::r))).2.2).2)
   else ([],(meanL (kindL (c::r)) ((c::r).take (wlen (c::r)))).2,L,C)
def lexL (l:List UInt8):List Tk × Int × Int × Int:=lexS (l.length+1) (skipL false l 1 1).1 (skipL false l 1 1).2.1 (skipL false l 1 1).2.2
end Go.Proofs.YtmkmafkkpigfpaaGreatDoor
namespace Go.Proofs.YtmkmafkkpigfpaaGreatDoor
open Go.ChangeShapes Go.WideShapes Go.ChangeAt Go.RowKit Go.Lib
set_option linter.unusedVariables false
set_option linter.unusedSimpArgs false
set_option maxRecDepth 100000
theorem lexS_nil (f L C:Nat):lexS f [] L C=([],0,0,0):=by cases f<;>rfl
end Go.Proofs.YtmkmafkkpigfpaaGreatDoor
