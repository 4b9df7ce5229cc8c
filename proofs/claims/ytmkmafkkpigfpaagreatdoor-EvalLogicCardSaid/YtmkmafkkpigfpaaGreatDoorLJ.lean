/- Layer vtext: a text in quotes. the text of a value. numbers are read. how texts are read, by what begins them. a text in quotes is read. Parse. -/
import Derived.Lib.Repeat
import Derived.Lib.ParseIntBMem
import Derived.Lib.AtoiErrMem
import Derived.Laws.EntriesVeiled
import Derived.Test.YtmkmafkkpigfpaaGreatDoorLC
namespace Go.Proofs.YtmkmafkkpigfpaaGreatDoor
open Go.ChangeShapes Go.WideShapes Go.ChangeAt Go.RowKit Go.Lib
set_option linter.unusedVariables false
set_option maxRecDepth 100000
def escB (c:UInt8):List UInt8:=if c=34∨c=92 then [92,c] else [c]
def escL (l:List UInt8):List UInt8:=l.flatMap escB
def quoteL (l:List UInt8):List UInt8:=34::(escL l++[34])
theorem escL_len:∀ l:List UInt8,(escL l).length≤2*l.length
 | []=>by simp [escL]
 | x::l=>by
   have:=escL_len l
   unfold escL at *
   rw [List.flatMap_cons,List.length_append,List.length_cons]
   have:(escB x).length≤2:=by unfold escB;split<;>simp
   omega
theorem bt_of {s:ByteArray} {k:Nat} (h:k<s.size):bt s k=((s.data.toList[k]'(by simpa using h)).toNat:Int):=by
 unfold bt
 rw [List.getD_eq_getElem?_getD,List.getElem?_eq_getElem (by simpa using h)]
 rfl
theorem esc_more {s:ByteArray} {k:Nat} (h:k<s.size):escL (s.data.toList.take (k+1))=escL (s.data.toList.take k)++escB (s.data.toList[k]'(by simpa using h)):=by
 rw [List.take_succ_eq_append_getElem (by simpa using h)]
 unfold escL
 rw [List.flatMap_append]
 simp
def textL (k n:Int) (s:ByteArray):List UInt8:=
 if mayB k n s=false then [] else if k=1 then Lib.itoa n else if k=2 then decL n else if k=3 then quoteL s.data.toList else if k=4 then Lib.formatBool (n==1) else if k=5 then 35::s.data.toList else [110,117,108,108]
theorem may_str {n:Int} {s:ByteArray} (h:mayB 3 n s=true):s.size≤200:=by
 unfold mayB textB at h
 simp at h
 omega
theorem rs {a b:List UInt8} (h:a=b):Ending.returned (.string (st a))=.returned (.string (st b)):=by rw [h]
def numV (k:Int) (l:List UInt8):Int × Int × Int:=match Lib.parseIntB 64 l with
 | .ok v=>(k,v,0)
 | _=>(0,0,9)
def readC (S wh rs:List UInt8) (pt:Bool):Int × Int × Int:=
 if wholeL wh=false then (0,0,4)
 else if pt=false then numV 1 (S++wh)
 else if (!digsL rs||decide (4<rs.length))=true then (0,0,4)
 else numV 2 (S++wh++rs++Lib.repeatL [48] (4-rs.length))
theorem app_st (a b:List UInt8):(⟨a.toArray⟩:ByteArray)++st b=st (a++b):=by
 rw [ByteArray.mk_append_mk]
theorem rep_digs:∀ (n:Nat),(Lib.repeatL [48] n).all dg8=true
 | 0=>rfl
 | n+1=>by
   unfold Lib.repeatL
   rw [List.all_append,rep_digs n]
   rfl
theorem ext1 (c:UInt8) (l:List UInt8):(st (c::l)).extract 1 (l.length+1)=st l:=by
 apply ba_ext
 rw [Lib.extract_toList,ByteArray.toList_eq]
 simp
end Go.Proofs.YtmkmafkkpigfpaaGreatDoor
namespace Go.Proofs.YtmkmafkkpigfpaaGreatDoor
open Go.ChangeShapes Go.WideShapes Go.ChangeAt Go.RowKit Go.Lib
set_option linter.unusedVariables false
set_option linter.unusedSimpArgs false
set_option maxRecDepth 100000
def readN:List UInt8→Int × Int × Int
 | []=>(0,0,4)
 | c::l=>if c=45 then readC [45] (Lib.cut l [46]).1 (Lib.cut l [46]).2.1 (Lib.cut l [46]).2.2 else readC [] (Lib.cut (c::l) [46]).1 (Lib.cut (c::l) [46]).2.1 (Lib.cut (c::l) [46]).2.2
theorem Three.grown {w w':World} {b B:Nat} {x y z:Value} (h:Three w b x y z) (hg:w.grownBy w' (some B)) (hne:b≠B):Three w' b x y z:=(hg.block b h.lt (by simpa using hne)).trans h
theorem Old.put {a w w':World} {B:Nat} (h:Old a w) (hg:w.grownBy w' (some B)) (hB:a.heap.size≤B):Old a w':=h.grown hg (by intro k hk;cases hk;exact hB)
end Go.Proofs.YtmkmafkkpigfpaaGreatDoor
namespace Go.Proofs.YtmkmafkkpigfpaaGreatDoor
open Go.ChangeShapes Go.WideShapes Go.ChangeAt Go.RowKit Go.Lib
set_option linter.unusedVariables false
set_option maxRecDepth 100000
def unqL:List UInt8→List UInt8
 | []=>[]
 | [c]=>[c]
 | c::d::r=>if c=92 then d::unqL r else c::unqL (d::r)
theorem unq_two {c d:UInt8} {r:List UInt8} (h:c=92):unqL (c::d::r)=d::unqL r:=by
 rw [unqL,if_pos h]
theorem unq_one {c:UInt8} {r:List UInt8} (h:¬ (c=92∧r≠[])):unqL (c::r)=c::unqL r:=by
 cases r with
 | nil=>rfl
 | cons d r=>rw [unqL,if_neg (fun e=>h ⟨e,by simp⟩)]
section
variable {ρ:Operand→Value} {o:Oper} {w:World} {K:Value→World→Prop}
end
end Go.Proofs.YtmkmafkkpigfpaaGreatDoor
