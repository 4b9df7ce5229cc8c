/- Layer expr, plain: what is read of words, as nodes that tell how far back their. -/
import Derived.Test.YtmkmafkkpigfpaaGreatDoorTV
namespace Go.Proofs.YtmkmafkkpigfpaaGreatDoor
open Go.ChangeShapes Go.WideShapes Go.ChangeAt Go.RowKit Go.Lib
set_option linter.unusedVariables false
set_option linter.unusedSimpArgs false
set_option maxRecDepth 100000
structure Nd where
 op:Int
 vk:Int
 vn:Int
 vs:List UInt8
 nm:List UInt8
 ks:List Nat
 ln:Int
 cl:Int
deriving DecidableEq
inductive Rz where
 | out
 | ok (ns:List Nd) (r:List Tk)
 | no (e:Int) (r:List Tk)
def Rz.bnd:Rz→(List Nd→List Tk→Rz)→Rz
 | .out,_=>.out
 | .ok ns r,f=>f ns r
 | .no e r,_=>.no e r
def wordL:List Tk→Tk
 | []=>Tk.zero
 | x::_=>x
def isT (x:Tk) (s:List UInt8):Bool:=(x.k==1||x.k==7)&&x.t==s
def isL (s:List UInt8) (l:List Tk):Bool:=isT (wordL l) s
def inOp (s:List UInt8):Nat × Nat:=
 if s=[111,114] then (4,0) else if s=[97,110,100] then (5,1) else if s=[61] then (7,3) else if s=[60,62] then (8,3) else if s=[60] then (9,3)
 else if s=[60,61] then (10,3) else if s=[62] then (11,3) else if s=[62,61] then (12,3) else if s=[43] then (13,4) else if s=[45] then (14,4)
 else if s=[42] then (15,5) else if s=[47] then (16,5) else (0,0)
def inT (L:Nat) (x:Tk):Nat:=if (inOp x.t).2=L∧isT x x.t=true then (inOp x.t).1 else 0
def inL (L:Nat) (l:List Tk):Nat:=inT L (wordL l)
def callL (s:List UInt8):Option (Nat × Nat × Nat):=
 if s=[97,98,115] then some (18,1,1) else if s=[109,105,110] then some (19,1,8) else if s=[109,97,120] then some (20,1,8) else if s=[109,111,100] then some (21,2,2)
 else if s=[108,101,110,103,116,104] then some (22,1,1) else if s=[117,112,112,101,114] then some (23,1,1) else if s=[99,111,110,116,97,105,110,115] then some (24,2,2)
 else if s=[115,116,97,114,116,115] then some (25,2,2) else if s=[105,102] then some (26,3,3) else none
inductive Md where
 | lvl (L:Nat)
 | tail (L:Nat) (ns:List Nd)
 | args (op lo hi:Nat) (ln cl:Int) (ns:List Nd) (ks:List Nat)
def ndOp (op:Nat) (ks:List Nat) (x:Tk):Nd:=⟨op,0,0,[],[],ks,x.ln,x.cl⟩
def ndLit (vk vn:Int) (vs:List UInt8) (x:Tk):Nd:=⟨1,vk,vn,vs,[],[],x.ln,x.cl⟩
def preW (L:Nat):List UInt8:=if L=2 then [110,111,116] else [45]
def preO (L:Nat):Nat:=if L=2 then 6 else 17
def pairP (rec:Md→Nat→List Tk→Rz) (L:Nat) (ns:List Nd) (o:Nat) (l:List Tk):Rz:=
 (rec (.lvl (L+1)) o l.tail).bnd fun ns2 r=>.ok (ns++ns2++[ndOp (inL L l) [ns2.length+1,1] (wordL l)]) r
def callP (rec:Md→Nat→List Tk→Rz) (c:Nat × Nat × Nat) (o:Nat) (l:List Tk):Rz:=
 if isL [40] l.tail=false then .no 4 l.tail
 else if o=12 then .no 12 l.tail
 else (rec (.lvl 0) (o+1) l.tail.tail).bnd fun ns r=>rec (.args c.1 c.2.1 c.2.2 (wordL l).ln (wordL l).cl ns [ns.length-1]) (o+1) r
def nameP (rec:Md→Nat→List Tk→Rz) (o:Nat) (l:List Tk):Rz:=
 if (wordL l).t=[116,114,117,101] then .ok [ndLit 4 1 [] (wordL l)] l.tail
 else if (wordL l).t=[102,97,108,115,101] then .ok [ndLit 4 0 [] (wordL l)] l.tail
 else if (wordL l).t=[110,117,108,108] then .ok [ndLit 0 0 [] (wordL l)] l.tail
 else match callL (wordL l).t with
  | none=>.no 4 l
  | some c=>callP rec c o l
def groupP (rec:Md→Nat→List Tk→Rz) (o:Nat) (l:List Tk):Rz:=
 if o=12 then .no 12 l else (rec (.lvl 0) (o+1) l.tail).bnd fun ns r=>if isL [41] r then .ok ns r.tail else .no 4 r
def atomP (rec:Md→Nat→List Tk→Rz) (o:Nat) (l:List Tk):Rz:=
 if (wordL l).k=4∨(wordL l).k=5∨(wordL l).k=6 then .ok [ndLit (wordL l).vk (wordL l).vn (wordL l).vs (wordL l)] l.tail
 else if (wordL l).k=2 then .ok [⟨2,0,0,[],(wordL l).t,[],(wordL l).ln,(wordL l).cl⟩] l.tail
 else if (wordL l).k=3 then .ok [⟨3,0,0,[],[],[],(wordL l).ln,(wordL l).cl⟩] l.tail
 else if (wordL l).k=1 then nameP rec o l
 else if (wordL l).k=7∧(wordL l).t=[40] then groupP rec o l
 else .no 4 l
def preP (rec:Md→Nat→List Tk→Rz) (L:Nat) (o:Nat) (l:List Tk):Rz:=
 if isL (preW L) l=false then rec (.lvl (L+1)) o l
 else if o=12 then .no 12 l
 else (rec (.lvl L) (o+1) l.tail).bnd fun ns r=>.ok (ns++[ndOp (preO L) [1] (wordL l)]) r
def cmpP (rec:Md→Nat→List Tk→Rz) (o:Nat) (l:List Tk):Rz:=
 (rec (.lvl 4) o l).bnd fun ns r=>if inL 3 r=0 then .ok ns r else pairP rec 3 ns o r
def argsP (rec:Md→Nat→List Tk→Rz) (op lo hi:Nat) (ln cl:Int) (ns:List Nd) (ks:List Nat) (o:Nat) (l:List Tk):Rz:=
 if isL [44] l then
  if ks.length=hi then .no 14 l else (rec (.lvl 0) o l.tail).bnd fun ns2 r=>rec (.args op lo hi ln cl (ns++ns2) (ks++[ns.length+ns2.length-1])) o r
 else if isL [41] l=true∧ks.length<lo then .no 14 l
 else if isL [41] l then .ok (ns++[⟨op,0,0,[],[],ks.map (ns.length-·),ln,cl⟩]) l.tail
 else .no 4 l
def P:Nat→Md→Nat→List Tk→Rz
 | 0,_,_,_=>.out
 | F+1,.lvl L,o,l=>
   if L=7 then atomP (P F) o l
   else if L=2∨L=6 then preP (P F) L o l
   else if L=3 then cmpP (P F) o l
   else (P F (.lvl (L+1)) o l).bnd fun ns r=>P F (.tail L ns) o r
 | F+1,.tail L ns,o,l=>if inL L l=0 then .ok ns l else (pairP (P F) L ns o l).bnd fun ns' r=>P F (.tail L ns') o r
 | F+1,.args op lo hi ln cl ns ks,o,l=>argsP (P F) op lo hi ln cl ns ks o l
theorem bnd_out {x:Rz} {f:List Nd→List Tk→Rz} (h:x.bnd f≠.out):x≠.out:=by
 rintro rfl
 exact h rfl
theorem bnd_ok {x:Rz} {f:List Nd→List Tk→Rz} {ns:List Nd} {r:List Tk} (h:x.bnd f=.ok ns r):∃ ns' r',x=.ok ns' r'∧f ns' r'=.ok ns r:=by
 cases x with
 | out=>cases h
 | no e r=>cases h
 | ok a b=>exact ⟨a,b,rfl,h⟩
def fuelOf (l:List Tk):Nat:=10*l.length+20
def parseX (l:List Tk):Rz:=P (fuelOf l) (.lvl 0) 0 l
end Go.Proofs.YtmkmafkkpigfpaaGreatDoor
namespace Go.Proofs.YtmkmafkkpigfpaaGreatDoor
open Go.ChangeShapes Go.WideShapes Go.ChangeAt Go.RowKit Go.Lib
set_option linter.unusedVariables false
set_option linter.unusedSimpArgs false
set_option maxRecDepth 100000
theorem isL_ne {s:List UInt8} {l:List Tk} (h:isL s l=true):l≠[]:=by
 rintro rfl
 simp [isL,isT,wordL,Tk.zero] at h
theorem inL_ne {L:Nat} {l:List Tk} (h:inL L l≠0):l≠[]:=by
 rintro rfl
 simp [inL,inT,isT,wordL,Tk.zero] at h
theorem word_ne {l:List Tk} (h:(wordL l).k≠0):l≠[]:=by
 rintro rfl
 exact h rfl
theorem tail_lt {l:List Tk} (h:l≠[]):l.tail.length+1=l.length:=by
 cases l with
 | nil=>exact absurd rfl h
 | cons x r=>rfl
def Md.min:Md→Nat
 | .lvl _=>1
 | .tail _ _=>0
 | .args ..=>1
def Takes (rec:Md→Nat→List Tk→Rz):Prop:=∀ m o l ns r,rec m o l=.ok ns r→r.length+m.min≤l.length
theorem Takes.pair {rec:Md→Nat→List Tk→Rz} (h:Takes rec) {L:Nat} {ns:List Nd} {o:Nat} {l:List Tk} {ns':List Nd} {r:List Tk} (hl:l≠[]) (he:pairP rec L ns o l=.ok ns' r):r.length+2≤l.length:=by
 obtain ⟨a,b,h1,h2⟩:=bnd_ok he
 injection h2 with h2 h3
 have h4:=h _ _ _ _ _ h1
 have h5:=tail_lt hl
 simp only [Md.min] at h4
 rw [←h3]
 omega
theorem Takes.atom {rec:Md→Nat→List Tk→Rz} (h:Takes rec) {o:Nat} {l:List Tk} {ns':List Nd} {r:List Tk} (he:atomP rec o l=.ok ns' r):r.length+1≤l.length:=by
 unfold atomP at he
 split at he
 ·rename_i hk
  have hl:=word_ne (l:=l) (by omega)
  injection he with _ h3
  have h5:=tail_lt hl
  rw [←h3]
  omega
 split at he
 ·have hl:=word_ne (l:=l) (by omega)
  injection he with _ h3
  have h5:=tail_lt hl
  rw [←h3]
  omega
 split at he
 ·have hl:=word_ne (l:=l) (by omega)
  injection he with _ h3
  have h5:=tail_lt hl
  rw [←h3]
  omega
 split at he
 ·have hl:=word_ne (l:=l) (by omega)
  have h5:=tail_lt hl
  unfold nameP at he
  split at he
  ·injection he with _ h3
   rw [←h3]
   omega
  split at he
  ·injection he with _ h3
   rw [←h3]
   omega
  split at he
  ·injection he with _ h3
   rw [←h3]
   omega
  split at he
  ·cases he
  ·unfold callP at he
   split at he
   ·cases he
   split at he
   ·cases he
   obtain ⟨a,b,h1,h2⟩:=bnd_ok he
   have h6:=h _ _ _ _ _ h1
   have h7:=h _ _ _ _ _ h2
   simp only [Md.min,List.length_tail] at h6 h7 h5
   omega
 split at he
 ·have hl:=word_ne (l:=l) (by omega)
  have h5:=tail_lt hl
  unfold groupP at he
  split at he
  ·cases he
  obtain ⟨a,b,h1,h2⟩:=bnd_ok he
  have h6:=h _ _ _ _ _ h1
  simp only [Md.min] at h6
  split at h2
  ·rename_i hi
   have h8:=tail_lt (isL_ne hi)
   injection h2 with _ h3
   rw [←h3]
   omega
  ·cases h2
 ·cases he
theorem Takes.pre {rec:Md→Nat→List Tk→Rz} (h:Takes rec) {L o:Nat} {l:List Tk} {ns':List Nd} {r:List Tk} (he:preP rec L o l=.ok ns' r):r.length+1≤l.length:=by
 unfold preP at he
 split at he
 ·exact h _ _ _ _ _ he
 ·rename_i hi
  have h8:=tail_lt (isL_ne (by simpa using hi))
  split at he
  ·cases he
  obtain ⟨a,b,h1,h2⟩:=bnd_ok he
  have h6:=h _ _ _ _ _ h1
  injection h2 with _ h3
  simp only [Md.min] at h6
  rw [←h3]
  omega
theorem Takes.cmp {rec:Md→Nat→List Tk→Rz} (h:Takes rec) {o:Nat} {l:List Tk} {ns':List Nd} {r:List Tk} (he:cmpP rec o l=.ok ns' r):r.length+1≤l.length:=by
 obtain ⟨a,b,h1,h2⟩:=bnd_ok he
 have h6:=h _ _ _ _ _ h1
 simp only [Md.min] at h6
 split at h2
 ·injection h2 with _ h3
  rw [←h3]
  omega
 ·rename_i hi
  have h7:=h.pair (inL_ne hi) h2
  omega
theorem Takes.args {rec:Md→Nat→List Tk→Rz} (h:Takes rec) {op lo hi:Nat} {ln cl:Int} {ns:List Nd} {ks:List Nat} {o:Nat} {l:List Tk} {ns':List Nd} {r:List Tk} (he:argsP rec op lo hi ln cl ns ks o l=.ok ns' r):r.length+1≤l.length:=by
 unfold argsP at he
 split at he
 ·rename_i hi
  have h8:=tail_lt (isL_ne hi)
  split at he
  ·cases he
  obtain ⟨a,b,h1,h2⟩:=bnd_ok he
  have h6:=h _ _ _ _ _ h1
  have h7:=h _ _ _ _ _ h2
  simp only [Md.min] at h6 h7
  omega
 split at he
 ·cases he
 split at he
 ·rename_i hi
  have h8:=tail_lt (isL_ne hi)
  injection he with _ h3
  rw [←h3]
  omega
 ·cases he
theorem takes:∀ F,Takes (P F)
 | 0=>fun m o l ns r h=>by cases h
 | F+1=>by
   have ih:=takes F
   intro m o l ns r h
   cases m with
   | lvl L=>
     unfold P at h
     split at h
     ·exact ih.atom h
     split at h
     ·exact ih.pre h
     split at h
     ·exact ih.cmp h
     ·obtain ⟨a,b,h1,h2⟩:=bnd_ok h
      have h6:=ih _ _ _ _ _ h1
      have h7:=ih _ _ _ _ _ h2
      simp only [Md.min] at h6 h7 ⊢
      omega
   | tail L ns0=>
     unfold P at h
     split at h
     ·injection h with _ h3
      simp only [Md.min]
      rw [←h3]
      omega
     ·rename_i hi
      obtain ⟨a,b,h1,h2⟩:=bnd_ok h
      have h6:=ih.pair (inL_ne hi) h1
      have h7:=ih _ _ _ _ _ h2
      simp only [Md.min] at h7 ⊢
      omega
   | args op lo hi ln cl ns0 ks=>
     unfold P at h
     exact ih.args h
def Md.need (l:List Tk):Md→Nat
 | .lvl L=>10*l.length+(8-L)
 | .tail _ _=>10*l.length+9
 | .args ..=>10*l.length+9
def Md.fit:Md→Prop
 | .lvl L=>L≤7
 | .tail L _=>L≤6
 | .args ..=>True
def Ends (F:Nat):Prop:=∀ m o l,m.fit→m.need l≤F→P F m o l≠.out
theorem bnd_in {x:Rz} {f:List Nd→List Tk→Rz} (h:x≠.out) (hf:∀ ns r,x=.ok ns r→f ns r≠.out):x.bnd f≠.out:=by
 cases x with
 | out=>exact absurd rfl h
 | no e r=>intro hh;cases hh
 | ok a b=>exact hf a b rfl
theorem Ends.pair {F:Nat} (h:Ends F) {L:Nat} (hL:L≤6) {ns:List Nd} {o:Nat} {l:List Tk} (hl:l≠[]) (hF:10*l.length≤F+2):pairP (P F) L ns o l≠.out:=by
 have h5:=tail_lt hl
 refine bnd_in (h _ _ _ (by simp only [Md.fit];omega) (by simp only [Md.need];omega)) (fun _ _ _ hh=>by cases hh)
theorem ends:∀ F,Ends F
 | 0=>fun m o l hf h=>by cases m<;>simp only [Md.need,Md.fit] at h hf<;>omega
 | F+1=>by
   have ih:=ends F
   intro m o l hf hn
   cases m with
   | lvl L=>
     simp only [Md.need,Md.fit] at hn hf
     unfold P
     split
     ·subst L
      unfold atomP
      split
      ·intro hh;cases hh
      split
      ·intro hh;cases hh
      split
      ·intro hh;cases hh
      split
      ·have hl:=word_ne (l:=l) (by omega)
       have h5:=tail_lt hl
       unfold nameP
       split
       ·intro hh;cases hh
       split
       ·intro hh;cases hh
       split
       ·intro hh;cases hh
       split
       ·intro hh;cases hh
       ·unfold callP
        split
        ·intro hh;cases hh
        rename_i hi
        have h8:=tail_lt (isL_ne (by simpa using hi))
        split
        ·intro hh;cases hh
        refine bnd_in (ih _ _ _ (by simp only [Md.fit];omega) (by simp only [Md.need];omega)) (fun a b h1=>?_)
        have h6:=takes F _ _ _ _ _ h1
        simp only [Md.min] at h6
        exact ih _ _ _ trivial (by simp only [Md.need];omega)
      split
      ·have hl:=word_ne (l:=l) (by omega)
       have h5:=tail_lt hl
       unfold groupP
       split
       ·intro hh;cases hh
       refine bnd_in (ih _ _ _ (by simp only [Md.fit];omega) (by simp only [Md.need];omega)) (fun a b h1=>?_)
       split<;>(intro hh;cases hh)
      ·intro hh;cases hh
     split
     ·unfold preP
      split
      ·exact ih _ _ _ (by simp only [Md.fit];omega) (by simp only [Md.need];omega)
      ·rename_i hi
       have h8:=tail_lt (isL_ne (by simpa using hi))
       split
       ·intro hh;cases hh
       exact bnd_in (ih _ _ _ (by simp only [Md.fit];omega) (by simp only [Md.need];omega)) (fun _ _ _ hh=>by cases hh)
     split
     ·unfold cmpP
      refine bnd_in (ih _ _ _ (by simp only [Md.fit];omega) (by simp only [Md.need];omega)) (fun a b h1=>?_)
      have h6:=takes F _ _ _ _ _ h1
      simp only [Md.min] at h6
      split
      ·intro hh;cases hh
      ·rename_i hi
       exact ih.pair (by omega) (inL_ne hi) (by omega)
     ·refine bnd_in (ih _ _ _ (by simp only [Md.fit];omega) (by simp only [Md.need];omega)) (fun a b h1=>?_)
      have h6:=takes F _ _ _ _ _ h1
      simp only [Md.min] at h6
      exact ih _ _ _ (by simp only [Md.fit];omega) (by simp only [Md.need];omega)
   | tail L ns0=>
     simp only [Md.need,Md.fit] at hn hf
     unfold P
     split
     ·intro hh;cases hh
     ·rename_i hi
      refine bnd_in (ih.pair hf (inL_ne hi) (by omega)) (fun a b h1=>?_)
      have h6:=(takes F).pair (inL_ne hi) h1
      exact ih _ _ _ (by simp only [Md.fit];omega) (by simp only [Md.need];omega)
   | args op lo hi ln cl ns0 ks=>
     simp only [Md.need,Md.fit] at hn hf
     unfold P argsP
     split
     ·rename_i hi
      have h8:=tail_lt (isL_ne hi)
      split
      ·intro hh;cases hh
      refine bnd_in (ih _ _ _ (by simp only [Md.fit];omega) (by simp only [Md.need];omega)) (fun a b h1=>?_)
      have h6:=takes F _ _ _ _ _ h1
      simp only [Md.min] at h6
      exact ih _ _ _ trivial (by simp only [Md.need];omega)
     split
     ·intro hh;cases hh
     split<;>(intro hh;cases hh)
theorem parseX_in (l:List Tk):parseX l≠.out:=ends _ _ _ _ (by simp only [Md.fit];omega) (by simp only [Md.need,fuelOf];omega)
end Go.Proofs.YtmkmafkkpigfpaaGreatDoor
namespace Go.Proofs.YtmkmafkkpigfpaaGreatDoor
open Go.ChangeShapes Go.WideShapes Go.ChangeAt Go.RowKit Go.Lib
set_option linter.unusedVariables false
set_option linter.unusedSimpArgs false
set_option maxRecDepth 100000
def pops (i:Nat):List Nat→Nat→List Nat→Option (Nat × List Nat)
 | [],f,s=>some (f,s)
 | _::_,_,[]=>none
 | d::ds,f,g::s=>if i+1=f+d∧1≤f then pops i ds g s else none
def exec:List Nd→Nat→List Nat→Option (List Nat)
 | [],_,s=>some s
 | x::l,i,s=>match pops i x.ks.reverse i s with
   | some (f,s')=>exec l (i+1) (f::s')
   | none=>none
theorem exec_app:∀ (l1 l2:List Nd) (i:Nat) (s:List Nat),exec (l1++l2) i s=(exec l1 i s).bind (exec l2 (i+l1.length))
 | [],l2,i,s=>rfl
 | x::l1,l2,i,s=>by
   rw [List.cons_append]
   unfold exec
   cases h:pops i x.ks.reverse i s with
   | none=>rfl
   | some p=>
     simp only
     rw [exec_app l1 l2,List.length_cons,Nat.add_assoc i 1,Nat.add_comm 1]
structure Tr (l:List Nd):Prop where
 pos:1≤l.length
 run:∀ i s,exec l i s=some (i::s)
theorem Tr.leaf {x:Nd} (h:x.ks=[]):Tr [x]:=⟨Nat.le_refl _,fun i s=>by simp [exec,h,pops]⟩
theorem Tr.pre {l:List Nd} (hl:Tr l) {x:Nd} (h:x.ks=[1]):Tr (l++[x]):=⟨by simp,fun i s=>by
 have hp:=hl.pos
 rw [exec_app,hl.run,Option.bind_some]
 unfold exec
 rw [h]
 have h1:1≤i+l.length:=by omega
 simp only [List.reverse_cons,List.reverse_nil,List.nil_append,pops,h1,and_true,if_true]
 rfl⟩
theorem Tr.pair {l l2:List Nd} (hl:Tr l) (h2:Tr l2) {x:Nd} (h:x.ks=[l2.length+1,1]):Tr (l++l2++[x]):=⟨by simp;omega,fun i s=>by
 have hp:=hl.pos
 have hp2:=h2.pos
 rw [exec_app,exec_app,hl.run,Option.bind_some,h2.run,Option.bind_some]
 unfold exec
 rw [h]
 have h1:1≤i+(l.length+l2.length):=by omega
 have h2:i+(l.length+l2.length)+1=i+l.length+(l2.length+1)∧1≤i+l.length:=⟨by omega,by omega⟩
 simp only [List.reverse_cons,List.reverse_nil,List.nil_append,List.cons_append,pops,List.length_append,h1,and_true,if_true,if_pos h2]
 rfl⟩
inductive Ag:List Nd→List Nat→Prop
 | one {ns:List Nd}:Tr ns→Ag ns [ns.length-1]
 | more {ns ns2:List Nd} {ks:List Nat}:Ag ns ks→Tr ns2→Ag (ns++ns2) (ks++[ns.length+ns2.length-1])
theorem Ag.pops {ns:List Nd} {ks:List Nat} (h:Ag ns ks):1≤ns.length∧∀ i s,∃ fs,exec ns i s=some (fs++s)∧∀ M,ns.length≤M→pops (i+M) (ks.map (M-·)).reverse (i+ns.length) (fs++s)=some (i,s):=by
 induction h with
 | one ht=>
   have hp:=ht.pos
   refine ⟨hp,fun i s=>⟨[i],ht.run i s,fun M hM=>?_⟩⟩
   simp only [List.map_cons,List.map_nil,List.reverse_cons,List.reverse_nil,List.nil_append,List.cons_append,YtmkmafkkpigfpaaGreatDoor.pops]
   rw [if_pos ⟨by omega,by omega⟩]
 | @more ns ns2 ks h ht ih=>
   obtain ⟨hp,ih⟩:=ih
   have hp2:=ht.pos
   refine ⟨by rw [List.length_append];omega,fun i s=>?_⟩
   obtain ⟨fs,h1,h2⟩:=ih i s
   refine ⟨(i+ns.length)::fs,?_,fun M hM=>?_⟩
   ·rw [exec_app,h1,Option.bind_some,ht.run]
    rfl
   ·rw [List.length_append] at hM ⊢
    simp only [List.map_append,List.map_cons,List.map_nil,List.reverse_append,List.reverse_cons,List.reverse_nil,List.nil_append,List.cons_append,YtmkmafkkpigfpaaGreatDoor.pops]
    rw [if_pos ⟨by omega,by omega⟩]
    exact h2 M (by omega)
theorem Ag.len {ns:List Nd} {ks:List Nat} (h:Ag ns ks):1≤ks.length:=by
 cases h<;>simp
theorem Tr.call {ns:List Nd} {ks:List Nat} (h:Ag ns ks) {x:Nd} (hx:x.ks=ks.map (ns.length-·)):Tr (ns++[x]):=⟨by simp,fun i s=>by
 obtain ⟨hp,h⟩:=h.pops
 obtain ⟨fs,h1,h2⟩:=h i s
 rw [exec_app,h1,Option.bind_some]
 unfold exec
 rw [hx,h2 _ (Nat.le_refl _)]
 rfl⟩
def kidN (op:Int):Nat × Nat:=
 if (4≤op∧op≤5)∨(7≤op∧op≤16)∨op=21∨op=24∨op=25 then (2,2)
 else if op=6∨op=17∨op=18∨op=22∨op=23 then (1,1)
 else if op=19∨op=20 then (1,8)
 else if op=26 then (3,3) else (0,0)
structure WdOk (x:Tk):Prop where
 ln:1≤x.ln
 cl:1≤x.cl
 nm:x.k=2→isName x.t=true
structure NdOk (x:Nd):Prop where
 lo:1≤x.op
 hi:x.op≤26
 few:(kidN x.op).1≤x.ks.length
 many:x.ks.length≤(kidN x.op).2
 ln:1≤x.ln
 cl:1≤x.cl
 val:x.op≠1→x.vk=0∧x.vn=0∧x.vs=[]
 nm:x.op≠2→x.nm=[]
 name:x.op=2→isName x.nm=true
def AllOk (ns:List Nd):Prop:=∀ x∈ns,NdOk x
theorem AllOk.app {a b:List Nd} (h:AllOk a) (k:AllOk b):AllOk (a++b):=fun x hx=>by
 rcases List.mem_append.1 hx with hx|hx
 ·exact h x hx
 ·exact k x hx
theorem AllOk.one {x:Nd} (h:NdOk x):AllOk [x]:=fun y hy=>by
 rcases List.mem_singleton.1 hy with rfl
 exact h
theorem ite_mem {α:Type} {c:Prop} [Decidable c] {a b:α} {l:List α} (ha:a∈l) (hb:b∈l):(if c then a else b)∈l:=by split<;>assumption
theorem inOp_facts (s:List UInt8):(inOp s).1=0∨((kidN ((inOp s).1:Nat))=(2,2)∧4≤(inOp s).1∧(inOp s).1≤16∧(inOp s).1≠6):=by
 have h:inOp s∈[(4,0),(5,1),(7,3),(8,3),(9,3),(10,3),(11,3),(12,3),(13,4),(14,4),(15,5),(16,5),(0,0)]:=by
  unfold inOp
  repeat' (first|apply ite_mem|decide)
 revert h
 generalize inOp s=c
 intro h
 simp only [List.mem_cons,List.not_mem_nil,or_false] at h
 rcases h with rfl|rfl|rfl|rfl|rfl|rfl|rfl|rfl|rfl|rfl|rfl|rfl|rfl
 all_goals first|exact Or.inl rfl|exact Or.inr (by decide)
theorem inL_facts {L:Nat} {l:List Tk} (h:inL L l≠0):kidN ((inL L l:Nat):Int)=(2,2)∧4≤inL L l∧inL L l≤16:=by
 unfold inL inT at h ⊢
 split at h
 ·rename_i hc
  rw [if_pos hc]
  rcases inOp_facts (wordL l).t with h0|⟨h1,h2,h3,_⟩
  ·exact absurd h0 h
  ·exact ⟨h1,h2,h3⟩
 ·exact absurd rfl h
theorem call_facts {s:List UInt8} {c:Nat × Nat × Nat} (h:callL s=some c):kidN ((c.1:Nat):Int)=c.2∧18≤c.1∧c.1≤26∧1≤c.2.1∧c.2.1≤c.2.2:=by
 unfold callL at h
 repeat' split at h
 all_goals first|(cases h;done)|(injection h with h;subst h;decide)
def Fine (l:List Tk):Prop:=∀ x∈l,WdOk x
theorem Fine.tail {l:List Tk} (h:Fine l):Fine l.tail:=fun x hx=>h x (List.mem_of_mem_tail hx)
theorem Fine.word {l:List Tk} (h:Fine l) (hl:l≠[]):WdOk (wordL l):=by
 cases l with
 | nil=>exact absurd rfl hl
 | cons x r=>exact h x (by simp [wordL])
theorem ndOp_ok {op:Nat} {ks:List Nat} {x:Tk} (hx:WdOk x) (h1:1≤op) (h2:op≤26) (h3:(kidN (op:Int)).1≤ks.length) (h4:ks.length≤(kidN (op:Int)).2) (h5:op≠1) (h6:op≠2):NdOk (ndOp op ks x):=
 ⟨by simp only [ndOp];omega,by simp only [ndOp];omega,h3,h4,hx.ln,hx.cl,fun _=>⟨rfl,rfl,rfl⟩,fun _=>rfl,fun h=>by simp only [ndOp] at h;omega⟩
theorem ndLit_ok {vk vn:Int} {vs:List UInt8} {x:Tk} (hx:WdOk x):NdOk (ndLit vk vn vs x):=
 ⟨by simp [ndLit],by simp [ndLit],by simp [ndLit,kidN],by simp [ndLit,kidN],hx.ln,hx.cl,fun h=>absurd rfl h,fun _=>rfl,fun h=>by simp [ndLit] at h⟩
def Md.Pre:Md→Prop
 | .lvl _=>True
 | .tail _ ns=>Tr ns∧AllOk ns
 | .args op lo hi ln cl ns ks=>Ag ns ks∧AllOk ns∧kidN (op:Int)=(lo,hi)∧18≤op∧op≤26∧ks.length≤hi∧1≤ln∧1≤cl
def Sound (rec:Md→Nat→List Tk→Rz):Prop:=∀ m o l ns r,rec m o l=.ok ns r→Fine l→m.Pre→Tr ns∧AllOk ns∧Fine r
theorem Sound.pair {rec:Md→Nat→List Tk→Rz} (h:Sound rec) {L:Nat} {ns0:List Nd} {o:Nat} {l:List Tk} {ns:List Nd} {r:List Tk} (hi:inL L l≠0) (he:pairP rec L ns0 o l=.ok ns r) (hf:Fine l) (h0:Tr ns0∧AllOk ns0):Tr ns∧AllOk ns∧Fine r:=by
 obtain ⟨a,b,h1,h2⟩:=bnd_ok he
 obtain ⟨t1,t2,t3⟩:=h _ _ _ _ _ h1 hf.tail trivial
 obtain ⟨k1,k2,k3⟩:=inL_facts hi
 injection h2 with h2 h3
 subst h2 h3
 refine ⟨h0.1.pair t1 rfl,(h0.2.app t2).app (AllOk.one (ndOp_ok (hf.word (inL_ne hi)) (by omega) (by omega) (by rw [k1];simp) (by rw [k1];simp) (by omega) (by omega))),t3⟩
theorem sound:∀ F,Sound (P F)
 | 0=>fun m o l ns r h=>by cases h
 | F+1=>by
   have ih:=sound F
   intro m o l ns r h hf hp
   cases m with
   | lvl L=>
     unfold P at h
     split at h
     ·unfold atomP at h
      split at h
      ·rename_i hk
       have hl:=word_ne (l:=l) (by omega)
       injection h with h2 h3
       subst h2 h3
       exact ⟨Tr.leaf rfl,AllOk.one (ndLit_ok (hf.word hl)),hf.tail⟩
      split at h
      ·rename_i hk
       have hl:=word_ne (l:=l) (by omega)
       injection h with h2 h3
       subst h2 h3
       have hw:=hf.word hl
       exact ⟨Tr.leaf rfl,AllOk.one ⟨by simp,by simp,by simp [kidN],by simp [kidN],hw.ln,hw.cl,fun _=>⟨rfl,rfl,rfl⟩,fun h=>absurd rfl h,fun _=>hw.nm hk⟩,hf.tail⟩
      split at h
      ·rename_i hk
       have hl:=word_ne (l:=l) (by omega)
       injection h with h2 h3
       subst h2 h3
       have hw:=hf.word hl
       exact ⟨Tr.leaf rfl,AllOk.one ⟨by simp,by simp,by simp [kidN],by simp [kidN],hw.ln,hw.cl,fun _=>⟨rfl,rfl,rfl⟩,fun _=>rfl,fun h=>by simp at h⟩,hf.tail⟩
      split at h
      ·have hl:=word_ne (l:=l) (by omega)
       have hw:=hf.word hl
       unfold nameP at h
       split at h
       ·injection h with h2 h3
        subst h2 h3
        exact ⟨Tr.leaf rfl,AllOk.one (ndLit_ok hw),hf.tail⟩
       split at h
       ·injection h with h2 h3
        subst h2 h3
        exact ⟨Tr.leaf rfl,AllOk.one (ndLit_ok hw),hf.tail⟩
       split at h
       ·injection h with h2 h3
        subst h2 h3
        exact ⟨Tr.leaf rfl,AllOk.one (ndLit_ok hw),hf.tail⟩
       split at h
       ·cases h
       ·rename_i c hc
        unfold callP at h
        split at h
        ·cases h
        split at h
        ·cases h
        obtain ⟨a,b,h1,h2⟩:=bnd_ok h
        obtain ⟨t1,t2,t3⟩:=ih _ _ _ _ _ h1 hf.tail.tail trivial
        obtain ⟨k1,k2,k3,k4,k5⟩:=call_facts hc
        exact ih _ _ _ _ _ h2 t3 ⟨Ag.one t1,t2,k1,k2,k3,by simp;omega,hw.ln,hw.cl⟩
      split at h
      ·unfold groupP at h
       split at h
       ·cases h
       obtain ⟨a,b,h1,h2⟩:=bnd_ok h
       obtain ⟨t1,t2,t3⟩:=ih _ _ _ _ _ h1 hf.tail trivial
       split at h2
       ·injection h2 with h2 h3
        subst h2 h3
        exact ⟨t1,t2,t3.tail⟩
       ·cases h2
      ·cases h
     split at h
     ·unfold preP at h
      split at h
      ·exact ih _ _ _ _ _ h hf trivial
      ·rename_i hi
       split at h
       ·cases h
       obtain ⟨a,b,h1,h2⟩:=bnd_ok h
       obtain ⟨t1,t2,t3⟩:=ih _ _ _ _ _ h1 hf.tail trivial
       injection h2 with h2 h3
       subst h2 h3
       have hw:=hf.word (isL_ne (by simpa using hi))
       refine ⟨t1.pre rfl,t2.app (AllOk.one ?_),t3⟩
       unfold preO
       split
       ·exact ndOp_ok hw (by omega) (by omega) (by decide) (by decide) (by omega) (by omega)
       ·exact ndOp_ok hw (by omega) (by omega) (by decide) (by decide) (by omega) (by omega)
     split at h
     ·unfold cmpP at h
      obtain ⟨a,b,h1,h2⟩:=bnd_ok h
      obtain ⟨t1,t2,t3⟩:=ih _ _ _ _ _ h1 hf trivial
      split at h2
      ·injection h2 with h2 h3
       subst h2 h3
       exact ⟨t1,t2,t3⟩
      ·rename_i hi
       exact ih.pair hi h2 t3 ⟨t1,t2⟩
     ·obtain ⟨a,b,h1,h2⟩:=bnd_ok h
      obtain ⟨t1,t2,t3⟩:=ih _ _ _ _ _ h1 hf trivial
      exact ih _ _ _ _ _ h2 t3 ⟨t1,t2⟩
   | tail L ns0=>
     unfold P at h
     split at h
     ·injection h with h2 h3
      subst h2 h3
      exact ⟨hp.1,hp.2,hf⟩
     ·rename_i hi
      obtain ⟨a,b,h1,h2⟩:=bnd_ok h
      obtain ⟨t1,t2,t3⟩:=ih.pair hi h1 hf hp
      exact ih _ _ _ _ _ h2 t3 ⟨t1,t2⟩
   | args op lo hi ln cl ns0 ks=>
     obtain ⟨p1,p2,p3,p4,p5,p6,p7,p8⟩:=hp
     unfold P argsP at h
     split at h
     ·split at h
      ·cases h
      rename_i hks
      obtain ⟨a,b,h1,h2⟩:=bnd_ok h
      obtain ⟨t1,t2,t3⟩:=ih _ _ _ _ _ h1 hf.tail trivial
      exact ih _ _ _ _ _ h2 t3 ⟨p1.more t1,p2.app t2,p3,p4,p5,by simp;omega,p7,p8⟩
     split at h
     ·cases h
     rename_i hlo
     split at h
     ·rename_i hcl
      injection h with h2 h3
      subst h2 h3
      have h9:lo≤ks.length:=by
       rcases Nat.lt_or_ge ks.length lo with hlt|hge
       ·exact absurd ⟨hcl,hlt⟩ hlo
       ·exact hge
      refine ⟨Tr.call p1 rfl,p2.app (AllOk.one ⟨by simp only;omega,by simp only;omega,by simp only [List.length_map];rw [p3];exact h9,by simp only [List.length_map];rw [p3];exact p6,p7,p8,fun _=>⟨rfl,rfl,rfl⟩,fun _=>rfl,fun h=>by simp only at h;omega⟩),hf.tail⟩
     ·cases h
end Go.Proofs.YtmkmafkkpigfpaaGreatDoor
namespace Go.Proofs.YtmkmafkkpigfpaaGreatDoor
open Go.ChangeShapes Go.WideShapes Go.ChangeAt Go.RowKit Go.Lib
set_option linter.unusedVariables false
set_option linter.unusedSimpArgs false
set_option maxRecDepth 100000
section
variable {r1 r2:Md→Nat→List Tk→Rz}
end
theorem P_lvl (F L o:Nat) (l:List Tk):P (F+1) (.lvl L) o l=if L=7 then atomP (P F) o l
 else if L=2∨L=6 then preP (P F) L o l
 else if L=3 then cmpP (P F) o l
 else (P F (.lvl (L+1)) o l).bnd fun ns r=>P F (.tail L ns) o r:=by rw [P]
theorem P_tail (F L:Nat) (ns:List Nd) (o:Nat) (l:List Tk):P (F+1) (.tail L ns) o l=if inL L l=0 then .ok ns l else (pairP (P F) L ns o l).bnd fun ns' r=>P F (.tail L ns') o r:=by rw [P]
theorem P_args (F op lo hi:Nat) (ln cl:Int) (ns:List Nd) (ks:List Nat) (o:Nat) (l:List Tk):P (F+1) (.args op lo hi ln cl ns ks) o l=argsP (P F) op lo hi ln cl ns ks o l:=by rw [P]
section
variable {o:Nat} {l:List Tk}
end
end Go.Proofs.YtmkmafkkpigfpaaGreatDoor
namespace Go.Proofs.YtmkmafkkpigfpaaGreatDoor
open Go.ChangeShapes Go.WideShapes Go.ChangeAt Go.RowKit Go.Lib
set_option linter.unusedVariables false
set_option linter.unusedSimpArgs false
set_option maxRecDepth 100000
def Nd.bare (x:Nd):Nd:={ x with ln:=0,cl:=0 }
theorem bare_k {x y:Tk} (h:x.bare=y.bare):x.k=y.k:=by have e:=congrArg Tk.k h;exact e
theorem bare_t {x y:Tk} (h:x.bare=y.bare):x.t=y.t:=by have e:=congrArg Tk.t h;exact e
theorem bare_vk {x y:Tk} (h:x.bare=y.bare):x.vk=y.vk:=by have e:=congrArg Tk.vk h;exact e
theorem bare_vn {x y:Tk} (h:x.bare=y.bare):x.vn=y.vn:=by have e:=congrArg Tk.vn h;exact e
theorem bare_vs {x y:Tk} (h:x.bare=y.bare):x.vs=y.vs:=by have e:=congrArg Tk.vs h;exact e
theorem isT_bare {x y:Tk} (h:x.bare=y.bare) (s:List UInt8):isT x s=isT y s:=by
 have h1:x.k=y.k:=bare_k h
 have h2:x.t=y.t:=bare_t h
 unfold isT
 rw [h1,h2]
theorem inT_bare {x y:Tk} (h:x.bare=y.bare) (L:Nat):inT L x=inT L y:=by
 have h2:x.t=y.t:=bare_t h
 unfold inT
 rw [h2,isT_bare h]
def Bq (e a b:List Tk):Prop:=b.map Tk.bare=a.map Tk.bare++e
structure Cl (e:List Tk):Prop where
 cons:∃ c e2,e=c::e2∧c.k=7∧c.t=[41]
theorem Bq.cons {e a b:List Tk} (h:Bq e a b) (ha:a≠[]):(wordL b).bare=(wordL a).bare∧Bq e a.tail b.tail∧b≠[]:=by
 cases a with
 | nil=>exact absurd rfl ha
 | cons x a=>
   cases b with
   | nil=>simp [Bq] at h
   | cons y b=>
     simp only [Bq,List.map_cons,List.cons_append,List.cons.injEq] at h
     exact ⟨h.1,h.2,by simp⟩
theorem Bq.nil {e b:List Tk} (h:Bq e [] b) (he:Cl e):(wordL b).k=7∧(wordL b).t=[41]:=by
 obtain ⟨c,e2,rfl,h1,h2⟩:=he.cons
 cases b with
 | nil=>simp [Bq] at h
 | cons y b=>
   simp only [Bq,List.map_cons,List.map_nil,List.nil_append,List.cons.injEq] at h
   have k1:y.k=c.k:=by have e:=congrArg Tk.k h.1;exact e
   have k2:y.t=c.t:=by have e:=congrArg Tk.t h.1;exact e
   exact ⟨k1.trans h1,k2.trans h2⟩
theorem Bq.is {e a b:List Tk} (h:Bq e a b) (he:Cl e) {s:List UInt8} (hs:s≠[41]):isL s b=isL s a:=by
 by_cases ha:a=[]
 ·subst ha
  obtain ⟨h1,h2⟩:=h.nil he
  unfold isL isT
  rw [h1,h2]
  have:(([41]:List UInt8)==s)=false:=beq_false_of_ne (fun e=>hs e.symm)
  rw [this]
  simp [wordL,Tk.zero]
 ·exact isT_bare (h.cons ha).1 s
theorem Bq.inf {e a b:List Tk} (h:Bq e a b) (he:Cl e) (L:Nat):inL L b=inL L a:=by
 by_cases ha:a=[]
 ·subst ha
  obtain ⟨h1,h2⟩:=h.nil he
  unfold inL inT
  rw [h2,show (inOp [41])=(0,0) from rfl]
  simp [wordL,Tk.zero,isT]
 ·exact inT_bare (h.cons ha).1 L
theorem Bq.shut {e a b:List Tk} (h:Bq e a b) (ha:isL [41] a=true):isL [41] b=true:=by
 rw [←ha]
 exact isT_bare (h.cons (isL_ne ha)).1 _
inductive Sim:Md→Md→Prop
 | lvl (L:Nat):Sim (.lvl L) (.lvl L)
 | tail (L:Nat) {ns ns':List Nd}:ns'.map Nd.bare=ns.map Nd.bare→Sim (.tail L ns) (.tail L ns')
 | args (op lo hi:Nat) {ln cl ln' cl':Int} {ns ns':List Nd} (ks:List Nat):ns'.map Nd.bare=ns.map Nd.bare→Sim (.args op lo hi ln cl ns ks) (.args op lo hi ln' cl' ns' ks)
def Out (e:List Tk) (ns:List Nd) (r:List Tk) (X:Rz):Prop:=(∃ ns' r',X=.ok ns' r'∧ns'.map Nd.bare=ns.map Nd.bare∧Bq e r r')∨∃ r',X=.no 12 r'
theorem Out.bnd {e:List Tk} {ns ns2:List Nd} {r r2:List Tk} {X:Rz} {f:List Nd→List Tk→Rz} (h:Out e ns r X) (hf:∀ ns' r',ns'.map Nd.bare=ns.map Nd.bare→Bq e r r'→Out e ns2 r2 (f ns' r')):Out e ns2 r2 (X.bnd f):=by
 rcases h with ⟨ns',r',rfl,h1,h2⟩|⟨r',rfl⟩
 ·exact hf ns' r' h1 h2
 ·exact Or.inr ⟨r',rfl⟩
theorem Out.ok {e:List Tk} {ns ns':List Nd} {r r':List Tk} (h:ns'.map Nd.bare=ns.map Nd.bare) (k:Bq e r r'):Out e ns r (.ok ns' r'):=Or.inl ⟨ns',r',rfl,h,k⟩
theorem len_bare {a b:List Nd} (h:a.map Nd.bare=b.map Nd.bare):a.length=b.length:=by
 have:=congrArg List.length h
 simpa using this
def Ext (e:List Tk) (rec:Md→Nat→List Tk→Rz):Prop:=∀ m m' o o' l l' ns r,Sim m m'→o≤o'→o'≤12→Bq e l l'→rec m o l=.ok ns r→Out e ns r (rec m' o' l')
section
variable {e:List Tk} {rec:Md→Nat→List Tk→Rz} {o o':Nat} {l l' r:List Tk} {ns:List Nd}
theorem Ext.pair (h:Ext e rec) (he:Cl e) (ho:o≤o') (ho':o'≤12) (hq:Bq e l l') {L:Nat} (hi:inL L l≠0) {ns0 ns0':List Nd} (h0:ns0'.map Nd.bare=ns0.map Nd.bare) (hk:pairP rec L ns0 o l=.ok ns r):Out e ns r (pairP rec L ns0' o' l'):=by
 obtain ⟨a,b,h1,h2⟩:=bnd_ok hk
 obtain ⟨w1,w2,w3⟩:=hq.cons (inL_ne hi)
 injection h2 with h2 h3
 subst h2 h3
 refine (h _ _ _ _ _ _ _ _ (.lvl _) ho ho' w2 h1).bnd (fun ns' r' g1 g2=>Out.ok ?_ g2)
 rw [List.map_append,List.map_append,List.map_append,List.map_append,h0,g1,hq.inf he,len_bare g1]
 rfl
theorem Ext.call (h:Ext e rec) (he:Cl e) (ho:o≤o') (ho':o'≤12) (hq:Bq e l l') (hl:l≠[]) {c:Nat × Nat × Nat} (hk:callP rec c o l=.ok ns r):Out e ns r (callP rec c o' l'):=by
 obtain ⟨w1,w2,w3⟩:=hq.cons hl
 unfold callP at hk ⊢
 split at hk
 ·cases hk
 rename_i hp
 have hp:isL [40] l.tail=true:=by simpa using hp
 split at hk
 ·cases hk
 obtain ⟨a,b,h1,h2⟩:=bnd_ok hk
 rw [w2.is he (by decide),hp,if_neg (by decide)]
 by_cases h12:o'=12
 ·rw [if_pos h12]
  exact Or.inr ⟨_,rfl⟩
 rw [if_neg h12]
 have w4:=(w2.cons (isL_ne hp)).2.1
 refine (h _ _ _ _ _ _ _ _ (.lvl _) (by omega) (by omega) w4 h1).bnd (fun ns' r' g1 g2=>?_)
 rw [len_bare g1]
 exact h _ _ _ _ _ _ _ _ (.args _ _ _ _ g1) (by omega) (by omega) g2 h2
theorem Ext.atom (h:Ext e rec) (he:Cl e) (ho:o≤o') (ho':o'≤12) (hq:Bq e l l') (hk:atomP rec o l=.ok ns r):Out e ns r (atomP rec o' l'):=by
 by_cases hl:l=[]
 ·subst hl
  exact absurd hk (by simp [atomP,wordL,Tk.zero])
 obtain ⟨w1,w2,w3⟩:=hq.cons hl
 have e1:(wordL l').k=(wordL l).k:=bare_k w1
 have e2:(wordL l').t=(wordL l).t:=bare_t w1
 have e3:(wordL l').vk=(wordL l).vk:=bare_vk w1
 have e4:(wordL l').vn=(wordL l).vn:=bare_vn w1
 have e5:(wordL l').vs=(wordL l).vs:=bare_vs w1
 unfold atomP at hk ⊢
 rw [e1,e2,e3,e4,e5]
 split at hk
 ·rename_i hc
  rw [if_pos hc]
  injection hk with h1 h2
  subst h1 h2
  exact Out.ok rfl w2
 rename_i hc
 rw [if_neg hc]
 split at hk
 ·rename_i hc
  rw [if_pos hc]
  injection hk with h1 h2
  subst h1 h2
  exact Out.ok rfl w2
 rename_i hc
 rw [if_neg hc]
 split at hk
 ·rename_i hc
  rw [if_pos hc]
  injection hk with h1 h2
  subst h1 h2
  exact Out.ok rfl w2
 rename_i hc
 rw [if_neg hc]
 split at hk
 ·rename_i hc
  rw [if_pos hc]
  unfold nameP at hk ⊢
  rw [e2]
  split at hk
  ·rename_i hc
   rw [if_pos hc]
   injection hk with h1 h2
   subst h1 h2
   exact Out.ok rfl w2
  rename_i hc
  rw [if_neg hc]
  split at hk
  ·rename_i hc
   rw [if_pos hc]
   injection hk with h1 h2
   subst h1 h2
   exact Out.ok rfl w2
  rename_i hc
  rw [if_neg hc]
  split at hk
  ·rename_i hc
   rw [if_pos hc]
   injection hk with h1 h2
   subst h1 h2
   exact Out.ok rfl w2
  rename_i hc
  rw [if_neg hc]
  cases hcl:callL (wordL l).t with
  | none=>rw [hcl] at hk;cases hk
  | some c=>rw [hcl] at hk;exact h.call he ho ho' hq hl hk
 rename_i hc
 rw [if_neg hc]
 split at hk
 ·rename_i hc
  rw [if_pos hc]
  unfold groupP at hk ⊢
  split at hk
  ·cases hk
  obtain ⟨a,b,h1,h2⟩:=bnd_ok hk
  by_cases h12:o'=12
  ·rw [if_pos h12]
   exact Or.inr ⟨_,rfl⟩
  rw [if_neg h12]
  refine (h _ _ _ _ _ _ _ _ (.lvl _) (by omega) (by omega) w2 h1).bnd (fun ns' r' g1 g2=>?_)
  split at h2
  ·rename_i hs
   rw [if_pos (g2.shut hs)]
   injection h2 with h3 h4
   subst h3 h4
   exact Out.ok g1 (g2.cons (isL_ne hs)).2.1
  ·cases h2
 ·cases hk
theorem preW_ne (L:Nat):preW L≠[41]:=by
 unfold preW
 split<;>decide
theorem Ext.pre (h:Ext e rec) (he:Cl e) (ho:o≤o') (ho':o'≤12) (hq:Bq e l l') {L:Nat} (hk:preP rec L o l=.ok ns r):Out e ns r (preP rec L o' l'):=by
 unfold preP at hk ⊢
 rw [hq.is he (preW_ne L)]
 split at hk
 ·rename_i hc
  rw [if_pos hc]
  exact h _ _ _ _ _ _ _ _ (.lvl _) ho ho' hq hk
 rename_i hc
 rw [if_neg hc]
 split at hk
 ·cases hk
 obtain ⟨a,b,h1,h2⟩:=bnd_ok hk
 injection h2 with h2 h3
 subst h2 h3
 by_cases h12:o'=12
 ·rw [if_pos h12]
  exact Or.inr ⟨_,rfl⟩
 rw [if_neg h12]
 obtain ⟨w1,w2,w3⟩:=hq.cons (isL_ne (by simpa using hc))
 refine (h _ _ _ _ _ _ _ _ (.lvl _) (by omega) (by omega) w2 h1).bnd (fun ns' r' g1 g2=>Out.ok ?_ g2)
 rw [List.map_append,List.map_append,g1]
 rfl
theorem Ext.cmp (h:Ext e rec) (he:Cl e) (ho:o≤o') (ho':o'≤12) (hq:Bq e l l') (hk:cmpP rec o l=.ok ns r):Out e ns r (cmpP rec o' l'):=by
 obtain ⟨a,b,h1,h2⟩:=bnd_ok hk
 refine (h _ _ _ _ _ _ _ _ (.lvl _) ho ho' hq h1).bnd (fun ns' r' g1 g2=>?_)
 rw [g2.inf he]
 split at h2
 ·rename_i hc
  rw [if_pos hc]
  injection h2 with h3 h4
  subst h3 h4
  exact Out.ok g1 g2
 ·rename_i hc
  rw [if_neg hc]
  exact h.pair he ho ho' g2 hc g1 h2
theorem Ext.args (h:Ext e rec) (he:Cl e) (ho:o≤o') (ho':o'≤12) (hq:Bq e l l') {op lo hi:Nat} {ln cl ln' cl':Int} {ns0 ns0':List Nd} {ks:List Nat} (h0:ns0'.map Nd.bare=ns0.map Nd.bare) (hk:argsP rec op lo hi ln cl ns0 ks o l=.ok ns r):Out e ns r (argsP rec op lo hi ln' cl' ns0' ks o' l'):=by
 unfold argsP at hk ⊢
 rw [hq.is he (by decide)]
 split at hk
 ·rename_i hc
  rw [if_pos hc]
  split at hk
  ·cases hk
  rename_i hm
  rw [if_neg hm]
  obtain ⟨a,b,h1,h2⟩:=bnd_ok hk
  obtain ⟨w1,w2,w3⟩:=hq.cons (isL_ne hc)
  refine (h _ _ _ _ _ _ _ _ (.lvl _) ho ho' w2 h1).bnd (fun ns' r' g1 g2=>?_)
  rw [len_bare h0,len_bare g1]
  exact h _ _ _ _ _ _ _ _ (.args _ _ _ _ (by rw [List.map_append,List.map_append,h0,g1])) ho ho' g2 h2
 rename_i hc
 rw [if_neg hc]
 split at hk
 ·cases hk
 rename_i hlo
 split at hk
 ·rename_i hs
  rw [hq.shut hs,if_neg (fun hh=>hlo ⟨hs,hh.2⟩),if_pos rfl]
  injection hk with h3 h4
  subst h3 h4
  refine Out.ok ?_ (hq.cons (isL_ne hs)).2.1
  rw [List.map_append,List.map_append,h0,len_bare h0]
  rfl
 ·cases hk
end
theorem ext {e:List Tk} (he:Cl e):∀ F,Ext e (P F)
 | 0=>by
   intro m m' o o' l l' ns r hm ho ho' hq h
   cases h
 | F+1=>by
   have ih:=ext he F
   intro m m' o o' l l' ns r hm ho ho' hq h
   cases hm with
   | lvl L=>
     rw [P_lvl] at h ⊢
     split at h
     ·rename_i hc
      rw [if_pos hc]
      exact ih.atom he ho ho' hq h
     rename_i hc
     rw [if_neg hc]
     split at h
     ·rename_i hc
      rw [if_pos hc]
      exact ih.pre he ho ho' hq h
     rename_i hc
     rw [if_neg hc]
     split at h
     ·rename_i hc
      rw [if_pos hc]
      exact ih.cmp he ho ho' hq h
     rename_i hc
     rw [if_neg hc]
     obtain ⟨a,b,h1,h2⟩:=bnd_ok h
     exact (ih _ _ _ _ _ _ _ _ (.lvl _) ho ho' hq h1).bnd (fun ns' r' g1 g2=>ih _ _ _ _ _ _ _ _ (.tail _ g1) ho ho' g2 h2)
   | tail L h0=>
     rw [P_tail] at h ⊢
     rw [hq.inf he]
     split at h
     ·rename_i hc
      rw [if_pos hc]
      injection h with h3 h4
      subst h3 h4
      exact Out.ok h0 hq
     ·rename_i hc
      rw [if_neg hc]
      obtain ⟨a,b,h1,h2⟩:=bnd_ok h
      exact (ih.pair he ho ho' hq hc h0 h1).bnd (fun ns' r' g1 g2=>ih _ _ _ _ _ _ _ _ (.tail _ g1) ho ho' g2 h2)
   | args op lo hi ks h0=>
     rw [P_args] at h ⊢
     exact ih.args he ho ho' hq h0 h
end Go.Proofs.YtmkmafkkpigfpaaGreatDoor
namespace Go.Proofs.YtmkmafkkpigfpaaGreatDoor
open Go.ChangeShapes Go.WideShapes Go.ChangeAt Go.RowKit Go.Lib
set_option linter.unusedVariables false
set_option linter.unusedSimpArgs false
set_option maxRecDepth 100000
theorem skip_same:∀ (m:Bool) (l:List UInt8) (L C L2 C2:Nat),(skipL m l L C).1=(skipL m l L2 C2).1
 | m,[],L,C,L2,C2=>by cases m<;>rfl
 | true,c::r,L,C,L2,C2=>by
   unfold skipL
   split
   ·exact skip_same false r _ _ _ _
   ·exact skip_same true r _ _ _ _
 | false,c::r,L,C,L2,C2=>by
   unfold skipL
   split
   ·exact skip_same false r _ _ _ _
   split
   ·exact skip_same false r _ _ _ _
   split
   ·exact skip_same true r _ _ _ _
   ·rfl
theorem skip_other {l l':List UInt8} {L C L' C':Nat} (h:skipL false l L C=(l',L',C')) (L2 C2:Nat):∃ L3 C3,skipL false l L2 C2=(l',L3,C3):=by
 have:=skip_same false l L2 C2 L C
 rw [h] at this
 have this:(skipL false l L2 C2).1=l':=this
 exact ⟨(skipL false l L2 C2).2.1,(skipL false l L2 C2).2.2,by rw [←this]⟩
theorem Wds.any {s:List UInt8} {L C:Nat} {T:List Tk} {E ln cl:Int} (h:Wds s L C T E ln cl):∀ L2 C2,∃ (T2:List Tk) (ln2 cl2:Int),Wds s L2 C2 T2 E ln2 cl2∧T2.map Tk.bare=T.map Tk.bare:=by
 induction h with
 | done hs=>
   intro L2 C2
   obtain ⟨L3,C3,g⟩:=skip_other hs L2 C2
   exact ⟨[],0,0,.done g,rfl⟩
 | bad hs h1=>
   intro L2 C2
   obtain ⟨L3,C3,g⟩:=skip_other hs L2 C2
   exact ⟨[],_,_,.bad g h1,rfl⟩
 | @word l L C c r L' C' T E ln cl hs h1 _ ih=>
   intro L2 C2
   obtain ⟨L3,C3,g⟩:=skip_other hs L2 C2
   obtain ⟨T2,ln2,cl2,h2,h3⟩:=ih L3 (C3+wlen (c::r))
   refine ⟨_,ln2,cl2,.word g h1 h2,?_⟩
   rw [List.map_cons,List.map_cons,h3]
   rfl
theorem Wds.nil (L C:Nat):Wds [] L C [] 0 0 0:=.done rfl
end Go.Proofs.YtmkmafkkpigfpaaGreatDoor
namespace Go.Proofs.YtmkmafkkpigfpaaGreatDoor
open Go.ChangeShapes Go.WideShapes Go.ChangeAt Go.RowKit Go.Lib
set_option linter.unusedVariables false
set_option linter.unusedSimpArgs false
set_option maxRecDepth 100000
theorem unq_len:∀ l:List UInt8,(unqL l).length≤l.length
 | []=>Nat.le_refl _
 | [c]=>Nat.le_refl _
 | c::d::r=>by
   unfold unqL
   have h1:=unq_len r
   have h2:=unq_len (d::r)
   simp only [List.length_cons] at h2
   split
   ·simp only [List.length_cons];omega
   ·simp only [List.length_cons];omega
theorem read_len (l:List UInt8):(readL l).s.length≤l.length:=by
 cases l with
 | nil=>simp [readL]
 | cons c r=>
   rw [readL]
   repeat' split
   all_goals first
    | (simp;done)
    | (have h1:=unq_len (Lib.trimSuffix r [34])
       have h2:=Lib.trimSuffix_le r [34]
       simp only [List.length_cons]
       omega)
theorem parse_len (l:List UInt8):(parseL l).s.length≤l.length:=by
 have:=read_len l
 unfold parseL
 repeat' split
 all_goals first|exact this|simp
theorem mean_ok {l:List UInt8} (h:(meanW l).2=0):(meanW l).1.t.length≤l.length∧(meanW l).1.vs.length≤l.length∧((meanW l).1.k=2→isName (meanW l).1.t=true):=by
 have hu:(l.take (wlen l)).length≤l.length:=by rw [List.length_take];omega
 unfold meanW at h ⊢
 revert hu h
 generalize l.take (wlen l)=u
 generalize kindL l=k
 intro h hu
 have ht:u.tail.length≤u.length:=by rw [List.length_tail];omega
 have hp:=parse_len u
 have nam:∀ (k:Int) (v:List UInt8),(namedL k v).2=0→namedL k v=(⟨k,v,0,0,[],0,0⟩,0)∧isName v=true:=fun k v hv=>by
  unfold namedL at hv ⊢
  split at hv
  ·rename_i hn
   exact ⟨if_pos hn,hn⟩
  ·cases hv
 have val:∀ (k:Int),k≠2→(valuedL k u).2=0→(valuedL k u).1.t.length≤l.length∧(valuedL k u).1.vs.length≤l.length∧((valuedL k u).1.k=2→isName (valuedL k u).1.t=true):=fun k hk hv=>by
  unfold valuedL at hv ⊢
  split at hv
  ·cases hv
  rename_i c1
  rw [if_neg c1]
  split at hv
  ·cases hv
  rename_i c2
  rw [if_neg c2]
  refine ⟨?_,?_,fun h=>absurd h hk⟩
  ·simp only
   split
   ·rw [List.length_take,List.length_tail];omega
   ·exact hu
  ·simp only;omega
 unfold meanL at h ⊢
 split at h
 ·rename_i c
  rw [if_pos c,(nam _ _ h).1]
  exact ⟨hu,by simp,fun h=>by simp at h⟩
 rename_i c
 rw [if_neg c]
 split at h
 ·rename_i c
  rw [if_pos c,(nam _ _ h).1]
  exact ⟨by simp only;omega,by simp,fun _=>(nam _ _ h).2⟩
 rename_i c
 rw [if_neg c]
 split at h
 ·rename_i c
  rw [if_pos c]
  split at h
  ·rename_i c
   rw [if_pos c,(nam _ _ c).1]
   exact ⟨by simp only;omega,by simp only;omega,fun h=>by simp at h⟩
  ·rename_i c
   exact absurd h c
 rename_i c
 rw [if_neg c]
 split at h
 ·rename_i c
  rw [if_pos c]
  exact val 4 (by decide) h
 rename_i c
 rw [if_neg c]
 split at h
 ·rename_i c
  rw [if_pos c]
  exact val 5 (by decide) h
 rename_i c
 rw [if_neg c]
 split at h
 ·rename_i c
  rw [if_pos c]
  exact ⟨by simp,by simp,fun h=>by simp at h⟩
 rename_i c
 rw [if_neg c]
 split at h
 ·rename_i c
  rw [if_pos c]
  exact ⟨hu,by simp,fun h=>by simp at h⟩
 ·cases h
theorem skip_bnd:∀ (m:Bool) (l:List UInt8) (L C:Nat),1≤C→L≤(skipL m l L C).2.1∧1≤(skipL m l L C).2.2∧(skipL m l L C).2.1+(skipL m l L C).1.length≤L+l.length∧(skipL m l L C).2.2+(skipL m l L C).1.length≤C+l.length
 | m,[],L,C,h=>by cases m<;>simp [skipL]<;>omega
 | true,c::r,L,C,h=>by
   unfold skipL
   split
   ·have:=skip_bnd false r (L+1) 1 (Nat.le_refl _)
    simp only [List.length_cons]
    omega
   ·have:=skip_bnd true r L (C+1) (by omega)
    simp only [List.length_cons]
    omega
 | false,c::r,L,C,h=>by
   unfold skipL
   split
   ·have:=skip_bnd false r L (C+1) (by omega)
    simp only [List.length_cons]
    omega
   split
   ·have:=skip_bnd false r (L+1) 1 (Nat.le_refl _)
    simp only [List.length_cons]
    omega
   split
   ·have:=skip_bnd true r L (C+1) (by omega)
    simp only [List.length_cons]
    omega
   ·simp only [List.length_cons]
    omega
structure WdB (M:Nat) (x:Tk):Prop extends WdOk x where
 lnM:x.ln≤M
 clM:x.cl≤M
 tM:x.t.length≤M
 vM:x.vs.length≤M
theorem Wds.fine {s:List UInt8} {L C:Nat} {T:List Tk} {E ln cl:Int} (h:Wds s L C T E ln cl):∀ (M:Nat),1≤L→1≤C→L+s.length≤M→C+s.length≤M→∀ x∈T,WdB M x:=by
 induction h with
 | done hs=>intro M _ _ _ _ x hx;cases hx
 | bad hs h1=>intro M _ _ _ _ x hx;cases hx
 | @word l L C c r L' C' T E ln cl hs h1 _ ih=>
   intro M hL hC hM1 hM2 x hx
   have hb:=skip_bnd false l L C hC
   rw [hs] at hb
   simp only at hb
   have hl:=take_len (l:=c::r) (by simp)
   have hle:=wlen_le (l:=c::r) (by simp)
   obtain ⟨m1,m2,m3⟩:=mean_ok h1
   rcases List.mem_cons.1 hx with rfl|hx
   ·exact ⟨⟨by simp only [Tk.at];omega,by simp only [Tk.at];omega,m3⟩,by simp only [Tk.at];omega,by simp only [Tk.at];omega,by simp only [Tk.at];omega,by simp only [Tk.at];omega⟩
   ·exact ih M (by omega) (by omega) (by rw [List.length_drop];omega) (by rw [List.length_drop];omega) x hx
end Go.Proofs.YtmkmafkkpigfpaaGreatDoor
namespace Go.Proofs.YtmkmafkkpigfpaaGreatDoor
open Go.ChangeShapes Go.WideShapes Go.ChangeAt Go.RowKit Go.Lib
set_option linter.unusedVariables false
set_option linter.unusedSimpArgs false
set_option maxRecDepth 100000
def Rz.suf (l:List Tk):Rz→Prop
 | .ok _ r=>r <:+ l
 | .no _ r=>r <:+ l
 | .out=>True
theorem suf_bnd {l:List Tk} {x:Rz} {f:List Nd→List Tk→Rz} (h:x.suf l) (hf:∀ ns r,r <:+ l→(f ns r).suf l):(x.bnd f).suf l:=by
 cases x with
 | out=>trivial
 | no e r=>exact h
 | ok ns r=>exact hf ns r h
theorem suf_ite {l:List Tk} {c:Prop} [Decidable c] {a b:Rz} (ha:a.suf l) (hb:b.suf l):(if c then a else b).suf l:=by split<;>assumption
theorem Rz.suf.up {l l':List Tk} {x:Rz} (h:x.suf l') (hl:l' <:+ l):x.suf l:=by
 cases x with
 | out=>trivial
 | no e r=>exact h.trans hl
 | ok ns r=>exact h.trans hl
theorem sufs:∀ F m o l,(P F m o l).suf l
 | 0,m,o,l=>trivial
 | F+1,m,o,l=>by
   have ih:∀ m o l l',l' <:+ l→(P F m o l').suf l:=fun m o l l' h=>(sufs F m o l').up h
   have s0:∀ l:List Tk,l <:+ l:=fun l=>List.suffix_refl l
   have s1:∀ l:List Tk,l.tail <:+ l:=fun l=>List.tail_suffix l
   have s2:∀ l l':List Tk,l' <:+ l→l'.tail <:+ l:=fun l l' h=>(List.tail_suffix l').trans h
   have hp:∀ L ns o l l',l' <:+ l→(pairP (P F) L ns o l').suf l:=fun L ns o l l' h=>suf_bnd (ih _ _ _ _ (s2 _ _ h)) (fun _ _ h=>h)
   cases m with
   | lvl L=>
     rw [P_lvl]
     refine suf_ite ?_ (suf_ite ?_ (suf_ite ?_ (suf_bnd (ih _ _ _ _ (s0 l)) (fun _ _ h=>ih _ _ _ _ h))))
     ·refine suf_ite (s1 l) (suf_ite (s1 l) (suf_ite (s1 l) (suf_ite ?_ (suf_ite ?_ (s0 l)))))
      ·refine suf_ite (s1 l) (suf_ite (s1 l) (suf_ite (s1 l) ?_))
       cases callL (wordL l).t with
       | none=>exact s0 l
       | some c=>exact suf_ite (s1 l) (suf_ite (s1 l) (suf_bnd (ih _ _ _ _ (s2 _ _ (s1 l))) (fun _ _ h=>ih _ _ _ _ h)))
      ·exact suf_ite (s0 l) (suf_bnd (ih _ _ _ _ (s1 l)) (fun _ _ h=>suf_ite (s2 _ _ h) h))
     ·exact suf_ite (ih _ _ _ _ (s0 l)) (suf_ite (s0 l) (suf_bnd (ih _ _ _ _ (s1 l)) (fun _ _ h=>h)))
     ·exact suf_bnd (ih _ _ _ _ (s0 l)) (fun _ _ h=>suf_ite h (hp _ _ _ _ _ h))
   | tail L ns=>
     rw [P_tail]
     exact suf_ite (s0 l) (suf_bnd (hp _ _ _ _ _ (s0 l)) (fun _ _ h=>ih _ _ _ _ h))
   | args op lo hi ln cl ns ks=>
     rw [P_args]
     exact suf_ite (suf_ite (s0 l) (suf_bnd (ih _ _ _ _ (s1 l)) (fun _ _ h=>ih _ _ _ _ h))) (suf_ite (s0 l) (suf_ite (s1 l) (s0 l)))
theorem suf_drop {r l:List Tk} (h:r <:+ l):∃ n,r=l.drop n∧n≤l.length:=by
 obtain ⟨p,rfl⟩:=h
 exact ⟨p.length,by simp,by simp⟩
theorem parseX_no {A:List Tk} {e:Int} {r:List Tk} (h:parseX A=.no e r):∃ n,r=A.drop n∧n≤A.length:=by
 have:=sufs (fuelOf A) (.lvl 0) 0 A
 rw [show P (fuelOf A) (.lvl 0) 0 A=.no e r from h] at this
 exact suf_drop this
theorem parseX_ok {A:List Tk} {ns:List Nd} {r:List Tk} (h:parseX A=.ok ns r):∃ n,r=A.drop n∧n≤A.length:=by
 have:=sufs (fuelOf A) (.lvl 0) 0 A
 rw [show P (fuelOf A) (.lvl 0) 0 A=.ok ns r from h] at this
 exact suf_drop this
end Go.Proofs.YtmkmafkkpigfpaaGreatDoor
namespace Go.Proofs.YtmkmafkkpigfpaaGreatDoor
open Go.ChangeShapes Go.WideShapes Go.ChangeAt Go.RowKit Go.Lib
set_option linter.unusedVariables false
set_option linter.unusedSimpArgs false
set_option maxRecDepth 100000
end Go.Proofs.YtmkmafkkpigfpaaGreatDoor
