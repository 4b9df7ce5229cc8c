/- What stays of memory; a value and its box. Values as a law's arguments: how they are opened and read again; the row's last step. The row's last step where nothing turns: true, whatever the arguments' types. A statement that draws its order, by what each of its operations leaves: one goal an. -/
import Derived.Test.YtkellpcljiodeaaGreatDoorRows
import Derived.WalkKit
import Derived.ProofKit
import Derived.OpenShut
import Derived.OwnWalk
import Derived.Below
import Derived.Laws.Cover1
import Derived.Lib.Hide
import Derived.BigQuiet
import Derived.Deep.QuietTactic
import Derived.Deep.RegionHeld3
import Derived.ChangeSame
import Derived.Lib.SmallJoins
import Derived.ReadAgain
import Derived.OrdersHeld
namespace Go.Proofs.YtkellpcljiodeaaGreatDoor
open Go.ChangeShapes Go.WideShapes Go.ChangeAt Go.RowKit Go.Lib
set_option linter.unusedVariables false
set_option maxRecDepth 100000
structure Old (w w':World):Prop where
 os:w'.os=w.os
 output:w'.output=w.output
 size:w.heap.size≤w'.heap.size
 block:∀ k,k<w.heap.size→w'.heap[k]?=w.heap[k]?
theorem Old.refl (w:World):Old w w:=⟨rfl,rfl,Nat.le_refl _,fun _ _=>rfl⟩
theorem Old.trans {a b c:World} (h:Old a b) (k:Old b c):Old a c:=
 ⟨k.os.trans h.os,k.output.trans h.output,Nat.le_trans h.size k.size,fun i hi=>(k.block i (Nat.lt_of_lt_of_le hi h.size)).trans (h.block i hi)⟩
theorem Old.ofBelow {B:Nat} {w w':World} (h:Below B w w') (hB:w.heap.size≤B):Old w w':=⟨h.os,h.output,h.size,fun k hk=>h.block k (by omega)⟩
theorem Old.drew {a w:World} (h:Old a w):Old a w.drew:=⟨h.os,h.output,h.size,h.block⟩
theorem Old.drewN {a w:World} (h:Old a w) (n:Nat):Old a (w.drewN n):=⟨h.os,h.output,h.size,h.block⟩
theorem Old.alloc {a w:World} (h:Old a w) (o:Obj):Old a (w.alloc o):=
 h.trans ⟨rfl,rfl,by simp,fun k hk=>Below.heap_alloc _ _ _ (by omega)⟩
theorem Old.setCell {a w:World} (h:Old a w) {p:Addr} (hp:a.heap.size≤p.block) (u:Value):Old a (w.setCell p u):=
 ⟨h.os,h.output,by have:=h.size;simp [World.setCell];exact this,fun k hk=>(Below.heap_setCell _ _ _ _ (by omega)).trans (h.block k hk)⟩
theorem Old.grown {a w w':World} {row:Option Nat} (h:Old a w) (hg:w.grownBy w' row) (hr:∀ k,row=some k→a.heap.size≤k):Old a w':=
 ⟨hg.os.trans h.os,hg.output.trans h.output,Nat.le_trans h.size hg.size,fun k hk=>(hg.block k (Nat.lt_of_lt_of_le hk h.size) (fun e=>by have:=hr k e.symm;omega)).trans (h.block k hk)⟩
theorem Old.cell {w w':World} (h:Old w w') {p:Addr} (hp:p.block<w.heap.size):w'.cell? p=w.cell? p:=World.cell?_of_block (w:=w) (h.block p.block hp)
theorem Old.frozen {w w':World} (h:Old w w') {p:Addr} (hp:p.block<w.heap.size):w'.frozen? p=w.frozen? p:=World.frozen?_of_block (w:=w) (h.block p.block hp)
theorem Old.frame {W w':World} (h:Old W w') (may:MemPlace→Prop):W.keptBut w' may:=by
 refine ⟨h.os,h.output,fun i hi=>?_⟩
 rw [h.block i hi]
 split<;>simp_all
abbrev vl (k n:Int) (s:ByteArray):Value:=.agg #[.int .u8 k,.int .i64 n,.string s]
abbrev rv (k n er:Int) (s:ByteArray):Ending:=.returned (.tuple #[vl k n s,.int .i64 er])
theorem rb (a b:Bool) (h:a=b):Ending.returned (.bool a)=.returned (.bool b):=by rw [h]
theorem ba_ext {a b:ByteArray} (h:a.toList=b.toList):a=b:=by
 have e:∀ s:ByteArray,s.toList=s.data.toList:=fun s=>ByteArray.toList_eq s
 rw [e,e] at h
 cases a;cases b
 congr 1
 exact Array.toList_inj.1 h
def Three (w:World) (b:Nat) (x y z:Value):Prop:=w.heap[b]?=some (.cells #[x,y,z] 35 (0,0))
theorem Three.c0 {w:World} {b:Nat} {x y z:Value} (h:Three w b x y z):w.cell? ⟨b,0,none⟩=some x:=by unfold Three at h;simp [World.cell?,h]
theorem Three.c1 {w:World} {b:Nat} {x y z:Value} (h:Three w b x y z):w.cell? ⟨b,1,none⟩=some y:=by unfold Three at h;simp [World.cell?,h]
theorem Three.c2 {w:World} {b:Nat} {x y z:Value} (h:Three w b x y z):w.cell? ⟨b,2,none⟩=some z:=by unfold Three at h;simp [World.cell?,h]
theorem Three.f {w:World} {b:Nat} {x y z:Value} (h:Three w b x y z) (o:Nat):w.frozen? ⟨b,o,none⟩=false:=by unfold Three at h;simp [World.frozen?,h]
theorem blk_lt {w:World} {b:Nat} {o:Obj} (h:w.heap[b]?=some o):b<w.heap.size:=by
 rcases Nat.lt_or_ge b w.heap.size with h1|h1
 ·exact h1
 ·rw [Array.getElem?_eq_none h1] at h;cases h
theorem Three.lt {w:World} {b:Nat} {x y z:Value} (h:Three w b x y z):b<w.heap.size:=by
 unfold Three at h
 rcases Nat.lt_or_ge b w.heap.size with h1|h1
 ·exact h1
 ·rw [Array.getElem?_eq_none h1] at h;cases h
theorem Three.alloc {w:World} {b:Nat} {x y z:Value} (h:Three w b x y z) (o:Obj):Three (w.alloc o) b x y z:=(Below.heap_alloc w o b h.lt).trans h
theorem Three.new (w:World) (x y z:Value):Three (w.alloc (.cells #[x,y,z] 35)) w.heap.size x y z:=(MapKept.heap_alloc w _).1
theorem Three.old {w w':World} {b:Nat} {x y z:Value} (h:Three w b x y z) (ho:Old w w'):Three w' b x y z:=(ho.block b h.lt).trans h
theorem Three.drew {w:World} {b:Nat} {x y z:Value} (h:Three w b x y z):Three w.drew b x y z:=h
theorem sz_alloc (w:World) (o:Obj):(w.alloc o).heap.size=w.heap.size+1:=by simp
def I64 (n:Int):Prop:=-9223372036854775808≤n∧n≤9223372036854775807
instance (n:Int):Decidable (I64 n):=inferInstanceAs (Decidable (_∧_))
theorem Three.set0 {w:World} {b:Nat} {x y z:Value} (h:Three w b x y z) (u:Value):Three (w.setCell ⟨b,0,none⟩ u) b u y z:=by
 have hlt:=h.lt
 unfold Three at *
 have h':w.heap[b]=.cells #[x,y,z] 35 (0,0):=by simpa [Array.getElem?_eq_getElem hlt] using h
 show (w.heap.modify b _)[b]?=_
 rw [Array.getElem?_modify,if_pos rfl,h]
 simp
theorem Three.set1 {w:World} {b:Nat} {x y z:Value} (h:Three w b x y z) (u:Value):Three (w.setCell ⟨b,1,none⟩ u) b x u z:=by
 have hlt:=h.lt
 unfold Three at *
 have h':w.heap[b]=.cells #[x,y,z] 35 (0,0):=by simpa [Array.getElem?_eq_getElem hlt] using h
 show (w.heap.modify b _)[b]?=_
 rw [Array.getElem?_modify,if_pos rfl,h]
 simp
theorem Three.set2 {w:World} {b:Nat} {x y z:Value} (h:Three w b x y z) (u:Value):Three (w.setCell ⟨b,2,none⟩ u) b x y u:=by
 have hlt:=h.lt
 unfold Three at *
 have h':w.heap[b]=.cells #[x,y,z] 35 (0,0):=by simpa [Array.getElem?_eq_getElem hlt] using h
 show (w.heap.modify b _)[b]?=_
 rw [Array.getElem?_modify,if_pos rfl,h]
 simp
theorem Three.set {w:World} {b:Nat} {x y z:Value} (h:Three w b x y z) (u0 u1 u2:Value):Three (((w.setCell ⟨b,0,none⟩ u0).setCell ⟨b,1,none⟩ u1).setCell ⟨b,2,none⟩ u2) b u0 u1 u2:=((h.set0 u0).set1 u1).set2 u2
theorem old3 {W w:World} {b:Nat} (ho:Old W w) (hb:W.heap.size≤b) (u0 u1 u2:Value):Old W (((w.setCell ⟨b,0,none⟩ u0).setCell ⟨b,1,none⟩ u1).setCell ⟨b,2,none⟩ u2):=((ho.setCell (p:=⟨b,0,none⟩) hb u0).setCell (p:=⟨b,1,none⟩) hb u1).setCell (p:=⟨b,2,none⟩) hb u2
end Go.Proofs.YtkellpcljiodeaaGreatDoor
namespace Go.Proofs.YtkellpcljiodeaaGreatDoor
open Go.ChangeShapes Go.WideShapes Go.ChangeAt Go.RowKit Go.Joins
set_option linter.unusedVariables false
set_option maxRecDepth 100000
theorem own:ownKnob Tryz.prog.godebug=none:=by kernel_rfl
theorem post_of_old {H:Type} {enc:TypeId × Value→H} {P:Program} {f:Func} {s:ChangeSpec} {apart fresh handsOn again:Bool} {W W':World} {args:Array Value} {v:Value} {ds gs:List (DataW H)} {before pa pv:List MemPlace}
 (hW:DataW.Whole enc P f.params.toList s.vars apart W args.toList ds gs before)
 (hres:∀ (b:Nat) (sp:Nat→Bool) (hd:Bool),DataW.TrodAll enc P W' b sp hd f.resultTypes.toList (v.resultList f.resultTypes.size) (s.fn H (ds++gs)).results [])
 (hargs:∀ sp:Nat→Bool,(∀ p∈before,sp p.block=true)→DataW.TrodAll enc P W' 0 sp true f.params.toList args.toList (s.fn H (ds++gs)).args pa)
 (hvars:∀ sp:Nat→Bool,(∀ p∈before,sp p.block=true)→DataW.TrodVars enc P W' sp s.vars (s.fn H (ds++gs)).vars pv)
 (hps:before=pa++pv) (ho:Old W W')
 (hok:∀ (j:Nat) (t:TypeId) (r:Value),f.resultTypes[j]?=some t→(v.resultList f.resultTypes.size)[j]?=some r→Value.okWide P W' .any 0 t r) :
 s.post enc P f apart fresh handsOn again W args v W':=by
 have hlt:∀ p∈before,p.block<W.heap.size:=fun p hp=>hW.lt p hp
 have hin:∀ p∈before,(fun b=>decide (b<W.heap.size)) p.block=true:=fun p hp=>decide_eq_true (hlt p hp)
 have hpart:∀ p∈before,p∈pa∨p∈pv:=fun p hp=>List.mem_append.1 (hps▸hp)
 refine ⟨ds,gs,before,[],pa,pv,hW,hres _ _ _,hargs _ hin,hvars _ hin,World.keptBut_mono (fun p hp=>⟨hp,Or.inr (hpart p hp)⟩) (ho.frame (·∈ before)),fun _=>?_⟩
 obtain ⟨_,_,_,_,_,hz,hn⟩:=hW
 refine ⟨hok,_,_,([]++pa)++pv,⟨[]++pa,pv,trodAll_append (hargs _ (fun _ _=>rfl)) (hres _ _ _),hvars _ (fun _ _=>rfl),rfl,fun b off hp=>?_,fun ha=>?_⟩,fun p hp _=>?_⟩
 ·have hb:MemPlace.cell b off∈before:=by rw [hps];simpa using hp
  rw [ho.frozen (hlt _ hb)]
  exact hz b off hb
 ·have:=hn ha
  rw [hps] at this
  simpa using this
 ·rw [hps]
  simpa using hp
theorem Old.sameP {w w':World} (ho:Old w w') {p:MemPlace} (hp:p.block<w.heap.size):w.sameAt w' p:=by
 cases p with
 | cell b off=>exact ho.cell (p:=⟨b,off,none⟩) hp
 | map b=>exact ho.block b hp
section
variable {H:Type} {enc:TypeId × Value→H} {P:Program} {W W':World} {base:Nat} {sp:Nat→Bool} {held:Bool}
theorem trodAll_old (ho:Old W W'):∀ {ts:List TypeId} {vs:List Value} {ds:List (DataW H)} {ps:List MemPlace},DataW.TrodAll enc P W base sp held ts vs ds ps→(∀ p∈ps,p.block<W.heap.size)→DataW.TrodAll enc P W' base sp held ts vs ds ps
 | [],[],[],_,h,_=>h
 | _::_,_::_,_::_,_,⟨p,q,⟨n,h1⟩,h2,e⟩,hs=>
   ⟨p,q,⟨n,DataW.trod_carry n _ _ _ h1 (fun x hx=>ho.sameP (hs x (by rw [e];exact List.mem_append_left _ hx)))⟩,trodAll_old ho h2 (fun x hx=>hs x (by rw [e];exact List.mem_append_right _ hx)),e⟩
theorem post_true {f:Func} {s:ChangeSpec} {apart fresh handsOn again:Bool} {args:Array Value} {ds:List (DataW H)} {before:List MemPlace} {tb:TypeId}
 (K:Kids P (·< P.types.size)) (hz:∀ t e,t<P.types.size→P.underlying t=some (.slice e)→0<P.cellsOf e) (hts:∀ t∈f.params.toList,t<P.types.size)
 (hvs:s.vars=[]) (hW:DataW.Whole enc P f.params.toList s.vars apart W args.toList ds [] before)
 (hs:s.fn H ds={ results:=[.lit (.bool true)],args:=ds }) (hr:f.resultTypes=#[tb]) (htb:P.underlying tb=some .bool) (ho:Old W W') :
 s.post enc P f apart fresh handsOn again W args (.bool true) W':=by
 have hW':=hW
 obtain ⟨p,q,hA,hV,hpq,hfz,hnd⟩:=hW
 have hlt:∀ x∈before,x.block<W.heap.size:=fun x hx=>hW'.lt x hx
 rw [hvs] at hV
 obtain ⟨_,rfl⟩:=trodVars_none hV
 simp only [List.append_nil] at hpq
 subst hpq
 refine post_of_old (pa:=before) (pv:=[]) hW' (fun b sp hd=>?_) (fun sp hsp=>?_) (fun sp _=>?_) (by simp) ho ?_
 ·rw [List.append_nil,hs,hr]
  exact trodAll_cons_mk (shut_bool htb _) trodAll_mk0
 ·rw [List.append_nil,hs]
  exact trodAll_old ho (DataW.TrodAll.respare K hz hts hA (fun x hx=>hsp x hx)) hlt
 ·rw [hvs,List.append_nil,hs]
  exact rfl
 ·exact ok_one hr rfl (okWide_bool_mk htb _)
end
theorem types_ok {f:Func} (h:(f.params.toList.all fun t=>decide (t<Tryz.prog.types.size))=true):∀ t∈f.params.toList,t<Tryz.prog.types.size:=fun t ht=>by
 have:=List.all_eq_true.1 h t ht
 simpa using this
theorem kids:Kids Tryz.prog (·< Tryz.prog.types.size):=kids_rows (by kernel_rfl) (by kernel_rfl)
theorem full:∀ t e,t<Tryz.prog.types.size→Tryz.prog.underlying t=some (.slice e)→0<Tryz.prog.cellsOf e:=slices_full_of Tryz.prog (by kernel_rfl)
end Go.Proofs.YtkellpcljiodeaaGreatDoor
namespace Go.Proofs.YtkellpcljiodeaaGreatDoor
def dstOf (ops:Array Oper) (i:Nat):Nat:=((ops[i]?).bind (·.dst)).getD 0
def okOps (ops:Array Oper) (n:Nat):Bool:=
 (List.range ops.size).all fun i=>match ops[i]? with
   | none=>false
   | some o=>(match o.dst with
      | some d=>decide (d<n)&&(List.range i).all (fun j=>dstOf ops j != d)
      | none=>false)&&o.after.toList.all (fun e=>decide (e.on<i))&&(match o.guard with
      | some (g,_)=>decide (g<i)
      | none=>true)
def Does (P:Program) (ρ:Operand→Value) (o:Oper) (w:World) (K:Value→World→Prop):Prop:=
 match (execOp ρ o).run P w with
 | .ok (.value v) w'=>K v w'
 | .ok (.enter f args) w'=>Calls P f args w' fun e w''=>∃ v,e=.returned v∧K v w''
 | _=>False
def Want (ops:Array Oper) (ρ:Operand→Value) (o:Oper):Prop:=
 match o.guard with
 | none=>True
 | some (g,want)=>ρ (.tmp (dstOf ops g))=.bool want
def Deps (ops:Array Oper) (Φ:Nat→Value→World→Prop) (ρ:Operand→Value) (w:World):List Edge→Prop
 | []=>True
 | e::l=>(Region.binds .any e=true→Φ e.on (ρ (.tmp (dstOf ops e.on))) w)∧Deps ops Φ ρ w l
def Reads (ops:Array Oper) (a0:Act) (ρ:Operand→Value):Prop:=
 (∀ t,ops.toList.all (fun o=>o.dst != some t)=true→ρ (.tmp t)=a0.eval (.tmp t))∧(∀ v,ρ (.const v)=v)∧(∀ g,ρ (.global g)=.pointer (some ⟨g,0,none⟩))∧(∀ f,ρ (.func f)=.func (.func f) #[] #[])
def Step (P:Program) (ops:Array Oper) (Φ:Nat→Value→World→Prop) (R:World→World→Prop) (a0:Act) (W:World) (i:Nat) (o:Oper):Prop:=
 ∀ (ρ:Operand→Value) (w:World),R W w→Reads ops a0 ρ→Deps ops Φ ρ w o.after.toList→
   (Want ops ρ o→Does P ρ o w fun v w'=>Φ i v w'∧R w w')∧(¬ Want ops ρ o→Φ i undef w)
def Steps (P:Program) (ops:Array Oper) (Φ:Nat→Value→World→Prop) (R:World→World→Prop) (a0:Act) (W:World):Nat→List Oper→Prop
 | _,[]=>True
 | i,o::l=>Step P ops Φ R a0 W i o∧Steps P ops Φ R a0 W (i+1) l
def Left (ops:Array Oper) (Φ:Nat→Value→World→Prop) (a:Act) (w:World):Nat→List Oper→Prop
 | _,[]=>True
 | i,o::l=>Φ i (a.eval (.tmp ((o.dst).getD 0))) w∧Left ops Φ a w (i+1) l
structure Stay (ops:Array Oper) (a0 a:Act):Prop where
 defers:a.defers=a0.defers
 size:a.tmps.size=a0.tmps.size
 old:∀ t,ops.toList.all (fun o=>o.dst != some t)=true→a.eval (.tmp t)=a0.eval (.tmp t)
section
variable {P:Program} {ops:Array Oper} {Q:Exit→Act→World→Prop} {Φ:Nat→Value→World→Prop} {R:World→World→Prop} {a0:Act} {W:World}
theorem okOps_at {n:Nat} (h:okOps ops n=true) {i:Nat} {o:Oper} (ho:ops[i]?=some o) :
 (∃ d,o.dst=some d∧d<n∧∀ j,j<i→dstOf ops j≠d)∧(∀ e∈o.after,e.on<i)∧(∀ g b,o.guard=some (g,b)→g<i):=by
 have hlt:i<ops.size:=(Array.getElem?_eq_some_iff.1 ho).1
 have h1:=(List.all_eq_true.1 h) i (List.mem_range.2 hlt)
 simp only [ho,Bool.and_eq_true] at h1
 obtain ⟨⟨h2,h3⟩,h4⟩:=h1
 refine ⟨?_,?_,?_⟩
 ·cases hd:o.dst with
  | none=>rw [hd] at h2;simp at h2
  | some d=>
    rw [hd] at h2
    simp only [Bool.and_eq_true,decide_eq_true_eq,List.all_eq_true,List.mem_range,bne_iff_ne,ne_eq] at h2
    exact ⟨d,rfl,h2.1,h2.2⟩
 ·intro e he
  have:=(List.all_eq_true.1 h3) e (by simpa using he)
  simpa using this
 ·intro g b hg
  rw [hg] at h4
  simpa using h4
theorem dstOf_at {i:Nat} {o:Oper} {d:Nat} (ho:ops[i]?=some o) (hd:o.dst=some d):dstOf ops i=d:=by
 simp [dstOf,ho,hd]
theorem okOps_ne {n:Nat} (h:okOps ops n=true) {i j:Nat} {oi oj:Oper} {di dj:Nat} (hi:ops[i]?=some oi) (hj:ops[j]?=some oj) (hdi:oi.dst=some di) (hdj:oj.dst=some dj) (hne:i≠j):di≠dj:=by
 obtain ⟨⟨d,hd,_,hd2⟩,_⟩:=okOps_at h hi
 obtain ⟨⟨d',hd',_,hd2'⟩,_⟩:=okOps_at h hj
 have e1:d=di:=by rw [hd] at hdi;simpa using hdi
 have e2:d'=dj:=by rw [hd'] at hdj;simpa using hdj
 subst e1 e2
 rcases Nat.lt_or_ge j i with hlt|hge
 ·intro he;exact hd2 j hlt (by rw [dstOf_at hj hd',he])
 ·intro he;exact hd2' i (by omega) (by rw [dstOf_at hi hd,he])
theorem steps_at:∀ (l:List Oper) (k:Nat),Steps P ops Φ R a0 W k l→∀ i o,l[i]?=some o→Step P ops Φ R a0 W (k+i) o
 | [],_,_,i,o,h=>by simp at h
 | x::l,k,hs,0,o,h=>by
   simp at h;subst h;exact hs.1
 | x::l,k,hs,i+1,o,h=>by
   have:=steps_at l (k+1) hs.2 i o (by simpa using h)
   rwa [show k+1+i=k+(i+1) by omega] at this
theorem left_of {a:Act} {w:World}:∀ (l:List Oper) (k:Nat),(∀ i o,l[i]?=some o→Φ (k+i) (a.eval (.tmp ((o.dst).getD 0))) w)→Left ops Φ a w k l
 | [],_,_=>trivial
 | x::l,k,h=>⟨by simpa using h 0 x (by simp),left_of l (k+1) fun i o hi=>by
    have:=h (i+1) o (by simpa using hi)
    rwa [show k+(i+1)=k+1+i by omega] at this⟩
theorem deps_of {ρ:Operand→Value} {w:World}:∀ (l:List Edge),(∀ e∈l,Region.binds .any e=true→Φ e.on (ρ (.tmp (dstOf ops e.on))) w)→Deps ops Φ ρ w l
 | [],_=>trivial
 | e::l,h=>⟨h e (by simp),deps_of l fun e' he'=>h e' (by simp [he'])⟩
theorem reads_of {a:Act} (h:Stay ops a0 a):Reads ops a0 a.eval:=⟨h.old,fun _=>rfl,fun _=>rfl,fun _=>rfl⟩
theorem wanted_iff {n:Nat} (hok:okOps ops n=true) {i:Nat} {o:Oper} (ho:ops[i]?=some o) {a:Act} (hs:n≤a.tmps.size):Region.wanted o (yielded ops a.tmps)=true↔Want ops a.eval o:=by
 unfold Region.wanted Want
 cases hg:o.guard with
 | none=>simp
 | some gb=>
   obtain ⟨g,b⟩:=gb
   have hlt:=(okOps_at hok ho).2.2 g b hg
   have hgs:g<ops.size:=Nat.lt_trans hlt (Array.getElem?_eq_some_iff.1 ho).1
   have hog:ops[g]?=some ops[g]:=Array.getElem?_eq_getElem hgs
   obtain ⟨⟨d,hd,hdn,_⟩,_⟩:=okOps_at hok hog
   have hda:d<a.tmps.size:=Nat.lt_of_lt_of_le hdn hs
   simp only [yielded,hog,Option.bind_some,hd,dstOf,Option.getD_some,Act.eval]
   rw [Array.getElem?_eq_getElem hda]
   simp only [Array.getD,hda,dif_pos]
   cases hv:a.tmps[d]<;>simp_all
theorem count_set {l:List Bool} {i:Nat} (h:l[i]?=some false):(l.set i true).count false+1=l.count false:=by
 have hlt:i<l.length:=(List.getElem?_eq_some_iff.1 h).1
 have hv:l[i]=false:=(List.getElem?_eq_some_iff.1 h).2
 have hc:0<l.count false:=by
  apply List.count_pos_iff.2
  rw [←hv]
  exact List.getElem_mem hlt
 rw [List.count_set hlt]
 simp [hv]
 omega
theorem wpAny_inv (hok:okOps ops a0.tmps.size=true) (hRr:∀ x,R x x) (hRt:∀ x y z,R x y→R y z→R x z) (hmono:∀ i v x y,R x y→Φ i v x→Φ i v y)
 (hstep:Steps P ops Φ R a0 W 0 ops.toList)
 (hend:∀ a w,R W w→Stay ops a0 a→Left ops Φ a w 0 ops.toList→Q .normal a w) :
 ∀ (fuel:Nat) (listed:Array Bool) (a:Act) (w:World),listed.size=ops.size→listed.toList.count false≤fuel→R W w→Stay ops a0 a→
   (∀ i o,ops[i]?=some o→listed.getD i true=true→Φ i (a.eval (.tmp ((o.dst).getD 0))) w)→
   wpAny P .any ops Q fuel listed a w:=by
 have hdone:∀ (listed:Array Bool) (a:Act) (w:World),R W w→Stay ops a0 a→(∀ i,i<ops.size→listed.getD i true=true)→
  (∀ i o,ops[i]?=some o→listed.getD i true=true→Φ i (a.eval (.tmp ((o.dst).getD 0))) w)→Q .normal a w:=by
  intro listed a w hR hS hall hΦ
  refine hend a w hR hS (left_of _ _ fun i o ho=>?_)
  have ho':ops[i]?=some o:=by simpa using ho
  rw [Nat.zero_add]
  exact hΦ i o ho' (hall i (Array.getElem?_eq_some_iff.1 ho').1)
 intro fuel
 induction fuel with
 | zero=>
   intro listed a w hsz hc hR hS hΦ
   have hall:∀ i,listed.getD i true=true:=by
    intro i
    by_cases hi:i<listed.size
    ·cases hv:listed[i] with
     | true=>simp [Array.getD,hi,hv]
     | false=>
       exfalso
       have:0<listed.toList.count false:=List.count_pos_iff.2 (by rw [←hv];simp)
       omega
    ·simp [Array.getD,hi]
   refine ⟨?_,hdone listed a w hR hS (fun i _=>hall i) hΦ⟩
   apply List.eq_nil_iff_forall_not_mem.2
   intro i hi
   have:=(mem_ready.1 hi).1
   rw [hall i] at this
   cases this
 | succ fuel ih=>
   intro listed a w hsz hc hR hS hΦ
   refine ⟨fun hr=>?_,fun i hi=>?_⟩
   ·refine hdone listed a w hR hS ?_ hΦ
    intro i
    induction i using Nat.strongRecOn with
    | ind i ihi=>
      intro hlt
      cases hv:listed.getD i true with
      | true=>rfl
      | false=>
        exfalso
        have ho:ops[i]?=some ops[i]:=Array.getElem?_eq_getElem hlt
        have:i∈Region.ready .any ops listed:=mem_ready.2 ⟨hv,ops[i],ho,fun e he _=>by
         have hl:=(okOps_at hok ho).2.1 e he
         have h1:=ihi e.on hl (by omega)
         have h2:e.on<listed.size:=by omega
         simpa [Array.getD,h2] using h1⟩
        rw [hr] at this
        cases this
   ·obtain ⟨h0,o,ho,hall⟩:=mem_ready.1 hi
    have hlt:i<ops.size:=(Array.getElem?_eq_some_iff.1 ho).1
    obtain ⟨⟨d,hd,hdn,_⟩,_,_⟩:=okOps_at hok ho
    have hda:d<a.tmps.size:=by rw [hS.size];exact hdn
    have hs:=steps_at ops.toList 0 hstep i o (by simpa using ho)
    rw [Nat.zero_add] at hs
    have hdeps:Deps ops Φ a.eval w o.after.toList:=deps_of _ fun e he hb=>by
     have he':e∈o.after:=by simpa using he
     have hl:=(okOps_at hok ho).2.1 e he'
     have h2:e.on<ops.size:=by omega
     have h3:=hall e he' hb
     have h4:listed.getD e.on true=true:=by
      have:e.on<listed.size:=by omega
      simpa [Array.getD,this] using h3
     have hoe:ops[e.on]?=some ops[e.on]:=Array.getElem?_eq_getElem h2
     have h5:=hΦ e.on _ hoe h4
     rwa [show dstOf ops e.on=((ops[e.on]).dst).getD 0 by simp [dstOf,hoe]]
    obtain ⟨hyes,hno⟩:=hs a.eval w hR (reads_of hS) hdeps
    have hlf:listed.toList[i]?=some false:=by
     have hil:i<listed.size:=by omega
     have:listed[i]=false:=by simpa [Array.getD,hil] using h0
     simp [hil,this]
    have hgo:∀ v w',Φ i v w'→R w w'→wpAny P .any ops Q fuel (listed.setIfInBounds i true) (a.put o.dst v) w':=by
     intro v w' hv hw
     have hput:∀ t,t≠d→(a.put o.dst v).eval (.tmp t)=a.eval (.tmp t):=by
      intro t ht
      simp only [hd,Act.put,Act.eval]
      simp [Array.getElem?_setIfInBounds_ne (Ne.symm ht)]
     refine ih _ _ _ (by simp [hsz]) ?_ (hRt _ _ _ hR hw) ⟨?_,?_,?_⟩ ?_
     ·have:=count_set hlf
      simp only [Array.toList_setIfInBounds]
      omega
     ·rw [hd];exact hS.defers
     ·rw [hd];simp only [Act.put,Array.size_setIfInBounds];exact hS.size
     ·intro t ht
      have:t≠d:=by
       intro he
       subst he
       have:=(List.all_eq_true.1 ht) o (by
        have:=List.mem_of_getElem? (l:=ops.toList) (i:=i) (a:=o) (by simpa using ho)
        exact this)
       simp [hd] at this
      rw [hput t this]
      exact hS.old t ht
     ·intro j oj hoj hlj
      by_cases hji:i=j
      ·subst hji
       have:oj=o:=by rw [ho] at hoj;simpa using hoj.symm
       subst this
       have e1:(a.put oj.dst v).eval (.tmp (oj.dst.getD 0))=v:=by
        simp only [hd,Option.getD_some,Act.put,Act.eval]
        simp [hda]
       rw [e1]
       exact hv
      ·obtain ⟨⟨dj,hdj,_,_⟩,_,_⟩:=okOps_at hok hoj
       have hne:dj≠d:=okOps_ne hok hoj ho hdj hd (Ne.symm hji)
       rw [hdj,Option.getD_some,hput dj hne]
       have h6:=hΦ j oj hoj (by rwa [getD_set_ne true hji] at hlj)
       rw [hdj,Option.getD_some] at h6
       exact hmono j _ _ _ hw h6
    unfold wpOp
    simp only [ho]
    have hw:=wanted_iff hok ho (a:=a) (by rw [hS.size];exact Nat.le_refl _)
    by_cases hwa:Want ops a.eval o
    ·rw [if_pos (hw.2 hwa)]
     refine Or.inl ?_
     have hdo:=hyes hwa
     unfold Oper.wp
     unfold Does at hdo
     generalize (execOp a.eval o).run P w=r at hdo
     cases r with
     | ok n w'=>
       cases n<;>simp only at hdo<;>try exact hdo.elim
       case value v=>exact hgo v w' hdo.1 hdo.2
       case enter f args=>
        refine Calls.mono hdo fun e w'' he=>?_
        obtain ⟨v,rfl,h1,h2⟩:=he
        exact hgo v w'' h1 h2
     | halt x w'=>exact hdo.elim
    ·rw [if_neg (fun h=>hwa (hw.1 h))]
     exact hgo undef w (hno hwa) (hRr w)
def Same (ops:Array Oper) (a0 a:Act):Nat→List Value→Prop
 | k,[]=>a0.tmps.size=k
 | k,x::l=>(x=a.eval (.tmp k)∨(x=a0.eval (.tmp k)∧ops.toList.all (fun o=>o.dst != some k)=true))∧Same ops a0 a (k+1) l
theorem same_at {a:Act} (hS:Stay ops a0 a):∀ (l:List Value) (k:Nat),Same ops a0 a k l→a0.tmps.size=k+l.length∧∀ i,i<l.length→l[i]?=some (a.eval (.tmp (k+i)))
 | [],k,h=>⟨by simpa [Same] using h,fun i hi=>by simp at hi⟩
 | x::l,k,h=>by
   obtain ⟨h1,h2⟩:=h
   obtain ⟨e,f⟩:=same_at hS l (k+1) h2
   refine ⟨by simp only [List.length_cons];omega,fun i hi=>?_⟩
   cases i with
   | zero=>
     rcases h1 with h1|⟨h1,h3⟩
     ·simp [h1]
     ·simp [h1,hS.old k h3]
   | succ i=>
     have:=f i (by simpa using hi)
     rw [show k+(i+1)=k+1+i by omega]
     simpa using this
theorem act_eq {a:Act} (hS:Stay ops a0 a) {l:List Value} (h:Same ops a0 a 0 l):a=⟨l.toArray,a0.defers⟩:=by
 obtain ⟨e,f⟩:=same_at hS l 0 h
 obtain ⟨tm,df⟩:=a
 have hd:df=a0.defers:=hS.defers
 subst hd
 congr 1
 have hsz:tm.size=l.length:=by have:=hS.size;simp only at this;omega
 apply Array.ext
 ·simpa using hsz
 ·intro i h1 h2
  have h3:=f i (by omega)
  rw [Nat.zero_add] at h3
  simp only [Act.eval,Array.getD,h1,dif_pos] at h3
  have h4:i<l.length:=by omega
  rw [List.getElem?_eq_getElem h4] at h3
  simpa using h3.symm
theorem wp_region_inv {id:Nat} {a:Act} {w:World} (Φ:Nat→Value→World→Prop) (hm:P.follows .mixedOrders=true) (hok:okOps ops a.tmps.size=true)
 (hmono:∀ i v x y,Old x y→Φ i v x→Φ i v y)
 (hstep:Steps P ops Φ Old a w 0 ops.toList)
 (hend:∀ a' w',Old w w'→Stay ops a a'→Left ops Φ a' w' 0 ops.toList→Q .normal a' w'):(Code.region id ops true).wp P Q a w:=by
 refine wp_region_any hm (wpAny_inv hok Old.refl (fun _ _ _=>Old.trans) hmono hstep hend ops.size _ a _ (by simp) ?_ ((Old.refl w).drew) ⟨rfl,rfl,fun _ _=>rfl⟩ ?_)
 ·simp
 ·intro i o ho hl
  have hlt:i<ops.size:=(Array.getElem?_eq_some_iff.1 ho).1
  simp [hlt] at hl
end
end Go.Proofs.YtkellpcljiodeaaGreatDoor
