/- A statement that draws its order and lays boxes of one type that it fills behind its. Contracts of the library that this seat needs, laid at its program (the shelf's own, in. strings.Builder's WriteByte, as the shelf has it, laid by hand (the one command passes it. What a call of the library's asks of the world, and that it stays; strconv.FormatUint at. Layer vtext: digits. decimals as text. strings.Builder, told apart from the caller's own rows of bytes: which blocks a WriteByte. -/
import Derived.Shelf.Small.Strs
import Derived.Shelf.Strings.Cut
import Derived.Shelf.Strings.Runes
import Derived.Shelf.Strings.AsciiSet
import Derived.Lib.ItoaMem
import Derived.Lib.ParseIntB
import Derived.Shelf.Strings.Trim
import Derived.Lib.ItoaLen
import Derived.Deep.CutRange
import Derived.Laws.AppendOwn
import Derived.Test.YtmkmafkkpigfpaaGreatDoorIB
namespace Go.Proofs.YtmkmafkkpigfpaaGreatDoor
set_option linter.unusedVariables false
structure OldN (T:TypeId) (isN:Array Value→Prop) (w w':World):Prop where
 size:w.heap.size≤w'.heap.size
 block:∀ k,k<w.heap.size→w'.heap[k]?=w.heap[k]?∨∃ c c',w.heap[k]?=some (.cells c T (0,0))∧isN c∧w'.heap[k]?=some (.cells c' T (0,0))∧isN c'
theorem OldN.ofOld {T:TypeId} {isN:Array Value→Prop} {w w':World} (h:Old w w'):OldN T isN w w':=⟨h.size,fun k hk=>Or.inl (h.block k hk)⟩
def okOps2 (ops:Array Oper) (st:Nat→Option Nat) (n:Nat):Bool:=
 (List.range ops.size).all fun i=>match ops[i]? with
   | none=>false
   | some o=>(match o.dst with
      | some d=>decide (d<n)&&(List.range i).all (fun j=>dstOf ops j != d)&&decide (d≠0)
      | none=>(st i).isSome)&&o.after.toList.all (fun e=>!(Region.binds .any e)||decide (e.on<i))&&(match o.guard with
      | some (g,_)=>decide (g<i)&&(match ops[g]? with|some og=>og.dst.isSome|none=>false)
      | none=>true)
section
variable {P:Program} {ops:Array Oper} {Q:Exit→Act→World→Prop} {Φ:Nat→Value→World→Prop} {Ψ:Nat→Array Value→World→Prop} {a0:Act} {W:World}
variable {al:Nat→Bool} {st:Nat→Option Nat} {z:Array Value} {T:TypeId} {isN:Array Value→Prop}
def StepA (P:Program) (z:Array Value) (T:TypeId) (o:Oper):Prop:=
 o.guard=none∧o.dst≠none∧∀ (ρ:Operand→Value) (w:World),(execOp ρ o).run P w=.ok (.value (.pointer (some ⟨w.heap.size,0,none⟩))) (w.alloc (.cells z T (0,0)))
def StepS (P:Program) (ops:Array Oper) (Φ:Nat→Value→World→Prop) (Ψ:Nat→Array Value→World→Prop) (z:Array Value) (T:TypeId) (isN:Array Value→Prop) (a0:Act) (W:World) (i:Nat) (o:Oper) (j:Nat):Prop:=
 o.guard=none∧o.dst=none∧(∃ e∈o.after.toList,Region.binds .any e=true∧e.on=j)∧
 ∀ (ρ:Operand→Value) (w:World) (b:Nat),Old W w→Reads ops a0 ρ→Deps ops Φ ρ w o.after.toList→ρ (.tmp (dstOf ops j))=.pointer (some ⟨b,0,none⟩)→w.heap[b]?=some (.cells z T (0,0))→
   ∃ c w',(execOp ρ o).run P w=.ok .skip w'∧isN c∧Ψ i c w∧w'.os=w.os∧w'.output=w.output∧w'.heap.size=w.heap.size∧w'.heap[b]?=some (.cells c T (0,0))∧∀ k,k≠b→w'.heap[k]?=w.heap[k]?
def Steps2 (P:Program) (ops:Array Oper) (Φ:Nat→Value→World→Prop) (Ψ:Nat→Array Value→World→Prop) (al:Nat→Bool) (st:Nat→Option Nat) (z:Array Value) (T:TypeId) (isN:Array Value→Prop) (a0:Act) (W:World):Nat→List Oper→Prop
 | _,[]=>True
 | i,o::l=>(match st i with
    | some j=>StepS P ops Φ Ψ z T isN a0 W i o j
    | none=>if al i=true then StepA P z T o else o.dst≠none∧Step P ops Φ Old a0 W i o)∧Steps2 P ops Φ Ψ al st z T isN a0 W (i+1) l
theorem steps2_at:∀ (l:List Oper) (k:Nat),Steps2 P ops Φ Ψ al st z T isN a0 W k l→∀ i o,l[i]?=some o→(match st (k+i) with
 | some j=>StepS P ops Φ Ψ z T isN a0 W (k+i) o j
 | none=>if al (k+i)=true then StepA P z T o else o.dst≠none∧Step P ops Φ Old a0 W (k+i) o)
 | [],_,_,i,o,h=>by simp at h
 | x::l,k,hs,0,o,h=>by
   simp at h;subst h;exact hs.1
 | x::l,k,hs,i+1,o,h=>by
   have:=steps2_at l (k+1) hs.2 i o (by simpa using h)
   rwa [show k+1+i=k+(i+1) by omega] at this
structure Boxes (ops:Array Oper) (Ψ:Nat→Array Value→World→Prop) (al:Nat→Bool) (st:Nat→Option Nat) (z:Array Value) (T:TypeId) (isN:Array Value→Prop) (W:World) (listed:Nat→Bool) (a:Act) (w:World) (β:Nat→Nat):Prop where
 ptr:∀ j o,ops[j]?=some o→al j=true→listed j=true→a.eval (.tmp (o.dst.getD 0))=.pointer (some ⟨β j,0,none⟩)∧W.heap.size≤β j∧∃ c,w.heap[β j]?=some (.cells c T (0,0))∧isN c∧((∀ i,i<ops.size→st i=some j→listed i=false)→c=z)∧(∀ i,i<ops.size→st i=some j→listed i=true→Ψ i c w)
 inj:∀ j j',j<ops.size→j'<ops.size→al j=true→al j'=true→listed j=true→listed j'=true→β j=β j'→j=j'
 dep:∀ i j,i<ops.size→st i=some j→listed i=true→listed j=true
theorem okOps2_at {n:Nat} (h:okOps2 ops st n=true) {i:Nat} {o:Oper} (ho:ops[i]?=some o) :
 (match o.dst with
   | some d=>d<n∧(∀ j,j<i→dstOf ops j≠d)∧d≠0
   | none=>(st i).isSome=true)∧(∀ e∈o.after,Region.binds .any e=true→e.on<i)∧(∀ g b,o.guard=some (g,b)→g<i∧∃ og d,ops[g]?=some og∧og.dst=some d):=by
 have hlt:i<ops.size:=(Array.getElem?_eq_some_iff.1 ho).1
 have h1:=(List.all_eq_true.1 h) i (List.mem_range.2 hlt)
 simp only [ho,Bool.and_eq_true] at h1
 obtain ⟨⟨h2,h3⟩,h4⟩:=h1
 refine ⟨?_,?_,?_⟩
 ·cases hd:o.dst with
  | none=>rw [hd] at h2;exact h2
  | some d=>
    rw [hd] at h2
    simp only [Bool.and_eq_true,decide_eq_true_eq,List.all_eq_true,List.mem_range,bne_iff_ne,ne_eq] at h2
    exact ⟨h2.1.1,h2.1.2,h2.2⟩
 ·intro e he hb
  have:=(List.all_eq_true.1 h3) e (by simpa using he)
  simpa [hb] using this
 ·intro g b hg
  rw [hg] at h4
  simp only [Bool.and_eq_true,decide_eq_true_eq] at h4
  refine ⟨h4.1,?_⟩
  cases hog:ops[g]? with
  | none=>rw [hog] at h4;exact absurd h4.2 (by simp)
  | some og=>
    have h5:=h4.2
    simp only [hog] at h5
    obtain ⟨d,hd⟩:=Option.isSome_iff_exists.1 h5
    exact ⟨og,d,rfl,hd⟩
theorem okOps2_ne {n:Nat} (h:okOps2 ops st n=true) {i j:Nat} {oi oj:Oper} {di dj:Nat} (hi:ops[i]?=some oi) (hj:ops[j]?=some oj) (hdi:oi.dst=some di) (hdj:oj.dst=some dj) (hne:i≠j):di≠dj:=by
 have h1:=(okOps2_at h hi).1
 have h2:=(okOps2_at h hj).1
 rw [hdi] at h1
 rw [hdj] at h2
 rcases Nat.lt_or_ge j i with hlt|hge
 ·intro he;exact h1.2.1 j hlt (by rw [dstOf_at hj hdj,he])
 ·intro he;exact h2.2.1 i (by omega) (by rw [dstOf_at hi hdi,he])
theorem wanted_iff2 {n:Nat} (hok:okOps2 ops st n=true) {i:Nat} {o:Oper} (ho:ops[i]?=some o) {a:Act} (hs:n≤a.tmps.size):Region.wanted o (yielded ops a.tmps)=true↔Want ops a.eval o:=by
 unfold Region.wanted Want
 cases hg:o.guard with
 | none=>simp
 | some gb=>
   obtain ⟨g,b⟩:=gb
   obtain ⟨hlt,og,d,hog,hd⟩:=(okOps2_at hok ho).2.2 g b hg
   have hgs:=(okOps2_at hok hog).1
   rw [hd] at hgs
   have hda:d<a.tmps.size:=Nat.lt_of_lt_of_le hgs.1 hs
   simp only [yielded,hog,Option.bind_some,hd,dstOf,Option.getD_some,Act.eval]
   rw [Array.getElem?_eq_getElem hda]
   simp only [Array.getD,hda,dif_pos]
   cases hv:a.tmps[d]<;>simp_all
theorem wpAny_inv2 (hok:okOps2 ops st a0.tmps.size=true) (hmono:∀ i v x y,OldN T isN x y→Φ i v x→Φ i v y) (hmonoP:∀ i c x y,OldN T isN x y→Ψ i c x→Ψ i c y)
 (hany:∀ i v w,(al i=true∨(st i).isSome=true)→Φ i v w) (hz:isN z) (hal:∀ i,al i=true→st i=none) (hst:∀ i i' j,st i=some j→st i'=some j→i=i') (hsa:∀ i j,st i=some j→al j=true)
 (hstep:Steps2 P ops Φ Ψ al st z T isN a0 W 0 ops.toList)
 (hend:∀ a w β,Old W w→Stay ops a0 a→Left ops Φ a w 0 ops.toList→Boxes ops Ψ al st z T isN W (fun _=>true) a w β→Q .normal a w) :
 ∀ (fuel:Nat) (listed:Array Bool) (a:Act) (w:World) (β:Nat→Nat),listed.size=ops.size→listed.toList.count false≤fuel→Old W w→Stay ops a0 a→
   (∀ i o,ops[i]?=some o→listed.getD i true=true→Φ i (a.eval (.tmp ((o.dst).getD 0))) w)→
   Boxes ops Ψ al st z T isN W (fun i=>listed.getD i true) a w β→
   wpAny P .any ops Q fuel listed a w:=by
 have hdone:∀ (listed:Array Bool) (a:Act) (w:World) (β:Nat→Nat),Old W w→Stay ops a0 a→(∀ i,i<ops.size→listed.getD i true=true)→
  (∀ i o,ops[i]?=some o→listed.getD i true=true→Φ i (a.eval (.tmp ((o.dst).getD 0))) w)→Boxes ops Ψ al st z T isN W (fun i=>listed.getD i true) a w β→Q .normal a w:=by
  intro listed a w β hR hS hall hΦ hB
  refine hend a w β hR hS (left_of _ _ fun i o ho=>?_) ⟨fun j o ho h1 h2=>?_,fun j j' hj hj' h1 h2 _ _ h3=>hB.inj j j' hj hj' h1 h2 (hall j hj) (hall j' hj') h3,fun _ _ _ _ _=>rfl⟩
  ·have ho':ops[i]?=some o:=by simpa using ho
   rw [Nat.zero_add]
   exact hΦ i o ho' (hall i (Array.getElem?_eq_some_iff.1 ho').1)
  ·obtain ⟨e1,e2,c,e3,e4,e5,e6⟩:=hB.ptr j o ho h1 (hall j (Array.getElem?_eq_some_iff.1 ho).1)
   refine ⟨e1,e2,c,e3,e4,fun h=>e5 fun i hi hs=>?_,fun i hi hs _=>e6 i hi hs (hall i hi)⟩
   exact absurd (h i hi hs) (by simp)
 intro fuel
 induction fuel with
 | zero=>
   intro listed a w β hsz hc hR hS hΦ hB
   have hall:∀ i,listed.getD i true=true:=by
    intro i
    by_cases hi:i<listed.size
    ·cases hv:listed[i] with
     | true=>simp [Array.getD,hi,hv]
     | false=>
       exfalso
       have:0<listed.toList.count false:=List.count_pos_iff.2 (by rw [←hv];simp)
       omega
    ·simp [Array.getD,hi]
   refine ⟨?_,hdone listed a w β hR hS (fun i _=>hall i) hΦ hB⟩
   apply List.eq_nil_iff_forall_not_mem.2
   intro i hi
   have:=(mem_ready.1 hi).1
   rw [hall i] at this
   cases this
 | succ fuel ih=>
   intro listed a w β hsz hc hR hS hΦ hB
   refine ⟨fun hr=>?_,fun i hi=>?_⟩
   ·refine hdone listed a w β hR hS ?_ hΦ hB
    intro i
    induction i using Nat.strongRecOn with
    | ind i ihi=>
      intro hlt
      cases hv:listed.getD i true with
      | true=>rfl
      | false=>
        exfalso
        have ho:ops[i]?=some ops[i]:=Array.getElem?_eq_getElem hlt
        have:i∈Region.ready .any ops listed:=mem_ready.2 ⟨hv,ops[i],ho,fun e he hb=>by
         have hl:=(okOps2_at hok ho).2.1 e he hb
         have h1:=ihi e.on hl (by omega)
         have h2:e.on<listed.size:=by omega
         simpa [Array.getD,h2] using h1⟩
        rw [hr] at this
        cases this
   ·obtain ⟨h0,o,ho,hall⟩:=mem_ready.1 hi
    have hlt:i<ops.size:=(Array.getElem?_eq_some_iff.1 ho).1
    have hlf:listed.toList[i]?=some false:=by
     have hil:i<listed.size:=by omega
     have:listed[i]=false:=by simpa [Array.getD,hil] using h0
     simp [hil,this]
    have hcnt:(listed.setIfInBounds i true).toList.count false≤fuel:=by
     have:=count_set hlf
     simp only [Array.toList_setIfInBounds]
     omega
    have hlist:∀ j,(listed.setIfInBounds i true).getD j true=if j=i then true else listed.getD j true:=by
     intro j
     by_cases hji:j=i
     ·subst hji;simp [Array.getD,show j<listed.size by omega]
     ·rw [if_neg hji,getD_set_ne true (Ne.symm hji)]
    have hdepl:∀ e∈o.after,Region.binds .any e=true→e.on<ops.size∧listed.getD e.on true=true:=by
     intro e he hb
     have hl:=(okOps2_at hok ho).2.1 e he hb
     have h2:e.on<ops.size:=by omega
     have h3:=hall e he hb
     refine ⟨h2,?_⟩
     have:e.on<listed.size:=by omega
     simpa [Array.getD,this] using h3
    have hdeps:Deps ops Φ a.eval w o.after.toList:=deps_of _ fun e he hb=>by
     obtain ⟨h2,h4⟩:=hdepl e (by simpa using he) hb
     have hoe:ops[e.on]?=some ops[e.on]:=Array.getElem?_eq_getElem h2
     have h5:=hΦ e.on _ hoe h4
     rwa [show dstOf ops e.on=((ops[e.on]).dst).getD 0 by simp [dstOf,hoe]]
    have hs:=steps2_at ops.toList 0 hstep i o (by simpa using ho)
    rw [Nat.zero_add] at hs
    have hw:=wanted_iff2 hok ho (a:=a) (by rw [hS.size];exact Nat.le_refl _)
    have hputS:∀ (d:Nat) (v:Value),o.dst=some d→Stay ops a0 (a.put o.dst v)∧(∀ t,t≠d→(a.put o.dst v).eval (.tmp t)=a.eval (.tmp t))∧(a.put o.dst v).eval (.tmp d)=v:=by
     intro d v hd
     have hdn:=(okOps2_at hok ho).1
     rw [hd] at hdn
     have hda:d<a.tmps.size:=by rw [hS.size];exact hdn.1
     have hput:∀ t,t≠d→(a.put o.dst v).eval (.tmp t)=a.eval (.tmp t):=by
      intro t ht
      simp only [hd,Act.put,Act.eval]
      simp [Array.getElem?_setIfInBounds_ne (Ne.symm ht)]
     refine ⟨⟨?_,?_,?_⟩,hput,?_⟩
     ·rw [hd];exact hS.defers
     ·rw [hd];simp only [Act.put,Array.size_setIfInBounds];exact hS.size
     ·intro t ht
      have:t≠d:=by
       intro he
       subst he
       have:=(List.all_eq_true.1 ht) o (List.mem_of_getElem? (l:=ops.toList) (i:=i) (a:=o) (by simpa using ho))
       simp [hd] at this
      rw [hput t this]
      exact hS.old t ht
     ·simp only [hd,Act.put,Act.eval]
      simp [hda]
    have hother:∀ (d:Nat) (v:Value),o.dst=some d→∀ j oj,ops[j]?=some oj→j≠i→oj.dst≠none→(a.put o.dst v).eval (.tmp (oj.dst.getD 0))=a.eval (.tmp (oj.dst.getD 0)):=by
     intro d v hd j oj hoj hji hn
     cases hdj:oj.dst with
     | none=>exact absurd hdj hn
     | some dj=>
       have hne:dj≠d:=okOps2_ne hok hoj ho hdj hd hji
       exact (hputS d v hd).2.1 dj hne
    have hnodst:∀ j oj,ops[j]?=some oj→oj.dst=none→(st j).isSome=true:=by
     intro j oj hoj hn
     have:=(okOps2_at hok hoj).1
     rwa [hn] at this
    cases hsi:st i with
    | some j=>
      simp only [hsi] at hs
      obtain ⟨hg,hdn,⟨e,he,hb,hej⟩,hrun⟩:=hs
      obtain ⟨hjs,hjl⟩:=hdepl e (by simpa using he) hb
      rw [hej] at hjs hjl
      have haj:=hsa i j hsi
      have hoj:ops[j]?=some ops[j]:=Array.getElem?_eq_getElem hjs
      obtain ⟨e1,e2,c,e3,e4,e5,e6⟩:=hB.ptr j _ hoj haj hjl
      have hcz:c=z:=e5 fun i' _ hi'=>by
       have:=hst i' i j hi' hsi
       subst this;exact h0
      subst hcz
      obtain ⟨c',w',r1,r2,r3,r4,r5,r6,r7,r8⟩:=hrun a.eval w (β j) hR (reads_of hS) hdeps (by rw [show dstOf ops j=((ops[j]).dst).getD 0 by simp [dstOf,hoj]];exact e1) e3
      have hON:OldN T isN w w':=⟨by omega,fun k hk=>by
       by_cases hkb:k=β j
       ·subst hkb;exact Or.inr ⟨_,_,e3,e4,r7,r2⟩
       ·exact Or.inl (r8 k hkb)⟩
      have hR':Old W w':=⟨r4.trans hR.os,r5.trans hR.output,by have:=hR.size;omega,fun k hk=>(r8 k (by omega)).trans (hR.block k hk)⟩
      unfold wpOp
      simp only [ho]
      have hwa:Want ops a.eval o:=by unfold Want;rw [hg];trivial
      rw [if_pos (hw.2 hwa)]
      refine Or.inl ?_
      unfold Oper.wp
      rw [r1]
      show wpAny P .any ops Q fuel _ (a.put o.dst undef) w'
      rw [hdn]
      refine ih _ a w' β (by simp [hsz]) hcnt hR' hS ?_ ⟨?_,?_,?_⟩
      ·intro k ok hok' hkl
       rw [hlist] at hkl
       by_cases hki:k=i
       ·subst hki;exact hany _ _ _ (Or.inr (by rw [hsi];rfl))
       ·rw [if_neg hki] at hkl
        exact hmono k _ _ _ hON (hΦ k ok hok' hkl)
      ·intro j' oj' hoj' haj' hjl'
       rw [hlist] at hjl'
       have hji:j'≠i:=by intro h;subst h;rw [hal _ haj'] at hsi;cases hsi
       rw [if_neg hji] at hjl'
       obtain ⟨f1,f2,cc,f3,f4,f5,f6⟩:=hB.ptr j' oj' hoj' haj' hjl'
       by_cases hjj:j'=j
       ·subst hjj
        refine ⟨f1,f2,c',r7,r2,fun h=>?_,fun i' hi' hs' hl'=>?_⟩
        ·have:=h i hlt hsi
         rw [hlist,if_pos rfl] at this
         cases this
        ·have:=hst i' i _ hs' hsi
         subst this
         exact hmonoP _ _ _ _ hON r3
       ·have hne:β j'≠β j:=fun h=>hjj (hB.inj j' j (Array.getElem?_eq_some_iff.1 hoj').1 hjs haj' haj hjl' hjl h)
        refine ⟨f1,f2,cc,(r8 _ hne).trans f3,f4,fun h=>f5 fun i' hi' hs'=>?_,fun i' hi' hs' hl'=>?_⟩
        ·have:=h i' hi' hs'
         rw [hlist] at this
         by_cases hii:i'=i
         ·subst hii;rw [hsi] at hs';exact absurd (Option.some.inj hs').symm hjj
         ·rwa [if_neg hii] at this
        ·rw [hlist] at hl'
         have hii:i'≠i:=by intro h;subst h;rw [hsi] at hs';exact absurd (Option.some.inj hs').symm hjj
         rw [if_neg hii] at hl'
         exact hmonoP _ _ _ _ hON (f6 i' hi' hs' hl')
      ·intro j1 j2 hj1 hj2 a1 a2 l1 l2 hb'
       rw [hlist] at l1 l2
       have n1:j1≠i:=by intro h;subst h;rw [hal _ a1] at hsi;cases hsi
       have n2:j2≠i:=by intro h;subst h;rw [hal _ a2] at hsi;cases hsi
       rw [if_neg n1] at l1
       rw [if_neg n2] at l2
       exact hB.inj j1 j2 hj1 hj2 a1 a2 l1 l2 hb'
      ·intro i1 j1 hi1 hs1 l1
       rw [hlist] at l1 ⊢
       by_cases n1:j1=i
       ·rw [if_pos n1]
       ·rw [if_neg n1]
        by_cases n2:i1=i
        ·subst n2
         rw [hsi] at hs1
         have:=Option.some.inj hs1
         subst this
         exact hjl
        ·rw [if_neg n2] at l1
         exact hB.dep i1 j1 hi1 hs1 l1
    | none=>
      simp only [hsi] at hs
      have hbox:∀ (d:Nat) (v:Value) (w':World),o.dst=some d→Old w w'→∀ j oj,ops[j]?=some oj→al j=true→j≠i→listed.getD j true=true→
       (a.put o.dst v).eval (.tmp (oj.dst.getD 0))=.pointer (some ⟨β j,0,none⟩)∧W.heap.size≤β j∧β j<w.heap.size∧∃ c,w'.heap[β j]?=some (.cells c T (0,0))∧isN c∧((∀ i',i'<ops.size→st i'=some j→(listed.setIfInBounds i true).getD i' true=false)→c=z)∧(∀ i',i'<ops.size→st i'=some j→(listed.setIfInBounds i true).getD i' true=true→Ψ i' c w'):=by
       intro d v w' hd hw' j oj hoj haj hji hjl
       obtain ⟨f1,f2,cc,f3,f4,f5,f6⟩:=hB.ptr j oj hoj haj hjl
       have hbl:β j<w.heap.size:=(Array.getElem?_eq_some_iff.1 f3).1
       have hdj:oj.dst≠none:=by
        intro h
        have:=hnodst j oj hoj h
        rw [hal j haj] at this;cases this
       refine ⟨(hother d v hd j oj hoj hji hdj).trans f1,f2,hbl,cc,(hw'.block _ hbl).trans f3,f4,fun h=>f5 fun i' hi' hs'=>?_,fun i' hi' hs' hl'=>?_⟩
       ·have:=h i' hi' hs'
        rw [hlist] at this
        have hii:i'≠i:=by intro h;subst h;rw [hsi] at hs';cases hs'
        rwa [if_neg hii] at this
       ·rw [hlist] at hl'
        have hii:i'≠i:=by intro h;subst h;rw [hsi] at hs';cases hs'
        rw [if_neg hii] at hl'
        exact hmonoP _ _ _ _ (OldN.ofOld hw') (f6 i' hi' hs' hl')
      have hdep':∀ i1 j1,i1<ops.size→st i1=some j1→(listed.setIfInBounds i true).getD i1 true=true→(listed.setIfInBounds i true).getD j1 true=true:=by
       intro i1 j1 hi1 hs1 l1
       rw [hlist] at l1 ⊢
       by_cases n1:j1=i
       ·rw [if_pos n1]
       ·rw [if_neg n1]
        have n2:i1≠i:=by intro h;subst h;rw [hsi] at hs1;cases hs1
        rw [if_neg n2] at l1
        exact hB.dep i1 j1 hi1 hs1 l1
      by_cases hai:al i=true
      ·rw [if_pos hai] at hs
       obtain ⟨hg,hdn,hrun⟩:=hs
       obtain ⟨d,hd⟩:=Option.ne_none_iff_exists'.1 hdn
       have hO:Old w (w.alloc (.cells z T (0,0))):=(Old.refl w).alloc _
       unfold wpOp
       simp only [ho]
       have hwa:Want ops a.eval o:=by unfold Want;rw [hg];trivial
       rw [if_pos (hw.2 hwa)]
       refine Or.inl ?_
       unfold Oper.wp
       rw [hrun]
       show wpAny P .any ops Q fuel _ (a.put o.dst _) _
       obtain ⟨p1,p2,p3⟩:=hputS d (.pointer (some ⟨w.heap.size,0,none⟩)) hd
       refine ih _ _ _ (fun k=>if k=i then w.heap.size else β k) (by simp [hsz]) hcnt (hR.trans hO) p1 ?_ ⟨?_,?_,hdep'⟩
       ·intro k ok hok' hkl
        rw [hlist] at hkl
        by_cases hki:k=i
        ·subst hki;exact hany _ _ _ (Or.inl hai)
        ·rw [if_neg hki] at hkl
         cases hdk:ok.dst with
         | none=>exact hany _ _ _ (Or.inr (hnodst k ok hok' hdk))
         | some dk=>
           have h6:=hother d (.pointer (some ⟨w.heap.size,0,none⟩)) hd k ok hok' hki (by rw [hdk];simp)
           rw [hdk] at h6
           rw [h6,←hdk]
           exact hmono k _ _ _ (OldN.ofOld hO) (hΦ k ok hok' hkl)
       ·intro j oj hoj haj hjl
        rw [hlist] at hjl
        by_cases hji:j=i
        ·subst hji
         have:oj=o:=by rw [ho] at hoj;simpa using hoj.symm
         subst this
         simp only [if_true]
         refine ⟨by rw [show oj.dst.getD 0=d by rw [hd];rfl];exact p3,hR.size,z,(MapKept.heap_alloc w _).1,hz,fun _=>rfl,fun i' hi' hs' hl'=>?_⟩
         exfalso
         rw [hlist] at hl'
         have hii:i'≠j:=by intro h;subst h;rw [hsi] at hs';cases hs'
         rw [if_neg hii] at hl'
         have:=hB.dep i' j hi' hs' hl'
         rw [h0] at this
         cases this
        ·rw [if_neg hji] at hjl
         simp only [if_neg hji]
         obtain ⟨f1,f2,_,f3⟩:=hbox d _ _ hd hO j oj hoj haj hji hjl
         exact ⟨f1,f2,f3⟩
       ·intro j1 j2 hj1 hj2 a1 a2 l1 l2 hb'
        rw [hlist] at l1 l2
        have hlo:∀ k,k<ops.size→al k=true→k≠i→listed.getD k true=true→β k<w.heap.size:=by
         intro k hk ak nk lk
         obtain ⟨_,_,f3,_⟩:=hbox d undef _ hd hO k _ (Array.getElem?_eq_getElem hk) ak nk lk
         exact f3
        by_cases n1:j1=i<;>by_cases n2:j2=i
        ·rw [n1,n2]
        ·rw [if_neg n2] at l2
         rw [if_pos n1,if_neg n2] at hb'
         have:=hlo j2 hj2 a2 n2 l2
         omega
        ·rw [if_neg n1] at l1
         rw [if_neg n1,if_pos n2] at hb'
         have:=hlo j1 hj1 a1 n1 l1
         omega
        ·rw [if_neg n1] at l1
         rw [if_neg n2] at l2
         rw [if_neg n1,if_neg n2] at hb'
         exact hB.inj j1 j2 hj1 hj2 a1 a2 l1 l2 hb'
      ·rw [if_neg hai] at hs
       obtain ⟨hdn,hst'⟩:=hs
       obtain ⟨d,hd⟩:=Option.ne_none_iff_exists'.1 hdn
       obtain ⟨hyes,hno⟩:=hst' a.eval w hR (reads_of hS) hdeps
       have hgo:∀ v w',Φ i v w'→Old w w'→wpAny P .any ops Q fuel (listed.setIfInBounds i true) (a.put o.dst v) w':=by
        intro v w' hv hO
        obtain ⟨p1,p2,p3⟩:=hputS d v hd
        refine ih _ _ _ β (by simp [hsz]) hcnt (hR.trans hO) p1 ?_ ⟨?_,?_,hdep'⟩
        ·intro k ok hok' hkl
         rw [hlist] at hkl
         by_cases hki:k=i
         ·subst hki
          have:ok=o:=by rw [ho] at hok';simpa using hok'.symm
          subst this
          rw [show ok.dst.getD 0=d by rw [hd];rfl,p3]
          exact hv
         ·rw [if_neg hki] at hkl
          cases hdk:ok.dst with
          | none=>exact hany _ _ _ (Or.inr (hnodst k ok hok' hdk))
          | some dk=>
            have h6:=hother d v hd k ok hok' hki (by rw [hdk];simp)
            rw [hdk] at h6
            rw [h6,←hdk]
            exact hmono k _ _ _ (OldN.ofOld hO) (hΦ k ok hok' hkl)
        ·intro j oj hoj haj hjl
         rw [hlist] at hjl
         have hji:j≠i:=by intro h;subst h;exact hai haj
         rw [if_neg hji] at hjl
         obtain ⟨f1,f2,_,f3⟩:=hbox d v w' hd hO j oj hoj haj hji hjl
         exact ⟨f1,f2,f3⟩
        ·intro j1 j2 hj1 hj2 a1 a2 l1 l2 hb'
         rw [hlist] at l1 l2
         have n1:j1≠i:=by intro h;subst h;exact hai a1
         have n2:j2≠i:=by intro h;subst h;exact hai a2
         rw [if_neg n1] at l1
         rw [if_neg n2] at l2
         exact hB.inj j1 j2 hj1 hj2 a1 a2 l1 l2 hb'
       unfold wpOp
       simp only [ho]
       by_cases hwa:Want ops a.eval o
       ·rw [if_pos (hw.2 hwa)]
        refine Or.inl ?_
        have hdo:=hyes hwa
        unfold Oper.wp
        unfold Does at hdo
        generalize (execOp a.eval o).run P w=r at hdo
        cases r with
        | ok n w'=>
          cases n<;>simp only at hdo<;>try exact hdo.elim
          case value v=>exact hgo v w' hdo.1 hdo.2
          case enter f args=>
           refine Calls.mono hdo fun e w'' he=>?_
           obtain ⟨v,rfl,h1,h2⟩:=he
           exact hgo v w'' h1 h2
        | halt x w'=>exact hdo.elim
       ·rw [if_neg (fun h=>hwa (hw.1 h))]
        exact hgo undef w (hno hwa) (Old.refl w)
theorem wp_region_inv2 {id:Nat} {a:Act} {w:World} (Φ:Nat→Value→World→Prop) (Ψ:Nat→Array Value→World→Prop) (al:Nat→Bool) (st:Nat→Option Nat) (z:Array Value) (T:TypeId) (isN:Array Value→Prop) (hm:P.follows .mixedOrders=true) (hok:okOps2 ops st a.tmps.size=true)
 (hmono:∀ i v x y,OldN T isN x y→Φ i v x→Φ i v y) (hmonoP:∀ i c x y,OldN T isN x y→Ψ i c x→Ψ i c y)
 (hany:∀ i v w,(al i=true∨(st i).isSome=true)→Φ i v w) (hz:isN z) (hal:∀ i,al i=true→st i=none) (hst:∀ i i' j,st i=some j→st i'=some j→i=i') (hsa:∀ i j,st i=some j→al j=true)
 (hstep:Steps2 P ops Φ Ψ al st z T isN a w 0 ops.toList)
 (hend:∀ a' w' β,Old w w'→Stay ops a a'→Left ops Φ a' w' 0 ops.toList→Boxes ops Ψ al st z T isN w (fun _=>true) a' w' β→Q .normal a' w'):(Code.region id ops true).wp P Q a w:=by
 have hno:∀ i o,ops[i]?=some o→(Array.replicate ops.size false).getD i true=true→False:=by
  intro i o ho hl
  have hlt:i<ops.size:=(Array.getElem?_eq_some_iff.1 ho).1
  simp [hlt] at hl
 have hno':∀ i,i<ops.size→(Array.replicate ops.size false).getD i true=true→False:=fun i hi hl=>hno i _ (Array.getElem?_eq_getElem hi) hl
 refine wp_region_any hm (wpAny_inv2 hok hmono hmonoP hany hz hal hst hsa hstep hend ops.size _ a _ (fun _=>0) (by simp) ?_ ((Old.refl w).drew) ⟨rfl,rfl,fun _ _=>rfl⟩ (fun i o ho hl=>(hno i o ho hl).elim) ⟨fun j o ho _ hl=>(hno j o ho hl).elim,fun j j' hj _ _ _ hl=>(hno' j hj hl).elim,fun i j hi _ hl=>(hno' i hi hl).elim⟩)
 simp
end
end Go.Proofs.YtmkmafkkpigfpaaGreatDoor
namespace Go.Proofs
end Go.Proofs
namespace Go.Proofs
open Go.Shelf Go.RowKit
set_option linter.unusedVariables false
end Go.Proofs
namespace Go.Proofs.YtmkmafkkpigfpaaGreatDoor
open Go.ChangeShapes Go.WideShapes Go.ChangeAt Go.RowKit Go.Lib Go.Sort
set_option linter.unusedVariables false
set_option maxRecDepth 100000
structure Env (w:World):Prop where
 t:True
theorem lt_of_cell {w:World} {p:Addr} {v:Value} (h:w.cell? p=some v):p.block<w.heap.size:=by
 rcases Nat.lt_or_ge p.block w.heap.size with h'|h'
 ·exact h'
 ·unfold World.cell? at h
  rw [Array.getElem?_eq_none h'] at h
  cases h
theorem Old.keeps {w w':World} (ho:Old w w') {p:Addr} {v:Value} (h:w.cell? p=some v):w'.cell? p=some v:=(ho.cell (lt_of_cell h)).trans h
theorem Env.old {w w':World} (h:Env w) (ho:Old w w'):Env w':=by
 exact ⟨trivial⟩
end Go.Proofs.YtmkmafkkpigfpaaGreatDoor
namespace Go.Proofs.YtmkmafkkpigfpaaGreatDoor
open Go.ChangeShapes Go.WideShapes Go.ChangeAt Go.RowKit
set_option linter.unusedVariables false
set_option linter.unusedSimpArgs false
set_option maxRecDepth 100000
def dg8 (c:UInt8):Bool:=decide (48≤c.toNat∧c.toNat≤57)
def digsL (l:List UInt8):Bool:=!l.isEmpty&&l.all dg8
def wholeL (l:List UInt8):Bool:=digsL l&&(l.length==1||l.head? != some 48)
end Go.Proofs.YtmkmafkkpigfpaaGreatDoor
namespace Go.Proofs.YtmkmafkkpigfpaaGreatDoor
open Go.ChangeShapes Go.WideShapes Go.ChangeAt Go.RowKit Go.Lib
set_option linter.unusedVariables false
set_option linter.unusedSimpArgs false
set_option maxRecDepth 100000
abbrev st (l:List UInt8):ByteArray:=⟨l.toArray⟩
def dgt (n:Nat):UInt8:=UInt8.ofNat (48+n)
def restL (u:Nat):List UInt8:=[dgt (u%10000/1000),dgt (u%1000/100),dgt (u%100/10),dgt (u%10)]
def decU (u:Nat):List UInt8:=Lib.decDigits (u/10000)++[46]++(restL u).take 1++Lib.trimRightB ((restL u).drop 1) 48
def decL (n:Int):List UInt8:=if n<0 then 45::decU n.natAbs else decU n.natAbs
end Go.Proofs.YtmkmafkkpigfpaaGreatDoor
namespace Go.Proofs.YtmkmafkkpigfpaaGreatDoor
open Go.ChangeShapes Go.WideShapes Go.ChangeAt Go.RowKit Go.Lib Go.Shelf
set_option linter.unusedVariables false
set_option maxRecDepth 100000
end Go.Proofs.YtmkmafkkpigfpaaGreatDoor
