/- Layer vtext: Parse, whatever the text. The rows: what is laid gives what the library's calls ask. Layer lexer, plain: where a word ends, its kind; what stands between words. Layer lexer: bytes; a reader's four cells; is there such a byte. how far a word goes, asked of any closure. -/
import Derived.Lib.ParseIntBTie
import Derived.Test.YtkellpcljiodeaaGreatDoorTie
import Derived.Test.YtkellpcljiodeaaGreatDoorCards
import Derived.LaidMore
import Derived.Lay
import Derived.SevenTiedAt
import Derived.Stop.Joined
import Derived.Stop.LaidErr
import Derived.Lib.LaidTab
import Derived.Shelf.Vars
import Derived.RangeFuncNested
import Derived.RangeFuncCalls
import Derived.RangeFuncLeaves
import Derived.Test.YtkellpcljiodeaaGreatDoorLK
namespace Go.Proofs.YtkellpcljiodeaaGreatDoor
open Go.ChangeShapes Go.WideShapes Go.ChangeAt Go.RowKit Go.Lib
set_option linter.unusedVariables false
set_option maxRecDepth 100000
theorem numV_may (k:Int) (hk:0≤k∧k≤255) (l:List UInt8):(0≤(numV k l).1∧(numV k l).1≤255)∧I64 (numV k l).2.1:=by
 unfold numV
 split
 ·next v h=>
  have:=Lib.parseIntB_bounds h
  refine ⟨hk,?_⟩
  unfold I64
  simp only [Nat.reducePow,Nat.reduceSub] at this ⊢
  omega
 ·exact ⟨by decide,by decide⟩
theorem readC_may (S wh rs:List UInt8) (pt:Bool):(0≤(readC S wh rs pt).1∧(readC S wh rs pt).1≤255)∧I64 (readC S wh rs pt).2.1:=by
 unfold readC
 split
 ·exact ⟨by decide,by decide⟩
 split
 ·exact numV_may 1 (by decide) _
 split
 ·exact ⟨by decide,by decide⟩
 ·exact numV_may 2 (by decide) _
theorem readN_may (l:List UInt8):(0≤(readN l).1∧(readN l).1≤255)∧I64 (readN l).2.1:=by
 cases l with
 | nil=>exact ⟨by decide,by decide⟩
 | cons c l=>
   have e:readN (c::l)=if c=45 then readC [45] (Lib.cut l [46]).1 (Lib.cut l [46]).2.1 (Lib.cut l [46]).2.2 else readC [] (Lib.cut (c::l) [46]).1 (Lib.cut (c::l) [46]).2.1 (Lib.cut (c::l) [46]).2.2:=rfl
   rw [e]
   split
   ·exact readC_may _ _ _ _
   ·exact readC_may _ _ _ _
theorem parse_long (l:List UInt8) (h:402<l.length) (hb:l.length≤1000000) (w:World) :
 Calls Tryz.prog 166 #[.string (st l)] w fun e w'=>e=rv 0 0 3 ⟨#[]⟩∧Old w w':=by
 have HO:=hid ((Old.refl w).alloc (.cells #[.int .u8 0,.int .i64 0,.string ⟨#[]⟩] 35))
 have HT:=hid (Three.new w (.int .u8 0) (.int .i64 0) (.string ⟨#[]⟩))
 have c0:=HT.out.c0
 have c1:=HT.out.c1
 have c2:=HT.out.c2
 have f0:=HT.out.f 0
 have f1:=HT.out.f 1
 have f2:=HT.out.f 2
 go_enter Tryz.func166,Tryz.ntmps166
 go_wp2_with fail
 exact bodyPost_ret (v:=.tuple #[vl 0 0 ⟨#[]⟩,.int .i64 3]) (by simp [results,Tryz.results166,go_sem]) rfl ⟨rfl,HO.out⟩
theorem parse_empty (w:World) :
 Calls Tryz.prog 166 #[.string (st [])] w fun e w'=>e=rv 0 0 4 ⟨#[]⟩∧Old w w':=by
 have HO:=hid ((Old.refl w).alloc (.cells #[.int .u8 0,.int .i64 0,.string ⟨#[]⟩] 35))
 have HT:=hid (Three.new w (.int .u8 0) (.int .i64 0) (.string ⟨#[]⟩))
 have c0:=HT.out.c0
 have c1:=HT.out.c1
 have c2:=HT.out.c2
 have f0:=HT.out.f 0
 have f1:=HT.out.f 1
 have f2:=HT.out.f 2
 go_enter Tryz.func166,Tryz.ntmps166
 go_wp2_with fail
 exact bodyPost_ret (v:=.tuple #[vl 0 0 ⟨#[]⟩,.int .i64 4]) (by simp [results,Tryz.results166,go_sem]) rfl ⟨rfl,HO.out⟩
structure Rd3 where
 k:Int
 n:Int
 e:Int
 s:List UInt8
def readL:List UInt8→Rd3
 | []=>⟨0,0,4,[]⟩
 | c::r=>if c=110 then ⟨0,0,0,[]⟩ else if c=116 then ⟨4,1,0,[]⟩ else if c=102 then ⟨4,0,0,[]⟩
   else if c=34 then ⟨3,0,0,unqL (Lib.trimSuffix r [34])⟩ else if c=35 then ⟨5,0,0,r⟩
   else if c=45∨dg8 c=true then ⟨(readN (c::r)).1,(readN (c::r)).2.1,(readN (c::r)).2.2,[]⟩ else ⟨0,0,4,[]⟩
def parseL (l:List UInt8):Rd3:=
 if 402<l.length then ⟨0,0,3,[]⟩
 else if (readL l).e=0 then (if textL (readL l).k (readL l).n (st (readL l).s)=l then readL l else ⟨0,0,4,[]⟩)
 else ⟨0,0,(readL l).e,[]⟩
abbrev rd (t:Rd3):Ending:=rv t.k t.n t.e (st t.s)
theorem parse_of (l:List UInt8) (K N E:Int) (S:List UInt8) (h:readL l=⟨K,N,E,S⟩) (hl:¬ 402<l.length):parseL l=if E=0 then (if textL K N (st S)=l then ⟨K,N,0,S⟩ else ⟨0,0,4,[]⟩) else ⟨0,0,E,[]⟩:=by
 unfold parseL
 rw [if_neg hl,h]
 split
 ·next h0=>simp only at h0;subst h0;rfl
 ·rfl
theorem rd_of {l:List UInt8} {K N E:Int} {S:List UInt8} (h:readL l=⟨K,N,E,S⟩) (hl:¬ 402<l.length):(if E=0 then (if textL K N (st S)=l then rv K N 0 (st S) else rv 0 0 4 ⟨#[]⟩) else rv 0 0 E ⟨#[]⟩)=rd (parseL l):=by
 rw [parse_of l K N E S h hl]
 split
 ·split<;>rfl
 ·rfl
theorem key_c {c:UInt8} {k:Int} (h:(c.toNat:Int)=k) (hk:¬ (48≤k∧k≤57)):(if (48:Int)≤(c.toNat:Int)∧(c.toNat:Int)≤57 then 48 else (c.toNat:Int))=k:=by
 rw [h,if_neg hk]
theorem u8_int {c d:UInt8} (h:¬ c=d):(c.toNat:Int)≠(d.toNat:Int):=fun e=>h (UInt8.toNat_inj.1 (by omega))
theorem parse_any (l:List UInt8) (hb:l.length≤1000000) (w:World) (he:Env w) :
 Calls Tryz.prog 166 #[.string (st l)] w fun e w'=>e=rd (parseL l)∧Old w w':=by
 by_cases hl:402<l.length
 ·have:parseL l=⟨0,0,3,[]⟩:=by unfold parseL;rw [if_pos hl]
  rw [this]
  exact parse_long l hl hb w
 cases l with
 | nil=>exact parse_empty w
 | cons c r=>
   have hr:r.length≤401:=by simp only [List.length_cons] at hl;omega
   by_cases h1:c=110
   ·have this:=rd_of (K:=0) (N:=0) (E:=0) (S:=[]) (by rw [readL,if_pos h1]) hl
    rw [if_pos rfl] at this
    rw [←this]
    exact parse_only c r 110 0 0 (by decide) (by decide) (key_c (by subst h1;rfl) (by decide)) looks_n hr w he
   by_cases h2:c=116
   ·have this:=rd_of (K:=4) (N:=1) (E:=0) (S:=[]) (by rw [readL,if_neg h1,if_pos h2]) hl
    rw [if_pos rfl] at this
    rw [←this]
    exact parse_only c r 116 4 1 (by decide) (by decide) (key_c (by subst h2;rfl) (by decide)) looks_t hr w he
   by_cases h3:c=102
   ·have this:=rd_of (K:=4) (N:=0) (E:=0) (S:=[]) (by rw [readL,if_neg h1,if_neg h2,if_pos h3]) hl
    rw [if_pos rfl] at this
    rw [←this]
    exact parse_only c r 102 4 0 (by decide) (by decide) (key_c (by subst h3;rfl) (by decide)) looks_f hr w he
   by_cases h4:c=34
   ·rw [←rd_of (K:=3) (N:=0) (E:=0) (S:=unqL (Lib.trimSuffix r [34])) (by rw [readL,if_neg h1,if_neg h2,if_neg h3,if_pos h4]) hl]
    exact parse_fn (Or.inl rfl) c r 34 3 0 0 _ (by decide) (by decide) (fun W hW=>quo_read c r _ rfl (by omega) W) (key_c (by subst h4;rfl) (by decide)) looks_q hr w he
   by_cases h5:c=35
   ·rw [←rd_of (K:=5) (N:=0) (E:=0) (S:=r) (by rw [readL,if_neg h1,if_neg h2,if_neg h3,if_neg h4,if_pos h5]) hl]
    exact parse_fn (Or.inr (Or.inl rfl)) c r 35 5 0 0 _ (by decide) (by decide) (fun W hW=>sym_any c r (by omega) W) (key_c (by subst h5;rfl) (by decide)) looks_s hr w he
   by_cases h6:c=45∨dg8 c=true
   ·rw [←rd_of (K:=(readN (c::r)).1) (N:=(readN (c::r)).2.1) (E:=(readN (c::r)).2.2) (S:=[]) (by rw [readL,if_neg h1,if_neg h2,if_neg h3,if_neg h4,if_neg h5,if_pos h6]) hl]
    have hm:=readN_may (c::r)
    rcases h6 with h6|h6
    ·exact parse_fn (Or.inr (Or.inr rfl)) c r 45 _ _ _ _ hm.1 hm.2 (fun W hW=>rn_any c r (by omega) W hW) (key_c (by subst h6;rfl) (by decide)) looks_m hr w he
    ·refine parse_fn (Or.inr (Or.inr rfl)) c r 48 _ _ _ _ hm.1 hm.2 (fun W hW=>rn_any c r (by omega) W hW) ?_ looks_d hr w he
     unfold dg8 at h6
     simp only [decide_eq_true_eq] at h6
     rw [if_pos ⟨by omega,by omega⟩]
   ·rw [←rd_of (K:=0) (N:=0) (E:=4) (S:=[]) (by rw [readL,if_neg h1,if_neg h2,if_neg h3,if_neg h4,if_neg h5,if_neg h6]) hl]
    rw [not_or] at h6
    have k7:¬ ((48:Int)≤(c.toNat:Int)∧(c.toNat:Int)≤57):=by
     have:=h6.2
     unfold dg8 at this
     simp only [decide_eq_true_eq] at this
     omega
    exact parse_none c r (c.toNat:Int) (by rw [if_neg k7]) (looks_no _ ⟨u8_int (d:=110) h1,u8_int (d:=116) h2,u8_int (d:=102) h3,u8_int (d:=34) h4,u8_int (d:=35) h5,u8_int (d:=45) h6.1,fun e=>k7 (by omega)⟩) hr w he
theorem change_laid {H:Type} {enc:TypeId × Value→H} {a:Assume} {C:Checked} {os:Os} {f:FuncId} {fn:Func} {s:ChangeSpec} {conds:List PathCond} {apart fresh handsOn again:Bool} {X:World→Array Value→Prop}
 (hX:∀ (w w':World) (args:Array Value),w.heap=w'.heap→X w args→X w' args)
 (own:ownKnob C.prog.godebug=none) (started:os.Started) (noInit:C.prog.inits.idxOf? f=none) (hfn:C.prog.funcs[f]?=some fn)
 (witness:∃ (w:World) (tape:Tape) (i:Input),w.os=os∧(w.forCall tape i).Shaped C.prog∧i.vars=[]∧Input.okWide C.prog (w.forCall tape i) .any w.heap.size f i∧
   ((s.pre enc C.prog fn conds apart (w.forCall tape i).memory i.args∧X (w.forCall tape i).memory i.args)∧sizedMet enc C.prog fn (OpenSpec.ofChange s) apart (w.forCall tape i).memory i.args)∧a.holds C.prog (lone (Frame.enter C.prog f i.args .normal) [] (w.forCall tape i)))
 (contract:∀ (W:World) (base:Nat) (args:Array Value) (ds gs:List (DataW H)) (before:List MemPlace),
   (∀ (j:Nat) t v,fn.params[j]?=some t→args[j]?=some v→Value.okWide C.prog W .any base t v)→
   DataW.Whole enc C.prog fn.params.toList s.vars apart W args.toList ds gs before→X W args→W.ShapedOpen C.prog→
   Calls C.prog f args W fun e W'=>∃ v,e=.returned v∧s.post enc C.prog fn apart fresh handsOn again W args v W') :
 ReturnsInHanded a C os f .any (fun w args=>(s.pre enc C.prog fn conds apart w args∧X w args)∧sizedMet enc C.prog fn (OpenSpec.ofChange s) apart w args) (s.post enc C.prog fn apart fresh handsOn again):=by
 refine returnsInHanded_of_calls own started noInit witness ?_
 intro w tape i _ hsh _ hok hpre _
 obtain ⟨_,_,_,g,hg,_,_,_,_,hval⟩:=hok
 obtain rfl:g=fn:=Option.some.inj (hg.symm.trans hfn)
 obtain ⟨⟨⟨ds,gs,before,hw,_⟩,hx⟩,_⟩:=hpre
 refine (contract (w.forCall tape i) w.heap.size i.args ds gs before hval (DataW.Whole.of_heap (w':=w.forCall tape i) (by rfl) hw) (hX _ _ _ (by rfl) hx) hsh).mono fun e W' ⟨v,he,hp⟩=>?_
 subst he
 exact ChangeSpec.post_blind hp
theorem env_of {W:World} (h:laidMetH Tryz.prog Rows.exprReadsRow.laid W) (hsh:W.ShapedOpen Tryz.prog):Env W:=by
 rw [MakeChecks.laidMetH_plain _ _ _ (by kernel_rfl)] at h
 have hL2:=h.tail.tail
 have hL4:=h.tail.tail.tail.tail
 refine ⟨?_,?_,?_⟩
 ·exact Lib.tabIs_of_head (g:=2) (t:=202) (e:=46) (n:=20) (by kernel_rfl) (by kernel_rfl) (by kernel_rfl) (by kernel_rfl) (by kernel_rfl) (by kernel_rfl) hL2
 ·exact cell_of_shapedOpen_int (g:=1) (t:=3) (zero:=#[.int .i64 0]) hsh (of_decide_eq_true (by kernel_rfl)) (by kernel_rfl) rfl (by kernel_rfl) (by kernel_rfl) (by kernel_rfl)
 ·obtain ⟨ps,⟨g0,t0,cs0,f0,p0,q0,hg0,ht0,hv0,hd0,_,_⟩,_,_⟩:=hL4
  obtain rfl:=Option.some.inj ((show Tryz.prog.globalNamed "strconv.ErrRange"=some 8 by kernel_rfl).symm.trans hg0)
  obtain rfl:=Option.some.inj ((show (Tryz.prog.globals[8]?).map (·.type)=some 173 by kernel_rfl).symm.trans ht0)
  obtain ⟨f1,u,v,hcs,_,_⟩:=iface_of_trod Tryz.underlying173 hd0
  refine ⟨.iface u v,?_,Or.inr ⟨u,v,rfl⟩⟩
  have:=World.var?_cell hg0 hv0 0
  rw [Array.eq_one_of_toList hcs] at this
  simpa using this
end Go.Proofs.YtkellpcljiodeaaGreatDoor
namespace Go.Proofs.YtkellpcljiodeaaGreatDoor
set_option linter.unusedVariables false
set_option maxRecDepth 100000
def sm (c:UInt8):Bool:=decide (97≤c.toNat∧c.toNat≤122)
def dgc (c:UInt8):Bool:=decide (48≤c.toNat∧c.toNat≤57)
def nm (c:UInt8):Bool:=sm c||dgc c
def hd (p:UInt8→Bool):List UInt8→Bool
 | []=>false
 | c::_=>p c
def pair:List UInt8→Bool
 | a::b::_=>(a==60&&b==61)||(a==62&&b==61)||(a==60&&b==62)||(a==46&&b==46)
 | _=>false
def sgn (c:UInt8):Bool:=[40,41,91,93,44,58,61,60,62,43,45,42,47].contains c
def kindL:List UInt8→Nat
 | []=>0
 | c::r=>if sm c then 1 else if dgc c then 4 else if c=34 then 5 else if c=35 then 6
   else if c=63 then (if hd sm r then 2 else 3) else if sgn c||pair (c::r) then 7 else 0
def goL {σ:Type} (step:σ→List UInt8→Option σ):σ→List UInt8→Nat
 | _,[]=>0
 | a,c::r=>match step a (c::r) with
   | none=>0
   | some b=>goL step b r+1
theorem goL_nil {σ:Type} (step:σ→List UInt8→Option σ) (a:σ):goL step a []=0:=rfl
theorem goL_stop {σ:Type} {step:σ→List UInt8→Option σ} {a:σ} {c:UInt8} {r:List UInt8} (h:step a (c::r)=none):goL step a (c::r)=0:=by
 rw [goL,h]
theorem goL_go {σ:Type} {step:σ→List UInt8→Option σ} {a b:σ} {c:UInt8} {r:List UInt8} (h:step a (c::r)=some b):goL step a (c::r)=goL step b r+1:=by
 rw [goL,h]
theorem goL_le {σ:Type} (step:σ→List UInt8→Option σ):∀ (a:σ) (l:List UInt8),goL step a l≤l.length
 | _,[]=>Nat.le_refl _
 | a,c::r=>by
   rw [goL]
   split
   ·exact Nat.zero_le _
   ·next b h=>rw [List.length_cons];exact Nat.succ_le_succ (goL_le step b r)
def runS (p:UInt8→Bool) (a:Unit):List UInt8→Option Unit
 | []=>none
 | c::_=>if p c then some () else none
def numS (pt:Bool):List UInt8→Option Bool
 | []=>none
 | c::r=>if !pt&&c==46&&hd dgc r then some true else if dgc c then some pt else none
def strS (a:Bool × Bool):List UInt8→Option (Bool × Bool)
 | []=>none
 | c::_=>if a.1 then none else some (c==34&&!a.2,c==92&&!a.2)
def sgnS (two:Bool) (a:Bool):List UInt8→Option Bool
 | []=>none
 | _::_=>if a&&two then some false else none
def endL (k:Nat) (l:List UInt8):Nat:=
 if k=1∨k=2∨k=6 then goL (runS nm) () l.tail
 else if k=4 then goL numS false l.tail
 else if k=5 then goL strS (false,false) l.tail
 else if k=7 then goL (sgnS (pair l)) true l.tail
 else 0
def wlen (l:List UInt8):Nat:=endL (kindL l) l+1
theorem wlen_le {l:List UInt8} (h:l≠[]):wlen l≤l.length:=by
 cases l with
 | nil=>exact absurd rfl h
 | cons c r=>
   unfold wlen endL
   have h1:=goL_le (runS nm) () (c::r).tail
   have h2:=goL_le numS false (c::r).tail
   have h3:=goL_le strS (false,false) (c::r).tail
   have h4:=goL_le (sgnS (pair (c::r))) true (c::r).tail
   simp only [List.tail_cons,List.length_cons] at *
   split
   ·omega
   split
   ·omega
   split
   ·omega
   split
   ·omega
   ·omega
def skipL:Bool→List UInt8→Nat→Nat→List UInt8 × Nat × Nat
 | _,[],L,C=>([],L,C)
 | true,c::r,L,C=>if c=10 then skipL false r (L+1) 1 else skipL true r L (C+1)
 | false,c::r,L,C=>if c=32 then skipL false r L (C+1) else if c=10 then skipL false r (L+1) 1
   else if c=59 then skipL true r L (C+1) else (c::r,L,C)
def isName (l:List UInt8):Bool:=decide (l≠[]∧l.length≤12)&&hd sm l&&l.all nm
end Go.Proofs.YtkellpcljiodeaaGreatDoor
namespace Go.Proofs.YtkellpcljiodeaaGreatDoor
open Go.ChangeShapes Go.WideShapes Go.ChangeAt Go.RowKit Go.Lib
set_option linter.unusedVariables false
set_option linter.unusedSimpArgs false
set_option maxRecDepth 100000
def Rdr (w:World) (b:Nat) (s:ByteArray) (i L B:Int):Prop:=w.heap[b]?=some (.cells #[.string s,.int .i64 i,.int .i64 L,.int .i64 B] 100 (0,0))
theorem Rdr.c0 {w:World} {b:Nat} {s:ByteArray} {i L B:Int} (h:Rdr w b s i L B):w.cell? ⟨b,0,none⟩=some (.string s):=by unfold Rdr at h;simp [World.cell?,h]
theorem Rdr.c1 {w:World} {b:Nat} {s:ByteArray} {i L B:Int} (h:Rdr w b s i L B):w.cell? ⟨b,1,none⟩=some (.int .i64 i):=by unfold Rdr at h;simp [World.cell?,h]
theorem Rdr.c2 {w:World} {b:Nat} {s:ByteArray} {i L B:Int} (h:Rdr w b s i L B):w.cell? ⟨b,2,none⟩=some (.int .i64 L):=by unfold Rdr at h;simp [World.cell?,h]
theorem Rdr.c3 {w:World} {b:Nat} {s:ByteArray} {i L B:Int} (h:Rdr w b s i L B):w.cell? ⟨b,3,none⟩=some (.int .i64 B):=by unfold Rdr at h;simp [World.cell?,h]
theorem Rdr.f {w:World} {b:Nat} {s:ByteArray} {i L B:Int} (h:Rdr w b s i L B) (o:Nat):w.frozen? ⟨b,o,none⟩=false:=by unfold Rdr at h;simp [World.frozen?,h]
theorem Rdr.lt {w:World} {b:Nat} {s:ByteArray} {i L B:Int} (h:Rdr w b s i L B):b<w.heap.size:=blk_lt h
theorem Rdr.old {w w':World} {b:Nat} {s:ByteArray} {i L B:Int} (h:Rdr w b s i L B) (ho:Old w w'):Rdr w' b s i L B:=(ho.block b h.lt).trans h
theorem Rdr.set1 {w:World} {b:Nat} {s:ByteArray} {i L B:Int} (h:Rdr w b s i L B) (u:Int):Rdr (w.setCell ⟨b,1,none⟩ (.int .i64 u)) b s u L B:=by
 have hlt:=h.lt
 unfold Rdr at *
 show (w.heap.modify b _)[b]?=_
 rw [Array.getElem?_modify,if_pos rfl,h]
 simp
theorem Rdr.set2 {w:World} {b:Nat} {s:ByteArray} {i L B:Int} (h:Rdr w b s i L B) (u:Int):Rdr (w.setCell ⟨b,2,none⟩ (.int .i64 u)) b s i u B:=by
 have hlt:=h.lt
 unfold Rdr at *
 show (w.heap.modify b _)[b]?=_
 rw [Array.getElem?_modify,if_pos rfl,h]
 simp
theorem Rdr.set3 {w:World} {b:Nat} {s:ByteArray} {i L B:Int} (h:Rdr w b s i L B) (u:Int):Rdr (w.setCell ⟨b,3,none⟩ (.int .i64 u)) b s i L u:=by
 have hlt:=h.lt
 unfold Rdr at *
 show (w.heap.modify b _)[b]?=_
 rw [Array.getElem?_modify,if_pos rfl,h]
 simp
theorem idx_any (s:ByteArray) (i:Nat) (c:UInt8) (h:s.data.toList[i]?=some c) (W:World):(Instr.index 9 (.string s) (.int .i64 (i:Int))).run Tryz.prog W=.ok (.int .u8 (c.toNat:Int)) W:=by
 have hi:i<s.data.size:=by have:=(List.getElem?_eq_some_iff.1 h).1;simpa using this
 have hz:i<s.size:=hi
 have e:s[i]=c:=by
  rw [Array.getElem?_toList,Array.getElem?_eq_getElem hi] at h
  injection h
 simp [Instr.index,Sem.run_bind,run_underlying Tryz.underlying9,hz,e,go_sem]
theorem small_any (b:Int) (w:World):Calls Tryz.prog 126 #[.int .u8 b] w fun e w'=>e=.returned (.bool (decide (97≤b∧b≤122)))∧w=w':=by
 by_cases h1:97≤b
 ·by_cases h2:b≤122
  ·rw [decide_eq_true ⟨h1,h2⟩]
   go_enter Tryz.func126,Tryz.ntmps126
   go_wp2
   go_ret
   exact ⟨by simp [h1,h2],rfl⟩
  ·rw [decide_eq_false (fun h=>h2 h.2)]
   go_enter Tryz.func126,Tryz.ntmps126
   go_wp2
   go_ret
   exact ⟨by simp [h1,h2],rfl⟩
 ·rw [decide_eq_false (fun h=>h1 h.1)]
  go_enter Tryz.func126,Tryz.ntmps126
  go_wp2
  go_ret
  exact ⟨by simp [h1],rfl⟩
theorem dig_any (b:Int) (w:World):Calls Tryz.prog 127 #[.int .u8 b] w fun e w'=>e=.returned (.bool (decide (48≤b∧b≤57)))∧w=w':=by
 by_cases h1:48≤b
 ·by_cases h2:b≤57
  ·rw [decide_eq_true ⟨h1,h2⟩]
   go_enter Tryz.func127,Tryz.ntmps127
   go_wp2
   go_ret
   exact ⟨by simp [h1,h2],rfl⟩
  ·rw [decide_eq_false (fun h=>h2 h.2)]
   go_enter Tryz.func127,Tryz.ntmps127
   go_wp2
   go_ret
   exact ⟨by simp [h1,h2],rfl⟩
 ·rw [decide_eq_false (fun h=>h1 h.1)]
  go_enter Tryz.func127,Tryz.ntmps127
  go_wp2
  go_ret
  exact ⟨by simp [h1],rfl⟩
theorem sm_any (c:UInt8) (w:World):Calls Tryz.prog 126 #[.int .u8 (c.toNat:Int)] w fun e w'=>e=.returned (.bool (sm c))∧w=w':=by
 have e:sm c=decide ((97:Int)≤(c.toNat:Int)∧(c.toNat:Int)≤122):=by unfold sm;congr 1;simp only [eq_iff_iff];omega
 rw [e];exact small_any _ w
theorem dgc_any (c:UInt8) (w:World):Calls Tryz.prog 127 #[.int .u8 (c.toNat:Int)] w fun e w'=>e=.returned (.bool (dgc c))∧w=w':=by
 have e:dgc c=decide ((48:Int)≤(c.toNat:Int)∧(c.toNat:Int)≤57):=by unfold dgc;congr 1;simp only [eq_iff_iff];omega
 rw [e];exact dig_any _ w
theorem nm_any (c:UInt8) (w:World):Calls Tryz.prog 132 #[.int .u8 (c.toNat:Int)] w fun e w'=>e=.returned (.bool (nm c))∧w=w':=by
 have h1:=fun W=>sm_any c W
 have h2:=fun W=>dgc_any c W
 unfold nm
 cases hs:sm c with
 | true=>
   rw [hs] at h1
   go_enter Tryz.func132,Tryz.ntmps132
   go_wp2_with (go_at_call 126;(with_reducible refine (h1 _).mono ?_);rintro e w' ⟨rfl,rfl⟩)
   go_ret
   exact ⟨rfl,rfl⟩
 | false=>
   rw [hs] at h1
   go_enter Tryz.func132,Tryz.ntmps132
   go_wp2_with (first
    | (go_at_call 126;(with_reducible refine (h1 _).mono ?_);rintro e w' ⟨rfl,rfl⟩)
    | (go_at_call 127;(with_reducible refine (h2 _).mono ?_);rintro e w' ⟨rfl,rfl⟩))
   go_ret
   exact ⟨by simp,rfl⟩
theorem isAt_sm (w:World) (b:Nat) (s:ByteArray) (j L B:Int) (hr:Rdr w b s j L B) (i:Nat) (hi64:i≤1000000) :
 Calls Tryz.prog 128 #[.pointer (some ⟨b,0,none⟩),.int .i64 (i:Int),.func (.func 126) #[] #[]] w fun e w'=>e=.returned (.bool (hd sm (s.data.toList.drop i)))∧w=w':=by
 have c0:=hr.c0
 have f0:=hr.f 0
 have hz:s.data.toList.length=s.size:=Array.length_toList
 rcases Nat.lt_or_ge i s.size with hi|hi
 ·obtain ⟨c,hc⟩:∃ c,s.data.toList[i]?=some c:=⟨_,List.getElem?_eq_getElem (by omega)⟩
  have hx:=fun W=>idx_any s i c hc W
  have h1:=fun W=>sm_any c W
  have e:hd sm (s.data.toList.drop i)=sm c:=by
   rw [List.drop_eq_getElem_cons (by omega)]
   have:=(List.getElem?_eq_some_iff.1 hc).2
   rw [this];rfl
  rw [e]
  clear e hc hz
  go_enter Tryz.func128,Tryz.ntmps128
  go_wp2_with (first
   | (go_at_call 126;(with_reducible refine (h1 _).mono ?_);rintro e w' ⟨rfl,rfl⟩))
  go_ret
  exact ⟨rfl,rfl⟩
 ·have e:hd sm (s.data.toList.drop i)=false:=by rw [List.drop_eq_nil_of_le (by omega)];rfl
  rw [e]
  clear e hz
  go_enter Tryz.func128,Tryz.ntmps128
  go_wp2
  go_ret
  exact ⟨rfl,rfl⟩
theorem isAt_dgc (w:World) (b:Nat) (s:ByteArray) (j L B:Int) (hr:Rdr w b s j L B) (i:Nat) (hi64:i≤1000000) :
 Calls Tryz.prog 128 #[.pointer (some ⟨b,0,none⟩),.int .i64 (i:Int),.func (.func 127) #[] #[]] w fun e w'=>e=.returned (.bool (hd dgc (s.data.toList.drop i)))∧w=w':=by
 have c0:=hr.c0
 have f0:=hr.f 0
 have hz:s.data.toList.length=s.size:=Array.length_toList
 rcases Nat.lt_or_ge i s.size with hi|hi
 ·obtain ⟨c,hc⟩:∃ c,s.data.toList[i]?=some c:=⟨_,List.getElem?_eq_getElem (by omega)⟩
  have hx:=fun W=>idx_any s i c hc W
  have h1:=fun W=>dgc_any c W
  have e:hd dgc (s.data.toList.drop i)=dgc c:=by
   rw [List.drop_eq_getElem_cons (by omega)]
   have:=(List.getElem?_eq_some_iff.1 hc).2
   rw [this];rfl
  rw [e]
  clear e hc hz
  go_enter Tryz.func128,Tryz.ntmps128
  go_wp2_with (first
   | (go_at_call 127;(with_reducible refine (h1 _).mono ?_);rintro e w' ⟨rfl,rfl⟩))
  go_ret
  exact ⟨rfl,rfl⟩
 ·have e:hd dgc (s.data.toList.drop i)=false:=by rw [List.drop_eq_nil_of_le (by omega)];rfl
  rw [e]
  clear e hz
  go_enter Tryz.func128,Tryz.ntmps128
  go_wp2
  go_ret
  exact ⟨rfl,rfl⟩
def After {σ:Type} (C:Nat→σ→World→Prop) (i:Nat) (a:σ) (o:Option σ) (W:World):Prop:=
 match o with
 | some a'=>C (i+1) a' W
 | none=>C i a W
def Asks {σ:Type} (cf:Nat) (cb:Array Value) (s:ByteArray) (step:σ→List UInt8→Option σ) (C:Nat→σ→World→Prop):Prop:=
 ∀ (i:Nat) (a:σ) (A:World) (c:UInt8) (r:List UInt8),C i a A→s.data.toList.drop i=c::r→i<s.size→
   Calls Tryz.prog cf (#[.int .i64 (i:Int)]++cb) A fun e A'=>e=.returned (.bool (step a (c::r)).isSome)∧After C i a (step a (c::r)) A'
theorem reach_any {σ:Type} (cf:Nat) (cb:Array Value) (s:ByteArray) (step:σ→List UInt8→Option σ) (C:Nat→σ→World→Prop) (b j:Nat) (L B:Int) (a:σ)
 (hen:∀ args W,(callFunc cf args).run Tryz.prog W=.ok (.enter cf args) W) (hs:s.size≤1000000) (hj:j<s.size) (hR:∀ i a A,C i a A→Rdr A b s (j:Int) L B) (hask:Asks cf cb s step C) (w:World) (h0:C (j+1) a w) :
 Calls Tryz.prog 92 #[.pointer (some ⟨b,0,none⟩),.func (.func cf) #[] cb] w fun e w'=>e=.returned (.int .i64 ((j+1+goL step a (s.data.toList.drop (j+1)):Nat):Int))∧∃ i a',C i a' w':=by
 obtain ⟨n,hn⟩:∃ n,n=j+1+goL step a (s.data.toList.drop (j+1)):=⟨_,rfl⟩
 have hnl:n≤s.size:=by
  have:=goL_le step a (s.data.toList.drop (j+1))
  rw [List.length_drop,Array.length_toList] at this
  have hz:s.data.size=s.size:=rfl
  omega
 rw [←hn]
 have hjn:j+1≤n:=by omega
 have HA:=hid hask
 have HR:=hid hR
 have HC:=hid h0
 have HN:=hid hn
 have c0:=(hR _ _ _ h0).c0
 have c1:=(hR _ _ _ h0).c1
 have f1:=(hR _ _ _ h0).f 1
 clear hask hR h0 hn
 go_enter Tryz.func92,Tryz.ntmps92
 go_wp2
 go_loopw [5] (fun i wr=>∃ (k:Nat) (a':σ),i=.int .i64 (k:Int)∧k≤n∧Hid (n=k+goL step a' (s.data.toList.drop k))∧Hid (C k a' wr)) (fun i _=>(n-RowKit.intOf i).toNat)
 case atStart=>exact ⟨j+1,a,by simp,hjn,HN,HC⟩
 case round=>
  clear HC HN c0 c1 f1 a
  obtain ⟨k,a,rfl,hk,HN,HC⟩:=hrel
  have c0:=(HR.out _ _ _ HC.out).c0
  have f0:=(HR.out _ _ _ HC.out).f 0
  rcases Nat.lt_or_ge k s.size with hks|hks
  ·have hd:s.data.toList.drop k=s.data.toList[k]'(by rw [Array.length_toList];exact hks)::s.data.toList.drop (k+1):=List.drop_eq_getElem_cons _
   obtain ⟨c,hc⟩:∃ c,c=s.data.toList[k]'(by rw [Array.length_toList];exact hks):=⟨_,rfl⟩
   rw [←hc] at hd
   have h1:=HA.out k a wr c _ HC.out hd hks
   have HD:=hid hd
   cases hst:step a (c::s.data.toList.drop (k+1)) with
   | none=>
     rw [hst] at h1
     have HS:=hid hst
     simp only [Option.isSome_none] at h1
     clear hd hst hc
     go_wp2_with (first
      | ((with_reducible refine h1.mono ?_);rintro e w' ⟨rfl,hC⟩;unfold After at hC;replace HC:=hid hC))
     go_ret
     have hn:=HN.out
     rw [HD.out,goL_stop HS.out,Nat.add_zero] at hn
     exact ⟨by rw [hn];rfl,k,a,HC.out⟩
   | some a'=>
     rw [hst] at h1
     have HS:=hid hst
     simp only [Option.isSome_some] at h1
     clear hd hst hc
     go_wp2_with (first
      | ((with_reducible refine h1.mono ?_);rintro e w' ⟨rfl,hC⟩;unfold After at hC;replace HC:=hid hC))
     have hn:=HN.out
     rw [HD.out,goL_go HS.out] at hn
     exact ⟨⟨k+1,a',by simp,by omega,hid (by omega),HC⟩,by simp only [RowKit.intOf];omega⟩
  ·go_wp2
   go_ret
   have hn:=HN.out
   rw [List.drop_eq_nil_of_le (by rw [Array.length_toList];exact hks),goL_nil,Nat.add_zero] at hn
   exact ⟨by rw [hn];rfl,k,a,HC.out⟩
end Go.Proofs.YtkellpcljiodeaaGreatDoor
