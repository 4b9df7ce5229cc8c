/- The document's reader, plain: how many nodes are read; its states. The document's reader: a node put behind a tree, or behind what lies there; what its. -/
import Derived.Test.YtmkmafkkpigfpaaGreatDoorJC
namespace Go.Proofs.YtmkmafkkpigfpaaGreatDoor
open Go.ChangeShapes Go.WideShapes Go.ChangeAt Go.RowKit Go.Lib
set_option linter.unusedVariables false
set_option linter.unusedSimpArgs false
set_option maxRecDepth 100000
def Md.len:Md→Nat
 | .lvl _=>0
 | .tail _ ns=>ns.length
 | .args _ _ _ _ _ ns _=>ns.length
structure Qe (w0:Wz) (b:Nat) (vw:Value) (A:List Tk) (w:World):Prop where
 old:Old w0 w
 lo:w0.heap.size≤b
 words:Rw w0 vw A
structure Qr (w0:Wz) (b:Nat) (vw:Value) (A:List Tk) (T:List Nd) (n o:Nat) (vt:Value) (w:World):Prop where
 rd:RqB w b vw n o vt 0 0
 qi:Qe w0 b vw A w
 tree:TreeR w0.S w w0.heap.size vt T
 sb:∀ k,w0.S k→k<w.heap.size
structure Qs (w0:Wz) (b:Nat) (vw:Value) (A:List Tk) (e:Int) (m N:Nat) (vt:Value) (w:World):Prop where
 st:∃ (n:Nat) (o:Int) (cs:List Value) (k:Nat),n≤A.length∧k≤N∧RqB w b vw n o vt e m∧w.ownsRow w0.heap.size 54 8 vt k cs
 ne:e≠0
 qi:Qe w0 b vw A w
theorem Qe.cv {w0:Wz} {w w':World} {b:Nat} {vw v v':Value} {A:List Tk} (h:Qe w0 b vw A w) (c:Cv b v v' w w') (hv:∀ g,v.ownBlock=some g→w0.heap.size≤g):Qe w0 b vw A w':=⟨c.old h.old h.lo hv,h.lo,h.words⟩
theorem Qe.wordsAt {w0:Wz} {w:World} {b:Nat} {vw:Value} {A:List Tk} (h:Qe w0 b vw A w):Rw w vw A:=h.words.old h.old
theorem TreeR.chq {S:Nat→Prop} {w w':World} {b base:Nat} {v:Value} {T:List Nd} {vw vt:Value} {i o e m:Int} (h:TreeR S w base v T) (hr:RqB w b vw i o vt e m) (c:Chx (·= b) w w'):TreeR S w' base v T:=by
 obtain ⟨kvs,h1,h2,h3⟩:=h
 exact ⟨kvs,h1,own_chq h2 (by decide) hr c,fun i x v hx hv=>⟨own_chq (h3 i x v hx hv).1 (by decide) hr c,(h3 i x v hx hv).2⟩⟩
section
variable {w0:Wz} {w w':World} {b n o:Nat} {vw vt:Value} {A:List Tk} {T:List Nd}
theorem Qr.row (h:Qr w0 b vw A T n o vt w):∃ cs k,w.ownsRow w0.heap.size 54 8 vt k cs:=by
 obtain ⟨kvs,_,h2,_⟩:=h.tree
 exact ⟨_,_,h2⟩
theorem Qr.lo (h:Qr w0 b vw A T n o vt w) (g:Nat) (e:vt.ownBlock=some g):w0.heap.size≤g:=by
 obtain ⟨cs,k,h2⟩:=h.row
 exact row_lo h2 e
theorem Qs.lo {e:Int} {m N:Nat} (h:Qs w0 b vw A e m N vt w) (g:Nat) (k:vt.ownBlock=some g):w0.heap.size≤g:=by
 obtain ⟨_,_,_,_,_,_,_,h2⟩:=h.st
 exact row_lo h2 k
theorem Qr.ne (h:Qr w0 b vw A T n o vt w) {g:Nat} {ds:Array Value} {t:TypeId} {fr:Nat × Nat} (hk:w.heap[g]?=some (.cells ds t fr)) (ht:t≠54):vt.ownBlock≠some g:=by
 obtain ⟨cs,k,h2⟩:=h.row
 exact row_ne h2 hk ht
theorem Qs.ner {e:Int} {m N:Nat} (h:Qs w0 b vw A e m N vt w) {g:Nat} {ds:Array Value} {t:TypeId} {fr:Nat × Nat} (hk:w.heap[g]?=some (.cells ds t fr)) (ht:t≠54):vt.ownBlock≠some g:=by
 obtain ⟨_,_,_,_,_,_,_,h2⟩:=h.st
 exact row_ne h2 hk ht
theorem Qr.oldw (h:Qr w0 b vw A T n o vt w) (ho:Old w w'):Qr w0 b vw A T n o vt w':=⟨h.rd.old ho,⟨h.qi.old.trans ho,h.qi.lo,h.qi.words⟩,h.tree.old ho,fun k hk=>Nat.lt_of_lt_of_le (h.sb k hk) ho.size⟩
theorem Qr.chx (h:Qr w0 b vw A T n o vt w) (c:Chx (·= b) w w') {n' o':Nat} (hr:RqB w' b vw n' o' vt 0 0):Qr w0 b vw A T n' o' vt w':=
 ⟨hr,h.qi.cv (Cv.ofChx (v:=vt) c) h.lo,h.tree.chq h.rd c,fun k hk=>Nat.lt_of_lt_of_le (h.sb k hk) c.size⟩
theorem Qr.stopped (h:Qr w0 b vw A T n o vt w) (c:Chx (·= b) w w') {n' m N:Nat} {o' e:Int} (hr:RqB w' b vw n' o' vt e m) (he:e≠0) (hn:n'≤A.length) (hN:T.length≤N):Qs w0 b vw A e m N vt w':=by
 obtain ⟨kvs,h1,h2,h3⟩:=h.tree
 exact ⟨⟨n',o',_,T.length,hn,hN,hr,own_chq h2 (by decide) h.rd c⟩,he,h.qi.cv (Cv.ofChx (v:=vt) c) h.lo⟩
theorem Qs.oldw {e:Int} {m N:Nat} (h:Qs w0 b vw A e m N vt w) (ho:Old w w'):Qs w0 b vw A e m N vt w':=by
 obtain ⟨n,o,cs,k,h1,h2,h3,h4⟩:=h.st
 exact ⟨⟨n,o,cs,k,h1,h2,h3.old ho,own_old h4 ho⟩,h.ne,⟨h.qi.old.trans ho,h.qi.lo,h.qi.words⟩⟩
end
theorem rput_good {w0:Wz} {w:World} {b n o:Nat} {vw vt:Value} {A:List Tk} {T:List Nd} (H:Qr w0 b vw A T n o vt w) (x:Nd) (kv:Value) (hk:KS w0.S w w0.heap.size kv (x.ks.map (T.length-·))) (hT:T.length≤1000000) :
 Calls Tryz.prog 50 #[.pointer (some ⟨b,0,none⟩),x.val kv] w fun e w'=>e=.returned (.int .i64 (T.length:Int))∧∃ vt',Cv b vt vt' w w'∧Qr w0 b vw A (T++[x]) n o vt' w':=by
 obtain ⟨kvs,t1,t2,t3⟩:=H.tree
 refine (rput_any H.rd t2 H.qi.old.size x kv hk.1.shape hT).mono ?_
 rintro e w' ⟨rfl,v5,hc,h5,hown⟩
 refine ⟨rfl,v5,hc,h5,H.qi.cv hc H.lo,⟨kvs++[kv],by simp [t1],?_,?_⟩,fun k hk=>Nat.lt_of_lt_of_le (H.sb k hk) hc.size⟩
 ·rw [ncells_snoc x kv T kvs t1,List.length_append]
  exact hown
 ·intro i y v hy hv
  have up:∀ {u ks},KS w0.S w w0.heap.size u ks→KS w0.S w' w0.heap.size u ks:=fun h=>⟨own_cv h.1 (by decide) (by decide) H.rd t2 hc,h.2⟩
  rcases Nat.lt_or_ge i T.length with hlt|hge
  ·rw [List.getElem?_append_left hlt] at hy
   rw [List.getElem?_append_left (by omega)] at hv
   exact up (t3 i y v hy hv)
  ·rw [List.getElem?_append_right hge] at hy
   rw [List.getElem?_append_right (by omega)] at hv
   have hi:i-T.length=0:=by
    have:=(List.getElem?_eq_some_iff.1 hy).1
    simp at this
    omega
   have hi2:i-kvs.length=0:=by omega
   rw [hi] at hy
   rw [hi2] at hv
   simp only [List.getElem?_cons_zero,Option.some.injEq] at hy hv
   subst hy hv
   have:i=T.length:=by omega
   subst this
   exact up hk
theorem rput_bad {w0:Wz} {w:World} {b m N:Nat} {e:Int} {vw vt:Value} {A:List Tk} (H:Qs w0 b vw A e m N vt w) (x:Nd) (kv:Value) (hk:kv.oneCell'=true) (hN:N≤1000000) :
 Calls Tryz.prog 50 #[.pointer (some ⟨b,0,none⟩),x.val kv] w fun e' w'=>(∃ i:Int,e'=.returned (.int .i64 i))∧∃ vt',Cv b vt vt' w w'∧Qs w0 b vw A e m (N+1) vt' w':=by
 obtain ⟨n,o,cs,k,h1,h2,h3,h4⟩:=H.st
 refine (rput_any h3 h4 H.qi.old.size x kv hk (by omega)).mono ?_
 rintro e' w' ⟨rfl,v5,hc,h5,hown⟩
 exact ⟨⟨_,rfl⟩,v5,hc,⟨n,o,_,k+1,h1,by omega,h5,hown⟩,H.ne,H.qi.cv hc H.lo⟩
def RRes (w0:Wz) (b:Nat) (vw:Value) (A:List Tk) (T:List Nd) (c o N:Nat) (vt:Value) (w:World) (x:Rz) (e:Ending) (w':World):Prop:=
 match x with
 | .out=>True
 | .ok ns r=>∃ (n':Nat) (vt':Value),r=A.drop n'∧n'≤A.length∧e=.returned (.int .i64 ((T.length+ns.length-1:Nat):Int))∧Cv b vt vt' w w'∧Qr w0 b vw A (T++ns) n' o vt' w'∧1≤ns.length∧c+ns.length≤n'
 | .no er r=>∃ (n':Nat) (i:Int) (vt':Value),r=A.drop n'∧n'≤A.length∧e=.returned (.int .i64 i)∧Cv b vt vt' w w'∧Qs w0 b vw A er n' N vt' w'
theorem rexpr_stop {w0:Wz} {w:World} {b m N:Nat} {e:Int} {vw vt:Value} {A:List Tk} (H:Qs w0 b vw A e m N vt w) (L:Int) :
 Calls Tryz.prog 22 #[.pointer (some ⟨b,0,none⟩),.int .i64 L] w fun e' w'=>e'=.returned (.int .i64 (-1))∧w'=w:=by
 obtain ⟨n,o,cs,k,h1,h2,h3,h4⟩:=H.st
 have r4:=h3.c 4
 have i0:(e != 0)=true:=by simpa using H.ne
 have i1:(e==0)=false:=beq_false_of_ne H.ne
 clear h3 h4 H
 go_enter Tryz.func22,Tryz.ntmps22
 go_wp2
 go_ret
 exact ⟨rfl,rfl⟩
end Go.Proofs.YtmkmafkkpigfpaaGreatDoor
