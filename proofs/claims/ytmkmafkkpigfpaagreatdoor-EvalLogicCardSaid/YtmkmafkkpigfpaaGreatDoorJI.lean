/- The document's reader: a call's expressions. -/
import Derived.Test.YtmkmafkkpigfpaaGreatDoorJH
set_option maxHeartbeats 1600000
namespace Go.Proofs.YtmkmafkkpigfpaaGreatDoor
open Go.ChangeShapes Go.WideShapes Go.ChangeAt Go.RowKit Go.Lib
set_option linter.unusedVariables false
set_option linter.unusedSimpArgs false
set_option maxRecDepth 100000
theorem own_at {w:World} {base size n k:Nat} {e:TypeId} {v:Value} {cs:List Value} (h:w.ownsRow base e size v n cs) (hk:v.ownBlock=some k):base≤k∧∃ cur,w.heap[k]?=some (.cells cur e (0,0)):=by
 rcases h.2 with ⟨rfl,_⟩|⟨g,cap,cur,rfl,h1,hg,_⟩
 ·simp [Value.ownBlock] at hk
 ·have:g=k:=by simpa [Value.ownBlock] using hk
  subst this
  exact ⟨h1,cur,hg⟩
theorem Qr.weak {w0:Wz} {S':Nat→Prop} {w:World} {b n o:Nat} {vw vt:Value} {A:List Tk} {T:List Nd} (h:Qr (wz w0 S') b vw A T n o vt w) (hs:∀ g,w0.S g→S' g):Qr w0 b vw A T n o vt w:=
 ⟨h.rd,⟨h.qi.old,h.qi.lo,h.qi.words⟩,by
   obtain ⟨kvs,h1,h2,h3⟩:=h.tree
   exact ⟨kvs,h1,h2,fun i x v hx hv=>(h3 i x v hx hv).weak hs⟩,fun k hk=>h.sb k (hs k hk)⟩
theorem own_bes {w w5:World} {base size n:Nat} {row:Option Nat} {e:TypeId} {v:Value} {cs:List Value} (h:w.ownsRow base e size v n cs) (hgr:w.grownBy w5 row) (hne:∀ k,v.ownBlock=some k→row≠some k):w5.ownsRow base e size v n cs:=by
 refine ⟨h.1,?_⟩
 rcases h.2 with h'|⟨g,cap,cur,rfl,hb',hg,hc⟩
 ·exact Or.inl h'
 ·exact Or.inr ⟨g,cap,cur,rfl,hb',(hgr.block g (blk_lt hg) (fun e=>hne g rfl e.symm)).trans hg,hc⟩
abbrev wk (w0:Wz) (kv:Value):Wz:=wz w0 fun k=>w0.S k∨kv.ownBlock=some k
theorem Qr.nil {w0:Wz} {w:World} {b n o:Nat} {vw vt:Value} {A:List Tk} {T:List Nd} (h:Qr w0 b vw A T n o vt w):Qr (wk w0 (.slice none 0 0)) b vw A T n o vt w:=
 ⟨h.rd,⟨h.qi.old,h.qi.lo,h.qi.words⟩,by
   obtain ⟨kvs,h1,h2,h3⟩:=h.tree
   exact ⟨kvs,h1,h2,fun i x v hx hv=>⟨(h3 i x v hx hv).1,fun g e hk=>by
    rcases hk with hk|hk
    ·exact (h3 i x v hx hv).2 g e hk
    ·simp [Value.ownBlock] at hk⟩⟩,fun k hk=>by
    rcases hk with hk|hk
    ·exact h.sb k hk
    ·simp [Value.ownBlock] at hk⟩
theorem Qr.grown {w0:Wz} {w w5:World} {b n o base K g cap:Nat} {vw vt kv:Value} {A:List Tk} {T:List Nd} {cs:List Value} (h:Qr (wk w0 kv) b vw A T n o vt w) (hr:w.ownsRow base 3 1 kv K cs) (hb:w0.heap.size≤base) (hgr:w.grownBy w5 kv.ownBlock)
 (hlie:kv.ownBlock=some g∨g=w.heap.size) (hlt:g<w5.heap.size):Qr (wk w0 (.slice (some ⟨g,0,none⟩) (K+1) cap)) b vw A T n o vt w5:=by
 have h3n:∀ {k:Nat} {ds:Array Value} {t:TypeId} {fr:Nat × Nat},w.heap[k]?=some (.cells ds t fr)→t≠3→kv.ownBlock≠some k:=fun hk ht=>row_ne2 hr hk ht
 refine ⟨(hgr.block b h.rd.lt (fun e=>h3n h.rd (by decide) e.symm)).trans h.rd,⟨h.qi.old.grown hgr (fun k hk=>Nat.le_trans hb (own_at hr hk).1),h.qi.lo,h.qi.words⟩,?_,?_⟩
 ·obtain ⟨kvs,h1,h2,h3⟩:=h.tree
  refine ⟨kvs,h1,own_bes h2 hgr (fun k e1 e2=>?_),fun i x v hx hv=>⟨own_bes (h3 i x v hx hv).1 hgr (fun k e1 e2=>(h3 i x v hx hv).2 k e1 (Or.inr e2)),fun k e hk=>?_⟩⟩
  ·obtain ⟨_,cur,hc⟩:=own_at h2 e1
   exact h3n hc (by decide) e2
  ·rcases hk with hk|hk
   ·exact (h3 i x v hx hv).2 k e (Or.inl hk)
   ·obtain rfl:g=k:=by simpa [Value.ownBlock] using hk
    rcases hlie with e2|rfl
    ·exact (h3 i x v hx hv).2 _ e (Or.inr e2)
    ·exact Nat.lt_irrefl _ (KR.lt (h3 i x v hx hv).1 e)
 ·rintro k (hk|hk)
  ·exact Nat.lt_of_lt_of_le (h.sb k (Or.inl hk)) hgr.size
  ·obtain rfl:g=k:=by simpa [Value.ownBlock] using hk
   exact hlt
structure Aq (w0:Wz) (b:Nat) (vw:Value) (A:List Tk) (T:List Nd) (c o1:Nat) (v0:Value) (w:World) (X:Rz) (F op lo hi:Nat) (ln cl:Int) (g G:Nat) (ns:List Nd) (ks:List Nat) (m:Nat) (vt kv:Value) (wr:World):Prop where
 le:G≤F
 cg:Cv b v0 vt w wr
 ok:Qr (wk w0 kv) b vw A (T++ns) m o1 vt wr
 bd:c+ns.length+1≤m
 hm:m≤A.length
 box:Nv wr g #[.int .u8 (op:Int),.int .u8 0,.int .i64 0,.string ⟨#[]⟩,.string ⟨#[]⟩,kv,.int .i64 ln,.int .i64 cl]
 kr:wr.ownsRow w.heap.size 3 1 kv ks.length (kcs T ks)
 kl:ks.length<hi
 kin:∀ k∈ks,k<ns.length
 gb:g≠b
 gv:vt.ownBlock≠some g
 glo:w.heap.size≤g
 eq:((P G (.lvl 0) o1 (A.drop m)).bnd fun ns2 r=>P G (.args op lo hi ln cl (ns++ns2) (ks++[ns.length+ns2.length-1])) o1 r)=X
theorem Cv.grownIn {b:Nat} {v v':Value} {row:Option Nat} {wc w w5:World} (c:Cv b v v' wc w) (hgr:w.grownBy w5 row) (h:∀ k,row=some k→wc.heap.size≤k):Cv b v v' wc w5:=
 ⟨hgr.os.trans c.os,hgr.output.trans c.output,Nat.le_trans c.size hgr.size,fun k hk hb hv=>(hgr.block k (Nat.lt_of_lt_of_le hk c.size) (fun e=>by have:=h k e.symm;omega)).trans (c.block k hk hb hv),c.own⟩
theorem Qs.grown {w0:Wz} {w w5:World} {b base m N K:Nat} {e:Int} {vw vt kv:Value} {A:List Tk} {cs:List Value} (h:Qs w0 b vw A e m N vt w) (hr:w.ownsRow base 3 1 kv K cs) (hb:w0.heap.size≤base) (hgr:w.grownBy w5 kv.ownBlock):Qs w0 b vw A e m N vt w5:=by
 obtain ⟨n',o',cs',k',h1,h2,h3,h4⟩:=h.st
 refine ⟨⟨n',o',cs',k',h1,h2,(hgr.block b h3.lt (fun e=>row_ne2 hr h3 (by decide) e.symm)).trans h3,own_bes h4 hgr (fun k e1 e2=>?_)⟩,h.ne,⟨h.qi.old.grown hgr (fun k hk=>Nat.le_trans hb (own_at hr hk).1),h.qi.lo,h.qi.words⟩⟩
 obtain ⟨_,cur,hc⟩:=own_at h4 e1
 exact row_ne2 hr hc (by decide) e2
theorem Qs.base {w0:Wz} {S:Nat→Prop} {w:World} {b m N:Nat} {e:Int} {vw vt:Value} {A:List Tk} (h:Qs (wz w0 S) b vw A e m N vt w):Qs w0 b vw A e m N vt w:=⟨h.st,h.ne,⟨h.qi.old,h.qi.lo,h.qi.words⟩⟩
structure Bq3 (w0:Wz) (b:Nat) (vw:Value) (A:List Tk) (T:List Nd) (c o1:Nat) (v0:Value) (w:World) (op:Nat) (ln cl:Int) (g:Nat) (ns:List Nd) (ks:List Nat) (m:Nat) (vt kv:Value) (wr:World):Prop where
 cg:Cv b v0 vt w wr
 ok:Qr (wk w0 kv) b vw A (T++ns) m o1 vt wr
 pos:1≤ns.length
 bd:c+ns.length+1≤m
 hm:m≤A.length
 box:Nv wr g #[.int .u8 (op:Int),.int .u8 0,.int .i64 0,.string ⟨#[]⟩,.string ⟨#[]⟩,kv,.int .i64 ln,.int .i64 cl]
 kr:wr.ownsRow w.heap.size 3 1 kv ks.length (kcs T ks)
 kin:∀ k∈ks,k<ns.length
 gb:g≠b
 gv:vt.ownBlock≠some g
 glo:w.heap.size≤g
theorem aq_step {w0:Wz} {w wr w9 w5:World} {b c o1 F op lo hi g G m m9 g5 c5 R cap:Nat} {ln cl:Int} {oa:Option Addr} {vw v0 vt vt9:Value} {A:List Tk} {T ns ns2:List Nd} {ks:List Nat} {X:Rz} {r:List Tk}
 (h:Aq w0 b vw A T c o1 v0 w X F op lo hi ln cl g G ns ks m vt (.slice oa ks.length cap) wr) (hw:w0.heap.size≤w.heap.size) (h9:Rg (wk w0 (.slice oa ks.length cap)) b vw A (T++ns) m o1 vt wr.drew ns2 r m9 vt9 w9) (hR:R=(T++ns).length+ns2.length-1)
 (hgv:vt9.ownBlock≠some g) (hbx:Nv (w9.alloc (.cells #[.int .i64 (R:Int)] 3)) g #[.int .u8 (op:Int),.int .u8 0,.int .i64 0,.string ⟨#[]⟩,.string ⟨#[]⟩,.slice oa ks.length cap,.int .i64 ln,.int .i64 cl])
 (hkr:(w9.alloc (.cells #[.int .i64 (R:Int)] 3)).ownsRow w.heap.size 3 1 (.slice oa ks.length cap) ks.length (kcs T ks))
 (hown:w5.ownsRow w.heap.size 3 1 (.slice (some ⟨g5,0,none⟩) (ks.length+1) c5) (ks.length+1) (kcs T ks++[.int .i64 (R:Int)])) (hgr:(w9.alloc (.cells #[.int .i64 (R:Int)] 3)).grownBy w5 (Value.slice oa ks.length cap).ownBlock)
 (hlie:(Value.slice oa ks.length cap).ownBlock=some g5∨g5=(w9.alloc (.cells #[.int .i64 (R:Int)] 3)).heap.size) (hlt:g5<w5.heap.size) :
 Bq3 w0 b vw A T c o1 v0 w op ln cl g (ns++ns2) (ks++[ns.length+ns2.length-1]) m9 vt9 (.slice (some ⟨g5,0,none⟩) (ks.length+1) c5) (w5.setCell ⟨g,5,none⟩ (.slice (some ⟨g5,0,none⟩) (ks.length+1) c5)):=by
 have ho:=(Old.refl w9).alloc (.cells #[.int .i64 (R:Int)] 3)
 have hpos:=h9.pos
 have hle:=h9.le
 have hbd:=h.bd
 have b5:Nv w5 g _:=(hgr.block g (blk_lt hbx) (fun e=>row_ne2 hkr hbx (by decide) e.symm)).trans hbx
 have ok5:=(h9.ok.oldw ho).grown hkr hw hgr hlie hlt (cap:=c5)
 have ok6:=ok5.far (k:=5) (.slice (some ⟨g5,0,none⟩) (ks.length+1) c5) h.gb hgv b5 (Nat.le_trans hw h.glo)
 refine ⟨?_,by rw [←List.append_assoc];exact ok6,by rw [List.length_append];omega,by rw [List.length_append];omega,h9.hm,b5.set5 _,?_,?_,h.gb,hgv,h.glo⟩
 ·exact ((((h.cg.trans (Cv.ofOld (Old.refl wr).drew)).trans h9.cg).trans (Cv.ofOld ho)).grownIn hgr (fun k hk=>(own_at hkr hk).1)).poke h.glo
 ·have e:kcs T (ks++[ns.length+ns2.length-1])=kcs T ks++[.int .i64 (R:Int)]:=by
   rw [hR]
   simp only [kcs,List.map_append,List.map_cons,List.map_nil,List.length_append]
   congr 4
   omega
  rw [e,List.length_append]
  exact row_far hown (row_ne2 hown b5 (by decide))
 ·intro k hk
  rw [List.length_append]
  rcases List.mem_append.1 hk with hk|hk
  ·have:=h.kin k hk
   omega
  ·have:=List.mem_singleton.1 hk
   omega
structure Bq4 (w0:Wz) (b:Nat) (vw:Value) (A:List Tk) (N:Nat) (v0:Value) (w:World) (er:Int) (op:Nat) (ln cl:Int) (g m:Nat) (vt kv:Value) (wr:World):Prop where
 cg:Cv b v0 vt w wr
 qs:Qs w0 b vw A er m N vt wr
 box:Nv wr g #[.int .u8 (op:Int),.int .u8 0,.int .i64 0,.string ⟨#[]⟩,.string ⟨#[]⟩,kv,.int .i64 ln,.int .i64 cl]
theorem bq_step {w0:Wz} {w wr w9 w5:World} {b c o1 F op lo hi g G m m9 g5 c5 cap N:Nat} {ln cl er i:Int} {oa:Option Addr} {vw v0 vt vt9:Value} {A:List Tk} {T ns:List Nd} {ks:List Nat} {X:Rz} {r:List Tk}
 (h:Aq w0 b vw A T c o1 v0 w X F op lo hi ln cl g G ns ks m vt (.slice oa ks.length cap) wr) (hw:w0.heap.size≤w.heap.size) (h9:Rb2 (wk w0 (.slice oa ks.length cap)) b vw A N vt wr.drew er r m9 vt9 w9)
 (hgv:vt9.ownBlock≠some g) (hbx:Nv (w9.alloc (.cells #[.int .i64 i] 3)) g #[.int .u8 (op:Int),.int .u8 0,.int .i64 0,.string ⟨#[]⟩,.string ⟨#[]⟩,.slice oa ks.length cap,.int .i64 ln,.int .i64 cl])
 (hkr:(w9.alloc (.cells #[.int .i64 i] 3)).ownsRow w.heap.size 3 1 (.slice oa ks.length cap) ks.length (kcs T ks)) (hgr:(w9.alloc (.cells #[.int .i64 i] 3)).grownBy w5 (Value.slice oa ks.length cap).ownBlock) :
 Bq4 w0 b vw A N v0 w er op ln cl g m9 vt9 (.slice (some ⟨g5,0,none⟩) (ks.length+1) c5) (w5.setCell ⟨g,5,none⟩ (.slice (some ⟨g5,0,none⟩) (ks.length+1) c5)):=by
 have ho:=(Old.refl w9).alloc (.cells #[.int .i64 i] 3)
 have b5:Nv w5 g _:=(hgr.block g (blk_lt hbx) (fun e=>row_ne2 hkr hbx (by decide) e.symm)).trans hbx
 have q5:=(h9.qs.base.oldw ho).grown hkr hw hgr
 exact ⟨((((h.cg.trans (Cv.ofOld (Old.refl wr).drew)).trans h9.cg).trans (Cv.ofOld ho)).grownIn hgr (fun k hk=>(own_at hkr hk).1)).poke h.glo,q5.far _ h.gb hgv (Nat.le_trans hw h.glo),b5.set5 _⟩
theorem rstop_bad {w0:Wz} {w:World} {b m N:Nat} {e:Int} {vw vt:Value} {A:List Tk} (H:Qs w0 b vw A e m N vt w) (x:Int) :
 Calls Tryz.prog 96 #[.pointer (some ⟨b,0,none⟩),.int .i64 x] w fun e' w'=>e'=.returned (.tuple #[])∧Old w w':=by
 obtain ⟨n,o,cs,k,h1,h2,h3,h4⟩:=H.st
 have r4:=h3.c 4
 have i0:(e==0)=false:=beq_false_of_ne H.ne
 have i1:¬ e=0:=H.ne
 clear h3 h4 H
 go_enter Tryz.func96,Tryz.ntmps96
 go_wp2
 exact bodyPost_end (v:=.tuple #[]) (by simp [results,Tryz.results96,go_sem]) rfl ⟨rfl,Old.refl _⟩
theorem Bq3.old {w0:Wz} {b c o1 op g m:Nat} {vw v0 vt kv:Value} {A:List Tk} {T ns:List Nd} {ln cl:Int} {ks:List Nat} {w wr w':World} (h:Bq3 w0 b vw A T c o1 v0 w op ln cl g ns ks m vt kv wr) (ho:Old wr w'):Bq3 w0 b vw A T c o1 v0 w op ln cl g ns ks m vt kv w':=
 ⟨h.cg.trans (Cv.ofOld ho),h.ok.oldw ho,h.pos,h.bd,h.hm,h.box.old ho,own_old h.kr ho,h.kin,h.gb,h.gv,h.glo⟩
theorem Bq4.old {w0:Wz} {b N op g m:Nat} {vw v0 vt kv:Value} {A:List Tk} {ln cl er:Int} {w wr w':World} (h:Bq4 w0 b vw A N v0 w er op ln cl g m vt kv wr) (ho:Old wr w'):Bq4 w0 b vw A N v0 w er op ln cl g m vt kv w':=
 ⟨h.cg.trans (Cv.ofOld ho),h.qs.oldw ho,h.box.old ho⟩
theorem Bq3.next {w0:Wz} {b c o1 op g m F lo hi G:Nat} {vw v0 vt kv:Value} {A:List Tk} {T ns:List Nd} {ln cl:Int} {ks:List Nat} {w wr:World} {X:Rz} (h:Bq3 w0 b vw A T c o1 v0 w op ln cl g ns ks m vt kv wr) (hG:G≤F) (hm:m<A.length) (hk:ks.length<hi)
 (he:((P G (.lvl 0) o1 (A.drop (m+1))).bnd fun ns2 r=>P G (.args op lo hi ln cl (ns++ns2) (ks++[ns.length+ns2.length-1])) o1 r)=X):Aq w0 b vw A T c o1 v0 w X F op lo hi ln cl g G ns ks (m+1) vt kv (wr.setCell ⟨b,1,none⟩ (.int .i64 ((m:Int)+1))):=by
 have hcs:=Chx.ofSet wr ⟨b,1,none⟩ (.int .i64 ((m:Int)+1))
 exact ⟨hG,h.cg.trans (Cv.ofChx hcs),h.ok.chx hcs (h.ok.rd.set1 _),by have:=h.bd;omega,hm,h.box.cv h.gb h.gv (Cv.ofChx (v:=vt) hcs),own_chq h.kr (by decide) h.ok.rd hcs,hk,h.kin,h.gb,h.gv,h.glo,he⟩
theorem Bq3.put {w0:Wz} {b c o1 o op g m:Nat} {vw v0 vt kv:Value} {A:List Tk} {T ns:List Nd} {ln cl:Int} {ks:List Nat} {w wr w8:World} (h:Bq3 w0 b vw A T c o1 v0 w op ln cl g ns ks m vt kv wr) (hw:w0.heap.size≤w.heap.size) (hsb:∀ k,w0.S k→k<w.heap.size) (hTc:T.length≤c) (hA:A.length≤200000) (hm:m<A.length) (c8:Chx (·= b) wr w8) (h8:RqB w8 b vw ((m+1:Nat):Int) o1 vt 0 0) (hO:(o1:Int)-1=(o:Int)) :
 Calls Tryz.prog 50 #[.pointer (some ⟨b,0,none⟩),.agg #[.int .u8 (op:Int),.int .u8 0,.int .i64 0,.string ⟨#[]⟩,.string ⟨#[]⟩,kv,.int .i64 ln,.int .i64 cl]] (w8.setCell ⟨b,2,none⟩ (.int .i64 ((o1:Int)-1))) fun e w'=>
  e=.returned (.int .i64 ((T++ns).length:Nat))∧∃ vt',Cv b v0 vt' w w'∧Qr w0 b vw A (T++ns++[⟨op,0,0,[],[],ks.map (ns.length-·),ln,cl⟩]) (m+1) o vt' w':=by
 have hcs:=Chx.ofSet w8 ⟨b,2,none⟩ (.int .i64 ((o1:Int)-1))
 have h9:Qr (wk w0 kv) b vw A (T++ns) (m+1) o1 vt w8:=h.ok.chx c8 h8
 have h10:Qr (wk w0 kv) b vw A (T++ns) (m+1) o vt (w8.setCell ⟨b,2,none⟩ (.int .i64 ((o1:Int)-1))):=h9.chx hcs (by rw [←hO];exact h8.set2 _)
 have h11:Qr w0 b vw A (T++ns) (m+1) o vt (w8.setCell ⟨b,2,none⟩ (.int .i64 ((o1:Int)-1))):=h10.weak (fun g hg=>Or.inl hg)
 have hr:=own_chq (own_chq h.kr (by decide) h.ok.rd c8) (by decide) h9.rd hcs
 have e:kcs T ks=(ks.map (ns.length-·)).map (fun k:Nat=>Value.int .i64 (((T++ns).length-k:Nat):Int)):=by
  rw [List.map_map]
  refine List.map_congr_left fun k hk=>?_
  have:=h.kin k hk
  show Value.int .i64 ((T.length+k:Nat):Int)=Value.int .i64 (((T++ns).length-(ns.length-k):Nat):Int)
  rw [List.length_append]
  congr 2
  omega
 have hks:KS w0.S (w8.setCell ⟨b,2,none⟩ (.int .i64 ((o1:Int)-1))) w0.heap.size kv ((ks.map (ns.length-·)).map ((T++ns).length-·)):=by
  refine ⟨?_,fun k e1 e2=>?_⟩
  ·unfold KR
   rw [List.length_map,List.length_map]
   have e2:∀ M:List Nat,(M.map ((T++ns).length-·)).map (fun k:Nat=>Value.int .i64 (k:Int))=M.map (fun k:Nat=>Value.int .i64 (((T++ns).length-k:Nat):Int)):=fun M=>by rw [List.map_map];rfl
   rw [e2]
   have h2:=own_mono hr hw
   rw [e] at h2
   exact h2
  ·have h1:=(own_at h.kr e1).1
   have:=hsb k e2
   omega
 have hbd:=h.bd
 refine (rput_good h11 ⟨op,0,0,[],[],ks.map (ns.length-·),ln,cl⟩ kv hks (by rw [List.length_append];omega)).mono ?_
 rintro e w' ⟨h1,vt',h2,h3⟩
 exact ⟨h1,vt',((h.cg.trans (Cv.ofChx c8)).trans (Cv.ofChx hcs)).trans h2,h3⟩
theorem rcall_paren {w0:Wz} {w:World} {b n o F N op lo hi:Nat} {vw vt:Value} {A:List Tk} {T:List Nd} (H:Qr w0 b vw A T n o vt w) (hn:n<A.length) (hA:A.length≤200000) (ho:o≤12) (hTn:T.length≤n) (hop:op≤26) (hlo:lo≤8) (hhi:hi≤8) (hTN:T.length+1≤N) (hN2:N≤1000000) (hi40:isL [40] (A.drop (n+1))=false):Calls Tryz.prog 98 #[.pointer (some ⟨b,0,none⟩),.int .u8 (op:Int),.int .i64 (lo:Int),.int .i64 (hi:Int)] w (RRes w0 b vw A T n o N vt w (.no 4 (A.drop (n+1)))):=by
 have HH:=hid H
 obtain ⟨pn,hpn⟩:∃ pn,pn=(wordL (A.drop n)).ln:=⟨_,rfl⟩
 obtain ⟨pc,hpc⟩:∃ pc,pc=(wordL (A.drop n)).cl:=⟨_,rfl⟩
 have HPN:=hid hpn
 have HPC:=hid hpc
 have hpl:=rplace_any H.rd H.qi.wordsAt (Nat.le_of_lt hn) hA
 rw [←hpn,←hpc] at hpl
 have hnx:=next_is (s:=[40]) (l:=A.drop (n+1)) (by simp)
 obtain ⟨tx,htx⟩:∃ tx,tx=nextL (A.drop (n+1)):=⟨_,rfl⟩
 rw [hi40] at hnx
 have etl:(tx==[40])=false:=by rw [htx];exact hnx.symm
 have HI40:=hid hi40
 have HNX:=hid (show ∀ W,Qr w0 b vw A T (n+1) o vt W→Calls Tryz.prog 48 #[.pointer (some ⟨b,0,none⟩)] W fun e w'=>e=.returned (.string (st tx))∧Old W w' from fun W h=>by have:=rnext_any h.rd h.qi.wordsAt hn hA;rw [←htx] at this;exact this)
 clear hpn hpc hnx htx hi40 H
 go_enter Tryz.func98,Tryz.ntmps98
 go_wp2_with (first
  | (go_at_call 47;(with_reducible refine hpl.mono ?_);rintro e w1 ⟨rfl,o1⟩;have OA1:=hid (o1.alloc (.cells #[.int .u8 (op:Int),.int .u8 0,.int .i64 0,.string ⟨#[]⟩,.string ⟨#[]⟩,.slice none 0 0,.int .i64 pn,.int .i64 pc] 54));have L1:=hid o1.size;have H1:=hid (HH.out.oldw OA1.out);have x1:(w1.alloc (.cells #[.int .u8 (op:Int),.int .u8 0,.int .i64 0,.string ⟨#[]⟩,.string ⟨#[]⟩,.slice none 0 0,.int .i64 pn,.int .i64 pc] 54)).cell? ⟨b,1,none⟩=some (.int .i64 (n:Int)):=H1.out.rd.c 1;have y1:=H1.out.rd.f 1;have hcs:=Chx.ofSet (w1.alloc (.cells #[.int .u8 (op:Int),.int .u8 0,.int .i64 0,.string ⟨#[]⟩,.string ⟨#[]⟩,.slice none 0 0,.int .i64 pn,.int .i64 pc] 54)) ⟨b,1,none⟩ (.int .i64 ((n:Int)+1));have H2:=hid (show Qr w0 b vw A T (n+1) o vt ((w1.alloc (.cells #[.int .u8 (op:Int),.int .u8 0,.int .i64 0,.string ⟨#[]⟩,.string ⟨#[]⟩,.slice none 0 0,.int .i64 pn,.int .i64 pc] 54)).setCell ⟨b,1,none⟩ (.int .i64 ((n:Int)+1))) from H1.out.chx hcs (H1.out.rd.set1 _));have hgb:w1.heap.size≠b:=Nat.ne_of_gt (Nat.lt_of_lt_of_le HH.out.rd.lt o1.size);have GB:=hid hgb;have GV:=hid (show vt.ownBlock≠some w1.heap.size from fun e=>by have:=HH.out.hi _ e;have:=o1.size;omega);have B2:=hid (show Nv ((w1.alloc (.cells #[.int .u8 (op:Int),.int .u8 0,.int .i64 0,.string ⟨#[]⟩,.string ⟨#[]⟩,.slice none 0 0,.int .i64 pn,.int .i64 pc] 54)).setCell ⟨b,1,none⟩ (.int .i64 ((n:Int)+1))) w1.heap.size #[.int .u8 (op:Int),.int .u8 0,.int .i64 0,.string ⟨#[]⟩,.string ⟨#[]⟩,.slice none 0 0,.int .i64 pn,.int .i64 pc] from Nv.cv (show Nv (w1.alloc (.cells #[.int .u8 (op:Int),.int .u8 0,.int .i64 0,.string ⟨#[]⟩,.string ⟨#[]⟩,.slice none 0 0,.int .i64 pn,.int .i64 pc] 54)) w1.heap.size #[.int .u8 (op:Int),.int .u8 0,.int .i64 0,.string ⟨#[]⟩,.string ⟨#[]⟩,.slice none 0 0,.int .i64 pn,.int .i64 pc] from (MapKept.heap_alloc w1 _).1) hgb GV.out (Cv.ofChx (v:=vt) hcs));have C2:=hid (show Cv b vt vt w ((w1.alloc (.cells #[.int .u8 (op:Int),.int .u8 0,.int .i64 0,.string ⟨#[]⟩,.string ⟨#[]⟩,.slice none 0 0,.int .i64 pn,.int .i64 pc] 54)).setCell ⟨b,1,none⟩ (.int .i64 ((n:Int)+1))) from (Cv.ofOld OA1.out).trans (Cv.ofChx (v:=vt) hcs));clear o1 hcs hgb)
  | (go_at_call 48;(with_reducible refine (HNX.out _ H2.out).mono ?_);rintro e w3 ⟨rfl,o3⟩;have H3:=hid (H2.out.oldw o3);have B3:=hid (B2.out.old o3);have C3:=hid (C2.out.trans (Cv.ofOld (v:=vt) o3));clear o3;have HM1:=hid (show Calls Tryz.prog 99 #[.pointer (some ⟨b,0,none⟩),.string ⟨#[40]⟩] w3 _ from rmust_no H3.out.rd H3.out.qi.wordsAt hn hA [40] (by simp) HI40.out))
  | (go_at_call 99;(with_reducible refine HM1.out.mono ?_);rintro e w4 ⟨rfl,c4,h4⟩;have HQ:=hid (H3.out.stopped (N:=N-1) c4 h4 (by decide) hn (by omega));have CQ:=hid (C3.out.trans (Cv.ofChx (v:=vt) c4));have BX:=hid (Nv.cv B3.out GB.out GV.out (Cv.ofChx (v:=vt) c4));have GBQ:=GB;have GVQ:=GV;have x4:=h4.c 4;clear c4 h4))
 go_loopw [] (fun wr=>wr=w4) (fun _=>0)
 case atStart=>rfl
 case round=>
  obtain rfl:=hrel
  have HSH:=hid (show (Value.slice none 0 0).oneCell'=true from rfl)
  obtain ⟨n9,o9,cs9,k9,j1,j2,j3,j4⟩:=HQ.out.st
  have J1:=hid j1
  have J2:=hid j2
  have J3:=hid j3
  have J4:=hid j4
  have HM2:=hid (show Calls Tryz.prog 99 #[.pointer (some ⟨b,0,none⟩),.string ⟨#[41]⟩] wr _ from rmust_stop j3 HQ.out.ne [41])
  clear j1 j2 j3 j4
  go_wp2_with (first
   | (go_at_call 99;(with_reducible refine HM2.out.mono ?_);rintro e w8 ⟨rfl,o8⟩;have R8:=hid (J3.out.old o8);have z2:=R8.out.c 2;have z3:=R8.out.f 2;have hcs:=Chx.ofSet w8 ⟨b,2,none⟩ (.int .i64 (wrap64 (o9-1)));have B9:=hid (Nv.cv (BX.out.old o8) GBQ.out GVQ.out (Cv.ofChx (v:=vt) hcs));have C9:=hid ((CQ.out.trans (Cv.ofOld (v:=vt) o8)).trans (Cv.ofChx (v:=vt) hcs));have HQ9:=hid (show Qs w0 b _ A 4 (n+1) (N-1) vt (w8.setCell ⟨b,2,none⟩ (.int .i64 (wrap64 (o9-1)))) from ⟨⟨n9,_,cs9,k9,J1.out,J2.out,R8.out.set2 _,own_chq (own_old J4.out o8) (by decide) R8.out hcs⟩,HQ.out.ne,(HQ.out.oldw o8).qi.cv (Cv.ofChx (v:=vt) hcs) HQ.out.lo⟩);have HPU:=hid (show Calls Tryz.prog 50 #[.pointer (some ⟨b,0,none⟩),.agg #[.int .u8 (op:Int),.int .u8 0,.int .i64 0,.string ⟨#[]⟩,.string ⟨#[]⟩,.slice none 0 0,.int .i64 pn,.int .i64 pc]] (w8.setCell ⟨b,2,none⟩ (.int .i64 (wrap64 (o9-1)))) _ from rput_bad HQ9.out ⟨op,0,0,[],[],[],pn,pc⟩ (.slice none 0 0) HSH.out (by omega));have q0:=B9.out.c 0;have q1:=B9.out.c 1;have q2:=B9.out.c 2;have q3:=B9.out.c 3;have q4:=B9.out.c 4;have q5:=B9.out.c 5;have q6:=B9.out.c 6;have q7:=B9.out.c 7;clear hcs o8)
   | (go_at_call 50;(with_reducible refine HPU.out.mono ?_);rintro e w12 ⟨⟨j,rfl⟩,vt12,hc12,h12⟩;have HC12:=hid (C9.out.trans hc12);have H12:=hid (show Qs w0 b _ A 4 (n+1) N vt12 w12 from by rw [show N-1+1=N by omega] at h12;exact h12);clear hc12 h12))
  go_ret
  exact ⟨n+1,j,vt12,rfl,hn,rfl,HC12.out,H12.out⟩
theorem rcall_deep {w0:Wz} {w:World} {b n o F N op lo hi:Nat} {vw vt:Value} {A:List Tk} {T:List Nd} (H:Qr w0 b vw A T n o vt w) (hn:n<A.length) (hA:A.length≤200000) (ho:o≤12) (hTn:T.length≤n) (hop:op≤26) (hlo:lo≤8) (hhi:hi≤8) (hTN:T.length+1≤N) (hN2:N≤1000000) (hi40:isL [40] (A.drop (n+1))=true) (h12:o=12):Calls Tryz.prog 98 #[.pointer (some ⟨b,0,none⟩),.int .u8 (op:Int),.int .i64 (lo:Int),.int .i64 (hi:Int)] w (RRes w0 b vw A T n o N vt w (.no 12 (A.drop (n+1)))):=by
 have HH:=hid H
 obtain ⟨pn,hpn⟩:∃ pn,pn=(wordL (A.drop n)).ln:=⟨_,rfl⟩
 obtain ⟨pc,hpc⟩:∃ pc,pc=(wordL (A.drop n)).cl:=⟨_,rfl⟩
 have HPN:=hid hpn
 have HPC:=hid hpc
 have hpl:=rplace_any H.rd H.qi.wordsAt (Nat.le_of_lt hn) hA
 rw [←hpn,←hpc] at hpl
 have hnx:=next_is (s:=[40]) (l:=A.drop (n+1)) (by simp)
 obtain ⟨tx,htx⟩:∃ tx,tx=nextL (A.drop (n+1)):=⟨_,rfl⟩
 rw [hi40] at hnx
 have htx2:tx=[40]:=by rw [htx];simpa using hnx.symm
 have HI40:=hid hi40
 have HNX:=hid (show ∀ W,Qr w0 b vw A T (n+1) o vt W→Calls Tryz.prog 48 #[.pointer (some ⟨b,0,none⟩)] W fun e w'=>e=.returned (.string (st [40]))∧Old W w' from fun W h=>by have:=rnext_any h.rd h.qi.wordsAt hn hA;rw [←htx,htx2] at this;exact this)
 clear hpn hpc hnx htx hi40 H htx2
 go_enter Tryz.func98,Tryz.ntmps98
 go_wp2_with (first
  | (go_at_call 47;(with_reducible refine hpl.mono ?_);rintro e w1 ⟨rfl,o1⟩;have OA1:=hid (o1.alloc (.cells #[.int .u8 (op:Int),.int .u8 0,.int .i64 0,.string ⟨#[]⟩,.string ⟨#[]⟩,.slice none 0 0,.int .i64 pn,.int .i64 pc] 54));have L1:=hid o1.size;have H1:=hid (HH.out.oldw OA1.out);have x1:(w1.alloc (.cells #[.int .u8 (op:Int),.int .u8 0,.int .i64 0,.string ⟨#[]⟩,.string ⟨#[]⟩,.slice none 0 0,.int .i64 pn,.int .i64 pc] 54)).cell? ⟨b,1,none⟩=some (.int .i64 (n:Int)):=H1.out.rd.c 1;have y1:=H1.out.rd.f 1;have hcs:=Chx.ofSet (w1.alloc (.cells #[.int .u8 (op:Int),.int .u8 0,.int .i64 0,.string ⟨#[]⟩,.string ⟨#[]⟩,.slice none 0 0,.int .i64 pn,.int .i64 pc] 54)) ⟨b,1,none⟩ (.int .i64 ((n:Int)+1));have H2:=hid (show Qr w0 b vw A T (n+1) o vt ((w1.alloc (.cells #[.int .u8 (op:Int),.int .u8 0,.int .i64 0,.string ⟨#[]⟩,.string ⟨#[]⟩,.slice none 0 0,.int .i64 pn,.int .i64 pc] 54)).setCell ⟨b,1,none⟩ (.int .i64 ((n:Int)+1))) from H1.out.chx hcs (H1.out.rd.set1 _));have hgb:w1.heap.size≠b:=Nat.ne_of_gt (Nat.lt_of_lt_of_le HH.out.rd.lt o1.size);have GB:=hid hgb;have GV:=hid (show vt.ownBlock≠some w1.heap.size from fun e=>by have:=HH.out.hi _ e;have:=o1.size;omega);have B2:=hid (show Nv ((w1.alloc (.cells #[.int .u8 (op:Int),.int .u8 0,.int .i64 0,.string ⟨#[]⟩,.string ⟨#[]⟩,.slice none 0 0,.int .i64 pn,.int .i64 pc] 54)).setCell ⟨b,1,none⟩ (.int .i64 ((n:Int)+1))) w1.heap.size #[.int .u8 (op:Int),.int .u8 0,.int .i64 0,.string ⟨#[]⟩,.string ⟨#[]⟩,.slice none 0 0,.int .i64 pn,.int .i64 pc] from Nv.cv (show Nv (w1.alloc (.cells #[.int .u8 (op:Int),.int .u8 0,.int .i64 0,.string ⟨#[]⟩,.string ⟨#[]⟩,.slice none 0 0,.int .i64 pn,.int .i64 pc] 54)) w1.heap.size #[.int .u8 (op:Int),.int .u8 0,.int .i64 0,.string ⟨#[]⟩,.string ⟨#[]⟩,.slice none 0 0,.int .i64 pn,.int .i64 pc] from (MapKept.heap_alloc w1 _).1) hgb GV.out (Cv.ofChx (v:=vt) hcs));have C2:=hid (show Cv b vt vt w ((w1.alloc (.cells #[.int .u8 (op:Int),.int .u8 0,.int .i64 0,.string ⟨#[]⟩,.string ⟨#[]⟩,.slice none 0 0,.int .i64 pn,.int .i64 pc] 54)).setCell ⟨b,1,none⟩ (.int .i64 ((n:Int)+1))) from (Cv.ofOld OA1.out).trans (Cv.ofChx (v:=vt) hcs));clear o1 hcs hgb)
  | (go_at_call 48;(with_reducible refine (HNX.out _ H2.out).mono ?_);rintro e w3 ⟨rfl,o3⟩;have H3:=hid (H2.out.oldw o3);have B3:=hid (B2.out.old o3);have C3:=hid (C2.out.trans (Cv.ofOld (v:=vt) o3));clear o3)
  | (go_at_call 49;refine (rdeep_no H3.out.rd (by omega) (by omega)).mono ?_;rintro e w4 ⟨rfl,c4,h4⟩;have HQ4:=hid (H3.out.stopped (N:=N-1) c4 h4 (by decide) hn (by omega));have C4:=hid (C3.out.trans (Cv.ofChx (v:=vt) c4));have B4:=hid (Nv.cv B3.out GB.out GV.out (Cv.ofChx (v:=vt) c4));have HM1:=hid (show Calls Tryz.prog 99 #[.pointer (some ⟨b,0,none⟩),.string ⟨#[40]⟩] w4 _ from rmust_stop h4 (by decide) [40]);clear c4 h4)
  | (go_at_call 99;(with_reducible refine HM1.out.mono ?_);rintro e w5 ⟨rfl,o5⟩;have HQ:=hid (HQ4.out.oldw o5);have CQ:=hid (C4.out.trans (Cv.ofOld (v:=vt) o5));have BX:=hid (B4.out.old o5);have GBQ:=GB;have GVQ:=GV;obtain ⟨n9,o9,cs9,k9,j1,j2,j3,j4⟩:=HQ.out.st;have x4:=j3.c 4;clear j1 j2 j3 j4 o5))
 go_loopw [] (fun wr=>wr=w5) (fun _=>0)
 case atStart=>rfl
 case round=>
  obtain rfl:=hrel
  have HSH:=hid (show (Value.slice none 0 0).oneCell'=true from rfl)
  obtain ⟨n9,o9,cs9,k9,j1,j2,j3,j4⟩:=HQ.out.st
  have J1:=hid j1
  have J2:=hid j2
  have J3:=hid j3
  have J4:=hid j4
  have HM2:=hid (show Calls Tryz.prog 99 #[.pointer (some ⟨b,0,none⟩),.string ⟨#[41]⟩] wr _ from rmust_stop j3 HQ.out.ne [41])
  clear j1 j2 j3 j4
  go_wp2_with (first
   | (go_at_call 99;(with_reducible refine HM2.out.mono ?_);rintro e w8 ⟨rfl,o8⟩;have R8:=hid (J3.out.old o8);have z2:=R8.out.c 2;have z3:=R8.out.f 2;have hcs:=Chx.ofSet w8 ⟨b,2,none⟩ (.int .i64 (wrap64 (o9-1)));have B9:=hid (Nv.cv (BX.out.old o8) GBQ.out GVQ.out (Cv.ofChx (v:=vt) hcs));have C9:=hid ((CQ.out.trans (Cv.ofOld (v:=vt) o8)).trans (Cv.ofChx (v:=vt) hcs));have HQ9:=hid (show Qs w0 b _ A 12 (n+1) (N-1) vt (w8.setCell ⟨b,2,none⟩ (.int .i64 (wrap64 (o9-1)))) from ⟨⟨n9,_,cs9,k9,J1.out,J2.out,R8.out.set2 _,own_chq (own_old J4.out o8) (by decide) R8.out hcs⟩,HQ.out.ne,(HQ.out.oldw o8).qi.cv (Cv.ofChx (v:=vt) hcs) HQ.out.lo⟩);have HPU:=hid (show Calls Tryz.prog 50 #[.pointer (some ⟨b,0,none⟩),.agg #[.int .u8 (op:Int),.int .u8 0,.int .i64 0,.string ⟨#[]⟩,.string ⟨#[]⟩,.slice none 0 0,.int .i64 pn,.int .i64 pc]] (w8.setCell ⟨b,2,none⟩ (.int .i64 (wrap64 (o9-1)))) _ from rput_bad HQ9.out ⟨op,0,0,[],[],[],pn,pc⟩ (.slice none 0 0) HSH.out (by omega));have q0:=B9.out.c 0;have q1:=B9.out.c 1;have q2:=B9.out.c 2;have q3:=B9.out.c 3;have q4:=B9.out.c 4;have q5:=B9.out.c 5;have q6:=B9.out.c 6;have q7:=B9.out.c 7;clear hcs o8)
   | (go_at_call 50;(with_reducible refine HPU.out.mono ?_);rintro e w12 ⟨⟨j,rfl⟩,vt12,hc12,h12⟩;have HC12:=hid (C9.out.trans hc12);have H12:=hid (show Qs w0 b _ A 12 (n+1) N vt12 w12 from by rw [show N-1+1=N by omega] at h12;exact h12);clear hc12 h12))
  go_ret
  exact ⟨n+1,j,vt12,rfl,hn,rfl,HC12.out,H12.out⟩
theorem rcall_go {w0:Wz} {w:World} {b n o F N op lo hi:Nat} {vw vt:Value} {A:List Tk} {T:List Nd} (ih:∀ S G,G≤F→LvQ (wz w0 S) b vw A G) (H:Qr w0 b vw A T n o vt w) (hn:n<A.length) (hA:A.length≤200000) (ho:o≤12) (hTn:T.length≤n) (hop:op≤26) (hlo:lo≤8) (hhi:hi≤8) (hl1:1≤lo) (hlh:lo≤hi) (hTN:T.length+(A.length-n)+(F+1)≤N) (hN2:N≤1000000) (hi40:isL [40] (A.drop (n+1))=true) (h12:o≠12) {X:Rz} (hX:(P F (.lvl 0) (o+1) (A.drop (n+2))).bnd (fun ns r=>P F (.args op lo hi (wordL (A.drop n)).ln (wordL (A.drop n)).cl ns [ns.length-1]) (o+1) r)=X) (hout:X≠.out):Calls Tryz.prog 98 #[.pointer (some ⟨b,0,none⟩),.int .u8 (op:Int),.int .i64 (lo:Int),.int .i64 (hi:Int)] w (RRes w0 b vw A T n o N vt w (X)):=by
 have hne2:n+1<A.length:=drop_lt (isL_ne hi40)
 have HH:=hid H
 obtain ⟨pn,hpn⟩:∃ pn,pn=(wordL (A.drop n)).ln:=⟨_,rfl⟩
 obtain ⟨pc,hpc⟩:∃ pc,pc=(wordL (A.drop n)).cl:=⟨_,rfl⟩
 have HPN:=hid hpn
 have HPC:=hid hpc
 have hpl:=rplace_any H.rd H.qi.wordsAt (Nat.le_of_lt hn) hA
 rw [←hpn,←hpc] at hpl
 have hnx:=next_is (s:=[40]) (l:=A.drop (n+1)) (by simp)
 obtain ⟨tx,htx⟩:∃ tx,tx=nextL (A.drop (n+1)):=⟨_,rfl⟩
 rw [hi40] at hnx
 have htx2:tx=[40]:=by rw [htx];simpa using hnx.symm
 have HI40:=hid hi40
 have HNX:=hid (show ∀ W,Qr w0 b vw A T (n+1) o vt W→Calls Tryz.prog 48 #[.pointer (some ⟨b,0,none⟩)] W fun e w'=>e=.returned (.string (st [40]))∧Old W w' from fun W h=>by have:=rnext_any h.rd h.qi.wordsAt hn hA;rw [←htx,htx2] at this;exact this)
 rw [←hpn,←hpc] at hX
 clear hpn hpc hnx htx hi40 H htx2
 obtain ⟨O1,hO1⟩:∃ O1,O1=o+1:=⟨_,rfl⟩
 rw [←hO1] at hX
 have HO1:=hid hO1
 have HOi:=hid (show (O1:Int)-1=(o:Int) by omega)
 have HO2:=hid (show (o:Int)+1=(O1:Int) by omega)
 have hO11:1≤O1:=by omega
 have hO13:O1≤12:=by omega
 have HX:=hid hX
 have HSB:=hid HH.out.sb
 have HWW:=hid (show w0.heap.size≤w.heap.size from HH.out.qi.old.size)
 have HOUT:=hid hout
 have IH:=hid ih
 clear hO1 hX hout ih
 go_enter Tryz.func98,Tryz.ntmps98
 go_wp2_with (first
  | (go_at_call 47;(with_reducible refine hpl.mono ?_);rintro e w1 ⟨rfl,o1⟩;have OA1:=hid (o1.alloc (.cells #[.int .u8 (op:Int),.int .u8 0,.int .i64 0,.string ⟨#[]⟩,.string ⟨#[]⟩,.slice none 0 0,.int .i64 pn,.int .i64 pc] 54));have L1:=hid o1.size;have H1:=hid (HH.out.oldw OA1.out);have x1:(w1.alloc (.cells #[.int .u8 (op:Int),.int .u8 0,.int .i64 0,.string ⟨#[]⟩,.string ⟨#[]⟩,.slice none 0 0,.int .i64 pn,.int .i64 pc] 54)).cell? ⟨b,1,none⟩=some (.int .i64 (n:Int)):=H1.out.rd.c 1;have y1:=H1.out.rd.f 1;have hcs:=Chx.ofSet (w1.alloc (.cells #[.int .u8 (op:Int),.int .u8 0,.int .i64 0,.string ⟨#[]⟩,.string ⟨#[]⟩,.slice none 0 0,.int .i64 pn,.int .i64 pc] 54)) ⟨b,1,none⟩ (.int .i64 ((n:Int)+1));have H2:=hid (show Qr w0 b vw A T (n+1) o vt ((w1.alloc (.cells #[.int .u8 (op:Int),.int .u8 0,.int .i64 0,.string ⟨#[]⟩,.string ⟨#[]⟩,.slice none 0 0,.int .i64 pn,.int .i64 pc] 54)).setCell ⟨b,1,none⟩ (.int .i64 ((n:Int)+1))) from H1.out.chx hcs (H1.out.rd.set1 _));have hgb:w1.heap.size≠b:=Nat.ne_of_gt (Nat.lt_of_lt_of_le HH.out.rd.lt o1.size);have GB:=hid hgb;have GV:=hid (show vt.ownBlock≠some w1.heap.size from fun e=>by have:=HH.out.hi _ e;have:=o1.size;omega);have B2:=hid (show Nv ((w1.alloc (.cells #[.int .u8 (op:Int),.int .u8 0,.int .i64 0,.string ⟨#[]⟩,.string ⟨#[]⟩,.slice none 0 0,.int .i64 pn,.int .i64 pc] 54)).setCell ⟨b,1,none⟩ (.int .i64 ((n:Int)+1))) w1.heap.size #[.int .u8 (op:Int),.int .u8 0,.int .i64 0,.string ⟨#[]⟩,.string ⟨#[]⟩,.slice none 0 0,.int .i64 pn,.int .i64 pc] from Nv.cv (show Nv (w1.alloc (.cells #[.int .u8 (op:Int),.int .u8 0,.int .i64 0,.string ⟨#[]⟩,.string ⟨#[]⟩,.slice none 0 0,.int .i64 pn,.int .i64 pc] 54)) w1.heap.size #[.int .u8 (op:Int),.int .u8 0,.int .i64 0,.string ⟨#[]⟩,.string ⟨#[]⟩,.slice none 0 0,.int .i64 pn,.int .i64 pc] from (MapKept.heap_alloc w1 _).1) hgb GV.out (Cv.ofChx (v:=vt) hcs));have C2:=hid (show Cv b vt vt w ((w1.alloc (.cells #[.int .u8 (op:Int),.int .u8 0,.int .i64 0,.string ⟨#[]⟩,.string ⟨#[]⟩,.slice none 0 0,.int .i64 pn,.int .i64 pc] 54)).setCell ⟨b,1,none⟩ (.int .i64 ((n:Int)+1))) from (Cv.ofOld OA1.out).trans (Cv.ofChx (v:=vt) hcs));clear o1 hcs hgb)
  | (go_at_call 48;(with_reducible refine (HNX.out _ H2.out).mono ?_);rintro e w3 ⟨rfl,o3⟩;have H3:=hid (H2.out.oldw o3);have B3:=hid (B2.out.old o3);have C3:=hid (C2.out.trans (Cv.ofOld (v:=vt) o3));clear o3)
  | (go_at_call 49;refine (rdeep_ok H3.out.rd (by omega) (by omega)).mono ?_;rintro e w4 ⟨rfl,c4,h4⟩;rw [HO2.out] at h4;have H4:=hid (H3.out.chx c4 h4);have C4:=hid (C3.out.trans (Cv.ofChx (v:=vt) c4));have B4:=hid (Nv.cv B3.out GB.out GV.out (Cv.ofChx (v:=vt) c4));have HM1:=hid (show Calls Tryz.prog 99 #[.pointer (some ⟨b,0,none⟩),.string ⟨#[40]⟩] w4 _ from rmust_ok H4.out.rd H4.out.qi.wordsAt hn hA [40] (by simp) HI40.out);clear c4 h4)
  | (go_at_call 99;(with_reducible refine HM1.out.mono ?_);rintro e w5 ⟨rfl,c5,h5⟩;have H5:=hid (H4.out.chx c5 h5);have C5:=hid (C4.out.trans (Cv.ofChx (v:=vt) c5));have B5:=hid (Nv.cv B4.out GB.out GV.out (Cv.ofChx (v:=vt) c5));clear c5 h5))
 have HAQ:=hid (show Aq w0 b vw A T n O1 vt w X F op lo hi pn pc w1.heap.size F [] [] (n+2) vt (.slice none 0 0) w5 from
  ⟨Nat.le_refl _,C5.out,by rw [List.append_nil];exact H5.out.nil,by simp,hne2,B5.out,World.ownsRow_nil _ _ _ _,by show 0<hi;omega,fun k hk=>by simp at hk,GB.out,GV.out,L1.out,by rw [←HX.out];congr 1;funext ns2 r;simp⟩)
 clear HX HH H1 H2 H3 H4 H5 B2 B3 B4 B5 C2 C3 C4 C5 HM1 HNX HI40
 generalize w1.heap.size=g at *
 go_loopw [] (fun wr=>∃ (G:Nat) (ns:List Nd) (ks:List Nat) (m:Nat) (vt' kv:Value),Hid (Aq w0 b vw A T n O1 vt w X F op lo hi pn pc g G ns ks m vt' kv wr)) (fun wr=>leftOf A.length wr b)
 case atStart=>exact ⟨F,[],[],n+2,vt,_,HAQ⟩
 case round=>
  clear HAQ
  obtain ⟨G,ns,ks,m,vt1,kv,H1⟩:=hrel
  have x4:=H1.out.ok.rd.c 4
  have bd1:=H1.out.bd
  have hm1:=H1.out.hm
  have hne1:P G (.lvl 0) O1 (A.drop m)≠.out:=fun e=>HOUT.out (by rw [←H1.out.eq,e];rfl)
  have hi3:=fun (W:World) (h:Qr (wk w0 kv) b vw A (T++ns) m O1 vt1 W)=>IH.out (fun k=>w0.S k∨kv.ownBlock=some k) G H1.out.le 0 O1 m (N-1) (T++ns) vt1 W (by omega) hO13 hm1 (by rw [List.length_append];omega) h hne1 (by have:=H1.out.le;rw [List.length_append];omega) (by omega)
  cases hP:P G (.lvl 0) O1 (A.drop m) with
  | out=>exact absurd hP hne1
  | no er r=>
    rw [hP] at hi3
    have HI:=hid (show ∀ W,Qr (wk w0 kv) b vw A (T++ns) m O1 vt1 W→Calls Tryz.prog 22 #[.pointer (some ⟨b,0,none⟩),.int .i64 0] W _ from fun W h=>calls_rb (hi3 W h))
    have HE:=hid (show X=.no er r from by rw [←H1.out.eq,hP];rfl)
    clear hi3 hP hne1
    obtain ⟨ti,hti,hz,hsz,hby⟩:=info_parts info3
    obtain ⟨oa,cap,rfl⟩:=own_shape H1.out.kr
    have k5:wr.cell? ⟨g,5,none⟩=some (.slice oa ks.length cap):=H1.out.box.c 5
    have HDR:=hid (H1.out.ok.oldw ((Old.refl wr).drew))
    have L1':=hid (show (ks.length+1)*8≤140737488355328 by have:=H1.out.kl;omega)
    have L2':=hid (show ks.length+1≤maxLen by have:=H1.out.kl;unfold maxLen;omega)
    go_upto_region 7 with fail
    go_cut [] from 34 to 40 (fun wx=>∃ (m9:Nat) (vt9 kv9:Value),kv9.oneCell'=true∧(∃ (g5 c5:Nat),kv9=.slice (some ⟨g5,0,none⟩) (ks.length+1) c5)∧Hid (r=A.drop m9∧m9≤A.length)∧Hid (vt9.ownBlock≠some g)∧Hid (Bq4 w0 b vw A (N-1) vt w er op pn pc g m9 vt9 kv9 wx))
    case first=>
     go_region_law (first
      | (refine step_append_lies _ rfl _ _ 52 rfl w.heap.size 3 ti _ 1 8 Tryz.underlying52 hti hz hsz hby rfl (Nat.zero_lt_succ 0) (.slice oa ks.length cap) ks.length (kcs T ks) rfl KR9.out ⟨w9.heap.size,0,none⟩ 1 1 [.int .i64 i] rfl rfl (World.news_of_block (cs:=#[.int .i64 i]) (MapKept.heap_alloc w9 _).1) (fun u hu=>by rcases List.mem_singleton.1 hu with rfl;rfl) (Nat.zero_lt_succ 0) L2'.out L1'.out L3'.out _ rfl ?_;intro g5 c5' w5 hown hgr hlie hlt;have B5:=hid (show Nv w5 g _ from (hgr.block g (blk_lt BA.out) (fun e=>row_ne2 KR9.out BA.out (by decide) e.symm)).trans BA.out);have k6:w5.cell? ⟨g,5,none⟩=some (.slice oa ks.length cap):=B5.out.c 5;have f6:=B5.out.f 5;have H6:=hid (bq_step (g5:=g5) (c5:=c5') H1.out HWW.out Y9.out GV9.out BA.out KR9.out hgr);clear hown hgr hlie hlt)
      | (go_simp;go_at_call 22;(with_reducible refine (HI.out _ HDR.out).mono ?_);rintro e w9 ⟨i,m9,vt9,rfl,Y9⟩;have GV9:=hid (show vt9.ownBlock≠some g from fun e=>by rcases Y9.out.cg.own _ e with h|h;exact H1.out.gv h;exact absurd (blk_lt H1.out.box) (Nat.not_lt.2 h));have B9:=hid (Nv.cv (show Nv wr.drew g _ from H1.out.box) H1.out.gb H1.out.gv Y9.out.cg);have BA:=hid (B9.out.old ((Old.refl w9).alloc (.cells #[.int .i64 i] 3)));have k9:w9.cell? ⟨g,5,none⟩=some (.slice oa ks.length cap):=B9.out.c 5;have ka:(w9.alloc (.cells #[.int .i64 i] 3)).cell? ⟨g,5,none⟩=some (.slice oa ks.length cap):=BA.out.c 5;have KR9:=hid (show (w9.alloc (.cells #[.int .i64 i] 3)).ownsRow w.heap.size 3 1 (.slice oa ks.length cap) ks.length (kcs T ks) from own_old (by obtain ⟨cs',k',hrow⟩:=HDR.out.row;exact own_cv (w:=wr.drew) (own_old H1.out.kr (Old.refl wr).drew) (by decide) (by decide) HDR.out.rd hrow Y9.out.cg) ((Old.refl w9).alloc _));have L3':=hid (show w.heap.size≤(w9.alloc (.cells #[.int .i64 i] 3)).heap.size from Nat.le_trans H1.out.cg.size (Nat.le_trans Y9.out.cg.size ((Old.refl w9).alloc (.cells #[.int .i64 i] 3)).size))))
     all_goals
      go_wp2_with fail
      go_meet
      exact ⟨m9,vt9,_,rfl,⟨_,_,rfl⟩,hid ⟨Y9.out.hr,Y9.out.hm⟩,GV9,H6⟩
    case rest=>
     obtain ⟨m9,vt9,kv9,hsh,⟨g5,c5,rfl⟩,HM9,GVQ,H6⟩:=hcut
     have GBQ:=hid H1.out.gb
     have HSH:=hid hsh
     obtain ⟨n9,o9,cs9,k9,j1,j2,j3,j4⟩:=H6.out.qs.st
     obtain ⟨tx,htx⟩:∃ tx,tx=nextL (A.drop n9):=⟨_,rfl⟩
     have HNX2:=hid (show Calls Tryz.prog 48 #[.pointer (some ⟨b,0,none⟩)] wc fun e w'=>e=.returned (.string (st tx))∧Old wc w' from by rw [htx];exact rnext_any j3 H6.out.qs.qi.wordsAt j1 hA)
     have i0:(er==0)=false:=beq_false_of_ne H6.out.qs.ne
     have i1:(er != 0)=true:=by rw [bne,i0];rfl
     have kk5:=H6.out.box.c 5
     clear htx j1 j2 j3 j4 hsh x4 k5 bd1 hm1
     have hcase:(tx=[44]∧ks.length+1=hi)∨(tx=[44]∧((ks.length:Int)+1==(hi:Int))=false)∨(tx=[41]∧(ks.length:Int)+1<(lo:Int))∨(tx=[41]∧¬ (ks.length:Int)+1<(lo:Int))∨((tx==[44])=false∧(tx==[41])=false):=by
      by_cases t44:tx=[44]
      ·by_cases hK:ks.length+1=hi
       ·exact Or.inl ⟨t44,hK⟩
       ·exact Or.inr (Or.inl ⟨t44,beq_false_of_ne (by omega)⟩)
      ·by_cases t41:tx=[41]
       ·by_cases hK:(ks.length:Int)+1<(lo:Int)
        ·exact Or.inr (Or.inr (Or.inl ⟨t41,hK⟩))
        ·exact Or.inr (Or.inr (Or.inr (Or.inl ⟨t41,hK⟩)))
       ·exact Or.inr (Or.inr (Or.inr (Or.inr ⟨beq_false_of_ne t44,beq_false_of_ne t41⟩)))
     rcases hcase with ⟨rfl,rfl⟩|⟨rfl,eK⟩|⟨rfl,eK⟩|⟨rfl,eK⟩|⟨e44,e41⟩
     all_goals
      go_wp2_with (first
       | (go_at_call 48;(with_reducible refine HNX2.out.mono ?_);rintro e w7 ⟨rfl,o7⟩;have H7:=hid (H6.out.old o7);have HQ:=hid H7.out.qs;have BX:=hid H7.out.box;have CQ:=hid H7.out.cg;have kk7:=H7.out.box.c 5;have HST:=hid (rstop_bad H7.out.qs 14);obtain ⟨n9,o9,cs9,k9,j1,j2,j3,j4⟩:=HQ.out.st;have x8:=j3.c 4;have J1:=hid j1;have J2:=hid j2;have J3:=hid j3;have J4:=hid j4;have HM2:=hid (show Calls Tryz.prog 99 #[.pointer (some ⟨b,0,none⟩),.string ⟨#[41]⟩] w7 _ from rmust_stop j3 HQ.out.ne [41]);clear j1 j2 j3 j4;clear o7)
       | (go_at_call 96;(with_reducible refine HST.out.mono ?_);rintro e w7b ⟨rfl,o7⟩;have H7b:=hid (H7.out.old o7);clear x8 kk7;replace HQ:=hid H7b.out.qs;replace BX:=hid H7b.out.box;replace CQ:=hid H7b.out.cg;obtain ⟨n9,o9,cs9,k9,j1,j2,j3,j4⟩:=HQ.out.st;have x8:=j3.c 4;have J1:=hid j1;have J2:=hid j2;have J3:=hid j3;have J4:=hid j4;have HM2:=hid (show Calls Tryz.prog 99 #[.pointer (some ⟨b,0,none⟩),.string ⟨#[41]⟩] w7b _ from rmust_stop j3 HQ.out.ne [41]);clear j1 j2 j3 j4;clear o7)
       | (go_at_call 99;(with_reducible refine HM2.out.mono ?_);rintro e w8 ⟨rfl,o8⟩;have R8:=hid (J3.out.old o8);have z2:=R8.out.c 2;have z3:=R8.out.f 2;have hcs:=Chx.ofSet w8 ⟨b,2,none⟩ (.int .i64 (wrap64 (o9-1)));have B9:=hid (Nv.cv (BX.out.old o8) GBQ.out GVQ.out (Cv.ofChx (v:=vt9) hcs));have C9:=hid ((CQ.out.trans (Cv.ofOld (v:=vt9) o8)).trans (Cv.ofChx (v:=vt9) hcs));have HQ9:=hid (show Qs w0 b _ A er m9 (N-1) vt9 (w8.setCell ⟨b,2,none⟩ (.int .i64 (wrap64 (o9-1)))) from ⟨⟨n9,_,cs9,k9,J1.out,J2.out,R8.out.set2 _,own_chq (own_old J4.out o8) (by decide) R8.out hcs⟩,HQ.out.ne,(HQ.out.oldw o8).qi.cv (Cv.ofChx (v:=vt9) hcs) HQ.out.lo⟩);have HPU:=hid (show Calls Tryz.prog 50 #[.pointer (some ⟨b,0,none⟩),.agg #[.int .u8 (op:Int),.int .u8 0,.int .i64 0,.string ⟨#[]⟩,.string ⟨#[]⟩,.slice (some ⟨g5,0,none⟩) (ks.length+1) c5,.int .i64 pn,.int .i64 pc]] (w8.setCell ⟨b,2,none⟩ (.int .i64 (wrap64 (o9-1)))) _ from rput_bad HQ9.out ⟨op,0,0,[],[],[],pn,pc⟩ (.slice (some ⟨g5,0,none⟩) (ks.length+1) c5) HSH.out (by omega));have q0:=B9.out.c 0;have q1:=B9.out.c 1;have q2:=B9.out.c 2;have q3:=B9.out.c 3;have q4:=B9.out.c 4;have q5:=B9.out.c 5;have q6:=B9.out.c 6;have q7:=B9.out.c 7;clear hcs o8)
       | (go_at_call 50;(with_reducible refine HPU.out.mono ?_);rintro e w12 ⟨⟨j,rfl⟩,vt12,hc12,h12⟩;have HC12:=hid (C9.out.trans hc12);have H12:=hid (show Qs w0 b _ A er m9 N vt12 w12 from by rw [show N-1+1=N by omega] at h12;exact h12);clear hc12 h12))
      go_ret
      rw [HE.out]
      exact ⟨m9,j,vt12,HM9.out.1,HM9.out.2,rfl,HC12.out,H12.out⟩
  | ok ns2 r=>
    rw [hP] at hi3
    obtain ⟨R,hR⟩:∃ R,R=(T++ns).length+ns2.length-1:=⟨_,rfl⟩
    have HI:=hid (show ∀ W,Qr (wk w0 kv) b vw A (T++ns) m O1 vt1 W→Calls Tryz.prog 22 #[.pointer (some ⟨b,0,none⟩),.int .i64 0] W _ from fun W h=>calls_rg (hi3 W h) hR)
    have HE:=hid (show P G (.args op lo hi pn pc (ns++ns2) (ks++[ns.length+ns2.length-1])) O1 r=X from by rw [←H1.out.eq,hP];rfl)
    have HRR:=hid hR
    clear hi3 hP hne1 hR
    obtain ⟨ti,hti,hz,hsz,hby⟩:=info_parts info3
    obtain ⟨oa,cap,rfl⟩:=own_shape H1.out.kr
    have k5:wr.cell? ⟨g,5,none⟩=some (.slice oa ks.length cap):=H1.out.box.c 5
    have HDR:=hid (H1.out.ok.oldw ((Old.refl wr).drew))
    have L1':=hid (show (ks.length+1)*8≤140737488355328 by have:=H1.out.kl;omega)
    have L2':=hid (show ks.length+1≤maxLen by have:=H1.out.kl;unfold maxLen;omega)
    go_upto_region 7 with fail
    go_cut [] from 34 to 40 (fun wx=>∃ (m9:Nat) (vt9 kv9:Value),(∃ (g5 c5:Nat),kv9=.slice (some ⟨g5,0,none⟩) (ks.length+1) c5)∧Hid (r=A.drop m9∧m<m9+ns2.length∧m+1≤m9)∧Hid (Bq3 w0 b vw A T n O1 vt w op pn pc g (ns++ns2) (ks++[ns.length+ns2.length-1]) m9 vt9 kv9 wx))
    case first=>
     go_region_law (first
      | (refine step_append_lies _ rfl _ _ 52 rfl w.heap.size 3 ti _ 1 8 Tryz.underlying52 hti hz hsz hby rfl (Nat.zero_lt_succ 0) (.slice oa ks.length cap) ks.length (kcs T ks) rfl KR9.out ⟨w9.heap.size,0,none⟩ 1 1 [.int .i64 (R:Int)] rfl rfl (World.news_of_block (cs:=#[.int .i64 (R:Int)]) (MapKept.heap_alloc w9 _).1) (fun u hu=>by rcases List.mem_singleton.1 hu with rfl;rfl) (Nat.zero_lt_succ 0) L2'.out L1'.out L3'.out _ rfl ?_;intro g5 c5' w5 hown hgr hlie hlt;have B5:=hid (show Nv w5 g _ from (hgr.block g (blk_lt BA.out) (fun e=>row_ne2 KR9.out BA.out (by decide) e.symm)).trans BA.out);have k6:w5.cell? ⟨g,5,none⟩=some (.slice oa ks.length cap):=B5.out.c 5;have f6:=B5.out.f 5;have H6:=hid (aq_step H1.out HWW.out Y9.out HRR.out GV9.out BA.out KR9.out hown hgr hlie hlt);clear hown hgr hlie hlt)
      | (go_simp;go_at_call 22;(with_reducible refine (HI.out _ HDR.out).mono ?_);rintro e w9 ⟨m9,vt9,rfl,Y9⟩;have GV9:=hid (show vt9.ownBlock≠some g from fun e=>by rcases Y9.out.cg.own _ e with h|h;exact H1.out.gv h;exact absurd (blk_lt H1.out.box) (Nat.not_lt.2 h));have B9:=hid (Nv.cv (show Nv wr.drew g _ from H1.out.box) H1.out.gb H1.out.gv Y9.out.cg);have BA:=hid (B9.out.old ((Old.refl w9).alloc (.cells #[.int .i64 (R:Int)] 3)));have k9:w9.cell? ⟨g,5,none⟩=some (.slice oa ks.length cap):=B9.out.c 5;have ka:(w9.alloc (.cells #[.int .i64 (R:Int)] 3)).cell? ⟨g,5,none⟩=some (.slice oa ks.length cap):=BA.out.c 5;have KR9:=hid (show (w9.alloc (.cells #[.int .i64 (R:Int)] 3)).ownsRow w.heap.size 3 1 (.slice oa ks.length cap) ks.length (kcs T ks) from own_old (by obtain ⟨cs',k',hrow⟩:=HDR.out.row;exact own_cv (w:=wr.drew) (own_old H1.out.kr (Old.refl wr).drew) (by decide) (by decide) HDR.out.rd hrow Y9.out.cg) ((Old.refl w9).alloc _));have L3':=hid (show w.heap.size≤(w9.alloc (.cells #[.int .i64 (R:Int)] 3)).heap.size from Nat.le_trans H1.out.cg.size (Nat.le_trans Y9.out.cg.size ((Old.refl w9).alloc (.cells #[.int .i64 (R:Int)] 3)).size))))
     all_goals
      go_wp2_with fail
      go_meet
      have hq1:=Y9.out.le
      have hq2:=Y9.out.pos
      exact ⟨m9,vt9,_,⟨_,_,rfl⟩,hid ⟨Y9.out.hr,by omega,by omega⟩,H6⟩
    case rest=>
     obtain ⟨m9,vt9,kv9,⟨g5,c5,rfl⟩,HM9,H6⟩:=hcut
     have GBQ:=hid H1.out.gb
     have HSH:=hid (show (Value.slice (some ⟨g5,0,none⟩) (ks.length+1) c5).oneCell'=true from rfl)
     have kk5:=H6.out.box.c 5
     have x4':=H6.out.ok.rd.c 4
     have hKl:=H1.out.kl
     clear x4 k5 bd1 hm1
     cases G with
     | zero=>exact absurd HE.out.symm HOUT.out
     | succ G1=>
     have hG1:G1≤F:=by have:=H1.out.le;omega
     have hE:=HE.out
     rw [P_args] at hE
     unfold argsP at hE
     clear HE
     have hn44:=next_is (s:=[44]) (l:=r) (by simp)
     have hn41:=next_is (s:=[41]) (l:=r) (by simp)
     have hkl2:(ks++[ns.length+ns2.length-1]).length=ks.length+1:=by simp
     cases c44:isL [44] r
     ·rw [c44] at hE hn44
      cases c41:isL [41] r
      ·rw [c41] at hE hn41
       have HE:=hid (show X=.no 4 r by simpa using hE.symm)
       obtain ⟨tx,htx⟩:∃ tx,tx=nextL r:=⟨_,rfl⟩
       have e44:(tx==[44])=false:=by rw [htx];exact hn44.symm
       have e41:(tx==[41])=false:=by rw [htx];exact hn41.symm
       have H41:=hid c41
       have HNX2:=hid (show Calls Tryz.prog 48 #[.pointer (some ⟨b,0,none⟩)] wc fun e w'=>e=.returned (.string (st tx))∧Old wc w' from by have:=rnext_any H6.out.ok.rd H6.out.ok.qi.wordsAt H6.out.hm hA;rw [←HM9.out.1,←htx] at this;exact this)
       clear hE hn44 hn41 hkl2 c44 c41 htx x4'
       go_wp2_with (first
        | (go_at_call 48;(with_reducible refine HNX2.out.mono ?_);rintro e w7 ⟨rfl,o7⟩;have H7:=hid (H6.out.old o7);have x7:=H7.out.ok.rd.c 4;have kk7:=H7.out.box.c 5;have z1:w7.cell? ⟨b,1,none⟩=some (.int .i64 (m9:Int)):=H7.out.ok.rd.c 1;have y7:=H7.out.ok.rd.f 1;have HMN:=hid (show Calls Tryz.prog 99 #[.pointer (some ⟨b,0,none⟩),.string ⟨#[41]⟩] w7 _ from rmust_no H7.out.ok.rd H7.out.ok.qi.wordsAt H7.out.hm hA [41] (by simp) (by rw [←HM9.out.1];exact H41.out));clear o7)
        | (go_at_call 99;(with_reducible refine HMN.out.mono ?_);rintro e w8 ⟨rfl,c8,h8⟩;have z2:=h8.c 2;have z3:=h8.f 2;have hcs:=Chx.ofSet w8 ⟨b,2,none⟩ (.int .i64 ((O1:Int)-1));have HQ8:=hid (Qs.base (H7.out.ok.stopped (N:=N-1) (c8.trans hcs) (h8.set2 ((O1:Int)-1)) (by decide) H7.out.hm (by have:=H7.out.bd;have:=H7.out.hm;rw [List.length_append];omega)));have B9:=hid (H7.out.box.cv H7.out.gb H7.out.gv (Cv.ofChx (v:=vt9) (c8.trans hcs)));have C9:=hid (H7.out.cg.trans (Cv.ofChx (v:=vt9) (c8.trans hcs)));have HPU:=hid (show Calls Tryz.prog 50 #[.pointer (some ⟨b,0,none⟩),.agg #[.int .u8 (op:Int),.int .u8 0,.int .i64 0,.string ⟨#[]⟩,.string ⟨#[]⟩,.slice (some ⟨g5,0,none⟩) (ks.length+1) c5,.int .i64 pn,.int .i64 pc]] (w8.setCell ⟨b,2,none⟩ (.int .i64 ((O1:Int)-1))) _ from rput_bad HQ8.out ⟨op,0,0,[],[],[],pn,pc⟩ (.slice (some ⟨g5,0,none⟩) (ks.length+1) c5) rfl (by omega));have q0:=B9.out.c 0;have q1:=B9.out.c 1;have q2:=B9.out.c 2;have q3:=B9.out.c 3;have q4:=B9.out.c 4;have q5:=B9.out.c 5;have q6:=B9.out.c 6;have q7:=B9.out.c 7;clear c8 h8 hcs)
        | (go_at_call 50;(with_reducible refine HPU.out.mono ?_);rintro e w12 ⟨⟨j,rfl⟩,vt12,hc12,h12⟩;have HC12:=hid (C9.out.trans hc12);have H12:=hid (show Qs w0 b _ A 4 m9 N vt12 w12 from by rw [show N-1+1=N by omega] at h12;exact h12);clear hc12 h12))
       go_ret
       rw [HE.out]
       exact ⟨m9,j,vt12,HM9.out.1,H6.out.hm,rfl,HC12.out,H12.out⟩
      ·rw [c41] at hE hn41
       have ht:nextL r=[41]:=by simpa using hn41.symm
       have H41:=hid c41
       have HNX2:=hid (show Calls Tryz.prog 48 #[.pointer (some ⟨b,0,none⟩)] wc fun e w'=>e=.returned (.string (st [41]))∧Old wc w' from by have:=rnext_any H6.out.ok.rd H6.out.ok.qi.wordsAt H6.out.hm hA;rw [←HM9.out.1,ht] at this;exact this)
       by_cases hK:ks.length+1<lo
       ·have HE:=hid (show X=.no 14 r by rw [←hE,if_neg (by simp),if_pos ⟨rfl,by rw [hkl2];exact hK⟩])
        have eK:(ks.length:Int)+1<(lo:Int):=by omega
        clear hE hn44 hn41 hkl2 c44 c41 ht x4'
        go_wp2_with (first
         | (go_at_call 48;(with_reducible refine HNX2.out.mono ?_);rintro e w7 ⟨rfl,o7⟩;have H7:=hid (H6.out.old o7);have x7:=H7.out.ok.rd.c 4;have kk7:=H7.out.box.c 5;have z1:w7.cell? ⟨b,1,none⟩=some (.int .i64 (m9:Int)):=H7.out.ok.rd.c 1;have y7:=H7.out.ok.rd.f 1;have HST:=hid (show Calls Tryz.prog 96 #[.pointer (some ⟨b,0,none⟩),.int .i64 14] w7 fun e w'=>e=.returned (.tuple #[])∧Chx (·= b) w7 w'∧RqB w' b vw (m9:Int) (O1:Int) vt9 14 (m9:Int) from (rstop_any H7.out.ok.rd 14).mono (fun e w' h=>⟨h.1,h.2.1,by have h2:=h.2.2;rw [if_pos rfl,if_pos rfl] at h2;exact h2⟩));clear o7)
         | (go_at_call 96;(with_reducible refine HST.out.mono ?_);rintro e w8 ⟨rfl,c8,h8⟩;have HQ:=hid (Qs.base (H7.out.ok.stopped (N:=N-1) c8 h8 (by decide) H7.out.hm (by have:=H7.out.bd;have:=H7.out.hm;rw [List.length_append];omega)));have BX:=hid (H7.out.box.cv H7.out.gb H7.out.gv (Cv.ofChx (v:=vt9) c8));have CQ:=hid (H7.out.cg.trans (Cv.ofChx (v:=vt9) c8));have GVQ:=hid H7.out.gv;obtain ⟨n9,o9,cs9,k9,j1,j2,j3,j4⟩:=HQ.out.st;have x8:=j3.c 4;have J1:=hid j1;have J2:=hid j2;have J3:=hid j3;have J4:=hid j4;have HM2:=hid (show Calls Tryz.prog 99 #[.pointer (some ⟨b,0,none⟩),.string ⟨#[41]⟩] w8 _ from rmust_stop j3 HQ.out.ne [41]);clear j1 j2 j3 j4;clear c8 h8)
         | (go_at_call 99;(with_reducible refine HM2.out.mono ?_);rintro e w8z ⟨rfl,o8⟩;have R8:=hid (J3.out.old o8);have z2:=R8.out.c 2;have z3:=R8.out.f 2;have hcs:=Chx.ofSet w8z ⟨b,2,none⟩ (.int .i64 (wrap64 (o9-1)));have B9:=hid (Nv.cv (BX.out.old o8) GBQ.out GVQ.out (Cv.ofChx (v:=vt9) hcs));have C9:=hid ((CQ.out.trans (Cv.ofOld (v:=vt9) o8)).trans (Cv.ofChx (v:=vt9) hcs));have HQ9:=hid (show Qs w0 b _ A 14 m9 (N-1) vt9 (w8z.setCell ⟨b,2,none⟩ (.int .i64 (wrap64 (o9-1)))) from ⟨⟨n9,_,cs9,k9,J1.out,J2.out,R8.out.set2 _,own_chq (own_old J4.out o8) (by decide) R8.out hcs⟩,HQ.out.ne,(HQ.out.oldw o8).qi.cv (Cv.ofChx (v:=vt9) hcs) HQ.out.lo⟩);have HPU:=hid (show Calls Tryz.prog 50 #[.pointer (some ⟨b,0,none⟩),.agg #[.int .u8 (op:Int),.int .u8 0,.int .i64 0,.string ⟨#[]⟩,.string ⟨#[]⟩,.slice (some ⟨g5,0,none⟩) (ks.length+1) c5,.int .i64 pn,.int .i64 pc]] (w8z.setCell ⟨b,2,none⟩ (.int .i64 (wrap64 (o9-1)))) _ from rput_bad HQ9.out ⟨op,0,0,[],[],[],pn,pc⟩ (.slice (some ⟨g5,0,none⟩) (ks.length+1) c5) HSH.out (by omega));have q0:=B9.out.c 0;have q1:=B9.out.c 1;have q2:=B9.out.c 2;have q3:=B9.out.c 3;have q4:=B9.out.c 4;have q5:=B9.out.c 5;have q6:=B9.out.c 6;have q7:=B9.out.c 7;clear hcs o8)
         | (go_at_call 50;(with_reducible refine HPU.out.mono ?_);rintro e w12 ⟨⟨j,rfl⟩,vt12,hc12,h12⟩;have HC12:=hid (C9.out.trans hc12);have H12:=hid (show Qs w0 b _ A 14 m9 N vt12 w12 from by rw [show N-1+1=N by omega] at h12;exact h12);clear hc12 h12))
        go_ret
        rw [HE.out]
        exact ⟨m9,j,vt12,HM9.out.1,H6.out.hm,rfl,HC12.out,H12.out⟩
       ·have HE:=hid (show X=.ok (ns++ns2++[⟨op,0,0,[],[],(ks++[ns.length+ns2.length-1]).map ((ns++ns2).length-·),pn,pc⟩]) r.tail by rw [←hE,if_neg (by simp),if_neg (by rw [hkl2];exact fun h=>hK h.2),if_pos rfl])
        have eK:¬ (ks.length:Int)+1<(lo:Int):=by omega
        have HLT:=hid (show m9<A.length from drop_lt (isL_ne (by rw [←HM9.out.1];exact c41)))
        clear hE hn44 hn41 hkl2 c44 c41 ht x4'
        go_wp2_with (first
         | (go_at_call 48;(with_reducible refine HNX2.out.mono ?_);rintro e w7 ⟨rfl,o7⟩;have H7:=hid (H6.out.old o7);have x7:=H7.out.ok.rd.c 4;have kk7:=H7.out.box.c 5;have z1:w7.cell? ⟨b,1,none⟩=some (.int .i64 (m9:Int)):=H7.out.ok.rd.c 1;have y7:=H7.out.ok.rd.f 1;have HMN:=hid (show Calls Tryz.prog 99 #[.pointer (some ⟨b,0,none⟩),.string ⟨#[41]⟩] w7 _ from rmust_ok H7.out.ok.rd H7.out.ok.qi.wordsAt H7.out.hm hA [41] (by simp) (by rw [←HM9.out.1];exact H41.out));clear o7)
         | (go_at_call 99;(with_reducible refine HMN.out.mono ?_);rintro e w8 ⟨rfl,c8,h8⟩;have z2:=h8.c 2;have z3:=h8.f 2;have hcs:=Chx.ofSet w8 ⟨b,2,none⟩ (.int .i64 ((O1:Int)-1));have B9:=hid (H7.out.box.cv H7.out.gb H7.out.gv (Cv.ofChx (v:=vt9) (c8.trans hcs)));have HPU:=hid (show Calls Tryz.prog 50 #[.pointer (some ⟨b,0,none⟩),.agg #[.int .u8 (op:Int),.int .u8 0,.int .i64 0,.string ⟨#[]⟩,.string ⟨#[]⟩,.slice (some ⟨g5,0,none⟩) (ks.length+1) c5,.int .i64 pn,.int .i64 pc]] (w8.setCell ⟨b,2,none⟩ (.int .i64 ((O1:Int)-1))) _ from H7.out.put HWW.out HSB.out hTn hA HLT.out c8 h8 HOi.out);have q0:=B9.out.c 0;have q1:=B9.out.c 1;have q2:=B9.out.c 2;have q3:=B9.out.c 3;have q4:=B9.out.c 4;have q5:=B9.out.c 5;have q6:=B9.out.c 6;have q7:=B9.out.c 7;clear c8 h8 hcs)
         | (go_at_call 50;(with_reducible refine HPU.out.mono ?_);rintro e w12 ⟨rfl,vt12,hc12,h12⟩;have HC12:=hid hc12;have H12:=hid h12;clear hc12 h12))
        go_ret
        rw [HE.out]
        refine ⟨m9+1,vt12,by rw [HM9.out.1,drop_tl],HLT.out,?_,HC12.out,by rw [←List.append_assoc];exact H12.out,by rw [List.length_append];simp,?_⟩
        ·refine congrArg (fun z:Int=>Ending.returned (.int .i64 z)) ?_
         simp only [List.length_append,List.length_cons,List.length_nil]
         omega
        ·have:=H6.out.bd
         simp only [List.length_append,List.length_cons,List.length_nil] at this ⊢
         omega
     ·rw [c44] at hE hn44
      have ht:nextL r=[44]:=by simpa using hn44.symm
      rw [if_pos rfl] at hE
      have HNX2:=hid (show Calls Tryz.prog 48 #[.pointer (some ⟨b,0,none⟩)] wc fun e w'=>e=.returned (.string (st [44]))∧Old wc w' from by have:=rnext_any H6.out.ok.rd H6.out.ok.qi.wordsAt H6.out.hm hA;rw [←HM9.out.1,ht] at this;exact this)
      by_cases hK:ks.length+1=hi
      ·have HE:=hid (show X=.no 14 r by rw [←hE,if_pos (by rw [hkl2];exact hK)])
       subst hK
       clear hE hn44 hn41 hkl2 c44 ht x4'
       go_wp2_with (first
        | (go_at_call 48;(with_reducible refine HNX2.out.mono ?_);rintro e w7 ⟨rfl,o7⟩;have H7:=hid (H6.out.old o7);have x7:=H7.out.ok.rd.c 4;have kk7:=H7.out.box.c 5;have z1:w7.cell? ⟨b,1,none⟩=some (.int .i64 (m9:Int)):=H7.out.ok.rd.c 1;have y7:=H7.out.ok.rd.f 1;have HST:=hid (show Calls Tryz.prog 96 #[.pointer (some ⟨b,0,none⟩),.int .i64 14] w7 fun e w'=>e=.returned (.tuple #[])∧Chx (·= b) w7 w'∧RqB w' b vw (m9:Int) (O1:Int) vt9 14 (m9:Int) from (rstop_any H7.out.ok.rd 14).mono (fun e w' h=>⟨h.1,h.2.1,by have h2:=h.2.2;rw [if_pos rfl,if_pos rfl] at h2;exact h2⟩));clear o7)
        | (go_at_call 96;(with_reducible refine HST.out.mono ?_);rintro e w8 ⟨rfl,c8,h8⟩;have HQ:=hid (Qs.base (H7.out.ok.stopped (N:=N-1) c8 h8 (by decide) H7.out.hm (by have:=H7.out.bd;have:=H7.out.hm;rw [List.length_append];omega)));have BX:=hid (H7.out.box.cv H7.out.gb H7.out.gv (Cv.ofChx (v:=vt9) c8));have CQ:=hid (H7.out.cg.trans (Cv.ofChx (v:=vt9) c8));have GVQ:=hid H7.out.gv;obtain ⟨n9,o9,cs9,k9,j1,j2,j3,j4⟩:=HQ.out.st;have x8:=j3.c 4;have J1:=hid j1;have J2:=hid j2;have J3:=hid j3;have J4:=hid j4;have HM2:=hid (show Calls Tryz.prog 99 #[.pointer (some ⟨b,0,none⟩),.string ⟨#[41]⟩] w8 _ from rmust_stop j3 HQ.out.ne [41]);clear j1 j2 j3 j4;clear c8 h8)
        | (go_at_call 99;(with_reducible refine HM2.out.mono ?_);rintro e w8z ⟨rfl,o8⟩;have R8:=hid (J3.out.old o8);have z2:=R8.out.c 2;have z3:=R8.out.f 2;have hcs:=Chx.ofSet w8z ⟨b,2,none⟩ (.int .i64 (wrap64 (o9-1)));have B9:=hid (Nv.cv (BX.out.old o8) GBQ.out GVQ.out (Cv.ofChx (v:=vt9) hcs));have C9:=hid ((CQ.out.trans (Cv.ofOld (v:=vt9) o8)).trans (Cv.ofChx (v:=vt9) hcs));have HQ9:=hid (show Qs w0 b _ A 14 m9 (N-1) vt9 (w8z.setCell ⟨b,2,none⟩ (.int .i64 (wrap64 (o9-1)))) from ⟨⟨n9,_,cs9,k9,J1.out,J2.out,R8.out.set2 _,own_chq (own_old J4.out o8) (by decide) R8.out hcs⟩,HQ.out.ne,(HQ.out.oldw o8).qi.cv (Cv.ofChx (v:=vt9) hcs) HQ.out.lo⟩);have HPU:=hid (show Calls Tryz.prog 50 #[.pointer (some ⟨b,0,none⟩),.agg #[.int .u8 (op:Int),.int .u8 0,.int .i64 0,.string ⟨#[]⟩,.string ⟨#[]⟩,.slice (some ⟨g5,0,none⟩) (ks.length+1) c5,.int .i64 pn,.int .i64 pc]] (w8z.setCell ⟨b,2,none⟩ (.int .i64 (wrap64 (o9-1)))) _ from rput_bad HQ9.out ⟨op,0,0,[],[],[],pn,pc⟩ (.slice (some ⟨g5,0,none⟩) (ks.length+1) c5) HSH.out (by omega));have q0:=B9.out.c 0;have q1:=B9.out.c 1;have q2:=B9.out.c 2;have q3:=B9.out.c 3;have q4:=B9.out.c 4;have q5:=B9.out.c 5;have q6:=B9.out.c 6;have q7:=B9.out.c 7;clear hcs o8)
        | (go_at_call 50;(with_reducible refine HPU.out.mono ?_);rintro e w12 ⟨⟨j,rfl⟩,vt12,hc12,h12⟩;have HC12:=hid (C9.out.trans hc12);have H12:=hid (show Qs w0 b _ A 14 m9 N vt12 w12 from by rw [show N-1+1=N by omega] at h12;exact h12);clear hc12 h12))
       go_ret
       rw [HE.out]
       exact ⟨m9,j,vt12,HM9.out.1,H6.out.hm,rfl,HC12.out,H12.out⟩
      ·have eK:((ks.length:Int)+1==(hi:Int))=false:=beq_false_of_ne (by omega)
       rw [if_neg (by rw [hkl2];exact hK),HM9.out.1,drop_tl] at hE
       have HE:=hid hE
       have hlt9:m9<A.length:=drop_lt (isL_ne (by rw [←HM9.out.1];exact c44))
       have HKK:=hid (show (ks++[ns.length+ns2.length-1]).length<hi by rw [hkl2];omega)
       clear hE hn44 hn41 hkl2 c44 ht x4'
       go_wp2_with (first
        | (go_at_call 48;(with_reducible refine HNX2.out.mono ?_);rintro e w7 ⟨rfl,o7⟩;have H7:=hid (H6.out.old o7);have x7:=H7.out.ok.rd.c 4;have kk7:=H7.out.box.c 5;have z1:w7.cell? ⟨b,1,none⟩=some (.int .i64 (m9:Int)):=H7.out.ok.rd.c 1;have y7:=H7.out.ok.rd.f 1;skip;clear o7))
       have H8:=H7.out.next hG1 hlt9 HKK.out HE.out
       refine ⟨⟨G1,_,_,_,_,_,hid H8⟩,?_⟩
       rw [left_good H8.ok.rd,left_good H1.out.ok.rd]
       have:=HM9.out.2
       have:=H1.out.hm
       omega
end Go.Proofs.YtmkmafkkpigfpaaGreatDoor
