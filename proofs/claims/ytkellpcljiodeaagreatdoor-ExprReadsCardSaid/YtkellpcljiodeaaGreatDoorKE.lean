/- Layer expr: a call's expressions, as they are gathered. -/
import Derived.Deep.AppendLies
import Derived.Test.YtkellpcljiodeaaGreatDoorKD
set_option maxHeartbeats 3200000
namespace Go.Proofs.YtkellpcljiodeaaGreatDoor
open Go.ChangeShapes Go.WideShapes Go.ChangeAt Go.RowKit Go.Lib
set_option linter.unusedVariables false
set_option linter.unusedSimpArgs false
set_option maxRecDepth 100000
abbrev wz (w0:Wz) (S:Nat→Prop):Wz:=⟨w0.toWorld,S⟩
theorem KS.weak {S S':Nat→Prop} {w:World} {base:Nat} {v:Value} {ks:List Nat} (h:KS S' w base v ks) (hs:∀ g,S g→S' g):KS S w base v ks:=⟨h.1,fun g e k=>h.2 g e (hs g k)⟩
theorem KR.lt {w:World} {base:Nat} {v:Value} {ks:List Nat} (h:KR w base v ks) {g:Nat} (e:v.ownBlock=some g):g<w.heap.size:=by
 rcases h.2 with ⟨rfl,_⟩|⟨g',cap,cur,rfl,h1,h2,_⟩
 ·simp [Value.ownBlock] at e
 ·have e1:g'=g:=by simpa [Value.ownBlock] using e
  subst e1
  exact blk_lt h2
theorem own_beside {w w5:World} {base size n g1:Nat} {e:TypeId} {v:Value} {cs:List Value} (h:w.ownsRow base e size v n cs) (hgr:w.grownBy w5 (some g1)) (hne:v.ownBlock≠some g1):w5.ownsRow base e size v n cs:=by
 refine ⟨h.1,?_⟩
 rcases h.2 with h'|⟨g,cap,cur,rfl,hb',hg,hc⟩
 ·exact Or.inl h'
 ·exact Or.inr ⟨g,cap,cur,rfl,hb',(hgr.block g (blk_lt hg) (fun e=>hne e)).trans hg,hc⟩
theorem own_mono {w:World} {base base' size n:Nat} {e:TypeId} {v:Value} {cs:List Value} (h:w.ownsRow base e size v n cs) (hb:base'≤base):w.ownsRow base' e size v n cs:=by
 refine ⟨h.1,?_⟩
 rcases h.2 with h'|⟨g,cap,cur,rfl,hb',hg⟩
 ·exact Or.inl h'
 ·exact Or.inr ⟨g,cap,cur,rfl,Nat.le_trans hb hb',hg⟩
theorem Cg.grownIn {N0 b g1:Nat} {wc w w5:World} (c:Cg N0 b wc w) (hgr:w.grownBy w5 (some g1)) (h:wc.heap.size≤g1):Cg N0 b wc w5:=
 ⟨hgr.os.trans c.os,hgr.output.trans c.output,Nat.le_trans c.size hgr.size,fun k hk hb hn=>(hgr.block k (Nat.lt_of_lt_of_le hk c.size) (fun e=>by injection e;omega)).trans (c.block k hk hb hn)⟩
section
variable {w0:Wz} {S':Nat→Prop} {w:World} {b n o:Nat} {vw vm vt:Value} {A:List Tk} {T:List Nd}
theorem Rr.weak (h:Rr (wz w0 S') b vw vm A T n o vt w) (hs:∀ g,w0.S g→S' g):Rr w0 b vw vm A T n o vt w:=
 ⟨h.rd,h.ri.old,h.ri.lo,fun k hk=>h.ri.sb k (hs k hk),h.ri.words,h.ri.map,by
   obtain ⟨kvs,h1,h2,h3⟩:=h.ri.tree
   exact ⟨kvs,h1,h2,fun i x v hx hv=>(h3 i x v hx hv).weak hs⟩⟩
theorem Rr.fresh (h:Rr w0 b vw vm A T n o vt w) (cs:Array Value):Rr (wz w0 fun k=>w0.S k∨k=w.heap.size) b vw vm A T n o vt (w.alloc (.cells cs 3)):=by
 have ho:=(Old.refl w).alloc (.cells cs 3)
 have h':=h.oldw ho
 refine ⟨h'.rd,h'.ri.old,h'.ri.lo,?_,h'.ri.words,h'.ri.map,?_⟩
 ·rintro k (hk|rfl)
  ·exact h'.ri.sb k hk
  ·exact blk_lt (MapKept.heap_alloc w _).1
 ·obtain ⟨kvs,h1,h2,h3⟩:=h.ri.tree
  exact ⟨kvs,h1,own_old h2 ho,fun i x v hx hv=>⟨own_old (h3 i x v hx hv).1 ho,fun g e hk=>by
   rcases hk with hk|rfl
   ·exact (h3 i x v hx hv).2 g e hk
   ·exact Nat.lt_irrefl _ ((h3 i x v hx hv).1.lt e)⟩⟩
theorem Rr.grown {g1 g:Nat} {w5:World} {cur:Array Value} {fr:Nat × Nat} (h:Rr (wz w0 fun k=>w0.S k∨k=g1) b vw vm A T n o vt w) (hg:w.heap[g1]?=some (.cells cur 3 fr)) (hgr:w.grownBy w5 (some g1)) (hbase:w0.heap.size≤g1)
 (hlie:g1=g∨g=w.heap.size) (hlt:g<w5.heap.size):Rr (wz w0 fun k=>w0.S k∨k=g) b vw vm A T n o vt w5:=by
 have hbn:g1≠b:=h.rd.ne hg (by decide)
 refine ⟨(hgr.block b h.rd.lt (fun e=>hbn (by injection e with e;exact e.symm))).trans h.rd,h.ri.old.grown hgr (by intro k hk;cases hk;exact hbase),h.ri.lo,?_,h.ri.words,?_,?_⟩
 ·rintro k (hk|rfl)
  ·exact Nat.lt_of_lt_of_le (h.ri.sb k (Or.inl hk)) hgr.size
  ·exact hlt
 ·obtain ⟨B,e,hB⟩:=h.ri.map
  refine ⟨B,e,(hgr.block B (blk_lt hB) (fun e=>?_)).trans hB⟩
  injection e with e
  subst e
  rw [hg] at hB
  cases hB
 ·obtain ⟨kvs,h1,h2,h3⟩:=h.ri.tree
  refine ⟨kvs,h1,own_beside h2 hgr (fun e=>?_),fun i x v hx hv=>⟨own_beside (h3 i x v hx hv).1 hgr (fun e=>(h3 i x v hx hv).2 g1 e (Or.inr rfl)),fun k e hk=>?_⟩⟩
  ·rcases h2.2 with ⟨rfl,_⟩|⟨g',cap,cur',rfl,h4,h5,_⟩
   ·simp [Value.ownBlock] at e
   ·have e1:g'=g1:=by simpa [Value.ownBlock] using e
    subst e1
    rw [hg] at h5
    injection h5 with h5
    injection h5 with _ h6
    cases h6
  ·rcases hk with hk|rfl
   ·exact (h3 i x v hx hv).2 k e (Or.inl hk)
   ·rcases hlie with rfl|rfl
    ·exact (h3 i x v hx hv).2 _ e (Or.inr rfl)
    ·exact Nat.lt_irrefl _ ((h3 i x v hx hv).1.lt e)
end
abbrev kcs (T:List Nd) (ks:List Nat):List Value:=ks.map fun k=>Value.int .i64 ((T.length+k:Nat):Int)
structure Cx (w0:Wz) (b:Nat) (w:World) (T:List Nd) (op lo hi:Nat) (ln cl:Int) (gb gp:Nat) (ks:List Nat) (g cap K:Nat) (wr:World):Prop where
 cg:Cg w0.heap.size b w wr
 kr:wr.ownsRow w.heap.size 3 1 (.slice (some ⟨g,0,none⟩) K cap) K (kcs T ks)
 kl:ks.length=K
 kp:1≤K
 kb:K≤hi
 bx:wr.heap[gb]?=some (.cells #[.int .u8 (op:Int),.int .i64 (lo:Int),.int .i64 (hi:Int)] 130 (0,0))
 pl:Pl wr gp ln cl
structure Ca (w0:Wz) (b:Nat) (vw vm:Value) (A:List Tk) (T:List Nd) (n o:Nat) (w:World) (X:Rz) (F op lo hi:Nat) (ln cl:Int) (gb gp G:Nat) (ns:List Nd) (ks:List Nat) (m g cap K:Nat) (wr:World):Prop where
 cx:Cx w0 b w T op lo hi ln cl gb gp ks g cap K wr
 le:G≤F
 ok:Rok (wz w0 fun k=>w0.S k∨k=g) b vw vm A (T++ns) m (o+1) wr
 pos:1≤ns.length
 bd:n+ns.length+1≤m
 hm:m≤A.length
 kin:∀ k∈ks,k<ns.length
 eq:P G (.args op lo hi ln cl ns ks) (o+1) (A.drop m)=X
structure Ct (w0:Wz) (b:Nat) (vw vm:Value) (A:List Tk) (T:List Nd) (o:Nat) (w:World) (op lo hi:Nat) (ln cl:Int) (gb gp:Nat) (ns:List Nd) (ks:List Nat) (m g cap K:Nat) (wr:World):Prop where
 cx:Cx w0 b w T op lo hi ln cl gb gp ks g cap K wr
 ok:Rok (wz w0 fun k=>w0.S k∨k=g) b vw vm A (T++ns) (m+1) (o+1) wr
structure Ce (w0:Wz) (b:Nat) (vw vm:Value) (A:List Tk) (T:List Nd) (n o:Nat) (w:World) (X:Rz) (F op lo hi:Nat) (ln cl:Int) (gb gp G:Nat) (ns:List Nd) (ks:List Nat) (m g cap K R:Nat) (wr:World):Prop where
 cx:Cx w0 b w T op lo hi ln cl gb gp ks g cap K wr
 le:G≤F
 ok:Rok (wz w0 fun k=>w0.S k∨k=g) b vw vm A (T++ns) m (o+1) wr
 pos:1≤ns.length
 bd:n+ns.length+1≤m
 hm:m≤A.length
 kin:∀ k∈ks,k<ns.length
 r:R=T.length+(ns.length-1)
 kb:K+1≤hi
 eq:P G (.args op lo hi ln cl ns (ks++[ns.length-1])) (o+1) (A.drop m)=X
section
variable {w0:Wz} {b n o F op lo hi gb gp G m g cap K:Nat} {vw vm vt:Value} {A:List Tk} {T ns:List Nd} {ks:List Nat} {X:Rz} {ln cl:Int} {w wr w1 w2 w3:World}
theorem Cx.on {i o':Int} {vw':Value} (h:Cx w0 b w T op lo hi ln cl gb gp ks g cap K wr) (hr:RdB wr b vw' i o' vt vm) (c:Cg w0.heap.size b wr w1):Cx w0 b w T op lo hi ln cl gb gp ks g cap K w1:=
 ⟨h.cg.trans c,own_cg h.kr (by decide) (by decide) hr c,h.kl,h.kp,h.kb,c.cells h.bx (hr.ne h.bx (by decide)) (by decide),pl_cg h.pl hr c⟩
theorem ca_is (h:Ca w0 b vw vm A T n o w X F op lo hi ln cl gb gp G ns ks m g cap K wr) (hA:A.length≤200000) (s:List UInt8) (ho:Old wr w1) :
 Calls Tryz.prog 139 #[.pointer (some ⟨b,0,none⟩),.string (st s)] w1 fun e w'=>e=.returned (.bool (isL s (A.drop m)))∧Old w1 w':=by
 obtain ⟨vt,hrr⟩:=h.ok
 exact is_any (hrr.oldw ho) h.hm hA s
theorem ca_take (h:Ca w0 b vw vm A T n o w X F op lo hi ln cl gb gp G ns ks m g cap K wr) (hA:A.length≤200000) (ho:Old wr w1) :
 Calls Tryz.prog 143 #[.pointer (some ⟨b,0,none⟩)] w1 fun e w'=>∃ v,e=.returned v∧Hid (Ct w0 b vw vm A T o w op lo hi ln cl gb gp ns ks m g cap K w'):=by
 obtain ⟨vt,hrr⟩:=h.ok
 refine (take_any (hrr.oldw ho) h.hm hA).mono ?_
 rintro e w' ⟨h1,h2,h3⟩
 exact ⟨_,h1,hid ⟨h.cx.on hrr.rd ((Cg.ofOld ho).trans (Cg.ofChx h2)),vt,(hrr.oldw ho).chx h2 h3⟩⟩
theorem ca_expr (ih:∀ S G,G≤F→Lv (wz w0 S) b vw vm A G) (h:Ca w0 b vw vm A T n o w X F op lo hi ln cl gb gp G ns ks m g cap K wr) (hs:isL [44] (A.drop m)=true) (hK:K≠hi) (hX:X≠.out) (ho:o<12) (hT:T.length≤n)
 (hc:Ct w0 b vw vm A T o w op lo hi ln cl gb gp ns ks m g cap K w2) :
 Calls Tryz.prog 65 #[.pointer (some ⟨b,0,none⟩)] w2 fun e w'=>(∃ (G':Nat) (ns':List Nd) (m' R:Nat),e=.returned (.int .i64 (R:Int))∧Hid (Ce w0 b vw vm A T n o w X F op lo hi ln cl gb gp G' ns' ks m' g cap K R w'∧m<m'))∨
  (∃ er,e=pan er∧Hid (Res w0 b vw vm A T n o w X (pan er) w')):=by
 have hbd:=h.bd
 have hle:=h.le
 have hkl:=h.cx.kl
 have hkb:=h.cx.kb
 obtain ⟨vt2,hrr⟩:=hc.ok
 cases G with
 | zero=>exact absurd h.eq.symm (fun e=>hX (e.trans rfl))
 | succ G=>
   have heq:=h.eq
   rw [P_args] at heq
   unfold argsP at heq
   rw [if_pos hs,if_neg (by omega),drop_tl] at heq
   have hne:P G (.lvl 0) (o+1) (A.drop (m+1))≠.out:=fun e=>hX (by rw [←heq,e];rfl)
   have hlt:=drop_lt (isL_ne hs)
   refine (expr_any (ih (fun k=>w0.S k∨k=g) G (by omega)) hrr hlt (by omega) (by rw [List.length_append];omega) hne).mono ?_
   intro e w' hh
   cases hP:P G (.lvl 0) (o+1) (A.drop (m+1)) with
   | out=>exact absurd hP hne
   | no er r=>
     rw [hP] at hh heq
     have heq:Rz.no er r=X:=heq
     subst heq
     obtain ⟨n',h1,h2,h3,h4,h5⟩:=hh
     exact Or.inr ⟨er,h3,hid ⟨n',h1,h2,rfl,hc.cx.cg.trans h4,h5⟩⟩
   | ok ns2 r=>
     rw [hP] at hh heq
     obtain ⟨n',h1,h2,h3,h4,h5,h6,h7⟩:=hh
     refine Or.inl ⟨G,ns++ns2,n',T.length+((ns++ns2).length-1),?_,hid ⟨⟨hc.cx.on hrr.rd h4,by omega,by rw [←List.append_assoc];exact h5,?_,?_,h2,?_,rfl,by omega,?_⟩,by omega⟩⟩
     ·rw [h3]
      simp only [List.length_append]
      congr 4
      omega
     ·rw [List.length_append];omega
     ·rw [List.length_append];omega
     ·intro k hk
      have:=h.kin k hk
      rw [List.length_append];omega
     ·rw [←h1,List.length_append]
      exact heq
theorem ce_step {R g' cap':Nat} {w5:World} (h:Ce w0 b vw vm A T n o w X F op lo hi ln cl gb gp G ns ks m g cap K R w3) (hw:w0.heap.size≤w.heap.size)
 (hown:w5.ownsRow w.heap.size 3 1 (.slice (some ⟨g',0,none⟩) (K+1) cap') (K+1) (kcs T ks++[.int .i64 (R:Int)])) (hgr:(w3.alloc (.cells #[.int .i64 (R:Int)] 3)).grownBy w5 (some g))
 (hlie:some g=some g'∨g'=(w3.alloc (.cells #[.int .i64 (R:Int)] 3)).heap.size) (hlt:g'<w5.heap.size):Ca w0 b vw vm A T n o w X F op lo hi ln cl gb gp G ns (ks++[ns.length-1]) m g' cap' (K+1) w5:=by
 obtain ⟨vt,hrr⟩:=h.ok
 have ho:=(Old.refl w3).alloc (.cells #[.int .i64 (R:Int)] 3)
 have hcx:=h.cx.on hrr.rd (Cg.ofOld ho)
 have hrr':=hrr.oldw ho
 have hpos:=h.pos
 rcases hcx.kr.2 with ⟨h1,_⟩|⟨g1,cap1,cur,h1,h2,h3,h4⟩
 ·cases h1
 injection h1 with h1 _ _
 injection h1 with h1
 injection h1 with h1 _ _
 subst h1
 have bes:∀ {k:Nat} {cs:Array Value} {t:TypeId} {fr:Nat × Nat},(w3.alloc (.cells #[.int .i64 (R:Int)] 3)).heap[k]?=some (.cells cs t fr)→t≠3→w5.heap[k]?=some (.cells cs t fr):=fun {k cs t fr} hk ht=>
  (hgr.block k (blk_lt hk) (fun e=>by
    injection e with e
    subst e
    rw [h3] at hk
    injection hk with hk
    injection hk with _ hk
    exact ht hk.symm)).trans hk
 refine ⟨⟨hcx.cg.grownIn hgr h2,?_,by rw [List.length_append,hcx.kl];rfl,by omega,h.kb,bes hcx.bx (by decide),bes hcx.pl (by decide)⟩,h.le,⟨vt,hrr'.grown h3 hgr (Nat.le_trans hw h2) ?_ hlt⟩,h.pos,h.bd,h.hm,?_,h.eq⟩
 ·rw [show kcs T (ks++[ns.length-1])=kcs T ks++[.int .i64 (R:Int)] by rw [h.r];simp [kcs]]
  exact hown
 ·rcases hlie with e|e
  ·injection e with e
   exact Or.inl e
  ·exact Or.inr e
 ·intro k hk
  rcases List.mem_append.1 hk with hk|hk
  ·exact h.kin k hk
  ·rcases List.mem_singleton.1 hk with rfl
   omega
theorem ca_shut (h:Ca w0 b vw vm A T n o w X F op lo hi ln cl gb gp G ns ks m g cap K wr) (hA:A.length≤200000) (ho:o<12) (h1:Old wr w1) (hs:isL [41] (A.drop m)=true) :
 Calls Tryz.prog 146 #[.pointer (some ⟨b,0,none⟩)] w1 fun e w'=>e=.returned (.tuple #[])∧Hid (Cx w0 b w T op lo hi ln cl gb gp ks g cap K w'∧Rok w0 b vw vm A (T++ns) (m+1) o w'):=by
 obtain ⟨vt,hrr⟩:=h.ok
 refine (leave_any (hrr.oldw h1) h.hm hA (by omega) (by omega)).mono ?_
 intro e w' hh
 rw [hs] at hh
 simp only [if_true] at hh
 exact ⟨hh.1,hid ⟨h.cx.on hrr.rd ((Cg.ofOld h1).trans (Cg.ofChx hh.2.1)),vt,((hrr.oldw h1).chx hh.2.1 hh.2.2).weak (fun _ hk=>Or.inl hk)⟩⟩
theorem ca_bad (h:Ca w0 b vw vm A T n o w X F op lo hi ln cl gb gp G ns ks m g cap K wr) (hA:A.length≤200000) (ho:o<12) (hX:X≠.out) (h1:Old wr w1) (hc:isL [44] (A.drop m)=false) (hs:isL [41] (A.drop m)=false) :
 Calls Tryz.prog 146 #[.pointer (some ⟨b,0,none⟩)] w1 fun e w'=>e=pan 4∧Hid (Res w0 b vw vm A T n o w X (pan 4) w'):=by
 obtain ⟨vt,hrr⟩:=h.ok
 cases G with
 | zero=>exact absurd h.eq.symm (fun e=>hX (e.trans rfl))
 | succ G=>
   have heq:=h.eq
   rw [P_args] at heq
   unfold argsP at heq
   rw [hc,hs] at heq
   simp only [Bool.false_eq_true,if_false,false_and] at heq
   subst heq
   refine (leave_any (hrr.oldw h1) h.hm hA (by omega) (by omega)).mono ?_
   intro e w' hh
   rw [hs] at hh
   simp only [Bool.false_eq_true,if_false] at hh
   exact ⟨hh.1,hid ⟨m,rfl,h.hm,rfl,h.cx.cg.trans ((Cg.ofOld h1).trans (Cg.ofOld hh.2)),_,vt,(hrr.oldw h1).rd.old hh.2⟩⟩
theorem ca_few (h:Ca w0 b vw vm A T n o w X F op lo hi ln cl gb gp G ns ks m g cap K wr) (hX:X≠.out) (h1:Old wr w1) (hc:isL [44] (A.drop m)=false) (hs:isL [41] (A.drop m)=true) (hK:K<lo):Res w0 b vw vm A T n o w X (pan 14) w1:=by
 obtain ⟨vt,hrr⟩:=h.ok
 cases G with
 | zero=>exact absurd h.eq.symm (fun e=>hX (e.trans rfl))
 | succ G=>
   have heq:=h.eq
   rw [P_args] at heq
   unfold argsP at heq
   rw [if_neg (by rw [hc];exact Bool.false_ne_true),if_pos ⟨hs,by rw [h.cx.kl];exact hK⟩] at heq
   subst heq
   exact ⟨m,rfl,h.hm,rfl,h.cx.cg.trans (Cg.ofOld h1),_,vt,(hrr.oldw h1).rd⟩
theorem ca_many (h:Ca w0 b vw vm A T n o w X F op lo hi ln cl gb gp G ns ks m g cap K wr) (hX:X≠.out) (h1:Old wr w1) (hc:isL [44] (A.drop m)=true) (hK:K=hi):Res w0 b vw vm A T n o w X (pan 14) w1:=by
 obtain ⟨vt,hrr⟩:=h.ok
 cases G with
 | zero=>exact absurd h.eq.symm (fun e=>hX (e.trans rfl))
 | succ G=>
   have heq:=h.eq
   rw [P_args] at heq
   unfold argsP at heq
   rw [if_pos hc,if_pos (by rw [h.cx.kl];exact hK)] at heq
   subst heq
   exact ⟨m,rfl,h.hm,rfl,h.cx.cg.trans (Cg.ofOld h1),_,vt,(hrr.oldw h1).rd⟩
theorem ca_add {w4:World} (h:Ca w0 b vw vm A T n o w X F op lo hi ln cl gb gp G ns ks m g cap K wr) (hsb:∀ k,w0.S k→k<w.heap.size) (hw:w0.heap.size≤w.heap.size) (hX:X≠.out) (hA:A.length≤200000) (hT:T.length≤n) (hc:isL [44] (A.drop m)=false) (hs:isL [41] (A.drop m)=true) (hK:¬ K<lo)
 (h4:Cx w0 b w T op lo hi ln cl gb gp ks g cap K w4∧Rok w0 b vw vm A (T++ns) (m+1) o w4) :
 Calls Tryz.prog 141 #[.pointer (some ⟨b,0,none⟩),.agg #[.int .u8 (op:Int),.int .u8 0,.int .i64 0,.string ⟨#[]⟩,.string ⟨#[]⟩,.slice (some ⟨g,0,none⟩) K cap,.int .i64 ln,.int .i64 cl]] w4 fun e w'=>
  ∃ Z:Nat,e=.returned (.int .i64 (Z:Int))∧Hid (Res w0 b vw vm A T n o w X (.returned (.int .i64 (Z:Int))) w'):=by
 obtain ⟨hcx,vt,hrr⟩:=h4
 have hbd:=h.bd
 have hm:=h.hm
 have hlt:=drop_lt (isL_ne hs)
 cases G with
 | zero=>exact absurd h.eq.symm (fun e=>hX (e.trans rfl))
 | succ G=>
   have heq:=h.eq
   rw [P_args] at heq
   unfold argsP at heq
   rw [if_neg (by rw [hc];exact Bool.false_ne_true),if_neg (fun hh=>hK (by rw [←h.cx.kl];exact hh.2)),if_pos hs,drop_tl] at heq
   subst heq
   have e1:(ks.map (ns.length-·)).map ((T++ns).length-·)=ks.map (T.length+·):=by
    rw [List.map_map]
    refine List.map_congr_left fun k hk=>?_
    have:=h.kin k hk
    simp only [Function.comp_apply,List.length_append]
    omega
   have e2:KR w4 w0.heap.size (.slice (some ⟨g,0,none⟩) K cap) (ks.map (T.length+·)):=by
    have:=own_mono hcx.kr hw
    unfold KR
    rw [List.length_map,hcx.kl,List.map_map]
    exact this
   rw [←e1] at e2
   refine (add_any hrr ⟨op,0,0,[],[],ks.map (ns.length-·),ln,cl⟩ _ ⟨e2,fun k e hk=>?_⟩ (by rw [List.length_append];omega)).mono ?_
   ·have e3:g=k:=by simpa [Value.ownBlock] using e
    subst e3
    have:=hsb _ hk
    rcases hcx.kr.2 with ⟨h1,_⟩|⟨g1,cap1,cur,h1,h2,h3,h4⟩
    ·cases h1
    injection h1 with h1 _ _
    injection h1 with h1
    injection h1 with h1 _ _
    omega
   ·rintro e w' ⟨h1,h2,h3⟩
    refine ⟨_,h1,hid ⟨m+1,rfl,hlt,?_,hcx.cg.trans h2,by rw [←List.append_assoc];exact h3,by simp,by rw [List.length_append];simp;omega⟩⟩
    simp only [List.length_append,List.length_cons,List.length_nil]
    congr 3
end
end Go.Proofs.YtkellpcljiodeaaGreatDoor
namespace Go.Proofs.YtkellpcljiodeaaGreatDoor
open Go.ChangeShapes Go.WideShapes Go.ChangeAt Go.RowKit Go.Lib
set_option linter.unusedVariables false
set_option linter.unusedSimpArgs false
set_option maxRecDepth 100000
theorem info3:(Tryz.prog.info? 3).map (fun i=>(i.zero,i.size,i.bytes))=some (some (.int .i64 0),1,8):=by kernel_rfl
structure Cb (w0:Wz) (b op lo hi:Nat) (ln cl:Int) (gb gp:Nat) (w wr:World):Prop where
 cg:Cg w0.heap.size b w wr
 bx:wr.heap[gb]?=some (.cells #[.int .u8 (op:Int),.int .i64 (lo:Int),.int .i64 (hi:Int)] 130 (0,0))
 pl:Pl wr gp ln cl
theorem Cb.on {w0:Wz} {b op lo hi gb gp:Nat} {ln cl:Int} {w wr w1:World} {vw vt vm:Value} {i o:Int} (h:Cb w0 b op lo hi ln cl gb gp w wr) (hr:RdB wr b vw i o vt vm) (c:Cg w0.heap.size b wr w1):Cb w0 b op lo hi ln cl gb gp w w1:=
 ⟨h.cg.trans c,c.cells h.bx (hr.ne h.bx (by decide)) (by decide),pl_cg h.pl hr c⟩
theorem cb_make {w0:Wz} {w w1:World} {b n o:Nat} {vw vm vt:Value} {A:List Tk} {T:List Nd} (H:Rr w0 b vw vm A T n o vt w) (op lo hi:Nat) (ln cl:Int)
 (h2:Chx (·= b) (w.alloc (.cells #[.int .u8 (op:Int),.int .i64 (lo:Int),.int .i64 (hi:Int)] 130)) w1) (h3:RdB w1 b vw ((n+1:Nat):Int) o vt vm) :
 Cb w0 b op lo hi ln cl w.heap.size w1.heap.size w (w1.alloc (.cells #[.int .i64 ln,.int .i64 cl] 26))∧Rr w0 b vw vm A T (n+1) o vt (w1.alloc (.cells #[.int .i64 ln,.int .i64 cl] 26)):=by
 have ho1:=(Old.refl w).alloc (.cells #[.int .u8 (op:Int),.int .i64 (lo:Int),.int .i64 (hi:Int)] 130)
 have ho2:=(Old.refl w1).alloc (.cells #[.int .i64 ln,.int .i64 cl] 26)
 have hbx:(w.alloc (.cells #[.int .u8 (op:Int),.int .i64 (lo:Int),.int .i64 (hi:Int)] 130)).heap[w.heap.size]?=some (.cells #[.int .u8 (op:Int),.int .i64 (lo:Int),.int .i64 (hi:Int)] 130 (0,0)):=(MapKept.heap_alloc w _).1
 have hne:w.heap.size≠b:=Nat.ne_of_gt H.rd.lt
 have hb1:=(h2.block _ (blk_lt hbx) hne).trans hbx
 exact ⟨⟨((Cg.ofOld ho1).trans (Cg.ofChx h2)).trans (Cg.ofOld ho2),(ho2.block _ (blk_lt hb1)).trans hb1,(MapKept.heap_alloc w1 _).1⟩,((H.oldw ho1).chx h2 h3).oldw ho2⟩
theorem ca_first {w0:Wz} {w wr w4:World} {b n o F op lo hi gb gp m R:Nat} {vw vm:Value} {A:List Tk} {T ns:List Nd} {r:List Tk} {X:Rz} {ln cl i o':Int} {vt:Value} (h:Rt w0 b vw vm A T (n+2) (o+1) wr ns r m w4) (hb:Cb w0 b op lo hi ln cl gb gp w wr) (hrd:RdB wr b vw i o' vt vm)
 (hR:R=T.length+ns.length-1) (hhi:1≤hi) (hX:P F (.args op lo hi ln cl ns [ns.length-1]) (o+1) r=X) :
 Ca w0 b vw vm A T n o w X F op lo hi ln cl gb gp F ns [ns.length-1] m w4.heap.size 1 1 (w4.alloc (.cells #[.int .i64 (R:Int)] 3)):=by
 obtain ⟨vt4,hrr⟩:=h.ok
 have ho:=(Old.refl w4).alloc (.cells #[.int .i64 (R:Int)] 3)
 have hb4:=(hb.on hrd h.cg).on hrr.rd (Cg.ofOld ho)
 have hpos:=h.pos
 have hle:=h.le
 have hk:=kr_new (w:=w4) (base:=w.heap.size) (Nat.le_trans hb.cg.size h.cg.size) [R] (by simp) #[.int .i64 (R:Int)] rfl
 have e1:R=T.length+(ns.length-1):=by omega
 refine ⟨⟨hb4.cg,?_,rfl,Nat.le_refl _,hhi,hb4.bx,hb4.pl⟩,Nat.le_refl _,⟨vt4,hrr.fresh _⟩,hpos,by omega,h.hm,?_,by rw [←h.hr];exact hX⟩
 ·have e2:kcs T [ns.length-1]=[Value.int .i64 (R:Int)]:=by rw [e1];rfl
  rw [e2]
  exact hk
 ·intro k hk
  rcases List.mem_singleton.1 hk with rfl
  omega
theorem Cx.c {w0:Wz} {b op lo hi gb gp g cap K:Nat} {T:List Nd} {ks:List Nat} {ln cl:Int} {w wr w1:World} (h:Cx w0 b w T op lo hi ln cl gb gp ks g cap K wr) (ho:Old wr w1) (k:Nat):w1.cell? ⟨gb,k,none⟩=#[.int .u8 (op:Int),.int .i64 (lo:Int),.int .i64 (hi:Int)][k]?:=by
 have:=(ho.block gb (blk_lt h.bx)).trans h.bx
 simp [World.cell?,this]
section
variable {w0:Wz} {b n o F op lo hi gb gp G m g cap K R:Nat} {vw vm vt:Value} {A:List Tk} {T ns:List Nd} {ks:List Nat} {X:Rz} {ln cl:Int} {w w3:World}
theorem ce_own (h:Ce w0 b vw vm A T n o w X F op lo hi ln cl gb gp G ns ks m g cap K R w3):(w3.alloc (.cells #[.int .i64 (R:Int)] 3)).ownsRow w.heap.size 3 1 (.slice (some ⟨g,0,none⟩) K cap) K (kcs T ks):=own_old h.cx.kr ((Old.refl w3).alloc _)
theorem ce_news (R:Nat) (w3:World):∀ j u,[Value.int .i64 (R:Int)][j]?=some u→(w3.alloc (.cells #[.int .i64 (R:Int)] 3)).cell? ((⟨w3.heap.size,0,none⟩:Addr).add j)=some u:=
 World.news_of_block (cs:=#[.int .i64 (R:Int)]) (MapKept.heap_alloc w3 _).1
theorem ce_base (h:Ce w0 b vw vm A T n o w X F op lo hi ln cl gb gp G ns ks m g cap K R w3):w.heap.size≤(w3.alloc (.cells #[.int .i64 (R:Int)] 3)).heap.size:=Nat.le_trans h.cx.cg.size ((Old.refl w3).alloc _).size
theorem ce_one (R:Nat):∀ u∈[Value.int .i64 (R:Int)],u.oneCell'=true:=fun u hu=>by
 rcases List.mem_singleton.1 hu with rfl
 rfl
end
theorem call_no {w0:Wz} {w:World} {b n o:Nat} {vw vm vt:Value} {A:List Tk} {T:List Nd} (H:Rr w0 b vw vm A T n o vt w) (hlt:n<A.length) (hA:A.length≤200000) (op lo hi:Nat) (hs:isL [40] (A.drop (n+1))=false) :
 Calls Tryz.prog 145 #[.pointer (some ⟨b,0,none⟩),.agg #[.int .u8 (op:Int),.int .i64 (lo:Int),.int .i64 (hi:Int)]] w (Res w0 b vw vm A T n o w (.no 4 (A.drop (n+1)))):=by
 obtain ⟨x,hx⟩:∃ x,wordL (A.drop n)=x:=⟨_,rfl⟩
 obtain ⟨k,t,xk,xn,xs,ln,cl⟩:=x
 have hfl:=fld_at k xk xn ln cl (st t) (st xs)
 have HTK:=hid (fun W (h:Old w W)=>take_at (H.oldw h) (Nat.le_of_lt hlt) hA hx)
 have HO:=hid ((Old.refl w).alloc (.cells #[.int .u8 (op:Int),.int .i64 (lo:Int),.int .i64 (hi:Int)] 130))
 have HI:=hid (show ∀ W,Rr w0 b vw vm A T (n+1) o vt W→Calls Tryz.prog 139 #[.pointer (some ⟨b,0,none⟩),.string (st [40])] W fun e w'=>e=.returned (.bool false)∧Old W w' from fun W h=>hs▸is_any h hlt hA [40])
 have HB:=hid (fun w1 h2 h3=>cb_make (w1:=w1) H op lo hi ln cl h2 h3)
 have HR:=hid (show ∀ (gp:Nat) (W W':World),Cb w0 b op lo hi ln cl w.heap.size gp w W∧Rr w0 b vw vm A T (n+1) o vt W→Old W W'→Res w0 b vw vm A T n o w (.no 4 (A.drop (n+1))) (pan 4) W' from fun gp W W' h ho=>⟨n+1,rfl,hlt,rfl,h.1.cg.trans (Cg.ofOld ho),o,vt,h.2.rd.old ho⟩)
 clear H hx hs
 go_enter Tryz.func145,Tryz.ntmps145
 go_wp2_with (first
  | (go_at_call 143;refine (HTK.out _ HO.out).mono ?_;rintro e w1 ⟨rfl,h2,h3⟩;have B1:=hid (HB.out _ h2 h3);clear h2 h3)
  | (go_at_call 139;refine (HI.out _ B1.out.2).mono ?_;rintro e w2 ⟨rfl,o2⟩;have Z:=hid (HR.out _ _ _ B1.out o2);clear o2)
  | (go_at_call 107;refine (give_any _ _ _).mono ?_;rintro e w3 ⟨rfl,rfl⟩))
 exact ⟨rfl,Z.out⟩
theorem call_deep {w0:Wz} {w:World} {b n o:Nat} {vw vm vt:Value} {A:List Tk} {T:List Nd} (H:Rr w0 b vw vm A T n o vt w) (hlt:n<A.length) (hA:A.length≤200000) (op lo hi:Nat) (hs:isL [40] (A.drop (n+1))=true) (h12:o=12) :
 Calls Tryz.prog 145 #[.pointer (some ⟨b,0,none⟩),.agg #[.int .u8 (op:Int),.int .i64 (lo:Int),.int .i64 (hi:Int)]] w (Res w0 b vw vm A T n o w (.no 12 (A.drop (n+1)))):=by
 obtain ⟨x,hx⟩:∃ x,wordL (A.drop n)=x:=⟨_,rfl⟩
 obtain ⟨k,t,xk,xn,xs,ln,cl⟩:=x
 have hfl:=fld_at k xk xn ln cl (st t) (st xs)
 have HTK:=hid (fun W (h:Old w W)=>take_at (H.oldw h) (Nat.le_of_lt hlt) hA hx)
 have HO:=hid ((Old.refl w).alloc (.cells #[.int .u8 (op:Int),.int .i64 (lo:Int),.int .i64 (hi:Int)] 130))
 have HI:=hid (show ∀ W,Rr w0 b vw vm A T (n+1) o vt W→Calls Tryz.prog 139 #[.pointer (some ⟨b,0,none⟩),.string (st [40])] W fun e w'=>e=.returned (.bool true)∧Old W w' from fun W h=>hs▸is_any h hlt hA [40])
 have HB:=hid (fun w1 h2 h3=>cb_make (w1:=w1) H op lo hi ln cl h2 h3)
 have hlt2:=drop_lt (isL_ne hs)
 have HE:=hid (show ∀ (gp:Nat) (W W':World),Cb w0 b op lo hi ln cl w.heap.size gp w W∧Rr w0 b vw vm A T (n+1) o vt W→Old W W'→Calls Tryz.prog 140 #[.pointer (some ⟨b,0,none⟩)] W' fun e w'=>e=pan 12∧Hid (Res w0 b vw vm A T n o w (.no 12 (A.drop (n+1))) (pan 12) w') from fun gp W W' h ho=>
  (enter_no (h.2.oldw ho) hlt hA h12).mono (fun e w' hh=>⟨hh.1,hid ⟨n+1,rfl,hlt,rfl,h.1.cg.trans (Cg.ofOld (ho.trans hh.2)),o,vt,h.2.rd.old (ho.trans hh.2)⟩⟩))
 clear H hx hs h12 hlt2
 go_enter Tryz.func145,Tryz.ntmps145
 go_wp2_with (first
  | (go_at_call 143;refine (HTK.out _ HO.out).mono ?_;rintro e w1 ⟨rfl,h2,h3⟩;have B1:=hid (HB.out _ h2 h3);clear h2 h3)
  | (go_at_call 139;refine (HI.out _ B1.out.2).mono ?_;rintro e w2 ⟨rfl,o2⟩;have O2:=hid o2;clear o2)
  | (go_at_call 140;refine (HE.out _ _ _ B1.out O2.out).mono ?_;rintro e w3 ⟨rfl,h3⟩))
 exact ⟨rfl,h3.out⟩
theorem cb_enter {w0:Wz} {w W W':World} {b n o op lo hi gb gp:Nat} {vw vm vt:Value} {A:List Tk} {T:List Nd} {ln cl:Int} (h:Cb w0 b op lo hi ln cl gb gp w W∧Rr w0 b vw vm A T (n+1) o vt W) (ho:Old W W') (hn:n+1≤A.length) (hA:A.length≤200000) (ho2:o≤12) (h12:o≠12) :
 Calls Tryz.prog 140 #[.pointer (some ⟨b,0,none⟩)] W' fun e w'=>∃ v,e=.returned v∧Hid (Cb w0 b op lo hi ln cl gb gp w w'∧Rr w0 b vw vm A T (n+2) (o+1) vt w'):=by
 obtain ⟨x,hx⟩:∃ x,wordL (A.drop (n+1))=x:=⟨_,rfl⟩
 obtain ⟨k,t,xk,xn,xs,l2,c2⟩:=x
 refine (enter_at (h.2.oldw ho) hn hA ho2 h12 hx).mono ?_
 rintro e w' ⟨h1,h2,h3⟩
 exact ⟨_,h1,hid ⟨h.1.on h.2.rd ((Cg.ofOld ho).trans (Cg.ofChx h2)),h3⟩⟩
theorem call_err {w0:Wz} {w:World} {b n o F:Nat} {vw vm vt:Value} {A:List Tk} {T:List Nd} (ih:Lv w0 b vw vm A F) (H:Rr w0 b vw vm A T n o vt w) (hlt:n<A.length) (hA:A.length≤200000) (ho:o<12) (hTn:T.length≤n) (op lo hi:Nat) (hs:isL [40] (A.drop (n+1))=true) {er:Int} {r:List Tk} (hP:P F (.lvl 0) (o+1) (A.drop (n+2))=.no er r) :
 Calls Tryz.prog 145 #[.pointer (some ⟨b,0,none⟩),.agg #[.int .u8 (op:Int),.int .i64 (lo:Int),.int .i64 (hi:Int)]] w (Res w0 b vw vm A T n o w (.no er r)):=by
 obtain ⟨x,hx⟩:∃ x,wordL (A.drop n)=x:=⟨_,rfl⟩
 obtain ⟨k,t,xk,xn,xs,ln,cl⟩:=x
 have hfl:=fld_at k xk xn ln cl (st t) (st xs)
 have HTK:=hid (fun W (h:Old w W)=>take_at (H.oldw h) (Nat.le_of_lt hlt) hA hx)
 have HO:=hid ((Old.refl w).alloc (.cells #[.int .u8 (op:Int),.int .i64 (lo:Int),.int .i64 (hi:Int)] 130))
 have HI:=hid (show ∀ W,Rr w0 b vw vm A T (n+1) o vt W→Calls Tryz.prog 139 #[.pointer (some ⟨b,0,none⟩),.string (st [40])] W fun e w'=>e=.returned (.bool true)∧Old W w' from fun W h=>hs▸is_any h hlt hA [40])
 have HB:=hid (fun w1 h2 h3=>cb_make (w1:=w1) H op lo hi ln cl h2 h3)
 have hlt2:=drop_lt (isL_ne hs)
 have HE:=hid (fun (gp:Nat) (W W':World) (h:Cb w0 b op lo hi ln cl w.heap.size gp w W∧Rr w0 b vw vm A T (n+1) o vt W) (h':Old W W')=>cb_enter h h' hlt hA (Nat.le_of_lt ho) (Nat.ne_of_lt ho))
 have HX:=hid (show ∀ W,Rr w0 b vw vm A T (n+2) (o+1) vt W→Calls Tryz.prog 65 #[.pointer (some ⟨b,0,none⟩)] W fun e w'=>e=pan er∧Hid (∀ (w1:World) (T':List Nd) (c' o':Nat),Cg w0.heap.size b w1 W→Res w0 b vw vm A T' c' o' w1 (.no er r) (pan er) w') from fun W h=>by
  have:=expr_any ih h hlt2 (by omega) (by omega) (by rw [hP];exact no_in)
  rw [hP] at this
  exact calls_no this)
 clear H hx hs hlt2 hP ih
 go_enter Tryz.func145,Tryz.ntmps145
 go_wp2_with (first
  | (go_at_call 143;refine (HTK.out _ HO.out).mono ?_;rintro e w1 ⟨rfl,h2,h3⟩;have B1:=hid (HB.out _ h2 h3);clear h2 h3)
  | (go_at_call 139;refine (HI.out _ B1.out.2).mono ?_;rintro e w2 ⟨rfl,o2⟩;have O2:=hid o2;clear o2)
  | (go_at_call 140;refine (HE.out _ _ _ B1.out O2.out).mono ?_;rintro e w3 ⟨v3,rfl,h3⟩)
  | (go_at_call 65;refine (HX.out _ h3.out.2).mono ?_;rintro e w4 ⟨rfl,h4⟩;have H4:=hid (h4.out _ T n o h3.out.1.cg);clear h4))
 exact ⟨rfl,H4.out⟩
theorem call_ok {w0:Wz} {w:World} {b n o F:Nat} {vw vm vt:Value} {A:List Tk} {T:List Nd} (ih:∀ S G,G≤F→Lv (wz w0 S) b vw vm A G) (H:Rr w0 b vw vm A T n o vt w) (hlt:n<A.length) (hA:A.length≤200000) (ho:o<12) (hTn:T.length≤n) (op lo hi:Nat) (hhi:1≤hi) (hhi8:hi≤8) (hs:isL [40] (A.drop (n+1))=true) {ns0:List Nd} {r0:List Tk} (hP:P F (.lvl 0) (o+1) (A.drop (n+2))=.ok ns0 r0)
 {X:Rz} (hXe:∀ {ln cl:Int},ln=(wordL (A.drop n)).ln→cl=(wordL (A.drop n)).cl→P F (.args op lo hi ln cl ns0 [ns0.length-1]) (o+1) r0=X) (hX:X≠.out) :
 Calls Tryz.prog 145 #[.pointer (some ⟨b,0,none⟩),.agg #[.int .u8 (op:Int),.int .i64 (lo:Int),.int .i64 (hi:Int)]] w (Res w0 b vw vm A T n o w X):=by
 obtain ⟨x,hx⟩:∃ x,wordL (A.drop n)=x:=⟨_,rfl⟩
 obtain ⟨k,t,xk,xn,xs,ln,cl⟩:=x
 have hfl:=fld_at k xk xn ln cl (st t) (st xs)
 have HTK:=hid (fun W (h:Old w W)=>take_at (H.oldw h) (Nat.le_of_lt hlt) hA hx)
 have HO:=hid ((Old.refl w).alloc (.cells #[.int .u8 (op:Int),.int .i64 (lo:Int),.int .i64 (hi:Int)] 130))
 have HI:=hid (show ∀ W,Rr w0 b vw vm A T (n+1) o vt W→Calls Tryz.prog 139 #[.pointer (some ⟨b,0,none⟩),.string (st [40])] W fun e w'=>e=.returned (.bool true)∧Old W w' from fun W h=>hs▸is_any h hlt hA [40])
 have HB:=hid (fun w1 h2 h3=>cb_make (w1:=w1) H op lo hi ln cl h2 h3)
 have hlt2:=drop_lt (isL_ne hs)
 have HE:=hid (fun (gp:Nat) (W W':World) (h:Cb w0 b op lo hi ln cl w.heap.size gp w W∧Rr w0 b vw vm A T (n+1) o vt W) (h':Old W W')=>cb_enter h h' hlt hA (Nat.le_of_lt ho) (Nat.ne_of_lt ho))
 obtain ⟨R0,hR0⟩:∃ R,R=T.length+ns0.length-1:=⟨_,rfl⟩
 have HX:=hid (show ∀ W,Rr w0 b vw vm A T (n+2) (o+1) vt W→Calls Tryz.prog 65 #[.pointer (some ⟨b,0,none⟩)] W fun e w'=>∃ m,e=.returned (.int .i64 (R0:Int))∧Hid (Rt w0 b vw vm A T (n+2) (o+1) W ns0 r0 m w') from fun W h=>by
  have:=expr_any (ih w0.S F (Nat.le_refl _)) h hlt2 (by omega) (by omega) (by rw [hP];exact ok_in)
  rw [hP] at this
  exact calls_rt this hR0)
 have hXe2:=hXe (ln:=ln) (cl:=cl) (by rw [hx]) (by rw [hx])
 have HF:=hid (show ∀ (gp m:Nat) (W w4:World),Cb w0 b op lo hi ln cl w.heap.size gp w W∧Rr w0 b vw vm A T (n+2) (o+1) vt W→Rt w0 b vw vm A T (n+2) (o+1) W ns0 r0 m w4→
  Ca w0 b vw vm A T n o w X F op lo hi ln cl w.heap.size gp F ns0 [ns0.length-1] m w4.heap.size 1 1 (w4.alloc (.cells #[.int .i64 (R0:Int)] 3)) from fun gp m W w4 hb h=>ca_first h hb.1 hb.2.rd hR0 hhi hXe2)
 have hsb:=H.ri.sb
 have hww:=H.ri.old.size
 have HCI:=hid (fun (gp G:Nat) (ns:List Nd) (ks:List Nat) (m g cap K:Nat) (wr w1:World) (h:Ca w0 b vw vm A T n o w X F op lo hi ln cl w.heap.size gp G ns ks m g cap K wr) (s:List UInt8) (h1:Old wr w1)=>ca_is h hA s h1)
 have HCT:=hid (fun (gp G:Nat) (ns:List Nd) (ks:List Nat) (m g cap K:Nat) (wr w1:World) (h:Ca w0 b vw vm A T n o w X F op lo hi ln cl w.heap.size gp G ns ks m g cap K wr) (h1:Old wr w1)=>ca_take h hA h1)
 have HCE:=hid (fun (gp G:Nat) (ns:List Nd) (ks:List Nat) (m g cap K:Nat) (wr w2:World) (h:Ca w0 b vw vm A T n o w X F op lo hi ln cl w.heap.size gp G ns ks m g cap K wr) (hs:isL [44] (A.drop m)=true) (hK:K≠hi) (hc:Ct w0 b vw vm A T o w op lo hi ln cl w.heap.size gp ns ks m g cap K w2)=>ca_expr ih h hs hK hX ho hTn hc)
 have HCS:=hid (fun (gp G:Nat) (ns:List Nd) (ks:List Nat) (m g cap K:Nat) (wr w1:World) (h:Ca w0 b vw vm A T n o w X F op lo hi ln cl w.heap.size gp G ns ks m g cap K wr) (h1:Old wr w1) (hs:isL [41] (A.drop m)=true)=>ca_shut h hA ho h1 hs)
 have HCB:=hid (fun (gp G:Nat) (ns:List Nd) (ks:List Nat) (m g cap K:Nat) (wr w1:World) (h:Ca w0 b vw vm A T n o w X F op lo hi ln cl w.heap.size gp G ns ks m g cap K wr) (h1:Old wr w1) (hc:isL [44] (A.drop m)=false) (hs:isL [41] (A.drop m)=false)=>ca_bad h hA ho hX h1 hc hs)
 have HCF:=hid (fun (gp G:Nat) (ns:List Nd) (ks:List Nat) (m g cap K:Nat) (wr w1:World) (h:Ca w0 b vw vm A T n o w X F op lo hi ln cl w.heap.size gp G ns ks m g cap K wr) (h1:Old wr w1) (hc:isL [44] (A.drop m)=false) (hs:isL [41] (A.drop m)=true) (hK:K<lo)=>ca_few h hX h1 hc hs hK)
 have HCM:=hid (fun (gp G:Nat) (ns:List Nd) (ks:List Nat) (m g cap K:Nat) (wr w1:World) (h:Ca w0 b vw vm A T n o w X F op lo hi ln cl w.heap.size gp G ns ks m g cap K wr) (h1:Old wr w1) (hc:isL [44] (A.drop m)=true) (hK:K=hi)=>ca_many h hX h1 hc hK)
 have HCD:=hid (fun (gp G:Nat) (ns:List Nd) (ks:List Nat) (m g cap K:Nat) (wr w4:World) (h:Ca w0 b vw vm A T n o w X F op lo hi ln cl w.heap.size gp G ns ks m g cap K wr) (hc:isL [44] (A.drop m)=false) (hs:isL [41] (A.drop m)=true) (hK:¬ K<lo) (h4:Cx w0 b w T op lo hi ln cl w.heap.size gp ks g cap K w4∧Rok w0 b vw vm A (T++ns) (m+1) o w4)=>ca_add h hsb hww hX hA hTn hc hs hK h4)
 have HNX:=hid (show ∀ (gp G:Nat) (ns:List Nd) (ks:List Nat) (m g cap K:Nat) (wr:World),Ca w0 b vw vm A T n o w X F op lo hi ln cl w.heap.size gp G ns ks m g cap K wr→nextOf wr b=m∧m≤A.length from fun gp G ns ks m g cap K wr h=>by
  obtain ⟨vt',hrr⟩:=h.ok
  exact ⟨nextOf_rd hrr.rd,h.hm⟩)
 have HWW:=hid hww
 obtain ⟨ti,hti,hz,hsz,hby⟩:=info_parts info3
 clear H hx hs hlt2 hP ih hXe hXe2 hX hR0 hsb hww hTn
 go_enter Tryz.func145,Tryz.ntmps145
 go_wp2_with (first
  | (go_at_call 143;refine (HTK.out _ HO.out).mono ?_;rintro e w1 ⟨rfl,h2,h3⟩;have B1:=hid (HB.out _ h2 h3);clear h2 h3)
  | (go_at_call 139;refine (HI.out _ B1.out.2).mono ?_;rintro e w2 ⟨rfl,o2⟩;have O2:=hid o2;clear o2)
  | (go_at_call 140;refine (HE.out _ _ _ B1.out O2.out).mono ?_;rintro e w3 ⟨v3,rfl,h3⟩)
  | (go_at_call 65;refine (HX.out _ h3.out.2).mono ?_;rintro e w4 ⟨m,rfl,h4⟩;have H4:=hid (HF.out _ _ _ _ h3.out h4.out);clear h4))
 clear HX HF HE HB HI HTK
 go_loopw [6] (fun i wr=>∃ (G:Nat) (ns:List Nd) (ks:List Nat) (m g cap K:Nat),i=.slice (some ⟨g,0,none⟩) K cap∧Hid (Ca w0 b vw vm A T n o w X F op lo hi ln cl w.heap.size w1.heap.size G ns ks m g cap K wr)) (fun i wr=>A.length-nextOf wr b)
 case atStart=>exact ⟨F,ns0,_,m,_,1,1,rfl,H4⟩
 case round=>
  clear H4
  obtain ⟨G,ns,ks,m,g,cap,K,rfl,H1⟩:=hrel
  have HL1:=hid (show (K+1)*8≤140737488355328 by have:=H1.out.cx.kb;omega)
  have HL2:=hid (show K+1≤maxLen by have:=H1.out.cx.kb;unfold maxLen;omega)
  cases hc:isL [44] (A.drop m)
  ·cases hs:isL [41] (A.drop m)
   ·have hq:=HCI.out _ _ _ _ _ _ _ _ _ _ H1.out [44] (Old.refl _)
    rw [hc] at hq
    go_wp2_with (first
     | (go_at_call 139;refine hq.mono ?_;rintro e w5 ⟨rfl,o5⟩;have O5:=hid o5;clear o5;have hq3:=HCI.out _ _ _ _ _ _ _ _ _ _ H1.out [41] O5.out;rw [hs] at hq3;clear hq)
     | (go_at_call 139;refine hq3.mono ?_;rintro e w6 ⟨rfl,o6⟩;have O6:=hid (O5.out.trans o6);clear o6)
     | (go_at_call 146;refine (HCB.out _ _ _ _ _ _ _ _ _ _ H1.out O6.out hc hs).mono ?_;rintro e w7 ⟨rfl,h7⟩))
    exact ⟨rfl,h7.out⟩
   ·have hq:=HCI.out _ _ _ _ _ _ _ _ _ _ H1.out [44] (Old.refl _)
    rw [hc] at hq
    by_cases hK:K<lo
    ·have hKi:(K:Int)<(lo:Int):=by omega
     go_wp2_with (first
      | (go_at_call 139;refine hq.mono ?_;rintro e w5 ⟨rfl,o5⟩;have O5:=hid o5;clear o5;have hq3:=HCI.out _ _ _ _ _ _ _ _ _ _ H1.out [41] O5.out;rw [hs] at hq3;clear hq)
      | (go_at_call 139;refine hq3.mono ?_;rintro e w6 ⟨rfl,o6⟩;have O6:=hid (O5.out.trans o6);clear o6;have c1:=H1.out.cx.c O6.out 1)
      | (go_at_call 107;refine (give_any _ _ _).mono ?_;rintro e w7 ⟨rfl,rfl⟩))
     exact ⟨rfl,HCF.out _ _ _ _ _ _ _ _ _ _ H1.out O6.out hc hs hK⟩
    ·have hKi:¬ (K:Int)<(lo:Int):=by omega
     go_wp2_with (first
      | (go_at_call 139;refine hq.mono ?_;rintro e w5 ⟨rfl,o5⟩;have O5:=hid o5;clear o5;have hq3:=HCI.out _ _ _ _ _ _ _ _ _ _ H1.out [41] O5.out;rw [hs] at hq3;clear hq)
      | (go_at_call 139;refine hq3.mono ?_;rintro e w6 ⟨rfl,o6⟩;have O6:=hid (O5.out.trans o6);clear o6;have c1:=H1.out.cx.c O6.out 1)
      | (go_at_call 146;refine (HCS.out _ _ _ _ _ _ _ _ _ _ H1.out O6.out hs).mono ?_;rintro e w7 ⟨rfl,h7⟩;have c0:=h7.out.1.c (Old.refl _) 0;have p0:=h7.out.1.pl.c0;have p1:=h7.out.1.pl.c1)
      | (go_at_call 141;refine (HCD.out _ _ _ _ _ _ _ _ _ _ H1.out hc hs hK h7.out).mono ?_;rintro e w8 ⟨Z,rfl,h8⟩))
     go_ret
     exact h8.out
  ·have hq:=HCI.out _ _ _ _ _ _ _ _ _ _ H1.out [44] (Old.refl _)
   rw [hc] at hq
   by_cases hK2:K=hi
   ·have hKi:(K:Int)=(hi:Int):=by rw [hK2]
    go_wp2_with (first
     | (go_at_call 139;refine hq.mono ?_;rintro e w5 ⟨rfl,o5⟩;have O5:=hid o5;clear o5;have c2:=H1.out.cx.c O5.out 2)
     | (go_at_call 107;refine (give_any _ _ _).mono ?_;rintro e w7 ⟨rfl,rfl⟩))
    exact ⟨rfl,HCM.out _ _ _ _ _ _ _ _ _ _ H1.out O5.out hc hK2⟩
   ·have hKi:¬ (K:Int)=(hi:Int):=by omega
    go_wp2_with (first
     | (go_at_call 139;refine hq.mono ?_;rintro e w5 ⟨rfl,o5⟩;have O5:=hid o5;clear o5;have c2:=H1.out.cx.c O5.out 2)
     | (go_at_call 143;refine (HCT.out _ _ _ _ _ _ _ _ _ _ H1.out O5.out).mono ?_;rintro e w6 ⟨v6,rfl,h6⟩)
     | (go_at_call 65;refine (HCE.out _ _ _ _ _ _ _ _ _ _ H1.out hc hK2 h6.out).mono ?_;rintro e w7 (⟨G',ns',m',R,rfl,h7⟩|⟨er,rfl,h7⟩))
     | (at_builtin;go_loud (refine wpList_append_lies _ rfl _ _ 36 rfl w.heap.size 3 ti _ 1 8 Tryz.underlying36 hti hz hsz hby rfl (Nat.zero_lt_succ 0) (.slice (some ⟨g,0,none⟩) K cap) K (kcs T ks) rfl (ce_own h7.out.1) ⟨w7.heap.size,0,none⟩ 1 1 [.int .i64 (R:Int)] rfl rfl (ce_news R w7) (ce_one R) (Nat.zero_lt_succ 0) (HL2.out) (HL1.out) (ce_base h7.out.1) _ rfl ?_);intro g' cap' w8 hown hgr hlie hlt;have H8:=hid (ce_step h7.out.1 HWW.out hown hgr hlie hlt);clear hown hgr hlie hlt))
    ·refine ⟨⟨G',ns',_,m',g',cap',K+1,rfl,H8⟩,?_⟩
     have e1:=(HNX.out _ _ _ _ _ _ _ _ _ H8.out)
     have e2:=(HNX.out _ _ _ _ _ _ _ _ _ H1.out)
     have e3:=h7.out.2
     rw [e1.1,e2.1]
     omega
    ·exact ⟨rfl,h7.out⟩
end Go.Proofs.YtkellpcljiodeaaGreatDoor
namespace Go.Proofs.YtkellpcljiodeaaGreatDoor
open Go.ChangeShapes Go.WideShapes Go.ChangeAt Go.RowKit Go.Lib
set_option linter.unusedVariables false
set_option linter.unusedSimpArgs false
set_option maxRecDepth 100000
theorem kidN_le (op:Int):(kidN op).2≤8:=by
 unfold kidN
 repeat' split
 all_goals decide
theorem call_any {w0:Wz} {w:World} {b n o F:Nat} {vw vm vt:Value} {A:List Tk} {T:List Nd} (ih:∀ S G,G≤F→Lv (wz w0 S) b vw vm A G) (H:Rr w0 b vw vm A T n o vt w) (hlt:n<A.length) (hA:A.length≤200000) (ho:o≤12) (hTn:T.length≤n)
 {s:List UInt8} {op lo hi:Nat} (hc:callL s=some (op,lo,hi)) (hout:callP (P F) (op,lo,hi) o (A.drop n)≠.out) :
 Calls Tryz.prog 145 #[.pointer (some ⟨b,0,none⟩),.agg #[.int .u8 (op:Int),.int .i64 (lo:Int),.int .i64 (hi:Int)]] w (Res w0 b vw vm A T n o w (callP (P F) (op,lo,hi) o (A.drop n))):=by
 obtain ⟨k1,k2,k3,k4,k5⟩:=call_facts hc
 have h8:=kidN_le ((op:Nat):Int)
 rw [k1] at h8
 simp only at k4 k5 h8
 unfold callP at hout ⊢
 rw [drop_tl] at hout ⊢
 cases hs:isL [40] (A.drop (n+1))
 ·simp only [if_true]
  exact call_no H hlt hA op lo hi hs
 rw [if_neg (by rw [hs];decide)] at hout
 simp only [Bool.true_eq_false,if_false]
 by_cases h12:o=12
 ·rw [if_pos h12]
  exact call_deep H hlt hA op lo hi hs h12
 rw [if_neg h12,drop_tl] at hout ⊢
 have hne:=bnd_out hout
 cases hP:P F (.lvl 0) (o+1) (A.drop (n+2)) with
 | out=>exact absurd hP hne
 | no er r=>exact call_err (ih w0.S F (Nat.le_refl _)) H hlt hA (by omega) hTn op lo hi hs hP
 | ok ns r=>
   rw [show n+1+1=n+2 from rfl,hP] at hout
   exact call_ok ih H hlt hA (by omega) hTn op lo hi (by omega) h8 hs hP (X:=P F (.args op lo hi (wordL (A.drop n)).ln (wordL (A.drop n)).cl ns [ns.length-1]) (o+1) r) (fun h1 h2=>by rw [h1,h2]) hout
theorem nam_any {w0:Wz} {w:World} {b n o F:Nat} {vw vm vt:Value} {A:List Tk} {T:List Nd} (ih:∀ S G,G≤F→Lv (wz w0 S) b vw vm A G) (H:Rr w0 b vw vm A T n o vt w) (hlt:n<A.length) (hA:A.length≤200000) (ho:o≤12) (hTn:T.length≤n)
 {t:List UInt8} (ht:(wordL (A.drop n)).t=t) (hout:nameP (P F) o (A.drop n)≠.out) :
 Calls Tryz.prog 105 #[.pointer (some ⟨b,0,none⟩),.string (st t)] w (Res w0 b vw vm A T n o w (nameP (P F) o (A.drop n))):=by
 unfold nameP at hout ⊢
 rw [ht,drop_tl] at *
 by_cases h1:t=[116,114,117,101]
 ·rw [if_pos h1]
  subst h1
  have hl:=literal_any H hlt hA hTn 4 1 [] (by simp)
  clear ih H hout ht
  go_enter Tryz.func105,Tryz.ntmps105
  go_wp2_with (go_at_call 102;refine hl.mono ?_;intro e w1 h1;rcases h1.told ok_in with ⟨k,rfl,h2⟩|⟨er,rfl,h2⟩<;>clear h1)
  ·go_ret
   exact h2.out
  ·exact ⟨rfl,h2.out⟩
 have q1:(t==[116,114,117,101])=false:=beq_false_of_ne h1
 rw [if_neg h1] at hout ⊢
 by_cases h2:t=[102,97,108,115,101]
 ·rw [if_pos h2]
  subst h2
  have hl:=literal_any H hlt hA hTn 4 0 [] (by simp)
  clear ih H hout ht
  go_enter Tryz.func105,Tryz.ntmps105
  go_wp2_with (go_at_call 102;refine hl.mono ?_;intro e w1 h1;rcases h1.told ok_in with ⟨k,rfl,h2⟩|⟨er,rfl,h2⟩<;>clear h1)
  ·go_ret
   exact h2.out
  ·exact ⟨rfl,h2.out⟩
 have q2:(t==[102,97,108,115,101])=false:=beq_false_of_ne h2
 rw [if_neg h2] at hout ⊢
 by_cases h3:t=[110,117,108,108]
 ·rw [if_pos h3]
  subst h3
  have hl:=literal_any H hlt hA hTn 0 0 [] (by simp)
  clear ih H hout ht
  go_enter Tryz.func105,Tryz.ntmps105
  go_wp2_with (go_at_call 102;refine hl.mono ?_;intro e w1 h1;rcases h1.told ok_in with ⟨k,rfl,h2⟩|⟨er,rfl,h2⟩<;>clear h1)
  ·go_ret
   exact h2.out
  ·exact ⟨rfl,h2.out⟩
 have q3:(t==[110,117,108,108])=false:=beq_false_of_ne h3
 rw [if_neg h3] at hout ⊢
 have hlk0:=run_clk t H.ri.map
 have c12:=H.rd.c 12
 cases hc:callL t with
 | none=>
   rw [hc] at hlk0 hout
   have hlk:(Instr.lookup 79 vm (.string (st t)) true).run Tryz.prog w=.ok (.tuple #[.agg #[.int .u8 0,.int .i64 0,.int .i64 0],.bool false]) w:=hlk0
   have HD:=hid (show ∀ w',Old w w'→Res w0 b vw vm A T n o w (.no 4 (A.drop n)) (pan 4) w' from fun w' h=>⟨n,rfl,Nat.le_of_lt hlt,rfl,Cg.ofOld h,o,vt,H.rd.old h⟩)
   have HO:=hid ((Old.refl w).alloc (.cells #[.int .u8 0,.int .i64 0,.int .i64 0] 130))
   clear ih H hout ht hlk0 hc
   go_enter Tryz.func105,Tryz.ntmps105
   go_wp2_with (go_at_call 107;refine (give_any _ _ _).mono ?_;rintro e w3 ⟨rfl,rfl⟩)
   exact ⟨rfl,HD.out _ HO.out⟩
 | some c=>
   obtain ⟨op,lo,hi⟩:=c
   rw [hc] at hlk0 hout
   have hlk:(Instr.lookup 79 vm (.string (st t)) true).run Tryz.prog w=.ok (.tuple #[.agg #[.int .u8 (op:Int),.int .i64 (lo:Int),.int .i64 (hi:Int)],.bool true]) w:=hlk0
   have HO:=hid ((Old.refl w).alloc (.cells #[.int .u8 (op:Int),.int .i64 (lo:Int),.int .i64 (hi:Int)] 130))
   have HC:=hid (show ∀ W,Old w W→Calls Tryz.prog 145 #[.pointer (some ⟨b,0,none⟩),.agg #[.int .u8 (op:Int),.int .i64 (lo:Int),.int .i64 (hi:Int)]] W (Res w0 b vw vm A T n o w (callP (P F) (op,lo,hi) o (A.drop n))) from fun W h=>
    (call_any ih (H.oldw h) hlt hA ho hTn hc hout).mono (fun e w' hh=>Res.pre (Cg.ofOld h) hh))
   have HN:=hid hout
   show Calls _ _ _ _ (Res w0 b vw vm A T n o w (callP (P F) (op,lo,hi) o (A.drop n)))
   clear ih H hout ht hlk0 hc
   go_enter Tryz.func105,Tryz.ntmps105
   go_wp2_with (go_at_call 145;refine (HC.out _ HO.out).mono ?_;intro e w1 h1;rcases h1.told HN.out with ⟨k,rfl,h2⟩|⟨er,rfl,h2⟩<;>clear h1)
   ·go_ret
    exact h2.out
   ·exact ⟨rfl,h2.out⟩
end Go.Proofs.YtkellpcljiodeaaGreatDoor
namespace Go.Proofs.YtkellpcljiodeaaGreatDoor
open Go.ChangeShapes Go.WideShapes Go.ChangeAt Go.RowKit Go.Lib
set_option linter.unusedVariables false
set_option linter.unusedSimpArgs false
set_option maxRecDepth 100000
def Brief (A:List Tk):Prop:=∀ x∈A,x.t.length≤1000000∧x.vs.length≤1000000
theorem Brief.word {A:List Tk} (h:Brief A) (n:Nat):(wordL (A.drop n)).t.length≤1000000∧(wordL (A.drop n)).vs.length≤1000000:=by
 cases hd:A.drop n with
 | nil=>simp [wordL,Tk.zero]
 | cons x r=>exact h x (List.mem_of_mem_drop (i:=n) (by rw [hd];simp))
theorem word_at {w0:Wz} {w:World} {b n o:Nat} {vw vm vt:Value} {A:List Tk} {T:List Nd} (H:Rr w0 b vw vm A T n o vt w) (hn:n≤A.length) (hA:A.length≤200000) {k xk xn ln cl:Int} {t xs:List UInt8} (hx:wordL (A.drop n)=⟨k,t,xk,xn,xs,ln,cl⟩) :
 Calls Tryz.prog 101 #[.pointer (some ⟨b,0,none⟩)] w fun e w'=>e=.returned (.agg #[.int .u8 k,.string (st t),.int .u8 xk,.int .i64 xn,.string (st xs),.int .i64 ln,.int .i64 cl])∧Old w w':=by
 have h:=next_any H hn hA
 rw [hx] at h
 exact h
theorem at_any {w0:Wz} {w:World} {b n o F:Nat} {vw vm vt:Value} {A:List Tk} {T:List Nd} (ih:∀ S G,G≤F→Lv (wz w0 S) b vw vm A G) (H:Rr w0 b vw vm A T n o vt w) (hn:n≤A.length) (hA:A.length≤200000) (hB:Brief A) (ho:o≤12) (hTn:T.length≤n)
 (hout:atomP (P F) o (A.drop n)≠.out):Calls Tryz.prog 63 #[.pointer (some ⟨b,0,none⟩)] w (Res w0 b vw vm A T n o w (atomP (P F) o (A.drop n))):=by
 obtain ⟨hb1,hb2⟩:=hB.word n
 obtain ⟨x,hx⟩:∃ x,wordL (A.drop n)=x:=⟨_,rfl⟩
 have hx0:=hx
 obtain ⟨k,t,xk,xn,xs,ln,cl⟩:=x
 have hw:=word_at H hn hA hx
 have hlt:k≠0→n<A.length:=fun h=>drop_lt (word_ne (l:=A.drop n) (by rw [hx];exact h))
 have HX:=hid (fun W (h:Old w W)=>H.oldw h)
 have HA:=hid (show ∀ w1,Old w w1→Old w (w1.alloc (.cells #[.int .u8 k,.string (st t),.int .u8 xk,.int .i64 xn,.string (st xs),.int .i64 ln,.int .i64 cl] 57)) from fun w1 h=>h.alloc _)
 unfold atomP at hout ⊢
 rw [drop_tl] at *
 by_cases h456:k=4∨k=5∨k=6
 ·rw [if_pos (by rw [hx];exact h456),hx]
  have hl:=hid (show ∀ W,Old w W→Calls Tryz.prog 102 #[.pointer (some ⟨b,0,none⟩),.agg #[.int .u8 xk,.int .i64 xn,.string (st xs)]] W (Res w0 b vw vm A T n o w (.ok [ndLit xk xn xs ⟨k,t,xk,xn,xs,ln,cl⟩] (A.drop (n+1)))) from fun W h=>by
   have:=literal_any (H.oldw h) (hlt (by omega)) hA hTn xk xn xs (by rw [hx] at hb2;exact hb2)
   rw [hx] at this
   exact this.mono (fun e w' hh=>Res.pre (Cg.ofOld h) hh))
  clear ih H hout hx hx0 hb1 hb2 hlt
  rcases h456 with rfl|rfl|rfl
  all_goals
   go_enter Tryz.func63,Tryz.ntmps63
   go_wp2_with (first
    | (go_at_call 101;refine hw.mono ?_;rintro e w1 ⟨rfl,o1⟩;have O1:=hid (HA.out _ o1);clear o1)
    | (go_at_call 102;refine (hl.out _ O1.out).mono ?_;intro e w2 h1;rcases h1.told ok_in with ⟨k,rfl,h2⟩|⟨er,rfl,h2⟩<;>clear h1))
   ·go_ret
    exact h2.out
   ·exact ⟨rfl,h2.out⟩
 rw [if_neg (by rw [hx];exact h456)] at hout ⊢
 by_cases k2:k=2
 ·rw [if_pos (by rw [hx];exact k2),hx]
  subst k2
  have hcl:=hid (fun W=>clone_any (st t) W (by rw [hx] at hb1;exact hb1))
  have hl:=hid (show ∀ W,Old w W→Calls Tryz.prog 103 #[.pointer (some ⟨b,0,none⟩),.agg (ncl 2 0 0 [] t (.slice none 0 0) 0 0)] W (Res w0 b vw vm A T n o w (.ok [⟨2,0,0,[],t,[],ln,cl⟩] (A.drop (n+1)))) from fun W h=>by
   have:=leaf_any (H.oldw h) (hlt (by omega)) hA hTn 2 0 0 [] t
   rw [hx] at this
   exact this.mono (fun e w' hh=>Res.pre (Cg.ofOld h) hh))
  clear ih H hout hx hx0 hb1 hb2 hlt
  go_enter Tryz.func63,Tryz.ntmps63
  go_wp2_with (first
   | (go_at_call 101;refine hw.mono ?_;rintro e w1 ⟨rfl,o1⟩;have O1:=hid (HA.out _ o1);clear o1)
   | (go_at_call 104;refine (hcl.out _).mono ?_;rintro e w3 ⟨rfl,o3⟩;replace O1:=hid (O1.out.trans o3);clear o3)
   | (go_at_call 103;refine (hl.out _ O1.out).mono ?_;intro e w2 h1;rcases h1.told ok_in with ⟨k,rfl,h2⟩|⟨er,rfl,h2⟩<;>clear h1))
  ·go_ret
   exact h2.out
  ·exact ⟨rfl,h2.out⟩
 rw [if_neg (by rw [hx];exact k2)] at hout ⊢
 by_cases k3:k=3
 ·rw [if_pos (by rw [hx];exact k3),hx]
  subst k3
  have hl:=hid (show ∀ W,Old w W→Calls Tryz.prog 103 #[.pointer (some ⟨b,0,none⟩),.agg (ncl 3 0 0 [] [] (.slice none 0 0) 0 0)] W (Res w0 b vw vm A T n o w (.ok [⟨3,0,0,[],[],[],ln,cl⟩] (A.drop (n+1)))) from fun W h=>by
   have:=leaf_any (H.oldw h) (hlt (by omega)) hA hTn 3 0 0 [] []
   rw [hx] at this
   exact this.mono (fun e w' hh=>Res.pre (Cg.ofOld h) hh))
  clear ih H hout hx hx0 hb1 hb2 hlt
  go_enter Tryz.func63,Tryz.ntmps63
  go_wp2_with (first
   | (go_at_call 101;refine hw.mono ?_;rintro e w1 ⟨rfl,o1⟩;have O1:=hid (HA.out _ o1);clear o1)
   | (go_at_call 103;refine (hl.out _ O1.out).mono ?_;intro e w2 h1;rcases h1.told ok_in with ⟨k,rfl,h2⟩|⟨er,rfl,h2⟩<;>clear h1))
  ·go_ret
   exact h2.out
  ·exact ⟨rfl,h2.out⟩
 rw [if_neg (by rw [hx];exact k3)] at hout ⊢
 by_cases k1:k=1
 ·rw [if_pos (by rw [hx];exact k1)] at hout ⊢
  have hlt':=hlt (by omega)
  subst k1
  have HN:=hid hout
  have hl:=hid (show ∀ W,Old w W→Calls Tryz.prog 105 #[.pointer (some ⟨b,0,none⟩),.string (st t)] W (Res w0 b vw vm A T n o w (nameP (P F) o (A.drop n))) from fun W h=>
   (nam_any ih (H.oldw h) hlt' hA ho hTn (by rw [hx]) hout).mono (fun e w' hh=>Res.pre (Cg.ofOld h) hh))
  clear ih H hout hx hx0 hb1 hb2 hlt
  go_enter Tryz.func63,Tryz.ntmps63
  go_wp2_with (first
   | (go_at_call 101;refine hw.mono ?_;rintro e w1 ⟨rfl,o1⟩;have O1:=hid (HA.out _ o1);clear o1)
   | (go_at_call 105;refine (hl.out _ O1.out).mono ?_;intro e w2 h1;rcases h1.told HN.out with ⟨k,rfl,h2⟩|⟨er,rfl,h2⟩<;>clear h1))
  ·go_ret
   exact h2.out
  ·exact ⟨rfl,h2.out⟩
 rw [if_neg (by rw [hx];exact k1)] at hout ⊢
 by_cases k7:k=7∧t=[40]
 ·rw [if_pos (by rw [hx];exact k7)] at hout ⊢
  have hlt':=hlt (by omega)
  obtain ⟨rfl,rfl⟩:=k7
  have HN:=hid hout
  have hl:=hid (show ∀ W,Old w W→Calls Tryz.prog 106 #[.pointer (some ⟨b,0,none⟩)] W (Res w0 b vw vm A T n o w (groupP (P F) o (A.drop n))) from fun W h=>
   (group_any (ih w0.S F (Nat.le_refl _)) (H.oldw h) hlt' hA ho hTn hout).mono (fun e w' hh=>Res.pre (Cg.ofOld h) hh))
  clear ih H hout hx hx0 hb1 hb2 hlt
  go_enter Tryz.func63,Tryz.ntmps63
  go_wp2_with (first
   | (go_at_call 101;refine hw.mono ?_;rintro e w1 ⟨rfl,o1⟩;have O1:=hid (HA.out _ o1);clear o1)
   | (go_at_call 106;refine (hl.out _ O1.out).mono ?_;intro e w2 h1;rcases h1.told HN.out with ⟨k,rfl,h2⟩|⟨er,rfl,h2⟩<;>clear h1))
  ·go_ret
   exact h2.out
  ·exact ⟨rfl,h2.out⟩
 rw [if_neg (by rw [hx];exact k7)] at hout ⊢
 have HD:=hid (show ∀ w',Old w w'→Res w0 b vw vm A T n o w (.no 4 (A.drop n)) (pan 4) w' from fun w' h=>⟨n,rfl,hn,rfl,Cg.ofOld h,o,vt,H.rd.old h⟩)
 have k4:¬ k=4:=fun e=>h456 (Or.inl e)
 have k5:¬ k=5:=fun e=>h456 (Or.inr (Or.inl e))
 have k6:¬ k=6:=fun e=>h456 (Or.inr (Or.inr e))
 clear ih H hout hx hx0 hb1 hb2 hlt h456
 by_cases k7':k=7
 ·have q:(t==[40])=false:=beq_false_of_ne (fun e=>k7 ⟨k7',e⟩)
  subst k7'
  clear k7
  go_enter Tryz.func63,Tryz.ntmps63
  go_wp2_with (first
   | (go_at_call 101;refine hw.mono ?_;rintro e w1 ⟨rfl,o1⟩;have O1:=hid (HA.out _ o1);clear o1)
   | (go_at_call 107;refine (give_any _ _ _).mono ?_;rintro e w3 ⟨rfl,rfl⟩))
  exact ⟨rfl,HD.out _ O1.out⟩
 ·clear k7
  go_enter Tryz.func63,Tryz.ntmps63
  go_wp2_with (first
   | (go_at_call 101;refine hw.mono ?_;rintro e w1 ⟨rfl,o1⟩;have O1:=hid (HA.out _ o1);clear o1)
   | (go_at_call 107;refine (give_any _ _ _).mono ?_;rintro e w3 ⟨rfl,rfl⟩))
  exact ⟨rfl,HD.out _ O1.out⟩
theorem lv_step {w0:Wz} {b F:Nat} {vw vm:Value} {A:List Tk} (ih:∀ S G,G≤F→Lv (wz w0 S) b vw vm A G) (hA:A.length≤200000) (hB:Brief A):Lv w0 b vw vm A (F+1):=by
 intro L o n T vt w hL ho hn hTn H hout
 have ih0:∀ G,G≤F→Lv w0 b vw vm A G:=fun G h=>ih w0.S G h
 rw [P_lvl] at hout ⊢
 by_cases h7:L=7
 ·subst h7
  rw [if_pos rfl] at hout ⊢
  exact at_any ih H hn hA hB ho hTn hout
 rw [if_neg h7] at hout ⊢
 by_cases h2:L=2
 ·subst h2
  rw [if_pos (Or.inl rfl)] at hout ⊢
  exact not_fwd hout (not_any (ih0 F (Nat.le_refl _)) H hn hA ho hTn hout)
 by_cases h6:L=6
 ·subst h6
  rw [if_pos (Or.inr rfl)] at hout ⊢
  exact minus_fwd hout (minus_any (ih0 F (Nat.le_refl _)) H hn hA ho hTn hout)
 rw [if_neg (by omega)] at hout ⊢
 by_cases h3:L=3
 ·subst h3
  rw [if_pos rfl] at hout ⊢
  exact cmp_any (ih0 F (Nat.le_refl _)) H hn hA ho hTn hout
 rw [if_neg h3] at hout ⊢
 have hc:=chain_any ih0 H hn hA ho hTn (L:=L) (by omega) rfl hout
 obtain rfl|rfl|rfl|rfl:L=0∨L=1∨L=4∨L=5:=by omega
 ·exact or_fwd hout hc
 ·exact and_fwd hout hc
 ·exact sum_fwd hout hc
 ·exact prod_fwd hout hc
theorem lv_any {w0:Wz} {b:Nat} {vw vm:Value} {A:List Tk} (hA:A.length≤200000) (hB:Brief A):∀ (F:Nat) (S:Nat→Prop) (G:Nat),G≤F→Lv (wz w0 S) b vw vm A G
 | 0,S,G,h=>by
   obtain rfl:G=0:=by omega
   intro L o n T vt w hL ho hn hTn H hout
   exact absurd rfl hout
 | F+1,S,G,h=>by
   rcases Nat.lt_or_ge G (F+1) with hlt|hge
   ·exact lv_any hA hB F S G (by omega)
   ·obtain rfl:G=F+1:=by omega
    exact lv_step (w0:=wz w0 S) (fun S' G' h'=>lv_any hA hB F S' G' h') hA hB
end Go.Proofs.YtkellpcljiodeaaGreatDoor
