/- The document's own numbers: quotients: memory, and the plain facts of a long division. -/
import Derived.Deep.AppendLies
import Derived.OneCell
import Derived.Test.YtkellpcljiodeaaGreatDoorRO
namespace Go.Proofs.YtkellpcljiodeaaGreatDoor
open Go.ChangeShapes Go.WideShapes Go.ChangeAt Go.RowKit
set_option linter.unusedVariables false
structure Qo0 (w:World) (Ba Bb:Nat) (na nb:Bool) (va vb:Value) (wr:World):Prop where
 x:Two wr w.heap.size (.bool na) va
 y:Two wr (w.heap.size+1) (.bool nb) vb
 r1:Two wr (w.heap.size+1+1) (.bool false) (.slice none 0 0)
 r2:Two wr (w.heap.size+1+1+1) (.bool false) (.slice none 0 0)
 a:Two wr Ba (.bool false) va
 b:Two wr Bb (.bool false) vb
 old:Old w wr
theorem Qo0.step {w:World} {Ba Bb:Nat} {na nb:Bool} {va vb:Value} {wr w':World} (h:Qo0 w Ba Bb na nb va vb wr) (ho:Old wr w'):Qo0 w Ba Bb na nb va vb w':=
 ⟨h.x.old ho,h.y.old ho,h.r1.old ho,h.r2.old ho,h.a.old ho,h.b.old ho,h.old.trans ho⟩
theorem Qo0.far {w:World} {Ba Bb:Nat} {na nb:Bool} {va vb:Value} {wr:World} (h:Qo0 w Ba Bb na nb va vb wr) {p:Addr} (hp:w.heap.size+1+1+1<p.block) (ha:Ba≠p.block) (hb:Bb≠p.block) (u:Value):Qo0 w Ba Bb na nb va vb (wr.setCell p u):=
 ⟨h.x.far (by omega) u,h.y.far (by omega) u,h.r1.far (by omega) u,h.r2.far (by omega) u,h.a.far ha u,h.b.far hb u,h.old.setCell (by omega) u⟩
theorem six_blocks (w:World) (u1 v1 u2 v2 u3 v3 u4 v4 u5 v5 u6 v6:Value) :
 Two ((((((w.alloc (.cells #[u1,v1] 120)).alloc (.cells #[u2,v2] 120)).alloc (.cells #[u3,v3] 120)).alloc (.cells #[u4,v4] 120)).alloc (.cells #[u5,v5] 120)).alloc (.cells #[u6,v6] 120)) w.heap.size u1 v1∧
 Two ((((((w.alloc (.cells #[u1,v1] 120)).alloc (.cells #[u2,v2] 120)).alloc (.cells #[u3,v3] 120)).alloc (.cells #[u4,v4] 120)).alloc (.cells #[u5,v5] 120)).alloc (.cells #[u6,v6] 120)) (w.heap.size+1) u2 v2∧
 Two ((((((w.alloc (.cells #[u1,v1] 120)).alloc (.cells #[u2,v2] 120)).alloc (.cells #[u3,v3] 120)).alloc (.cells #[u4,v4] 120)).alloc (.cells #[u5,v5] 120)).alloc (.cells #[u6,v6] 120)) (w.heap.size+1+1) u3 v3∧
 Two ((((((w.alloc (.cells #[u1,v1] 120)).alloc (.cells #[u2,v2] 120)).alloc (.cells #[u3,v3] 120)).alloc (.cells #[u4,v4] 120)).alloc (.cells #[u5,v5] 120)).alloc (.cells #[u6,v6] 120)) (w.heap.size+1+1+1) u4 v4∧
 Two ((((((w.alloc (.cells #[u1,v1] 120)).alloc (.cells #[u2,v2] 120)).alloc (.cells #[u3,v3] 120)).alloc (.cells #[u4,v4] 120)).alloc (.cells #[u5,v5] 120)).alloc (.cells #[u6,v6] 120)) (w.heap.size+1+1+1+1) u5 v5∧
 Two ((((((w.alloc (.cells #[u1,v1] 120)).alloc (.cells #[u2,v2] 120)).alloc (.cells #[u3,v3] 120)).alloc (.cells #[u4,v4] 120)).alloc (.cells #[u5,v5] 120)).alloc (.cells #[u6,v6] 120)) (w.heap.size+1+1+1+1+1) u6 v6∧
 Old w ((((((w.alloc (.cells #[u1,v1] 120)).alloc (.cells #[u2,v2] 120)).alloc (.cells #[u3,v3] 120)).alloc (.cells #[u4,v4] 120)).alloc (.cells #[u5,v5] 120)).alloc (.cells #[u6,v6] 120)):=by
 have s1:(w.alloc (.cells #[u1,v1] 120)).heap.size=w.heap.size+1:=by simp
 have s2:((w.alloc (.cells #[u1,v1] 120)).alloc (.cells #[u2,v2] 120)).heap.size=w.heap.size+1+1:=by simp
 have s3:(((w.alloc (.cells #[u1,v1] 120)).alloc (.cells #[u2,v2] 120)).alloc (.cells #[u3,v3] 120)).heap.size=w.heap.size+1+1+1:=by simp
 have s4:((((w.alloc (.cells #[u1,v1] 120)).alloc (.cells #[u2,v2] 120)).alloc (.cells #[u3,v3] 120)).alloc (.cells #[u4,v4] 120)).heap.size=w.heap.size+1+1+1+1:=by simp
 have s5:(((((w.alloc (.cells #[u1,v1] 120)).alloc (.cells #[u2,v2] 120)).alloc (.cells #[u3,v3] 120)).alloc (.cells #[u4,v4] 120)).alloc (.cells #[u5,v5] 120)).heap.size=w.heap.size+1+1+1+1+1:=by simp
 have t2:=Two.new (w.alloc (.cells #[u1,v1] 120)) u2 v2
 have t3:=Two.new ((w.alloc (.cells #[u1,v1] 120)).alloc (.cells #[u2,v2] 120)) u3 v3
 have t4:=Two.new (((w.alloc (.cells #[u1,v1] 120)).alloc (.cells #[u2,v2] 120)).alloc (.cells #[u3,v3] 120)) u4 v4
 have t5:=Two.new ((((w.alloc (.cells #[u1,v1] 120)).alloc (.cells #[u2,v2] 120)).alloc (.cells #[u3,v3] 120)).alloc (.cells #[u4,v4] 120)) u5 v5
 have t6:=Two.new (((((w.alloc (.cells #[u1,v1] 120)).alloc (.cells #[u2,v2] 120)).alloc (.cells #[u3,v3] 120)).alloc (.cells #[u4,v4] 120)).alloc (.cells #[u5,v5] 120)) u6 v6
 rw [s1] at t2
 rw [s2] at t3
 rw [s3] at t4
 rw [s4] at t5
 rw [s5] at t6
 exact ⟨(((((Two.new w u1 v1).alloc _).alloc _).alloc _).alloc _).alloc _,(((t2.alloc _).alloc _).alloc _).alloc _,((t3.alloc _).alloc _).alloc _,(t4.alloc _).alloc _,t5.alloc _,t6,((((((Old.refl w).alloc _).alloc _).alloc _).alloc _).alloc _).alloc _⟩
theorem owns_old {w w':World} {base:Nat} {v:Value} {n:Nat} {xs:List Value} (h:w.ownsRow base 3 1 v n xs) (ho:Old w w'):w'.ownsRow base 3 1 v n xs:=by
 refine ⟨h.1,?_⟩
 rcases h.2 with h2|⟨g,cap,cur,hv,hg,hh,r⟩
 ·exact Or.inl h2
 ·refine Or.inr ⟨g,cap,cur,hv,hg,?_,r⟩
  rcases Nat.lt_or_ge g w.heap.size with h1|h1
  ·exact (ho.block g h1).trans hh
  ·rw [Array.getElem?_eq_none h1] at hh;cases hh
def Off (o:Option Addr) (b:Nat):Prop:=∀ g,o=some ⟨g,0,none⟩→g≠b
theorem Rd.far {w:World} {o:Option Addr} {k c:Nat} {ds:List Int} (h:Rd w (.slice o k c) ds) {p:Addr} (hp:Off o p.block) (u:Value):Rd (w.setCell p u) (.slice o k c) ds:=by
 obtain ⟨oa,cap,e,h1,h2,h3⟩:=h
 simp only [Value.slice.injEq] at e
 obtain ⟨rfl,rfl,rfl⟩:=e
 refine ⟨o,c,rfl,h1,h2,fun j hj=>?_⟩
 obtain ⟨g,rfl,hg,hc⟩:=h3 j hj
 refine ⟨g,rfl,by simp [World.setCell];exact hg,?_⟩
 rw [World.cell?_setCell_other _ _ _ _ (by intro e;exact hp g rfl (congrArg Addr.block e).symm)]
 exact hc
structure QoW (w:World) (Ba Bb Bq Br:Nat) (na nb:Bool) (va vb:Value) (n:Nat) (ql:List Int) (R:Nat) (wr:World):Prop where
 m:Qo0 w Ba Bb na nb va vb wr
 q:wr.ownsRow w.heap.size 3 1 (.slice (some ⟨Bq,0,none⟩) n n) n (ql.map (Value.int .i64))
 r:∃ o c,Two wr Br (.bool false) (.slice o (dig R).length c)∧Rd wr (.slice o (dig R).length c) (dig R)
structure Lies (w:World) (Ba Bb Bq Br:Nat):Prop where
 q0:w.heap.size+1+1+1<Bq
 qa:Ba≠Bq
 qb:Bb≠Bq
 r0:w.heap.size+1+1+1<Br
 ra:Ba≠Br
 rb:Bb≠Br
 qr:Bq≠Br
theorem QoW.step {w:World} {Ba Bb Bq Br:Nat} {na nb:Bool} {va vb:Value} {n:Nat} {ql:List Int} {R:Nat} {wr w':World} (h:QoW w Ba Bb Bq Br na nb va vb n ql R wr) (ho:Old wr w'):QoW w Ba Bb Bq Br na nb va vb n ql R w':=by
 obtain ⟨o,c,h1,h2⟩:=h.r
 exact ⟨h.m.step ho,owns_old h.q ho,o,c,h1.old ho,h2.old ho⟩
theorem QoW.setR {w:World} {Ba Bb Bq Br:Nat} {na nb:Bool} {va vb:Value} {n:Nat} {ql:List Int} {R R':Nat} {wr:World} {o:Option Addr} {c:Nat} (L:Lies w Ba Bb Bq Br) (h:QoW w Ba Bb Bq Br na nb va vb n ql R wr) (hr:Rd wr (.slice o (dig R').length c) (dig R')) :
 QoW w Ba Bb Bq Br na nb va vb n ql R' ((wr.setCell ⟨Br,0,none⟩ (.bool false)).setCell ⟨Br,1,none⟩ (.slice o (dig R').length c)):=by
 obtain ⟨o',c',h1,h2⟩:=h.r
 refine ⟨(h.m.far (p:=⟨Br,0,none⟩) L.r0 L.ra L.rb _).far (p:=⟨Br,1,none⟩) L.r0 L.ra L.rb _,?_,o,c,h1.set _ _,h1.rd2 hr _ _⟩
 refine ownsRow_setCell_other (ownsRow_setCell_other h.q ?_ _) ?_ _
 ·show some Bq≠some Br
  intro e;exact L.qr (Option.some.inj e)
 ·show some Bq≠some Br
  intro e;exact L.qr (Option.some.inj e)
theorem QoW.setQ {w:World} {Ba Bb Bq Br:Nat} {na nb:Bool} {va vb:Value} {n:Nat} {ql:List Int} {R:Nat} {wr:World} {o:Option Addr} {c:Nat} (L:Lies w Ba Bb Bq Br) (h:QoW w Ba Bb Bq Br na nb va vb n ql R wr) (h1:Two wr Br (.bool false) (.slice o (dig R).length c)) (h2:Rd wr (.slice o (dig R).length c) (dig R)) (hoff:Off o Bq) (k:Nat) (d:Int) :
 QoW w Ba Bb Bq Br na nb va vb n (ql.set k d) R (wr.setCell ⟨Bq,k,none⟩ (.int .i64 d)):=by
 refine ⟨h.m.far (p:=⟨Bq,k,none⟩) L.q0 L.qa L.qb _,?_,o,c,h1.far (by show Br≠Bq;exact fun e=>L.qr e.symm) _,h2.far (p:=⟨Bq,k,none⟩) hoff _⟩
 rw [List.map_set]
 exact (h.q.stored k _).1
def wv (l:List Int) (k:Nat):Nat:=(val (l.drop k)).toNat
theorem wv_int {l:List Int} (hl:Dg l) (k:Nat):(wv l k:Int)=val (l.drop k):=by
 have:=(val_drop_le hl k).1
 unfold wv;omega
theorem wv_next {l:List Int} (hl:Dg l) (k:Nat) (hk:k<l.length):(wv l k:Int)=l.getD k 0+10000*wv l (k+1):=by
 rw [wv_int hl,wv_int hl];exact val_drop_succ l k hk
theorem div_digit (d V b:Nat) (hb:0<b) (hd:d<10000):(d+10000*V)/b=(d+10000*(V%b))/b+10000*(V/b)∧(d+10000*V)%b=(d+10000*(V%b))%b∧(d+10000*(V%b))/b<10000:=by
 have e:V=V%b+b*(V/b):=(Nat.mod_add_div V b).symm
 have hm:=Nat.mod_lt V hb
 generalize V/b=q at *
 generalize V%b=r at *
 subst e
 have e2:d+10000*(r+b*q)=(d+10000*r)+b*(10000*q):=by rw [Nat.mul_add,Nat.mul_left_comm];omega
 rw [e2,Nat.add_mul_div_left _ _ hb,Nat.add_mul_mod_self_left]
 refine ⟨rfl,rfl,?_⟩
 rw [Nat.div_lt_iff_lt_mul hb]
 have:10000*r+10000≤10000*b:=by omega
 omega
theorem drop_set (l:List Int) (k:Nat) (d:Int) (hk:k<l.length):(l.set k d).drop k=d::l.drop (k+1):=by
 rw [List.drop_eq_getElem_cons (by simpa using hk),List.getElem_set_self]
 congr 1
 rw [List.drop_set_of_lt (by omega)]
theorem dg_set {l:List Int} (h:Dg l) (k:Nat) {d:Int} (h0:0≤d) (h1:d<10000):Dg (l.set k d):=by
 intro x hx
 rcases List.mem_or_eq_of_mem_set hx with hx|rfl
 ·exact h x hx
 ·exact ⟨h0,h1⟩
def QI (al:List Int) (b:Nat) (k:Nat) (ql:List Int):Prop:=ql.length=al.length∧Dg ql∧val (ql.drop k)=((wv al k/b:Nat):Int)
theorem QI.next {al:List Int} {b k:Nat} {ql:List Int} (ha:Dg al) (hb:0<b) (hk:k<al.length) (h:QI al b (k+1) ql) {T:Int} (hT:T=(((al.getD k 0).toNat+10000*(wv al (k+1)%b))/b:Nat)):QI al b k (ql.set k T):=by
 obtain ⟨h1,h2,h3⟩:=h
 have hg:=dg_getD ha k
 have hd:=div_digit (al.getD k 0).toNat (wv al (k+1)) b hb (by omega)
 have hw:=wv_next ha k hk
 have e:wv al k=(al.getD k 0).toNat+10000*wv al (k+1):=by omega
 refine ⟨by rw [List.length_set];exact h1,dg_set h2 k (by rw [hT];exact Int.natCast_nonneg _) (by rw [hT];exact Int.ofNat_lt.2 hd.2.2),?_⟩
 rw [drop_set ql k T (by omega)]
 show T+10000*val (ql.drop (k+1))=_
 rw [h3,e,hd.1,hT,Int.natCast_add,Int.natCast_mul]
 rfl
theorem QI.rest {al:List Int} {b k:Nat} (ha:Dg al) (hb:0<b) (hk:k<al.length):wv al k%b=((al.getD k 0).toNat+10000*(wv al (k+1)%b))%b:=by
 have hg:=dg_getD ha k
 have hd:=div_digit (al.getD k 0).toNat (wv al (k+1)) b hb (by omega)
 have hw:=wv_next ha k hk
 have e:wv al k=(al.getD k 0).toNat+10000*wv al (k+1):=by omega
 rw [e,hd.2.1]
theorem QI.zero {al:List Int} {b:Nat} {n:Nat} (hn:n=al.length):QI al b n (List.replicate n 0):=by
 refine ⟨by simp [hn],fun d hd=>by rw [(List.mem_replicate.1 hd).2];omega,?_⟩
 unfold wv
 rw [List.drop_eq_nil_of_le (by simp),List.drop_eq_nil_of_le (by omega)]
 simp [val]
end Go.Proofs.YtkellpcljiodeaaGreatDoor
