/- The document's own numbers: quotients and what is left, of whole numbers; rounded to the. Layer vtext: the bytes of a text, plain. the document's digits. -/
import Derived.Test.YtmkmafkkpigfpaaGreatDoorRL
set_option maxHeartbeats 6400000
namespace Go.Proofs.YtmkmafkkpigfpaaGreatDoor
open Go.ChangeShapes Go.WideShapes Go.ChangeAt Go.RowKit
set_option linter.unusedVariables false
def RetQI (w:World) (q r:Int) (e:Ending) (w':World):Prop:=∃ x y,e=.returned (.tuple #[x,y])∧RN w' x q∧RN w' y r∧Old w w'
theorem sm_k {n:Int} {k:Nat} (h:(n.natAbs:Int)<p10 k) (hk:k≤900):Sm 900 n:=Nat.le_trans (dig_len h) hk
theorem wv_zero (n:Nat):wv (dig n) 0=n:=by
 unfold wv
 rw [List.drop_zero,dig_val,Int.toNat_natCast]
theorem small_lo {t:Int} (h0:0≤t) (h1:t≤9999):Lo t:=by
 have:Lo 9999:=i64_lo (by decide)
 unfold Lo at *
 omega
theorem quoI (a b:Int) (x y:Value) (w:World) (hx:RN w x a) (hy:RN w y b) (ha:Lo a) (hb:Lo b) (h0:¬ b=0):Calls Tryz.prog 140 #[x,y] w (RetQI w (a.tdiv b) (a.tmod b)):=by
 obtain ⟨va,rfl,ra⟩:=hx
 obtain ⟨vb,rfl,rb⟩:=hy
 obtain ⟨oa,ca,rfl,_⟩:=id ra
 obtain ⟨ob,cb,rfl,_⟩:=id rb
 have la:(dig a.natAbs).length≤19:=dig_len ha
 have hbl:Lo (b.natAbs:Int):=by unfold Lo at *;rw [Int.natAbs_natCast];exact hb
 have h19:=p10_19
 have hprod:∀ t:Int,0≤t→t≤9999→0≤t*(b.natAbs:Int)∧t*(b.natAbs:Int)≤9999*(b.natAbs:Int):=fun t h1 h2=>⟨Int.mul_nonneg h1 (by omega),Int.mul_le_mul_of_nonneg_right h2 (by omega)⟩
 have hbp:(b.natAbs:Int)<p10 19:=hb
 have h:=quo_walk2 (decide (a<0)) (decide (b<0)) oa ob (dig a.natAbs).length ca (dig b.natAbs).length cb w (dig a.natAbs) b.natAbs _ _ _ _ ra (rn_nat rb) rfl (dig_dg _) (by omega) (by omega)
  (fun t W h1 h2=>ofI t W ⟨by omega,by omega⟩)
  (fun t W z h1 h2 k1 k2=>mulI t b.natAbs z _ W k1 k2 (small_lo h1 h2) hbl)
  (fun t R W z y h1 h2 h3 k1 k2=>by
    have:=hprod t h1 h2
    exact cmpI _ _ z y W k1 k2 (sm_k (k:=20) (by rw [h19];omega) (by omega)) (sm_k (k:=20) (by rw [h19];omega) (by omega)) (sm_k (k:=20) (by rw [h19];omega) (by omega)))
  (fun t R W z y h1 h2 h3 k1 k2=>by
    have:=hprod t h1 h2
    exact subI _ _ y z W k1 k2 (sm_k (k:=20) (by rw [h19];omega) (by omega)) (sm_k (k:=20) (by rw [h19];omega) (by omega)))
  (fun R h=>Nat.le_trans (dig_len (k:=20) (by rw [h19];omega)) (by omega))
  (fun W v ql hq hv=>by
    have ht:=trim_any (decide (a<0) != decide (b<0)) ql v W hv hq.2.1 (by rw [hq.1];omega)
    have e:=hq.2.2
    rw [List.drop_zero,wv_zero] at e
    rw [e,Int.toNat_natCast] at ht
    exact ht)
  (fun W v hv=>by
    have ht:=trim_any (decide (a<0)) _ v W hv (dig_dg _) (by
     rw [wv_zero]
     exact Nat.le_trans (dig_mono (Nat.mod_le a.natAbs b.natAbs)) (by omega))
    rw [dig_val,Int.toNat_natCast,wv_zero] at ht
    exact ht)
 refine h.mono fun e w' ⟨v1,v2,he,r1,r2,ho⟩=>⟨_,_,he,⟨v1,?_,?_⟩,⟨v2,?_,?_⟩,ho⟩
 ·rw [sgZ_sign,sgZ_div]
 ·rw [Int.natAbs_tdiv];exact r1
 ·have e1:=tmod_side a b
  have e2:(a.tmod b).natAbs=a.natAbs%b.natAbs:=Int.natAbs_tmod a b
  have e3:(decide (a<0)&&decide (¬ ((a.natAbs%b.natAbs:Nat):Int)=0))=decide (a.tmod b<0):=by
   rw [←e2,Bool.eq_iff_iff,Bool.and_eq_true,decide_eq_true_iff,decide_eq_true_iff,decide_eq_true_iff]
   by_cases h:0≤a
   ·have:=e1.1 h;omega
   ·have:=e1.2 (by omega);omega
  rw [e3]
 ·rw [Int.natAbs_tmod];exact r2
end Go.Proofs.YtmkmafkkpigfpaaGreatDoor
namespace Go.Proofs.YtmkmafkkpigfpaaGreatDoor
open Go.ChangeShapes Go.WideShapes Go.ChangeAt Go.RowKit Go.Lib
set_option linter.unusedVariables false
set_option linter.unusedSimpArgs false
set_option maxRecDepth 100000
end Go.Proofs.YtmkmafkkpigfpaaGreatDoor
namespace Go.Proofs.YtmkmafkkpigfpaaGreatDoor
open Go.ChangeShapes Go.WideShapes Go.ChangeAt Go.RowKit
set_option linter.unusedVariables false
def isNum (c:Array Value):Prop:=∃ (b:Bool) (oa:Option Addr) (l k:Nat),c=#[.bool b,.slice oa l k]
theorem Rd.oldN {w w':World} {v:Value} {ds:List Int} (ho:OldN 131 isNum w w') (h:Rd w v ds):Rd w' v ds:=by
 obtain ⟨oa,cap,rfl,h1,h2,h3⟩:=h
 refine ⟨oa,cap,rfl,h1,h2,fun j hj=>?_⟩
 obtain ⟨g,rfl,hg,hc⟩:=h3 j hj
 refine ⟨g,rfl,Nat.lt_of_lt_of_le hg ho.size,?_⟩
 rcases ho.block g hg with hb|⟨c,c',hb,hn,_,_⟩
 ·exact (World.cell?_of_block (a:=⟨g,j,none⟩) (w:=w) hb).trans hc
 ·exfalso
  obtain ⟨g',e,_,hc0⟩:=h3 0 (by omega)
  have:g'=g:=by simpa using e.symm
  subst this
  obtain ⟨b,oa,l,k,rfl⟩:=hn
  simp [World.cell?,hb] at hc0
theorem RN.oldN {w w':World} {x:Value} {n:Int} (ho:OldN 131 isNum w w') (h:RN w x n):RN w' x n:=by
 obtain ⟨v,e,hr⟩:=h
 exact ⟨v,e,Rd.oldN ho hr⟩
structure SpN where
 says:Value→World→Prop
 mono:∀ v x y,OldN 131 isNum x y→says v x→says v y
def SpN.eq (u:Value):SpN:=⟨fun v _=>v=u,fun _ _ _ _ h=>h⟩
def SpN.rn (n:Int):SpN:=⟨fun v w=>RN w v n,fun _ _ _ ho h=>RN.oldN ho h⟩
def SpN.any:SpN:=⟨fun _ _=>True,fun _ _ _ _ h=>h⟩
def spN (l:List SpN) (i:Nat):Value→World→Prop:=(l.getD i SpN.any).says
theorem spN_mono (l:List SpN) (i:Nat) (v:Value) (x y:World) (ho:OldN 131 isNum x y) (h:spN l i v x):spN l i v y:=(l.getD i SpN.any).mono v x y ho h
theorem spN_at {l:List SpN} {i:Nat} {s:SpN} (e:l[i]?=some s) (v:Value) (w:World):spN l i v w=s.says v w:=by
 unfold spN;rw [List.getD_eq_getElem?_getD,e];rfl
theorem spN_rn {l:List SpN} {i:Nat} {n:Int} {v:Value} {w:World} (h:spN l i v w) (e:l[i]?=some (.rn n)):RN w v n:=by
 rw [spN_at e] at h;exact h
theorem in_rnN {l:List SpN} {i:Nat} {n:Int} {v:Value} {w:World} (e:l[i]?=some (.rn n)) (h:RN w v n):spN l i v w:=by
 rw [spN_at e];exact h
def inN (l:List Int) (i:Nat) (c:Array Value) (w:World):Prop:=∀ n,l[i]?=some n→RN w (.agg c) n
theorem inN_mono (l:List Int) (i:Nat) (c:Array Value) (x y:World) (ho:OldN 131 isNum x y) (h:inN l i c x):inN l i c y:=fun n hn=>RN.oldN ho (h n hn)
theorem stepA_num {o:Oper} (hg:o.guard=none) {d:Nat} (hd:o.dst=some d) (ho:o.op=.alloc 131):StepA Tryz.prog #[.bool false,.slice none 0 0] 131 o:=by
 refine ⟨hg,by rw [hd];simp,fun ρ w=>?_⟩
 unfold execOp
 rw [ho]
 go_simp
section
variable {ops:Array Oper} {Φ:Nat→Value→World→Prop} {l:List Int} {a0:Act} {W:World} {i j d s:Nat} {o:Oper} {n:Int}
theorem stepS_num (hg:o.guard=none) (hd:o.dst=none) (ho:o.op=.store 131 (.tmp d) (.tmp s)) (hj:dstOf ops j=d) (he:∃ e∈o.after.toList,Region.binds .any e=true∧e.on=j)
 (hs:∀ (ρ:Operand→Value) (w:World),Deps ops Φ ρ w o.after.toList→RN w (ρ (.tmp s)) n) (hl:l[i]?=some n):StepS Tryz.prog ops Φ (inN l) #[.bool false,.slice none 0 0] 131 isNum a0 W i o j:=by
 refine ⟨hg,hd,he,fun ρ w b hO hr hdp hp hb=>?_⟩
 rw [hj] at hp
 have hn:=hs ρ w hdp
 obtain ⟨na,oa,la,ca,hx⟩:=hn.form
 have T:Two w b (.bool false) (.slice none 0 0):=hb
 have c0:=T.c0
 have c1:=T.c1
 have f0:=T.f 0
 have f1:=T.f 1
 have T2:=T.set (.bool na) (.slice oa la ca)
 refine ⟨#[.bool na,.slice oa la ca],(w.setCell ⟨b,0,none⟩ (.bool na)).setCell ⟨b,1,none⟩ (.slice oa la ca),?_,⟨na,oa,la,ca,rfl⟩,fun m hm=>?_,rfl,rfl,by simp [World.setCell],T2,fun k hk=>?_⟩
 ·unfold execOp
  rw [ho]
  simp only [hp,hx]
  go_simp
 ·rw [hl] at hm
  obtain rfl:=Option.some.inj hm
  rw [hx] at hn
  exact hn
 ·rw [Below.heap_setCell _ _ _ _ hk,Below.heap_setCell _ _ _ _ hk]
end
section
variable {ρ:Operand→Value} {o:Oper} {w:World} {K:Value→World→Prop}
end
end Go.Proofs.YtmkmafkkpigfpaaGreatDoor
namespace Go.Proofs.YtmkmafkkpigfpaaGreatDoor
open Go.ChangeShapes Go.WideShapes Go.ChangeAt Go.RowKit
set_option linter.unusedVariables false
set_option linter.unusedSimpArgs false
set_option maxRecDepth 100000
def SpN.two (a b:Int):SpN:=⟨fun v w=>∃ x y,v=.tuple #[x,y]∧RN w x a∧RN w y b,fun _ _ _ ho h=>by
 obtain ⟨x,y,e,h1,h2⟩:=h
 exact ⟨x,y,e,RN.oldN ho h1,RN.oldN ho h2⟩⟩
theorem spN_two {l:List SpN} {i:Nat} {a b:Int} {v:Value} {w:World} (h:spN l i v w) (e:l[i]?=some (.two a b)):∃ x y,v=.tuple #[x,y]∧RN w x a∧RN w y b:=by
 rw [spN_at e] at h;exact h
theorem in_two {l:List SpN} {i:Nat} {a b:Int} {v:Value} {w:World} (e:l[i]?=some (.two a b)) (h:∃ x y,v=.tuple #[x,y]∧RN w x a∧RN w y b):spN l i v w:=by
 rw [spN_at e];exact h
def al17 (i:Nat):Bool:=i==6||i==7
def st17 (i:Nat):Option Nat:=if i=8 then some 6 else if i=9 then some 7 else none
theorem al17_st (i:Nat) (h:al17 i=true):st17 i=none:=by
 unfold al17 at h
 simp at h
 rcases h with rfl|rfl<;>rfl
theorem st17_some {i j:Nat} (h:st17 i=some j):(i=8∧j=6)∨(i=9∧j=7):=by
 unfold st17 at h
 split at h
 ·left;simp at h;omega
 ·split at h
  ·simp at h;omega
  ·cases h
theorem st17_inj (i i' j:Nat) (h:st17 i=some j) (h':st17 i'=some j):i=i':=by
 rcases st17_some h with ⟨_,_⟩|⟨_,_⟩<;>rcases st17_some h' with ⟨_,_⟩|⟨_,_⟩<;>omega
theorem st17_al (i j:Nat) (h:st17 i=some j):al17 j=true:=by
 rcases st17_some h with ⟨_,rfl⟩|⟨_,rfl⟩<;>rfl
theorem any17 {a b c d e f:SpN} (i:Nat) (v:Value) (w:World) (h:al17 i=true∨(st17 i).isSome=true):spN [a,b,c,d,e,f,.any,.any,.any,.any] i v w:=by
 have hi:i=6∨i=7∨i=8∨i=9:=by
  rcases h with h|h
  ·unfold al17 at h;simp at h;omega
  ·obtain ⟨j,hj⟩:=Option.isSome_iff_exists.1 h
   have:=st17_some hj
   omega
 rcases hi with rfl|rfl|rfl|rfl<;>trivial
section
variable {ρ:Operand→Value} {o:Oper} {w:World} {K:Value→World→Prop}
theorem does_loadN {t:Operand} {b:Nat} {u v:Value} (ho:o.op=.load 131 t) (ht:ρ t=.pointer (some ⟨b,0,none⟩)) (hb:Two w b u v) (h:K (.agg #[u,v]) w):Does Tryz.prog ρ o w K:=by
 have c0:=hb.c0
 have c1:=hb.c1
 refine does_value (v:=.agg #[u,v]) (w':=w) ?_ h
 unfold execOp;rw [ho];simp only [ht]
 go_simp
theorem does_ext0 {t:Operand} {x y:Value} (ho:o.op=.extract t 0) (ht:ρ t=.tuple #[x,y]) (h:K x w):Does Tryz.prog ρ o w K:=by
 refine does_value (v:=x) (w':=w) ?_ h
 unfold execOp;rw [ho];simp only [ht]
 go_simp
theorem does_ext1 {t:Operand} {x y:Value} (ho:o.op=.extract t 1) (ht:ρ t=.tuple #[x,y]) (h:K y w):Does Tryz.prog ρ o w K:=by
 refine does_value (v:=y) (w':=w) ?_ h
 unfold execOp;rw [ho];simp only [ht]
 go_simp
end
theorem RN.two {w2:World} {b:Nat} {x:Bool} {a:Option Addr} {m c:Nat} {n:Int} {nz:Bool} {oz:Option Addr} {lz cz':Nat} (h:Two w2 b (.bool x) (.slice a m c)) (hz:RN w2 (.agg #[.bool nz,.slice oz lz cz']) n) (u u':Value) :
 RN ((w2.setCell ⟨b,0,none⟩ u).setCell ⟨b,1,none⟩ u') (.agg #[.bool nz,.slice oz lz cz']) n:=by
 obtain ⟨v,ev,hr⟩:=hz
 simp only [Value.agg.injEq,Array.mk.injEq,List.cons.injEq,and_true,Value.bool.injEq] at ev
 obtain ⟨e1,rfl⟩:=ev
 exact ⟨_,by rw [e1],h.rd2 hr _ _⟩
theorem RN.len {w:World} {v:Bool} {oa:Option Addr} {l c R:Nat} (h:RN w (.agg #[.bool v,.slice oa l c]) (R:Int)):l=(dig R).length:=by
 obtain ⟨u,e,hr⟩:=h
 simp only [Value.agg.injEq,Array.mk.injEq,List.cons.injEq,and_true] at e
 obtain ⟨_,rfl⟩:=e
 obtain ⟨oa',cap,e,_⟩:=hr
 simp only [Value.slice.injEq] at e
 exact e.2.1
theorem dig_one {R:Nat} (h:¬ R=0) (h':R<10):dig R=[(R:Int)]:=by
 rw [dig_pos h,show R/10000=0 by omega,dig_zero,show R%10000=R by omega]
theorem RN.cell1 {w:World} {v:Bool} {oa:Option Addr} {l c R:Nat} (h:RN w (.agg #[.bool v,.slice oa l c]) (R:Int)) (h0:¬ R=0) (h1:R<10):l=1∧∃ g,oa=some ⟨g,0,none⟩∧w.cell? ⟨g,0,none⟩=some (.int .i64 (R:Int)):=by
 have hl:=h.len
 obtain ⟨u,e,hr⟩:=h
 simp only [Value.agg.injEq,Array.mk.injEq,List.cons.injEq,and_true] at e
 obtain ⟨_,rfl⟩:=e
 obtain ⟨oa',cap,e,_,_,h3⟩:=hr
 simp only [Value.slice.injEq] at e
 obtain ⟨rfl,_,_⟩:=e
 rw [show (R:Int).natAbs=R by omega,dig_one h0 h1] at h3
 obtain ⟨g,e1,_,h5⟩:=h3 0 (by simp)
 exact ⟨by rw [hl,dig_one h0 h1];rfl,g,e1,h5⟩
theorem dig_len0 {R:Nat} (h:R=0):(dig R).length=0:=by rw [h,dig_zero];rfl
theorem dig_lenp {R:Nat} (h:¬ R=0):0<(dig R).length:=by rw [dig_pos h,List.length_cons];omega
theorem st_sizeN (l:List UInt8):(st l).size=l.length:=by simp [st,ByteArray.size]
theorem two_next (w:World) (o:Obj) (u v:Value):Two ((w.alloc o).alloc (.cells #[u,v] 131)) (w.heap.size+1) u v:=by
 have h:=Two.new (w.alloc o) u v
 have e:(w.alloc o).heap.size=w.heap.size+1:=Array.size_push _
 rw [e] at h
 exact h
def msz (v:Value):Nat:=match v with|.string b=>30-b.size|_=>0
theorem lo_dig {U k:Nat} (hU:U<100000000000000000000):Lo ((U/10^k:Nat):Int):=by
 have:=Nat.div_le_self U (10^k)
 unfold Lo
 rw [show p10 19=10000000000000000000000000000000000000000000000000000000000000000000000000000 by decide]
 generalize U/10^k=q at *
 omega
theorem lo_ten:Lo 10:=by
 unfold Lo
 rw [show p10 19=10000000000000000000000000000000000000000000000000000000000000000000000000000 by decide]
 decide
theorem quo_ten (U k:Nat):((U/10^k:Nat):Int).tdiv 10=((U/10^(k+1):Nat):Int):=by
 rw [Nat.pow_succ,←Nat.div_div_eq_div_mul]
 exact (Int.ofNat_tdiv _ 10).symm
theorem rem_ten (U k:Nat):((U/10^k:Nat):Int).tmod 10=((U/10^k%10:Nat):Int):=(Int.ofNat_tmod _ 10).symm
theorem dgt_int (R:Nat) (h:R<10):((dgt R).toNat:Int)=48+(R:Int):=by
 unfold dgt
 rw [UInt8.toNat_ofNat_of_lt' (by show 48+R<256;omega)]
 omega
theorem conv_one (wc:World) (x:Int) (R:Nat) (hR:R<10) (hx:x=48+(R:Int)):(convert 87 9 (.slice (some ⟨wc.heap.size,0,none⟩) 1 1)).run Tryz.prog (wc.alloc (.cells #[.int .u8 x] 5))=.ok (.string (st [dgt R])) (wc.alloc (.cells #[.int .u8 x] 5)):=by
 subst hx
 exact run_convert_bytes_back (P:=Tryz.prog) (wc.alloc (.cells #[.int .u8 (48+(R:Int))] 5)) 87 9 5 ⟨wc.heap.size,0,none⟩ 1 [dgt R] Tryz.underlying87 Tryz.underlying5 Tryz.underlying9 (fun j hj=>by
  have h0:j=0:=by simp at hj;omega
  subst h0
  refine new_one wc (.int .u8 (48+(R:Int))) 5 0 _ ?_
  simp [dgt_int R hR])
theorem old_two {w w':World} {b:Nat} {u v:Value} (h:Old w w') (hb:w.heap.size≤b):Old w ((w'.setCell ⟨b,0,none⟩ u).setCell ⟨b,1,none⟩ v):=(h.setCell (p:=⟨b,0,none⟩) hb u).setCell (p:=⟨b,1,none⟩) hb v
def DgR (w:World) (b U m k:Nat) (wr:World):Prop:=(k≤m∨¬ U/10^(k-1)=0)∧k≤24∧(∃ v oa l c,Two wr b (.bool v) (.slice oa l c)∧RN wr (.agg #[.bool v,.slice oa l c]) ((U/10^k:Nat):Int))∧Old w wr∧w.heap.size≤b
theorem hi_pow {U k:Nat} (hU:U<100000000000000000000) (h:¬ U/10^k=0):k<20:=by
 rcases Nat.lt_or_ge k 20 with h1|h1
 ·exact h1
 ·exfalso
  apply h
  apply Nat.div_eq_of_lt
  have:(10:Nat)^20≤10^k:=Nat.pow_le_pow_right (by omega) h1
  have e:(10:Nat)^20=100000000000000000000:=by decide
  omega
theorem dig17_any (neg:Bool) (oa:Option Addr) (n0 c0:Nat) (U m:Nat) (w:World) (hx:RN w (.agg #[.bool false,.slice oa n0 c0]) (U:Int)) (hU:U<100000000000000000000) (hm:m≤5) (hm1:1≤m) :
 Calls Tryz.prog 101 #[.agg #[.bool neg,.slice oa n0 c0],.int .i64 (m:Int)] w fun e w'=>(∃ k,StopN m k U∧k≤24∧e=.returned (.string (st (low k U))))∧Old w w':=by
 have H0:=Lib.hid (show DgR w (w.heap.size+1) U m 0 ((w.alloc (.cells #[.bool neg,.slice oa n0 c0] 131)).alloc (.cells #[.bool false,.slice oa n0 c0] 131)) from ⟨Or.inl (by omega),by omega,⟨false,oa,n0,c0,two_next w _ _ _,by rw [Nat.pow_zero,Nat.div_one];exact ((hx.old ((Old.refl w).alloc _)).old ((Old.refl _).alloc _))⟩,((Old.refl w).alloc _).trans ((Old.refl _).alloc _),by omega⟩)
 have HU:=Lib.hid hU
 have HM:=Lib.hid (show m≤5∧1≤m from ⟨hm,hm1⟩)
 clear hx hU hm hm1
 go_enter Tryz.func101,Tryz.ntmps101
 go_wp2_with fail
 go_loopw [5] (fun s wr=>∃ k:Nat,s=.string (st (low k U))∧Hid (DgR w (w.heap.size+1) U m k wr)) (fun s _=>msz s)
 case atStart=>exact ⟨0,rfl,H0⟩
 case round=>
  clear H0
  obtain ⟨k,rfl,HR⟩:=hrel
  obtain ⟨v,oa',l,c,T,RNn⟩:=HR.out.2.2.1
  have hl:=RNn.len
  have c1:=T.c1
  have hs:(st (low k U)).size=k:=by rw [st_sizeN,low_len]
  have hk24:=HR.out.2.1
  have HS:=Lib.hid HR.out.1
  have HO:=Lib.hid HR.out.2.2.2
  clear HR
  have HT:=Lib.hid T
  have HN:=Lib.hid RNn
  have HL:=Lib.hid hl
  clear T RNn hl
  by_cases hgo:0<l∨k<m
  ·have h19:k<20:=by
    rcases hgo with h|h
    ·refine hi_pow HU.out (fun e=>?_)
     rw [HL.out,dig_len0 e] at h
     omega
    ·have:=HM.out.1
     omega
   rcases Nat.eq_zero_or_pos l with rfl|h0
   all_goals
    go_upto_region 4 with fail
    try rw [show decide (k<m)=true from decide_eq_true (by omega)]
    go_cut [7,8] from 23 to 28 (fun p q wx=>∃ (b1 b2:Nat) (v1 v2:Bool) (o1 o2:Option Addr) (l1 l2 c1 c2:Nat),p=.pointer (some ⟨b1,0,none⟩)∧q=.pointer (some ⟨b2,0,none⟩)∧Hid (Two wx b1 (.bool v1) (.slice o1 l1 c1))∧Hid (Two wx b2 (.bool v2) (.slice o2 l2 c2))∧Hid (RN wx (.agg #[.bool v1,.slice o1 l1 c1]) ((U/10^(k+1):Nat):Int))∧Hid (RN wx (.agg #[.bool v2,.slice o2 l2 c2]) ((U/10^k%10:Nat):Int))∧Hid (∃ l9 c9,Two wx (w.heap.size+1) (.bool v) (.slice oa' l9 c9))∧Hid (Old w wx)∧Hid (w.heap.size+1<b1∧w.heap.size+1<b2))
    case first=>
     as_aux_lemma=>
     refine wp_region_inv2 (spN [.rn ((U/10^k:Nat):Int),.rn 10,.two ((U/10^(k+1):Nat):Int) ((U/10^k%10:Nat):Int),.two ((U/10^(k+1):Nat):Int) ((U/10^k%10:Nat):Int),.rn ((U/10^(k+1):Nat):Int),.rn ((U/10^k%10:Nat):Int),.any,.any,.any,.any]) (inN [0,0,0,0,0,0,0,0,((U/10^(k+1):Nat):Int),((U/10^k%10:Nat):Int)]) al17 st17 #[.bool false,.slice none 0 0] 131 isNum (by kernel_rfl) (by kernel_rfl) (spN_mono _) (inN_mono _) any17 ⟨_,_,_,_,rfl⟩ al17_st st17_inj st17_al ?_ ?_
     ·refine ⟨?_,?_,?_,?_,?_,?_,?_,?_,?_,?_,trivial⟩
      ·exact ⟨by simp,step_plain rfl fun ρ wq ho hr hd=>does_loadN rfl ((hr.1 6 rfl).trans rfl) (HT.out.old ho) ⟨in_rnN rfl (HN.out.old ho),Old.refl _⟩⟩
      ·refine ⟨by simp,step_plain rfl fun ρ wq ho hr hd=>?_⟩
       refine does_call1 rfl (hr.2.2.2 100) (hr.2.1 _) rfl ((ofI 10 wq (by decide)).mono fun e w' h=>?_)
       obtain ⟨x,h1,h2,h3⟩:=h
       exact ⟨x,h1,in_rnN rfl h2,h3⟩
      ·refine ⟨by simp,step_plain rfl fun ρ wq ho hr hd=>?_⟩
       obtain ⟨d0,d1,_⟩:=hd
       have d0:=spN_rn (d0 rfl) rfl
       have d1:=spN_rn (d1 rfl) rfl
       refine does_call2 rfl (hr.2.2.2 140) rfl rfl rfl ((quoI _ _ _ _ wq d0 d1 (lo_dig HU.out) lo_ten (by decide)).mono fun e w' h=>?_)
       obtain ⟨x,y,h1,h2,h3,h4⟩:=h
       rw [quo_ten] at h2
       rw [rem_ten] at h3
       exact ⟨_,h1,in_two rfl ⟨x,y,rfl,h2,h3⟩,h4⟩
      ·refine ⟨by simp,step_plain rfl fun ρ wq ho hr hd=>?_⟩
       obtain ⟨d0,_⟩:=hd
       have d0:=spN_two (d0 rfl) rfl
       exact does_move rfl rfl ⟨in_two rfl d0,Old.refl _⟩
      ·refine ⟨by simp,step_plain rfl fun ρ wq ho hr hd=>?_⟩
       obtain ⟨d0,_⟩:=hd
       obtain ⟨x,y,e,h1,h2⟩:=spN_two (d0 rfl) rfl
       exact does_ext0 rfl e ⟨in_rnN rfl h1,Old.refl _⟩
      ·refine ⟨by simp,step_plain rfl fun ρ wq ho hr hd=>?_⟩
       obtain ⟨d0,_⟩:=hd
       obtain ⟨x,y,e,h1,h2⟩:=spN_two (d0 rfl) rfl
       exact does_ext1 rfl e ⟨in_rnN rfl h2,Old.refl _⟩
      ·exact stepA_num rfl rfl rfl
      ·exact stepA_num rfl rfl rfl
      ·refine stepS_num (n:=((U/10^(k+1):Nat):Int)) rfl rfl rfl rfl ⟨_,List.mem_cons_self,rfl,rfl⟩ (fun ρ wq hd=>?_) rfl
       obtain ⟨_,d2,_⟩:=hd
       exact spN_rn (d2 rfl) rfl
      ·refine stepS_num (n:=((U/10^k%10:Nat):Int)) rfl rfl rfl rfl ⟨_,List.mem_cons_self,rfl,rfl⟩ (fun ρ wq hd=>?_) rfl
       obtain ⟨_,d2,_⟩:=hd
       exact spN_rn (d2 rfl) rfl
     ·intro a' w' β ho hst hlf hB
      obtain ⟨e1,p1,cc1,q1,⟨v1,o1,l1,c1',rfl⟩,_,r1⟩:=hB.ptr 6 _ rfl rfl rfl
      obtain ⟨e2,p2,cc2,q2,⟨v2,o2,l2,c2',rfl⟩,_,r2⟩:=hB.ptr 7 _ rfl rfl rfl
      have g1:RN w' (.agg #[.bool v1,.slice o1 l1 c1']) ((U/10^(k+1):Nat):Int):=r1 8 (by decide) rfl rfl _ rfl
      have g2:RN w' (.agg #[.bool v2,.slice o2 l2 c2']) ((U/10^k%10:Nat):Int):=r2 9 (by decide) rfl rfl _ rfl
      have e1:a'.eval (.tmp 7)=.pointer (some ⟨β 6,0,none⟩):=e1
      have e2:a'.eval (.tmp 8)=.pointer (some ⟨β 7,0,none⟩):=e2
      rw [act_fresh hst [false,false,false,false,false,false,false,true,true,false,false,false,false,false,false,false,false,false,false,false,false,false,false,true,true,true,true,true,true,false,false,false,false,false,false,false,false,false,false,false,false,false,false,false,false,false] (by kernel_rfl) (by kernel_rfl)]
      simp only [fresh,e1,e2]
      have hp:=HT.out.lt
      have HP2:Hid (w.heap.size+1<β 6∧w.heap.size+1<β 7):=Lib.hid ⟨by omega,by omega⟩
      replace HT:=Lib.hid (HT.out.old ho)
      replace HO:=Lib.hid (HO.out.1.trans ho)
      go_wp2_with fail
      go_meet
      exact ⟨β 6,β 7,v1,v2,o1,o2,l1,l2,c1',c2',rfl,rfl,Lib.hid q1,Lib.hid q2,Lib.hid g1,Lib.hid g2,Lib.hid ⟨_,_,HT.out⟩,HO,HP2⟩
    case rest=>
     obtain ⟨b1,b2,v1,v2,o1,o2,l1,l2,c1',c2',rfl,rfl,T1,T2,N1,N2,T0,HOx,HB⟩:=hcut
     obtain ⟨l9,c9,T0⟩:=T0.out
     replace T0:=Lib.hid T0
     clear HT HN HO c1
     have x1:=T1.out.c0
     have x2:=T1.out.c1
     have y1:=T2.out.c1
     have z1:=T0.out.c0
     have z2:=T0.out.c1
     obtain ⟨R,hR⟩:∃ R,R=U/10^k%10:=⟨_,rfl⟩
     rw [←hR] at N2
     have hR10:R<10:=by omega
     replace hR:=Lib.hid hR
     have hlow:st (low (k+1) U)=st ([dgt R]++low k U):=by rw [low,hR.out];rfl
     rcases Nat.eq_zero_or_pos R with rfl|hR0
     ·have hl2:l2=0:=by rw [N2.out.len,dig_len0 rfl]
      have hcv:=conv_one wc 48 0 hR10 (by omega)
      have T1':=Lib.hid (T1.out.alloc (.cells #[.int .u8 48] 5))
      have T0':=Lib.hid (T0.out.alloc (.cells #[.int .u8 48] 5))
      have u1:=T1'.out.c0
      have u2:=T1'.out.c1
      have u3:=T0'.out.c0
      have u4:=T0'.out.c1
      have u5:=T0'.out.f 0
      have u6:=T0'.out.f 1
      go_wp2_with fail
      go_roundw
      case rel=>
       refine ⟨k+1,by rw [hlow];exact congrArg Value.string (app_st _ _),Lib.hid ⟨?_,by omega,⟨v1,o1,l1,c1',?_,?_⟩,?_,by omega⟩⟩
       ·rcases hgo with h|h
        ·right
         intro e
         rw [Nat.add_sub_cancel] at e
         have hL:=HL.out
         rw [dig_len0 e] at hL
         omega
        ·left;omega
       ·exact T0'.out.set _ _
       ·exact RN.two T0'.out (N1.out.old ((Old.refl _).alloc _)) _ _
       ·exact old_two (HOx.out.trans ((Old.refl _).alloc _)) (by omega)
      case measure=>
       show msz (.string _)<msz (.string _)
       rw [show (st [dgt 0]++st (low k U))=st ([dgt 0]++low k U) from app_st _ _]
       unfold msz
       simp only [st_sizeN,low_len,List.length_append,List.length_singleton]
       omega
     ·obtain ⟨hl2,g,hg,hc⟩:=N2.out.cell1 (by omega) hR10
      have hcv:=conv_one wc (48+(R:Int)) R hR10 rfl
      have T1':=Lib.hid (T1.out.alloc (.cells #[.int .u8 (48+(R:Int))] 5))
      have T0':=Lib.hid (T0.out.alloc (.cells #[.int .u8 (48+(R:Int))] 5))
      have u1:=T1'.out.c0
      have u2:=T1'.out.c1
      have u3:=T0'.out.c0
      have u4:=T0'.out.c1
      have u5:=T0'.out.f 0
      have u6:=T0'.out.f 1
      go_wp2_with fail
      go_roundw
      case rel=>
       refine ⟨k+1,by rw [hlow];exact congrArg Value.string (app_st _ _),Lib.hid ⟨?_,by omega,⟨v1,o1,l1,c1',?_,?_⟩,?_,by omega⟩⟩
       ·rcases hgo with h|h
        ·right
         intro e
         rw [Nat.add_sub_cancel] at e
         have hL:=HL.out
         rw [dig_len0 e] at hL
         omega
        ·left;omega
       ·exact T0'.out.set _ _
       ·exact RN.two T0'.out (N1.out.old ((Old.refl _).alloc _)) _ _
       ·exact old_two (HOx.out.trans ((Old.refl _).alloc _)) (by omega)
      case measure=>
       show msz (.string _)<msz (.string _)
       rw [show (st [dgt R]++st (low k U))=st ([dgt R]++low k U) from app_st _ _]
       unfold msz
       simp only [st_sizeN,low_len,List.length_append,List.length_singleton]
       omega
  ·have h0:¬ 0<l:=fun h=>hgo (Or.inl h)
   have h1:¬ k<m:=fun h=>hgo (Or.inr h)
   go_wp2_with fail
   go_ret
   refine ⟨⟨k,⟨by omega,?_,?_⟩,by omega,rfl⟩,HO.out.1⟩
   ·refine Classical.byContradiction fun e=>h0 ?_
    rw [HL.out]
    exact dig_lenp e
   ·rcases HS.out with h|h
    ·left;omega
    ·right;exact h
end Go.Proofs.YtmkmafkkpigfpaaGreatDoor
