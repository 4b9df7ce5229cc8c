/- Plain: a value's text says that value. Layer vtext: VtextOnly. Plain: read again, a value's text is that value. Small operations in a statement that draws its order; trimming noughts. Plain facts on remainders, on rounding and on signs, for the laws of layer num. Plain facts on the product of a row of digits and a digit. -/
import Derived.Test.YtmkmafkkpigfpaaGreatDoorZB
namespace Go.Proofs.YtmkmafkkpigfpaaGreatDoor
open Go.Lib
set_option linter.unusedVariables false
set_option linter.unusedSimpArgs false
set_option maxRecDepth 100000
def vL (acc:Nat) (l:List UInt8):Nat:=l.foldl (fun a c=>a*10+(c.toNat-48)) acc
theorem vL_nil (acc:Nat):vL acc []=acc:=rfl
theorem vL_cons (acc:Nat) (c:UInt8) (l:List UInt8):vL acc (c::l)=vL (acc*10+(c.toNat-48)) l:=by unfold vL;rw [List.foldl_cons]
theorem vL_app (a b:List UInt8) (acc:Nat):vL acc (a++b)=vL (vL acc a) b:=by
 unfold vL;exact List.foldl_append
theorem vL_ge (l:List UInt8):∀ (acc:Nat),acc≤vL acc l:=by
 induction l with
 | nil=>intro acc;exact Nat.le_refl _
 | cons c l ih=>
   intro acc
   have h:=ih (acc*10+(c.toNat-48))
   rw [vL_cons]
   omega
theorem pum (M:Nat) (hM:M≤18446744073709551615) (l:List UInt8):∀ (acc:Nat),l.all dg8=true→vL acc l≤M→Lib.parseUintM M acc l=.ok (vL acc l):=by
 induction l with
 | nil=>intro acc _ _;rfl
 | cons c l ih=>
   intro acc h hv
   rw [List.all_cons,Bool.and_eq_true] at h
   have hc:48≤c.toNat∧c.toNat≤57:=by have:=h.1;unfold dg8 at this;simpa using this
   obtain ⟨x,hx⟩:∃ x,x=acc*10+(c.toNat-48):=⟨_,rfl⟩
   rw [vL_cons,←hx] at hv
   have hg:=vL_ge l x
   have ih:=ih x h.2 hv
   have k1:¬ 1844674407370955162≤acc:=by omega
   have k2:¬ M<x:=by omega
   rw [vL_cons,←hx]
   unfold Lib.parseUintM
   rw [if_pos hc,if_neg k1,←hx,if_neg k2]
   exact ih
theorem dig_nat {d:Nat} (h:d<10):(UInt8.ofNat (48+d)).toNat=48+d:=by
 rw [UInt8.toNat_ofNat'];omega
theorem dig_ok {d:Nat} (h:d<10):dg8 (UInt8.ofNat (48+d))=true:=by
 unfold dg8;rw [dig_nat h];simp;omega
theorem dd_all (u:Nat):(Lib.decDigits u).all dg8=true:=by
 induction u using Nat.strongRecOn with
 | _ u ih=>
   rw [Lib.decDigits]
   split
   ·next h=>simp only [List.all_cons,List.all_nil,Bool.and_true,dig_ok h]
   ·next h=>simp only [List.all_append,ih (u/10) (by omega),List.all_cons,List.all_nil,Bool.and_true,dig_ok (Nat.mod_lt u (by omega:0<10))]
theorem dd_val (u:Nat):vL 0 (Lib.decDigits u)=u:=by
 induction u using Nat.strongRecOn with
 | _ u ih=>
   rw [Lib.decDigits]
   split
   ·next h=>simp only [vL_cons,vL_nil,dig_nat h];omega
   ·next h=>rw [vL_app,ih (u/10) (by omega)];simp only [vL_cons,vL_nil,dig_nat (Nat.mod_lt u (by omega:0<10))];omega
theorem dd_ne (u:Nat):Lib.decDigits u≠[]:=by
 rw [Lib.decDigits]
 split<;>simp
theorem dd_head (u:Nat) (h:1≤u):(Lib.decDigits u).head?≠some 48:=by
 induction u using Nat.strongRecOn with
 | _ u ih=>
   rw [Lib.decDigits]
   split
   ·next hu=>
    simp only [List.head?_cons,ne_eq,Option.some.injEq]
    intro e
    have:=congrArg UInt8.toNat e
    rw [dig_nat hu] at this
    have h48:(48:UInt8).toNat=48:=rfl
    omega
   ·next hu=>
    have hi:=ih (u/10) (by omega) (by omega)
    cases hd:Lib.decDigits (u/10) with
    | nil=>exact absurd hd (dd_ne _)
    | cons c l=>rw [hd] at hi;simpa using hi
theorem dd_whole (u:Nat):wholeL (Lib.decDigits u)=true:=by
 unfold wholeL digsL
 rw [dd_all]
 have e:(Lib.decDigits u).isEmpty=false:=by
  cases h:Lib.decDigits u with
  | nil=>exact absurd h (dd_ne u)
  | cons c l=>rfl
 rw [e]
 by_cases h:u<10
 ·rw [Lib.decDigits,dif_pos h];rfl
 ·have:=dd_head u (by omega)
  simp [this]
theorem index_none:∀ (l:List UInt8),l.all dg8=true→Lib.index l [46]=-1
 | [],_=>by rw [Lib.index];rfl
 | c::l,h=>by
   rw [List.all_cons,Bool.and_eq_true] at h
   have hc:((46:UInt8)==c)=false:=by
    have:=h.1
    rcases hx:((46:UInt8)==c) with _|_
    ·rfl
    ·have e:c=46:=(by simpa using hx:(46:UInt8)=c).symm
     subst e;exact absurd this (by decide)
   rw [Lib.index,index_none l h.2]
   simp [List.isPrefixOf,hc]
theorem index_dot:∀ (a b:List UInt8),a.all dg8=true→Lib.index (a++46::b) [46]=a.length
 | [],b,_=>by rw [List.nil_append,Lib.index];simp [List.isPrefixOf]
 | c::a,b,h=>by
   rw [List.all_cons,Bool.and_eq_true] at h
   have hc:((46:UInt8)==c)=false:=by
    have:=h.1
    rcases hx:((46:UInt8)==c) with _|_
    ·rfl
    ·have e:c=46:=(by simpa using hx:(46:UInt8)=c).symm
     subst e;exact absurd this (by decide)
   rw [List.cons_append,Lib.index,index_dot a b h.2]
   have e2:((a.length:Int)==-1)=false:=by simp
   simp only [List.isPrefixOf,hc,Bool.false_and,Bool.false_eq_true,if_false,e2,List.length_cons]
   omega
theorem cut_none {l:List UInt8} (h:l.all dg8=true):Lib.cut l [46]=(l,[],false):=by
 unfold Lib.cut
 rw [index_none l h]
 rfl
theorem cut_dot (a b:List UInt8) (h:a.all dg8=true):Lib.cut (a++46::b) [46]=(a,b,true):=by
 unfold Lib.cut
 rw [index_dot a b h,if_pos (Int.natCast_nonneg _)]
 simp
theorem first_not {l:List UInt8} {c:UInt8} {r:List UInt8} (h:l.all dg8=true) (e:l=c::r):48≤c.toNat∧c.toNat≤57:=by
 subst e
 rw [List.all_cons,Bool.and_eq_true] at h
 have:=h.1
 unfold dg8 at this
 simpa using this
theorem num_pos (k:Int) (l:List UInt8) (hne:l≠[]) (h:l.all dg8=true) (hv:vL 0 l<9223372036854775808):numV k l=(k,(vL 0 l:Int),0):=by
 have hp:Lib.parseUintB 64 l=.ok (vL 0 l):=by
  unfold Lib.parseUintB
  rw [if_neg hne]
  exact pum _ (by decide) l 0 h (by simp only [Nat.reducePow,Nat.reduceSub];omega)
 have hi:Lib.parseIntB 64 l=.ok (vL 0 l:Int):=by
  cases l with
  | nil=>exact absurd rfl hne
  | cons c r=>
    have hc:=first_not h rfl
    unfold Lib.parseIntB
    simp only [if_neg (by omega:¬ (c.toNat=43∨c.toNat=45)),hp]
    rw [if_neg (by simp only [Nat.reduceSub,Nat.reducePow];omega),if_neg (by omega),if_neg (by omega)]
 unfold numV
 rw [hi]
theorem num_neg (k:Int) (l:List UInt8) (hne:l≠[]) (h:l.all dg8=true) (hv:vL 0 l≤9223372036854775808):numV k (45::l)=(k,-(vL 0 l:Int),0):=by
 have hp:Lib.parseUintB 64 l=.ok (vL 0 l):=by
  unfold Lib.parseUintB
  rw [if_neg hne]
  exact pum _ (by decide) l 0 h (by simp only [Nat.reducePow,Nat.reduceSub];omega)
 have hi:Lib.parseIntB 64 (45::l)=.ok (-(vL 0 l:Int)):=by
  unfold Lib.parseIntB
  have e:(45:UInt8).toNat=43∨(45:UInt8).toNat=45:=Or.inr rfl
  simp only [if_pos e,hp]
  rw [if_neg (fun h=>h.1 rfl),if_neg (fun h=>by have:=h.2;simp only [Nat.reduceSub,Nat.reducePow] at this;omega),if_pos (show (45:UInt8).toNat=45 from rfl)]
 unfold numV
 rw [hi]
end Go.Proofs.YtmkmafkkpigfpaaGreatDoor
namespace Go.Proofs.YtmkmafkkpigfpaaGreatDoor
open Go.ChangeShapes Go.WideShapes Go.ChangeAt Go.RowKit Go.Lib
set_option linter.unusedVariables false
set_option maxRecDepth 100000
end Go.Proofs.YtmkmafkkpigfpaaGreatDoor
namespace Go.Proofs.YtmkmafkkpigfpaaGreatDoor
open Go.Lib
set_option linter.unusedVariables false
set_option linter.unusedSimpArgs false
set_option maxRecDepth 100000
theorem unq_esc:∀ l:List UInt8,unqL (escL l)=l:=by
 intro l
 induction l with
 | nil=>rfl
 | cons c l ih=>
   have e:escL (c::l)=escB c++escL l:=rfl
   rw [e]
   unfold escB
   by_cases h:c=34∨c=92
   ·rw [if_pos h]
    show unqL (92::c::escL l)=c::l
    rw [unq_two rfl,ih]
   ·rw [if_neg h]
    show unqL (c::escL l)=c::l
    rw [unq_one (fun k=>h (Or.inr k.1)),ih]
theorem trim_last (l:List UInt8):Lib.trimSuffix (l++[34]) [34]=l:=by
 unfold Lib.trimSuffix Lib.hasSuffix
 have e:([34]:List UInt8).isSuffixOf (l++[34])=true:=by
  rw [List.isSuffixOf_iff_suffix];exact List.suffix_append _ _
 rw [if_pos e]
 simp
theorem rest_all (u:Nat):(restL u).all dg8=true:=by
 unfold restL dgt
 simp only [List.all_cons,List.all_nil,Bool.and_true,Bool.and_eq_true]
 exact ⟨dig_ok (by omega),dig_ok (by omega),dig_ok (by omega),dig_ok (by omega)⟩
theorem rest_val (a u:Nat):vL a (restL u)=a*10000+u%10000:=by
 unfold restL dgt
 simp only [vL_cons,vL_nil,dig_nat (show u%10000/1000<10 by omega),dig_nat (show u%1000/100<10 by omega),dig_nat (show u%100/10<10 by omega),dig_nat (show u%10<10 by omega)]
 omega
theorem trim_three (b c d:UInt8):∃ n,n≤3∧(Lib.trimRightB [b,c,d] 48).length=3-n∧Lib.trimRightB [b,c,d] 48++Lib.repeatL [48] n=[b,c,d]:=by
 unfold Lib.trimRightB
 by_cases hd:d=48
 ·subst hd
  by_cases hc:c=48
  ·subst hc
   by_cases hb:b=48
   ·subst hb;exact ⟨3,by omega,rfl,rfl⟩
   ·have k:(b==48)=false:=by simpa using hb
    refine ⟨2,by omega,?_,?_⟩<;>simp [List.dropWhile,k,Lib.repeatL]
  ·have k:(c==48)=false:=by simpa using hc
   refine ⟨1,by omega,?_,?_⟩<;>simp [List.dropWhile,k,Lib.repeatL]
 ·have k:(d==48)=false:=by simpa using hd
  refine ⟨0,by omega,?_,?_⟩<;>simp [List.dropWhile,k,Lib.repeatL]
theorem frac (u:Nat):∃ rs,decU u=Lib.decDigits (u/10000)++46::rs∧digsL rs=true∧rs.length≤4∧rs++Lib.repeatL [48] (4-rs.length)=restL u:=by
 obtain ⟨n,hn,hl,he⟩:=trim_three (dgt (u%1000/100)) (dgt (u%100/10)) (dgt (u%10))
 refine ⟨dgt (u%10000/1000)::Lib.trimRightB [dgt (u%1000/100),dgt (u%100/10),dgt (u%10)] 48,?_,?_,?_,?_⟩
 ·unfold decU restL
  simp
 ·have ha:=rest_all u
  unfold restL at ha
  rw [List.all_cons,Bool.and_eq_true,←he,List.all_append,Bool.and_eq_true] at ha
  unfold digsL
  rw [List.all_cons,ha.1,ha.2.1]
  rfl
 ·rw [List.length_cons,hl];omega
 ·rw [List.length_cons,hl,show 4-(3-n+1)=n by omega,List.cons_append,he]
  rfl
theorem cons_of {l:List UInt8} (h:l≠[]):∃ c r,l=c::r:=by
 cases l with
 | nil=>exact absurd rfl h
 | cons c r=>exact ⟨c,r,rfl⟩
theorem dg_ne {c:UInt8} (h:48≤c.toNat∧c.toNat≤57):c≠45∧c≠46∧c≠110∧c≠116∧c≠102∧c≠34∧c≠35:=by
 refine ⟨?_,?_,?_,?_,?_,?_,?_⟩<;>(rintro rfl;revert h;decide)
theorem readN_plain {l wh rs:List UInt8} {pt:Bool} {c:UInt8} {r:List UInt8} (e:l=c::r) (hc:c≠45) (h:Lib.cut l [46]=(wh,rs,pt)):readN l=readC [] wh rs pt:=by
 subst e
 rw [readN,if_neg hc,h]
theorem readN_neg {l wh rs:List UInt8} {pt:Bool} (h:Lib.cut l [46]=(wh,rs,pt)):readN (45::l)=readC [45] wh rs pt:=by
 rw [readN,if_pos rfl,h]
theorem readC_int (S wh:List UInt8) (h:wholeL wh=true):readC S wh [] false=numV 1 (S++wh):=by
 unfold readC;rw [if_neg (by rw [h];decide),if_pos rfl]
theorem readC_dec (S wh rs:List UInt8) (h:wholeL wh=true) (hr:digsL rs=true) (hl:rs.length≤4):readC S wh rs true=numV 2 (S++wh++rs++Lib.repeatL [48] (4-rs.length)):=by
 unfold readC
 rw [if_neg (by rw [h];decide),if_neg (by decide),if_neg (by rw [hr];simp;omega)]
theorem itoa_form (n:Int):(∃ u:Nat,n=u∧Lib.itoa n=Lib.decDigits u)∨∃ u:Nat,1≤u∧n=-(u:Int)∧Lib.itoa n=45::Lib.decDigits u:=by
 unfold Lib.itoa
 by_cases h:n<0
 ·right;rw [if_pos h];exact ⟨n.natAbs,by omega,by omega,rfl⟩
 ·left;rw [if_neg h];exact ⟨n.toNat,by omega,rfl⟩
theorem dec_form (n:Int):(∃ u:Nat,n=u∧decL n=decU u)∨∃ u:Nat,1≤u∧n=-(u:Int)∧decL n=45::decU u:=by
 unfold decL
 by_cases h:n<0
 ·right;rw [if_pos h];exact ⟨n.natAbs,by omega,by omega,rfl⟩
 ·left;rw [if_neg h];exact ⟨n.natAbs,by omega,rfl⟩
theorem readN_itoa (n:Int) (hn:I64 n):readN (Lib.itoa n)=(1,n,0):=by
 unfold I64 at hn
 rcases itoa_form n with ⟨u,rfl,e⟩|⟨u,h1,rfl,e⟩
 ·obtain ⟨c,r,hc⟩:=cons_of (dd_ne u)
  rw [e,readN_plain hc (dg_ne (first_not (dd_all u) hc)).1 (cut_none (dd_all u)),readC_int _ _ (dd_whole u),List.nil_append,num_pos 1 _ (dd_ne u) (dd_all u) (by rw [dd_val];omega),dd_val]
 ·rw [e,readN_neg (cut_none (dd_all u)),readC_int _ _ (dd_whole u),List.singleton_append,num_neg 1 _ (dd_ne u) (dd_all u) (by rw [dd_val];omega),dd_val]
theorem readN_dec (n:Int) (hn:I64 n):readN (decL n)=(2,n,0):=by
 unfold I64 at hn
 have key:∀ u:Nat,∃ rs,decU u=Lib.decDigits (u/10000)++46::rs∧digsL rs=true∧rs.length≤4∧Lib.decDigits (u/10000)++rs++Lib.repeatL [48] (4-rs.length)=Lib.decDigits (u/10000)++restL u:=fun u=>by
  obtain ⟨rs,h1,h2,h3,h4⟩:=frac u
  exact ⟨rs,h1,h2,h3,by rw [List.append_assoc,h4]⟩
 have val:∀ u:Nat,vL 0 (Lib.decDigits (u/10000)++restL u)=u:=fun u=>by
  rw [vL_app,dd_val,rest_val];omega
 have all:∀ u:Nat,(Lib.decDigits (u/10000)++restL u).all dg8=true:=fun u=>by
  rw [List.all_append,dd_all,rest_all];rfl
 have ne:∀ u:Nat,Lib.decDigits (u/10000)++restL u≠[]:=fun u=>by
  simp [dd_ne]
 rcases dec_form n with ⟨u,rfl,e⟩|⟨u,h1,rfl,e⟩
 ·obtain ⟨rs,k1,k2,k3,k4⟩:=key u
  obtain ⟨c,r,hc⟩:=cons_of (dd_ne (u/10000))
  have hc':decU u=c::(r++46::rs):=by rw [k1,hc];rfl
  have hcut:Lib.cut (decU u) [46]=(Lib.decDigits (u/10000),rs,true):=by rw [k1];exact cut_dot _ _ (dd_all _)
  rw [e,readN_plain hc' (dg_ne (first_not (dd_all _) hc)).1 hcut,readC_dec _ _ _ (dd_whole _) k2 k3,List.nil_append,k4,num_pos 2 _ (ne u) (all u) (by rw [val];omega),val]
 ·obtain ⟨rs,k1,k2,k3,k4⟩:=key u
  have e2:([45]++Lib.decDigits (u/10000)++rs++Lib.repeatL [48] (4-rs.length):List UInt8)=45::(Lib.decDigits (u/10000)++restL u):=by
   rw [←k4];simp
  have hcut:Lib.cut (decU u) [46]=(Lib.decDigits (u/10000),rs,true):=by rw [k1];exact cut_dot _ _ (dd_all _)
  rw [e,readN_neg hcut,readC_dec _ _ _ (dd_whole _) k2 k3,e2,num_neg 2 _ (ne u) (all u) (by rw [val];omega),val]
theorem readL_num {l:List UInt8} {c:UInt8} {r:List UInt8} (e:l=c::r) (h:c=45∨dg8 c=true):readL l=⟨(readN l).1,(readN l).2.1,(readN l).2.2,[]⟩:=by
 subst e
 have k:c≠110∧c≠116∧c≠102∧c≠34∧c≠35:=by
  rcases h with rfl|h
  ·decide
  ·have:=dg_ne (c:=c) (by unfold dg8 at h;simpa using h)
   exact this.2.2
 rw [readL,if_neg k.1,if_neg k.2.1,if_neg k.2.2.1,if_neg k.2.2.2.1,if_neg k.2.2.2.2,if_pos h]
theorem itoa_begin (n:Int):∃ c r,Lib.itoa n=c::r∧(c=45∨dg8 c=true):=by
 rcases itoa_form n with ⟨u,rfl,e⟩|⟨u,h1,rfl,e⟩
 ·obtain ⟨c,r,hc⟩:=cons_of (dd_ne u)
  refine ⟨c,r,by rw [e,hc],Or.inr ?_⟩
  have:=dd_all u
  rw [hc,List.all_cons,Bool.and_eq_true] at this
  exact this.1
 ·exact ⟨45,_,e,Or.inl rfl⟩
theorem dec_begin (n:Int):∃ c r,decL n=c::r∧(c=45∨dg8 c=true):=by
 rcases dec_form n with ⟨u,rfl,e⟩|⟨u,h1,rfl,e⟩
 ·obtain ⟨c,r,hc⟩:=cons_of (dd_ne (u/10000))
  obtain ⟨rs,k1,_⟩:=frac u
  refine ⟨c,r++46::rs,by rw [e,k1,hc];rfl,Or.inr ?_⟩
  have:=dd_all (u/10000)
  rw [hc,List.all_cons,Bool.and_eq_true] at this
  exact this.1
 ·exact ⟨45,_,e,Or.inl rfl⟩
theorem bool_no:readL (Lib.formatBool ((0:Int)==1))=⟨4,0,0,[]⟩:=by kernel_rfl
theorem bool_yes:readL (Lib.formatBool ((1:Int)==1))=⟨4,1,0,[]⟩:=by kernel_rfl
theorem read_back (k n:Int) (s:ByteArray) (hm:mayB k n s=true) (hn:I64 n):readL (textL k n s)=⟨k,n,0,s.data.toList⟩:=by
 have emp:s.toList.isEmpty=true→s.data.toList=[]:=fun h=>by
  rw [ByteArray.toList_eq] at h;simpa using h
 unfold textL
 rw [if_neg (by rw [hm];decide)]
 unfold mayB at hm
 by_cases h1:k=1
 ·subst h1
  rw [if_neg (by decide),if_pos (Or.inl rfl)] at hm
  obtain ⟨c,r,e,hc⟩:=itoa_begin n
  rw [if_pos rfl,readL_num e hc,readN_itoa n hn,emp hm]
 rw [if_neg h1]
 by_cases h2:k=2
 ·subst h2
  rw [if_neg (by decide),if_pos (Or.inr rfl)] at hm
  obtain ⟨c,r,e,hc⟩:=dec_begin n
  rw [if_pos rfl,readL_num e hc,readN_dec n hn,emp hm]
 rw [if_neg h2]
 by_cases h3:k=3
 ·subst h3
  rw [if_neg (by decide),if_neg (by decide),if_pos rfl,Bool.and_eq_true] at hm
  have hz:n=0:=by simpa using hm.1
  subst hz
  rw [if_pos rfl]
  unfold quoteL
  rw [readL,if_neg (by decide),if_neg (by decide),if_neg (by decide),if_pos rfl,trim_last,unq_esc]
 rw [if_neg h3]
 by_cases h4:k=4
 ·subst h4
  rw [if_neg (by decide),if_neg (by decide),if_neg (by decide),if_pos rfl,Bool.and_eq_true] at hm
  rw [if_pos rfl,emp hm.2]
  have hz:n=0∨n=1:=by simpa using hm.1
  rcases hz with rfl|rfl
  ·exact bool_no
  ·exact bool_yes
 rw [if_neg h4]
 by_cases h5:k=5
 ·subst h5
  rw [if_neg (by decide),if_neg (by decide),if_neg (by decide),if_neg (by decide),if_pos rfl,Bool.and_eq_true] at hm
  have hz:n=0:=by simpa using hm.1
  subst hz
  rw [if_pos rfl,readL,if_neg (by decide),if_neg (by decide),if_neg (by decide),if_neg (by decide),if_pos rfl]
 rw [if_neg h5]
 by_cases h0:k=0
 ·subst h0
  rw [if_pos rfl,Bool.and_eq_true] at hm
  have hz:n=0:=by simpa using hm.1
  subst hz
  rw [emp hm.2]
  rfl
 ·rw [if_neg h0,if_neg (by rintro (h|h);exact h1 h;exact h2 h),if_neg h3,if_neg h4,if_neg h5] at hm
  cases hm
def low:Nat→Nat→List UInt8
 | 0,_=>[]
 | k+1,u=>dgt (u/10^k%10)::low k u
theorem low_len:∀ k u,(low k u).length=k
 | 0,_=>rfl
 | k+1,u=>by rw [low,List.length_cons,low_len k u]
theorem low_app (a b u:Nat):low (a+b) u=low a (u/10^b)++low b u:=by
 induction a with
 | zero=>rw [Nat.zero_add];rfl
 | succ a ih=>
   rw [show a+1+b=(a+b)+1 by omega,low,ih,low,List.cons_append,Nat.div_div_eq_div_mul,←Nat.pow_add,Nat.add_comm b a]
theorem low_snoc (k u:Nat):low (k+1) u=low k (u/10)++[dgt (u%10)]:=by
 rw [low_app k 1 u]
 show low k (u/10^1)++[dgt (u/10^0%10)]=_
 rw [Nat.pow_one,Nat.pow_zero,Nat.div_one]
def Fit (k u:Nat):Prop:=1≤k∧u/10^k=0∧(k=1∨¬ u/10^(k-1)=0)
theorem low_dec:∀ (k u:Nat),Fit k u→low k u=Lib.decDigits u
 | 0,u,h=>by have:=h.1;omega
 | k+1,u,h=>by
   obtain ⟨_,h2,h3⟩:=h
   rw [Lib.decDigits]
   by_cases hu:u<10
   ·rw [dif_pos hu]
    have hk:k=0:=by
     rcases h3 with h3|h3
     ·omega
     ·rcases Nat.eq_zero_or_pos k with h|h
      ·exact h
      ·exfalso
       apply h3
       apply Nat.div_eq_of_lt
       have:10^1≤10^(k+1-1):=Nat.pow_le_pow_right (by omega) (by omega)
       omega
    subst hk
    rw [low_snoc,Nat.mod_eq_of_lt hu]
    rfl
   ·rw [dif_neg hu,low_snoc]
    have hf:Fit k (u/10):=by
     have hk:1≤k:=by
      rcases Nat.eq_zero_or_pos k with h|h
      ·subst h
       exfalso
       rw [Nat.zero_add,Nat.pow_one] at h2
       omega
      ·exact h
     refine ⟨hk,by rw [Nat.div_div_eq_div_mul,←Nat.pow_succ'];exact h2,?_⟩
     rcases h3 with h3|h3
     ·omega
     ·rcases Nat.lt_or_ge 1 k with hk1|hk1
      ·right
       rw [Nat.div_div_eq_div_mul,←Nat.pow_succ',show (k-1).succ=k+1-1 by omega]
       exact h3
      ·left;omega
    rw [low_dec k (u/10) hf]
    rfl
theorem low_four (u:Nat):low 4 u=restL u:=by
 unfold restL
 show [dgt (u/10^3%10),dgt (u/10^2%10),dgt (u/10^1%10),dgt (u/10^0%10)]=_
 have h3:u/10^3%10=u%10000/1000:=by omega
 have h2:u/10^2%10=u%1000/100:=by omega
 have h1:u/10^1%10=u%100/10:=by omega
 have h0:u/10^0%10=u%10:=by omega
 rw [h3,h2,h1,h0]
def StopN (m k u:Nat):Prop:=m≤k∧u/10^k=0∧(k=m∨¬ u/10^(k-1)=0)
theorem low_five {k u:Nat} (h:StopN 5 k u):low k u=Lib.decDigits (u/10000)++restL u:=by
 obtain ⟨h1,h2,h3⟩:=h
 obtain ⟨j,rfl⟩:∃ j,k=j+4:=⟨k-4,by omega⟩
 rw [low_app j 4 u,low_four,show (10:Nat)^4=10000 from rfl]
 rw [low_dec j (u/10000)]
 refine ⟨by omega,?_,?_⟩
 ·rw [show (10000:Nat)=10^4 from rfl,Nat.div_div_eq_div_mul,←Nat.pow_add,Nat.add_comm 4 j];exact h2
 ·rcases h3 with h3|h3
  ·left;omega
  ·rcases Nat.lt_or_ge 1 j with hj|hj
   ·right
    rw [show (10000:Nat)=10^4 from rfl,Nat.div_div_eq_div_mul,←Nat.pow_add,show 4+(j-1)=j+4-1 by omega]
    exact h3
   ·left;omega
theorem low_one {k u:Nat} (h:StopN 1 k u):low k u=Lib.decDigits u:=low_dec k u h
end Go.Proofs.YtmkmafkkpigfpaaGreatDoor
namespace Go.Proofs.YtmkmafkkpigfpaaGreatDoor
open Go.ChangeShapes Go.WideShapes Go.ChangeAt Go.RowKit
set_option linter.unusedVariables false
set_option linter.unusedSimpArgs false
set_option maxRecDepth 100000
section
variable {ρ:Operand→Value} {o:Oper} {w:World} {K:Value→World→Prop}
theorem does_lenS {x:Operand} {S:ByteArray} (ht:o.type=3) (ho:o.op=.call ⟨.builtin .len,#[x],#[9]⟩) (hx:ρ x=.string S) (h:K (.int .i64 (S.size:Int)) w):Does Tryz.prog ρ o w K:=by
 refine does_value (v:=.int .i64 (S.size:Int)) (w':=w) ?_ h
 unfold execOp;rw [ho,ht];simp [hx]
 go_simp
theorem does_sub4 {x y:Operand} {m:Nat} (ho:o.op=.binOp .sub 3 x y 3) (hx:ρ x=.int .i64 ((m+4:Nat):Int)) (hy:ρ y=.int .i64 4) (hm:m≤1000000) (h:K (.int .i64 (m:Int)) w):Does Tryz.prog ρ o w K:=by
 refine does_value (v:=.int .i64 (m:Int)) (w':=w) ?_ h
 have e:((m+4:Nat):Int)-4=(m:Int):=by omega
 unfold execOp;rw [ho];simp only [hx,hy]
 go_simp
 rw [IntKind.wrap_i64]
 omega
theorem does_upto {x c:Operand} {S:ByteArray} {b:Nat} (ho:o.op=.slice 9 x none (some c) none) (hx:ρ x=.string S) (hc:ρ c=.int .i64 (b:Int)) (hb:b≤S.size) (hs:S.size≤1000000) (h:K (.string (S.extract 0 b)) w):Does Tryz.prog ρ o w K:=by
 refine does_value (v:=.string (S.extract 0 b)) (w':=w) ?_ h
 unfold execOp;rw [ho];simp only [hx,hc,Option.map_some,Option.map_none]
 go_simp
theorem does_part {x c d:Operand} {S:ByteArray} {b e:Nat} (ho:o.op=.slice 9 x (some c) (some d) none) (hx:ρ x=.string S) (hc:ρ c=.int .i64 (b:Int)) (hd:ρ d=.int .i64 (e:Int)) (hb:b≤e) (he:e≤S.size) (hs:S.size≤1000000) (h:K (.string (S.extract b e)) w):Does Tryz.prog ρ o w K:=by
 refine does_value (v:=.string (S.extract b e)) (w':=w) ?_ h
 unfold execOp;rw [ho];simp only [hx,hc,hd,Option.map_some,Option.map_none]
 go_simp
end
theorem slice_part {S:ByteArray} {b e:Nat} (w:World) (hb:b≤e) (he:e≤S.size) (hs:S.size≤1000000):(Instr.slice 9 (.string S) (some (.int .i64 (b:Int))) (some (.int .i64 (e:Int))) none).run Tryz.prog w=.ok (.string (S.extract b e)) w:=by
 go_simp
theorem st_ext (l:List UInt8) (b e:Nat):(st l).extract b e=st ((l.drop b).take (e-b)):=by
 apply ByteArray.ext
 apply Array.ext'
 simp [st,ByteArray.data_extract,List.extract_eq_take_drop]
theorem noughts_at (D:List UInt8) (x0 x1 x2 x3:UInt8) (a:Nat) (h1:D.length+1≤a) (h2:a≤D.length+4)
 (h3:∀ q,a≤q→q<D.length+4→(D++[x0,x1,x2,x3]).getD q 0=48) (h4:a=D.length+1∨¬ (D++[x0,x1,x2,x3]).getD (a-1) 0=48) :
 ((D++[x0,x1,x2,x3]).drop D.length).take (a-D.length)=[x0]++Lib.trimRightB [x1,x2,x3] 48:=by
 rw [List.drop_left]
 have g:∀ i,(D++[x0,x1,x2,x3]).getD (D.length+i) 0=[x0,x1,x2,x3].getD i 0:=fun i=>by
  rw [List.getD_eq_getElem?_getD,List.getElem?_append_right (by omega),Nat.add_sub_cancel_left,List.getD_eq_getElem?_getD]
 have ha:a=D.length+1∨a=D.length+2∨a=D.length+3∨a=D.length+4:=by omega
 unfold Lib.trimRightB
 rcases ha with rfl|rfl|rfl|rfl
 ·have e1:=h3 (D.length+1) (by omega) (by omega)
  have e2:=h3 (D.length+2) (by omega) (by omega)
  have e3:=h3 (D.length+3) (by omega) (by omega)
  rw [g] at e1 e2 e3
  simp at e1 e2 e3
  subst e1 e2 e3
  rw [Nat.add_sub_cancel_left]
  simp
 ·have e2:=h3 (D.length+2) (by omega) (by omega)
  have e3:=h3 (D.length+3) (by omega) (by omega)
  have e1:=h4.resolve_left (by omega)
  rw [show D.length+2-1=D.length+1 by omega] at e1
  rw [g] at e1 e2 e3
  simp at e1 e2 e3
  subst e2 e3
  rw [Nat.add_sub_cancel_left]
  simp [e1]
 ·have e3:=h3 (D.length+3) (by omega) (by omega)
  have e2:=h4.resolve_left (by omega)
  rw [show D.length+3-1=D.length+2 by omega] at e2
  rw [g] at e2 e3
  simp at e2 e3
  subst e3
  rw [Nat.add_sub_cancel_left]
  simp [e2]
 ·have e3:=h4.resolve_left (by omega)
  rw [show D.length+4-1=D.length+3 by omega] at e3
  rw [g] at e3
  simp at e3
  rw [Nat.add_sub_cancel_left]
  simp [e3]
end Go.Proofs.YtmkmafkkpigfpaaGreatDoor
namespace Go.Proofs.YtmkmafkkpigfpaaGreatDoor
theorem tmod_side (a b:Int):(0≤a→0≤a.tmod b)∧(a≤0→a.tmod b≤0):=by
 constructor
 ·intro h;exact Int.tmod_nonneg b h
 ·intro h
  have:=Int.tmod_nonneg b (show 0≤-a by omega)
  rw [Int.neg_tmod] at this
  omega
end Go.Proofs.YtmkmafkkpigfpaaGreatDoor
namespace Go.Proofs.YtmkmafkkpigfpaaGreatDoor
set_option linter.unusedVariables false
def mlK (a:List Int) (d:Int):Nat→List Int × Int
 | 0=>([],0)
 | k+1=>((mlK a d k).1++[((mlK a d k).2+a.getD k 0*d)%10000],((mlK a d k).2+a.getD k 0*d)/10000)
theorem mlK_len (a:List Int) (d:Int):∀ k,(mlK a d k).1.length=k
 | 0=>rfl
 | k+1=>by simp [mlK,mlK_len a d k]
theorem prod_bd {x d:Int} (hx:0≤x∧x<10000) (hd:0≤d∧d<10000):0≤x*d∧x*d≤99980001:=by
 have h1:x*d≤9999*9999:=Int.mul_le_mul (by omega) (by omega) hd.1 (by omega)
 exact ⟨Int.mul_nonneg hx.1 hd.1,by omega⟩
theorem mlK_m {a:List Int} {d:Int} (ha:Dg a) (hd:0≤d∧d<10000):∀ k,0≤(mlK a d k).2∧(mlK a d k).2≤9999
 | 0=>by show (0:Int)≤0∧(0:Int)≤9999;omega
 | k+1=>by
   have ih:=mlK_m ha hd k
   have h1:=prod_bd (dg_getD ha k) hd
   simp only [mlK]
   omega
theorem mlK_dg {a:List Int} {d:Int} (ha:Dg a) (hd:0≤d∧d<10000):∀ k,Dg (mlK a d k).1
 | 0=>dg_nil
 | k+1=>by
   have ih:=mlK_dg ha hd k
   simp only [mlK]
   exact dg_snoc ih (by omega) (by omega)
theorem mlK_val (a:List Int) (d:Int):∀ k,val (mlK a d k).1+p10 k*(mlK a d k).2=val (a.take k)*d
 | 0=>by simp [mlK,val]
 | k+1=>by
   have ih:=mlK_val a d k
   rw [val_take a k,Int.add_mul,←ih]
   simp only [mlK]
   rw [val_snoc,mlK_len]
   generalize (mlK a d k).2=m at *
   generalize val (mlK a d k).1=v at *
   generalize a.getD k 0=x at *
   show v+p10 k*((m+x*d)%10000)+10000*p10 k*((m+x*d)/10000)=v+p10 k*m+p10 k*x*d
   have e:p10 k*(m+x*d)=p10 k*(10000*((m+x*d)/10000)+(m+x*d)%10000):=by rw [Int.mul_ediv_add_emod]
   have e1:p10 k*(m+x*d)=p10 k*m+p10 k*(x*d):=Int.mul_add _ _ _
   have e2:p10 k*(10000*((m+x*d)/10000)+(m+x*d)%10000)=10000*(p10 k*((m+x*d)/10000))+p10 k*((m+x*d)%10000):=by rw [Int.mul_add,Int.mul_left_comm]
   rw [Int.mul_assoc (p10 k) x d,Int.mul_assoc 10000]
   omega
def mlN (a:List Int) (d:Int):Nat:=if (mlK a d a.length).2=0 then a.length else a.length+1
theorem ml_le (a:List Int) (d:Int):mlN a d≤a.length+1∧a.length≤mlN a d:=by unfold mlN;split<;>omega
theorem ml_done {a:List Int} {d:Int} (ha:Dg a) (hd:0≤d∧d<10000):(mlK a d (mlN a d)).2=0:=by
 unfold mlN
 split
 ·assumption
 ·have h:=mlK_m ha hd a.length
  simp only [mlK]
  rw [getD_past (l:=a) (Nat.le_refl _),Int.zero_mul]
  omega
theorem ml_more {a:List Int} {d:Int} (ha:Dg a) (hd:0≤d∧d<10000) (k:Nat) (hk:k<mlN a d):k<a.length∨0<(mlK a d k).2:=by
 by_cases h1:k<a.length
 ·exact Or.inl h1
 ·unfold mlN at hk
  split at hk
  ·omega
  ·rename_i hne
   have e:k=a.length:=by omega
   subst e
   have:=mlK_m ha hd a.length
   omega
def shl (i:Nat) (l:List Int):List Int:=List.replicate i 0++l
theorem shl_val (i:Nat) (l:List Int):val (shl i l)=p10 i*val l:=by
 unfold shl
 induction i with
 | zero=>simp [p10]
 | succ i ih=>
   rw [List.replicate_succ,List.cons_append]
   simp only [val,p10]
   rw [ih,Int.mul_assoc]
   omega
theorem shl_dg {i:Nat} {l:List Int} (h:Dg l):Dg (shl i l):=by
 intro d hd
 rcases List.mem_append.1 hd with hd|hd
 ·rw [(List.mem_replicate.1 hd).2];omega
 ·exact h d hd
theorem shl_len (i:Nat) (l:List Int):(shl i l).length=i+l.length:=by simp [shl]
def mlL (a:List Int) (d:Int):List Int:=(mlK a d (mlN a d)).1
theorem mlL_val {a:List Int} {d:Int} (ha:Dg a) (hd:0≤d∧d<10000):val (mlL a d)=val a*d:=by
 have h:=mlK_val a d (mlN a d)
 rw [ml_done ha hd,List.take_of_length_le (ml_le a d).2] at h
 unfold mlL
 omega
theorem mlL_dg {a:List Int} {d:Int} (ha:Dg a) (hd:0≤d∧d<10000):Dg (mlL a d):=mlK_dg ha hd _
theorem mlL_len (a:List Int) (d:Int):(mlL a d).length≤a.length+1:=by unfold mlL;rw [mlK_len];exact (ml_le a d).1
end Go.Proofs.YtmkmafkkpigfpaaGreatDoor
