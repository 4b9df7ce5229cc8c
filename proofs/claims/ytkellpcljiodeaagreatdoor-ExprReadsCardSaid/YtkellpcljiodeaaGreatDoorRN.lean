/- Plain facts on digits in rows to the base 10000, the lowest one first: their worth, sums. Rows of digits in memory: what it means that a slice reads as one, and that what was. Plain facts on remainders, on rounding and on signs, for the laws of layer num. Plain facts on the product of a row of digits and a digit. -/
import Derived.Test.YtkellpcljiodeaaGreatDoorIA
namespace Go.Proofs.YtkellpcljiodeaaGreatDoor
set_option linter.unusedVariables false
def val:List Int→Int
 | []=>0
 | d::r=>d+10000*val r
def p10:Nat→Int
 | 0=>1
 | k+1=>10000*p10 k
def Dg (l:List Int):Prop:=∀ d∈l,0≤d∧d<10000
theorem p10_pos:∀ k,0<p10 k
 | 0=>by decide
 | k+1=>by have:=p10_pos k;unfold p10;omega
theorem dg_nil:Dg []:=fun d h=>by cases h
theorem dg_snoc {l:List Int} {d:Int} (h:Dg l) (h0:0≤d) (h1:d<10000):Dg (l++[d]):=by
 intro x hx
 rcases List.mem_append.1 hx with hx|hx
 ·exact h x hx
 ·rw [List.mem_singleton.1 hx];exact ⟨h0,h1⟩
theorem dg_cons {d:Int} {l:List Int} (h:Dg (d::l)):(0≤d∧d<10000)∧Dg l:=⟨h d (by simp),fun x hx=>h x (by simp [hx])⟩
theorem dg_getD {l:List Int} (h:Dg l) (k:Nat):0≤l.getD k 0∧l.getD k 0<10000:=by
 rw [List.getD_eq_getElem?_getD]
 rcases Nat.lt_or_ge k l.length with hk|hk
 ·rw [List.getElem?_eq_getElem hk];exact h _ (List.getElem_mem hk)
 ·rw [List.getElem?_eq_none hk];simp
theorem dg_take {l:List Int} (h:Dg l) (k:Nat):Dg (l.take k):=fun d hd=>h d (List.mem_of_mem_take hd)
theorem val_snoc:∀ (l:List Int) (d:Int),val (l++[d])=val l+p10 l.length*d
 | [],d=>by simp [val,p10]
 | x::r,d=>by
   have ih:=val_snoc r d
   simp only [List.cons_append,val,List.length_cons,p10]
   rw [ih,Int.mul_assoc]
   generalize p10 r.length*d=z
   omega
theorem val_bd:∀ (l:List Int),Dg l→0≤val l∧val l<p10 l.length
 | [],_=>by decide
 | x::r,h=>by
   obtain ⟨h1,h2⟩:=dg_cons h
   have ih:=val_bd r h2
   simp only [val,List.length_cons,p10]
   omega
theorem take_snoc (l:List Int) (k:Nat) (hk:k<l.length):l.take (k+1)=l.take k++[l.getD k 0]:=by
 rw [List.take_add_one,List.getElem?_eq_getElem hk,List.getD_eq_getElem?_getD,List.getElem?_eq_getElem hk];rfl
theorem val_take (l:List Int) (k:Nat):val (l.take (k+1))=val (l.take k)+p10 k*l.getD k 0:=by
 rcases Nat.lt_or_ge k l.length with hk|hk
 ·rw [take_snoc l k hk,val_snoc,List.length_take,Nat.min_eq_left (Nat.le_of_lt hk)]
 ·rw [List.take_of_length_le hk,List.take_of_length_le (by omega),List.getD_eq_getElem?_getD,List.getElem?_eq_none hk];simp
def upK (a b:List Int):Nat→List Int × Int
 | 0=>([],0)
 | k+1=>((upK a b k).1++[((upK a b k).2+a.getD k 0+b.getD k 0)%10000],((upK a b k).2+a.getD k 0+b.getD k 0)/10000)
theorem upK_len (a b:List Int):∀ k,(upK a b k).1.length=k
 | 0=>rfl
 | k+1=>by simp [upK,upK_len a b k]
theorem upK_m {a b:List Int} (ha:Dg a) (hb:Dg b):∀ k,0≤(upK a b k).2∧(upK a b k).2≤1
 | 0=>by show (0:Int)≤0∧(0:Int)≤1;omega
 | k+1=>by
   have ih:=upK_m ha hb k
   have h1:=dg_getD ha k
   have h2:=dg_getD hb k
   simp only [upK]
   omega
theorem upK_dg {a b:List Int} (ha:Dg a) (hb:Dg b):∀ k,Dg (upK a b k).1
 | 0=>dg_nil
 | k+1=>by
   have ih:=upK_dg ha hb k
   simp only [upK]
   exact dg_snoc ih (by omega) (by omega)
theorem carry (p v s m x y c d:Int) (h:v+p*m=c) (hs:s=m+x+y) (e:p*s=p*(10000*(s/10000)+s%10000)) (d1:p*(m+x+y)=p*m+p*x+p*y) (d2:p*(10000*(s/10000)+s%10000)=10000*(p*(s/10000))+p*(s%10000)):v+p*(s%10000)+10000*(p*(s/10000))=c+p*x+p*y:=by
 subst hs
 omega
theorem upK_val (a b:List Int):∀ k,val (upK a b k).1+p10 k*(upK a b k).2=val (a.take k)+val (b.take k)
 | 0=>by simp [upK,val]
 | k+1=>by
   have ih:=upK_val a b k
   rw [val_take a k,val_take b k]
   simp only [upK]
   rw [val_snoc,upK_len]
   generalize (upK a b k).2=m at *
   generalize val (upK a b k).1=v at *
   generalize a.getD k 0=x at *
   generalize b.getD k 0=y at *
   have h:=carry (p10 k) v (m+x+y) m x y _ 0 ih rfl (by rw [Int.mul_ediv_add_emod]) (by rw [Int.mul_add,Int.mul_add]) (by rw [Int.mul_add,Int.mul_left_comm])
   show _+10000*p10 k*_=_
   rw [Int.mul_assoc,h]
   omega
def upN (a b:List Int):Nat:=if (upK a b (max a.length b.length)).2=0 then max a.length b.length else max a.length b.length+1
def upL (a b:List Int):List Int:=(upK a b (upN a b)).1
theorem up_le (a b:List Int):upN a b≤max a.length b.length+1:=by unfold upN;split<;>omega
theorem up_ge (a b:List Int):a.length≤upN a b∧b.length≤upN a b:=by unfold upN;split<;>omega
theorem getD_past {l:List Int} {k:Nat} (h:l.length≤k):l.getD k 0=0:=by
 rw [List.getD_eq_getElem?_getD,List.getElem?_eq_none h];rfl
theorem up_done {a b:List Int} (ha:Dg a) (hb:Dg b):(upK a b (upN a b)).2=0:=by
 unfold upN
 split
 ·assumption
 ·have h:=upK_m ha hb (max a.length b.length)
  simp only [upK]
  rw [getD_past (l:=a) (by omega),getD_past (l:=b) (by omega)]
  omega
theorem up_more {a b:List Int} (ha:Dg a) (hb:Dg b) (k:Nat) (hk:k<upN a b):k<a.length∨k<b.length∨0<(upK a b k).2:=by
 by_cases h1:k<a.length
 ·exact Or.inl h1
 ·by_cases h2:k<b.length
  ·exact Or.inr (Or.inl h2)
  ·refine Or.inr (Or.inr ?_)
   unfold upN at hk
   split at hk
   ·omega
   ·rename_i hne
    have e:k=max a.length b.length:=by omega
    have:=upK_m ha hb k
    rw [←e] at hne
    omega
theorem upL_val {a b:List Int} (ha:Dg a) (hb:Dg b):val (upL a b)=val a+val b:=by
 have h:=upK_val a b (upN a b)
 have hg:=up_ge a b
 rw [up_done ha hb,List.take_of_length_le hg.1,List.take_of_length_le hg.2] at h
 unfold upL
 omega
theorem upL_dg {a b:List Int} (ha:Dg a) (hb:Dg b):Dg (upL a b):=upK_dg ha hb _
theorem upL_len (a b:List Int):(upL a b).length≤max a.length b.length+1:=by unfold upL;rw [upK_len];exact up_le a b
def dnK (a b:List Int):Nat→List Int × Int
 | 0=>([],0)
 | k+1=>if a.getD k 0-(dnK a b k).2-b.getD k 0<0 then ((dnK a b k).1++[a.getD k 0-(dnK a b k).2-b.getD k 0+10000],1) else ((dnK a b k).1++[a.getD k 0-(dnK a b k).2-b.getD k 0],0)
theorem dnK_len (a b:List Int):∀ k,(dnK a b k).1.length=k
 | 0=>rfl
 | k+1=>by unfold dnK;split<;>simp [dnK_len a b k]
theorem dnK_m (a b:List Int):∀ k,(dnK a b k).2=0∨(dnK a b k).2=1
 | 0=>Or.inl rfl
 | k+1=>by unfold dnK;split<;>simp
theorem dnK_dg {a b:List Int} (ha:Dg a) (hb:Dg b):∀ k,Dg (dnK a b k).1
 | 0=>dg_nil
 | k+1=>by
   have ih:=dnK_dg ha hb k
   have h1:=dg_getD ha k
   have h2:=dg_getD hb k
   have h3:=dnK_m a b k
   unfold dnK
   split
   ·exact dg_snoc ih (by omega) (by omega)
   ·exact dg_snoc ih (by omega) (by omega)
theorem dnK_val (a b:List Int):∀ k,val (dnK a b k).1-p10 k*(dnK a b k).2=val (a.take k)-val (b.take k)
 | 0=>by simp [dnK,val]
 | k+1=>by
   have ih:=dnK_val a b k
   rw [val_take a k,val_take b k]
   unfold dnK
   generalize he:(dnK a b k).2=m at *
   generalize ho:(dnK a b k).1=o at *
   have hl:o.length=k:=by rw [←ho];exact dnK_len a b k
   generalize a.getD k 0=x at *
   generalize b.getD k 0=y at *
   split
   ·show val (o++[x-m-y+10000])-10000*p10 k*1=_
    rw [val_snoc,hl,Int.mul_add,Int.mul_sub,Int.mul_sub]
    generalize p10 k*m=pm at *
    generalize p10 k*x=px at *
    generalize p10 k*y=py at *
    omega
   ·show val (o++[x-m-y])-10000*p10 k*0=_
    rw [val_snoc,hl,Int.mul_sub,Int.mul_sub]
    generalize p10 k*m=pm at *
    generalize p10 k*x=px at *
    generalize p10 k*y=py at *
    omega
def dnL (a b:List Int):List Int:=(dnK a b a.length).1
theorem dnL_val {a b:List Int} (ha:Dg a) (hb:Dg b) (hl:b.length≤a.length) (h:val b≤val a):val (dnL a b)=val a-val b:=by
 have e:=dnK_val a b a.length
 rw [List.take_of_length_le (Nat.le_refl _),List.take_of_length_le hl] at e
 have hd:=val_bd _ (dnK_dg ha hb a.length)
 rw [dnK_len] at hd
 have hm:=dnK_m a b a.length
 unfold dnL
 rcases hm with hm|hm<;>rw [hm] at e<;>omega
theorem dnL_dg {a b:List Int} (ha:Dg a) (hb:Dg b):Dg (dnL a b):=dnK_dg ha hb _
theorem dnL_len (a b:List Int):(dnL a b).length=a.length:=dnK_len _ _ _
def dig (n:Nat):List Int:=if h:n=0 then [] else ((n%10000:Nat):Int)::dig (n/10000)
termination_by n
decreasing_by exact Nat.div_lt_self (by omega) (by omega)
theorem dig_zero:dig 0=[]:=by rw [dig];rfl
theorem dig_pos {n:Nat} (h:¬ n=0):dig n=((n%10000:Nat):Int)::dig (n/10000):=by rw [dig,dif_neg h]
theorem dig_dg (n:Nat):Dg (dig n):=by
 induction n using Nat.strongRecOn with
 | ind n ih=>
   by_cases h:n=0
   ·subst h;rw [dig_zero];exact dg_nil
   ·rw [dig_pos h]
    intro d hd
    rcases List.mem_cons.1 hd with rfl|hd
    ·omega
    ·exact ih _ (by omega) d hd
theorem dig_val (n:Nat):val (dig n)=n:=by
 induction n using Nat.strongRecOn with
 | ind n ih=>
   by_cases h:n=0
   ·subst h;rw [dig_zero];rfl
   ·rw [dig_pos h]
    simp only [val]
    rw [ih _ (by omega)]
    omega
def Can (l:List Int):Prop:=∀ h:l≠[],l.getLast h≠0
theorem can_cons {d:Int} {l:List Int} (h:Can (d::l)):Can l:=by
 intro hne
 have:=h (by simp)
 rw [List.getLast_cons hne] at this
 exact this
theorem can_val:∀ {l:List Int},Dg l→Can l→l≠[]→0<val l
 | [],_,_,h=>absurd rfl h
 | [d],hd,hc,_=>by
   have:=hc (by simp)
   have h1:=(dg_cons hd).1
   simp only [List.getLast_singleton] at this
   simp only [val];omega
 | d::e::r,hd,hc,_=>by
   have h1:=dg_cons hd
   have:=can_val h1.2 (can_cons hc) (by simp)
   simp only [val] at *
   omega
theorem can_dig:∀ {l:List Int},Dg l→Can l→l=dig (val l).toNat
 | [],_,_=>by rw [show (val []).toNat=0 from rfl,dig_zero]
 | d::r,hd,hc=>by
   have h1:=dg_cons hd
   have hp:=can_val hd hc (by simp)
   have hb:=(val_bd r h1.2).1
   have ih:=can_dig h1.2 (can_cons hc)
   have e1:(val (d::r)).toNat%10000=d.toNat:=by simp only [val] at *;omega
   have e2:(val (d::r)).toNat/10000=(val r).toNat:=by simp only [val] at *;omega
   rw [dig_pos (by omega),e1,e2,←ih]
   congr 1
   omega
theorem can_nil:Can []:=fun h=>absurd rfl h
theorem dig_can (n:Nat):Can (dig n):=by
 induction n using Nat.strongRecOn with
 | ind n ih=>
   by_cases h:n=0
   ·subst h;rw [dig_zero];exact can_nil
   ·rw [dig_pos h]
    intro hne
    by_cases h2:n/10000=0
    ·simp only [h2,dig_zero,List.getLast_singleton];omega
    ·have hn2:dig (n/10000)≠[]:=by rw [dig_pos h2];simp
     rw [List.getLast_cons hn2]
     exact ih _ (by omega) hn2
theorem dig_nil {n:Nat}:dig n=[]↔n=0:=by
 constructor
 ·intro h
  have:=dig_val n
  rw [h] at this
  simp only [val] at this
  omega
 ·rintro rfl;exact dig_zero
theorem val_drop0 (l:List Int) (k:Nat) (hk:k+1≤l.length) (h:l.getD k 0=0):val (l.take (k+1))=val (l.take k):=by
 rw [val_take,h,Int.mul_zero,Int.add_zero]
theorem can_take (l:List Int) (k:Nat) (hk:k+1≤l.length) (h:¬ l.getD k 0=0):Can (l.take (k+1)):=by
 intro hne
 rw [List.getLast_eq_getElem]
 have e:(l.take (k+1))[(l.take (k+1)).length-1]'(by have:=List.length_pos_iff.2 hne;omega)=l.getD k 0:=by
  rw [List.getElem_take,List.getD_eq_getElem?_getD,List.getElem?_eq_getElem (by omega)]
  simp only [List.length_take,Nat.min_eq_left hk,Nat.add_sub_cancel]
  rfl
 rw [e];exact h
theorem trim_dig {l:List Int} (hd:Dg l) {k:Nat} (hk:k≤l.length) (hv:val (l.take k)=val l) (hc:k=0∨¬ l.getD (k-1) 0=0):l.take k=dig (val l).toNat:=by
 rw [←hv]
 refine can_dig (dg_take hd k) ?_
 rcases hc with rfl|hc
 ·rw [List.take_zero];exact can_nil
 ·rcases k with _|k
  ·rw [List.take_zero];exact can_nil
  ·exact can_take l k hk (by simpa using hc)
theorem last_of {l:List Int} (hc:Can l) {k:Nat} (hk:k+1=l.length):¬ l.getD k 0=0:=by
 have hne:l≠[]:=by intro h;rw [h] at hk;simp at hk
 have:=hc hne
 rw [List.getLast_eq_getElem] at this
 rw [List.getD_eq_getElem?_getD,List.getElem?_eq_getElem (by omega)]
 have e:k=l.length-1:=by omega
 subst e
 exact this
theorem can_ge {l:List Int} (hd:Dg l) (hc:Can l) (hl:0<l.length):p10 (l.length-1)≤val l:=by
 obtain ⟨k,hk⟩:∃ k,k+1=l.length:=⟨l.length-1,by omega⟩
 have hlast:=last_of hc hk
 have hg:=dg_getD hd k
 have e:=val_take l k
 rw [hk,List.take_of_length_le (Nat.le_refl _)] at e
 have hb:=(val_bd _ (dg_take hd k)).1
 have hp:p10 k*1≤p10 k*l.getD k 0:=Int.mul_le_mul_of_nonneg_left (by omega) (Int.le_of_lt (p10_pos k))
 rw [show l.length-1=k by omega]
 omega
theorem p10_mono {j k:Nat} (h:j≤k):p10 j≤p10 k:=by
 induction k with
 | zero=>rw [show j=0 by omega];exact Int.le_refl _
 | succ k ih=>
   rcases Nat.lt_or_ge k j with h1|h1
   ·rw [show j=k+1 by omega];exact Int.le_refl _
   ·have:=ih h1
    have:=p10_pos k
    show p10 j≤10000*p10 k
    omega
theorem p10_lt {j k:Nat} (h:p10 j<p10 k):j<k:=by
 rcases Nat.lt_or_ge j k with h1|h1
 ·exact h1
 ·have:=p10_mono h1;omega
theorem dig_len {n k:Nat} (h:(n:Int)<p10 k):(dig n).length≤k:=by
 rcases Nat.eq_zero_or_pos (dig n).length with h0|h0
 ·omega
 ·have h1:=can_ge (dig_dg n) (dig_can n) h0
  rw [dig_val] at h1
  have:=p10_lt (Int.lt_of_le_of_lt h1 h)
  omega
theorem len_lt {a b:List Int} (ha:Dg a) (hb:Dg b) (cb:Can b) (h:a.length<b.length):val a<val b:=by
 have h1:=(val_bd a ha).2
 have h2:=can_ge hb cb (by omega)
 have h3:=p10_mono (show a.length≤b.length-1 by omega)
 omega
theorem val_split (l:List Int):∀ k,val l=val (l.take k)+p10 k*val (l.drop k):=by
 intro k
 induction k with
 | zero=>simp [val,p10]
 | succ k ih=>
   rw [val_take,ih]
   rcases Nat.lt_or_ge k l.length with hk|hk
   ·have e:l.drop k=l.getD k 0::l.drop (k+1):=by
     rw [List.drop_eq_getElem_cons hk,List.getD_eq_getElem?_getD,List.getElem?_eq_getElem hk];rfl
    rw [e]
    simp only [val,p10]
    rw [Int.mul_add,←Int.mul_assoc,Int.mul_comm (p10 k) 10000]
    omega
   ·rw [List.drop_eq_nil_of_le hk,List.drop_eq_nil_of_le (by omega),getD_past hk]
    simp [val]
theorem digit_lt {a b:List Int} (ha:Dg a) (hb:Dg b) {k:Nat} (hk:a.drop (k+1)=b.drop (k+1)) (h:a.getD k 0<b.getD k 0):val a<val b:=by
 rw [val_split a (k+1),val_split b (k+1),hk,val_take,val_take]
 have h1:=val_bd _ (dg_take ha k)
 have h2:=val_bd _ (dg_take hb k)
 have h3:p10 (a.take k).length≤p10 k:=p10_mono (by simp;omega)
 have h4:p10 k*(a.getD k 0+1)≤p10 k*b.getD k 0:=Int.mul_le_mul_of_nonneg_left (by omega) (Int.le_of_lt (p10_pos k))
 rw [Int.mul_add,Int.mul_one] at h4
 omega
end Go.Proofs.YtkellpcljiodeaaGreatDoor
namespace Go.Proofs.YtkellpcljiodeaaGreatDoor
open Go.ChangeShapes Go.WideShapes Go.ChangeAt Go.RowKit
set_option linter.unusedVariables false
def sgZ (a b:Int) (n:Nat):Int:=if a<0↔b<0 then n else -n
theorem sgZ_same {a b:Int} (n:Nat) (h:(a<0↔b<0)):sgZ a b n=n:=if_pos h
theorem sgZ_other {a b:Int} (n:Nat) (h:¬ (a<0↔b<0)):sgZ a b n=-n:=if_neg h
theorem two (a b c d:Int) (h1:a=c) (h2:b=d):Ending.returned (.tuple #[.int .i64 a,.int .i64 b])=.returned (.tuple #[.int .i64 c,.int .i64 d]):=by rw [h1,h2]
def fitV (n:Int):Int:=if -9223372036854775808≤n∧n≤9223372036854775807 then n else 0
def fitE (n:Int):Int:=if -9223372036854775808≤n∧n≤9223372036854775807 then 0 else 9
theorem fitV_in {n:Int} (h:I64 n):fitV n=n:=by unfold fitV;exact if_pos h
theorem fitV_out {n:Int} (h:¬ I64 n):fitV n=0:=by unfold fitV;exact if_neg h
theorem fitE_in {n:Int} (h:I64 n):fitE n=0:=by unfold fitE;exact if_pos h
theorem fitE_out {n:Int} (h:¬ I64 n):fitE n=9:=by unfold fitE;exact if_neg h
theorem eq0_false {b:Int} (h:¬ b=0):(b==0)=false:=by simpa using h
theorem sgZ_div (a b:Int):sgZ a b (a.natAbs/b.natAbs)=a.tdiv b:=by
 unfold sgZ
 rw [Int.natCast_ediv]
 by_cases ha:a<0<;>by_cases hb:b<0
 ·rw [if_pos (by simp [ha,hb]),show (a.natAbs:Int)=-a by omega,show (b.natAbs:Int)=-b by omega,←Int.tdiv_eq_ediv_of_nonneg (by omega),Int.neg_tdiv,Int.tdiv_neg,Int.neg_neg]
 ·rw [if_neg (by simp [ha,hb]),show (a.natAbs:Int)=-a by omega,show (b.natAbs:Int)=b by omega,←Int.tdiv_eq_ediv_of_nonneg (by omega),Int.neg_tdiv,Int.neg_neg]
 ·rw [if_neg (by simp [ha,hb]),show (a.natAbs:Int)=a by omega,show (b.natAbs:Int)=-b by omega,←Int.tdiv_eq_ediv_of_nonneg (by omega),Int.tdiv_neg,Int.neg_neg]
 ·rw [if_pos (by simp [ha,hb]),show (a.natAbs:Int)=a by omega,show (b.natAbs:Int)=b by omega,←Int.tdiv_eq_ediv_of_nonneg (by omega)]
theorem sgZ_mul (a b:Int):sgZ a b (a.natAbs*b.natAbs)=a*b:=by
 unfold sgZ
 rw [Int.natCast_mul]
 by_cases ha:a<0<;>by_cases hb:b<0
 ·rw [if_pos (by simp [ha,hb]),show (a.natAbs:Int)=-a by omega,show (b.natAbs:Int)=-b by omega,Int.neg_mul_neg]
 ·rw [if_neg (by simp [ha,hb]),show (a.natAbs:Int)=-a by omega,show (b.natAbs:Int)=b by omega,Int.neg_mul,Int.neg_neg]
 ·rw [if_neg (by simp [ha,hb]),show (a.natAbs:Int)=a by omega,show (b.natAbs:Int)=-b by omega,Int.mul_neg,Int.neg_neg]
 ·rw [if_pos (by simp [ha,hb]),show (a.natAbs:Int)=a by omega,show (b.natAbs:Int)=b by omega]
abbrev pr (v e:Int):Ending:=.returned (.tuple #[.int .i64 v,.int .i64 e])
end Go.Proofs.YtkellpcljiodeaaGreatDoor
namespace Go.Proofs.YtkellpcljiodeaaGreatDoor
open Go.ChangeShapes Go.WideShapes Go.ChangeAt Go.RowKit Go.Lib
set_option linter.unusedVariables false
def Rd (w:World) (v:Value) (ds:List Int):Prop:=
 ∃ oa cap,v=.slice oa ds.length cap∧ds.length≤cap∧cap≤maxLen∧∀ j,j<ds.length→∃ g,oa=some ⟨g,0,none⟩∧g<w.heap.size∧w.cell? ⟨g,j,none⟩=some (.int .i64 (ds.getD j 0))
theorem Rd.old {w w':World} {v:Value} {ds:List Int} (h:Rd w v ds) (ho:Old w w'):Rd w' v ds:=by
 obtain ⟨oa,cap,rfl,h1,h2,h3⟩:=h
 refine ⟨oa,cap,rfl,h1,h2,fun j hj=>?_⟩
 obtain ⟨g,rfl,hg,hc⟩:=h3 j hj
 exact ⟨g,rfl,Nat.lt_of_lt_of_le hg ho.size,(ho.cell hg).trans hc⟩
theorem Rd.nil (w:World):Rd w (.slice none 0 0) []:=⟨none,0,rfl,Nat.le_refl _,Nat.zero_le _,fun j hj=>absurd hj (Nat.not_lt_zero _)⟩
theorem Rd.take {w:World} {oa:Option Addr} {cap:Nat} {ds:List Int} (h1:ds.length≤cap) (h2:cap≤maxLen)
 (h3:∀ j,j<ds.length→∃ g,oa=some ⟨g,0,none⟩∧g<w.heap.size∧w.cell? ⟨g,j,none⟩=some (.int .i64 (ds.getD j 0))) {k:Nat} (hk:k≤ds.length):Rd w (.slice oa k cap) (ds.take k):=by
 have hl:(ds.take k).length=k:=by rw [List.length_take];omega
 refine ⟨oa,cap,by rw [hl],by omega,h2,fun j hj=>?_⟩
 obtain ⟨g,h4,h5,h6⟩:=h3 j (by omega)
 refine ⟨g,h4,h5,h6.trans ?_⟩
 rw [List.getD_eq_getElem?_getD,List.getD_eq_getElem?_getD,List.getElem?_take_of_lt (by omega)]
theorem Rd.of_owns {w:World} {base:Nat} {v:Value} {ds:List Int} {n:Nat} (h:w.ownsRow base 3 1 v n (ds.map (Value.int .i64))):Rd w v ds:=by
 have hl:=h.1
 rw [List.length_map,Nat.mul_one] at hl
 subst hl
 rcases h.2 with ⟨rfl,hn⟩|⟨g,cap,cur,rfl,hb,hw,hc,hm,hs,ht⟩
 ·rw [List.length_eq_zero_iff] at hn;subst hn;exact Rd.nil w
 ·refine ⟨some ⟨g,0,none⟩,cap,rfl,hc,hm,fun j hj=>⟨g,rfl,?_,?_⟩⟩
  ·rcases Nat.lt_or_ge g w.heap.size with h1|h1
   ·exact h1
   ·rw [Array.getElem?_eq_none h1] at hw;cases hw
  ·rw [h.cellAt j (by omega),List.getElem?_map,List.getD_eq_getElem?_getD,List.getElem?_eq_getElem hj];rfl
def RetD (w:World) (ds:List Int) (e:Ending) (w':World):Prop:=∃ v,e=.returned v∧Rd w' v ds∧Old w w'
theorem new_one (wr:World) (x:Value) (T:TypeId):∀ j u,[x][j]?=some u→(wr.alloc (.cells #[x] T)).cell? ((⟨wr.heap.size,0,none⟩:Addr).add j)=some u:=by
 intro j u hj
 match j,hj with
 | 0,hj=>simp at hj;subst hj;simp [Addr.add]
theorem one_int (x:Int):∀ u∈[Value.int .i64 x],u.oneCell'=true:=by
 intro u hu;simp at hu;subst hu;rfl
def Two (w:World) (b:Nat) (u v:Value):Prop:=w.heap[b]?=some (.cells #[u,v] 120 (0,0))
theorem Two.c0 {w:World} {b:Nat} {u v:Value} (h:Two w b u v):w.cell? ⟨b,0,none⟩=some u:=by unfold Two at h;simp [World.cell?,h]
theorem Two.c1 {w:World} {b:Nat} {u v:Value} (h:Two w b u v):w.cell? ⟨b,1,none⟩=some v:=by unfold Two at h;simp [World.cell?,h]
theorem Two.f {w:World} {b:Nat} {u v:Value} (h:Two w b u v) (o:Nat):w.frozen? ⟨b,o,none⟩=false:=by unfold Two at h;simp [World.frozen?,h]
theorem Two.lt {w:World} {b:Nat} {u v:Value} (h:Two w b u v):b<w.heap.size:=by
 unfold Two at h
 rcases Nat.lt_or_ge b w.heap.size with h'|h'
 ·exact h'
 ·rw [Array.getElem?_eq_none h'] at h;cases h
theorem Two.alloc {w:World} {b:Nat} {u v:Value} (h:Two w b u v) (o:Obj):Two (w.alloc o) b u v:=(Below.heap_alloc w o b h.lt).trans h
theorem Two.new (w:World) (u v:Value):Two (w.alloc (.cells #[u,v] 120)) w.heap.size u v:=(MapKept.heap_alloc w _).1
theorem Two.old {w w':World} {b:Nat} {u v:Value} (h:Two w b u v) (ho:Old w w'):Two w' b u v:=(ho.block b h.lt).trans h
theorem Two.grown {w w':World} {b:Nat} {u v:Value} {row:Option Nat} (h:Two w b u v) (hg:w.grownBy w' row) (hr:row≠some b):Two w' b u v:=(hg.block b h.lt (fun e=>hr e.symm)).trans h
theorem info3N:(Tryz.prog.info? 3).map (fun i=>(i.zero,i.size,i.bytes))=some (some (.int .i64 0),1,8):=by kernel_rfl
end Go.Proofs.YtkellpcljiodeaaGreatDoor
namespace Go.Proofs.YtkellpcljiodeaaGreatDoor
theorem tmod_side (a b:Int):(0≤a→0≤a.tmod b)∧(a≤0→a.tmod b≤0):=by
 constructor
 ·intro h;exact Int.tmod_nonneg b h
 ·intro h
  have:=Int.tmod_nonneg b (show 0≤-a by omega)
  rw [Int.neg_tmod] at this
  omega
end Go.Proofs.YtkellpcljiodeaaGreatDoor
namespace Go.Proofs.YtkellpcljiodeaaGreatDoor
set_option linter.unusedVariables false
def mlK (a:List Int) (d:Int):Nat→List Int × Int
 | 0=>([],0)
 | k+1=>((mlK a d k).1++[((mlK a d k).2+a.getD k 0*d)%10000],((mlK a d k).2+a.getD k 0*d)/10000)
theorem mlK_len (a:List Int) (d:Int):∀ k,(mlK a d k).1.length=k
 | 0=>rfl
 | k+1=>by simp [mlK,mlK_len a d k]
theorem prod_bd {x d:Int} (hx:0≤x∧x<10000) (hd:0≤d∧d<10000):0≤x*d∧x*d≤99980001:=by
 have h1:x*d≤9999*9999:=Int.mul_le_mul (by omega) (by omega) hd.1 (by omega)
 exact ⟨Int.mul_nonneg hx.1 hd.1,by omega⟩
theorem mlK_m {a:List Int} {d:Int} (ha:Dg a) (hd:0≤d∧d<10000):∀ k,0≤(mlK a d k).2∧(mlK a d k).2≤9999
 | 0=>by show (0:Int)≤0∧(0:Int)≤9999;omega
 | k+1=>by
   have ih:=mlK_m ha hd k
   have h1:=prod_bd (dg_getD ha k) hd
   simp only [mlK]
   omega
theorem mlK_dg {a:List Int} {d:Int} (ha:Dg a) (hd:0≤d∧d<10000):∀ k,Dg (mlK a d k).1
 | 0=>dg_nil
 | k+1=>by
   have ih:=mlK_dg ha hd k
   simp only [mlK]
   exact dg_snoc ih (by omega) (by omega)
theorem mlK_val (a:List Int) (d:Int):∀ k,val (mlK a d k).1+p10 k*(mlK a d k).2=val (a.take k)*d
 | 0=>by simp [mlK,val]
 | k+1=>by
   have ih:=mlK_val a d k
   rw [val_take a k,Int.add_mul,←ih]
   simp only [mlK]
   rw [val_snoc,mlK_len]
   generalize (mlK a d k).2=m at *
   generalize val (mlK a d k).1=v at *
   generalize a.getD k 0=x at *
   show v+p10 k*((m+x*d)%10000)+10000*p10 k*((m+x*d)/10000)=v+p10 k*m+p10 k*x*d
   have e:p10 k*(m+x*d)=p10 k*(10000*((m+x*d)/10000)+(m+x*d)%10000):=by rw [Int.mul_ediv_add_emod]
   have e1:p10 k*(m+x*d)=p10 k*m+p10 k*(x*d):=Int.mul_add _ _ _
   have e2:p10 k*(10000*((m+x*d)/10000)+(m+x*d)%10000)=10000*(p10 k*((m+x*d)/10000))+p10 k*((m+x*d)%10000):=by rw [Int.mul_add,Int.mul_left_comm]
   rw [Int.mul_assoc (p10 k) x d,Int.mul_assoc 10000]
   omega
def mlN (a:List Int) (d:Int):Nat:=if (mlK a d a.length).2=0 then a.length else a.length+1
theorem ml_le (a:List Int) (d:Int):mlN a d≤a.length+1∧a.length≤mlN a d:=by unfold mlN;split<;>omega
theorem ml_done {a:List Int} {d:Int} (ha:Dg a) (hd:0≤d∧d<10000):(mlK a d (mlN a d)).2=0:=by
 unfold mlN
 split
 ·assumption
 ·have h:=mlK_m ha hd a.length
  simp only [mlK]
  rw [getD_past (l:=a) (Nat.le_refl _),Int.zero_mul]
  omega
theorem ml_more {a:List Int} {d:Int} (ha:Dg a) (hd:0≤d∧d<10000) (k:Nat) (hk:k<mlN a d):k<a.length∨0<(mlK a d k).2:=by
 by_cases h1:k<a.length
 ·exact Or.inl h1
 ·unfold mlN at hk
  split at hk
  ·omega
  ·rename_i hne
   have e:k=a.length:=by omega
   subst e
   have:=mlK_m ha hd a.length
   omega
def shl (i:Nat) (l:List Int):List Int:=List.replicate i 0++l
theorem shl_val (i:Nat) (l:List Int):val (shl i l)=p10 i*val l:=by
 unfold shl
 induction i with
 | zero=>simp [p10]
 | succ i ih=>
   rw [List.replicate_succ,List.cons_append]
   simp only [val,p10]
   rw [ih,Int.mul_assoc]
   omega
theorem shl_dg {i:Nat} {l:List Int} (h:Dg l):Dg (shl i l):=by
 intro d hd
 rcases List.mem_append.1 hd with hd|hd
 ·rw [(List.mem_replicate.1 hd).2];omega
 ·exact h d hd
theorem shl_len (i:Nat) (l:List Int):(shl i l).length=i+l.length:=by simp [shl]
def mlL (a:List Int) (d:Int):List Int:=(mlK a d (mlN a d)).1
theorem mlL_val {a:List Int} {d:Int} (ha:Dg a) (hd:0≤d∧d<10000):val (mlL a d)=val a*d:=by
 have h:=mlK_val a d (mlN a d)
 rw [ml_done ha hd,List.take_of_length_le (ml_le a d).2] at h
 unfold mlL
 omega
theorem mlL_dg {a:List Int} {d:Int} (ha:Dg a) (hd:0≤d∧d<10000):Dg (mlL a d):=mlK_dg ha hd _
theorem mlL_len (a:List Int) (d:Int):(mlL a d).length≤a.length+1:=by unfold mlL;rw [mlK_len];exact (ml_le a d).1
end Go.Proofs.YtkellpcljiodeaaGreatDoor
