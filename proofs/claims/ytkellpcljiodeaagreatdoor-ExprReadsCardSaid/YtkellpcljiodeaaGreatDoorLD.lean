/- Layer vtext: decimals as text. strings.Builder, told apart from the caller's own rows of bytes: which blocks a WriteByte. Layer vtext: a text in quotes. -/
import Derived.Lib.ItoaLen
import Derived.Deep.CutRange
import Derived.Laws.AppendOwn
import Derived.Test.YtkellpcljiodeaaGreatDoorVP
set_option maxHeartbeats 2000000
namespace Go.Proofs.YtkellpcljiodeaaGreatDoor
open Go.ChangeShapes Go.WideShapes Go.ChangeAt Go.RowKit Go.Lib
set_option linter.unusedVariables false
set_option linter.unusedSimpArgs false
set_option maxRecDepth 100000
abbrev st (l:List UInt8):ByteArray:=⟨l.toArray⟩
def dgt (n:Nat):UInt8:=UInt8.ofNat (48+n)
def restL (u:Nat):List UInt8:=[dgt (u%10000/1000),dgt (u%1000/100),dgt (u%100/10),dgt (u%10)]
theorem dec5 (u:Nat):Lib.decDigits (10000+u%10000)=49::restL u:=by
 rw [Lib.decDigits,dif_neg (by omega),Lib.decDigits,dif_neg (by omega),Lib.decDigits,dif_neg (by omega),Lib.decDigits,dif_neg (by omega),Lib.decDigits,dif_pos (by omega)]
 unfold restL dgt
 rw [show (10000+u%10000)/10/10/10/10=1 by omega,show (10000+u%10000)/10/10/10%10=u%10000/1000 by omega,show (10000+u%10000)/10/10%10=u%1000/100 by omega,show (10000+u%10000)/10%10=u%100/10 by omega,show (10000+u%10000)%10=u%10 by omega]
 rfl
def decU (u:Nat):List UInt8:=Lib.decDigits (u/10000)++[46]++(restL u).take 1++Lib.trimRightB ((restL u).drop 1) 48
def decL (n:Int):List UInt8:=if n<0 then 45::decU n.natAbs else decU n.natAbs
theorem fu_int (x:Int) (h0:0≤x) (h1:x<18446744073709551616) (w:World) (he:Env w) :
 Calls Tryz.prog 154 #[.int .u64 x,.int .i64 10] w fun e w'=>e=.returned (.string (st (Lib.decDigits x.toNat)))∧Old w w':=by
 obtain ⟨u,rfl⟩:∃ u:Nat,x=u:=⟨x.toNat,by omega⟩
 exact fu_any u (by omega) w he
theorem dropWhile_le {α:Type} (p:α→Bool):∀ l:List α,(l.dropWhile p).length≤l.length
 | []=>Nat.le_refl _
 | x::l=>by
   rw [List.dropWhile_cons]
   split
   ·exact Nat.le_trans (dropWhile_le p l) (by simp)
   ·exact Nat.le_refl _
theorem trim3 (b c d:UInt8):(Lib.trimRightB [b,c,d] 48).length≤3:=by
 unfold Lib.trimRightB
 rw [List.length_reverse]
 exact Nat.le_trans (dropWhile_le _ _) (Nat.le_refl _)
theorem dec_pos (n:Int) (u:Nat) (hu:n=u) (hn:I64 n) (w:World) (he:Env w) :
 Calls Tryz.prog 118 #[.int .i64 n] w fun e w'=>e=.returned (.string (st (decU u)))∧Old w w':=by
 have h0:¬ n<0:=by omega
 have hw:IntKind.u64.wrap n=(u:Int):=by rw [IntKind.wrap_u64];unfold I64 at hn;omega
 have hb:u<18446744073709551616:=by unfold I64 at hn;omega
 have HE:=hid he
 have HO:=hid (Old.refl w)
 clear he
 have hr:∀ W,Env W→Calls Tryz.prog 154 #[.int .u64 (10000+(u:Int)%10000),.int .i64 10] W fun e w'=>e=.returned (.string (st (49::restL u)))∧Old W w':=by
  intro W hW
  have:=fu_int (10000+(u:Int)%10000) (by omega) (by omega) W hW
  rwa [show (10000+(u:Int)%10000).toNat=10000+u%10000 by omega,dec5] at this
 obtain ⟨a,b,c,d,hR⟩:∃ a b c d,restL u=[a,b,c,d]:=⟨_,_,_,_,rfl⟩
 rw [hR] at hr
 have HR:=hid hR
 clear hR
 have hD:(Lib.decDigits ((u:Int)/10000).toNat).length≤20:=by rw [Lib.decDigits_length];exact Lib.nDigits_le20 _ (by omega)
 have hT:(Lib.trimRightB [b,c,d] 48).length≤3:=trim3 b c d
 have hX:(st [49,a,b,c,d]).extract 1 5=st [a,b,c,d]:=rfl
 go_enter Tryz.func118,Tryz.ntmps118
 go_upto_region 6 with (first
  | (go_at_call 154;first
    | ((with_reducible refine (hr _ HE.out).mono ?_);rintro e w1 ⟨rfl,o1⟩;replace HE:=hid (HE.out.old o1);replace HO:=hid (HO.out.trans o1);clear o1)
    | ((with_reducible refine (fu_int _ (by omega) (by omega) _ HE.out).mono ?_);rintro e w1 ⟨rfl,o1⟩;replace HE:=hid (HE.out.old o1);replace HO:=hid (HO.out.trans o1);clear o1)))
 refine wp_region_inv (spOf [.eq (.string (st [])),.eq (.string (st (Lib.decDigits ((u:Int)/10000).toNat))),.eq (.string (st ([]++(Lib.decDigits ((u:Int)/10000).toNat)))),.eq (.string (st ([]++(Lib.decDigits ((u:Int)/10000).toNat)++[46]))),.eq (.string (st [a,b,c,d])),.eq (.string (st [a])),.eq (.string (st ([]++(Lib.decDigits ((u:Int)/10000).toNat)++[46]++[a]))),.eq (.string (st [a,b,c,d])),.eq (.string (st [b,c,d])),.eq (.string (st (Lib.trimRightB [b,c,d] 48))),.eq (.string (st ([]++(Lib.decDigits ((u:Int)/10000).toNat)++[46]++[a]++(Lib.trimRightB [b,c,d] 48)))),.eq (.string (st ([]++(Lib.decDigits ((u:Int)/10000).toNat)++[46]++[a]++(Lib.trimRightB [b,c,d] 48))))]) (by kernel_rfl) (by kernel_rfl) (spOf_mono _) ?_ ?_
 ·refine ⟨?_,?_,?_,?_,?_,?_,?_,?_,?_,?_,?_,?_,trivial⟩
  ·refine step_plain rfl fun ρ wr ho hr hd=>?_
   exact does_move rfl ((hr.1 3 rfl).trans rfl) ⟨in_eq rfl,Old.refl _⟩
  ·refine step_plain rfl fun ρ wr ho hr hd=>?_
   exact does_move rfl ((hr.1 5 rfl).trans rfl) ⟨in_eq rfl,Old.refl _⟩
  ·refine step_plain rfl fun ρ wr ho hr hd=>?_
   obtain ⟨d0,d1,_⟩:=hd
   have d0:ρ (.tmp 21)=.string (st []):=spOf_eq (d0 rfl) rfl
   have d1:ρ (.tmp 22)=.string (st (Lib.decDigits ((u:Int)/10000).toNat)):=spOf_eq (d1 rfl) rfl
   exact does_addL rfl d0 d1 (by simp only [List.length_append,List.length_cons,List.length_nil];omega) ⟨in_eq rfl,Old.refl _⟩
  ·refine step_plain rfl fun ρ wr ho hr hd=>?_
   obtain ⟨d2,_⟩:=hd
   have d2:ρ (.tmp 23)=.string (st ([]++(Lib.decDigits ((u:Int)/10000).toNat))):=spOf_eq (d2 rfl) rfl
   exact does_addL (b:=[46]) rfl d2 (hr.2.1 _) (by simp only [List.length_append,List.length_cons,List.length_nil];omega) ⟨in_eq rfl,Old.refl _⟩
  ·refine step_plain rfl fun ρ wr ho hr hd=>?_
   exact does_move rfl ((hr.1 6 rfl).trans rfl) ⟨in_eq rfl,Old.refl _⟩
  ·refine step_plain rfl fun ρ wr ho hr hd=>?_
   obtain ⟨d4,_⟩:=hd
   have d4:ρ (.tmp 25)=.string (st [a,b,c,d]):=spOf_eq (d4 rfl) rfl
   exact does_upto1 rfl (hr.2.1 _) d4 ⟨in_eq rfl,Old.refl _⟩
  ·refine step_plain rfl fun ρ wr ho hr hd=>?_
   obtain ⟨d3,d5,_⟩:=hd
   have d3:ρ (.tmp 24)=.string (st ([]++(Lib.decDigits ((u:Int)/10000).toNat)++[46])):=spOf_eq (d3 rfl) rfl
   have d5:ρ (.tmp 26)=.string (st [a]):=spOf_eq (d5 rfl) rfl
   exact does_addL rfl d3 d5 (by simp only [List.length_append,List.length_cons,List.length_nil];omega) ⟨in_eq rfl,Old.refl _⟩
  ·refine step_plain rfl fun ρ wr ho hr hd=>?_
   exact does_move rfl ((hr.1 6 rfl).trans rfl) ⟨in_eq rfl,Old.refl _⟩
  ·refine step_plain rfl fun ρ wr ho hr hd=>?_
   obtain ⟨d7,_⟩:=hd
   have d7:ρ (.tmp 28)=.string (st [a,b,c,d]):=spOf_eq (d7 rfl) rfl
   exact does_from1 rfl (hr.2.1 _) d7 ⟨in_eq rfl,Old.refl _⟩
  ·refine step_plain rfl fun ρ wr ho hr hd=>?_
   obtain ⟨d8,_⟩:=hd
   have d8:ρ (.tmp 29)=.string (st [b,c,d]):=spOf_eq (d8 rfl) rfl
   refine does_call2 rfl (hr.2.2.2 _) d8 (hr.2.1 _) rfl ((Tryz.strings_TrimRight_one (st [b,c,d]) 48 (by decide) wr (by simp [ByteArray.size])).mono fun e w' h=>?_)
   exact ⟨_,h.1,in_eq rfl,Old.same h.2⟩
  ·refine step_plain rfl fun ρ wr ho hr hd=>?_
   obtain ⟨d6,d9,_⟩:=hd
   have d6:ρ (.tmp 27)=.string (st ([]++(Lib.decDigits ((u:Int)/10000).toNat)++[46]++[a])):=spOf_eq (d6 rfl) rfl
   have d9:ρ (.tmp 30)=.string (st (Lib.trimRightB [b,c,d] 48)):=spOf_eq (d9 rfl) rfl
   exact does_addL rfl d6 d9 (by simp only [List.length_append,List.length_cons,List.length_nil];omega) ⟨in_eq rfl,Old.refl _⟩
  ·refine step_plain rfl fun ρ wr ho hr hd=>?_
   obtain ⟨d10,_⟩:=hd
   have d10:ρ (.tmp 31)=.string (st ([]++(Lib.decDigits ((u:Int)/10000).toNat)++[46]++[a]++(Lib.trimRightB [b,c,d] 48))):=spOf_eq (d10 rfl) rfl
   exact does_assign rfl d10 ⟨in_eq rfl,Old.refl _⟩
 ·intro a' w' ho hst hl
  obtain ⟨_,_,_,_,_,_,_,_,_,_,_,e2,_⟩:=hl
  have e2:a'.eval (.tmp 2)=.string (st ([]++(Lib.decDigits ((u:Int)/10000).toNat)++[46]++[a]++(Lib.trimRightB [b,c,d] 48))):=spOf_eq e2 rfl
  rw [act_fresh hst [false,false,true,false,false,false,false,false,false,false,false,false,false,false,false,false,false,false,false,false,false,true,true,true,true,true,true,true,true,true,true,true] (by kernel_rfl) (by kernel_rfl)]
  simp only [fresh,e2]
  go_wp2_with fail
  go_ret
  refine ⟨?_,HO.out.trans ho⟩
  unfold decU
  rw [HR.out,show ((u:Int)/10000).toNat=u/10000 by omega]
  simp [List.append_assoc]
theorem dec_neg (n:Int) (u:Nat) (hu:n=-(u:Int)∧1≤u) (hn:I64 n) (w:World) (he:Env w) :
 Calls Tryz.prog 118 #[.int .i64 n] w fun e w'=>e=.returned (.string (st (45::decU u)))∧Old w w':=by
 obtain ⟨rfl,hu1⟩:=hu
 have h0:0<u:=hu1
 have hw:IntKind.u64.wrap (-IntKind.u64.wrap (-(u:Int)))=(u:Int):=by rw [IntKind.wrap_u64,IntKind.wrap_u64];unfold I64 at hn;omega
 have hb:u<18446744073709551616:=by unfold I64 at hn;omega
 have HE:=hid he
 have HO:=hid (Old.refl w)
 clear he
 have hr:∀ W,Env W→Calls Tryz.prog 154 #[.int .u64 (10000+(u:Int)%10000),.int .i64 10] W fun e w'=>e=.returned (.string (st (49::restL u)))∧Old W w':=by
  intro W hW
  have:=fu_int (10000+(u:Int)%10000) (by omega) (by omega) W hW
  rwa [show (10000+(u:Int)%10000).toNat=10000+u%10000 by omega,dec5] at this
 obtain ⟨a,b,c,d,hR⟩:∃ a b c d,restL u=[a,b,c,d]:=⟨_,_,_,_,rfl⟩
 rw [hR] at hr
 have HR:=hid hR
 clear hR
 have hD:(Lib.decDigits ((u:Int)/10000).toNat).length≤20:=by rw [Lib.decDigits_length];exact Lib.nDigits_le20 _ (by omega)
 have hT:(Lib.trimRightB [b,c,d] 48).length≤3:=trim3 b c d
 have hX:(st [49,a,b,c,d]).extract 1 5=st [a,b,c,d]:=rfl
 go_enter Tryz.func118,Tryz.ntmps118
 go_upto_region 6 with (first
  | (go_at_call 154;first
    | ((with_reducible refine (hr _ HE.out).mono ?_);rintro e w1 ⟨rfl,o1⟩;replace HE:=hid (HE.out.old o1);replace HO:=hid (HO.out.trans o1);clear o1)
    | ((with_reducible refine (fu_int _ (by omega) (by omega) _ HE.out).mono ?_);rintro e w1 ⟨rfl,o1⟩;replace HE:=hid (HE.out.old o1);replace HO:=hid (HO.out.trans o1);clear o1)))
 refine wp_region_inv (spOf [.eq (.string (st [45])),.eq (.string (st (Lib.decDigits ((u:Int)/10000).toNat))),.eq (.string (st ([45]++(Lib.decDigits ((u:Int)/10000).toNat)))),.eq (.string (st ([45]++(Lib.decDigits ((u:Int)/10000).toNat)++[46]))),.eq (.string (st [a,b,c,d])),.eq (.string (st [a])),.eq (.string (st ([45]++(Lib.decDigits ((u:Int)/10000).toNat)++[46]++[a]))),.eq (.string (st [a,b,c,d])),.eq (.string (st [b,c,d])),.eq (.string (st (Lib.trimRightB [b,c,d] 48))),.eq (.string (st ([45]++(Lib.decDigits ((u:Int)/10000).toNat)++[46]++[a]++(Lib.trimRightB [b,c,d] 48)))),.eq (.string (st ([45]++(Lib.decDigits ((u:Int)/10000).toNat)++[46]++[a]++(Lib.trimRightB [b,c,d] 48))))]) (by kernel_rfl) (by kernel_rfl) (spOf_mono _) ?_ ?_
 ·refine ⟨?_,?_,?_,?_,?_,?_,?_,?_,?_,?_,?_,?_,trivial⟩
  ·refine step_plain rfl fun ρ wr ho hr hd=>?_
   exact does_move rfl ((hr.1 3 rfl).trans rfl) ⟨in_eq rfl,Old.refl _⟩
  ·refine step_plain rfl fun ρ wr ho hr hd=>?_
   exact does_move rfl ((hr.1 5 rfl).trans rfl) ⟨in_eq rfl,Old.refl _⟩
  ·refine step_plain rfl fun ρ wr ho hr hd=>?_
   obtain ⟨d0,d1,_⟩:=hd
   have d0:ρ (.tmp 21)=.string (st [45]):=spOf_eq (d0 rfl) rfl
   have d1:ρ (.tmp 22)=.string (st (Lib.decDigits ((u:Int)/10000).toNat)):=spOf_eq (d1 rfl) rfl
   exact does_addL rfl d0 d1 (by simp only [List.length_append,List.length_cons,List.length_nil];omega) ⟨in_eq rfl,Old.refl _⟩
  ·refine step_plain rfl fun ρ wr ho hr hd=>?_
   obtain ⟨d2,_⟩:=hd
   have d2:ρ (.tmp 23)=.string (st ([45]++(Lib.decDigits ((u:Int)/10000).toNat))):=spOf_eq (d2 rfl) rfl
   exact does_addL (b:=[46]) rfl d2 (hr.2.1 _) (by simp only [List.length_append,List.length_cons,List.length_nil];omega) ⟨in_eq rfl,Old.refl _⟩
  ·refine step_plain rfl fun ρ wr ho hr hd=>?_
   exact does_move rfl ((hr.1 6 rfl).trans rfl) ⟨in_eq rfl,Old.refl _⟩
  ·refine step_plain rfl fun ρ wr ho hr hd=>?_
   obtain ⟨d4,_⟩:=hd
   have d4:ρ (.tmp 25)=.string (st [a,b,c,d]):=spOf_eq (d4 rfl) rfl
   exact does_upto1 rfl (hr.2.1 _) d4 ⟨in_eq rfl,Old.refl _⟩
  ·refine step_plain rfl fun ρ wr ho hr hd=>?_
   obtain ⟨d3,d5,_⟩:=hd
   have d3:ρ (.tmp 24)=.string (st ([45]++(Lib.decDigits ((u:Int)/10000).toNat)++[46])):=spOf_eq (d3 rfl) rfl
   have d5:ρ (.tmp 26)=.string (st [a]):=spOf_eq (d5 rfl) rfl
   exact does_addL rfl d3 d5 (by simp only [List.length_append,List.length_cons,List.length_nil];omega) ⟨in_eq rfl,Old.refl _⟩
  ·refine step_plain rfl fun ρ wr ho hr hd=>?_
   exact does_move rfl ((hr.1 6 rfl).trans rfl) ⟨in_eq rfl,Old.refl _⟩
  ·refine step_plain rfl fun ρ wr ho hr hd=>?_
   obtain ⟨d7,_⟩:=hd
   have d7:ρ (.tmp 28)=.string (st [a,b,c,d]):=spOf_eq (d7 rfl) rfl
   exact does_from1 rfl (hr.2.1 _) d7 ⟨in_eq rfl,Old.refl _⟩
  ·refine step_plain rfl fun ρ wr ho hr hd=>?_
   obtain ⟨d8,_⟩:=hd
   have d8:ρ (.tmp 29)=.string (st [b,c,d]):=spOf_eq (d8 rfl) rfl
   refine does_call2 rfl (hr.2.2.2 _) d8 (hr.2.1 _) rfl ((Tryz.strings_TrimRight_one (st [b,c,d]) 48 (by decide) wr (by simp [ByteArray.size])).mono fun e w' h=>?_)
   exact ⟨_,h.1,in_eq rfl,Old.same h.2⟩
  ·refine step_plain rfl fun ρ wr ho hr hd=>?_
   obtain ⟨d6,d9,_⟩:=hd
   have d6:ρ (.tmp 27)=.string (st ([45]++(Lib.decDigits ((u:Int)/10000).toNat)++[46]++[a])):=spOf_eq (d6 rfl) rfl
   have d9:ρ (.tmp 30)=.string (st (Lib.trimRightB [b,c,d] 48)):=spOf_eq (d9 rfl) rfl
   exact does_addL rfl d6 d9 (by simp only [List.length_append,List.length_cons,List.length_nil];omega) ⟨in_eq rfl,Old.refl _⟩
  ·refine step_plain rfl fun ρ wr ho hr hd=>?_
   obtain ⟨d10,_⟩:=hd
   have d10:ρ (.tmp 31)=.string (st ([45]++(Lib.decDigits ((u:Int)/10000).toNat)++[46]++[a]++(Lib.trimRightB [b,c,d] 48))):=spOf_eq (d10 rfl) rfl
   exact does_assign rfl d10 ⟨in_eq rfl,Old.refl _⟩
 ·intro a' w' ho hst hl
  obtain ⟨_,_,_,_,_,_,_,_,_,_,_,e2,_⟩:=hl
  have e2:a'.eval (.tmp 2)=.string (st ([45]++(Lib.decDigits ((u:Int)/10000).toNat)++[46]++[a]++(Lib.trimRightB [b,c,d] 48))):=spOf_eq e2 rfl
  rw [act_fresh hst [false,false,true,false,false,false,false,false,false,false,false,false,false,false,false,false,false,false,false,false,false,true,true,true,true,true,true,true,true,true,true,true] (by kernel_rfl) (by kernel_rfl)]
  simp only [fresh,e2]
  go_wp2_with fail
  go_ret
  refine ⟨?_,HO.out.trans ho⟩
  unfold decU
  rw [HR.out,show ((u:Int)/10000).toNat=u/10000 by omega]
  simp [List.append_assoc]
theorem dec_any (n:Int) (hn:I64 n) (w:World) (he:Env w) :
 Calls Tryz.prog 118 #[.int .i64 n] w fun e w'=>e=.returned (.string (st (decL n)))∧Old w w':=by
 unfold decL
 by_cases h:n<0
 ·rw [if_pos h]
  exact dec_neg n n.natAbs ⟨by omega,by omega⟩ hn w he
 ·rw [if_neg h]
  exact dec_pos n n.natAbs (by omega) hn w he
end Go.Proofs.YtkellpcljiodeaaGreatDoor
namespace Go.Proofs.YtkellpcljiodeaaGreatDoor
open Go.ChangeShapes Go.WideShapes Go.ChangeAt Go.RowKit Go.Lib Go.Shelf
set_option linter.unusedVariables false
set_option maxRecDepth 100000
structure Chg (w w':World) (b:Nat) (row:Option Nat):Prop where
 os:w'.os=w.os
 output:w'.output=w.output
 size:w.heap.size≤w'.heap.size
 block:∀ k,k<w.heap.size→k≠b→some k≠row→w'.heap[k]?=w.heap[k]?
theorem Chg.refl (w:World) (b:Nat) (row:Option Nat):Chg w w b row:=⟨rfl,rfl,Nat.le_refl _,fun _ _ _ _=>rfl⟩
theorem Chg.trans {a b c:World} {k:Nat} {row:Option Nat} (h:Chg a b k row) (j:Chg b c k row):Chg a c k row:=
 ⟨j.os.trans h.os,j.output.trans h.output,Nat.le_trans h.size j.size,fun i hi h1 h2=>(j.block i (Nat.lt_of_lt_of_le hi h.size) h1 h2).trans (h.block i hi h1 h2)⟩
def Bu (w:World) (b:Nat) (bs:List UInt8) (row:Option Nat):Prop:=
 ∃ v,w.heap[b]?=some (.cells #[.pointer (some ⟨b,0,none⟩),v] 171 (0,0))∧w.ownsRow 0 5 1 v bs.length (Lib.byteCells bs)∧v.ownBlock=row
theorem Bu.lt {w:World} {b:Nat} {bs:List UInt8} {row:Option Nat} (h:Bu w b bs row):b<w.heap.size:=by
 obtain ⟨v,h,_⟩:=h
 exact blk_lt h
theorem Bu.row_lt {w:World} {b:Nat} {bs:List UInt8} {row:Option Nat} (h:Bu w b bs row):∀ k,row=some k→k<w.heap.size:=by
 obtain ⟨v,_,h2,h3⟩:=h
 intro k hk
 exact (h2.lt k (h3.trans hk)).2
theorem Bu.is {w:World} {b:Nat} {bs:List UInt8} {row:Option Nat} (h:Bu w b bs row):Lib.IsBuilder 171 5 0 b (Lib.byteCells bs) w:=by
 obtain ⟨v,h1,h2,h3⟩:=h
 refine Or.inr ⟨Nat.zero_le _,v,h1,?_,Lib.ownBlock_ne h2 h1 (by decide)⟩
 simpa [Lib.byteCells] using h2
theorem Bu.old {w w':World} {b:Nat} {bs:List UInt8} {row:Option Nat} (h:Bu w b bs row) (ho:Old w w'):Bu w' b bs row:=by
 obtain ⟨v,h1,h2,h3⟩:=h
 refine ⟨v,(ho.block b (blk_lt h1)).trans h1,⟨h2.1,?_⟩,h3⟩
 rcases h2.2 with hn|⟨g,cap,cur,e1,e2,e3,rest⟩
 ·exact Or.inl hn
 ·exact Or.inr ⟨g,cap,cur,e1,e2,(ho.block g (blk_lt e3)).trans e3,rest⟩
theorem append_where {w:World} {v v':Value} {w':World} {n:Nat} {xs:List Value} {ty:TypeId} {a:Addr} {c:Nat} {x:Value} (hown:w.ownsRow 0 5 1 v n xs)
 (hx:w.cell? a=some x) (ha:a.add 0=a) (h1:x.oneCell'=true) (hb:n+1≤1000000) (hr:(Builtin.append_ #[147,147] ty #[v,.slice (some a) 1 c]).run Tryz.prog w=.ok v' w') :
 v'.ownBlock=v.ownBlock∨v'.ownBlock=some w.heap.size:=by
 obtain ⟨i0,hi,hz0,hz1,hz2⟩:=info_parts Tryz.wb_extra.infoByte
 have hnews:∀ j u,[x][j]?=some u→w.cell? (a.add j)=some u:=by
  intro j u hj
  match j,hj with
  | 0,hj=>simp at hj;subst hj;rw [ha];exact hx
 have hone:∀ u∈[x],u.oneCell'=true:=by intro u hu;simp at hu;subst hu;exact h1
 rcases hown.2 with ⟨rfl,hn⟩|⟨g,cap,cur,rfl,_,hg,hnc,hcm,hcs,htake⟩
 ·rw [run_append_nil (P:=Tryz.prog) w _ ty 5 i0 (.int .u8 0) Tryz.underlying147 hi hz0 a 1 c [x] (by rw [hz1];rfl) hnews (by omega) (by omega) (by rw [hz2];omega)] at hr
  right
  simp only [Result.ok.injEq] at hr
  rw [←hr.1];rfl
 ·by_cases hroom:n+1≤cap
  ·left
   rw [run_append_room (P:=Tryz.prog) w _ ty 5 i0 Tryz.underlying147 hi g n cap cur hg a 1 c [x] (by rw [hz1];rfl) hnews hone hroom (by rw [hcs,hz1];simp;omega)] at hr
   simp only [Result.ok.injEq] at hr
   rw [←hr.1];rfl
  ·right
   rw [run_append_grow (P:=Tryz.prog) w _ ty 5 i0 (.int .u8 0) Tryz.underlying147 hi hz0 ⟨g,0,none⟩ n cap xs (by rw [hz1];exact hown.1) (hown.cells (g:=g) rfl) a 1 c [x] (by rw [hz1];rfl) hnews (by omega) (by omega) (by rw [hz2];exact growslice_fits (by omega) (by omega))] at hr
   simp only [Result.ok.injEq] at hr
   rw [←hr.1];rfl
theorem wpl_append {ops:Array Oper} {rest:List Oper} {o:Oper} {a:Act} {Q:Exit→Act→World→Prop} {w:World} (hgd:o.guard=none) (s x:Operand)
 (ho:o.op=.call { callee:=.builtin .append,args:=#[s,x],argTypes:=#[147,147] }) (v:Value) (n:Nat) (xs:List Value) (hs:a.eval s=v) (hown:w.ownsRow 0 5 1 v n xs)
 (ad:Addr) (c:Nat) (y:Value) (hx:a.eval x=.slice (some ad) 1 c) (hy:w.cell? ad=some y) (ha:ad.add 0=ad) (h1:y.oneCell'=true) (hb:n+1≤1000000)
 (h:∀ v' w',w'.ownsRow 0 5 1 v' (n+1) (xs++[y])→w.grownBy w' v.ownBlock→(v'.ownBlock=v.ownBlock∨v'.ownBlock=some w.heap.size)→wpList Tryz.prog ops Q rest (a.put o.dst v') w'):wpList Tryz.prog ops Q (o::rest) a w:=by
 obtain ⟨i0,hi,hz0,hz1,hz2⟩:=info_parts Tryz.wb_extra.infoByte
 have hnews:∀ j u,[y][j]?=some u→w.cell? (ad.add j)=some u:=by
  intro j u hj
  match j,hj with
  | 0,hj=>simp at hj;subst hj;rw [ha];exact hy
 refine wpList_plain hgd fun K hK=>?_
 obtain ⟨v',w',hr,h2,h3,h4⟩:=run_append_own (P:=Tryz.prog) w 0 147 o.type 5 i0 (.int .u8 0) 1 1 Tryz.underlying147 hi hz0 hz1 hz2 rfl (by decide) v n xs hown ad 1 c [y] rfl hnews (by intro u hu;simp at hu;subst hu;exact h1) (by unfold maxLen;omega) (by omega) (Nat.zero_le _)
 have h5:=append_where hown hy ha h1 hb hr
 unfold Oper.wp execOp
 simp only [ho,resolve,invoke,builtin,Sem.run_bind,Sem.run_pure,Result.andThen_ok,List.map_toArray,List.map_cons,List.map_nil,hs,hx,hr]
 exact hK _ _ (h v' w' h2 h3 h5)
theorem wb_core (b:Nat) (bs:List UInt8) (row:Option Nat) (c:UInt8) (w:World) (hlen:bs.length+1≤1000000)
 (hcc:Calls Tryz.prog 181 #[.pointer (some ⟨b,0,none⟩)] w fun e w'=>e=.returned (.tuple #[])∧Bu w' b bs row∧Chg w w' b row) :
 Calls Tryz.prog 156 #[.pointer (some ⟨b,0,none⟩),.int .u8 (c.toNat:Int)] w fun e w'=>e=.returned .nilIface∧∃ row',Bu w' b (bs++[c]) row'∧(row'=row∨∃ g,row'=some g∧w.heap.size≤g)∧Chg w w' b row:=by
 go_enter Tryz.func156,Tryz.ntmps156
 go_wp2_with (go_at_call 181;refine hcc.mono ?_)
 rintro e w1 ⟨rfl,hb1,hg1⟩
 obtain ⟨v,hbk,hown,hrow⟩:=hb1
 have c0:w1.cell? ⟨b,0,none⟩=some (.pointer (some ⟨b,0,none⟩)):=by rw [Lib.cell_of_heap hbk];rfl
 have c1:w1.cell? ⟨b,1,none⟩=some v:=by rw [Lib.cell_of_heap hbk];rfl
 have hlt:=blk_lt hbk
 have hc1:(w1.alloc (.cells #[.int .u8 (c.toNat:Int)] 5)).cell? ⟨w1.heap.size,0,none⟩=some (.int .u8 (c.toNat:Int)):=by simp
 have ha0:(⟨w1.heap.size,0,none⟩:Addr).add 0=⟨w1.heap.size,0,none⟩:=by simp [Addr.add]
 have HC1:=hid hc1
 have HA0:=hid ha0
 have HLT:=hid hlt
 have HBK:=hid hbk
 have HROW:=hid hrow
 have HOWN:=hid hown
 have HLEN:=hid hlen
 clear hc1 ha0 hlt hbk hrow hown hlen hcc
 go_wp2_with (at_builtin;refine wpl_append (by rfl) (.tmp 11) (.tmp 13) (by rfl) v bs.length (Lib.byteCells bs) (by rfl) (HOWN.out.alloc _) ⟨w1.heap.size,0,none⟩ 1 (.int .u8 (c.toNat:Int)) (by rfl) HC1.out HA0.out (by rfl) HLEN.out ?_)
 have hlt:=HLT.out
 have hbk:=HBK.out
 have hrow:=HROW.out
 have hown:=HOWN.out
 intro v' w2 hown' hgrow hwh
 have hb2:w2.heap[b]?=some (.cells #[.pointer (some ⟨b,0,none⟩),v] 171 (0,0)):=by
  rw [hgrow.block b (by simp;omega) (fun e=>Lib.ownBlock_ne hown hbk (by decide) e.symm),Lib.alloc_old w1 _ b hlt]
  exact hbk
 have d0:w2.cell? ⟨b,0,none⟩=some (.pointer (some ⟨b,0,none⟩)):=by rw [Lib.cell_of_heap hb2];rfl
 have d1:w2.cell? ⟨b,1,none⟩=some v:=by rw [Lib.cell_of_heap hb2];rfl
 have f1:w2.frozen? ⟨b,1,none⟩=false:=Lib.frozen_of_heap hb2 1
 obtain ⟨g,cap,rfl⟩:∃ g cap,v'=.slice (some ⟨g,0,none⟩) (bs.length+1) cap:=by
  rcases hown'.2 with ⟨_,h0⟩|⟨g,cap,cur,hv,_⟩
  ·omega
  ·exact ⟨g,cap,hv⟩
 go_wp2
 go_ret
 refine ⟨rfl,some g,?_,?_,?_⟩
 ·have hown2:w2.ownsRow 0 5 1 (.slice (some ⟨g,0,none⟩) (bs.length+1) cap) (bs++[c]).length (Lib.byteCells (bs++[c])):=by
   have:Lib.byteCells (bs++[c])=Lib.byteCells bs++[.int .u8 (c.toNat:Int)]:=by simp [Lib.byteCells]
   rw [this,List.length_append]
   exact hown'
  have:=Lib.BuilderAt.put (T:=171) (e:=5) (B:=0) (Nat.zero_le b) hb2 (bs':=Lib.byteCells (bs++[c])) (by simpa [Lib.byteCells] using hown2) (by decide)
  obtain ⟨_,v2,q1,q2,q3⟩:=this
  have hs:v2=.slice (some ⟨g,0,none⟩) (bs.length+1) cap:=by
   have hc:((w2.setCell ⟨b,1,none⟩ (.slice (some ⟨g,0,none⟩) (bs.length+1) cap)).heap[b]?)=some (.cells #[.pointer (some ⟨b,0,none⟩),.slice (some ⟨g,0,none⟩) (bs.length+1) cap] 171 (0,0)):=by
    simp [World.setCell,Array.getElem?_modify,hb2]
   rw [hc] at q1
   simpa using q1.symm
  subst hs
  exact ⟨_,q1,by simpa [Lib.byteCells] using q2,rfl⟩
 ·rcases hwh with h|h
  ·left
   rw [←hrow,←h];rfl
  ·right
   refine ⟨g,rfl,?_⟩
   have hg:g=(w1.alloc (.cells #[.int .u8 (c.toNat:Int)] 5)).heap.size:=by
    simpa [Value.ownBlock] using h
   have:=hg1.size
   simp at hg
   omega
 ·refine ⟨?_,?_,?_,fun k hk h1 h2=>?_⟩
  ·exact hgrow.os.trans hg1.os
  ·exact hgrow.output.trans hg1.output
  ·have:=hgrow.size
   have:=hg1.size
   simp [World.setCell] at *
   omega
  ·have hk1:k<w1.heap.size:=Nat.lt_of_lt_of_le hk hg1.size
   rw [Below.heap_setCell _ _ _ _ h1,hgrow.block k (by simp;omega) (by rw [hrow];exact h2),Lib.alloc_old w1 _ k hk1]
   exact hg1.block k hk h1 h2
theorem wb_used (b:Nat) (bs:List UInt8) (row:Option Nat) (c:UInt8) (w:World) (hlen:bs.length+1≤1000000) (h:Bu w b bs row) :
 Calls Tryz.prog 156 #[.pointer (some ⟨b,0,none⟩),.int .u8 (c.toNat:Int)] w fun e w'=>e=.returned .nilIface∧∃ row',Bu w' b (bs++[c]) row'∧(row'=row∨∃ g,row'=some g∧w.heap.size≤g)∧Chg w w' b row:=by
 refine wb_core b bs row c w hlen ?_
 have h':=h
 obtain ⟨v,hbk,_⟩:=h'
 have c0:w.cell? ⟨b,0,none⟩=some (.pointer (some ⟨b,0,none⟩)):=by rw [Lib.cell_of_heap hbk];rfl
 refine (Any.Builder_copyCheck_used { Tryz.wb_lays with } Tryz.wb_extra.toX72 b w c0).mono ?_
 rintro e w' ⟨rfl,rfl⟩
 exact ⟨rfl,h,Chg.refl _ _ _⟩
theorem wb_fresh (b:Nat) (c:UInt8) (w:World) (h:w.heap[b]?=some (.cells #[.pointer none,.slice none 0 0] 171 (0,0))) :
 Calls Tryz.prog 156 #[.pointer (some ⟨b,0,none⟩),.int .u8 (c.toNat:Int)] w fun e w'=>e=.returned .nilIface∧∃ row',Bu w' b [c] row'∧(row'=none∨∃ g,row'=some g∧w.heap.size≤g)∧Chg w w' b none:=by
 refine wb_core b [] none c w (by simp) ?_
 have c0:w.cell? ⟨b,0,none⟩=some (.pointer none):=by rw [Lib.cell_of_heap h];rfl
 refine (Any.Builder_copyCheck_fresh { Tryz.wb_lays with } Tryz.wb_extra.toX72 b w c0 (by simp [World.shape?,h,Tryz.wb_ren]) (Lib.frozen_of_heap h 0)).mono ?_
 rintro e w' ⟨rfl,rfl⟩
 refine ⟨rfl,⟨.slice none 0 0,?_,World.ownsRow_nil _ _ _ _,rfl⟩,⟨rfl,rfl,by simp [World.setCell],fun k hk h1 _=>Below.heap_setCell _ _ _ _ h1⟩⟩
 simp [World.setCell,Array.getElem?_modify,h]
end Go.Proofs.YtkellpcljiodeaaGreatDoor
namespace Go.Proofs.YtkellpcljiodeaaGreatDoor
open Go.ChangeShapes Go.WideShapes Go.ChangeAt Go.RowKit Go.Lib
set_option linter.unusedVariables false
set_option maxRecDepth 100000
theorem Bu.isB {w:World} {B b:Nat} {bs:List UInt8} {row:Option Nat} (h:Bu w b bs row) (hB:B≤b) (hr:∀ g,row=some g→B≤g):Lib.IsBuilder 171 5 B b (Lib.byteCells bs) w:=by
 obtain ⟨v,h1,h2,h3⟩:=h
 refine Or.inr ⟨hB,v,h1,?_,Lib.ownBlock_ne h2 h1 (by decide)⟩
 have hl:(Lib.byteCells bs).length=bs.length:=by simp [Lib.byteCells]
 rw [hl]
 refine ⟨h2.1,?_⟩
 rcases h2.2 with hn|⟨g,cap,cur,e1,e2,rest⟩
 ·exact Or.inl hn
 ·refine Or.inr ⟨g,cap,cur,e1,hr g ?_,rest⟩
  rw [←h3,e1];rfl
theorem old_below {w wr w':World} (ho:Old w wr) (hb:Below w.heap.size wr w'):Old w w':=
 ⟨hb.os.trans ho.os,hb.output.trans ho.output,Nat.le_trans ho.size hb.size,fun k hk=>(hb.block k hk).trans (ho.block k hk)⟩
structure Qi (w wr:World) (B C:Nat) (s:ByteArray) (bs:List UInt8):Prop where
 old:Old w wr
 bu:∃ row,Bu wr B bs row∧row≠some C∧(∀ g,row=some g→w.heap.size≤g)
 cells:∀ j,j<s.size→wr.cell? ⟨C,j,none⟩=some (.int .u8 (bt s j))
 lt:C<wr.heap.size
 ne:C≠B
theorem old_chg {w wr w':World} {B:Nat} {row:Option Nat} (ho:Old w wr) (hB:w.heap.size≤B) (hr:∀ g,row=some g→w.heap.size≤g) (h:Chg wr w' B row):Old w w':=
 ⟨h.os.trans ho.os,h.output.trans ho.output,Nat.le_trans ho.size h.size,fun k hk=>(h.block k (Nat.lt_of_lt_of_le hk ho.size) (by omega) (fun e=>by have:=hr k e.symm;omega)).trans (ho.block k hk)⟩
theorem Qi.step {w wr:World} {B C:Nat} {s:ByteArray} {bs:List UInt8} (h:Qi w wr B C s bs) (hB:w.heap.size≤B) (u:UInt8) (x:Int) (hx:x=(u.toNat:Int)) (hl:bs.length+1≤1000000) :
 Calls Tryz.prog 156 #[.pointer (some ⟨B,0,none⟩),.int .u8 x] wr fun e w'=>e=.returned .nilIface∧Qi w w' B C s (bs++[u]):=by
 subst hx
 obtain ⟨row,h1,h2,h3⟩:=h.bu
 refine (wb_used B bs row u wr hl h1).mono ?_
 rintro e w' ⟨rfl,row',k1,k2,k3⟩
 have hs:w'.heap[C]?=wr.heap[C]?:=k3.block C h.lt h.ne (fun e=>h2 e.symm)
 refine ⟨rfl,old_chg h.old hB h3 k3,⟨row',k1,?_,?_⟩,fun j hj=>?_,Nat.lt_of_lt_of_le h.lt k3.size,h.ne⟩
 ·rcases k2 with rfl|⟨g,rfl,hg⟩
  ·exact h2
  ·intro e
   have:=Option.some.inj e
   have:=h.lt
   omega
 ·rcases k2 with rfl|⟨g,rfl,hg⟩
  ·exact h3
  ·intro g' e
   obtain rfl:=Option.some.inj e
   exact Nat.le_trans h.old.size hg
 ·exact (World.cell?_of_block (a:=⟨C,j,none⟩) hs).trans (h.cells j hj)
def escB (c:UInt8):List UInt8:=if c=34∨c=92 then [92,c] else [c]
def escL (l:List UInt8):List UInt8:=l.flatMap escB
def quoteL (l:List UInt8):List UInt8:=34::(escL l++[34])
theorem escL_len:∀ l:List UInt8,(escL l).length≤2*l.length
 | []=>by simp [escL]
 | x::l=>by
   have:=escL_len l
   unfold escL at *
   rw [List.flatMap_cons,List.length_append,List.length_cons]
   have:(escB x).length≤2:=by unfold escB;split<;>simp
   omega
theorem bt_of {s:ByteArray} {k:Nat} (h:k<s.size):bt s k=((s.data.toList[k]'(by simpa using h)).toNat:Int):=by
 unfold bt
 rw [List.getD_eq_getElem?_getD,List.getElem?_eq_getElem (by simpa using h)]
 rfl
theorem esc_more {s:ByteArray} {k:Nat} (h:k<s.size):escL (s.data.toList.take (k+1))=escL (s.data.toList.take k)++escB (s.data.toList[k]'(by simpa using h)):=by
 rw [List.take_succ_eq_append_getElem (by simpa using h)]
 unfold escL
 rw [List.flatMap_append]
 simp
theorem quoted_any (s:ByteArray) (w:World) (hs:s.size≤1000) :
 Calls Tryz.prog 119 #[.string s] w fun e w'=>e=.returned (.string (⟨(quoteL s.data.toList).toArray⟩:ByteArray))∧Old w w':=by
 have hfr:(w.alloc (.cells #[.pointer none,.slice none 0 0] 171)).heap[w.heap.size]?=some (.cells #[.pointer none,.slice none 0 0] 171 (0,0)):=(MapKept.heap_alloc w _).1
 have hq:Calls Tryz.prog 156 #[.pointer (some ⟨w.heap.size,0,none⟩),.int .u8 34] (w.alloc (.cells #[.pointer none,.slice none 0 0] 171)) _:=wb_fresh w.heap.size 34 _ hfr
 clear hfr
 have HS:=hid hs
 go_enter Tryz.func119,Tryz.ntmps119
 go_upto_region 3 with (go_at_call 156;refine hq.mono ?_;rintro e w1 ⟨rfl,row,hb1,hr1,hg1⟩)
 clear hq
 obtain ⟨cap,W1,hc,hO,hcell⟩:=conv_cells w1 s
 have hQ:Qi w W1 w.heap.size w1.heap.size s [34]:=by
  have hOw:Old w w1:=old_chg (((Old.refl w).alloc (.cells #[.pointer none,.slice none 0 0] 171))) (Nat.le_refl _) (by intro g hg;cases hg) hg1
  have hsz:=hg1.size
  simp at hsz
  refine ⟨hOw.trans hO,⟨row,hb1.old hO,?_,?_⟩,hcell,?_,by omega⟩
  ·intro e
   have:=hb1.row_lt _ e
   omega
  ·rcases hr1 with rfl|⟨g,rfl,hg⟩
   ·intro g hg;cases hg
   ·intro g' e
    obtain rfl:=Option.some.inj e
    simp at hg
    omega
  ·have h:=run_bytes_of_string (P:=Tryz.prog) w1 9 147 5 s Tryz.underlying9 Tryz.underlying147 Tryz.underlying5
   rw [hc] at h
   simp only [Result.ok.injEq] at h
   rw [h.2]
   simp
 clear hb1 hr1 hg1 hO hcell
 have HQ:=hid hQ
 clear hQ
 obtain ⟨n,hn⟩:∃ n,n=s.size:=⟨_,rfl⟩
 rw [←hn] at hc hs
 have HN:=hid hn
 have hn':=hn.symm
 clear hn
 generalize w1.heap.size=C at *
 generalize hBw:w.heap.size=B at *
 have HB:=hid hBw
 clear hBw
 go_wp2
 go_loopw [10] (fun i wr=>∃ k:Nat,k≤n∧i=.int .i64 (k:Int)∧Hid (Qi w wr B C s (34::escL (s.data.toList.take k)))) (fun i _=>(n-RowKit.intOf i).toNat)
 case atStart=>exact ⟨0,Nat.zero_le _,rfl,HQ⟩
 case round=>
  obtain ⟨k,hk,rfl,HR⟩:=hrel
  by_cases hkn:k<n
  ·have hks:k<s.size:=by rw [←HN.out];exact hkn
   have d0:=HR.out.cells k hks
   have hb0:=bt_of hks
   obtain ⟨u,hu⟩:∃ u,u=s.data.toList[k]'(by simpa using hks):=⟨_,rfl⟩
   rw [←hu] at hb0
   have hm:=esc_more hks
   rw [←hu] at hm
   obtain ⟨b,hb⟩:∃ b,b=bt s k:=⟨_,rfl⟩
   rw [←hb] at d0 hb0
   have hl:(34::escL (s.data.toList.take k)).length≤2*k+1:=by
    have:=escL_len (s.data.toList.take k)
    have:=List.length_take_le k s.data.toList
    simp only [List.length_cons]
    omega
   have HX:=hid hb0
   have HM:=hid hm
   have HL:=hid hl
   have HK:=hid hk
   have HNN:=hid hs
   have hBB:=hid (Nat.le_of_eq HB.out)
   generalize hbs:34::escL (s.data.toList.take k)=bs at *
   have HBS:=hid hbs
   have HLT:Hid (bs.length+3≤1000000):=hid (by have:=HL.out;omega)
   clear hb hb0 hu hm hl hks hbs
   have h92:=hid (HR.out.step hBB.out 92 92 rfl (by have:=HLT.out;omega))
   have hu1:=hid (HR.out.step hBB.out u b HX.out (by have:=HLT.out;omega))
   have hfin1:(b=34∨b=92)→escB u=[92,u]:=by
    intro h
    unfold escB
    rw [if_pos]
    have:=HX.out
    rcases h with h|h
    ·left;apply UInt8.toNat_inj.1;simp;omega
    ·right;apply UInt8.toNat_inj.1;simp;omega
   have hfin2:¬ (b=34∨b=92)→escB u=[u]:=by
    intro h
    unfold escB
    rw [if_neg]
    have:=HX.out
    rintro (e|e)
    ·apply h;left;rw [this,e];rfl
    ·apply h;right;rw [this,e];rfl
   have HF1:=hid hfin1
   have HF2:=hid hfin2
   clear hfin1 hfin2
   by_cases h34:b=34
   ·have e34:(b==34)=true:=by simpa using h34
    have he:=hid (HF1.out (Or.inl h34))
    clear h34 hu1
    go_wp2_with (first
     | (go_at_call 156;(with_reducible refine h92.out.mono ?_);rintro e w2 ⟨rfl,hq2⟩;have H2:=hid (hq2.step hBB.out u b HX.out (by have:=HLT.out;simp only [List.length_append,List.length_cons,List.length_nil];omega));clear hq2)
     | (go_at_call 156;(with_reducible refine H2.out.mono ?_);rintro e w3 ⟨rfl,hq3⟩;have H3:=hid hq3;clear hq3))
    refine ⟨⟨k+1,hkn,rfl,hid ?_⟩,by simp only [RowKit.intOf];omega⟩
    rw [HM.out,he.out,←List.cons_append,HBS.out]
    have:=H3.out
    rwa [List.append_assoc] at this
   ·have e34:(b==34)=false:=by simpa using h34
    by_cases h92':b=92
    ·have e92:(b==92)=true:=by simpa using h92'
     have he:=hid (HF1.out (Or.inr h92'))
     clear h34 h92' hu1
     go_wp2_with (first
      | (go_at_call 156;(with_reducible refine h92.out.mono ?_);rintro e w2 ⟨rfl,hq2⟩;have H2:=hid (hq2.step hBB.out u b HX.out (by have:=HLT.out;simp only [List.length_append,List.length_cons,List.length_nil];omega));clear hq2)
      | (go_at_call 156;(with_reducible refine H2.out.mono ?_);rintro e w3 ⟨rfl,hq3⟩;have H3:=hid hq3;clear hq3))
     refine ⟨⟨k+1,hkn,rfl,hid ?_⟩,by simp only [RowKit.intOf];omega⟩
     rw [HM.out,he.out,←List.cons_append,HBS.out]
     have:=H3.out
     rwa [List.append_assoc] at this
    ·have e92:(b==92)=false:=by simpa using h92'
     have he:=hid (HF2.out (by intro h;rcases h with h|h;exact h34 h;exact h92' h))
     clear h34 h92' h92
     go_wp2_with (first
      | (go_at_call 156;(with_reducible refine hu1.out.mono ?_);rintro e w3 ⟨rfl,hq3⟩;have H3:=hid hq3;clear hq3))
     refine ⟨⟨k+1,hkn,rfl,hid ?_⟩,by simp only [RowKit.intOf];omega⟩
     rw [HM.out,he.out,←List.cons_append,HBS.out]
     exact H3.out
  ·have hkn':k=n:=by omega
   subst hkn'
   have hT:s.data.toList.take k=s.data.toList:=by rw [HN.out];exact List.take_of_length_le (by simp)
   rw [hT] at HR
   have hl:(34::escL s.data.toList).length≤2*k+1:=by
    have:=escL_len s.data.toList
    have:=HN.out
    have e:s.data.toList.length=s.size:=by simp
    simp only [List.length_cons]
    omega
   have HNN:=hid hs
   have hq:=hid (HR.out.step (Nat.le_of_eq HB.out) 34 34 rfl (by omega))
   clear hT hl HR
   go_wp2_with (first
    | (go_at_call 156;(with_reducible refine hq.out.mono ?_);rintro e w3 ⟨rfl,hq3⟩;have H3:=hid hq3;clear hq3;obtain ⟨row3,g1,g2,g3⟩:=H3.out.bu;have HI:=hid (Tryz.Builder_String_any w.heap.size B _ w3 (g1.isB (Nat.le_of_eq HB.out) g3) H3.out.old.size);clear g1 g2 g3)
    | (go_at_call 157;(with_reducible refine HI.out.mono ?_);rintro e w4 ⟨rfl,hb4⟩))
   go_ret
   exact ⟨rfl,old_below H3.out.old hb4⟩
end Go.Proofs.YtkellpcljiodeaaGreatDoor
