/- Layer vtext: the document's text of a value: its beginning. The document's numbers as text, plain: what is read. -/
import Derived.Deep.CutBlock
import Derived.Test.YtmkmafkkpigfpaaGreatDoorMD
import Derived.Test.YtmkmafkkpigfpaaGreatDoorRS
set_option maxHeartbeats 6400000
namespace Go.Proofs.YtmkmafkkpigfpaaGreatDoor
open Go.ChangeShapes Go.WideShapes Go.ChangeAt Go.RowKit Go.Lib
set_option linter.unusedVariables false
set_option linter.unusedSimpArgs false
set_option maxRecDepth 100000
theorem RN.neg {w:World} {ng:Bool} {oa:Option Addr} {la ca:Nat} {n:Int} (h:RN w (.agg #[.bool ng,.slice oa la ca]) n):ng=decide (n<0)∧RN w (.agg #[.bool false,.slice oa la ca]) ((n.natAbs:Nat):Int):=by
 obtain ⟨v,e,hr⟩:=h
 simp only [Value.agg.injEq,Array.mk.injEq,List.cons.injEq,and_true,Value.bool.injEq] at e
 obtain ⟨e1,rfl⟩:=e
 exact ⟨e1,_,by rw [show decide (((n.natAbs:Nat):Int)<0)=false from decide_eq_false (by omega)],hr⟩
theorem take_ext0 (l:List UInt8) (m:Nat):(st l).extract 0 m=st (l.take m):=by
 rw [st_ext];rfl
def sgL (n:Int):List UInt8:=if n<0 then [45] else []
theorem sg_size (n:Int):(st (sgL n)).size≤1:=by
 rw [st_sizeN];unfold sgL;split<;>simp
theorem itoa_sg {n:Int} {j:Nat} (h:StopN 1 j n.natAbs):sgL n++low j n.natAbs=Lib.itoa n:=by
 rw [low_one h]
 unfold sgL Lib.itoa
 split
 ·rfl
 ·rw [show n.toNat=n.natAbs by omega];rfl
theorem bt_st {l:List UInt8} {q:Nat}:bt (st l) q=48↔l.getD q 0=48:=by
 unfold bt
 constructor
 ·intro h
  have h:((l.getD q 0).toNat:Int)=48:=h
  have:(l.getD q 0).toNat=48:=by omega
  exact UInt8.toNat_inj.1 this
 ·intro h
  show ((l.getD q 0).toNat:Int)=48
  rw [h];rfl
theorem dec_trimmed {n:Int} {m a:Nat} (hJ:StopN 5 (m+4) n.natAbs) (h1:m+1≤a) (h2:a≤m+4)
 (h3:∀ q,a≤q→q<m+4→bt (st (low (m+4) n.natAbs)) q=48) (h4:a+3=m+4∨¬ bt (st (low (m+4) n.natAbs)) (a-1)=48) :
 sgL n++(low (m+4) n.natAbs).take m++[46]++((low (m+4) n.natAbs).drop m).take (a-m)=decL n:=by
 have e:=low_five hJ
 have hl:=low_len (m+4) n.natAbs
 simp only [bt_st] at h3 h4
 rw [e] at hl h3 h4 ⊢
 obtain ⟨x0,x1,x2,x3,hx⟩:∃ x0 x1 x2 x3,restL n.natAbs=[x0,x1,x2,x3]:=⟨_,_,_,_,rfl⟩
 have hd:decU n.natAbs=Lib.decDigits (n.natAbs/10000)++[46]++[x0]++Lib.trimRightB [x1,x2,x3] 48:=by unfold decU;rw [hx];rfl
 rw [hx] at hl h3 h4 ⊢
 generalize Lib.decDigits (n.natAbs/10000)=D at *
 have hm:m=D.length:=by simp at hl;omega
 subst hm
 rw [noughts_at D x0 x1 x2 x3 a h1 h2 h3 (by rcases h4 with h|h;exact Or.inl (by omega);exact Or.inr h),List.take_left]
 unfold decL sgL
 split
 ·rw [hd];simp [List.append_assoc]
 ·rw [hd];simp [List.append_assoc]
theorem rtext_any (k n:Int) (s:ByteArray) (hk:0≤k∧k≤255) (hn:I64 n) (hs:s.size≤1000) (w:World) :
 Calls Tryz.prog 53 #[vl k n s] w fun e w'=>e=.returned (.string (st (textL k n s)))∧Old w w':=by
 have HO:=hid ((Old.refl w).alloc (.cells #[.int .u8 k,.int .i64 n,.string s] 26))
 have HT:=hid (Three.new w (.int .u8 k) (.int .i64 n) (.string s))
 have HN:=hid hn
 have hm:=fun W=>rmay_any k n s W (by unfold maxLen;omega)
 cases hmay:mayB k n s
 ·rw [hmay] at hm
  have HM:=hid hmay
  clear hmay hn
  go_enter Tryz.func53,Tryz.ntmps53
  go_wp2_with (first
   | (go_at_call 10;(with_reducible refine (hm _).mono ?_);rintro e w1 ⟨rfl,o1⟩))
  go_ret
  exact ⟨rs (by unfold textL;rw [HM.out];rfl),HO.out.trans o1⟩
 ·rw [hmay] at hm
  have HM:=hid hmay
  clear hmay hn
  go_enter Tryz.func53,Tryz.ntmps53
  go_upto_region 4 with (first
   | (go_at_call 10;(with_reducible refine (hm _).mono ?_);rintro e w1 ⟨rfl,o1⟩;replace HO:=hid (HO.out.trans o1);replace HT:=hid (HT.out.old o1);clear o1;have c0:=HT.out.c0;have c1:=HT.out.c1;have c2:=HT.out.c2)
   | (go_at_call 100;(with_reducible refine (ofI n _ HN.out).mono ?_);rintro e w2 ⟨x,rfl,hN,o2⟩;obtain ⟨ng,oa,la,ca,rfl⟩:=hN.form))
  have HB:=hid (Two.new w2 (.bool ng) (.slice oa la ca))
  have HX:=hid (hN.old ((Old.refl _).alloc (.cells #[.bool ng,.slice oa la ca] 131))).neg
  replace HO:=hid ((HO.out.trans o2).alloc (.cells #[.bool ng,.slice oa la ca] 131))
  replace HT:=hid (HT.out.old (o2.alloc (.cells #[.bool ng,.slice oa la ca] 131)))
  clear hN o2 c0 c1 c2 hm
  generalize w2.alloc (.cells #[.bool ng,.slice oa la ca] 131)=W at *
  generalize w2.heap.size=B at *
  clear w2 w1
  have d0:=HB.out.c0
  have d1:=HB.out.c1
  have c0:=HT.out.c0
  have c1:=HT.out.c1
  have c2:=HT.out.c2
  go_upto_if 16 with fail
  go_cut [4] from 15 to 16 (fun sv wx=>sv=.string (st (sgL n))∧wx=W)
  case first=>
   have hng:=HX.out.1
   by_cases h0:n<0
   ·have e:ng=true:=by rw [hng];exact decide_eq_true h0
    have es:st (sgL n)=⟨#[45]⟩:=by unfold sgL;rw [if_pos h0]
    clear hng h0
    subst e
    go_wp2_with fail
    go_meet
    exact ⟨by rw [es],rfl⟩
   ·have e:ng=false:=by rw [hng];exact decide_eq_false h0
    have es:st (sgL n)=⟨#[]⟩:=by unfold sgL;rw [if_neg h0]
    clear hng h0
    subst e
    go_wp2_with fail
    go_meet
    exact ⟨by rw [es],rfl⟩
  case rest=>
  obtain ⟨rfl,rfl⟩:=hcut
  have hsg:=sg_size n
  by_cases h1:k=1
  ·obtain rfl:=h1
   have hd:∀ W,RN W (.agg #[.bool false,.slice oa la ca]) ((n.natAbs:Nat):Int)→Calls Tryz.prog 101 #[.agg #[.bool ng,.slice oa la ca],.int .i64 1] W fun e w'=>(∃ j,StopN 1 j n.natAbs∧j≤24∧e=.returned (.string (st (low j n.natAbs))))∧Old W w':=
    fun W h=>dig17_any ng oa la ca n.natAbs 1 W h (by have:=HN.out;unfold I64 at this;omega) (by omega) (by omega)
   go_wp2_with (first
    | (go_at_call 101;(with_reducible refine (hd _ HX.out.2).mono ?_);rintro e w3 ⟨⟨j,hj,hj24,rfl⟩,o3⟩;have hz:(st (low j n.natAbs)).size=j:=by rw [st_sizeN,low_len]))
   go_ret
   refine ⟨(congrArg (fun b=>Ending.returned (.string b)) (app_st _ _)).trans (rs ?_),HO.out.trans o3⟩
   rw [itoa_sg hj]
   unfold textL
   rw [HM.out]
   rfl
  by_cases h2:k=2
  ·obtain rfl:=h2
   have hd:∀ W,RN W (.agg #[.bool false,.slice oa la ca]) ((n.natAbs:Nat):Int)→Calls Tryz.prog 101 #[.agg #[.bool ng,.slice oa la ca],.int .i64 5] W fun e w'=>(∃ j,StopN 5 j n.natAbs∧j≤24∧e=.returned (.string (st (low j n.natAbs))))∧Old W w':=
    fun W h=>dig17_any ng oa la ca n.natAbs 5 W h (by have:=HN.out;unfold I64 at this;omega) (by omega) (by omega)
   go_upto_block 1 with (first
    | (go_at_call 101;(with_reducible refine (hd _ HX.out.2).mono ?_);rintro e w3 ⟨⟨j,hj,hj24,rfl⟩,o3⟩;have hz:(st (low j n.natAbs)).size=j:=by rw [st_sizeN,low_len]))
   clear hd
   obtain ⟨S,hS⟩:∃ S,S=st (low j n.natAbs):=⟨_,rfl⟩
   rw [←hS] at hz ⊢
   have HS:=hid hS
   have hj5:=hj.1
   have HJ:=hid hj
   clear hS hj
   have HG:=hid (fun q (h:q<j)=>bt_get S q (by rw [hz];exact h))
   go_cut [6] from 33 to 46 (fun i wx=>∃ a:Nat,i=.int .i64 (a:Int)∧wx=w3∧Hid (a≤j∧j≤a+3∧(∀ q,a≤q→q<j→bt S q=48)∧(a+3=j∨¬ bt S (a-1)=48)))
   case first=>
    go_wp2_with fail
    go_loopw [6] (fun i wr=>∃ a:Nat,a≤j∧j≤a+3∧i=.int .i64 (a:Int)∧Hid (∀ q,a≤q→q<j→bt S q=48)∧wr=w3) (fun i _=>(RowKit.intOf i).toNat)
    case atStart=>exact ⟨j,Nat.le_refl _,by omega,rfl,hid (fun q h1 h2=>by omega),rfl⟩
    case round=>
     obtain ⟨a,haj,hja,rfl,HA,hw⟩:=hrel
     subst hw
     by_cases hlt:j<a+3
     ·obtain ⟨a',rfl⟩:∃ a',a=a'+1:=⟨a-1,by omega⟩
      have g:=HG.out a' (by omega)
      obtain ⟨b,hb⟩:∃ b,b=bt S a':=⟨_,rfl⟩
      rw [←hb] at g
      have HBT:=hid hb
      clear hb
      by_cases h48:b=48
      ·subst h48
       go_wp2_with fail
       go_roundw
       case rel=>exact ⟨a',by omega,by omega,by go_num,hid (fun q h1 h2=>by
        rcases Nat.eq_or_lt_of_le h1 with h|h
        ·rw [←h];exact HBT.out.symm
        ·exact HA.out q (by omega) h2),trivial⟩
       case measure=>simp [RowKit.intOf]
      ·have e48:(b==48)=false:=by simpa using h48
       go_wp2_with fail
       go_meet
       exact ⟨a'+1,by go_num,rfl,hid ⟨haj,hja,HA.out,Or.inr (by rw [Nat.add_sub_cancel,←HBT.out];exact h48)⟩⟩
     ·go_wp2_with fail
      go_meet
      exact ⟨a,rfl,rfl,hid ⟨haj,hja,HA.out,Or.inl (by omega)⟩⟩
   case rest=>
   obtain ⟨a,rfl,rfl,HA⟩:=hcut
   have ha1:=HA.out.1
   have ha2:=HA.out.2.1
   obtain ⟨m,rfl⟩:∃ m,j=m+4:=⟨j-4,by omega⟩
   have hsl:(sgL n).length≤1:=by rw [←st_sizeN];exact hsg
   go_upto_region 17 with fail
   refine wp_region_inv (spOf [.eq (.string (st (sgL n))),.eq (.string S),.eq (.string S),.eq (.int .i64 ((m+4:Nat):Int)),.eq (.int .i64 (m:Int)),.eq (.string (st ((low (m+4) n.natAbs).take m))),.eq (.string (st ((sgL n)++(low (m+4) n.natAbs).take m))),.eq (.string (st ((sgL n)++(low (m+4) n.natAbs).take m++[46]))),.eq (.string S),.eq (.string S),.eq (.int .i64 ((m+4:Nat):Int)),.eq (.int .i64 (m:Int)),.eq (.int .i64 (a:Int)),.eq (.string (st (((low (m+4) n.natAbs).drop m).take (a-m)))),.eq (.string (st ((sgL n)++(low (m+4) n.natAbs).take m++[46]++((low (m+4) n.natAbs).drop m).take (a-m)))),.eq (.string (st ((sgL n)++(low (m+4) n.natAbs).take m++[46]++((low (m+4) n.natAbs).drop m).take (a-m))))]) (by kernel_rfl) (by kernel_rfl) (spOf_mono _) ?_ ?_
   ·refine ⟨?_,?_,?_,?_,?_,?_,?_,?_,?_,?_,?_,?_,?_,?_,?_,?_,trivial⟩
    ·refine step_plain rfl fun ρ wr ho hr hd=>?_
     exact does_move rfl ((hr.1 4 rfl).trans rfl) ⟨in_eq rfl,Old.refl _⟩
    ·refine step_plain rfl fun ρ wr ho hr hd=>?_
     exact does_move rfl ((hr.1 5 rfl).trans rfl) ⟨in_eq rfl,Old.refl _⟩
    ·refine step_plain rfl fun ρ wr ho hr hd=>?_
     exact does_move rfl ((hr.1 5 rfl).trans rfl) ⟨in_eq rfl,Old.refl _⟩
    ·refine step_plain rfl fun ρ wr ho hr hd=>?_
     obtain ⟨e0,_⟩:=hd
     have d0:ρ (.tmp 49)=.string S:=spOf_eq (e0 rfl) rfl
     refine does_lenS rfl rfl d0 ?_
     rw [hz]
     exact ⟨in_eq rfl,Old.refl _⟩
    ·refine step_plain rfl fun ρ wr ho hr hd=>?_
     obtain ⟨e0,_⟩:=hd
     have d0:ρ (.tmp 50)=.int .i64 ((m+4:Nat):Int):=spOf_eq (e0 rfl) rfl
     exact does_sub4 rfl d0 (hr.2.1 _) (by omega) ⟨in_eq rfl,Old.refl _⟩
    ·refine step_plain rfl fun ρ wr ho hr hd=>?_
     obtain ⟨e0,e1,_⟩:=hd
     have d0:ρ (.tmp 48)=.string S:=spOf_eq (e0 rfl) rfl
     have d1:ρ (.tmp 51)=.int .i64 (m:Int):=spOf_eq (e1 rfl) rfl
     refine does_upto rfl d0 d1 (by omega) (by omega) ?_
     rw [HS.out,take_ext0]
     exact ⟨in_eq rfl,Old.refl _⟩
    ·refine step_plain rfl fun ρ wr ho hr hd=>?_
     obtain ⟨e0,e1,_⟩:=hd
     have d0:ρ (.tmp 47)=.string (st (sgL n)):=spOf_eq (e0 rfl) rfl
     have d1:ρ (.tmp 52)=.string (st ((low (m+4) n.natAbs).take m)):=spOf_eq (e1 rfl) rfl
     exact does_addL rfl d0 d1 (by simp only [List.length_append,List.length_cons,List.length_nil,List.length_take,List.length_drop,low_len];omega) ⟨in_eq rfl,Old.refl _⟩
    ·refine step_plain rfl fun ρ wr ho hr hd=>?_
     obtain ⟨e0,_⟩:=hd
     have d0:ρ (.tmp 53)=.string (st ((sgL n)++(low (m+4) n.natAbs).take m)):=spOf_eq (e0 rfl) rfl
     exact does_addL rfl d0 ((hr.2.1 _).trans rfl) (by simp only [List.length_append,List.length_cons,List.length_nil,List.length_take,List.length_drop,low_len];omega) ⟨in_eq rfl,Old.refl _⟩
    ·refine step_plain rfl fun ρ wr ho hr hd=>?_
     exact does_move rfl ((hr.1 5 rfl).trans rfl) ⟨in_eq rfl,Old.refl _⟩
    ·refine step_plain rfl fun ρ wr ho hr hd=>?_
     exact does_move rfl ((hr.1 5 rfl).trans rfl) ⟨in_eq rfl,Old.refl _⟩
    ·refine step_plain rfl fun ρ wr ho hr hd=>?_
     obtain ⟨e0,_⟩:=hd
     have d0:ρ (.tmp 56)=.string S:=spOf_eq (e0 rfl) rfl
     refine does_lenS rfl rfl d0 ?_
     rw [hz]
     exact ⟨in_eq rfl,Old.refl _⟩
    ·refine step_plain rfl fun ρ wr ho hr hd=>?_
     obtain ⟨e0,_⟩:=hd
     have d0:ρ (.tmp 57)=.int .i64 ((m+4:Nat):Int):=spOf_eq (e0 rfl) rfl
     exact does_sub4 rfl d0 (hr.2.1 _) (by omega) ⟨in_eq rfl,Old.refl _⟩
    ·refine step_plain rfl fun ρ wr ho hr hd=>?_
     exact does_move rfl ((hr.1 6 rfl).trans rfl) ⟨in_eq rfl,Old.refl _⟩
    ·refine step_plain rfl fun ρ wr ho hr hd=>?_
     obtain ⟨e0,e1,e2,_⟩:=hd
     have d0:ρ (.tmp 55)=.string S:=spOf_eq (e0 rfl) rfl
     have d1:ρ (.tmp 58)=.int .i64 (m:Int):=spOf_eq (e1 rfl) rfl
     have d2:ρ (.tmp 59)=.int .i64 (a:Int):=spOf_eq (e2 rfl) rfl
     refine does_part rfl d0 d1 d2 (by omega) (by omega) (by omega) ?_
     rw [HS.out,st_ext]
     exact ⟨in_eq rfl,Old.refl _⟩
    ·refine step_plain rfl fun ρ wr ho hr hd=>?_
     obtain ⟨e0,e1,_⟩:=hd
     have d0:ρ (.tmp 54)=.string (st ((sgL n)++(low (m+4) n.natAbs).take m++[46])):=spOf_eq (e0 rfl) rfl
     have d1:ρ (.tmp 60)=.string (st (((low (m+4) n.natAbs).drop m).take (a-m))):=spOf_eq (e1 rfl) rfl
     exact does_addL rfl d0 d1 (by simp only [List.length_append,List.length_cons,List.length_nil,List.length_take,List.length_drop,low_len];omega) ⟨in_eq rfl,Old.refl _⟩
    ·refine step_plain rfl fun ρ wr ho hr hd=>?_
     obtain ⟨e0,_⟩:=hd
     have d0:ρ (.tmp 61)=.string (st ((sgL n)++(low (m+4) n.natAbs).take m++[46]++((low (m+4) n.natAbs).drop m).take (a-m))):=spOf_eq (e0 rfl) rfl
     exact does_assign rfl d0 ⟨in_eq rfl,Old.refl _⟩
   ·intro a' w' ho hst hlf
    obtain ⟨_,_,_,_,_,_,_,_,_,_,_,_,_,_,_,e2,_⟩:=hlf
    have e2:a'.eval (.tmp 2)=.string (st ((sgL n)++(low (m+4) n.natAbs).take m++[46]++((low (m+4) n.natAbs).drop m).take (a-m))):=spOf_eq e2 rfl
    rw [act_fresh hst [false,false,true,false,false,false,false,false,false,false,false,false,false,false,false,false,false,false,false,false,false,false,false,false,false,false,false,false,false,false,false,false,false,false,false,false,false,false,false,false,false,false,false,false,false,false,false,true,true,true,true,true,true,true,true,true,true,true,true,true,true,true,false,false,false,false,false,false,false,false,false,false,false,false,false,false,false,false,false,false,false,false,false,false,false,false,false,false,false,false,false,false,false,false,false,false,false,false,false,false,false,false,false] (by kernel_rfl) (by kernel_rfl)]
    simp only [fresh,e2]
    go_wp2_with fail
    go_ret
    refine ⟨rs ?_,HO.out.trans (o3.trans ho)⟩
    have hA:=HA.out.2.2
    rw [HS.out] at hA
    have hD:=dec_trimmed HJ.out (by omega) (by omega) hA.1 hA.2
    simp only [List.append_assoc,List.cons_append,List.nil_append] at hD
    rw [hD]
    unfold textL
    rw [HM.out]
    rfl
  by_cases h3:k=3
  ·obtain rfl:=h3
   have hk3:s.size≤200:=may_str HM.out
   have HG:=hid (fun q (h:q<s.size)=>bt_get s q h)
   go_wp2_with fail
   go_loopw [7,8] (fun t i wr=>∃ q:Nat,q≤s.size∧i=.int .i64 (q:Int)∧t=.string (st (34::escL (s.data.toList.take q)))∧wr=wc) (fun _ i _=>(s.size-RowKit.intOf i).toNat)
   case atStart=>exact ⟨0,Nat.zero_le _,rfl,rfl,rfl⟩
   case round=>
    obtain ⟨q,hq,rfl,rfl,hw⟩:=hrel
    subst hw
    have hx:(st (34::escL (s.data.toList.take q))).size≤401:=by
     rw [st_sizeN,List.length_cons]
     have:=escL_len (s.data.toList.take q)
     have:=List.length_take_le q s.data.toList
     omega
    by_cases hqn:q<s.size
    ·obtain ⟨X,hX⟩:∃ X,X=34::escL (s.data.toList.take q):=⟨_,rfl⟩
     have HXX:=hid hX.symm
     rw [←hX] at hx ⊢
     clear hX
     have g:=HG.out q hqn
     have hb0:=bt_of hqn
     have hm2:=esc_more hqn
     obtain ⟨u,hu⟩:∃ u,u=s.data.toList[q]'(by simpa using hqn):=⟨_,rfl⟩
     rw [←hu] at hb0 hm2
     have hex:s.extract q (q+1)=st [u]:=by
      have h:(st s.data.toList).extract q (q+1)=_:=st_ext _ _ _
      refine h.trans ?_
      rw [hu,Nat.add_sub_cancel_left,List.drop_eq_getElem_cons (by simpa using hqn)]
      rfl
     obtain ⟨b,hb⟩:∃ b,b=bt s q:=⟨_,rfl⟩
     rw [←hb] at g hb0
     have HB0:=hid hb0
     have HM2:=hid hm2
     clear hb hb0 hm2 hu
     have hsl:(Instr.slice 9 (.string s) (some (.int .i64 (q:Int))) (some (.int .i64 ((q:Int)+1))) none).run Tryz.prog wr=.ok (.string (st [u])) wr:=by
      rw [←hex]
      exact slice_part (S:=s) (b:=q) (e:=q+1) wr (by omega) (by omega) (by omega)
     obtain ⟨T,hT⟩:∃ T,T=st X:=⟨_,rfl⟩
     obtain ⟨V,hV⟩:∃ V,V=st [u]:=⟨_,rfl⟩
     have hv1:V.size=1:=by rw [hV];rfl
     rw [←hT] at hx ⊢
     rw [←hV] at hsl
     have HTT:=hid hT
     have HV:=hid hV
     have hx2:(T++⟨#[92]⟩).size≤402:=by
      rw [ByteArray.size_append]
      show T.size+1≤402
      omega
     clear hT hV hex
     by_cases h34:b=34
     ·have HE:Hid (escB u=[92,u]):=hid (by
       unfold escB
       rw [if_pos]
       left;apply UInt8.toNat_inj.1;have:=HB0.out;simp;omega)
      subst h34
      go_wp2_with fail
      go_roundw
      case rel=>
       refine ⟨q+1,by omega,by go_num,?_,trivial⟩
       rw [HM2.out,HE.out,←List.cons_append,HXX.out,HTT.out,HV.out]
       exact congrArg Value.string ((congrArg (·++ st [u]) (app_st X [92])).trans ((app_st (X++[92]) [u]).trans (by simp [List.append_assoc])))
      case measure=>simp [RowKit.intOf];omega
     by_cases h92:b=92
     ·have HE:Hid (escB u=[92,u]):=hid (by
       unfold escB
       rw [if_pos]
       right;apply UInt8.toNat_inj.1;have:=HB0.out;simp;omega)
      subst h92
      go_wp2_with fail
      go_roundw
      case rel=>
       refine ⟨q+1,by omega,by go_num,?_,trivial⟩
       rw [HM2.out,HE.out,←List.cons_append,HXX.out,HTT.out,HV.out]
       exact congrArg Value.string ((congrArg (·++ st [u]) (app_st X [92])).trans ((app_st (X++[92]) [u]).trans (by simp [List.append_assoc])))
      case measure=>simp [RowKit.intOf];omega
     ·have HE:Hid (escB u=[u]):=hid (by
       unfold escB
       rw [if_neg]
       have:=HB0.out
       rintro (e|e)
       ·apply h34;rw [this,e];rfl
       ·apply h92;rw [this,e];rfl)
      have e34:(b==34)=false:=by simpa using h34
      have e92:(b==92)=false:=by simpa using h92
      clear h34 h92
      go_wp2_with fail
      go_roundw
      case rel=>
       refine ⟨q+1,by omega,by go_num,?_,trivial⟩
       rw [HM2.out,HE.out,←List.cons_append,HXX.out,HTT.out,HV.out]
       exact congrArg Value.string (app_st X [u])
      case measure=>simp [RowKit.intOf];omega
    ·have hqe:q=s.size:=by omega
     have ht:s.data.toList.take q=s.data.toList:=List.take_of_length_le (by rw [hqe];exact Nat.le_of_eq (by simp))
     rw [ht] at hx ⊢
     obtain ⟨T,hT⟩:∃ T,T=st (34::escL s.data.toList):=⟨_,rfl⟩
     rw [←hT] at hx ⊢
     have HTT:=hid hT
     clear hT
     have HQ:=hid hqe
     clear hqe ht
     go_wp2_with fail
     go_ret
     refine ⟨(congrArg (fun b=>Ending.returned (.string b)) ((congrArg (·++ st [34]) HTT.out).trans (app_st (34::escL s.data.toList) [34]))).trans (rs ?_),HO.out⟩
     unfold textL
     rw [HM.out]
     rfl
  by_cases h4:k=4
  ·obtain rfl:=h4
   by_cases hn1:n=1
   ·subst hn1
    go_wp2_with fail
    go_ret
    exact ⟨rs (by unfold textL;rw [HM.out];rfl),HO.out⟩
   ·go_wp2_with fail
    go_ret
    refine ⟨rs ?_,HO.out⟩
    unfold textL
    rw [HM.out]
    have e:(n==1)=false:=by simpa using hn1
    show _=Lib.formatBool (n==1)
    rw [e]
    rfl
  by_cases h5:k=5
  ·obtain rfl:=h5
   go_wp2_with fail
   go_ret
   refine ⟨(congrArg (fun b=>Ending.returned (.string b)) (app_st [35] s.data.toList)).trans (rs ?_),HO.out⟩
   unfold textL
   rw [HM.out]
   rfl
  have h0:k=0:=by
   have:=HM.out
   unfold mayB at this
   refine Classical.byContradiction fun h=>?_
   simp [h,h1,h2,h3,h4,h5] at this
  subst h0
  go_wp2_with fail
  go_ret
  exact ⟨rs (by unfold textL;rw [HM.out];rfl),HO.out⟩
end Go.Proofs.YtmkmafkkpigfpaaGreatDoor
namespace Go.Proofs.YtmkmafkkpigfpaaGreatDoor
open Go.Lib
set_option linter.unusedVariables false
set_option linter.unusedSimpArgs false
set_option maxRecDepth 100000
theorem pum_ok (M:Nat) (l:List UInt8):∀ (acc v:Nat),l.all dg8=true→Lib.parseUintM M acc l=.ok v→v=vL acc l:=by
 induction l with
 | nil=>intro acc v _ h;unfold Lib.parseUintM at h;injection h with h;exact h.symm
 | cons c l ih=>
   intro acc v h hv
   rw [List.all_cons,Bool.and_eq_true] at h
   have hc:48≤c.toNat∧c.toNat≤57:=by have:=h.1;unfold dg8 at this;simpa using this
   unfold Lib.parseUintM at hv
   rw [if_pos hc] at hv
   split at hv
   ·cases hv
   ·split at hv
    ·cases hv
    ·rw [vL_cons];exact ih _ _ h.2 hv
theorem num_all_of (k:Int) (neg:Bool) (D:List UInt8) (hne:D≠[]) (h:D.all dg8=true) (x:Int) (hx:x=if neg then -(vL 0 D:Int) else (vL 0 D:Int)) :
 numV k ((if neg then [45] else [])++D)=if I64 x then (k,x,0) else (0,0,9):=by
 by_cases hi:I64 x
 ·rw [if_pos hi]
  unfold I64 at hi
  cases neg with
  | true=>
    rw [if_pos rfl] at hx ⊢
    have:=num_neg k D hne h (by omega)
    rw [hx];exact this
  | false=>
    simp only [Bool.false_eq_true,if_false] at hx ⊢
    have:=num_pos k D hne h (by omega)
    rw [hx];exact this
 ·rw [if_neg hi]
  unfold numV
  split
  ·next v hp=>
   exfalso
   apply hi
   have hb:=Lib.parseIntB_bounds hp
   have hv:v=x:=by
    obtain ⟨c,r,e⟩:∃ c r,D=c::r:=List.exists_cons_of_ne_nil hne
    cases neg with
    | true=>
      rw [if_pos rfl] at hx hp
      have e45:(45:UInt8).toNat=43∨(45:UInt8).toNat=45:=Or.inr rfl
      unfold Lib.parseIntB at hp
      simp only [List.singleton_append,if_pos e45] at hp
      cases hu:Lib.parseUintB 64 D with
      | ok u=>
        have hu':=hu
        unfold Lib.parseUintB at hu'
        rw [if_neg hne] at hu'
        have hvu:=pum_ok _ D 0 u h hu'
        rw [hu] at hp
        simp only at hp
        split at hp
        ·cases hp
        ·split at hp
         ·cases hp
         ·rw [if_pos (show (45:UInt8).toNat=45 from rfl)] at hp
          injection hp with hp
          rw [hx,←hp,hvu]
      | _=>rw [hu] at hp;first|cases hp|(simp only at hp;cases hp)
    | false=>
      simp only [Bool.false_eq_true,if_false] at hx hp
      have hc:=first_not h e
      rw [List.nil_append] at hp
      cases hu:Lib.parseUintB 64 D with
      | ok u=>
        have hu':=hu
        unfold Lib.parseUintB at hu'
        rw [if_neg hne] at hu'
        have hvu:=pum_ok _ D 0 u h hu'
        rw [e] at hp hu
        unfold Lib.parseIntB at hp
        simp only [if_neg (by omega:¬ (c.toNat=43∨c.toNat=45)),hu] at hp
        split at hp
        ·cases hp
        ·split at hp
         ·cases hp
         ·rw [if_neg (by omega)] at hp
          injection hp with hp
          rw [hx,←hp,hvu]
      | _=>
        rw [e] at hp hu
        unfold Lib.parseIntB at hp
        simp only [if_neg (by omega:¬ (c.toNat=43∨c.toNat=45)),hu] at hp
        cases hp
   rw [←hv]
   unfold I64
   simp only [Nat.reducePow,Nat.reduceSub] at hb ⊢
   omega
  ·rfl
def scN (F:Nat):List UInt8→Nat→Option Nat→Nat→Option (Nat × Option Nat)
 | [],x,pt,_=>some (x,pt)
 | c::r,x,pt,k=>if c=46∧pt=none∧F<k then scN F r x (some k) (k+1) else if dg8 c then scN F r (x*10+(c.toNat-48)) pt (k+1) else none
theorem scN_pt (F p:Nat):∀ (r:List UInt8) (x k:Nat),scN F r x (some p) k=if r.all dg8 then some (vL x r,some p) else none
 | [],x,k=>rfl
 | c::r,x,k=>by
   rw [scN,if_neg (by rintro ⟨_,h,_⟩;cases h)]
   cases hc:dg8 c with
   | true=>rw [if_pos rfl,scN_pt F p r,List.all_cons,hc,Bool.true_and,vL_cons]
   | false=>rw [if_neg (by exact Bool.false_ne_true),List.all_cons,hc,Bool.false_and,if_neg (by exact Bool.false_ne_true)]
theorem dg46:dg8 46=false:=by decide
theorem scN_dig (F:Nat):∀ (a r:List UInt8) (x:Nat) (k:Nat),a.all dg8=true→scN F (a++r) x none k=scN F r (vL x a) none (k+a.length)
 | [],r,x,k,_=>rfl
 | c::a,r,x,k,h=>by
   rw [List.all_cons,Bool.and_eq_true] at h
   have hc:¬ c=46:=by rintro rfl;exact absurd h.1 (by decide)
   rw [List.cons_append,scN,if_neg (fun h=>hc h.1),if_pos h.1,scN_dig F a r _ _ h.2,vL_cons,List.length_cons]
   congr 1
   omega
theorem digs_span:∀ B:List UInt8,B.all dg8=true∨∃ a c r,B=a++c::r∧a.all dg8=true∧dg8 c=false
 | []=>Or.inl rfl
 | c::B=>by
   cases hc:dg8 c with
   | false=>exact Or.inr ⟨[],c,B,rfl,rfl,hc⟩
   | true=>
     rcases digs_span B with h|⟨a,d,r,e,h1,h2⟩
     ·exact Or.inl (by rw [List.all_cons,hc,h];rfl)
     ·exact Or.inr ⟨c::a,d,r,by rw [e];rfl,by rw [List.all_cons,hc,h1];rfl,h2⟩
theorem index_far:∀ (a:List UInt8) (c:UInt8) (r:List UInt8),a.all dg8=true→c≠46→Lib.index (a++c::r) [46]=-1∨(a.length:Int)+1≤Lib.index (a++c::r) [46]
 | [],c,r,_,hc=>by
   have g:=Lib.index_ge r [46]
   have ec:((46:UInt8)==c)=false:=by simpa using fun e=>hc e.symm
   rw [List.nil_append,Lib.index]
   simp only [List.isPrefixOf,ec,Bool.false_and,Bool.false_eq_true,if_false]
   split
   ·exact Or.inl rfl
   ·next h=>right;simp only [List.length_nil];have:¬ Lib.index r [46]=-1:=by simpa using h
            omega
 | d::a,c,r,h,hc=>by
   rw [List.all_cons,Bool.and_eq_true] at h
   have hd:¬ d=46:=by rintro rfl;exact absurd h.1 (by decide)
   have ed:((46:UInt8)==d)=false:=by simpa using fun e=>hd e.symm
   have ih:=index_far a c r h.2 hc
   rw [List.cons_append,Lib.index]
   simp only [List.isPrefixOf,ed,Bool.false_and,Bool.false_eq_true,if_false]
   split
   ·exact Or.inl rfl
   ·next h=>right;have:¬ Lib.index (a++c::r) [46]=-1:=by simpa using h
            rcases ih with ih|ih
            ·exact absurd ih this
            ·rw [List.length_cons];omega
theorem cut_bad (a:List UInt8) (c:UInt8) (r:List UInt8) (h:a.all dg8=true) (hc:c≠46) (h2:dg8 c=false):wholeL (Lib.cut (a++c::r) [46]).1=false:=by
 have hw:∀ t,wholeL (a++c::t)=false:=fun t=>by
  unfold wholeL digsL
  rw [List.all_append,List.all_cons,h2,Bool.false_and,Bool.and_false,Bool.and_false,Bool.false_and]
 unfold Lib.cut
 rcases index_far a c r h hc with hi|hi
 ·rw [hi];exact hw r
 ·rw [if_pos (by omega)]
  obtain ⟨n,hn⟩:∃ n:Nat,(Lib.index (a++c::r) [46]).toNat=a.length+(n+1):=⟨(Lib.index (a++c::r) [46]).toNat-a.length-1,by omega⟩
  show wholeL ((a++c::r).take (Lib.index (a++c::r) [46]).toNat)=false
  rw [hn,List.take_append]
  rw [List.take_of_length_le (by omega),Nat.add_sub_cancel_left]
  exact hw (r.take n)
def nought (B:List UInt8) (n:Nat):Bool:=n==0||(B.head?==some 48&&decide (1<n))
def numB (B:List UInt8):Option (Nat × Bool):=
 match scN 0 B 0 none 0 with
 | none=>none
 | some (x,none)=>if nought B B.length then none else some (x,false)
 | some (x,some p)=>if B.length-p-1<1∨4<B.length-p-1 then none else if nought B p then none else some (x*10^(4-(B.length-p-1)),true)
theorem vL_reps (x:Nat):∀ n,vL x (Lib.repeatL [48] n)=x*10^n
 | 0=>by rw [Nat.pow_zero,Nat.mul_one];rfl
 | n+1=>by
   have e:Lib.repeatL [48] (n+1)=48::Lib.repeatL [48] n:=rfl
   have hx:∀ y:Nat,vL y (Lib.repeatL [48] n)=y*10^n:=fun y=>vL_reps y n
   rw [e,vL_cons,hx,Nat.pow_succ]
   simp only [show (48:UInt8).toNat-48=0 from rfl,Nat.add_zero]
   rw [Nat.mul_assoc,Nat.mul_comm 10]
theorem whole_not {B:List UInt8} (h:B.all dg8=true):wholeL B=!nought B B.length:=by
 unfold wholeL digsL nought
 rw [h]
 cases B with
 | nil=>rfl
 | cons c r=>
   simp only [List.isEmpty_cons,Bool.not_false,Bool.true_and,List.length_cons,List.head?_cons]
   rw [Bool.not_or,Bool.not_and]
   have e0:(r.length+1==0)=false:=by simp
   rw [e0,Bool.not_false,Bool.true_and]
   cases r with
   | nil=>simp
   | cons d r=>
     have e1:(List.length (d::r)+1==1)=false:=by simp
     rw [e1,Bool.false_or]
     have e2:decide (1<(d::r).length+1)=true:=by simp
     rw [e2,Bool.not_true,Bool.or_false]
     rfl
theorem numB_read (neg:Bool) (B:List UInt8) (wh rs:List UInt8) (pt:Bool) (hcut:Lib.cut B [46]=(wh,rs,pt)) :
 readC (if neg then [45] else []) wh rs pt=match numB B with
  | none=>(0,0,4)
  | some (x,d)=>if I64 (if neg then -(x:Int) else (x:Int)) then ((if d then 2 else 1),(if neg then -(x:Int) else (x:Int)),0) else (0,0,9):=by
 rcases digs_span B with h|⟨a,c,r,e,h1,h2⟩
 ·rw [cut_none h] at hcut
  simp only [Prod.mk.injEq] at hcut
  obtain ⟨h3,h4,h5⟩:=hcut
  subst h3 h4 h5
  have hs:scN 0 B 0 none 0=some (vL 0 B,none):=by
   have:=scN_dig 0 B [] 0 0 h
   rw [List.append_nil] at this
   rw [this];rfl
  have hn:numB B=if nought B B.length then none else some (vL 0 B,false):=by unfold numB;rw [hs]
  rw [hn]
  cases hq:nought B B.length with
  | true=>
    have hw:wholeL B=false:=by rw [whole_not h,hq];rfl
    unfold readC
    rw [if_pos hw];rfl
  | false=>
    have hw:wholeL B=true:=by rw [whole_not h,hq];rfl
    have hne:B≠[]:=by rintro rfl;cases hw
    rw [readC_int _ _ hw,num_all_of 1 neg B hne h _ rfl]
    rfl
 ·by_cases hc:c=46
  ·subst hc
   rw [e,cut_dot a r h1] at hcut
   simp only [Prod.mk.injEq] at hcut
   obtain ⟨h3,h4,h5⟩:=hcut
   subst h3 h4 h5
   have hlen:B.length=a.length+1+r.length:=by rw [e,List.length_append,List.length_cons];omega
   have hno:nought B a.length=nought a a.length:=by
    unfold nought
    cases a with
    | nil=>rfl
    | cons x a=>rw [e];rfl
   by_cases ha:a=[]
   ·subst ha
    have hs:scN 0 B 0 none 0=none:=by
     rw [e,List.nil_append,scN,if_neg (by rintro ⟨_,_,h⟩;omega),if_neg (by rw [dg46];exact Bool.false_ne_true)]
    have hn:numB B=none:=by unfold numB;rw [hs]
    rw [hn]
    unfold readC
    rw [if_pos (show wholeL []=false from rfl)]
   ·have hpos:0<a.length:=List.length_pos_iff.2 ha
    have hs:scN 0 B 0 none 0=if r.all dg8 then some (vL (vL 0 a) r,some a.length) else none:=by
     rw [e,scN_dig 0 a _ 0 0 h1,scN,if_pos ⟨rfl,rfl,by omega⟩,scN_pt,Nat.zero_add]
    cases hr:r.all dg8 with
    | false=>
      rw [hr,if_neg (by exact Bool.false_ne_true)] at hs
      have hn:numB B=none:=by unfold numB;rw [hs]
      rw [hn]
      unfold readC
      split
      ·rfl
      ·rw [if_neg (by decide)]
       rw [if_pos (by unfold digsL;rw [hr,Bool.and_false];rfl)]
    | true=>
      rw [hr,if_pos rfl] at hs
      have hrl:B.length-a.length-1=r.length:=by omega
      have hn:numB B=if r.length<1∨4<r.length then none else if nought a a.length then none else some (vL 0 (a++r)*10^(4-r.length),true):=by
       unfold numB;rw [hs];simp only [hrl,hno,vL_app]
      rw [hn]
      by_cases hl:r.length<1∨4<r.length
      ·rw [if_pos hl]
       unfold readC
       split
       ·rfl
       ·rw [if_neg (by decide)]
        rw [if_pos]
        rcases hl with hl|hl
        ·have:r=[]:=List.eq_nil_of_length_eq_zero (by omega)
         rw [this];rfl
        ·rw [decide_eq_true hl,Bool.or_true]
      ·rw [if_neg hl]
       rw [not_or] at hl
       have hw:=whole_not h1
       cases hq:nought a a.length with
       | true=>
         rw [hq] at hw
         replace hw:wholeL a=false:=hw
         unfold readC
         rw [if_pos hw];rfl
       | false=>
         rw [hq] at hw
         have hd:digsL r=true:=by
          unfold digsL
          rw [hr,Bool.and_true]
          cases r with
          | nil=>exact absurd (by decide:([]:List UInt8).length<1) hl.1
          | cons=>rfl
         have hall:(a++r++Lib.repeatL [48] (4-r.length)).all dg8=true:=by
          rw [List.all_append,List.all_append,h1,hr,rep_digs];rfl
         have hne:a++r++Lib.repeatL [48] (4-r.length)≠[]:=by
          intro h0
          rw [List.append_assoc] at h0
          exact ha (List.append_eq_nil_iff.1 h0).1
         rw [readC_dec _ _ _ hw hd (by omega)]
         have:=num_all_of 2 neg _ hne hall _ rfl
         rw [vL_app,vL_reps] at this
         simp only [List.append_assoc] at this ⊢
         rw [this]
         rfl
  ·have hw:=cut_bad a c r h1 hc h2
   rw [←e,hcut] at hw
   have hs:scN 0 B 0 none 0=none:=by
    rw [e,scN_dig 0 a _ 0 0 h1,scN,if_neg (fun h=>hc h.1),if_neg (by rw [h2];exact Bool.false_ne_true)]
   have hn:numB B=none:=by unfold numB;rw [hs]
   rw [hn]
   unfold readC
   rw [if_pos hw]
end Go.Proofs.YtmkmafkkpigfpaaGreatDoor
