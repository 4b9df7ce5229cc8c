/- Layer expr: whether two trees are the same (the document's). The document's lexer: bytes; how far a name, a number goes. -/
import Derived.Test.YtkellpcljiodeaaGreatDoorKX
set_option maxHeartbeats 6400000
namespace Go.Proofs.YtkellpcljiodeaaGreatDoor
open Go.ChangeShapes Go.WideShapes Go.ChangeAt Go.RowKit Go.Lib
set_option linter.unusedVariables false
set_option linter.unusedSimpArgs false
set_option maxRecDepth 100000
theorem Nv.oldz {w w':World} {g:Nat} {cs:Array Value} (h:Nv w g cs) (ho:Old w w'):Nv w' g cs:=(ho.block g (blk_lt h)).trans h
def fz (b:Bool):Na→Na:=if b then Na.bare else id
theorem fz_eq {b:Bool} {x y:Na} (e:fz b x=fz b y):x.op=y.op∧x.vk=y.vk∧x.vn=y.vn∧x.vs=y.vs∧x.nm=y.nm∧x.ks=y.ks∧(b=false→x.ln=y.ln∧x.cl=y.cl):=by
 cases b with
 | true=>
   obtain ⟨h1,h2,h3,h4,h5,h6⟩:=na_bare.1 (show x.bare=y.bare from e)
   exact ⟨h1,h2,h3,h4,h5,h6,fun h=>by cases h⟩
 | false=>
   have e2:x=y:=e
   subst e2
   exact ⟨rfl,rfl,rfl,rfl,rfl,rfl,fun _=>⟨rfl,rfl⟩⟩
theorem fz_same {b:Bool} {x y:Na} (h1:x.op=y.op) (h2:x.vk=y.vk) (h3:x.vn=y.vn) (h4:x.vs=y.vs) (h5:x.nm=y.nm) (h6:x.ks=y.ks) (h7:b=false→x.ln=y.ln∧x.cl=y.cl):fz b x=fz b y:=by
 cases b with
 | true=>exact na_bare.2 ⟨h1,h2,h3,h4,h5,h6⟩
 | false=>
   obtain ⟨h8,h9⟩:=h7 rfl
   cases x;cases y
   simp only at h1 h2 h3 h4 h5 h6 h8 h9
   subst h1 h2 h3 h4 h5 h6 h8 h9
   rfl
theorem rsame_any (w:World) {T U:List Na} {va vb:Value} (bare:Bool) (ha:Tz w va T) (hb:Tz w vb U) (hl:T.length≤1000000) (hl2:U.length≤1000000) (hf:FewZ T) (hg:FewZ U):Calls Tryz.prog 11 #[va,vb,.bool bare] w fun e w'=>e=.returned (.bool (decide (T.map (fz bare)=U.map (fz bare))))∧Old w w':=by
 have HA:=hid ha
 have HB:=hid hb
 obtain ⟨oa,ca,rfl,a1,a2,_⟩:=ha
 obtain ⟨ob,cb,rfl,b1,b2,_⟩:=hb
 obtain ⟨n,hn⟩:∃ n,n=T.length:=⟨_,rfl⟩
 obtain ⟨m,hm⟩:∃ m,m=U.length:=⟨_,rfl⟩
 rw [←hn] at HA hl a1 ⊢
 rw [←hm] at HB hl2 b1 ⊢
 have HN:=hid hn
 have HM:=hid hm
 have HF:=hid hf
 have HG:=hid hg
 unfold maxLen at a2 b2
 obtain ⟨B,hB⟩:∃ B,B=decide (T.map (fz bare)=U.map (fz bare)):=⟨_,rfl⟩
 rw [←hB]
 have HBB:=hid hB
 clear hB hf hg
 by_cases hnm:n=m
 ·subst hnm
  have HO:=hid (show Old w w∧∀ j,j<0→(T.map (fz bare))[j]?=(U.map (fz bare))[j]? from ⟨Old.refl w,fun j h=>by omega⟩)
  clear hn hm
  go_enter Tryz.func11,Tryz.ntmps11
  go_wp2
  go_loopw [7] (fun i wr=>∃ k:Nat,k≤n∧i=.int .i64 (k:Int)∧Hid (Old w wr∧∀ j,j<k→(T.map (fz bare))[j]?=(U.map (fz bare))[j]?)) (fun i _=>(n-RowKit.intOf i).toNat)
  case atStart=>exact ⟨0,Nat.zero_le _,rfl,HO⟩
  case round=>
   clear HO
   obtain ⟨k,hk,rfl,HO⟩:=hrel
   rcases Nat.lt_or_ge k n with hkn|hkn
   ·obtain ⟨x,hx⟩:∃ x,T[k]?=some x:=⟨_,List.getElem?_eq_getElem (by rw [←HN.out];exact hkn)⟩
    obtain ⟨y,hy⟩:∃ y,U[k]?=some y:=⟨_,List.getElem?_eq_getElem (by rw [←HM.out];exact hkn)⟩
    have HXY:=hid (And.intro hx hy)
    have hfx:=HF.out x (List.mem_iff_getElem?.2 ⟨k,hx⟩)
    have hgy:=HG.out y (List.mem_iff_getElem?.2 ⟨k,hy⟩)
    obtain ⟨oa',ca',e1,_,_,h4⟩:=HA.out.old HO.out.1
    injection e1 with e1 z1 z2
    clear z1 z2
    subst e1
    obtain ⟨ga,kva,rfl,lga,_,c0,c1,c2,c3,c4,c5,c6,c7,hka⟩:=h4 k x hx
    obtain ⟨ob',cb',e2,_,_,h5⟩:=HB.out.old HO.out.1
    injection e2 with e2 z1 z2
    clear z1 z2
    subst e2
    obtain ⟨gb,kvb,rfl,lgb,_,d0,d1,d2,d3,d4,d5,d6,d7,hkb⟩:=h5 k y hy
    obtain ⟨op,vk,vn,vs,nm,ks,l1,p1⟩:=x
    obtain ⟨op',vk',vn',vs',nm',ks',l2,p2⟩:=y
    simp only at c0 c1 c2 c3 c4 c5 c6 c7 d0 d1 d2 d3 d4 d5 d6 d7 hka hkb hfx hgy
    obtain ⟨oka,cka,rfl,_⟩:=id hka
    obtain ⟨okb,ckb,rfl,_⟩:=id hkb
    obtain ⟨K,hK⟩:∃ K,K=ks.length:=⟨_,rfl⟩
    obtain ⟨K2,hK2⟩:∃ K2,K2=ks'.length:=⟨_,rfl⟩
    rw [←hK] at c5 hka hfx
    rw [←hK2] at d5 hkb hgy
    have HK:=hid hK
    have HK2:=hid hK2
    have HKA:=hid hka
    have HKB:=hid hkb
    have na:wr.heap.size≠ga:=Nat.ne_of_gt lga
    have nb:wr.heap.size≠gb:=Nat.ne_of_gt lgb
    have na2:wr.heap.size+1≠ga:=by omega
    have nb2:wr.heap.size+1≠gb:=by omega
    clear hx hy h4 h5 lga lgb hka hkb hK hK2
    go_upto_region 6 with fail
    go_cut [8,9] from 22 to 29 (fun u v wx=>∃ p q:Nat,u=.pointer (some ⟨p,0,none⟩)∧v=.pointer (some ⟨q,0,none⟩)∧Hid (Nv wx p #[.int .u8 op,.int .u8 vk,.int .i64 vn,.string (st vs),.string (st nm),.slice oka K cka,.int .i64 l1,.int .i64 p1])∧Hid (Nv wx q #[.int .u8 op',.int .u8 vk',.int .i64 vn',.string (st vs'),.string (st nm'),.slice okb K2 ckb,.int .i64 l2,.int .i64 p2])∧Hid (Old wr wx))
    case first=>
     go_region_held3 (fun w'=>w'.cell? ⟨ga,k*8,none⟩=some (.int .u8 op)∧w'.cell? ⟨ga,k*8+1,none⟩=some (.int .u8 vk)∧w'.cell? ⟨ga,k*8+2,none⟩=some (.int .i64 vn)∧w'.cell? ⟨ga,k*8+3,none⟩=some (.string (st vs))∧w'.cell? ⟨ga,k*8+4,none⟩=some (.string (st nm))∧w'.cell? ⟨ga,k*8+5,none⟩=some (.slice oka K cka)∧w'.cell? ⟨ga,k*8+6,none⟩=some (.int .i64 l1)∧w'.cell? ⟨ga,k*8+7,none⟩=some (.int .i64 p1)∧w'.cell? ⟨gb,k*8,none⟩=some (.int .u8 op')∧w'.cell? ⟨gb,k*8+1,none⟩=some (.int .u8 vk')∧w'.cell? ⟨gb,k*8+2,none⟩=some (.int .i64 vn')∧w'.cell? ⟨gb,k*8+3,none⟩=some (.string (st vs'))∧w'.cell? ⟨gb,k*8+4,none⟩=some (.string (st nm'))∧w'.cell? ⟨gb,k*8+5,none⟩=some (.slice okb K2 ckb)∧w'.cell? ⟨gb,k*8+6,none⟩=some (.int .i64 l2)∧w'.cell? ⟨gb,k*8+7,none⟩=some (.int .i64 p2))
      (first|with_reducible exact ⟨c0,c1,c2,c3,c4,c5,c6,c7,d0,d1,d2,d3,d4,d5,d6,d7⟩|go_keep)
      (fail)
     ·go_wp2_with fail
      go_meet
      have hs0:(wr.alloc (.cells #[.int .u8 op,.int .u8 vk,.int .i64 vn,.string (st vs),.string (st nm),.slice oka K cka,.int .i64 l1,.int .i64 p1] 38)).heap.size=wr.heap.size+1:=sz_alloc _ _
      have hP:Nv ((wr.alloc (.cells #[.int .u8 op,.int .u8 vk,.int .i64 vn,.string (st vs),.string (st nm),.slice oka K cka,.int .i64 l1,.int .i64 p1] 38)).alloc (.cells #[.int .u8 op',.int .u8 vk',.int .i64 vn',.string (st vs'),.string (st nm'),.slice okb K2 ckb,.int .i64 l2,.int .i64 p2] 38)).drew wr.heap.size #[.int .u8 op,.int .u8 vk,.int .i64 vn,.string (st vs),.string (st nm),.slice oka K cka,.int .i64 l1,.int .i64 p1]:=(((Old.refl _).alloc (.cells #[.int .u8 op',.int .u8 vk',.int .i64 vn',.string (st vs'),.string (st nm'),.slice okb K2 ckb,.int .i64 l2,.int .i64 p2] 38)).drew.block _ (by rw [hs0];exact Nat.lt_succ_self _)).trans (MapKept.heap_alloc wr _).1
      have hQ:Nv ((wr.alloc (.cells #[.int .u8 op,.int .u8 vk,.int .i64 vn,.string (st vs),.string (st nm),.slice oka K cka,.int .i64 l1,.int .i64 p1] 38)).alloc (.cells #[.int .u8 op',.int .u8 vk',.int .i64 vn',.string (st vs'),.string (st nm'),.slice okb K2 ckb,.int .i64 l2,.int .i64 p2] 38)).drew (wr.alloc (.cells #[.int .u8 op,.int .u8 vk,.int .i64 vn,.string (st vs),.string (st nm),.slice oka K cka,.int .i64 l1,.int .i64 p1] 38)).heap.size #[.int .u8 op',.int .u8 vk',.int .i64 vn',.string (st vs'),.string (st nm'),.slice okb K2 ckb,.int .i64 l2,.int .i64 p2]:=(MapKept.heap_alloc (wr.alloc (.cells #[.int .u8 op,.int .u8 vk,.int .i64 vn,.string (st vs),.string (st nm),.slice oka K cka,.int .i64 l1,.int .i64 p1] 38)) _).1
      rw [hs0] at hQ
      exact ⟨_,_,rfl,rfl,hid hP,hid hQ,hid (((Old.refl wr).alloc _).alloc _).drew⟩
     ·go_wp2_with fail
      go_meet
      have hs0:(wr.alloc (.cells #[.int .u8 op',.int .u8 vk',.int .i64 vn',.string (st vs'),.string (st nm'),.slice okb K2 ckb,.int .i64 l2,.int .i64 p2] 38)).heap.size=wr.heap.size+1:=sz_alloc _ _
      have hQ:Nv ((wr.alloc (.cells #[.int .u8 op',.int .u8 vk',.int .i64 vn',.string (st vs'),.string (st nm'),.slice okb K2 ckb,.int .i64 l2,.int .i64 p2] 38)).alloc (.cells #[.int .u8 op,.int .u8 vk,.int .i64 vn,.string (st vs),.string (st nm),.slice oka K cka,.int .i64 l1,.int .i64 p1] 38)).drew wr.heap.size #[.int .u8 op',.int .u8 vk',.int .i64 vn',.string (st vs'),.string (st nm'),.slice okb K2 ckb,.int .i64 l2,.int .i64 p2]:=(((Old.refl _).alloc (.cells #[.int .u8 op,.int .u8 vk,.int .i64 vn,.string (st vs),.string (st nm),.slice oka K cka,.int .i64 l1,.int .i64 p1] 38)).drew.block _ (by rw [hs0];exact Nat.lt_succ_self _)).trans (MapKept.heap_alloc wr _).1
      have hP:Nv ((wr.alloc (.cells #[.int .u8 op',.int .u8 vk',.int .i64 vn',.string (st vs'),.string (st nm'),.slice okb K2 ckb,.int .i64 l2,.int .i64 p2] 38)).alloc (.cells #[.int .u8 op,.int .u8 vk,.int .i64 vn,.string (st vs),.string (st nm),.slice oka K cka,.int .i64 l1,.int .i64 p1] 38)).drew (wr.alloc (.cells #[.int .u8 op',.int .u8 vk',.int .i64 vn',.string (st vs'),.string (st nm'),.slice okb K2 ckb,.int .i64 l2,.int .i64 p2] 38)).heap.size #[.int .u8 op,.int .u8 vk,.int .i64 vn,.string (st vs),.string (st nm),.slice oka K cka,.int .i64 l1,.int .i64 p1]:=(MapKept.heap_alloc (wr.alloc (.cells #[.int .u8 op',.int .u8 vk',.int .i64 vn',.string (st vs'),.string (st nm'),.slice okb K2 ckb,.int .i64 l2,.int .i64 p2] 38)) _).1
      rw [hs0] at hP
      exact ⟨_,_,rfl,rfl,hid hP,hid hQ,hid (((Old.refl wr).alloc _).alloc _).drew⟩
    case rest=>
     obtain ⟨p,q,rfl,rfl,HP,HQ,HW0⟩:=hcut
     have HW:=hid (HO.out.1.trans HW0.out)
     have r0:wc.cell? ⟨p,0,none⟩=some (.int .u8 op):=HP.out.c 0
     have i0:wc.cell? ⟨q,0,none⟩=some (.int .u8 op'):=HQ.out.c 0
     have r1:wc.cell? ⟨p,1,none⟩=some (.int .u8 vk):=HP.out.c 1
     have i1:wc.cell? ⟨q,1,none⟩=some (.int .u8 vk'):=HQ.out.c 1
     have r2:wc.cell? ⟨p,2,none⟩=some (.int .i64 vn):=HP.out.c 2
     have i2:wc.cell? ⟨q,2,none⟩=some (.int .i64 vn'):=HQ.out.c 2
     have r3:wc.cell? ⟨p,3,none⟩=some (.string (st vs)):=HP.out.c 3
     have i3:wc.cell? ⟨q,3,none⟩=some (.string (st vs')):=HQ.out.c 3
     have r4:wc.cell? ⟨p,4,none⟩=some (.string (st nm)):=HP.out.c 4
     have i4:wc.cell? ⟨q,4,none⟩=some (.string (st nm')):=HQ.out.c 4
     have r5:wc.cell? ⟨p,5,none⟩=some (.slice oka K cka):=HP.out.c 5
     have i5:wc.cell? ⟨q,5,none⟩=some (.slice okb K2 ckb):=HQ.out.c 5
     have r6:wc.cell? ⟨p,6,none⟩=some (.int .i64 l1):=HP.out.c 6
     have i6:wc.cell? ⟨q,6,none⟩=some (.int .i64 l2):=HQ.out.c 6
     have r7:wc.cell? ⟨p,7,none⟩=some (.int .i64 p1):=HP.out.c 7
     have i7:wc.cell? ⟨q,7,none⟩=some (.int .i64 p2):=HQ.out.c 7
     clear c0 c1 c2 c3 c4 c5 c6 c7 d0 d1 d2 d3 d4 d5 d6 d7 na nb na2 nb2
     by_cases h1:op=op'
     ·subst h1
      by_cases h2:vk=vk'
      ·subst h2
       by_cases h3:vn=vn'
       ·subst h3
        by_cases h4:vs=vs'
        ·subst h4
         by_cases h5:nm=nm'
         ·subst h5
          by_cases h6:K=K2
          ·subst h6
           by_cases h7:bare=false∧¬ (l1=l2∧p1=p2)
           ·obtain ⟨rfl,h7⟩:=h7
            by_cases h8:l1=l2
            ·subst h8
             have h9:p1≠p2:=fun h=>h7 ⟨rfl,h⟩
             have e9:(p1==p2)=false:=beq_false_of_ne h9
             go_wp2_with fail
             go_ret
             have hBf:B=false:=HBB.out.trans (decide_eq_false (map_differ HXY.out.1 HXY.out.2 (fun e=>h9 ((fz_eq e).2.2.2.2.2.2 rfl).2)))
             rw [hBf]
             exact ⟨rfl,HW.out⟩
            ·have e8:(l1==l2)=false:=beq_false_of_ne h8
             go_wp2_with fail
             go_ret
             have hBf:B=false:=HBB.out.trans (decide_eq_false (map_differ HXY.out.1 HXY.out.2 (fun e=>h8 ((fz_eq e).2.2.2.2.2.2 rfl).1)))
             rw [hBf]
             exact ⟨rfl,HW.out⟩
           ·cases bare
            ·obtain ⟨rfl,rfl⟩:l1=l2∧p1=p2:=Classical.byContradiction fun h=>h7 ⟨rfl,h⟩
             go_wp2_with fail
             go_loopw [10] (fun i wr2=>∃ j:Nat,j≤K∧i=.int .i64 (j:Int)∧Hid (Old wc wr2∧∀ t,t<j→ks[t]?=ks'[t]?)) (fun i _=>(K-RowKit.intOf i).toNat)
             case atStart=>exact ⟨0,Nat.zero_le _,rfl,hid ⟨Old.refl wc,fun t h=>by omega⟩⟩
             case round=>
              obtain ⟨j,hj,rfl,HJ⟩:=hrel
              have z5:=(Nv.oldz HP.out HJ.out.1).c 5
              have y5:=(Nv.oldz HQ.out HJ.out.1).c 5
              clear r0 r1 r2 r3 r4 r5 r6 r7 i0 i1 i2 i3 i4 i5 i6 i7
              rcases Nat.lt_or_ge j K with hjk|hjk
              ·obtain ⟨x,hx⟩:∃ x,ks[j]?=some x:=⟨_,List.getElem?_eq_getElem (by rw [←HK.out];exact hjk)⟩
               obtain ⟨y,hy⟩:∃ y,ks'[j]?=some y:=⟨_,List.getElem?_eq_getElem (by rw [←HK2.out];exact hjk)⟩
               have HXY2:=hid (And.intro hx hy)
               obtain ⟨ok1,ck1,e1,_,_,h4⟩:=(HKA.out.old HW0.out).old HJ.out.1
               injection e1 with e1 z1 z2
               clear z1 z2
               subst e1
               obtain ⟨g1,rfl,lg1,_,m0⟩:=h4 j x hx
               obtain ⟨ok2,ck2,e2,_,_,h5⟩:=(HKB.out.old HW0.out).old HJ.out.1
               injection e2 with e2 z1 z2
               clear z1 z2
               subst e2
               obtain ⟨g2,rfl,lg2,_,m1⟩:=h5 j y hy
               clear hx hy h4 h5 lg1 lg2
               by_cases hxy:x=y
               ·subst hxy
                go_wp2
                go_quiet (fail)
                go_wp2
                refine ⟨⟨j+1,by omega,by simp,hid ⟨HJ.out.1.drewN _,fun t ht=>?_⟩⟩,by simp only [RowKit.intOf];omega⟩
                rcases Nat.lt_or_ge t j with h|h
                ·exact HJ.out.2 t h
                ·obtain rfl:t=j:=by omega
                 rw [HXY2.out.1,HXY2.out.2]
               ·have exy:(x==y)=false:=beq_false_of_ne hxy
                go_wp2
                go_quiet (fail)
                go_wp2
                go_ret
                have hBf:B=false:=HBB.out.trans (decide_eq_false (map_differ HXY.out.1 HXY.out.2 (fun e=>by
                 have h1:=HXY2.out.1
                 rw [show ks=ks' from (fz_eq e).2.2.2.2.2.1,HXY2.out.2] at h1
                 injection h1 with h1
                 exact hxy h1.symm)))
                rw [hBf]
                exact ⟨rfl,(HW.out.trans HJ.out.1).drewN _⟩
              ·obtain rfl:j=K:=by omega
               have hks:ks=ks':=by
                apply List.ext_getElem?
                intro t
                rcases Nat.lt_or_ge t j with h|h
                ·exact HJ.out.2 t h
                ·rw [List.getElem?_eq_none (by rw [←HK.out];exact h),List.getElem?_eq_none (by rw [←HK2.out];exact h)]
               go_wp2
               refine ⟨⟨k+1,by omega,by simp,hid ⟨HW.out.trans HJ.out.1,fun t ht=>?_⟩⟩,by simp only [RowKit.intOf];omega⟩
               rcases Nat.lt_or_ge t k with h|h
               ·exact HO.out.2 t h
               ·obtain rfl:t=k:=by omega
                rw [List.getElem?_map,List.getElem?_map,HXY.out.1,HXY.out.2]
                exact congrArg some (fz_same rfl rfl rfl rfl rfl hks (by intro h;exact ⟨rfl,rfl⟩))
            ·go_wp2_with fail
             go_loopw [10] (fun i wr2=>∃ j:Nat,j≤K∧i=.int .i64 (j:Int)∧Hid (Old wc wr2∧∀ t,t<j→ks[t]?=ks'[t]?)) (fun i _=>(K-RowKit.intOf i).toNat)
             case atStart=>exact ⟨0,Nat.zero_le _,rfl,hid ⟨Old.refl wc,fun t h=>by omega⟩⟩
             case round=>
              obtain ⟨j,hj,rfl,HJ⟩:=hrel
              have z5:=(Nv.oldz HP.out HJ.out.1).c 5
              have y5:=(Nv.oldz HQ.out HJ.out.1).c 5
              clear r0 r1 r2 r3 r4 r5 r6 r7 i0 i1 i2 i3 i4 i5 i6 i7
              rcases Nat.lt_or_ge j K with hjk|hjk
              ·obtain ⟨x,hx⟩:∃ x,ks[j]?=some x:=⟨_,List.getElem?_eq_getElem (by rw [←HK.out];exact hjk)⟩
               obtain ⟨y,hy⟩:∃ y,ks'[j]?=some y:=⟨_,List.getElem?_eq_getElem (by rw [←HK2.out];exact hjk)⟩
               have HXY2:=hid (And.intro hx hy)
               obtain ⟨ok1,ck1,e1,_,_,h4⟩:=(HKA.out.old HW0.out).old HJ.out.1
               injection e1 with e1 z1 z2
               clear z1 z2
               subst e1
               obtain ⟨g1,rfl,lg1,_,m0⟩:=h4 j x hx
               obtain ⟨ok2,ck2,e2,_,_,h5⟩:=(HKB.out.old HW0.out).old HJ.out.1
               injection e2 with e2 z1 z2
               clear z1 z2
               subst e2
               obtain ⟨g2,rfl,lg2,_,m1⟩:=h5 j y hy
               clear hx hy h4 h5 lg1 lg2
               by_cases hxy:x=y
               ·subst hxy
                go_wp2
                go_quiet (fail)
                go_wp2
                refine ⟨⟨j+1,by omega,by simp,hid ⟨HJ.out.1.drewN _,fun t ht=>?_⟩⟩,by simp only [RowKit.intOf];omega⟩
                rcases Nat.lt_or_ge t j with h|h
                ·exact HJ.out.2 t h
                ·obtain rfl:t=j:=by omega
                 rw [HXY2.out.1,HXY2.out.2]
               ·have exy:(x==y)=false:=beq_false_of_ne hxy
                go_wp2
                go_quiet (fail)
                go_wp2
                go_ret
                have hBf:B=false:=HBB.out.trans (decide_eq_false (map_differ HXY.out.1 HXY.out.2 (fun e=>by
                 have h1:=HXY2.out.1
                 rw [show ks=ks' from (fz_eq e).2.2.2.2.2.1,HXY2.out.2] at h1
                 injection h1 with h1
                 exact hxy h1.symm)))
                rw [hBf]
                exact ⟨rfl,(HW.out.trans HJ.out.1).drewN _⟩
              ·obtain rfl:j=K:=by omega
               have hks:ks=ks':=by
                apply List.ext_getElem?
                intro t
                rcases Nat.lt_or_ge t j with h|h
                ·exact HJ.out.2 t h
                ·rw [List.getElem?_eq_none (by rw [←HK.out];exact h),List.getElem?_eq_none (by rw [←HK2.out];exact h)]
               go_wp2
               refine ⟨⟨k+1,by omega,by simp,hid ⟨HW.out.trans HJ.out.1,fun t ht=>?_⟩⟩,by simp only [RowKit.intOf];omega⟩
               rcases Nat.lt_or_ge t k with h|h
               ·exact HO.out.2 t h
               ·obtain rfl:t=k:=by omega
                rw [List.getElem?_map,List.getElem?_map,HXY.out.1,HXY.out.2]
                exact congrArg some (fz_same rfl rfl rfl rfl rfl hks (by intro h;cases h))
          ·have e6:((K:Int)==(K2:Int))=false:=beq_false_of_ne (by omega)
           go_wp2_with fail
           go_ret
           have hBf:B=false:=HBB.out.trans (decide_eq_false (map_differ HXY.out.1 HXY.out.2 (fun e=>h6 (by have:=congrArg List.length (fz_eq e).2.2.2.2.2.1;rw [HK.out,HK2.out];exact this))))
           rw [hBf]
           exact ⟨rfl,HW.out⟩
         ·have e5:(nm==nm')=false:=beq_false_of_ne h5
          have e5':(st nm==st nm')=false:=by rw [st_beq];exact e5
          go_wp2_with fail
          go_ret
          have hBf:B=false:=HBB.out.trans (decide_eq_false (map_differ HXY.out.1 HXY.out.2 (fun e=>h5 (fz_eq e).2.2.2.2.1)))
          rw [hBf]
          exact ⟨rfl,HW.out⟩
        ·have e4:(vs==vs')=false:=beq_false_of_ne h4
         have e4':(st vs==st vs')=false:=by rw [st_beq];exact e4
         go_wp2_with fail
         go_ret
         have hBf:B=false:=HBB.out.trans (decide_eq_false (map_differ HXY.out.1 HXY.out.2 (fun e=>h4 (fz_eq e).2.2.2.1)))
         rw [hBf]
         exact ⟨rfl,HW.out⟩
       ·have e3:(vn==vn')=false:=beq_false_of_ne h3
        go_wp2_with fail
        go_ret
        have hBf:B=false:=HBB.out.trans (decide_eq_false (map_differ HXY.out.1 HXY.out.2 (fun e=>h3 (fz_eq e).2.2.1)))
        rw [hBf]
        exact ⟨rfl,HW.out⟩
      ·have e2:(vk==vk')=false:=beq_false_of_ne h2
       go_wp2_with fail
       go_ret
       have hBf:B=false:=HBB.out.trans (decide_eq_false (map_differ HXY.out.1 HXY.out.2 (fun e=>h2 (fz_eq e).2.1)))
       rw [hBf]
       exact ⟨rfl,HW.out⟩
     ·have e1:(op==op')=false:=beq_false_of_ne h1
      go_wp2_with fail
      go_ret
      have hBf:B=false:=HBB.out.trans (decide_eq_false (map_differ HXY.out.1 HXY.out.2 (fun e=>h1 (fz_eq e).1)))
      rw [hBf]
      exact ⟨rfl,HW.out⟩
   ·obtain rfl:k=n:=by omega
    go_wp2
    go_ret
    have hBt:B=true:=HBB.out.trans (decide_eq_true (map_same HN.out HM.out HO.out.2))
    rw [hBt]
    exact ⟨rfl,HO.out.1⟩
 ·have enm:((n:Int)==(m:Int))=false:=beq_false_of_ne (by omega)
  have HF2:=hid (show B=false from HBB.out.trans (decide_eq_false fun e=>by
   have:=congrArg List.length e
   rw [List.length_map,List.length_map] at this
   exact hnm (hn.trans (this.trans hm.symm))))
  clear hn hm
  go_enter Tryz.func11,Tryz.ntmps11
  go_wp2
  go_ret
  rw [HF2.out]
  exact ⟨rfl,Old.refl w⟩
theorem rsmall_any (b:Int) (w:World):Calls Tryz.prog 108 #[.int .u8 b] w fun e w'=>e=.returned (.bool (decide (97≤b∧b≤122)))∧w=w':=by
 by_cases h1:97≤b
 ·by_cases h2:b≤122
  ·rw [decide_eq_true ⟨h1,h2⟩]
   go_enter Tryz.func108,Tryz.ntmps108
   go_wp2
   go_ret
   exact ⟨by simp [h1,h2],rfl⟩
  ·rw [decide_eq_false (fun h=>h2 h.2)]
   go_enter Tryz.func108,Tryz.ntmps108
   go_wp2
   go_ret
   exact ⟨by simp [h1,h2],rfl⟩
 ·rw [decide_eq_false (fun h=>h1 h.1)]
  go_enter Tryz.func108,Tryz.ntmps108
  go_wp2
  go_ret
  exact ⟨by simp [h1],rfl⟩
theorem rdig_any (b:Int) (w:World):Calls Tryz.prog 68 #[.int .u8 b] w fun e w'=>e=.returned (.bool (decide (48≤b∧b≤57)))∧w=w':=by
 by_cases h1:48≤b
 ·by_cases h2:b≤57
  ·rw [decide_eq_true ⟨h1,h2⟩]
   go_enter Tryz.func68,Tryz.ntmps68
   go_wp2
   go_ret
   exact ⟨by simp [h1,h2],rfl⟩
  ·rw [decide_eq_false (fun h=>h2 h.2)]
   go_enter Tryz.func68,Tryz.ntmps68
   go_wp2
   go_ret
   exact ⟨by simp [h1,h2],rfl⟩
 ·rw [decide_eq_false (fun h=>h1 h.1)]
  go_enter Tryz.func68,Tryz.ntmps68
  go_wp2
  go_ret
  exact ⟨by simp [h1],rfl⟩
theorem rsm_any (c:UInt8) (w:World):Calls Tryz.prog 108 #[.int .u8 (c.toNat:Int)] w fun e w'=>e=.returned (.bool (sm c))∧w=w':=by
 have e:sm c=decide ((97:Int)≤(c.toNat:Int)∧(c.toNat:Int)≤122):=by unfold sm;congr 1;simp only [eq_iff_iff];omega
 rw [e];exact rsmall_any _ w
theorem rdgc_any (c:UInt8) (w:World):Calls Tryz.prog 68 #[.int .u8 (c.toNat:Int)] w fun e w'=>e=.returned (.bool (dgc c))∧w=w':=by
 have e:dgc c=decide ((48:Int)≤(c.toNat:Int)∧(c.toNat:Int)≤57):=by unfold dgc;congr 1;simp only [eq_iff_iff];omega
 rw [e];exact rdig_any _ w
theorem runS_cons (p:UInt8→Bool) (a:Unit) (c:UInt8) (r:List UInt8):runS p a (c::r)=if p c then some () else none:=rfl
theorem goL_runT {p:UInt8→Bool} {c:UInt8} {r:List UInt8} (h:p c=true):goL (runS p) () (c::r)=goL (runS p) () r+1:=goL_go (by rw [runS_cons,if_pos h])
theorem goL_runF {p:UInt8→Bool} {c:UInt8} {r:List UInt8} (h:p c=false):goL (runS p) () (c::r)=0:=goL_stop (by rw [runS_cons,if_neg (by rw [h];exact Bool.false_ne_true)])
def runN (l:List UInt8):Nat:=if hd sm l then goL (runS nm) () l else 0
theorem drop_ex {s:ByteArray} {k:Nat} (h:k<s.size):∃ c,s.data.toList.drop k=c::s.data.toList.drop (k+1):=
 ⟨_,List.drop_eq_getElem_cons (by rw [Array.length_toList];exact h)⟩
theorem drop_no {s:ByteArray} {k:Nat} (h:s.size≤k):s.data.toList.drop k=[]:=List.drop_eq_nil_of_le (by rw [Array.length_toList];exact h)
theorem goL_in {σ:Type} (step:σ→List UInt8→Option σ) (a:σ) (s:ByteArray) {k:Nat} (h:k≤s.size):k+goL step a (s.data.toList.drop k)≤s.size:=by
 have:=goL_le step a (s.data.toList.drop k)
 rw [List.length_drop,Array.length_toList] at this
 have hz:s.data.size=s.size:=rfl
 omega
theorem rrun_any (s:ByteArray) (j:Nat) (hs:s.size≤1000000) (hj:j≤s.size) (w:World) :
 Calls Tryz.prog 67 #[.string s,.int .i64 (j:Int)] w fun e w'=>e=.returned (.int .i64 ((j+runN (s.data.toList.drop j):Nat):Int))∧w=w':=by
 rcases Nat.lt_or_ge j s.size with hlt|hge
 ·obtain ⟨c,hd0⟩:=drop_ex hlt
  have hx:=fun W=>idx_any s j c (drop_get hd0) W
  have h1:=fun W=>rsm_any c W
  cases hsm:sm c with
  | false=>
    have e:runN (s.data.toList.drop j)=0:=by unfold runN;rw [hd0,if_neg (by show ¬ sm c=true;rw [hsm];exact Bool.false_ne_true)]
    rw [e,Nat.add_zero]
    rw [hsm] at h1
    clear hd0 e
    go_enter Tryz.func67,Tryz.ntmps67
    go_wp2_with (go_at_call 108;(with_reducible refine (h1 _).mono ?_);rintro e w' ⟨rfl,rfl⟩)
    go_ret
    exact ⟨rfl,rfl⟩
  | true=>
    have e:runN (s.data.toList.drop j)=goL (runS nm) () (s.data.toList.drop j):=by unfold runN;rw [hd0];exact if_pos hsm
    obtain ⟨n,hn⟩:∃ n,n=j+goL (runS nm) () (s.data.toList.drop j):=⟨_,rfl⟩
    have hnl:n≤s.size:=by rw [hn];exact goL_in _ _ _ hj
    rw [e,←hn]
    have hjn:j≤n:=by omega
    have HN:=hid hn
    rw [hsm] at h1
    have h5:decide (s.size≤j)=false:=decide_eq_false (by omega)
    clear hd0 e hn
    go_enter Tryz.func67,Tryz.ntmps67
    go_wp2_with (go_at_call 108;(with_reducible refine (h1 _).mono ?_);rintro e w' ⟨rfl,rfl⟩)
    go_loopw [1] (fun i wr=>∃ k:Nat,i=.int .i64 (k:Int)∧k≤n∧Hid (n=k+goL (runS nm) () (s.data.toList.drop k))∧wr=w) (fun i _=>(n-RowKit.intOf i).toNat)
    case atStart=>exact ⟨j,rfl,hjn,HN,rfl⟩
    case round=>
     clear HN h1 hx
     obtain ⟨k,rfl,hk,HN,rfl⟩:=hrel
     rcases Nat.lt_or_ge k s.size with hks|hks
     ·obtain ⟨d,hd⟩:=drop_ex hks
      have hx:=fun W=>idx_any s k d (drop_get hd) W
      have h1:=fun W=>rsm_any d W
      have h2:=fun W=>rdgc_any d W
      have HD:=hid hd
      clear hd
      cases hs1:sm d with
      | true=>
        rw [hs1] at h1
        have HM:=hid (show nm d=true by unfold nm;rw [hs1];rfl)
        go_wp2_with (go_at_call 108;(with_reducible refine (h1 _).mono ?_);rintro e w' ⟨rfl,rfl⟩)
        have hn:=HN.out
        rw [HD.out,goL_runT HM.out] at hn
        exact ⟨⟨k+1,by simp,by omega,hid (by omega),by first|trivial|rfl⟩,by simp only [RowKit.intOf];omega⟩
      | false=>
        rw [hs1] at h1
        cases hs2:dgc d with
        | true=>
          rw [hs2] at h2
          have HM:=hid (show nm d=true by unfold nm;rw [hs1,hs2];rfl)
          go_wp2_with (first
           | (go_at_call 108;(with_reducible refine (h1 _).mono ?_);rintro e w' ⟨rfl,rfl⟩)
           | (go_at_call 68;(with_reducible refine (h2 _).mono ?_);rintro e w' ⟨rfl,rfl⟩))
          have hn:=HN.out
          rw [HD.out,goL_runT HM.out] at hn
          exact ⟨⟨k+1,by simp,by omega,hid (by omega),by first|trivial|rfl⟩,by simp only [RowKit.intOf];omega⟩
        | false=>
          rw [hs2] at h2
          have HM:=hid (show nm d=false by unfold nm;rw [hs1,hs2];rfl)
          go_wp2_with (first
           | (go_at_call 108;(with_reducible refine (h1 _).mono ?_);rintro e w' ⟨rfl,rfl⟩)
           | (go_at_call 68;(with_reducible refine (h2 _).mono ?_);rintro e w' ⟨rfl,rfl⟩))
          go_ret
          have hn:=HN.out
          rw [HD.out,goL_runF HM.out,Nat.add_zero] at hn
          exact ⟨by rw [hn];rfl,rfl⟩
     ·go_wp2
      go_ret
      have hn:=HN.out
      rw [drop_no hks,goL_nil,Nat.add_zero] at hn
      exact ⟨by rw [hn];rfl,rfl⟩
 ·have e:runN (s.data.toList.drop j)=0:=by rw [drop_no hge];rfl
  rw [e,Nat.add_zero]
  clear e
  go_enter Tryz.func67,Tryz.ntmps67
  go_wp2
  go_ret
  exact ⟨rfl,rfl⟩
def digN (l:List UInt8):Nat:=goL (runS dgc) () l
def ptN (l:List UInt8):Bool:=hd (fun c=>c==46) l&&hd dgc l.tail
def numN (l:List UInt8):Nat:=if ptN (l.drop (digN l)) then digN l+1+digN (l.drop (digN l+1)) else digN l
theorem dd {l:List UInt8} (j m:Nat):(l.drop j).drop m=l.drop (j+m):=List.drop_drop
theorem ptN_of {l:List UInt8} {k:Nat} {d e:UInt8} (h:l.drop k=d::l.drop (k+1)) (h2:l.drop (k+1)=e::l.drop (k+1+1)):ptN (l.drop k)=(d==46&&dgc e):=by
 rw [h,h2];rfl
theorem rnum_any (s:ByteArray) (j:Nat) (hs:s.size≤1000000) (hj:j≤s.size) (w:World) :
 Calls Tryz.prog 69 #[.string s,.int .i64 (j:Int)] w fun e w'=>e=.returned (.int .i64 ((j+numN (s.data.toList.drop j):Nat):Int))∧w=w':=by
 obtain ⟨m,hm⟩:∃ m,m=j+numN (s.data.toList.drop j):=⟨_,rfl⟩
 rw [←hm]
 have HM:=hid hm
 obtain ⟨n,hn⟩:∃ n,n=j+digN (s.data.toList.drop j):=⟨_,rfl⟩
 have HJ:=hid hn
 have hnl:n≤s.size:=by rw [hn];exact goL_in _ _ _ hj
 have hjn:j≤n:=by omega
 have HN:Hid (n=j+goL (runS dgc) () (s.data.toList.drop j)):=hid hn
 clear hn hm
 go_enter Tryz.func69,Tryz.ntmps69
 go_wp2
 go_loopw [1] (fun i wr=>∃ k:Nat,i=.int .i64 (k:Int)∧k≤n∧Hid (n=k+goL (runS dgc) () (s.data.toList.drop k))∧wr=w) (fun i _=>(n-RowKit.intOf i).toNat)
 case atStart=>exact ⟨j,rfl,hjn,HN,rfl⟩
 case round=>
  clear HN
  obtain ⟨k,rfl,hk,HN,rfl⟩:=hrel
  rcases Nat.lt_or_ge k s.size with hks|hks
  ·obtain ⟨d,hd⟩:=drop_ex hks
   have hx:=fun W=>idx_any s k d (drop_get hd) W
   have h2:=fun W=>rdgc_any d W
   have HD:=hid hd
   clear hd
   cases hs1:dgc d with
   | true=>
     rw [hs1] at h2
     have HG:=hid hs1
     go_wp2_with (go_at_call 68;(with_reducible refine (h2 _).mono ?_);rintro e w' ⟨rfl,rfl⟩)
     have hn:=HN.out
     rw [HD.out,goL_runT HG.out] at hn
     exact ⟨⟨k+1,by simp,by omega,hid (by omega),by first|trivial|rfl⟩,by simp only [RowKit.intOf];omega⟩
   | false=>
     rw [hs1] at h2
     have hn:=HN.out
     rw [HD.out,goL_runF hs1,Nat.add_zero] at hn
     subst hn
     have hnd:n=j+digN (s.data.toList.drop j):=HJ.out
     have hm:m=if ptN (s.data.toList.drop n) then n+1+digN (s.data.toList.drop (n+1)) else n:=by
      rw [HM.out]
      unfold numN
      rw [dd,dd,←Nat.add_assoc,←hnd]
      split<;>omega
     clear HM HJ HN hk
     by_cases hp:d=46
     ·subst hp
      replace h2:∀ W,Calls Tryz.prog 68 #[.int .u8 46] W fun e w'=>e=.returned (.bool false)∧W=w':=fun W=>h2 W
      replace hx:∀ W,(Instr.index 9 (.string s) (.int .i64 (n:Int))).run Tryz.prog W=.ok (.int .u8 46) W:=fun W=>hx W
      rcases Nat.lt_or_ge (n+1) s.size with hk2|hk2
      ·obtain ⟨e,he⟩:=drop_ex hk2
       have hx2:∀ W,(Instr.index 9 (.string s) (.int .i64 ((n:Int)+1))).run Tryz.prog W=.ok (.int .u8 (e.toNat:Int)) W:=fun W=>idx_any s (n+1) e (drop_get he) W
       have h3:=fun W=>rdgc_any e W
       have hpt:ptN (s.data.toList.drop n)=dgc e:=by rw [ptN_of HD.out he];rfl
       rw [hpt] at hm
       cases hs2:dgc e with
       | false=>
         rw [hs2] at h3
         rw [hs2,if_neg (by exact Bool.false_ne_true)] at hm
         have hr:m=n:=hm
         subst hr
         clear hm hpt he hnd
         go_wp2_with (first
          | (go_at_call 68;(with_reducible refine (h2 _).mono ?_);rintro e1 w1 ⟨rfl,rfl⟩)
          | (go_at_call 68;(with_reducible refine (h3 _).mono ?_);rintro e1 w1 ⟨rfl,rfl⟩))
         go_ret
         exact ⟨rfl,rfl⟩
       | true=>
         rw [hs2] at h3
         rw [hs2,if_pos rfl] at hm
         obtain ⟨n2,hn2⟩:∃ n2,n2=n+1+goL (runS dgc) () (s.data.toList.drop (n+1)):=⟨_,rfl⟩
         have hn2l:n2≤s.size:=by rw [hn2];exact goL_in _ _ _ (by omega)
         have hr:n2=m:=by rw [hm,hn2];rfl
         subst hr
         have hjn2:n+1≤n2:=by omega
         have HN2:=hid hn2
         have h5:decide (s.size≤n+1)=false:=decide_eq_false (by omega)
         clear hm hpt he hnd hn2
         go_wp2_with (first
          | (go_at_call 68;(with_reducible refine (h2 _).mono ?_);rintro e1 w1 ⟨rfl,rfl⟩)
          | (go_at_call 68;(with_reducible refine (h3 _).mono ?_);rintro e1 w1 ⟨rfl,rfl⟩))
         go_loopw [1] (fun i wr'=>∃ k:Nat,i=.int .i64 (k:Int)∧k≤n2∧Hid (n2=k+goL (runS dgc) () (s.data.toList.drop k))∧wr'=wr) (fun i _=>(n2-RowKit.intOf i).toNat)
         case atStart=>exact ⟨n+1,by simp,hjn2,HN2,rfl⟩
         case round=>
          clear HN2 h2 h3 hx hx2
          obtain ⟨k,rfl,hk,HN,rfl⟩:=hrel
          rcases Nat.lt_or_ge k s.size with hks|hks
          ·obtain ⟨d,hd⟩:=drop_ex hks
           have hx:=fun W=>idx_any s k d (drop_get hd) W
           have h2:=fun W=>rdgc_any d W
           have HD:=hid hd
           clear hd
           cases hs1:dgc d with
           | true=>
             rw [hs1] at h2
             have HG:=hid hs1
             go_wp2_with (go_at_call 68;(with_reducible refine (h2 _).mono ?_);rintro e w' ⟨rfl,rfl⟩)
             have hn:=HN.out
             rw [HD.out,goL_runT HG.out] at hn
             exact ⟨⟨k+1,by simp,by omega,hid (by omega),by first|trivial|rfl⟩,by simp only [RowKit.intOf];omega⟩
           | false=>
             rw [hs1] at h2
             have HG:=hid hs1
             go_wp2_with (go_at_call 68;(with_reducible refine (h2 _).mono ?_);rintro e w' ⟨rfl,rfl⟩)
             go_ret
             have hn:=HN.out
             rw [HD.out,goL_runF HG.out,Nat.add_zero] at hn
             exact ⟨by rw [hn];rfl,rfl⟩
          ·go_wp2
           go_ret
           have hn:=HN.out
           rw [drop_no hks,goL_nil,Nat.add_zero] at hn
           exact ⟨by rw [hn];rfl,rfl⟩
      ·have hpt:ptN (s.data.toList.drop n)=false:=by rw [HD.out,drop_no hk2];rfl
       rw [hpt,if_neg (by exact Bool.false_ne_true)] at hm
       have hr:m=n:=hm
       subst hr
       clear hm hpt hnd
       go_wp2_with (go_at_call 68;(with_reducible refine (h2 _).mono ?_);rintro e1 w1 ⟨rfl,rfl⟩)
       go_ret
       exact ⟨rfl,rfl⟩
     ·have hpt:ptN (s.data.toList.drop n)=false:=by
       rw [HD.out]
       show ((d==46)&&hd dgc _)=false
       rw [beq_false_of_ne hp];rfl
      rw [hpt,if_neg (by exact Bool.false_ne_true)] at hm
      have hr:m=n:=hm
      subst hr
      have hpi:¬ (d.toNat:Int)=46:=u8_int (d:=46) hp
      clear hm hpt hnd hp
      go_wp2_with (go_at_call 68;(with_reducible refine (h2 _).mono ?_);rintro e1 w1 ⟨rfl,rfl⟩)
      all_goals (go_ret;exact ⟨rfl,rfl⟩)
  ·have hn:=HN.out
   rw [drop_no hks,goL_nil,Nat.add_zero] at hn
   subst hn
   have hnd:n=j+digN (s.data.toList.drop j):=HJ.out
   have hr:m=n:=by
    rw [HM.out]
    unfold numN
    rw [dd,←hnd,drop_no hks,if_neg (by exact Bool.false_ne_true),←hnd]
   subst hr
   clear hnd HJ HN
   go_wp2
   go_ret
   exact ⟨rfl,rfl⟩
def badB (c:UInt8):Bool:=decide (c.toNat<32∨126<c.toNat)
def qd:List UInt8→Option Nat
 | []=>none
 | [c]=>if badB c then none else if c=34 then some 1 else none
 | c::d::r=>if badB c then none else if c=34 then some 1 else if c=92 then (if badB d then none else (qd r).map (·+ 2)) else (qd (d::r)).map (·+ 1)
theorem qd_bad {c:UInt8} {r:List UInt8} (h:badB c=true):qd (c::r)=none:=by
 cases r<;>(unfold qd;rw [if_pos h])
theorem qd_end {r:List UInt8}:qd (34::r)=some 1:=by
 cases r<;>(unfold qd;rw [if_neg (by decide),if_pos rfl])
theorem qd_esc {d:UInt8} {r:List UInt8}:qd (92::d::r)=if badB d then none else (qd r).map (·+ 2):=by
 rw [qd,if_neg (by decide),if_neg (by decide),if_pos rfl]
theorem qd_esc1:qd [92]=none:=by decide
theorem qd_one {c:UInt8} {r:List UInt8} (h:badB c=false) (h1:¬ c=34) (h2:¬ c=92):qd (c::r)=(qd r).map (·+ 1):=by
 cases r with
 | nil=>unfold qd;rw [if_neg (by rw [h];exact Bool.false_ne_true),if_neg h1];rfl
 | cons d r=>rw [qd,if_neg (by rw [h];exact Bool.false_ne_true),if_neg h1,if_neg h2]
def qdI (j:Nat) (o:Option Nat):Int:=match o with
 | some n=>((j+n:Nat):Int)
 | none=>-1
theorem qdI_map (j m:Nat) (o:Option Nat):qdI j (o.map (·+ m))=qdI (j+m) o:=by
 cases o with
 | none=>rfl
 | some n=>show ((j+(n+m):Nat):Int)=((j+m+n:Nat):Int);omega
theorem badI (c:UInt8):badB c=(decide ((c.toNat:Int)<32)||decide (126<(c.toNat:Int))):=by
 unfold badB
 rw [Bool.eq_iff_iff]
 simp only [decide_eq_true_eq,Bool.or_eq_true]
 omega
theorem rquo_any (s:ByteArray) (j:Nat) (hs:s.size≤1000000) (hj:j<s.size) (w:World) :
 Calls Tryz.prog 71 #[.string s,.int .i64 (j:Int)] w fun e w'=>e=.returned (.int .i64 (qdI (j+1) (qd (s.data.toList.drop (j+1)))))∧w=w':=by
 obtain ⟨m,hm⟩:∃ m,m=qdI (j+1) (qd (s.data.toList.drop (j+1))):=⟨_,rfl⟩
 rw [←hm]
 have HM:=hid hm
 clear hm
 go_enter Tryz.func71,Tryz.ntmps71
 go_wp2
 go_loopw [5] (fun i wr=>∃ k:Nat,i=.int .i64 (k:Int)∧k≤s.size+1∧Hid (m=qdI k (qd (s.data.toList.drop k)))∧wr=w) (fun i _=>(s.size+1-RowKit.intOf i).toNat)
 case atStart=>exact ⟨j+1,by simp,by omega,HM,rfl⟩
 case round=>
  clear HM
  obtain ⟨k,rfl,hk,HM,rfl⟩:=hrel
  rcases Nat.lt_or_ge k s.size with hks|hks
  ·obtain ⟨c,hd⟩:=drop_ex hks
   have hx:=fun W=>idx_any s k c (drop_get hd) W
   have hm:=HM.out
   rw [hd] at hm
   have hb:=badI c
   by_cases hlo:(c.toNat:Int)<32
   ·have hbt:badB c=true:=by rw [hb,decide_eq_true hlo];rfl
    rw [qd_bad hbt] at hm
    have hr:m=-1:=hm
    subst hr
    clear hm hbt hb HM hd
    go_wp2
    go_ret
    exact ⟨rfl,rfl⟩
   by_cases hhi:126<(c.toNat:Int)
   ·have hbt:badB c=true:=by rw [hb,decide_eq_true hhi,Bool.or_true]
    rw [qd_bad hbt] at hm
    have hr:m=-1:=hm
    subst hr
    clear hm hbt hb HM hd
    go_wp2
    go_ret
    exact ⟨rfl,rfl⟩
   have hbf:badB c=false:=by rw [hb,decide_eq_false hlo,decide_eq_false hhi];rfl
   by_cases h34:c=34
   ·subst h34
    rw [qd_end] at hm
    have hr:m=(k:Int)+1:=hm
    subst hr
    clear hm hbf hb HM hd
    go_wp2
    go_ret
    exact ⟨rfl,rfl⟩
   by_cases h92:c=92
   ·subst h92
    rcases Nat.lt_or_ge (k+1) s.size with hk2|hk2
    ·obtain ⟨d,hd2⟩:=drop_ex hk2
     have hx2:∀ W,(Instr.index 9 (.string s) (.int .i64 ((k:Int)+1))).run Tryz.prog W=.ok (.int .u8 (d.toNat:Int)) W:=fun W=>idx_any s (k+1) d (drop_get hd2) W
     rw [hd2,qd_esc] at hm
     have hb2:=badI d
     by_cases hlo2:(d.toNat:Int)<32
     ·have hbt:badB d=true:=by rw [hb2,decide_eq_true hlo2];rfl
      rw [if_pos hbt] at hm
      have hr:m=-1:=hm
      subst hr
      clear hm hbt hb2 hbf hb HM hd hd2
      go_wp2
      go_ret
      exact ⟨rfl,rfl⟩
     by_cases hhi2:126<(d.toNat:Int)
     ·have hbt:badB d=true:=by rw [hb2,decide_eq_true hhi2,Bool.or_true]
      rw [if_pos hbt] at hm
      have hr:m=-1:=hm
      subst hr
      clear hm hbt hb2 hbf hb HM hd hd2
      go_wp2
      go_ret
      exact ⟨rfl,rfl⟩
     have hbf2:badB d=false:=by rw [hb2,decide_eq_false hlo2,decide_eq_false hhi2];rfl
     rw [if_neg (by rw [hbf2];exact Bool.false_ne_true),qdI_map] at hm
     have HM2:Hid (m=qdI (k+1+1) (qd (s.data.toList.drop (k+1+1)))):=hid hm
     clear hm hbf2 hb2 hbf hb HM hd hd2
     go_wp2
     exact ⟨⟨k+1+1,by simp,by omega,HM2,by first|trivial|rfl⟩,by simp only [RowKit.intOf];omega⟩
    ·rw [drop_no hk2,qd_esc1] at hm
     have HM2:Hid (m=qdI (k+1+1) (qd (s.data.toList.drop (k+1+1)))):=hid (by rw [drop_no (by omega)];exact hm)
     clear hm hbf hb HM hd
     go_wp2
     exact ⟨⟨k+1+1,by simp,by omega,HM2,by first|trivial|rfl⟩,by simp only [RowKit.intOf];omega⟩
   ·rw [qd_one hbf h34 h92,qdI_map] at hm
    have HM2:Hid (m=qdI (k+1) (qd (s.data.toList.drop (k+1)))):=hid hm
    have i34:¬ (c.toNat:Int)=34:=u8_int (d:=34) h34
    have i92:¬ (c.toNat:Int)=92:=u8_int (d:=92) h92
    clear hm hbf hb HM hd h34 h92
    go_wp2
    exact ⟨⟨k+1,by simp,by omega,HM2,by first|trivial|rfl⟩,by simp only [RowKit.intOf];omega⟩
  ·have hr:m=-1:=by rw [HM.out,drop_no hks];rfl
   subst hr
   clear HM
   go_wp2
   go_ret
   exact ⟨rfl,rfl⟩
end Go.Proofs.YtkellpcljiodeaaGreatDoor
