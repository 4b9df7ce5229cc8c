/- Layer vtext: the walk of Parse, by what begins the text. -/
import Derived.Test.YtkellpcljiodeaaGreatDoorLJ
set_option maxHeartbeats 3200000
namespace Go.Proofs.YtkellpcljiodeaaGreatDoor
open Go.ChangeShapes Go.WideShapes Go.ChangeAt Go.RowKit Go.Lib
set_option linter.unusedVariables false
set_option maxRecDepth 100000
theorem parse_only (c:UInt8) (r:List UInt8) (key:Int) (k n:Int) (hk:0≤k∧k≤255) (hn:I64 n) (hkey:(if (48:Int)≤(c.toNat:Int)∧(c.toNat:Int)≤57 then 48 else (c.toNat:Int))=key) (hG0:Looks key (Gf.only k n) true) (hl:r.length≤401) (w:World) (he:Env w) :
 Calls Tryz.prog 166 #[.string (st (c::r))] w fun e w'=>e=(if textL k n ⟨#[]⟩=c::r then rv k n 0 ⟨#[]⟩ else rv 0 0 4 ⟨#[]⟩)∧Old w w':=by
 obtain ⟨G,hGe⟩:∃ G,G=(Gf.only k n):=⟨_,rfl⟩
 obtain ⟨ok,hok⟩:∃ ok,ok=true:=⟨_,rfl⟩
 rw [←hGe,←hok] at hG0
 have HGE:=hid hGe
 have HOK:=hid hok
 clear hGe hok
 have HO:=hid ((Old.refl w).alloc (.cells #[.int .u8 0,.int .i64 0,.string ⟨#[]⟩] 35))
 have HE:=hid (he.old HO.out)
 have HT:=hid (Three.new w (.int .u8 0) (.int .i64 0) (.string ⟨#[]⟩))
 clear he
 go_enter Tryz.func166,Tryz.ntmps166
 go_upto_region 5 with (fail)
 go_cut [4,5] from 4 to 22 (fun p q wx=>∃ (b:Nat) (f:Value),p=.pointer (some ⟨b,0,none⟩)∧q=.bool ok∧Hid (wx.heap[b]?=some (.cells #[f] 196 (0,0)))∧Hid (G.says f wx)∧Hid (Old w wx)∧Hid (Env wx)∧Hid (Three wx w.heap.size (.int .u8 0) (.int .i64 0) (.string ⟨#[]⟩)))
 case first=>
  as_aux_lemma=>
  refine wp_region_inv2 (spF [.forms,.eq (.string (st (c::r))),.eq (.int .u8 (c.toNat:Int)),.eq (.int .u8 key),.look G ok,.look G ok,.form G,.eq (.bool ok),.any,.any,.eq (.bool ok)]) (inF G) al5 st5 #[.nilFunc] 196 isForm (by kernel_rfl) (by kernel_rfl) (spF_mono _) (inF_mono G) any5 ⟨_,rfl⟩ al5_st st5_inj st5_al ?_ ?_
  ·refine ⟨?_,?_,?_,?_,?_,?_,?_,?_,?_,?_,?_,trivial⟩
   ·refine ⟨by simp,step_plain rfl fun ρ wr ho hr hd=>?_⟩
    refine does_call0 rfl (hr.2.2.2 _) rfl ((forms_any wr).mono fun e w' h=>?_)
    obtain ⟨B,h1,h2,h3⟩:=h
    exact ⟨_,h1,(by rw [spF_at rfl];exact ⟨B,rfl,h2⟩),h3⟩
   ·refine ⟨by simp,step_plain rfl fun ρ wr ho hr hd=>?_⟩
    exact does_move rfl ((hr.1 0 rfl).trans rfl) ⟨(by rw [spF_at rfl];rfl),Old.refl _⟩
   ·refine ⟨by simp,step_plain rfl fun ρ wr ho hr hd=>?_⟩
    obtain ⟨d1,_⟩:=hd
    have d1:ρ (.tmp 17)=.string (st (c::r)):=(by have:=d1 rfl;rw [spF_at rfl] at this;exact this)
    exact does_idx rfl d1 (hr.2.1 _) ⟨(by rw [spF_at rfl];rfl),Old.refl _⟩
   ·refine ⟨by simp,step_plain rfl fun ρ wr ho hr hd=>?_⟩
    obtain ⟨d2,_⟩:=hd
    have d2:ρ (.tmp 18)=.int .u8 (c.toNat:Int):=(by have:=d2 rfl;rw [spF_at rfl] at this;exact this)
    refine does_call1 rfl (hr.2.2.2 _) d2 rfl ((begin_any _ wr).mono fun e w' h=>?_)
    exact ⟨_,h.1,(by rw [spF_at rfl,hkey];rfl),Old.same h.2.symm⟩
   ·refine ⟨by simp,step_plain rfl fun ρ wr ho hr hd=>?_⟩
    obtain ⟨d0,d3,_⟩:=hd
    have d0:∃ B,ρ (.tmp 16)=.map (some B)∧FormsIn wr B:=(by have:=d0 rfl;rw [spF_at rfl] at this;exact this)
    have d3:ρ (.tmp 19)=.int .u8 key:=(by have:=d3 rfl;rw [spF_at rfl] at this;exact this)
    obtain ⟨B,d0,hF⟩:=d0
    obtain ⟨f,hl,hG⟩:=hG0 wr B hF
    exact does_look rfl d0 d3 hl ⟨(by rw [spF_at rfl];exact ⟨f,rfl,hG⟩),Old.refl _⟩
   ·refine ⟨by simp,step_plain rfl fun ρ wr ho hr hd=>?_⟩
    obtain ⟨d4,_⟩:=hd
    have d4:∃ f,ρ (.tmp 20)=.tuple #[.agg #[f],.bool ok]∧G.says f wr:=(by have:=d4 rfl;rw [spF_at rfl] at this;exact this)
    obtain ⟨f,h1,h2⟩:=d4
    exact does_move rfl h1 ⟨(by rw [spF_at rfl];exact ⟨f,rfl,h2⟩),Old.refl _⟩
   ·refine ⟨by simp,step_plain rfl fun ρ wr ho hr hd=>?_⟩
    obtain ⟨d5,_⟩:=hd
    have d5:∃ f,ρ (.tmp 15)=.tuple #[.agg #[f],.bool ok]∧G.says f wr:=(by have:=d5 rfl;rw [spF_at rfl] at this;exact this)
    obtain ⟨f,h1,h2⟩:=d5
    exact does_ex0 rfl h1 ⟨(by rw [spF_at rfl];exact ⟨f,rfl,h2⟩),Old.refl _⟩
   ·refine ⟨by simp,step_plain rfl fun ρ wr ho hr hd=>?_⟩
    obtain ⟨d5,_⟩:=hd
    have d5:∃ f,ρ (.tmp 15)=.tuple #[.agg #[f],.bool ok]∧G.says f wr:=(by have:=d5 rfl;rw [spF_at rfl] at this;exact this)
    obtain ⟨f,h1,h2⟩:=d5
    exact does_ex1 rfl h1 ⟨(by rw [spF_at rfl];rfl),Old.refl _⟩
   ·exact stepA_form rfl rfl rfl
   ·refine stepS_form (G:=G) rfl rfl rfl rfl ⟨_,List.mem_cons_self,rfl,rfl⟩ (fun ρ wr hd=>?_)
    obtain ⟨_,d6,_⟩:=hd
    have:=d6 rfl
    rw [spF_at rfl] at this
    exact this
   ·refine ⟨by simp,step_plain rfl fun ρ wr ho hr hd=>?_⟩
    obtain ⟨d7,_⟩:=hd
    have d7:ρ (.tmp 22)=.bool ok:=(by have:=d7 rfl;rw [spF_at rfl] at this;exact this)
    exact does_assign rfl d7 ⟨(by rw [spF_at rfl];rfl),Old.refl _⟩
  ·intro a' w' β ho hst hl hB
   obtain ⟨e4,p1,cc1,q1,_,_,r1⟩:=hB.ptr 8 _ rfl rfl rfl
   obtain ⟨f,rfl,hG⟩:=r1 9 (by decide) rfl rfl
   obtain ⟨_,_,_,_,_,_,_,_,_,_,e5,_⟩:=hl
   have e4:a'.eval (.tmp 4)=.pointer (some ⟨β 8,0,none⟩):=e4
   have e5:a'.eval (.tmp 5)=.bool ok:=(by rw [spF_at rfl] at e5;exact e5)
   rw [act_fresh hst [false,false,false,false,true,true,false,false,false,false,false,false,false,false,false,true,true,true,true,true,true,true,true,false,false,false,false,false,false,false,false,false,false,false,false,false,false,false,false,false,false,false,false] (by kernel_rfl) (by kernel_rfl)]
   simp only [fresh,e4,e5]
   go_wp2_with fail
   go_meet
   exact ⟨β 8,f,rfl,rfl,hid q1,hid hG,hid (HO.out.trans ho),hid (HE.out.old ho),hid (HT.out.old ho)⟩
 case rest=>
 clear HO HE HT
 obtain ⟨b,f,rfl,rfl,HF,hG,HO,HE,HT⟩:=hcut
 obtain rfl:=HGE.out
 have hok:=HOK.out
 clear HGE HOK hG0 hkey
 have c0:=HT.out.c0
 have c1:=HT.out.c1
 have c2:=HT.out.c2
 have f0:=HT.out.f 0
 have f1:=HT.out.f 1
 have f2:=HT.out.f 2
 rw [hok]
 clear hok
 have HK:=hid hk
 have HN:=hid hn
 clear hk hn
 obtain ⟨b',hfe,hb'⟩:=hG.out
 clear hG
 subst hfe
 have hF:=HF.out
 clear HF
 have hoc:=fun W (h:Old wc W)=>only1_any k n ⟨#[]⟩ (st (c::r)) b' W (hb'.old h)
 have hF0:wc.cell? ⟨b,0,none⟩=some (.func (.func 206) #[] #[.pointer (some ⟨b',0,none⟩)]):=by simp [World.cell?,hF]
 clear hF hb'
 go_upto_region 11 with (first
  | (go_at_call 206;(with_reducible refine (hoc _ (Old.refl _)).mono ?_);rintro e w1 ⟨rfl,o1⟩;replace HO:=hid (HO.out.trans o1);replace HE:=hid (HE.out.old o1);replace HT:=hid (HT.out.old o1)))
 clear c0 c1 c2 f0 f1 f2
 have HB:=hid (Three.new w1 (.int .u8 k) (.int .i64 n) (.string ⟨#[]⟩))
 replace HT:=hid (HT.out.alloc (.cells #[.int .u8 k,.int .i64 n,.string ⟨#[]⟩] 35))
 replace HE:=hid (HE.out.old ((Old.refl w1).alloc (.cells #[.int .u8 k,.int .i64 n,.string ⟨#[]⟩] 35)))
 replace HO:=hid (HO.out.alloc (.cells #[.int .u8 k,.int .i64 n,.string ⟨#[]⟩] 35))
 have d0:=HB.out.c0
 have d1:=HB.out.c1
 have d2:=HB.out.c2
 have htx:=fun W (h:Env W)=>text_any' k n ⟨#[]⟩ HK.out HN.out W h
 by_cases hq:textL k n ⟨#[]⟩=c::r
 ·simp only [hq] at htx
  have HQ:=hid hq
  clear hq
  go_upto_region 13 with (first
   | (go_at_call 80;(with_reducible refine (htx _ HE.out).mono ?_);rintro e w2 ⟨rfl,o2⟩;replace HO:=hid (HO.out.trans o2);replace HE:=hid (HE.out.old o2);replace HT:=hid (HT.out.old o2);replace HB:=hid (HB.out.old o2)))
  clear d0 d1 d2
  have d0:=HB.out.c0
  have d1:=HB.out.c1
  have d2:=HB.out.c2
  have c0:=HT.out.c0
  have c1:=HT.out.c1
  have c2:=HT.out.c2
  have f0:=HT.out.f 0
  have f1:=HT.out.f 1
  have f2:=HT.out.f 2
  go_wp2_with fail
  have R:=HT.out.set (.int .u8 k) (.int .i64 n) (.string ⟨#[]⟩)
  exact bodyPost_ret (v:=.tuple #[vl k n ⟨#[]⟩,.int .i64 0]) (by simp [results,Tryz.results166,go_sem,R.c0,R.c1,R.c2]) rfl ⟨rfl,old3 HO.out (Nat.le_refl _) _ _ _⟩
 ·have hb:(textL k n ⟨#[]⟩==c::r)=false:=by simpa using hq
  have HQ:=hid hq
  clear hq
  go_upto_region 12 with (first
   | (go_at_call 80;(with_reducible refine (htx _ HE.out).mono ?_);rintro e w2 ⟨rfl,o2⟩;replace HO:=hid (HO.out.trans o2);replace HE:=hid (HE.out.old o2);replace HT:=hid (HT.out.old o2);replace HB:=hid (HB.out.old o2)))
  clear d0 d1 d2
  have c0:=HT.out.c0
  have c1:=HT.out.c1
  have c2:=HT.out.c2
  have f0:=HT.out.f 0
  have f1:=HT.out.f 1
  have f2:=HT.out.f 2
  go_wp2_with fail
  have R:=HT.out.set (.int .u8 0) (.int .i64 0) (.string ⟨#[]⟩)
  exact bodyPost_ret (v:=.tuple #[vl 0 0 ⟨#[]⟩,.int .i64 4]) (by simp [results,Tryz.results166,go_sem,R.c0,R.c1,R.c2]) rfl ⟨rfl,old3 HO.out (Nat.le_refl _) _ _ _⟩
theorem parse_fn {F:Nat} (hFF:F=197∨F=198∨F=199) (c:UInt8) (r:List UInt8) (key:Int) (K N E:Int) (S:ByteArray) (hk:0≤K∧K≤255) (hn:I64 N) (hf:∀ W,Env W→Calls Tryz.prog F #[.string (st (c::r))] W fun e w'=>e=rv K N E S∧Old W w') (hkey:(if (48:Int)≤(c.toNat:Int)∧(c.toNat:Int)≤57 then 48 else (c.toNat:Int))=key) (hG0:Looks key (Gf.fn F) true) (hl:r.length≤401) (w:World) (he:Env w) :
 Calls Tryz.prog 166 #[.string (st (c::r))] w fun e w'=>e=(if E=0 then (if textL K N S=c::r then rv K N 0 S else rv 0 0 4 ⟨#[]⟩) else rv 0 0 E ⟨#[]⟩)∧Old w w':=by
 obtain ⟨G,hGe⟩:∃ G,G=(Gf.fn F):=⟨_,rfl⟩
 obtain ⟨ok,hok⟩:∃ ok,ok=true:=⟨_,rfl⟩
 rw [←hGe,←hok] at hG0
 have HGE:=hid hGe
 have HOK:=hid hok
 clear hGe hok
 have HO:=hid ((Old.refl w).alloc (.cells #[.int .u8 0,.int .i64 0,.string ⟨#[]⟩] 35))
 have HE:=hid (he.old HO.out)
 have HT:=hid (Three.new w (.int .u8 0) (.int .i64 0) (.string ⟨#[]⟩))
 clear he
 go_enter Tryz.func166,Tryz.ntmps166
 go_upto_region 5 with (fail)
 go_cut [4,5] from 4 to 22 (fun p q wx=>∃ (b:Nat) (f:Value),p=.pointer (some ⟨b,0,none⟩)∧q=.bool ok∧Hid (wx.heap[b]?=some (.cells #[f] 196 (0,0)))∧Hid (G.says f wx)∧Hid (Old w wx)∧Hid (Env wx)∧Hid (Three wx w.heap.size (.int .u8 0) (.int .i64 0) (.string ⟨#[]⟩)))
 case first=>
  as_aux_lemma=>
  refine wp_region_inv2 (spF [.forms,.eq (.string (st (c::r))),.eq (.int .u8 (c.toNat:Int)),.eq (.int .u8 key),.look G ok,.look G ok,.form G,.eq (.bool ok),.any,.any,.eq (.bool ok)]) (inF G) al5 st5 #[.nilFunc] 196 isForm (by kernel_rfl) (by kernel_rfl) (spF_mono _) (inF_mono G) any5 ⟨_,rfl⟩ al5_st st5_inj st5_al ?_ ?_
  ·refine ⟨?_,?_,?_,?_,?_,?_,?_,?_,?_,?_,?_,trivial⟩
   ·refine ⟨by simp,step_plain rfl fun ρ wr ho hr hd=>?_⟩
    refine does_call0 rfl (hr.2.2.2 _) rfl ((forms_any wr).mono fun e w' h=>?_)
    obtain ⟨B,h1,h2,h3⟩:=h
    exact ⟨_,h1,(by rw [spF_at rfl];exact ⟨B,rfl,h2⟩),h3⟩
   ·refine ⟨by simp,step_plain rfl fun ρ wr ho hr hd=>?_⟩
    exact does_move rfl ((hr.1 0 rfl).trans rfl) ⟨(by rw [spF_at rfl];rfl),Old.refl _⟩
   ·refine ⟨by simp,step_plain rfl fun ρ wr ho hr hd=>?_⟩
    obtain ⟨d1,_⟩:=hd
    have d1:ρ (.tmp 17)=.string (st (c::r)):=(by have:=d1 rfl;rw [spF_at rfl] at this;exact this)
    exact does_idx rfl d1 (hr.2.1 _) ⟨(by rw [spF_at rfl];rfl),Old.refl _⟩
   ·refine ⟨by simp,step_plain rfl fun ρ wr ho hr hd=>?_⟩
    obtain ⟨d2,_⟩:=hd
    have d2:ρ (.tmp 18)=.int .u8 (c.toNat:Int):=(by have:=d2 rfl;rw [spF_at rfl] at this;exact this)
    refine does_call1 rfl (hr.2.2.2 _) d2 rfl ((begin_any _ wr).mono fun e w' h=>?_)
    exact ⟨_,h.1,(by rw [spF_at rfl,hkey];rfl),Old.same h.2.symm⟩
   ·refine ⟨by simp,step_plain rfl fun ρ wr ho hr hd=>?_⟩
    obtain ⟨d0,d3,_⟩:=hd
    have d0:∃ B,ρ (.tmp 16)=.map (some B)∧FormsIn wr B:=(by have:=d0 rfl;rw [spF_at rfl] at this;exact this)
    have d3:ρ (.tmp 19)=.int .u8 key:=(by have:=d3 rfl;rw [spF_at rfl] at this;exact this)
    obtain ⟨B,d0,hF⟩:=d0
    obtain ⟨f,hl,hG⟩:=hG0 wr B hF
    exact does_look rfl d0 d3 hl ⟨(by rw [spF_at rfl];exact ⟨f,rfl,hG⟩),Old.refl _⟩
   ·refine ⟨by simp,step_plain rfl fun ρ wr ho hr hd=>?_⟩
    obtain ⟨d4,_⟩:=hd
    have d4:∃ f,ρ (.tmp 20)=.tuple #[.agg #[f],.bool ok]∧G.says f wr:=(by have:=d4 rfl;rw [spF_at rfl] at this;exact this)
    obtain ⟨f,h1,h2⟩:=d4
    exact does_move rfl h1 ⟨(by rw [spF_at rfl];exact ⟨f,rfl,h2⟩),Old.refl _⟩
   ·refine ⟨by simp,step_plain rfl fun ρ wr ho hr hd=>?_⟩
    obtain ⟨d5,_⟩:=hd
    have d5:∃ f,ρ (.tmp 15)=.tuple #[.agg #[f],.bool ok]∧G.says f wr:=(by have:=d5 rfl;rw [spF_at rfl] at this;exact this)
    obtain ⟨f,h1,h2⟩:=d5
    exact does_ex0 rfl h1 ⟨(by rw [spF_at rfl];exact ⟨f,rfl,h2⟩),Old.refl _⟩
   ·refine ⟨by simp,step_plain rfl fun ρ wr ho hr hd=>?_⟩
    obtain ⟨d5,_⟩:=hd
    have d5:∃ f,ρ (.tmp 15)=.tuple #[.agg #[f],.bool ok]∧G.says f wr:=(by have:=d5 rfl;rw [spF_at rfl] at this;exact this)
    obtain ⟨f,h1,h2⟩:=d5
    exact does_ex1 rfl h1 ⟨(by rw [spF_at rfl];rfl),Old.refl _⟩
   ·exact stepA_form rfl rfl rfl
   ·refine stepS_form (G:=G) rfl rfl rfl rfl ⟨_,List.mem_cons_self,rfl,rfl⟩ (fun ρ wr hd=>?_)
    obtain ⟨_,d6,_⟩:=hd
    have:=d6 rfl
    rw [spF_at rfl] at this
    exact this
   ·refine ⟨by simp,step_plain rfl fun ρ wr ho hr hd=>?_⟩
    obtain ⟨d7,_⟩:=hd
    have d7:ρ (.tmp 22)=.bool ok:=(by have:=d7 rfl;rw [spF_at rfl] at this;exact this)
    exact does_assign rfl d7 ⟨(by rw [spF_at rfl];rfl),Old.refl _⟩
  ·intro a' w' β ho hst hl hB
   obtain ⟨e4,p1,cc1,q1,_,_,r1⟩:=hB.ptr 8 _ rfl rfl rfl
   obtain ⟨f,rfl,hG⟩:=r1 9 (by decide) rfl rfl
   obtain ⟨_,_,_,_,_,_,_,_,_,_,e5,_⟩:=hl
   have e4:a'.eval (.tmp 4)=.pointer (some ⟨β 8,0,none⟩):=e4
   have e5:a'.eval (.tmp 5)=.bool ok:=(by rw [spF_at rfl] at e5;exact e5)
   rw [act_fresh hst [false,false,false,false,true,true,false,false,false,false,false,false,false,false,false,true,true,true,true,true,true,true,true,false,false,false,false,false,false,false,false,false,false,false,false,false,false,false,false,false,false,false,false] (by kernel_rfl) (by kernel_rfl)]
   simp only [fresh,e4,e5]
   go_wp2_with fail
   go_meet
   exact ⟨β 8,f,rfl,rfl,hid q1,hid hG,hid (HO.out.trans ho),hid (HE.out.old ho),hid (HT.out.old ho)⟩
 case rest=>
 clear HO HE HT
 obtain ⟨b,f,rfl,rfl,HF,hG,HO,HE,HT⟩:=hcut
 obtain rfl:=HGE.out
 have hok:=HOK.out
 clear HGE HOK hG0 hkey
 have c0:=HT.out.c0
 have c1:=HT.out.c1
 have c2:=HT.out.c2
 have f0:=HT.out.f 0
 have f1:=HT.out.f 1
 have f2:=HT.out.f 2
 rw [hok]
 clear hok
 have HK:=hid hk
 have HN:=hid hn
 clear hk hn
 have hfe:f=.func (.func F) #[] #[]:=hG.out
 clear hG
 subst hfe
 have hF:=HF.out
 clear HF
 have hF0:wc.cell? ⟨b,0,none⟩=some (.func (.func F) #[] #[]):=by simp [World.cell?,hF]
 clear hF
 rcases hFF with rfl|rfl|rfl
 all_goals
  by_cases hE:E=0
  ·subst hE
   go_upto_region 11 with (first
    | (go_at_call 197;(with_reducible refine (hf _ HE.out).mono ?_);rintro e w1 ⟨rfl,o1⟩;replace HO:=hid (HO.out.trans o1);replace HE:=hid (HE.out.old o1);replace HT:=hid (HT.out.old o1))
    | (go_at_call 198;(with_reducible refine (hf _ HE.out).mono ?_);rintro e w1 ⟨rfl,o1⟩;replace HO:=hid (HO.out.trans o1);replace HE:=hid (HE.out.old o1);replace HT:=hid (HT.out.old o1))
    | (go_at_call 199;(with_reducible refine (hf _ HE.out).mono ?_);rintro e w1 ⟨rfl,o1⟩;replace HO:=hid (HO.out.trans o1);replace HE:=hid (HE.out.old o1);replace HT:=hid (HT.out.old o1)))
   clear c0 c1 c2 f0 f1 f2
   have HB:=hid (Three.new w1 (.int .u8 K) (.int .i64 N) (.string S))
   replace HT:=hid (HT.out.alloc (.cells #[.int .u8 K,.int .i64 N,.string S] 35))
   replace HE:=hid (HE.out.old ((Old.refl w1).alloc (.cells #[.int .u8 K,.int .i64 N,.string S] 35)))
   replace HO:=hid (HO.out.alloc (.cells #[.int .u8 K,.int .i64 N,.string S] 35))
   have d0:=HB.out.c0
   have d1:=HB.out.c1
   have d2:=HB.out.c2
   have htx:=fun W (h:Env W)=>text_any' K N S HK.out HN.out W h
   by_cases hq:textL K N S=c::r
   ·simp only [hq] at htx
    have HQ:=hid hq
    clear hq
    go_upto_region 13 with (first
     | (go_at_call 80;(with_reducible refine (htx _ HE.out).mono ?_);rintro e w2 ⟨rfl,o2⟩;replace HO:=hid (HO.out.trans o2);replace HE:=hid (HE.out.old o2);replace HT:=hid (HT.out.old o2);replace HB:=hid (HB.out.old o2)))
    clear d0 d1 d2
    have d0:=HB.out.c0
    have d1:=HB.out.c1
    have d2:=HB.out.c2
    have c0:=HT.out.c0
    have c1:=HT.out.c1
    have c2:=HT.out.c2
    have f0:=HT.out.f 0
    have f1:=HT.out.f 1
    have f2:=HT.out.f 2
    go_wp2_with fail
    have R:=HT.out.set (.int .u8 K) (.int .i64 N) (.string S)
    exact bodyPost_ret (v:=.tuple #[vl K N S,.int .i64 0]) (by simp [results,Tryz.results166,go_sem,R.c0,R.c1,R.c2]) rfl ⟨rfl,old3 HO.out (Nat.le_refl _) _ _ _⟩
   ·have hb:(textL K N S==c::r)=false:=by simpa using hq
    have HQ:=hid hq
    clear hq
    go_upto_region 12 with (first
     | (go_at_call 80;(with_reducible refine (htx _ HE.out).mono ?_);rintro e w2 ⟨rfl,o2⟩;replace HO:=hid (HO.out.trans o2);replace HE:=hid (HE.out.old o2);replace HT:=hid (HT.out.old o2);replace HB:=hid (HB.out.old o2)))
    clear d0 d1 d2
    have c0:=HT.out.c0
    have c1:=HT.out.c1
    have c2:=HT.out.c2
    have f0:=HT.out.f 0
    have f1:=HT.out.f 1
    have f2:=HT.out.f 2
    go_wp2_with fail
    have R:=HT.out.set (.int .u8 0) (.int .i64 0) (.string ⟨#[]⟩)
    exact bodyPost_ret (v:=.tuple #[vl 0 0 ⟨#[]⟩,.int .i64 4]) (by simp [results,Tryz.results166,go_sem,R.c0,R.c1,R.c2]) rfl ⟨rfl,old3 HO.out (Nat.le_refl _) _ _ _⟩
  ·have hEb:(E==0)=false:=by simpa using hE
   have HEE:=hid hE
   clear hE
   go_upto_region 10 with (first
    | (go_at_call 197;(with_reducible refine (hf _ HE.out).mono ?_);rintro e w1 ⟨rfl,o1⟩;replace HO:=hid (HO.out.trans o1);replace HE:=hid (HE.out.old o1);replace HT:=hid (HT.out.old o1))
    | (go_at_call 198;(with_reducible refine (hf _ HE.out).mono ?_);rintro e w1 ⟨rfl,o1⟩;replace HO:=hid (HO.out.trans o1);replace HE:=hid (HE.out.old o1);replace HT:=hid (HT.out.old o1))
    | (go_at_call 199;(with_reducible refine (hf _ HE.out).mono ?_);rintro e w1 ⟨rfl,o1⟩;replace HO:=hid (HO.out.trans o1);replace HE:=hid (HE.out.old o1);replace HT:=hid (HT.out.old o1)))
   clear c0 c1 c2 f0 f1 f2
   replace HT:=hid (HT.out.alloc (.cells #[.int .u8 K,.int .i64 N,.string S] 35))
   replace HO:=hid (HO.out.alloc (.cells #[.int .u8 K,.int .i64 N,.string S] 35))
   have c0:=HT.out.c0
   have c1:=HT.out.c1
   have c2:=HT.out.c2
   have f0:=HT.out.f 0
   have f1:=HT.out.f 1
   have f2:=HT.out.f 2
   go_wp2_with fail
   have R:=HT.out.set (.int .u8 0) (.int .i64 0) (.string ⟨#[]⟩)
   exact bodyPost_ret (v:=.tuple #[vl 0 0 ⟨#[]⟩,.int .i64 E]) (by simp [results,Tryz.results166,go_sem,R.c0,R.c1,R.c2]) rfl ⟨rfl,old3 HO.out (Nat.le_refl _) _ _ _⟩
end Go.Proofs.YtkellpcljiodeaaGreatDoor
