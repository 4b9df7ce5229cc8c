/- Layer vtext: Parse. -/
import Derived.Laws.EntriesVeiled
import Derived.Test.YtkellpcljiodeaaGreatDoorLI
set_option maxHeartbeats 3200000
namespace Go.Proofs.YtkellpcljiodeaaGreatDoor
open Go.ChangeShapes Go.WideShapes Go.ChangeAt Go.RowKit Go.Lib
set_option linter.unusedVariables false
set_option maxRecDepth 100000
def isForm (c:Array Value):Prop:=∃ v,c=#[v]
theorem Three.oldN {w w':World} {b:Nat} {x y z:Value} (ho:OldN 196 isForm w w') (h:Three w b x y z):Three w' b x y z:=by
 rcases ho.block b h.lt with e|⟨c,c',h1,_⟩
 ·exact e.trans h
 ·unfold Three at h
  rw [h] at h1
  simp at h1
theorem FormsIn.oldN {w w':World} {B:Nat} (ho:OldN 196 isForm w w') (h:FormsIn w B):FormsIn w' B:=by
 obtain ⟨b1,b2,b3,cl,h1,h2,h3,h4⟩:=h
 refine ⟨b1,b2,b3,cl,?_,h2.oldN ho,h3.oldN ho,h4.oldN ho⟩
 rcases ho.block B (blk_lt h1) with e|⟨c,c',k1,_⟩
 ·exact e.trans h1
 ·rw [h1] at k1;cases k1
structure SpF where
 says:Value→World→Prop
 mono:∀ v x y,OldN 196 isForm x y→says v x→says v y
def SpF.eq (u:Value):SpF:=⟨fun v _=>v=u,fun _ _ _ _ h=>h⟩
def SpF.any:SpF:=⟨fun _ _=>True,fun _ _ _ _ h=>h⟩
def SpF.forms:SpF:=⟨fun v w=>∃ B,v=.map (some B)∧FormsIn w B,fun _ _ _ ho ⟨B,h1,h2⟩=>⟨B,h1,h2.oldN ho⟩⟩
structure Gf where
 says:Value→World→Prop
 mono:∀ v x y,OldN 196 isForm x y→says v x→says v y
 shape:∀ v w,says v w→(∃ a b c,v=.func a b c)∨v=.nilFunc
def SpF.look (G:Gf) (ok:Bool):SpF:=⟨fun v w=>∃ f,v=.tuple #[.agg #[f],.bool ok]∧G.says f w,fun _ _ _ ho ⟨f,h1,h2⟩=>⟨f,h1,G.mono _ _ _ ho h2⟩⟩
def SpF.form (G:Gf):SpF:=⟨fun v w=>∃ f,v=.agg #[f]∧G.says f w,fun _ _ _ ho ⟨f,h1,h2⟩=>⟨f,h1,G.mono _ _ _ ho h2⟩⟩
def spF (l:List SpF) (i:Nat):Value→World→Prop:=(l.getD i SpF.any).says
theorem spF_mono (l:List SpF) (i:Nat) (v:Value) (x y:World) (ho:OldN 196 isForm x y) (h:spF l i v x):spF l i v y:=(l.getD i SpF.any).mono v x y ho h
theorem spF_at {l:List SpF} {i:Nat} {s:SpF} (e:l[i]?=some s) (v:Value) (w:World):spF l i v w=s.says v w:=by
 unfold spF;rw [List.getD_eq_getElem?_getD,e];rfl
def Gf.only (k n:Int):Gf:=⟨fun f w=>∃ b,f=.func (.func 206) #[] #[.pointer (some ⟨b,0,none⟩)]∧Three w b (.int .u8 k) (.int .i64 n) (.string ⟨#[]⟩),fun _ _ _ ho ⟨b,h1,h2⟩=>⟨b,h1,h2.oldN ho⟩,fun _ _ ⟨b,h1,_⟩=>Or.inl ⟨_,_,_,h1⟩⟩
def Gf.fn (f:FuncId):Gf:=⟨fun v _=>v=.func (.func f) #[] #[],fun _ _ _ _ h=>h,fun _ _ h=>Or.inl ⟨_,_,_,h⟩⟩
def Gf.none:Gf:=⟨fun v _=>v=.nilFunc,fun _ _ _ _ h=>h,fun _ _ h=>Or.inr h⟩
def Looks (key:Int) (G:Gf) (ok:Bool):Prop:=∀ w B,FormsIn w B→∃ f,(Instr.lookup 198 (.map (some B)) (.int .u8 key) true).run Tryz.prog w=.ok (.tuple #[.agg #[f],.bool ok]) w∧G.says f w
theorem looks_of (key:Int) (G:Gf) (ok:Bool) (h:∀ w b1 b2 b3,Three w b1 (.int .u8 0) (.int .i64 0) (.string ⟨#[]⟩)→Three w b2 (.int .u8 4) (.int .i64 1) (.string ⟨#[]⟩)→Three w b3 (.int .u8 4) (.int .i64 0) (.string ⟨#[]⟩)→
 ∃ r f,Instr.findNow (.int .u8) (.int .u8 key) (formsAt b1 b2 b3) 0=some r∧lkV r=.agg #[f]∧r.isSome=ok∧G.says f w):Looks key G ok:=by
 intro w B hF
 obtain ⟨b1,b2,b3,cl,h1,h2,h3,h4⟩:=hF
 obtain ⟨r,f,k1,k2,k3,k4⟩:=h w b1 b2 b3 h2 h3 h4
 have:=run_lk key h1 r (by simpa using k1)
 rw [k2,k3] at this
 exact ⟨f,this,k4⟩
theorem looks_n:Looks 110 (Gf.only 0 0) true:=looks_of _ _ _ fun w b1 b2 b3 h1 h2 h3=>⟨_,_,rfl,rfl,rfl,b1,rfl,h1⟩
theorem looks_t:Looks 116 (Gf.only 4 1) true:=looks_of _ _ _ fun w b1 b2 b3 h1 h2 h3=>⟨_,_,rfl,rfl,rfl,b2,rfl,h2⟩
theorem looks_f:Looks 102 (Gf.only 4 0) true:=looks_of _ _ _ fun w b1 b2 b3 h1 h2 h3=>⟨_,_,rfl,rfl,rfl,b3,rfl,h3⟩
theorem looks_q:Looks 34 (Gf.fn 197) true:=looks_of _ _ _ fun w b1 b2 b3 h1 h2 h3=>⟨_,_,rfl,rfl,rfl,rfl⟩
theorem looks_s:Looks 35 (Gf.fn 198) true:=looks_of _ _ _ fun w b1 b2 b3 h1 h2 h3=>⟨_,_,rfl,rfl,rfl,rfl⟩
theorem looks_m:Looks 45 (Gf.fn 199) true:=looks_of _ _ _ fun w b1 b2 b3 h1 h2 h3=>⟨_,_,rfl,rfl,rfl,rfl⟩
theorem looks_d:Looks 48 (Gf.fn 199) true:=looks_of _ _ _ fun w b1 b2 b3 h1 h2 h3=>⟨_,_,rfl,rfl,rfl,rfl⟩
theorem looks_no (key:Int) (h:key≠110∧key≠116∧key≠102∧key≠34∧key≠35∧key≠45∧key≠48):Looks key Gf.none false:=looks_of _ _ _ fun w b1 b2 b3 h1 h2 h3=>by
 refine ⟨none,.nilFunc,?_,rfl,rfl,rfl⟩
 obtain ⟨k1,k2,k3,k4,k5,k6,k7⟩:=h
 have e1:(key==110)=false:=by simpa using k1
 have e2:(key==116)=false:=by simpa using k2
 have e3:(key==102)=false:=by simpa using k3
 have e4:(key==34)=false:=by simpa using k4
 have e5:(key==35)=false:=by simpa using k5
 have e6:(key==45)=false:=by simpa using k6
 have e7:(key==48)=false:=by simpa using k7
 simp only [formsAt,Instr.findNow,Instr.sameNow,if_true,e1,e2,e3,e4,e5,e6,e7]
theorem stepA_form {o:Oper} (hg:o.guard=none) {d:Nat} (hd:o.dst=some d) (ho:o.op=.alloc 196):StepA Tryz.prog #[.nilFunc] 196 o:=by
 refine ⟨hg,by rw [hd];simp,fun ρ w=>?_⟩
 unfold execOp
 rw [ho]
 go_simp
def inF (G:Gf) (i:Nat) (c:Array Value) (w:World):Prop:=∃ f,c=#[f]∧G.says f w
theorem inF_mono (G:Gf) (i:Nat) (c:Array Value) (x y:World) (ho:OldN 196 isForm x y) (h:inF G i c x):inF G i c y:=by
 obtain ⟨f,h1,h2⟩:=h
 exact ⟨f,h1,G.mono _ _ _ ho h2⟩
theorem stepS_form {G:Gf} {ops:Array Oper} {Φ:Nat→Value→World→Prop} {a0:Act} {W:World} {i j d s:Nat} {o:Oper} (hg:o.guard=none) (hd:o.dst=none) (ho:o.op=.store 196 (.tmp d) (.tmp s)) (hj:dstOf ops j=d) (he:∃ e∈o.after.toList,Region.binds .any e=true∧e.on=j)
 (hs:∀ (ρ:Operand→Value) (w:World),Deps ops Φ ρ w o.after.toList→∃ f,ρ (.tmp s)=.agg #[f]∧G.says f w):StepS Tryz.prog ops Φ (inF G) #[.nilFunc] 196 isForm a0 W i o j:=by
 refine ⟨hg,hd,he,fun ρ w b hO hr hdp hp hb=>?_⟩
 rw [hj] at hp
 obtain ⟨f,hx,hG⟩:=hs ρ w hdp
 have c0:w.cell? ⟨b,0,none⟩=some .nilFunc:=by simp [World.cell?,hb]
 have f0:w.frozen? ⟨b,0,none⟩=false:=by simp [World.frozen?,hb]
 have hlt:=blk_lt hb
 refine ⟨#[f],w.setCell ⟨b,0,none⟩ f,?_,⟨f,rfl⟩,⟨f,rfl,hG⟩,rfl,rfl,by simp [World.setCell],?_,fun k hk=>Below.heap_setCell _ _ _ _ hk⟩
 ·unfold execOp
  rw [ho]
  simp only [hp,hx]
  rcases G.shape f w hG with ⟨x,y,z,rfl⟩|rfl<;>go_simp
 ·simp [World.setCell,Array.getElem?_modify,hb]
def al5 (i:Nat):Bool:=i==8
def st5 (i:Nat):Option Nat:=if i=9 then some 8 else none
theorem al5_st (i:Nat) (h:al5 i=true):st5 i=none:=by
 unfold al5 at h;simp at h;subst h;rfl
theorem st5_some {i j:Nat} (h:st5 i=some j):i=9∧j=8:=by
 unfold st5 at h
 split at h
 ·simp at h;omega
 ·cases h
theorem st5_inj (i i' j:Nat) (h:st5 i=some j) (h':st5 i'=some j):i=i':=by
 have:=st5_some h;have:=st5_some h';omega
theorem st5_al (i j:Nat) (h:st5 i=some j):al5 j=true:=by
 have:=(st5_some h).2;subst this;rfl
theorem any5 {a b c d e f g h k:SpF} (i:Nat) (v:Value) (w:World) (hh:al5 i=true∨(st5 i).isSome=true):spF [a,b,c,d,e,f,g,h,.any,.any,k] i v w:=by
 have hi:i=8∨i=9:=by
  rcases hh with h|h
  ·unfold al5 at h;simp at h;omega
  ·obtain ⟨j,hj⟩:=Option.isSome_iff_exists.1 h
   have:=st5_some hj;omega
 rcases hi with rfl|rfl<;>trivial
section
variable {ρ:Operand→Value} {o:Oper} {w:World} {K:Value→World→Prop}
theorem does_idx {x i:Operand} {c:UInt8} {r:List UInt8} (ho:o.op=.index 9 x i) (hx:ρ x=.string (st (c::r))) (hi:ρ i=.int .i64 0) (h:K (.int .u8 (c.toNat:Int)) w):Does Tryz.prog ρ o w K:=by
 refine does_value (v:=.int .u8 (c.toNat:Int)) (w':=w) ?_ h
 unfold execOp;rw [ho];simp only [hx,hi]
 go_simp
 try rfl
theorem does_look {x i:Operand} {B:Nat} {k:Int} {v:Value} (ho:o.op=.lookup 198 x i true) (hx:ρ x=.map (some B)) (hi:ρ i=.int .u8 k) (hl:(Instr.lookup 198 (.map (some B)) (.int .u8 k) true).run Tryz.prog w=.ok v w) (h:K v w):Does Tryz.prog ρ o w K:=by
 refine does_value (v:=v) (w':=w) ?_ h
 unfold execOp;rw [ho];simp only [hx,hi]
 simp [hl,Result.andThen]
theorem does_ex0 {x:Operand} {u v:Value} (ho:o.op=.extract x 0) (hx:ρ x=.tuple #[u,v]) (h:K u w):Does Tryz.prog ρ o w K:=by
 refine does_value (v:=u) (w':=w) ?_ h
 unfold execOp;rw [ho];simp only [hx]
 go_simp
theorem does_ex1 {x:Operand} {u v:Value} (ho:o.op=.extract x 1) (hx:ρ x=.tuple #[u,v]) (h:K v w):Does Tryz.prog ρ o w K:=by
 refine does_value (v:=v) (w':=w) ?_ h
 unfold execOp;rw [ho];simp only [hx]
 go_simp
end
theorem parse_none (c:UInt8) (r:List UInt8) (key:Int)  (hkey:(if (48:Int)≤(c.toNat:Int)∧(c.toNat:Int)≤57 then 48 else (c.toNat:Int))=key) (hG0:Looks key Gf.none false) (hl:r.length≤401) (w:World) (he:Env w) :
 Calls Tryz.prog 166 #[.string (st (c::r))] w fun e w'=>e=rv 0 0 4 ⟨#[]⟩∧Old w w':=by
 obtain ⟨G,hGe⟩:∃ G,G=Gf.none:=⟨_,rfl⟩
 obtain ⟨ok,hok⟩:∃ ok,ok=false:=⟨_,rfl⟩
 rw [←hGe,←hok] at hG0
 have HGE:=hid hGe
 have HOK:=hid hok
 clear hGe hok
 have HO:=hid ((Old.refl w).alloc (.cells #[.int .u8 0,.int .i64 0,.string ⟨#[]⟩] 35))
 have HE:=hid (he.old HO.out)
 have HT:=hid (Three.new w (.int .u8 0) (.int .i64 0) (.string ⟨#[]⟩))
 clear he
 go_enter Tryz.func166,Tryz.ntmps166
 go_upto_region 5 with (fail)
 go_cut [4,5] from 4 to 22 (fun p q wx=>∃ (b:Nat) (f:Value),p=.pointer (some ⟨b,0,none⟩)∧q=.bool ok∧Hid (wx.heap[b]?=some (.cells #[f] 196 (0,0)))∧Hid (G.says f wx)∧Hid (Old w wx)∧Hid (Env wx)∧Hid (Three wx w.heap.size (.int .u8 0) (.int .i64 0) (.string ⟨#[]⟩)))
 case first=>
  as_aux_lemma=>
  refine wp_region_inv2 (spF [.forms,.eq (.string (st (c::r))),.eq (.int .u8 (c.toNat:Int)),.eq (.int .u8 key),.look G ok,.look G ok,.form G,.eq (.bool ok),.any,.any,.eq (.bool ok)]) (inF G) al5 st5 #[.nilFunc] 196 isForm (by kernel_rfl) (by kernel_rfl) (spF_mono _) (inF_mono G) any5 ⟨_,rfl⟩ al5_st st5_inj st5_al ?_ ?_
  ·refine ⟨?_,?_,?_,?_,?_,?_,?_,?_,?_,?_,?_,trivial⟩
   ·refine ⟨by simp,step_plain rfl fun ρ wr ho hr hd=>?_⟩
    refine does_call0 rfl (hr.2.2.2 _) rfl ((forms_any wr).mono fun e w' h=>?_)
    obtain ⟨B,h1,h2,h3⟩:=h
    exact ⟨_,h1,(by rw [spF_at rfl];exact ⟨B,rfl,h2⟩),h3⟩
   ·refine ⟨by simp,step_plain rfl fun ρ wr ho hr hd=>?_⟩
    exact does_move rfl ((hr.1 0 rfl).trans rfl) ⟨(by rw [spF_at rfl];rfl),Old.refl _⟩
   ·refine ⟨by simp,step_plain rfl fun ρ wr ho hr hd=>?_⟩
    obtain ⟨d1,_⟩:=hd
    have d1:ρ (.tmp 17)=.string (st (c::r)):=(by have:=d1 rfl;rw [spF_at rfl] at this;exact this)
    exact does_idx rfl d1 (hr.2.1 _) ⟨(by rw [spF_at rfl];rfl),Old.refl _⟩
   ·refine ⟨by simp,step_plain rfl fun ρ wr ho hr hd=>?_⟩
    obtain ⟨d2,_⟩:=hd
    have d2:ρ (.tmp 18)=.int .u8 (c.toNat:Int):=(by have:=d2 rfl;rw [spF_at rfl] at this;exact this)
    refine does_call1 rfl (hr.2.2.2 _) d2 rfl ((begin_any _ wr).mono fun e w' h=>?_)
    exact ⟨_,h.1,(by rw [spF_at rfl,hkey];rfl),Old.same h.2.symm⟩
   ·refine ⟨by simp,step_plain rfl fun ρ wr ho hr hd=>?_⟩
    obtain ⟨d0,d3,_⟩:=hd
    have d0:∃ B,ρ (.tmp 16)=.map (some B)∧FormsIn wr B:=(by have:=d0 rfl;rw [spF_at rfl] at this;exact this)
    have d3:ρ (.tmp 19)=.int .u8 key:=(by have:=d3 rfl;rw [spF_at rfl] at this;exact this)
    obtain ⟨B,d0,hF⟩:=d0
    obtain ⟨f,hl,hG⟩:=hG0 wr B hF
    exact does_look rfl d0 d3 hl ⟨(by rw [spF_at rfl];exact ⟨f,rfl,hG⟩),Old.refl _⟩
   ·refine ⟨by simp,step_plain rfl fun ρ wr ho hr hd=>?_⟩
    obtain ⟨d4,_⟩:=hd
    have d4:∃ f,ρ (.tmp 20)=.tuple #[.agg #[f],.bool ok]∧G.says f wr:=(by have:=d4 rfl;rw [spF_at rfl] at this;exact this)
    obtain ⟨f,h1,h2⟩:=d4
    exact does_move rfl h1 ⟨(by rw [spF_at rfl];exact ⟨f,rfl,h2⟩),Old.refl _⟩
   ·refine ⟨by simp,step_plain rfl fun ρ wr ho hr hd=>?_⟩
    obtain ⟨d5,_⟩:=hd
    have d5:∃ f,ρ (.tmp 15)=.tuple #[.agg #[f],.bool ok]∧G.says f wr:=(by have:=d5 rfl;rw [spF_at rfl] at this;exact this)
    obtain ⟨f,h1,h2⟩:=d5
    exact does_ex0 rfl h1 ⟨(by rw [spF_at rfl];exact ⟨f,rfl,h2⟩),Old.refl _⟩
   ·refine ⟨by simp,step_plain rfl fun ρ wr ho hr hd=>?_⟩
    obtain ⟨d5,_⟩:=hd
    have d5:∃ f,ρ (.tmp 15)=.tuple #[.agg #[f],.bool ok]∧G.says f wr:=(by have:=d5 rfl;rw [spF_at rfl] at this;exact this)
    obtain ⟨f,h1,h2⟩:=d5
    exact does_ex1 rfl h1 ⟨(by rw [spF_at rfl];rfl),Old.refl _⟩
   ·exact stepA_form rfl rfl rfl
   ·refine stepS_form (G:=G) rfl rfl rfl rfl ⟨_,List.mem_cons_self,rfl,rfl⟩ (fun ρ wr hd=>?_)
    obtain ⟨_,d6,_⟩:=hd
    have:=d6 rfl
    rw [spF_at rfl] at this
    exact this
   ·refine ⟨by simp,step_plain rfl fun ρ wr ho hr hd=>?_⟩
    obtain ⟨d7,_⟩:=hd
    have d7:ρ (.tmp 22)=.bool ok:=(by have:=d7 rfl;rw [spF_at rfl] at this;exact this)
    exact does_assign rfl d7 ⟨(by rw [spF_at rfl];rfl),Old.refl _⟩
  ·intro a' w' β ho hst hl hB
   obtain ⟨e4,p1,cc1,q1,_,_,r1⟩:=hB.ptr 8 _ rfl rfl rfl
   obtain ⟨f,rfl,hG⟩:=r1 9 (by decide) rfl rfl
   obtain ⟨_,_,_,_,_,_,_,_,_,_,e5,_⟩:=hl
   have e4:a'.eval (.tmp 4)=.pointer (some ⟨β 8,0,none⟩):=e4
   have e5:a'.eval (.tmp 5)=.bool ok:=(by rw [spF_at rfl] at e5;exact e5)
   rw [act_fresh hst [false,false,false,false,true,true,false,false,false,false,false,false,false,false,false,true,true,true,true,true,true,true,true,false,false,false,false,false,false,false,false,false,false,false,false,false,false,false,false,false,false,false,false] (by kernel_rfl) (by kernel_rfl)]
   simp only [fresh,e4,e5]
   go_wp2_with fail
   go_meet
   exact ⟨β 8,f,rfl,rfl,hid q1,hid hG,hid (HO.out.trans ho),hid (HE.out.old ho),hid (HT.out.old ho)⟩
 case rest=>
 clear HO HE HT
 obtain ⟨b,f,rfl,rfl,HF,hG,HO,HE,HT⟩:=hcut
 obtain rfl:=HGE.out
 have hok:=HOK.out
 clear HGE HOK hG0 hkey
 have c0:=HT.out.c0
 have c1:=HT.out.c1
 have c2:=HT.out.c2
 have f0:=HT.out.f 0
 have f1:=HT.out.f 1
 have f2:=HT.out.f 2
 rw [hok]
 clear hok HF hG
 go_wp2_with fail
 have R:=HT.out.set (.int .u8 0) (.int .i64 0) (.string ⟨#[]⟩)
 exact bodyPost_ret (v:=.tuple #[vl 0 0 ⟨#[]⟩,.int .i64 4]) (by simp [results,Tryz.results166,go_sem,R.c0,R.c1,R.c2]) rfl ⟨rfl,old3 HO.out (Nat.le_refl _) _ _ _⟩
end Go.Proofs.YtkellpcljiodeaaGreatDoor
