/- Layer lexer: the closures that say how far a word goes; its kind. the sign's closure; which closure a kind has; how far the word goes. the closure of each kind; the kind of the next word. -/
import Derived.Shelf.Abstract
import Derived.Test.YtkellpcljiodeaaGreatDoorTC
set_option maxHeartbeats 1600000
namespace Go.Proofs.YtkellpcljiodeaaGreatDoor
open Go.ChangeShapes Go.WideShapes Go.ChangeAt Go.RowKit Go.Lib
set_option linter.unusedVariables false
set_option linter.unusedSimpArgs false
set_option maxRecDepth 100000
theorem drop_get {l:List UInt8} {i:Nat} {c:UInt8} {r:List UInt8} (h:l.drop i=c::r):l[i]?=some c:=by
 have:=congrArg (·[0]?) h
 simpa using this
theorem pair_any (w:World) (b:Nat) (s:ByteArray) (j L B:Int) (hr:Rdr w b s j L B) (i:Nat) (hi:i≤1000000) :
 Calls Tryz.prog 130 #[.pointer (some ⟨b,0,none⟩),.int .i64 (i:Int)] w fun e w'=>e=.returned (.bool (pair (s.data.toList.drop i)))∧w=w':=by
 have c0:=hr.c0
 have f0:=hr.f 0
 rcases Nat.lt_or_ge (i+1) s.size with h|h
 ·have h1:i<s.data.toList.length:=by rw [Array.length_toList];exact Nat.lt_of_succ_lt h
  have h2:i+1<s.data.toList.length:=by rw [Array.length_toList];exact h
  obtain ⟨x,hx⟩:∃ x,x=s.data.toList[i]:=⟨_,rfl⟩
  obtain ⟨y,hy⟩:∃ y,y=s.data.toList[i+1]:=⟨_,rfl⟩
  have e:s.data.toList.drop i=x::y::s.data.toList.drop (i+1+1):=by
   rw [List.drop_eq_getElem_cons h1,List.drop_eq_getElem_cons h2,hx,hy]
  have hs:s.extract i (i+2)=⟨#[x,y]⟩:=by
   apply ba_ext
   rw [Lib.extract_toList,ByteArray.toList_eq,e]
   have:i+2-i=2:=by omega
   rw [this]
   rfl
  obtain ⟨z,hz⟩:∃ z:ByteArray,z=⟨#[x,y]⟩:=⟨_,rfl⟩
  have hsl:∀ W,(Instr.slice 9 (.string s) (some (.int .i64 (i:Int))) (some (.int .i64 ((i:Int)+2))) none).run Tryz.prog W=.ok (.string z) W:=fun W=>by
   rw [run_slice_string W 9 s .i64 .i64 (i:Int) ((i:Int)+2) Tryz.underlying9 (by omega) (by omega) (by omega),hz,←hs]
   congr 4
  have hp:pair (s.data.toList.drop i)=((z.toList==[60,61])||(z.toList==[62,61])||(z.toList==[60,62])||(z.toList==[46,46])):=by
   rw [e,hz,ByteArray.toList_eq]
   simp [pair,Bool.and_true]
  rw [hp]
  clear e hx hy h1 h2 hs hz hp
  go_enter Tryz.func130,Tryz.ntmps130
  go_wp2_with fail
  all_goals (go_ret;exact ⟨rb _ _ (by simp_all),rfl⟩)
 ·have e:pair (s.data.toList.drop i)=false:=by
   have hl:(s.data.toList.drop i).length≤1:=by rw [List.length_drop,Array.length_toList];have:s.data.size=s.size:=rfl;omega
   match s.data.toList.drop i,hl with
   | [],_=>rfl
   | [x],_=>rfl
   | x::y::r,hl=>simp at hl
  rw [e]
  clear e
  go_enter Tryz.func130,Tryz.ntmps130
  go_wp2
  go_ret
  exact ⟨rfl,rfl⟩
structure Rb (W:World) (x b:Nat) (s:ByteArray) (j L B:Int):Prop where
 box:Boxed W x 125 (.pointer (some ⟨b,0,none⟩))
 rd:Rdr W b s j L B
theorem runS_some (p:UInt8→Bool) (a:Unit) (c:UInt8) (r:List UInt8):(runS p a (c::r)).isSome=p c:=by
 rw [show runS p a (c::r)=if p c then some () else none from rfl]
 cases p c<;>rfl
theorem after_same {σ:Type} {C:Nat→σ→World→Prop} {i:Nat} {a:σ} {o:Option σ} {W:World} (h:∀ i a,C i a W):After C i a o W:=by
 unfold After
 split
 ·exact h _ _
 ·exact h _ _
theorem u8_eq (c d:UInt8):((c.toNat:Int)==(d.toNat:Int))=(c==d):=by
 by_cases h:c=d
 ·subst h;simp
 ·rw [beq_false_of_ne h,beq_eq_false_iff_ne]
  exact u8_int h
theorem heap_set_other {W:World} {p k:Nat} {u:Value} (h:p≠k):(W.setCell ⟨p,0,none⟩ u).heap[k]?=W.heap[k]?:=by
 show (W.heap.modify p _)[k]?=_
 rw [Array.getElem?_modify,if_neg h]
theorem Rb.poke {W:World} {x b p:Nat} {s:ByteArray} {j L B:Int} {v:Value} (h:Rb W x b s j L B) (hp:Boxed W p 4 v) (u:Value):Rb (W.setCell ⟨p,0,none⟩ u) x b s j L B:=by
 have h1:p≠x:=by
  rintro rfl
  have:=hp.symm.trans h.box
  simp at this
 have h2:p≠b:=by
  rintro rfl
  have:=hp.symm.trans h.rd
  simp at this
 exact ⟨(heap_set_other h1).trans h.box,(heap_set_other h2).trans h.rd⟩
theorem asks_line (s:ByteArray) (x b:Nat) (j L B:Int) (K:World→Prop) :
 Asks 93 #[.pointer (some ⟨x,0,none⟩)] s (runS (fun c=>c != 10)) (fun _ _ W=>Rb W x b s j L B∧K W):=by
 intro i a A c r hC hd hi
 have hx:=fun W=>idx_any s i c (drop_get hd) W
 rw [runS_some]
 have c0:=hC.1.rd.c0
 have f0:=hC.1.rd.f 0
 have b0:=hC.1.box.cell
 have g0:=hC.1.box.frozen
 have HC:=hid (after_same (C:=fun (_:Nat) (_:Unit) W=>Rb W x b s j L B∧K W) (W:=A) (i:=i) (a:=a) (o:=runS (fun c=>c != 10) a (c::r)) (fun (_:Nat) (_:Unit)=>hC))
 have hz:(c != 10)=((c.toNat:Int) != 10):=congrArg Bool.not (u8_eq c 10).symm
 rw [hz]
 clear hC hd hz
 go_enter Tryz.func93,Tryz.ntmps93
 go_wp2
 go_ret
 exact ⟨rfl,HC.out⟩
theorem asks_name (s:ByteArray) (x b:Nat) (j L B:Int) (K:World→Prop) :
 Asks 131 #[.pointer (some ⟨x,0,none⟩)] s (runS nm) (fun _ _ W=>Rb W x b s j L B∧K W):=by
 intro i a A c r hC hd hi
 have hx:=fun W=>idx_any s i c (drop_get hd) W
 rw [runS_some]
 have h1:=fun W=>nm_any c W
 have c0:=hC.1.rd.c0
 have f0:=hC.1.rd.f 0
 have b0:=hC.1.box.cell
 have g0:=hC.1.box.frozen
 have HC:=hid (after_same (C:=fun (_:Nat) (_:Unit) W=>Rb W x b s j L B∧K W) (W:=A) (i:=i) (a:=a) (o:=runS nm a (c::r)) (fun (_:Nat) (_:Unit)=>hC))
 clear hC hd
 go_enter Tryz.func131,Tryz.ntmps131
 go_wp2_with (go_at_call 132;(with_reducible refine (h1 _).mono ?_);rintro e w' ⟨rfl,rfl⟩)
 go_ret
 exact ⟨rfl,HC.out⟩
theorem asks_none (s:ByteArray) (K:World→Prop):Asks 136 #[] s (fun (_:Unit) _=>(none:Option Unit)) (fun _ _ W=>K W):=by
 intro i a A c r hC hd hi
 have HC:=hid (after_same (C:=fun (_:Nat) (_:Unit) W=>K W) (i:=i) (a:=a) (o:=none) (W:=A) (fun (_:Nat) (_:Unit)=>hC))
 clear hC hd
 go_enter Tryz.func136,Tryz.ntmps136
 go_wp2
 go_ret
 exact ⟨rfl,HC.out⟩
theorem asks_num (s:ByteArray) (x p b:Nat) (j L B:Int) (K:World→Prop) (hs:s.size≤900000) (hK:∀ W v,K W→Boxed W p 4 v→∀ u,K (W.setCell ⟨p,0,none⟩ u)) :
 Asks 163 #[.pointer (some ⟨p,0,none⟩),.pointer (some ⟨x,0,none⟩)] s numS (fun _ (pt:Bool) W=>(Rb W x b s j L B∧Boxed W p 4 (.bool pt))∧K W):=by
 intro i a A c r hC hd hi
 have hx:=fun W=>idx_any s i c (drop_get hd) W
 have h1:=fun W=>dgc_any c W
 have hr:s.data.toList.drop (i+1)=r:=by rw [←List.drop_drop,hd];rfl
 have h2:=isAt_dgc A b s j L B hC.1.1.rd (i+1) (by omega)
 rw [hr,show ((i+1:Nat):Int)=(i:Int)+1 from by omega] at h2
 have hz:(c==46)=((c.toNat:Int)==46):=(u8_eq c 46).symm
 have c0:=hC.1.1.rd.c0
 have f0:=hC.1.1.rd.f 0
 have b0:=hC.1.1.box.cell
 have g0:=hC.1.1.box.frozen
 have p0:=hC.1.2.cell
 have q0:=hC.1.2.frozen
 have HC:=hid hC
 have HK:=hid hK
 have hi9:i≤900000:=by omega
 clear hC hd hr hK
 rw [show numS a (c::r)=if !a&&c==46&&hd dgc r then some true else if dgc c then some a else none from rfl,hz]
 obtain ⟨d,hdg⟩:∃ d,d=dgc c:=⟨_,rfl⟩
 obtain ⟨n,hn⟩:∃ n,n=hd dgc r:=⟨_,rfl⟩
 rw [←hdg,←hn]
 rw [←hdg] at h1
 rw [←hn] at h2
 clear hdg hn hz
 obtain ⟨v,hv⟩:∃ v,v=(c.toNat:Int):=⟨_,rfl⟩
 rw [←hv] at hx h1 ⊢
 clear hv
 by_cases hc:v=46
 ·subst hc
  rw [show ((46:Int)==46)=true from rfl]
  cases a<;>cases n<;>cases d
  all_goals
   go_enter Tryz.func163,Tryz.ntmps163
   go_wp2_with (first
    | (go_at_call 127;(with_reducible refine (h1 _).mono ?_);rintro e w' ⟨rfl,rfl⟩)
    | (go_at_call 128;(with_reducible refine h2.mono ?_);rintro e w' ⟨rfl,rfl⟩))
   go_ret
   first
    | exact ⟨rfl,HC.out⟩
    | exact ⟨rfl,⟨HC.out.1.1.poke HC.out.1.2 _,HC.out.1.2.set _⟩,HK.out _ _ HC.out.2 HC.out.1.2 _⟩
 ·have hb:(v==46)=false:=by simpa using hc
  rw [hb]
  cases a<;>cases d
  all_goals
   go_enter Tryz.func163,Tryz.ntmps163
   go_wp2_with (first
    | (go_at_call 127;(with_reducible refine (h1 _).mono ?_);rintro e w' ⟨rfl,rfl⟩)
    | (go_at_call 128;(with_reducible refine h2.mono ?_);rintro e w' ⟨rfl,rfl⟩))
   go_ret
   first
    | exact ⟨rfl,HC.out⟩
    | exact ⟨rfl,⟨HC.out.1.1.poke HC.out.1.2 _,HC.out.1.2.set _⟩,HK.out _ _ HC.out.2 HC.out.1.2 _⟩
theorem asks_str (s:ByteArray) (x p q b:Nat) (j L B:Int) (K:World→Prop) (hs:s.size≤900000) (hpq:p≠q) (hK:∀ W r v,K W→(r=p∨r=q)→Boxed W r 4 v→∀ u,K (W.setCell ⟨r,0,none⟩ u)) :
 Asks 164 #[.pointer (some ⟨p,0,none⟩),.pointer (some ⟨x,0,none⟩),.pointer (some ⟨q,0,none⟩)] s strS (fun _ (a:Bool × Bool) W=>(Rb W x b s j L B∧Boxed W p 4 (.bool a.1)∧Boxed W q 4 (.bool a.2))∧K W):=by
 rintro i ⟨en,es⟩ A c r hC hd hi
 have hx:=fun W=>idx_any s i c (drop_get hd) W
 have z1:(c==34)=((c.toNat:Int)==34):=(u8_eq c 34).symm
 have z2:(c==92)=((c.toNat:Int)==92):=(u8_eq c 92).symm
 have c0:=hC.1.1.rd.c0
 have f0:=hC.1.1.rd.f 0
 have b0:=hC.1.1.box.cell
 have g0:=hC.1.1.box.frozen
 have p0:=hC.1.2.1.cell
 have q0:=hC.1.2.1.frozen
 have p1:=hC.1.2.2.cell
 have q1:=hC.1.2.2.frozen
 have HC:=hid hC
 have HK:=hid hK
 have HP:=hid hpq
 have n1:p≠x:=by
  rintro rfl
  have:=hC.1.2.1.symm.trans hC.1.1.box
  simp at this
 have n2:p≠b:=by
  rintro rfl
  have:=hC.1.2.1.symm.trans hC.1.1.rd
  simp at this
 clear hC hd hK
 rw [show strS (en,es) (c::r)=if en then none else some (c==34&&!es,c==92&&!es) from rfl,z1,z2]
 obtain ⟨v,hv⟩:∃ v,v=(c.toNat:Int):=⟨_,rfl⟩
 rw [←hv] at hx ⊢
 clear hv z1 z2
 by_cases h1:v=34
 ·subst h1
  rw [show ((34:Int)==34)=true from rfl,show ((34:Int)==92)=false from rfl]
  cases en<;>cases es
  all_goals
   go_enter Tryz.func164,Tryz.ntmps164
   go_wp2
   go_ret
   first
    | exact ⟨rfl,HC.out⟩
    | exact ⟨rfl,⟨(HC.out.1.1.poke HC.out.1.2.1 _).poke (HC.out.1.2.2.other (Ne.symm HP.out) _) _,(HC.out.1.2.1.set _).other HP.out _,(HC.out.1.2.2.other (Ne.symm HP.out) _).set _⟩,HK.out _ _ _ (HK.out _ _ _ HC.out.2 (Or.inl rfl) HC.out.1.2.1 _) (Or.inr rfl) (HC.out.1.2.2.other (Ne.symm HP.out) _) _⟩
 ·have k1:(v==34)=false:=by simpa using h1
  by_cases h2:v=92
  ·subst h2
   rw [show ((92:Int)==34)=false from rfl,show ((92:Int)==92)=true from rfl]
   cases en<;>cases es
   all_goals
    go_enter Tryz.func164,Tryz.ntmps164
    go_wp2
    go_ret
    first
     | exact ⟨rfl,HC.out⟩
     | exact ⟨rfl,⟨(HC.out.1.1.poke HC.out.1.2.1 _).poke (HC.out.1.2.2.other (Ne.symm HP.out) _) _,(HC.out.1.2.1.set _).other HP.out _,(HC.out.1.2.2.other (Ne.symm HP.out) _).set _⟩,HK.out _ _ _ (HK.out _ _ _ HC.out.2 (Or.inl rfl) HC.out.1.2.1 _) (Or.inr rfl) (HC.out.1.2.2.other (Ne.symm HP.out) _) _⟩
  ·have k2:(v==92)=false:=by simpa using h2
   rw [k1,k2]
   cases en<;>cases es
   all_goals
    go_enter Tryz.func164,Tryz.ntmps164
    go_wp2
    go_ret
    first
     | exact ⟨rfl,HC.out⟩
     | exact ⟨rfl,⟨(HC.out.1.1.poke HC.out.1.2.1 _).poke (HC.out.1.2.2.other (Ne.symm HP.out) _) _,(HC.out.1.2.1.set _).other HP.out _,(HC.out.1.2.2.other (Ne.symm HP.out) _).set _⟩,HK.out _ _ _ (HK.out _ _ _ HC.out.2 (Or.inl rfl) HC.out.1.2.1 _) (Or.inr rfl) (HC.out.1.2.2.other (Ne.symm HP.out) _) _⟩
theorem asks_sign (s:ByteArray) (x f b j:Nat) (L B:Int) (K:World→Prop) (hs:s.size≤900000) (hj:j<s.size) :
 Asks 135 #[.pointer (some ⟨f,0,none⟩),.pointer (some ⟨x,0,none⟩)] s (sgnS (pair (s.data.toList.drop j))) (fun i (a:Bool) W=>(Rb W x b s (j:Int) L B∧Boxed W f 3 (.int .i64 (j:Int))∧a=decide (i=j+1))∧K W):=by
 rintro i a A c r ⟨⟨hR,hF,rfl⟩,hK⟩ hd hi
 have h1:=pair_any A b s (j:Int) L B hR.rd j (by omega)
 obtain ⟨two,h2⟩:∃ two,two=pair (s.data.toList.drop j):=⟨_,rfl⟩
 rw [←h2] at h1 ⊢
 clear h2
 have b0:=hR.box.cell
 have g0:=hR.box.frozen
 have p0:=hF.cell
 have q0:=hF.frozen
 have HR:=hid hR
 have HF:=hid hF
 have HK:=hid hK
 have hi9:i≤900000:=by omega
 have hj9:j≤900000:=by omega
 clear hR hF hK hd
 by_cases hij:i=j+1
 ·subst hij
  rw [decide_eq_true rfl]
  cases two
  all_goals
   go_enter Tryz.func135,Tryz.ntmps135
   go_wp2_with (go_at_call 130;(with_reducible refine h1.mono ?_);rintro e w' ⟨rfl,rfl⟩)
   go_ret
   first
    | exact ⟨rfl,⟨HR.out,HF.out,(decide_eq_true rfl).symm⟩,HK.out⟩
    | exact ⟨rfl,⟨HR.out,HF.out,(decide_eq_false (by omega)).symm⟩,HK.out⟩
 ·rw [decide_eq_false hij]
  cases two
  all_goals
   go_enter Tryz.func135,Tryz.ntmps135
   go_wp2_with (go_at_call 130;(with_reducible refine h1.mono ?_);rintro e w' ⟨rfl,rfl⟩)
   go_ret
   exact ⟨rfl,⟨HR.out,HF.out,(decide_eq_false hij).symm⟩,HK.out⟩
def Goes (w W:World) (b:Nat) (s:ByteArray) (j:Nat) (L B:Int) (k:Nat) (v:Value):Prop:=
 ∃ (σ:Type) (step:σ→List UInt8→Option σ) (a:σ) (C:Nat→σ→World→Prop) (cf:Nat) (cb:Array Value),
   v=.func (.func cf) #[] cb∧(∀ args W,(callFunc cf args).run Tryz.prog W=.ok (.enter cf args) W)∧Asks cf cb s step C∧(∀ i a A,C i a A→Rdr A b s (j:Int) L B)∧
   C (j+1) a W∧(∀ i a A,C i a A→Old w A)∧goL step a (s.data.toList.drop (j+1))=endL k (s.data.toList.drop j)
theorem goes_reach {w W:World} {b:Nat} {s:ByteArray} {j:Nat} {L B:Int} {k:Nat} {v:Value} (h:Goes w W b s j L B k v) (hs:s.size≤900000) (hj:j<s.size) :
 Calls Tryz.prog 92 #[.pointer (some ⟨b,0,none⟩),v] W fun e w'=>e=.returned (.int .i64 ((j+1+endL k (s.data.toList.drop j):Nat):Int))∧Old w w':=by
 obtain ⟨σ,step,a,C,cf,cb,rfl,hen,hask,hR,h0,hO,he⟩:=h
 rw [←he]
 refine (reach_any cf cb s step C b j L B a hen (by omega) hj hR hask W h0).mono ?_
 rintro e w' ⟨rfl,i,a',hC⟩
 exact ⟨rfl,hO _ _ _ hC⟩
theorem Rb.new {w:World} {b:Nat} {s:ByteArray} {j L B:Int} (h:Rdr w b s j L B):Rb (w.alloc (.cells #[.pointer (some ⟨b,0,none⟩)] 125)) w.heap.size b s j L B:=
 ⟨Boxed.new w 125 _,h.old ((Old.refl w).alloc _)⟩
theorem Rb.old {w w':World} {x b:Nat} {s:ByteArray} {j L B:Int} (h:Rb w x b s j L B) (ho:Old w w'):Rb w' x b s j L B:=⟨(ho.block x (blk_lt h.box)).trans h.box,h.rd.old ho⟩
theorem Boxed.old {w w':World} {x:Nat} {t:TypeId} {v:Value} (h:Boxed w x t v) (ho:Old w w'):Boxed w' x t v:=(ho.block x (blk_lt h)).trans h
theorem drop_tail {l:List UInt8} {j:Nat} (h:j<l.length):(l.drop j).tail=l.drop (j+1):=by
 rw [List.drop_eq_getElem_cons h];rfl
theorem old_poke {W0 W:World} {p:Nat} (h:Old W0 W) (hp:W0.heap.size≤p) (u:Value):Old W0 (W.setCell ⟨p,0,none⟩ u):=h.setCell hp u
theorem num_goes (w W0:World) (b j:Nat) (s:ByteArray) (L B:Int) (hr:Rdr w b s (j:Int) L B) (ho:Old W0 w) (hs:s.size≤900000) (hj:j<s.size) :
 Calls Tryz.prog 133 #[.pointer (some ⟨b,0,none⟩)] w fun e w'=>∃ v,e=.returned v∧Goes W0 w' b s j L B 4 v:=by
 have HR:=hid hr
 have HO:=hid ho
 have hb:=Boxed.new (w.alloc (.cells #[.pointer (some ⟨b,0,none⟩)] 125)) 4 (.bool false)
 rw [sz_alloc] at hb
 have HB:=hid hb
 have HP:=hid ((Rb.new hr).old ((Old.refl _).alloc (.cells #[.bool false] 4)))
 have HW:=hid ((ho.alloc (.cells #[.pointer (some ⟨b,0,none⟩)] 125)).alloc (.cells #[.bool false] 4))
 clear hb
 have HZ:=hid ho.size
 clear hr ho
 go_enter Tryz.func133,Tryz.ntmps133
 go_wp2
 go_ret
 refine ⟨_,rfl,Bool,numS,false,_,163,_,rfl,enters_of Tryz.func163 (by kernel_rfl) rfl,asks_num s w.heap.size (w.heap.size+1) b (j:Int) L B (Old W0) hs ?_,?_,?_,?_,?_⟩
 ·intro W v hW hb u
  exact old_poke hW (by have:=HZ.out;omega) u
 ·intro i a A h
  exact h.1.1.rd
 ·exact ⟨⟨HP.out,HB.out⟩,HW.out⟩
 ·intro i a A h
  exact h.2
 ·rw [←drop_tail (by rw [Array.length_toList];exact hj)]
  rfl
theorem str_goes (w W0:World) (b j:Nat) (s:ByteArray) (L B:Int) (hr:Rdr w b s (j:Int) L B) (ho:Old W0 w) (hs:s.size≤900000) (hj:j<s.size) :
 Calls Tryz.prog 134 #[.pointer (some ⟨b,0,none⟩)] w fun e w'=>∃ v,e=.returned v∧Goes W0 w' b s j L B 5 v:=by
 have HZ:=hid ho.size
 obtain ⟨w1,hw1⟩:∃ w1,w1=w.alloc (.cells #[.pointer (some ⟨b,0,none⟩)] 125):=⟨_,rfl⟩
 have hz1:w1.heap.size=w.heap.size+1:=by rw [hw1,sz_alloc]
 have hp1:Rb w1 w.heap.size b s (j:Int) L B:=by rw [hw1];exact Rb.new hr
 have ho1:Old W0 w1:=by rw [hw1];exact ho.alloc _
 have hb1:=Boxed.new w1 4 (.bool false)
 have hb2:=Boxed.new (w1.alloc (.cells #[.bool false] 4)) 4 (.bool false)
 rw [hz1] at hb1
 rw [sz_alloc,hz1] at hb2
 replace hb1:=Boxed.old hb1 ((Old.refl _).alloc (.cells #[.bool false] 4))
 have hp2:=hp1.old (((Old.refl w1).alloc (.cells #[.bool false] 4)).alloc (.cells #[.bool false] 4))
 have ho2:=(ho1.alloc (.cells #[.bool false] 4)).alloc (.cells #[.bool false] 4)
 have hne:w.heap.size+1≠w.heap.size+1+1:=by omega
 have HP:=hid hp2
 have HB1:=hid hb1
 have HB2:=hid hb2
 have HW:=hid ho2
 subst hw1
 clear hr ho hz1 hp1 ho1 hb1 hb2 hp2 ho2
 go_enter Tryz.func134,Tryz.ntmps134
 go_wp2
 go_ret
 refine ⟨_,rfl,Bool × Bool,strS,(false,false),_,164,_,rfl,enters_of Tryz.func164 (by kernel_rfl) rfl,asks_str s w.heap.size (w.heap.size+1) (w.heap.size+1+1) b (j:Int) L B (Old W0) hs hne ?_,?_,?_,?_,?_⟩
 ·intro W r v hW hr hb u
  exact old_poke hW (by have:=HZ.out;rcases hr with rfl|rfl<;>omega) u
 ·intro i a A h
  exact h.1.1.rd
 ·exact ⟨⟨HP.out,HB1.out,HB2.out⟩,HW.out⟩
 ·intro i a A h
  exact h.2
 ·rw [←drop_tail (by rw [Array.length_toList];exact hj)]
  rfl
theorem go_none {σ:Type} (a:σ) (l:List UInt8):goL (fun (_:σ) _=>(none:Option σ)) a l=0:=by
 cases l<;>rfl
theorem goes_name (w w1:World) (b j x:Nat) (s:ByteArray) (L B:Int) (k:Nat) (hp:Rb w1 x b s (j:Int) L B) (ho:Old w w1) (hj:j<s.size) (hk:k=1∨k=2∨k=6) :
 Goes w w1 b s j L B k (.func (.func 131) #[] #[.pointer (some ⟨x,0,none⟩)]):=
 ⟨Unit,runS nm,(),_,131,_,rfl,enters_of Tryz.func131 (by kernel_rfl) rfl,asks_name s x b (j:Int) L B (Old w),fun i a A h=>h.1.rd,⟨hp,ho⟩,fun i a A h=>h.2,by
   rw [←drop_tail (by rw [Array.length_toList];exact hj)]
   unfold endL
   rw [if_pos hk]⟩
theorem goes_sign (w w1:World) (b j x f:Nat) (s:ByteArray) (L B:Int) (hp:Rb w1 x b s (j:Int) L B) (hf:Boxed w1 f 3 (.int .i64 (j:Int))) (ho:Old w w1) (hs:s.size≤900000) (hj:j<s.size) :
 Goes w w1 b s j L B 7 (.func (.func 135) #[] #[.pointer (some ⟨f,0,none⟩),.pointer (some ⟨x,0,none⟩)]):=
 ⟨Bool,_,true,_,135,_,rfl,enters_of Tryz.func135 (by kernel_rfl) rfl,asks_sign s x f b j L B (Old w) hs hj,fun i a A h=>h.1.1.rd,⟨⟨hp,hf,(decide_eq_true rfl).symm⟩,ho⟩,fun i a A h=>h.2,by
   rw [←drop_tail (by rw [Array.length_toList];exact hj)]
   rfl⟩
theorem goes_none (w w1:World) (b j:Nat) (s:ByteArray) (L B:Int) (k:Nat) (hp:Rdr w b s (j:Int) L B) (ho:Old w w1) (hk:k=0∨k=3) :
 Goes w w1 b s j L B k (.func (.func 136) #[] #[]):=
 ⟨Unit,_,(),_,136,_,rfl,enters_of Tryz.func136 (by kernel_rfl) rfl,asks_none s (Old w),fun i a A h=>hp.old h,ho,fun i a A h=>h,by
   rw [go_none]
   unfold endL
   rcases hk with rfl|rfl<;>rfl⟩
theorem goesOn_any (w:World) (b j:Nat) (s:ByteArray) (L B:Int) (hr:Rdr w b s (j:Int) L B) (hs:s.size≤900000) (hj:j<s.size) (k:Nat) (hk:k≤7) :
 Calls Tryz.prog 95 #[.pointer (some ⟨b,0,none⟩),.int .u8 (k:Int)] w fun e w'=>∃ v,e=.returned v∧Goes w w' b s j L B k v:=by
 have c1:=hr.c1
 have f1:=hr.f 1
 have HR:=hid hr
 have HP:=hid (Rb.new hr)
 have HO:=hid ((Old.refl w).alloc (.cells #[.pointer (some ⟨b,0,none⟩)] 125))
 clear hr
 have hk8:k=0∨k=1∨k=2∨k=3∨k=4∨k=5∨k=6∨k=7:=by omega
 rcases hk8 with rfl|rfl|rfl|rfl|rfl|rfl|rfl|rfl
 ·go_enter Tryz.func95,Tryz.ntmps95
  go_wp2
  go_ret
  exact ⟨_,rfl,goes_none _ _ _ _ _ _ _ _ HR.out HO.out (Or.inl rfl)⟩
 ·go_enter Tryz.func95,Tryz.ntmps95
  go_wp2
  go_ret
  exact ⟨_,rfl,goes_name _ _ _ _ _ _ _ _ _ HP.out HO.out hj (by omega)⟩
 ·go_enter Tryz.func95,Tryz.ntmps95
  go_wp2
  go_ret
  exact ⟨_,rfl,goes_name _ _ _ _ _ _ _ _ _ HP.out HO.out hj (by omega)⟩
 ·go_enter Tryz.func95,Tryz.ntmps95
  go_wp2
  go_ret
  exact ⟨_,rfl,goes_none _ _ _ _ _ _ _ _ HR.out HO.out (Or.inr rfl)⟩
 ·have h1:=num_goes _ w b j s L B HP.out.rd HO.out hs hj
  go_enter Tryz.func95,Tryz.ntmps95
  go_wp2_with (go_at_call 133;(with_reducible refine h1.mono ?_);rintro e w1 ⟨v,rfl,hv⟩;have HV:=hid hv;clear hv)
  go_ret
  exact ⟨_,rfl,HV.out⟩
 ·have h1:=str_goes _ w b j s L B HP.out.rd HO.out hs hj
  go_enter Tryz.func95,Tryz.ntmps95
  go_wp2_with (go_at_call 134;(with_reducible refine h1.mono ?_);rintro e w1 ⟨v,rfl,hv⟩;have HV:=hid hv;clear hv)
  go_ret
  exact ⟨_,rfl,HV.out⟩
 ·go_enter Tryz.func95,Tryz.ntmps95
  go_wp2
  go_ret
  exact ⟨_,rfl,goes_name _ _ _ _ _ _ _ _ _ HP.out HO.out hj (by omega)⟩
 ·have hf:=Boxed.new (w.alloc (.cells #[.pointer (some ⟨b,0,none⟩)] 125)) 3 (.int .i64 (j:Int))
  rw [sz_alloc] at hf
  have HF:=hid hf
  have HP2:=hid (HP.out.old ((Old.refl _).alloc (.cells #[.int .i64 (j:Int)] 3)))
  have HO2:=hid (HO.out.alloc (.cells #[.int .i64 (j:Int)] 3))
  have d1:=HP.out.rd.c1
  have e1:=HP.out.rd.f 1
  clear hf c1 f1
  go_enter Tryz.func95,Tryz.ntmps95
  go_wp2
  go_ret
  exact ⟨_,rfl,goes_sign _ _ _ _ _ _ _ _ _ HP2.out HF.out HO2.out hs hj⟩
theorem idx_sgn (c:UInt8):decide (Lib.indexByte [40,41,91,93,44,58,61,60,62,43,45,42,47] c≥0)=sgn c:=by
 have h:∀ (l:List UInt8),decide (Lib.indexByte l c≥0)=l.contains c:=by
  intro l
  induction l with
  | nil=>rfl
  | cons b l ih=>
    rw [Lib.indexByte,List.contains_cons]
    by_cases hb:b=c
    ·subst hb;simp
    ·have hbc:(b==c)=false:=beq_false_of_ne hb
     have hcb:(c==b)=false:=beq_false_of_ne (Ne.symm hb)
     rw [hbc,hcb,Bool.false_or,←ih]
     have:=Lib.indexByte_ge l c
     by_cases h1:Lib.indexByte l c=-1
     ·simp [h1]
     ·have h2:(Lib.indexByte l c==-1)=false:=beq_false_of_ne h1
      simp only [h2,Bool.false_eq_true,↓reduceIte]
      apply decide_eq_decide.2
      omega
 exact h _
theorem sgn_call (c:UInt8) (w:World):Calls Tryz.prog 129 #[.string ⟨#[40,41,91,93,44,58,61,60,62,43,45,42,47]⟩,.int .u8 (c.toNat:Int)] w fun e w'=>e=.returned (.int .i64 (Lib.indexByte [40,41,91,93,44,58,61,60,62,43,45,42,47] c))∧w'=w:=by
 have:=Tryz.strings_IndexByte ⟨#[40,41,91,93,44,58,61,60,62,43,45,42,47]⟩ (c.toNat:Int) w
 rw [show ((c.toNat:Int).toNat.toUInt8)=c from by simp] at this
 exact this
theorem kind_any (w:World) (b j:Nat) (s:ByteArray) (L B:Int) (hr:Rdr w b s (j:Int) L B) (hs:s.size≤900000) (hj:j<s.size) :
 Calls Tryz.prog 94 #[.pointer (some ⟨b,0,none⟩)] w fun e w'=>e=.returned (.int .u8 (kindL (s.data.toList.drop j):Int))∧Old w w':=by
 have h2:=fun n=>isAt_sm (w.drewN n) b s (j:Int) L B hr (j+1) (by omega)
 have h3:=fun n=>pair_any (w.drewN n) b s (j:Int) L B hr j (by omega)
 simp only [show ((j+1:Nat):Int)=(j:Int)+1 from by omega] at h2
 have hl:j<s.data.toList.length:=by rw [Array.length_toList];exact hj
 obtain ⟨c,hc⟩:∃ c,c=s.data.toList[j]:=⟨_,rfl⟩
 have hx:=fun W=>idx_any s j c (by rw [hc];exact List.getElem?_eq_getElem hl) W
 have h1:=fun W=>sm_any c W
 have h4:=fun W=>dgc_any c W
 have h5:=fun W=>sgn_call c W
 have hi:=idx_sgn c
 have e:s.data.toList.drop j=c::s.data.toList.drop (j+1):=by rw [hc];exact List.drop_eq_getElem_cons hl
 have c0:=hr.c0
 have f0:=hr.f 0
 have c1:=hr.c1
 have f1:=hr.f 1
 simp only [e] at h3
 rw [e]
 have z1:(c=34)=((c.toNat:Int)=34):=by simpa using congrArg (fun b=>b=true) (u8_eq c 34).symm
 have z2:(c=35)=((c.toNat:Int)=35):=by simpa using congrArg (fun b=>b=true) (u8_eq c 35).symm
 have z3:(c=63)=((c.toNat:Int)=63):=by simpa using congrArg (fun b=>b=true) (u8_eq c 63).symm
 have hk:kindL (c::s.data.toList.drop (j+1))=if sm c then 1 else if dgc c then 4 else if c=34 then 5 else if c=35 then 6
  else if c=63 then (if hd sm (s.data.toList.drop (j+1)) then 2 else 3) else if sgn c||pair (c::s.data.toList.drop (j+1)) then 7 else 0:=rfl
 simp only [z1,z2,z3] at hk
 rw [hk]
 clear hk z1 z2 z3 hr e hc hl
 obtain ⟨ix,hix⟩:∃ ix,ix=Lib.indexByte [40,41,91,93,44,58,61,60,62,43,45,42,47] c:=⟨_,rfl⟩
 rw [←hix] at h5 hi
 obtain ⟨v,hv⟩:∃ v,v=(c.toNat:Int):=⟨_,rfl⟩
 rw [←hv] at hx h1 h4 h5 ⊢
 rw [←hi]
 obtain ⟨a1,ha1⟩:∃ a,a=sm c:=⟨_,rfl⟩
 obtain ⟨a2,ha2⟩:∃ a,a=dgc c:=⟨_,rfl⟩
 obtain ⟨a3,ha3⟩:∃ a,a=hd sm (s.data.toList.drop (j+1)):=⟨_,rfl⟩
 obtain ⟨a5,ha5⟩:∃ a,a=pair (c::s.data.toList.drop (j+1)):=⟨_,rfl⟩
 rw [←ha1] at h1 ⊢
 rw [←ha2] at h4 ⊢
 simp only [←ha3] at h2
 simp only [←ha5] at h3
 rw [←ha3,←ha5]
 clear ha1 ha2 ha3 ha5 hix hv hi
 cases a1
 case true=>
  go_enter Tryz.func94,Tryz.ntmps94
  go_wp2
  go_quiet (fail)
  go_wp2_with (first
   | (go_at_call 126;(with_reducible refine (h1 _).mono ?_);rintro e w' ⟨rfl,rfl⟩)
   | (go_at_call 127;(with_reducible refine (h4 _).mono ?_);rintro e w' ⟨rfl,rfl⟩)
   | (go_at_call 128;(with_reducible refine (h2 _).mono ?_);rintro e w' ⟨rfl,rfl⟩)
   | (go_at_call 129;(with_reducible refine (h5 _).mono ?_);rintro e w' ⟨rfl,rfl⟩)
   | (go_at_call 130;(with_reducible refine (h3 _).mono ?_);rintro e w' ⟨rfl,rfl⟩))
  go_ret
  exact ⟨rfl,(Old.refl w).drewN _⟩
 case false=>
  cases a2
  case true=>
   go_enter Tryz.func94,Tryz.ntmps94
   go_wp2
   go_quiet (fail)
   go_wp2_with (first
    | (go_at_call 126;(with_reducible refine (h1 _).mono ?_);rintro e w' ⟨rfl,rfl⟩)
    | (go_at_call 127;(with_reducible refine (h4 _).mono ?_);rintro e w' ⟨rfl,rfl⟩)
    | (go_at_call 128;(with_reducible refine (h2 _).mono ?_);rintro e w' ⟨rfl,rfl⟩)
    | (go_at_call 129;(with_reducible refine (h5 _).mono ?_);rintro e w' ⟨rfl,rfl⟩)
    | (go_at_call 130;(with_reducible refine (h3 _).mono ?_);rintro e w' ⟨rfl,rfl⟩))
   go_ret
   exact ⟨rfl,(Old.refl w).drewN _⟩
  case false=>
   by_cases v1:v=34
   ·subst v1
    go_enter Tryz.func94,Tryz.ntmps94
    go_wp2
    go_quiet (fail)
    go_wp2_with (first
     | (go_at_call 126;(with_reducible refine (h1 _).mono ?_);rintro e w' ⟨rfl,rfl⟩)
     | (go_at_call 127;(with_reducible refine (h4 _).mono ?_);rintro e w' ⟨rfl,rfl⟩)
     | (go_at_call 128;(with_reducible refine (h2 _).mono ?_);rintro e w' ⟨rfl,rfl⟩)
     | (go_at_call 129;(with_reducible refine (h5 _).mono ?_);rintro e w' ⟨rfl,rfl⟩)
     | (go_at_call 130;(with_reducible refine (h3 _).mono ?_);rintro e w' ⟨rfl,rfl⟩))
    go_ret
    exact ⟨rfl,(Old.refl w).drewN _⟩
   by_cases v2:v=35
   ·subst v2
    go_enter Tryz.func94,Tryz.ntmps94
    go_wp2
    go_quiet (fail)
    go_wp2_with (first
     | (go_at_call 126;(with_reducible refine (h1 _).mono ?_);rintro e w' ⟨rfl,rfl⟩)
     | (go_at_call 127;(with_reducible refine (h4 _).mono ?_);rintro e w' ⟨rfl,rfl⟩)
     | (go_at_call 128;(with_reducible refine (h2 _).mono ?_);rintro e w' ⟨rfl,rfl⟩)
     | (go_at_call 129;(with_reducible refine (h5 _).mono ?_);rintro e w' ⟨rfl,rfl⟩)
     | (go_at_call 130;(with_reducible refine (h3 _).mono ?_);rintro e w' ⟨rfl,rfl⟩))
    go_ret
    exact ⟨rfl,(Old.refl w).drewN _⟩
   by_cases v3:v=63
   ·subst v3
    cases a3
    all_goals
     go_enter Tryz.func94,Tryz.ntmps94
     go_wp2
     go_quiet (fail)
     go_wp2_with (first
      | (go_at_call 126;(with_reducible refine (h1 _).mono ?_);rintro e w' ⟨rfl,rfl⟩)
      | (go_at_call 127;(with_reducible refine (h4 _).mono ?_);rintro e w' ⟨rfl,rfl⟩)
      | (go_at_call 128;(with_reducible refine (h2 _).mono ?_);rintro e w' ⟨rfl,rfl⟩)
      | (go_at_call 129;(with_reducible refine (h5 _).mono ?_);rintro e w' ⟨rfl,rfl⟩)
      | (go_at_call 130;(with_reducible refine (h3 _).mono ?_);rintro e w' ⟨rfl,rfl⟩))
     go_ret
     exact ⟨rfl,(Old.refl w).drewN _⟩
   rw [if_neg v1,if_neg v2,if_neg v3]
   by_cases v4:ix≥0
   ·rw [decide_eq_true v4]
    go_enter Tryz.func94,Tryz.ntmps94
    go_wp2
    go_quiet (fail)
    go_wp2_with (first
     | (go_at_call 126;(with_reducible refine (h1 _).mono ?_);rintro e w' ⟨rfl,rfl⟩)
     | (go_at_call 127;(with_reducible refine (h4 _).mono ?_);rintro e w' ⟨rfl,rfl⟩)
     | (go_at_call 128;(with_reducible refine (h2 _).mono ?_);rintro e w' ⟨rfl,rfl⟩)
     | (go_at_call 129;(with_reducible refine (h5 _).mono ?_);rintro e w' ⟨rfl,rfl⟩)
     | (go_at_call 130;(with_reducible refine (h3 _).mono ?_);rintro e w' ⟨rfl,rfl⟩))
    go_ret
    exact ⟨rfl,(Old.refl w).drewN _⟩
   ·rw [decide_eq_false v4]
    cases a5
    all_goals
     go_enter Tryz.func94,Tryz.ntmps94
     go_wp2
     go_quiet (fail)
     go_wp2_with (first
      | (go_at_call 126;(with_reducible refine (h1 _).mono ?_);rintro e w' ⟨rfl,rfl⟩)
      | (go_at_call 127;(with_reducible refine (h4 _).mono ?_);rintro e w' ⟨rfl,rfl⟩)
      | (go_at_call 128;(with_reducible refine (h2 _).mono ?_);rintro e w' ⟨rfl,rfl⟩)
      | (go_at_call 129;(with_reducible refine (h5 _).mono ?_);rintro e w' ⟨rfl,rfl⟩)
      | (go_at_call 130;(with_reducible refine (h3 _).mono ?_);rintro e w' ⟨rfl,rfl⟩))
     go_ret
     exact ⟨rfl,(Old.refl w).drewN _⟩
end Go.Proofs.YtkellpcljiodeaaGreatDoor
