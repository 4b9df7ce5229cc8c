/- Layer lexer: what stands between words is passed over. a word in memory: seven cells; copies of texts. is a text a name. -/
import Derived.StillTailTactics
import Derived.Test.YtkellpcljiodeaaGreatDoorTF
set_option maxHeartbeats 1600000
namespace Go.Proofs.YtkellpcljiodeaaGreatDoor
open Go.ChangeShapes Go.WideShapes Go.ChangeAt Go.RowKit Go.Lib
set_option linter.unusedVariables false
set_option linter.unusedSimpArgs false
set_option maxRecDepth 100000
structure Chx (S:Nat→Prop) (w w':World):Prop where
 os:w'.os=w.os
 output:w'.output=w.output
 size:w.heap.size≤w'.heap.size
 block:∀ k,k<w.heap.size→¬ S k→w'.heap[k]?=w.heap[k]?
theorem Chx.ofOld {S:Nat→Prop} {w w':World} (h:Old w w'):Chx S w w':=⟨h.os,h.output,h.size,fun k hk _=>h.block k hk⟩
theorem Chx.trans {S:Nat→Prop} {a b c:World} (h:Chx S a b) (k:Chx S b c):Chx S a c:=
 ⟨k.os.trans h.os,k.output.trans h.output,Nat.le_trans h.size k.size,fun i hi hs=>(k.block i (Nat.lt_of_lt_of_le hi h.size) hs).trans (h.block i hi hs)⟩
theorem Chx.old {S:Nat→Prop} {a w w':World} (h:Chx S w w') (ho:Old a w) (hs:∀ k,S k→a.heap.size≤k):Old a w':=
 ⟨h.os.trans ho.os,h.output.trans ho.output,Nat.le_trans ho.size h.size,fun k hk=>(h.block k (Nat.lt_of_lt_of_le hk ho.size) (fun e=>by have:=hs k e;omega)).trans (ho.block k hk)⟩
theorem Chx.ofSet (w:World) (p:Addr) (u:Value):Chx (·= p.block) w (w.setCell p u):=
 ⟨rfl,rfl,by rw [World.setCell];simp,fun k hk hs=>by
   show (w.heap.modify p.block _)[k]?=_
   rw [Array.getElem?_modify,if_neg (fun e=>hs e.symm)]⟩
theorem Boxed.chg {S:Nat→Prop} {w w':World} {x:Nat} {t:TypeId} {v:Value} (h:Boxed w x t v) (hc:Chx S w w') (hs:¬ S x):Boxed w' x t v:=(hc.block x (blk_lt h) hs).trans h
theorem Rb.ne {W:World} {x b:Nat} {s:ByteArray} {j L B:Int} (h:Rb W x b s j L B):x≠b:=by
 rintro rfl
 have:=h.box.symm.trans h.rd
 simp at this
theorem Rdr.drewN {w:World} {b:Nat} {s:ByteArray} {j L B:Int} (h:Rdr w b s j L B) (n:Nat):Rdr (w.drewN n) b s j L B:=h
theorem box_far {W:World} {x b o:Nat} {t:TypeId} {v:Value} (h:Boxed W x t v) (hne:x≠b) (u:Value):(W.setCell ⟨b,o,none⟩ u).cell? ⟨x,0,none⟩=some v:=
 (World.cell?_of_block (w:=W) (by
   show (W.heap.modify b _)[x]?=_
   rw [Array.getElem?_modify,if_neg (Ne.symm hne)])).trans h.cell
theorem skip_line:∀ (l:List UInt8) (L C:Nat),skipL true l L C=skipL false (l.drop (goL (runS (fun c=>c != 10)) () l)) L (C+goL (runS (fun c=>c != 10)) () l)
 | [],L,C=>rfl
 | c::r,L,C=>by
   by_cases h:c=10
   ·subst h
    rw [goL_stop (by rfl)]
    rfl
   ·have hs:runS (fun c=>c != 10) () (c::r)=some ():=by
     rw [show runS (fun c=>c != 10) () (c::r)=if c != 10 then some () else none from rfl,if_pos (by simpa using h)]
    rw [goL_go hs,skipL,if_neg h,skip_line r L (C+1),List.drop_succ_cons]
    congr 1
    omega
theorem skip_sp (r:List UInt8) (L C:Nat):skipL false (32::r) L C=skipL false r L (C+1):=rfl
theorem skip_nl (r:List UInt8) (L C:Nat):skipL false (10::r) L C=skipL false r (L+1) 1:=rfl
theorem skip_sc (r:List UInt8) (L C:Nat):skipL false (59::r) L C=skipL true r L (C+1):=rfl
theorem skip_no (c:UInt8) (r:List UInt8) (L C:Nat) (h1:c≠32) (h2:c≠10) (h3:c≠59):skipL false (c::r) L C=(c::r,L,C):=by
 rw [skipL,if_neg h1,if_neg h2,if_neg h3]
structure Sk (w W:World) (x b:Nat) (s:ByteArray) (i0 L0 C0 i L B:Nat):Prop where
 rb:Rb W x b s (i:Int) (L:Int) (B:Int)
 chg:Chx (·= b) w W
 ib:B≤i
 il:i≤s.size
 ge:i0≤i
 lin:L+i0≤L0+i
 eq:skipL false (s.data.toList.drop i0) L0 C0=skipL false (s.data.toList.drop i) L (i+1-B)
theorem Sk.move {w W W':World} {x b:Nat} {s:ByteArray} {i0 L0 C0 i L B i' L' B':Nat} (h:Sk w W x b s i0 L0 C0 i L B) (hc:Chx (·= b) W W') (hr:Rdr W' b s (i':Int) (L':Int) (B':Int)) (h1:B'≤i') (h2:i'≤s.size) (h3:i<i') (h4:L'≤L+1)
 (he:skipL false (s.data.toList.drop i) L (i+1-B)=skipL false (s.data.toList.drop i') L' (i'+1-B')):Sk w W' x b s i0 L0 C0 i' L' B':=
 ⟨⟨Boxed.chg h.rb.box hc h.rb.ne,hr⟩,h.chg.trans hc,h1,h2,by have:=h.ge;omega,by have:=h.lin;omega,h.eq.trans he⟩
theorem Sk.drewN {w W:World} {x b:Nat} {s:ByteArray} {i0 L0 C0 i L B:Nat} (h:Sk w W x b s i0 L0 C0 i L B) (n:Nat):Sk w (W.drewN n) x b s i0 L0 C0 i L B:=
 ⟨⟨h.rb.box,h.rb.rd⟩,⟨h.chg.os,h.chg.output,h.chg.size,h.chg.block⟩,h.ib,h.il,h.ge,h.lin,h.eq⟩
theorem Sk.drew {w W:World} {x b:Nat} {s:ByteArray} {i0 L0 C0 i L B:Nat} (h:Sk w W x b s i0 L0 C0 i L B):Sk w W.drew x b s i0 L0 C0 i L B:=
 ⟨⟨h.rb.box,h.rb.rd⟩,⟨h.chg.os,h.chg.output,h.chg.size,h.chg.block⟩,h.ib,h.il,h.ge,h.lin,h.eq⟩
theorem Chx.drewN {S:Nat→Prop} {w w':World} (h:Chx S w w') (n:Nat):Chx S w (w'.drewN n):=⟨h.os,h.output,h.size,h.block⟩
theorem nat_succ (i:Nat):((i:Int)+1)=((i+1:Nat):Int):=by omega
theorem Sk.sp {w W:World} {x b:Nat} {s:ByteArray} {i0 L0 C0 i L B:Nat} (h:Sk w W x b s i0 L0 C0 i L B) (hd:s.data.toList.drop i=32::s.data.toList.drop (i+1)) (hi:i<s.size) :
 Sk w (W.setCell ⟨b,1,none⟩ (.int .i64 ((i:Int)+1))) x b s i0 L0 C0 (i+1) L B:=by
 have h5:=h.ib
 refine h.move (Chx.ofSet W ⟨b,1,none⟩ _) (by rw [nat_succ];exact h.rb.rd.set1 _) (by omega) (by omega) (by omega) (by omega) ?_
 rw [hd,skip_sp]
 congr 1
 omega
theorem Sk.nl {w W W2:World} {x b:Nat} {s:ByteArray} {i0 L0 C0 i L B:Nat} (h:Sk w W x b s i0 L0 C0 i L B) (hd:s.data.toList.drop i=10::s.data.toList.drop (i+1)) (hi:i<s.size)
 (hc:Chx (·= b) W W2) (hr:Rdr W2 b s ((i+1:Nat):Int) ((L+1:Nat):Int) (B:Int)) :
 Sk w (W2.setCell ⟨b,3,none⟩ (.int .i64 ((i:Int)+1))) x b s i0 L0 C0 (i+1) (L+1) (i+1):=by
 have h5:=h.ib
 refine h.move (hc.trans (Chx.ofSet _ ⟨b,3,none⟩ _)) ?_ (by omega) (by omega) (by omega) (by omega) ?_
 ·rw [nat_succ]
  exact hr.set3 _
 ·rw [hd,skip_nl]
  congr 1
  omega
theorem Sk.sc {w W W2:World} {x b:Nat} {s:ByteArray} {i0 L0 C0 i L B:Nat} (h:Sk w W x b s i0 L0 C0 i L B) (hd:s.data.toList.drop i=59::s.data.toList.drop (i+1)) (hi:i<s.size)
 (hc:Chx (·= b) W W2) (hr:Rdr W2 b s (i:Int) (L:Int) (B:Int)) (k:Nat) (hk:k=i+1+goL (runS (fun c=>c != 10)) () (s.data.toList.drop (i+1))) :
 Sk w (W2.setCell ⟨b,1,none⟩ (.int .i64 (k:Int))) x b s i0 L0 C0 k L B:=by
 have h5:=h.ib
 have h6:=goL_le (runS (fun c=>c != 10)) () (s.data.toList.drop (i+1))
 rw [List.length_drop,Array.length_toList] at h6
 have h7:s.data.size=s.size:=rfl
 refine h.move (hc.trans (Chx.ofSet _ ⟨b,1,none⟩ _)) (hr.set1 _) (by omega) (by omega) (by omega) (by omega) ?_
 rw [hd,skip_sc,skip_line,List.drop_drop,←hk]
 congr 1
 omega
theorem line_reach (W:World) (x b i:Nat) (s:ByteArray) (L B:Int) (h:Rb W x b s (i:Int) L B) (hs:s.size≤900000) (hi:i<s.size) :
 Calls Tryz.prog 92 #[.pointer (some ⟨b,0,none⟩),.func (.func 93) #[] #[.pointer (some ⟨x,0,none⟩)]] W fun e w'=>e=.returned (.int .i64 ((i+1+goL (runS (fun c=>c != 10)) () (s.data.toList.drop (i+1)):Nat):Int))∧Old W w':=by
 refine (reach_any 93 _ s (runS (fun c=>c != 10)) _ b i L B () (enters_of Tryz.func93 (by kernel_rfl) rfl) (by omega) hi ?_ (asks_line s x b (i:Int) L B (Old W)) W ⟨h,Old.refl W⟩).mono ?_
 ·intro i a A hC
  exact hC.1.rd
 ·rintro e w' ⟨rfl,i,a,hC⟩
  exact ⟨rfl,hC.2⟩
theorem Chx.drew {S:Nat→Prop} {w w':World} (h:Chx S w w'):Chx S w w'.drew:=⟨h.os,h.output,h.size,h.block⟩
theorem Rdr.drew {w:World} {b:Nat} {s:ByteArray} {j L B:Int} (h:Rdr w b s j L B):Rdr w.drew b s j L B:=h
def Skd (w w':World) (b:Nat) (s:ByteArray) (i0 L0 C0:Nat):Prop:=
 ∃ i L B:Nat,Rdr w' b s (i:Int) (L:Int) (B:Int)∧Chx (·= b) w w'∧B≤i∧i≤s.size∧i0≤i∧L+i0≤L0+i∧skipL false (s.data.toList.drop i0) L0 C0=(s.data.toList.drop i,L,i+1-B)
theorem Sk.done {w W:World} {x b:Nat} {s:ByteArray} {i0 L0 C0 i L B:Nat} (h:Sk w W x b s i0 L0 C0 i L B) (hd:skipL false (s.data.toList.drop i) L (i+1-B)=(s.data.toList.drop i,L,i+1-B)):Skd w W b s i0 L0 C0:=
 ⟨i,L,B,h.rb.rd,h.chg,h.ib,h.il,h.ge,h.lin,h.eq.trans hd⟩
def nextOf (W:World) (b:Nat):Nat:=match W.cell? ⟨b,1,none⟩ with|some (.int _ n)=>n.toNat|_=>0
theorem nextOf_eq {W:World} {b:Nat} {s:ByteArray} {i:Nat} {L B:Int} (h:Rdr W b s (i:Int) L B):nextOf W b=i:=by
 unfold nextOf
 rw [h.c1]
 rfl
theorem skip_any (w:World) (b i0 L0 B0:Nat) (s:ByteArray) (hr:Rdr w b s (i0:Int) (L0:Int) (B0:Int)) (hs:s.size≤900000) (hi:i0≤s.size) (hb:B0≤i0) (hL:L0≤900001) :
 Calls Tryz.prog 53 #[.pointer (some ⟨b,0,none⟩)] w fun e w'=>(∃ v,e=.returned v)∧Skd w w' b s i0 L0 (i0+1-B0):=by
 have HS:Hid (Sk w (w.alloc (.cells #[.pointer (some ⟨b,0,none⟩)] 125)) w.heap.size b s i0 L0 (i0+1-B0) i0 L0 B0):=hid ⟨Rb.new hr,Chx.ofOld ((Old.refl w).alloc _),hb,hi,Nat.le_refl _,by omega,rfl⟩
 clear hr
 go_enter Tryz.func53,Tryz.ntmps53
 go_wp2
 go_loopw [] (fun wr=>∃ i L B:Nat,Hid (Sk w wr w.heap.size b s i0 L0 (i0+1-B0) i L B)) (fun wr=>s.size-nextOf wr b)
 case atStart=>exact ⟨i0,L0,B0,HS⟩
 case round=>
  clear HS
  obtain ⟨i,L,B,HS⟩:=hrel
  have c0:=HS.out.rb.rd.c0
  have f0:=HS.out.rb.rd.f 0
  have c1:=HS.out.rb.rd.c1
  have f1:=HS.out.rb.rd.f 1
  have b0:=HS.out.rb.box.cell
  have g0:=HS.out.rb.box.frozen
  have hL9:L≤2000000:=by have:=HS.out.lin;have:=HS.out.il;omega
  have hib:=HS.out.ib
  rcases Nat.lt_or_ge i s.size with hi1|hi1
  ·have hl:i<s.data.toList.length:=by rw [Array.length_toList];exact hi1
   obtain ⟨c,hc⟩:∃ c,c=s.data.toList[i]:=⟨_,rfl⟩
   have hx:=fun W=>idx_any s i c (by rw [hc];exact List.getElem?_eq_getElem hl) W
   have HD:=hid (show s.data.toList.drop i=c::s.data.toList.drop (i+1) by rw [hc];exact List.drop_eq_getElem_cons hl)
   clear hc hl
   by_cases h1:c=32
   ·subst h1
    have c2:=HS.out.rb.rd.c2
    go_wp2
    go_quiet (fail)
    go_wp2
    go_quiet (fail)
    go_wp2
    refine ⟨⟨i+1,L,B,hid ((HS.out.drewN _).sp HD.out hi1)⟩,?_⟩
    rw [nextOf_eq ((HS.out.drewN _).sp HD.out hi1).rb.rd,nextOf_eq HS.out.rb.rd]
    omega
   by_cases h2:c=10
   ·subst h2
    have c2:=HS.out.rb.rd.c2
    have f2:=HS.out.rb.rd.f 2
    have f3:=HS.out.rb.rd.f 3
    go_wp2
    go_quiet (fail)
    go_wp2
    go_quiet (fail)
    go_wp2
    rename_i n1
    generalize hW5:World.setCell (World.setCell (World.drewN wr (n1+nq)) ⟨b,1,none⟩ (.int .i64 ((i:Int)+1))) ⟨b,2,none⟩ (.int .i64 ((L:Int)+1))=W5
    have hr5:Rdr W5 b s ((i+1:Nat):Int) ((L+1:Nat):Int) (B:Int):=by
     rw [←hW5,nat_succ,nat_succ]
     exact ((HS.out.drewN (n1+nq)).rb.rd.set1 _).set2 _
    have hc5:Chx (·= b) wr W5:=by
     rw [←hW5]
     exact ((Chx.ofOld ((Old.refl wr).drewN (n1+nq))).trans (Chx.ofSet _ ⟨b,1,none⟩ _)).trans (Chx.ofSet _ ⟨b,2,none⟩ _)
    have H5:=hid hr5
    have C5:=hid hc5
    have d0:=(Boxed.chg HS.out.rb.box hc5 HS.out.rb.ne).cell
    have d1:=hr5.c1
    have e3:=hr5.f 3
    have d3:=hr5.c3
    rw [←nat_succ] at d1
    clear hW5 hr5 hc5 c0 f0 c1 f1 b0 g0 c2 f2 f3
    go_still_tail 7,(by kernel_rfl)
    change wpList _ _ _ _ _ (World.drew W5)
    go_wp2
    have HN:=hid (HS.out.nl HD.out hi1 C5.out H5.out).drew
    refine ⟨⟨i+1,L+1,i+1,HN⟩,?_⟩
    rw [nextOf_eq HN.out.rb.rd,nextOf_eq HS.out.rb.rd]
    omega
   by_cases h3:c=59
   ·subst h3
    go_wp2
    go_quiet (fail)
    go_wp2
    go_quiet (fail)
    go_wp2
    rename_i n1
    go_region_held3 (fun w'=>w'.cell? ⟨w.heap.size,0,none⟩=some (.pointer (some ⟨b,0,none⟩)))
     (first|exact b0|exact b1|exact box_far R1.box HS.out.rb.ne _|go_keep)
     (first
       | (go_at_call 92;refine (line_reach _ w.heap.size b i s (L:Int) (B:Int) (HS.out.drewN _).rb hs hi1).mono ?_;rintro e w1 ⟨rfl,o1⟩;have O1:=hid o1;have R1:=Rb.old (HS.out.drewN _).rb o1;have b1:=Boxed.cell R1.box;have f9:=R1.rd.f 1;have e9:=R1.rd.c1))
    all_goals
     go_wp2
     have HN:=hid (HS.out.sc HD.out hi1 ((Chx.ofOld ((Old.refl wr).drewN _)).trans (Chx.ofOld O1.out)) R1.rd (i+1+goL (runS (fun c=>c != 10)) () (s.data.toList.drop (i+1))) rfl)
     rw [Int.natCast_add,Int.natCast_add,Int.natCast_one] at HN
     refine ⟨⟨_,L,B,HN⟩,?_⟩
     rw [←Int.natCast_one,←Int.natCast_add,←Int.natCast_add] at HN ⊢
     rw [nextOf_eq HN.out.rb.rd,nextOf_eq HS.out.rb.rd]
     omega
   have k1:(c.toNat:Int)≠32:=u8_int (d:=32) h1
   have k2:(c.toNat:Int)≠10:=u8_int (d:=10) h2
   have k3:(c.toNat:Int)≠59:=u8_int (d:=59) h3
   go_wp2
   go_quiet (fail)
   go_wp2
   go_quiet (fail)
   go_wp2
   refine bodyPost_ret (v:=.tuple #[]) (by simp [results,Tryz.results53,go_sem]) rfl ?_
   exact ⟨⟨_,rfl⟩,(HS.out.drewN _).done (by rw [HD.out,skip_no c _ _ _ h1 h2 h3])⟩
  ·go_wp2
   go_quiet (fail)
   go_wp2
   refine bodyPost_end (v:=.tuple #[]) (by simp [results,Tryz.results53,go_sem]) rfl ?_
   exact ⟨⟨_,rfl⟩,(HS.out.drewN _).done (by rw [List.drop_eq_nil_of_le (by rw [Array.length_toList];exact hi1)];rfl)⟩
structure Tk where
 k:Int
 t:List UInt8
 vk:Int
 vn:Int
 vs:List UInt8
 ln:Int
 cl:Int
def Tk.cells (x:Tk):Array Value:=#[.int .u8 x.k,.string (st x.t),.int .u8 x.vk,.int .i64 x.vn,.string (st x.vs),.int .i64 x.ln,.int .i64 x.cl]
abbrev Tk.v (x:Tk):Value:=.agg #[.int .u8 x.k,.string (st x.t),.int .u8 x.vk,.int .i64 x.vn,.string (st x.vs),.int .i64 x.ln,.int .i64 x.cl]
def Tk.zero:Tk:=⟨0,[],0,0,[],0,0⟩
abbrev zeroV:Value:=.agg #[.int .u8 0,.string ⟨#[]⟩,.int .u8 0,.int .i64 0,.string ⟨#[]⟩,.int .i64 0,.int .i64 0]
def Sv (w:World) (b:Nat) (x0 x1 x2 x3 x4 x5 x6:Value):Prop:=w.heap[b]?=some (.cells #[x0,x1,x2,x3,x4,x5,x6] 57 (0,0))
section
variable {w w':World} {b:Nat} {x0 x1 x2 x3 x4 x5 x6:Value}
theorem Sv.c (h:Sv w b x0 x1 x2 x3 x4 x5 x6) (o:Nat):w.cell? ⟨b,o,none⟩=#[x0,x1,x2,x3,x4,x5,x6][o]?:=by unfold Sv at h;simp [World.cell?,h]
theorem Sv.f (h:Sv w b x0 x1 x2 x3 x4 x5 x6) (o:Nat):w.frozen? ⟨b,o,none⟩=false:=by unfold Sv at h;simp [World.frozen?,h]
theorem Sv.lt (h:Sv w b x0 x1 x2 x3 x4 x5 x6):b<w.heap.size:=blk_lt h
theorem Sv.old (h:Sv w b x0 x1 x2 x3 x4 x5 x6) (ho:Old w w'):Sv w' b x0 x1 x2 x3 x4 x5 x6:=(ho.block b h.lt).trans h
theorem Sv.new (w:World):Sv (w.alloc (.cells #[x0,x1,x2,x3,x4,x5,x6] 57)) w.heap.size x0 x1 x2 x3 x4 x5 x6:=(MapKept.heap_alloc w _).1
theorem Sv.put (h:Sv w b x0 x1 x2 x3 x4 x5 x6) (o:Nat) (u:Value):(w.setCell ⟨b,o,none⟩ u).heap[b]?=some (.cells (#[x0,x1,x2,x3,x4,x5,x6].setIfInBounds o u) 57 (0,0)):=by
 have hlt:=h.lt
 unfold Sv at h
 show (w.heap.modify b _)[b]?=_
 rw [Array.getElem?_modify,if_pos rfl,h]
 simp
theorem Sv.set0 (h:Sv w b x0 x1 x2 x3 x4 x5 x6) (u:Value):Sv (w.setCell ⟨b,0,none⟩ u) b u x1 x2 x3 x4 x5 x6:=h.put 0 u
theorem Sv.set1 (h:Sv w b x0 x1 x2 x3 x4 x5 x6) (u:Value):Sv (w.setCell ⟨b,1,none⟩ u) b x0 u x2 x3 x4 x5 x6:=h.put 1 u
theorem Sv.set2 (h:Sv w b x0 x1 x2 x3 x4 x5 x6) (u:Value):Sv (w.setCell ⟨b,2,none⟩ u) b x0 x1 u x3 x4 x5 x6:=h.put 2 u
theorem Sv.set3 (h:Sv w b x0 x1 x2 x3 x4 x5 x6) (u:Value):Sv (w.setCell ⟨b,3,none⟩ u) b x0 x1 x2 u x4 x5 x6:=h.put 3 u
theorem Sv.set4 (h:Sv w b x0 x1 x2 x3 x4 x5 x6) (u:Value):Sv (w.setCell ⟨b,4,none⟩ u) b x0 x1 x2 x3 u x5 x6:=h.put 4 u
theorem Sv.set5 (h:Sv w b x0 x1 x2 x3 x4 x5 x6) (u:Value):Sv (w.setCell ⟨b,5,none⟩ u) b x0 x1 x2 x3 x4 u x6:=h.put 5 u
theorem Sv.set6 (h:Sv w b x0 x1 x2 x3 x4 x5 x6) (u:Value):Sv (w.setCell ⟨b,6,none⟩ u) b x0 x1 x2 x3 x4 x5 u:=h.put 6 u
end
abbrev poke7 (w:World) (b:Nat) (y0 y1 y2 y3 y4 y5 y6:Value):World:=
 ((((((w.setCell ⟨b,0,none⟩ y0).setCell ⟨b,1,none⟩ y1).setCell ⟨b,2,none⟩ y2).setCell ⟨b,3,none⟩ y3).setCell ⟨b,4,none⟩ y4).setCell ⟨b,5,none⟩ y5).setCell ⟨b,6,none⟩ y6
theorem Sv.poke {w:World} {b:Nat} {x0 x1 x2 x3 x4 x5 x6:Value} (h:Sv w b x0 x1 x2 x3 x4 x5 x6) (y0 y1 y2 y3 y4 y5 y6:Value):Sv (poke7 w b y0 y1 y2 y3 y4 y5 y6) b y0 y1 y2 y3 y4 y5 y6:=
 ((((((h.set0 y0).set1 y1).set2 y2).set3 y3).set4 y4).set5 y5).set6 y6
theorem old_poke7 {a w:World} {b:Nat} (h:Old a w) (hb:a.heap.size≤b) (y0 y1 y2 y3 y4 y5 y6:Value):Old a (poke7 w b y0 y1 y2 y3 y4 y5 y6):=
 ((((((h.setCell (p:=⟨b,0,none⟩) hb y0).setCell (p:=⟨b,1,none⟩) hb y1).setCell (p:=⟨b,2,none⟩) hb y2).setCell (p:=⟨b,3,none⟩) hb y3).setCell (p:=⟨b,4,none⟩) hb y4).setCell (p:=⟨b,5,none⟩) hb y5).setCell (p:=⟨b,6,none⟩) hb y6
theorem size33:(Tryz.prog.info? 57).map (·.size)=some 7:=by kernel_rfl
theorem ret_tok {fn:Func} {p u:Tmp} (hf:fn.results=#[.cell p 57,.tmp u]) (tmps:Array Value) (w:World) (g:Nat) {x0 x1 x2 x3 x4 x5 x6 b:Value} (hp:tmps.getD p undef=.pointer (some ⟨g,0,none⟩)) (hb:tmps.getD u undef=b) (hg:Sv w g x0 x1 x2 x3 x4 x5 x6) :
 (results fn tmps).run Tryz.prog w=.ok (.tuple #[.agg #[x0,x1,x2,x3,x4,x5,x6],b]) w:=by
 rw [results_cell_tmp hf,hp,hb]
 simp [asAddr,Result.andThen,run_loadVar_row w g 57 57 #[x0,x1,x2,x3,x4,x5,x6] (0,0) _ hg Tryz.underlying57 rfl size33]
theorem clone_any (s:ByteArray) (w:World) (hs:s.size≤1000000):Calls Tryz.prog 104 #[.string s] w fun e w'=>e=.returned (.string s)∧Old w w':=by
 have h:=Tryz.stringslite_Clone s w (by omega)
 go_enter Tryz.func104,Tryz.ntmps104
 go_wp2_with (go_at_call 144;refine h.mono ?_;rintro e w1 ⟨rfl,h1⟩)
 go_ret
 exact ⟨rfl,Old.ofBelow h1 (Nat.le_refl _)⟩
abbrev tokE (x:Value) (e:Int):Ending:=.returned (.tuple #[x,.int .i64 e])
theorem sv0 (w:World):Sv (w.alloc (.cells #[.int .u8 0,.string ⟨#[]⟩,.int .u8 0,.int .i64 0,.string ⟨#[]⟩,.int .i64 0,.int .i64 0] 57)) w.heap.size (.int .u8 0) (.string ⟨#[]⟩) (.int .u8 0) (.int .i64 0) (.string ⟨#[]⟩) (.int .i64 0) (.int .i64 0):=Sv.new w
theorem named_any (k:Int) (s:ByteArray) (B:Bool) (w:World) (hz:s.size≤1000000) (hn:∀ W,Calls Tryz.prog 165 #[.string s] W fun e w'=>e=.returned (.bool B)∧Old W w') :
 Calls Tryz.prog 137 #[.int .u8 k,.string s] w fun e w'=>e=(if B then tokE (.agg #[.int .u8 k,.string s,.int .u8 0,.int .i64 0,.string ⟨#[]⟩,.int .i64 0,.int .i64 0]) 0 else tokE zeroV 4)∧Old w w':=by
 have HS:=hid (sv0 w)
 have hcl:=fun W=>clone_any s W hz
 have HO:=hid ((Old.refl w).alloc (.cells #[.int .u8 0,.string ⟨#[]⟩,.int .u8 0,.int .i64 0,.string ⟨#[]⟩,.int .i64 0,.int .i64 0] 57))
 cases B
 ·go_enter Tryz.func137,Tryz.ntmps137
  go_wp2_with (first
   | (go_at_call 165;refine (hn _).mono ?_;rintro e w1 ⟨rfl,o1⟩;replace HS:=hid (HS.out.old o1);replace HO:=hid (HO.out.trans o1);have a0:=HS.out.c 0;have a1:=HS.out.c 1;have a2:=HS.out.c 2;have a3:=HS.out.c 3;have a4:=HS.out.c 4;have a5:=HS.out.c 5;have a6:=HS.out.c 6;have f0:=HS.out.f 0;have f1:=HS.out.f 1;have f2:=HS.out.f 2;have f3:=HS.out.f 3;have f4:=HS.out.f 4;have f5:=HS.out.f 5;have f6:=HS.out.f 6))
  refine bodyPost_ret (ret_tok rfl _ _ w.heap.size rfl rfl (HS.out.poke _ _ _ _ _ _ _)) rfl ?_
  exact ⟨rfl,old_poke7 HO.out (Nat.le_refl _) _ _ _ _ _ _ _⟩
 ·go_enter Tryz.func137,Tryz.ntmps137
  go_wp2_with (first
   | (go_at_call 165;refine (hn _).mono ?_;rintro e w1 ⟨rfl,o1⟩;replace HS:=hid (HS.out.old o1);replace HO:=hid (HO.out.trans o1))
   | (go_at_call 104;refine (hcl _).mono ?_;rintro e w2 ⟨rfl,o2⟩;replace HS:=hid (HS.out.old o2);replace HO:=hid (HO.out.trans o2);have a0:=HS.out.c 0;have a1:=HS.out.c 1;have a2:=HS.out.c 2;have a3:=HS.out.c 3;have a4:=HS.out.c 4;have a5:=HS.out.c 5;have a6:=HS.out.c 6;have f0:=HS.out.f 0;have f1:=HS.out.f 1;have f2:=HS.out.f 2;have f3:=HS.out.f 3;have f4:=HS.out.f 4;have f5:=HS.out.f 5;have f6:=HS.out.f 6))
  refine bodyPost_ret (ret_tok rfl _ _ w.heap.size rfl rfl (HS.out.poke _ _ _ _ _ _ _)) rfl ?_
  exact ⟨rfl,old_poke7 HO.out (Nat.le_refl _) _ _ _ _ _ _ _⟩
theorem ba_list (s:ByteArray):s.toList=s.data.toList:=ByteArray.toList_eq s
theorem all_take {l:List UInt8} {k:Nat} {c:UInt8} {r:List UInt8} (h:l.drop k=c::r) (p:UInt8→Bool):(l.take (k+1)).all p=((l.take k).all p&&p c):=by
 rw [List.take_add_one,drop_get h,List.all_append]
 simp
theorem lname_any (s:ByteArray) (w:World) (hs:s.size≤900000):Calls Tryz.prog 165 #[.string s] w fun e w'=>e=.returned (.bool (isName s.data.toList))∧Old w w':=by
 have hz:s.data.toList.length=s.size:=Array.length_toList
 by_cases h0:s.data.toList=[]
 ·have e:isName s.data.toList=false:=by rw [h0];rfl
  rw [e]
  have h0':s.toList=[]:=by rw [ba_list];exact h0
  go_enter Tryz.func165,Tryz.ntmps165
  go_wp2_with fail
  all_goals (go_ret;exact ⟨rfl,Old.refl w⟩)
 have h0':¬ s.toList=[]:=by rw [ba_list];exact h0
 by_cases h12:s.size≤12
 ·obtain ⟨c,r,hcr⟩:∃ c r,s.data.toList=c::r:=List.exists_cons_of_ne_nil h0
  have hx0:∀ W,(Instr.index 9 (.string s) (.int .i64 0)).run Tryz.prog W=.ok (.int .u8 (c.toNat:Int)) W:=fun W=>idx_any s 0 c (by rw [hcr];rfl) W
  have h1:=fun W=>sm_any c W
  have e:isName s.data.toList=(sm c&&s.data.toList.all nm):=by
   unfold isName
   rw [decide_eq_true ⟨h0,by omega⟩,Bool.true_and,hcr]
   rfl
  rw [e]
  have hpos:0<s.size:=by rw [←hz,hcr];simp
  clear hcr e h0
  cases hsm:sm c with
  | false=>
    rw [hsm] at h1
    clear hz
    go_enter Tryz.func165,Tryz.ntmps165
    go_wp2_with (first
     | (go_at_call 126;(with_reducible refine (h1 _).mono ?_);rintro e w1 ⟨rfl,rfl⟩))
    all_goals (go_ret;exact ⟨rfl,Old.refl w⟩)
  | true=>
    rw [hsm] at h1
    rw [Bool.true_and]
    have HZ:=hid hz
    have hE:s.toList.isEmpty=false:=by simpa using h0'
    clear hz
    go_enter Tryz.func165,Tryz.ntmps165
    go_wp2_with (first
     | (go_at_call 126;(with_reducible refine (h1 _).mono ?_);rintro e w1 ⟨rfl,rfl⟩))
    all_goals
     go_loopw [19] (fun i wr=>∃ k:Nat,k≤s.size∧i=.int .i64 (k:Int)∧Hid ((s.data.toList.take k).all nm=true)∧wr=w) (fun i _=>(s.size-RowKit.intOf i).toNat)
     case atStart=>exact ⟨0,Nat.zero_le _,rfl,hid rfl,rfl⟩
     case round=>
      obtain ⟨k,hk,rfl,HE,rfl⟩:=hrel
      rcases Nat.lt_or_ge k s.size with hks|hks
      ·have hl:k<s.data.toList.length:=by rw [HZ.out];exact hks
       obtain ⟨d,hd⟩:∃ d,d=s.data.toList[k]:=⟨_,rfl⟩
       have hx:=fun W=>idx_any s k d (by rw [hd];exact List.getElem?_eq_getElem hl) W
       have HD:=hid (show s.data.toList.drop k=d::s.data.toList.drop (k+1) by rw [hd];exact List.drop_eq_getElem_cons hl)
       have h2:=fun W=>nm_any d W
       clear hd hl
       cases hnm:nm d with
       | false=>
         rw [hnm] at h2
         go_wp2_with (first
          | (go_at_call 132;(with_reducible refine (h2 _).mono ?_);rintro e w1 ⟨rfl,rfl⟩))
         go_ret
         have:s.data.toList.all nm=false:=by
          rw [List.all_eq_false]
          refine ⟨d,?_,by rw [hnm];simp⟩
          have:=drop_get HD.out
          exact List.mem_of_getElem? this
         exact ⟨rb _ _ this.symm,Old.refl _⟩
       | true=>
         rw [hnm] at h2
         go_wp2_with (first
          | (go_at_call 132;(with_reducible refine (h2 _).mono ?_);rintro e w1 ⟨rfl,rfl⟩))
         refine ⟨⟨k+1,by omega,by simp,hid (by rw [all_take HD.out,HE.out,hnm];rfl),?_⟩,by simp only [RowKit.intOf];omega⟩
         first|rfl|trivial
      ·go_wp2
       go_ret
       have he:=HE.out
       rw [List.take_of_length_le (by rw [HZ.out];exact hks)] at he
       exact ⟨rb _ _ he.symm,Old.refl _⟩
 ·have e:isName s.data.toList=false:=by
   unfold isName
   rw [decide_eq_false (fun h=>h12 (by omega)),Bool.false_and,Bool.false_and]
  rw [e]
  clear hz
  go_enter Tryz.func165,Tryz.ntmps165
  go_wp2_with fail
  all_goals (go_ret;exact ⟨rfl,Old.refl w⟩)
end Go.Proofs.YtkellpcljiodeaaGreatDoor
