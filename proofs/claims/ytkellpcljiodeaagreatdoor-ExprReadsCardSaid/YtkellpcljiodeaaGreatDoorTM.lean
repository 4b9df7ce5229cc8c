/- Layer lexer: the next word, with its place. a loop over words that are told one by one, till one is none. -/
import Derived.TacticsInMore
import Derived.LoopNIn
import Derived.LoopIn
import Derived.OwnWalkIn
import Derived.Test.YtkellpcljiodeaaGreatDoorTK
set_option maxHeartbeats 1600000
namespace Go.Proofs.YtkellpcljiodeaaGreatDoor
open Go.ChangeShapes Go.WideShapes Go.ChangeAt Go.RowKit Go.Lib
set_option linter.unusedVariables false
set_option linter.unusedSimpArgs false
set_option maxRecDepth 100000
theorem parse_two (l:List UInt8) (h:(parseL l).e=0) (h34:l.head?=some 34):2≤l.length:=by
 match l with
 | []=>simp at h34
 | [c]=>
   simp at h34
   subst h34
   have:(parseL [34]).e=4:=by kernel_rfl
   rw [this] at h
   cases h
 | c::d::r=>simp
theorem kindL_le (l:List UInt8):kindL l≤7:=by
 cases l with
 | nil=>exact Nat.zero_le _
 | cons c r=>
   rw [show kindL (c::r)=if sm c then 1 else if dgc c then 4 else if c=34 then 5 else if c=35 then 6
    else if c=63 then (if hd sm r then 2 else 3) else if sgn c||pair (c::r) then 7 else 0 from rfl]
   repeat' split
   all_goals omega
theorem kind5 {c:UInt8} {r:List UInt8} (h:kindL (c::r)=5):c=34:=by
 rw [show kindL (c::r)=if sm c then 1 else if dgc c then 4 else if c=34 then 5 else if c=35 then 6
     else if c=63 then (if hd sm r then 2 else 3) else if sgn c||pair (c::r) then 7 else 0 from rfl] at h
 by_cases h1:c=34
 ·exact h1
 ·rw [if_neg h1] at h
  repeat' split at h
  all_goals omega
def Pl (w:World) (g:Nat) (L C:Int):Prop:=w.heap[g]?=some (.cells #[.int .i64 L,.int .i64 C] 26 (0,0))
theorem Pl.c0 {w:World} {g:Nat} {L C:Int} (h:Pl w g L C):w.cell? ⟨g,0,none⟩=some (.int .i64 L):=by unfold Pl at h;simp [World.cell?,h]
theorem Pl.c1 {w:World} {g:Nat} {L C:Int} (h:Pl w g L C):w.cell? ⟨g,1,none⟩=some (.int .i64 C):=by unfold Pl at h;simp [World.cell?,h]
theorem Pl.f {w:World} {g:Nat} {L C:Int} (h:Pl w g L C) (o:Nat):w.frozen? ⟨g,o,none⟩=false:=by unfold Pl at h;simp [World.frozen?,h]
theorem Pl.old {w w':World} {g:Nat} {L C:Int} (h:Pl w g L C) (ho:Old w w'):Pl w' g L C:=(ho.block g (blk_lt h)).trans h
structure Wd (w W:World) (b gp:Nat) (s:ByteArray) (i L B C:Nat):Prop where
 rd:Rdr W b s (i:Int) (L:Int) (B:Int)
 pl:Pl W gp (L:Int) (C:Int)
 sv:Sv W w.heap.size (.int .u8 0) (.string ⟨#[]⟩) (.int .u8 0) (.int .i64 0) (.string ⟨#[]⟩) (.int .i64 0) (.int .i64 0)
 ol:Old w W
theorem Wd.old {w W W':World} {b gp:Nat} {s:ByteArray} {i L B C:Nat} (h:Wd w W b gp s i L B C) (ho:Old W W'):Wd w W' b gp s i L B C:=⟨h.rd.old ho,h.pl.old ho,h.sv.old ho,h.ol.trans ho⟩
theorem far_heap {W:World} {p o k:Nat} {u:Value} (h:p≠k):(W.setCell ⟨p,o,none⟩ u).heap[k]?=W.heap[k]?:=by
 show (W.heap.modify p _)[k]?=_
 rw [Array.getElem?_modify,if_neg h]
theorem Rdr.far {w:World} {b:Nat} {s:ByteArray} {j L B:Int} (h:Rdr w b s j L B) {p o:Nat} (hne:p≠b) (u:Value):Rdr (w.setCell ⟨p,o,none⟩ u) b s j L B:=(far_heap hne).trans h
theorem Sv.far {w:World} {b:Nat} {x0 x1 x2 x3 x4 x5 x6:Value} (h:Sv w b x0 x1 x2 x3 x4 x5 x6) {p o:Nat} (hne:p≠b) (u:Value):Sv (w.setCell ⟨p,o,none⟩ u) b x0 x1 x2 x3 x4 x5 x6:=(far_heap hne).trans h
theorem Chx.beyond {S:Nat→Prop} {w W:World} (h:Chx S w W) {p o:Nat} (hp:w.heap.size≤p) (u:Value):Chx S w (W.setCell ⟨p,o,none⟩ u):=
 ⟨h.os,h.output,by have:=h.size;simp [World.setCell];exact this,fun k hk hs=>(far_heap (by omega)).trans (h.block k hk hs)⟩
theorem Chx.poke7 {S:Nat→Prop} {w W:World} (h:Chx S w W) {p:Nat} (hp:w.heap.size≤p) (y0 y1 y2 y3 y4 y5 y6:Value):Chx S w (poke7 W p y0 y1 y2 y3 y4 y5 y6):=
 ((((((h.beyond (o:=0) hp y0).beyond (o:=1) hp y1).beyond (o:=2) hp y2).beyond (o:=3) hp y3).beyond (o:=4) hp y4).beyond (o:=5) hp y5).beyond (o:=6) hp y6
theorem Rdr.poke7 {w:World} {b:Nat} {s:ByteArray} {j L B:Int} (h:Rdr w b s j L B) {p:Nat} (hne:p≠b) (y0 y1 y2 y3 y4 y5 y6:Value):Rdr (poke7 w p y0 y1 y2 y3 y4 y5 y6) b s j L B:=
 ((((((h.far (o:=0) hne y0).far (o:=1) hne y1).far (o:=2) hne y2).far (o:=3) hne y3).far (o:=4) hne y4).far (o:=5) hne y5).far (o:=6) hne y6
theorem word_any (W0 w:World) (b i L B:Nat) (s:ByteArray) (hr:Rdr w b s (i:Int) (L:Int) (B:Int)) (hs:s.size≤900000) (hi:i<s.size) (hb:B≤i) (hL:L≤2000000) (he:Env W0) (hO:Old W0 w) :
 Calls Tryz.prog 54 #[.pointer (some ⟨b,0,none⟩)] w fun e w'=>e=tokE (Tk.v { (meanL (kindL (s.data.toList.drop i)) ((s.data.toList.drop i).take (wlen (s.data.toList.drop i)))).1 with ln:=L,cl:=((i+1-B:Nat):Int) }) (meanL (kindL (s.data.toList.drop i)) ((s.data.toList.drop i).take (wlen (s.data.toList.drop i)))).2∧Rdr w' b s ((i+wlen (s.data.toList.drop i):Nat):Int) (L:Int) (B:Int)∧Chx (·= b) w w':=by
 have HR:=hid hr
 have HEN:=hid (fun W (h:Old w W)=>he.old (hO.trans h))
 obtain ⟨w1,hw1⟩:∃ w1,w1=w.alloc (.cells #[.int .u8 0,.string ⟨#[]⟩,.int .u8 0,.int .i64 0,.string ⟨#[]⟩,.int .i64 0,.int .i64 0] 57):=⟨_,rfl⟩
 have ho1:Old w w1:=by rw [hw1];exact (Old.refl w).alloc _
 have hsv:Sv w1 w.heap.size (.int .u8 0) (.string ⟨#[]⟩) (.int .u8 0) (.int .i64 0) (.string ⟨#[]⟩) (.int .i64 0) (.int .i64 0):=by rw [hw1];exact sv0 w
 have hr1:=hr.old ho1
 have c1:=hr1.c1
 have c2:=hr1.c2
 have c3:=hr1.c3
 have n1:w1.heap.size≠b:=Nat.ne_of_gt hr1.lt
 obtain ⟨C,hC⟩:∃ C:Nat,C=i+1-B:=⟨_,rfl⟩
 have q1:IntKind.i64.wrap ((i:Int)-(B:Int))=(i:Int)-(B:Int):=by rw [IntKind.wrap_i64];omega
 have q2:IntKind.i64.wrap ((i:Int)-(B:Int)+1)=(C:Int):=by rw [IntKind.wrap_i64];omega
 have HQ1:=hid q1
 have HQ2:=hid q2
 have hwd:Wd w (w1.alloc (.cells #[.int .i64 (L:Int),.int .i64 (C:Int)] 26)).drew b w1.heap.size s i L B C:=
  ⟨hr1.old ((Old.refl w1).alloc _).drew,(MapKept.heap_alloc w1 _).1,hsv.old ((Old.refl w1).alloc _).drew,(ho1.alloc _).drew⟩
 have HWD:=hid hwd
 have hl:i<s.data.toList.length:=by rw [Array.length_toList];exact hi
 obtain ⟨l,hld⟩:∃ l,l=s.data.toList.drop i:=⟨_,rfl⟩
 have hne:l≠[]:=by rw [hld,List.drop_eq_getElem_cons hl];simp
 have hwl:=wlen_le hne
 have hll:l.length=s.size-i:=by rw [hld,List.length_drop,Array.length_toList];rfl
 obtain ⟨n,hn⟩:∃ n,n=i+wlen l:=⟨_,rfl⟩
 have hn1:i+1+endL (kindL l) l=n:=by rw [hn];unfold wlen;omega
 obtain ⟨z,hz⟩:∃ z,z=s.extract i n:=⟨_,rfl⟩
 have hzl:z.data.toList=l.take (wlen l):=by
  have h9:n-i=wlen l:=by omega
  rw [hz,←ByteArray.toList_eq,Lib.extract_toList,h9,←hld]
 have hzs:z.size=wlen l:=by
  have:z.data.toList.length=z.size:=Array.length_toList
  rw [←this,hzl,List.length_take]
  omega
 have hsl:∀ W,(Instr.slice 9 (.string s) (some (.int .i64 (i:Int))) (some (.int .i64 (n:Int))) none).run Tryz.prog W=.ok (.string z) W:=fun W=>by
  rw [run_slice_string W 9 s .i64 .i64 (i:Int) (n:Int) Tryz.underlying9 (by omega) (by omega) (by omega),hz]
  rfl
 have hk:∀ W,Rdr W b s (i:Int) (L:Int) (B:Int)→Calls Tryz.prog 94 #[.pointer (some ⟨b,0,none⟩)] W fun e w'=>e=.returned (.int .u8 (kindL l:Int))∧Old W w':=fun W h=>by rw [hld];exact kind_any W b i s _ _ h hs hi
 have hg:∀ W,Rdr W b s (i:Int) (L:Int) (B:Int)→Calls Tryz.prog 95 #[.pointer (some ⟨b,0,none⟩),.int .u8 (kindL l:Int)] W fun e w'=>∃ v,e=.returned v∧Goes W w' b s i L B (kindL l) v:=fun W h=>goesOn_any W b i s _ _ h hs hi _ (kindL_le l)
 have hre:∀ W W' v,Goes W W' b s i L B (kindL l) v→Calls Tryz.prog 92 #[.pointer (some ⟨b,0,none⟩),v] W' fun e w'=>e=.returned (.int .i64 (n:Int))∧Old W w':=fun W W' v h=>by
  have:=goes_reach h hs hi
  rw [←hld,hn1] at this
  exact this
 have hm:∀ W,Old w W→Calls Tryz.prog 96 #[.int .u8 (kindL l:Int),.string z] W fun e w'=>e=tokX (meanL (kindL l) (l.take (wlen l)))∧Old W w':=fun W h=>by
  rw [←hzl]
  refine meaning_any (kindL l) (kindL_le l) z W (by omega) (by rw [hzs];unfold wlen;omega) (HEN.out W h) (fun h5 h0=>?_)
  have h6:=parse_two z.data.toList h0 (by
   rw [hzl]
   obtain ⟨c,r,hcr⟩:=List.exists_cons_of_ne_nil hne
   rw [hcr] at h5 ⊢
   have:=kind5 h5
   subst this
   rfl)
  rwa [show z.data.toList.length=z.size from Array.length_toList] at h6
 rw [←hld,←hn,←hC]
 obtain ⟨k,hkk⟩:∃ k,k=kindL l:=⟨_,rfl⟩
 obtain ⟨⟨T,E⟩,hT⟩:∃ T,T=meanL k (l.take (wlen l)):=⟨_,rfl⟩
 rw [←hkk] at hk hg hre hm ⊢
 rw [←hT] at hm ⊢
 have HK:=hid hk
 have HG:=hid hg
 have HRE:=hid hre
 have HM:=hid hm
 clear hr ho1 hr1 hk hg hre hm hwd hsv hl hld hne hwl hll hn hn1 hz hzl hzs hkk hT q1 q2 hC
 go_enter Tryz.func54,Tryz.ntmps54
 go_wp2
 rw [←hw1]
 clear hw1
 go_region_held3 (fun w'=>w'.cell? ⟨b,1,none⟩=some (.int .i64 (i:Int))∧w'.cell? ⟨b,2,none⟩=some (.int .i64 (L:Int))∧w'.cell? ⟨b,3,none⟩=some (.int .i64 (B:Int)))
  (first|with_reducible exact ⟨c1,c2,c3⟩|go_keep)
  (fail)
 simp only [HQ1.out,HQ2.out]
 generalize (w1.alloc (.cells #[.int .i64 (L:Int),.int .i64 (C:Int)] 26)).drew=w2 at HWD ⊢
 clear c1 c2 c3 n1
 go_upto_region 4 with (first
  | (go_at_call 94;(with_reducible refine (HK.out _ HWD.out.rd).mono ?_);rintro e w3 ⟨rfl,o3⟩;replace HWD:=hid (HWD.out.old o3))
  | (go_at_call 95;(with_reducible refine (HG.out _ HWD.out.rd).mono ?_);rintro e w4 ⟨v,rfl,hgo⟩;have HGO:=hid hgo;clear hgo)
  | (go_at_call 92;(with_reducible refine (HRE.out _ _ _ HGO.out).mono ?_);rintro e w5 ⟨rfl,o5⟩;replace HWD:=hid (HWD.out.old o5)))
 have c0:=HWD.out.rd.c0
 have c1:=HWD.out.rd.c1
 have n1:w5.heap.size≠b:=Nat.ne_of_gt HWD.out.rd.lt
 go_region_held3 (fun w'=>w'.cell? ⟨b,0,none⟩=some (.string s)∧w'.cell? ⟨b,1,none⟩=some (.int .i64 (i:Int)))
  (first|with_reducible exact ⟨c0,c1⟩|with_reducible exact ⟨d0,d1⟩|go_keep)
  (first
    | (go_at_call 96;(with_reducible refine (HM.out _ HWD.out.ol.drew).mono ?_);rintro e w6 ⟨rfl,o6⟩;have HWD6:=hid (HWD.out.old ((Old.refl _).drew.trans o6));have d0:=HWD6.out.rd.c0;have d1:=HWD6.out.rd.c1;have n6:w6.heap.size≠b:=Nat.ne_of_gt HWD6.out.rd.lt)
    | (go_at_call 96;(with_reducible refine (HM.out _ (HWD.out.ol.alloc _).drew).mono ?_);rintro e w6 ⟨rfl,o6⟩;have HWD6:=hid (HWD.out.old (((Old.refl _).alloc _).drew.trans o6));have d0:=HWD6.out.rd.c0;have d1:=HWD6.out.rd.c1;have HV:=hid (Sv.old (Sv.drew (sv0 w5)) o6);have a0:w6.cell? ⟨w5.heap.size,0,none⟩=some (.int .u8 0):=HV.out.c 0;have a1:w6.cell? ⟨w5.heap.size,1,none⟩=some (.string ⟨#[]⟩):=HV.out.c 1;have a2:w6.cell? ⟨w5.heap.size,2,none⟩=some (.int .u8 0):=HV.out.c 2;have a3:w6.cell? ⟨w5.heap.size,3,none⟩=some (.int .i64 0):=HV.out.c 3;have a4:w6.cell? ⟨w5.heap.size,4,none⟩=some (.string ⟨#[]⟩):=HV.out.c 4;have a5:w6.cell? ⟨w5.heap.size,5,none⟩=some (.int .i64 0):=HV.out.c 5;have a6:w6.cell? ⟨w5.heap.size,6,none⟩=some (.int .i64 0):=HV.out.c 6;have f0:=HV.out.f 0;have f1:=HV.out.f 1;have f2:=HV.out.f 2;have f3:=HV.out.f 3;have f4:=HV.out.f 4;have f5:=HV.out.f 5;have f6:=HV.out.f 6))
 ·have HW7:=hid (HWD6.out.old ((Old.refl w6).alloc (.cells #[.int .u8 T.k,.string (st T.t),.int .u8 T.vk,.int .i64 T.vn,.string (st T.vs),.int .i64 T.ln,.int .i64 T.cl] 57)))
  have HT7:=hid (Sv.new (x0:=.int .u8 T.k) (x1:=.string (st T.t)) (x2:=.int .u8 T.vk) (x3:=.int .i64 T.vn) (x4:=.string (st T.vs)) (x5:=.int .i64 T.ln) (x6:=.int .i64 T.cl) w6)
  have HG7:=hid (Nat.lt_of_lt_of_le HWD.out.sv.lt (show w5.heap.size≤w6.heap.size from o6.size))
  generalize w6.alloc (.cells #[.int .u8 T.k,.string (st T.t),.int .u8 T.vk,.int .i64 T.vn,.string (st T.vs),.int .i64 T.ln,.int .i64 T.cl] 57)=W7 at HW7 HT7 ⊢
  generalize w6.heap.size=gt at HT7 HG7 ⊢
  generalize w1.heap.size=gp at HW7 ⊢
  have g1:gt≠b:=by
   rintro rfl
   have:=HT7.out.symm.trans HW7.out.rd
   simp at this
  have g2:gt≠gp:=by
   rintro rfl
   have:=HT7.out.symm.trans HW7.out.pl
   simp at this
  have g3:gp≠b:=by
   rintro rfl
   have:=HW7.out.pl.symm.trans HW7.out.rd
   simp at this
  have g4:=Ne.symm g1
  have g5:=Ne.symm g2
  have g6:=Ne.symm g3
  have p0:=HW7.out.pl.c0
  have p1:=HW7.out.pl.c1
  have b1:=HW7.out.rd.c1
  have fb:=HW7.out.rd.f 1
  have t5:W7.cell? ⟨gt,5,none⟩=some (.int .i64 T.ln):=HT7.out.c 5
  have t6:W7.cell? ⟨gt,6,none⟩=some (.int .i64 T.cl):=HT7.out.c 6
  have ft5:=HT7.out.f 5
  have ft6:=HT7.out.f 6
  go_wp2
  go_region_held3 (fun w'=>w'.cell? ⟨gp,0,none⟩=some (.int .i64 (L:Int))∧w'.cell? ⟨gp,1,none⟩=some (.int .i64 (C:Int)))
   (first|with_reducible exact ⟨p0,p1⟩|go_keep)
   (fail)
  have g7:b≠w.heap.size:=by
   intro e
   have h1:=HW7.out.rd
   rw [e] at h1
   have:=h1.symm.trans HW7.out.sv
   simp at this
  have H8r:=hid (Rdr.drew (((HW7.out.rd.set1 (n:Int)).far (o:=5) g1 (.int .i64 (L:Int))).far (o:=6) g1 (.int .i64 (C:Int))))
  have H8t:=hid (Sv.drew (((HT7.out.far (o:=1) g4 (.int .i64 (n:Int))).set5 (.int .i64 (L:Int))).set6 (.int .i64 (C:Int))))
  have H8s:=hid (Sv.drew (((HW7.out.sv.far (o:=1) g7 (.int .i64 (n:Int))).far (o:=5) (Nat.ne_of_gt HG7.out) (.int .i64 (L:Int))).far (o:=6) (Nat.ne_of_gt HG7.out) (.int .i64 (C:Int))))
  have H8c:=hid (Chx.drew ((((Chx.ofOld HW7.out.ol).trans (Chx.ofSet W7 ⟨b,1,none⟩ (.int .i64 (n:Int)))).beyond (o:=5) (Nat.le_of_lt HG7.out) (.int .i64 (L:Int))).beyond (o:=6) (Nat.le_of_lt HG7.out) (.int .i64 (C:Int))))
  generalize World.drew (World.setCell (World.setCell (World.setCell W7 ⟨b,1,none⟩ (.int .i64 (n:Int))) ⟨gt,5,none⟩ (.int .i64 (L:Int))) ⟨gt,6,none⟩ (.int .i64 (C:Int)))=W8 at H8r H8t H8s H8c ⊢
  clear p0 p1 b1 fb t5 t6 ft5 ft6 HW7 HT7
  have a0:=H8t.out.c 0
  have a1:=H8t.out.c 1
  have a2:=H8t.out.c 2
  have a3:=H8t.out.c 3
  have a4:=H8t.out.c 4
  have a5:=H8t.out.c 5
  have a6:=H8t.out.c 6
  have f0:=H8t.out.f 0
  have f1:=H8t.out.f 1
  have f2:=H8t.out.f 2
  have f3:=H8t.out.f 3
  have f4:=H8t.out.f 4
  have f5:=H8t.out.f 5
  have f6:=H8t.out.f 6
  have r0:=H8s.out.c 0
  have r1:=H8s.out.c 1
  have r2:=H8s.out.c 2
  have r3:=H8s.out.c 3
  have r4:=H8s.out.c 4
  have r5:=H8s.out.c 5
  have r6:=H8s.out.c 6
  have z0:=H8s.out.f 0
  have z1:=H8s.out.f 1
  have z2:=H8s.out.f 2
  have z3:=H8s.out.f 3
  have z4:=H8s.out.f 4
  have z5:=H8s.out.f 5
  have z6:=H8s.out.f 6
  go_wp2
  refine bodyPost_ret (ret_tok rfl _ _ w.heap.size rfl rfl (H8s.out.poke _ _ _ _ _ _ _)) rfl ?_
  exact ⟨rfl,H8r.out.poke7 (Ne.symm g7) _ _ _ _ _ _ _,H8c.out.poke7 (Nat.le_refl _) _ _ _ _ _ _ _⟩
 ·have HW7:=hid (HWD.out.old (old_poke7 ((((Old.refl w5).alloc _).drew).trans o6) (Nat.le_refl w5.heap.size) (.int .u8 T.k) (.string (st T.t)) (.int .u8 T.vk) (.int .i64 T.vn) (.string (st T.vs)) (.int .i64 T.ln) (.int .i64 T.cl)))
  have HT7:=hid (HV.out.poke (.int .u8 T.k) (.string (st T.t)) (.int .u8 T.vk) (.int .i64 T.vn) (.string (st T.vs)) (.int .i64 T.ln) (.int .i64 T.cl))
  have HG7:=hid HWD.out.sv.lt
  simp only [poke7] at HW7 HT7
  generalize World.setCell (World.setCell (World.setCell (World.setCell (World.setCell (World.setCell (World.setCell w6 ⟨w5.heap.size,0,none⟩ (.int .u8 T.k)) ⟨w5.heap.size,1,none⟩ (.string (st T.t))) ⟨w5.heap.size,2,none⟩ (.int .u8 T.vk)) ⟨w5.heap.size,3,none⟩ (.int .i64 T.vn)) ⟨w5.heap.size,4,none⟩ (.string (st T.vs))) ⟨w5.heap.size,5,none⟩ (.int .i64 T.ln)) ⟨w5.heap.size,6,none⟩ (.int .i64 T.cl)=W7 at HW7 HT7 ⊢
  generalize w5.heap.size=gt at HT7 HG7 ⊢
  generalize w1.heap.size=gp at HW7 ⊢
  have g1:gt≠b:=by
   rintro rfl
   have:=HT7.out.symm.trans HW7.out.rd
   simp at this
  have g2:gt≠gp:=by
   rintro rfl
   have:=HT7.out.symm.trans HW7.out.pl
   simp at this
  have g3:gp≠b:=by
   rintro rfl
   have:=HW7.out.pl.symm.trans HW7.out.rd
   simp at this
  have g4:=Ne.symm g1
  have g5:=Ne.symm g2
  have g6:=Ne.symm g3
  have p0:=HW7.out.pl.c0
  have p1:=HW7.out.pl.c1
  have b1:=HW7.out.rd.c1
  have fb:=HW7.out.rd.f 1
  have t5:W7.cell? ⟨gt,5,none⟩=some (.int .i64 T.ln):=HT7.out.c 5
  have t6:W7.cell? ⟨gt,6,none⟩=some (.int .i64 T.cl):=HT7.out.c 6
  have ft5:=HT7.out.f 5
  have ft6:=HT7.out.f 6
  go_wp2
  go_region_held3 (fun w'=>w'.cell? ⟨gp,0,none⟩=some (.int .i64 (L:Int))∧w'.cell? ⟨gp,1,none⟩=some (.int .i64 (C:Int)))
   (first|with_reducible exact ⟨p0,p1⟩|go_keep)
   (fail)
  have g7:b≠w.heap.size:=by
   intro e
   have h1:=HW7.out.rd
   rw [e] at h1
   have:=h1.symm.trans HW7.out.sv
   simp at this
  have H8r:=hid (Rdr.drew (((HW7.out.rd.set1 (n:Int)).far (o:=5) g1 (.int .i64 (L:Int))).far (o:=6) g1 (.int .i64 (C:Int))))
  have H8t:=hid (Sv.drew (((HT7.out.far (o:=1) g4 (.int .i64 (n:Int))).set5 (.int .i64 (L:Int))).set6 (.int .i64 (C:Int))))
  have H8s:=hid (Sv.drew (((HW7.out.sv.far (o:=1) g7 (.int .i64 (n:Int))).far (o:=5) (Nat.ne_of_gt HG7.out) (.int .i64 (L:Int))).far (o:=6) (Nat.ne_of_gt HG7.out) (.int .i64 (C:Int))))
  have H8c:=hid (Chx.drew ((((Chx.ofOld HW7.out.ol).trans (Chx.ofSet W7 ⟨b,1,none⟩ (.int .i64 (n:Int)))).beyond (o:=5) (Nat.le_of_lt HG7.out) (.int .i64 (L:Int))).beyond (o:=6) (Nat.le_of_lt HG7.out) (.int .i64 (C:Int))))
  generalize World.drew (World.setCell (World.setCell (World.setCell W7 ⟨b,1,none⟩ (.int .i64 (n:Int))) ⟨gt,5,none⟩ (.int .i64 (L:Int))) ⟨gt,6,none⟩ (.int .i64 (C:Int)))=W8 at H8r H8t H8s H8c ⊢
  clear p0 p1 b1 fb t5 t6 ft5 ft6 HW7 HT7
  have a0:=H8t.out.c 0
  have a1:=H8t.out.c 1
  have a2:=H8t.out.c 2
  have a3:=H8t.out.c 3
  have a4:=H8t.out.c 4
  have a5:=H8t.out.c 5
  have a6:=H8t.out.c 6
  have f0:=H8t.out.f 0
  have f1:=H8t.out.f 1
  have f2:=H8t.out.f 2
  have f3:=H8t.out.f 3
  have f4:=H8t.out.f 4
  have f5:=H8t.out.f 5
  have f6:=H8t.out.f 6
  have r0:=H8s.out.c 0
  have r1:=H8s.out.c 1
  have r2:=H8s.out.c 2
  have r3:=H8s.out.c 3
  have r4:=H8s.out.c 4
  have r5:=H8s.out.c 5
  have r6:=H8s.out.c 6
  have z0:=H8s.out.f 0
  have z1:=H8s.out.f 1
  have z2:=H8s.out.f 2
  have z3:=H8s.out.f 3
  have z4:=H8s.out.f 4
  have z5:=H8s.out.f 5
  have z6:=H8s.out.f 6
  go_wp2
  refine bodyPost_ret (ret_tok rfl _ _ w.heap.size rfl rfl (H8s.out.poke _ _ _ _ _ _ _)) rfl ?_
  exact ⟨rfl,H8r.out.poke7 (Ne.symm g7) _ _ _ _ _ _ _,H8c.out.poke7 (Nat.le_refl _) _ _ _ _ _ _ _⟩
end Go.Proofs.YtkellpcljiodeaaGreatDoor
namespace Go.Proofs.YtkellpcljiodeaaGreatDoor
open Go Go.RowKit Go.Lib
set_option linter.unusedVariables false
def lexS:Nat→List UInt8→Nat→Nat→List Tk × Int × Int × Int
 | 0,_,_,_=>([],0,0,0)
 | _+1,[],_,_=>([],0,0,0)
 | f+1,c::r,L,C=>
   if (meanL (kindL (c::r)) ((c::r).take (wlen (c::r)))).2=0 then
    ({ (meanL (kindL (c::r)) ((c::r).take (wlen (c::r)))).1 with ln:=L,cl:=C } ::
      (lexS f (skipL false ((c::r).drop (wlen (c::r))) L (C+wlen (c::r))).1 (skipL false ((c::r).drop (wlen (c::r))) L (C+wlen (c::r))).2.1 (skipL false ((c::r).drop (wlen (c::r))) L (C+wlen (c::r))).2.2).1,
      (lexS f (skipL false ((c::r).drop (wlen (c::r))) L (C+wlen (c::r))).1 (skipL false ((c::r).drop (wlen (c::r))) L (C+wlen (c::r))).2.1 (skipL false ((c::r).drop (wlen (c::r))) L (C+wlen (c::r))).2.2).2)
   else ([],(meanL (kindL (c::r)) ((c::r).take (wlen (c::r)))).2,L,C)
def lexL (l:List UInt8):List Tk × Int × Int × Int:=lexS (l.length+1) (skipL false l 1 1).1 (skipL false l 1 1).2.1 (skipL false l 1 1).2.2
structure Kr (n0:Nat) (A B:World):Prop where
 os:B.os=A.os
 output:B.output=A.output
 size:A.heap.size≤B.heap.size
 block:∀ k o,A.heap[k]?=some o→(k<n0∨∀ cs fr,o≠.cells cs 100 fr)→B.heap[k]?=some o
theorem Kr.ofOld {n0:Nat} {A B:World} (h:Old A B):Kr n0 A B:=⟨h.os,h.output,h.size,fun k o hk _=>(h.block k (blk_lt hk)).trans hk⟩
theorem Kr.trans {n0:Nat} {A B C:World} (h:Kr n0 A B) (k:Kr n0 B C):Kr n0 A C:=
 ⟨k.os.trans h.os,k.output.trans h.output,Nat.le_trans h.size k.size,fun i o hi hs=>k.block i o (h.block i o hi hs) hs⟩
theorem Kr.ofChx {n0 b:Nat} {A B:World} {s:ByteArray} {i L C:Int} (h:Chx (·= b) A B) (hr:Rdr A b s i L C) (hb:n0≤b):Kr n0 A B:=
 ⟨h.os,h.output,h.size,fun k o hk hs=>by
   by_cases e:k=b
   ·subst e
    rcases hs with hs|hs
    ·omega
    ·have:=hk.symm.trans hr
     injection this with this
     exact absurd this (hs _ _)
   ·exact (h.block k (blk_lt hk) e).trans hk⟩
theorem Kr.old {n0:Nat} {w A B:World} (h:Old w A) (k:Kr n0 A B) (hn:w.heap.size≤n0):Old w B:=
 ⟨k.os.trans h.os,k.output.trans h.output,Nat.le_trans h.size k.size,fun i hi=>by
   have hA:=h.block i hi
   obtain ⟨o,ho⟩:∃ o,w.heap[i]?=some o:=⟨_,Array.getElem?_eq_getElem hi⟩
   rw [ho] at hA ⊢
   exact k.block i o hA (Or.inl (by omega))⟩
structure Kb (A B:World):Prop where
 size:A.heap.size≤B.heap.size
 rd:∀ (k:Nat) (cs:Array Value) (fr:Nat × Nat),A.heap[k]?=some (.cells cs 100 fr)→B.heap[k]?=some (.cells cs 100 fr)
theorem Kb.trans {A B C:World} (h:Kb A B) (k:Kb B C):Kb A C:=⟨Nat.le_trans h.size k.size,fun i cs fr hi=>k.rd i cs fr (h.rd i cs fr hi)⟩
theorem Kb.ofOld {A B:World} (h:Old A B):Kb A B:=⟨h.size,fun k cs fr hk=>(h.block k (blk_lt hk)).trans hk⟩
theorem Kb.put {A:World} {l:Nat} {r:Loop} (h:A.heap[l]?=some (.loop r)) (r':Loop):Kb A (A.putObj l (.loop r')):=
 ⟨by simp,fun k cs fr hk=>by
   by_cases e:k=l
   ·subst e
    rw [h] at hk
    cases hk
   ·exact (World.putObj_heap_other e).trans hk⟩
theorem Kb.reader {A B:World} {b:Nat} {s:ByteArray} {i L C:Int} (h:Kb A B) (hr:Rdr A b s i L C):Rdr B b s i L C:=h.rd _ _ _ hr
def TellsW (F:Fence) (n:Nat) (P:Program) (gf:Nat) (lb:Array Value) (n0:Nat) (T:List Tk) (E ln cl:Int) (G:World→Prop):Prop:=
 ∀ (l:Nat) (J:Nat→World→Prop) (Z:World→Prop) (W:World),n0≤W.heap.size→(∀ k A B,J k A→Kr n0 A B→J k B)→(∀ A B,Z A→Kr n0 A B→Z B)→(∀ k A,J k A→G A)→
   (∀ k x A,J k A→T[k]?=some x→YieldAt F (n-1) P l #[x.v,.int .i64 0] A fun e B=>e=.returned (.bool true)∧J (k+1) B∧Kb A B)→
   (∀ (x:Tk) A,J T.length A→E≠0→x.ln=ln→x.cl=cl→YieldAt F (n-1) P l #[x.v,.int .i64 E] A fun e B=>(∃ b,e=.returned (.bool b))∧Z B)→
   J 0 W→CallsIn F n P gf (#[.func (.yield l) #[] #[]]++lb) W fun e B=>(∃ v,e=.returned v)∧(if E=0 then J T.length B else Z B)
def tellPost (B:Nat) (I:World→Prop) (A:World):Exit→Act→World→Prop
 | .normal,_,W=>KeepsFrom B A W∧Kb A W∧I W
 | _,_,_=>False
def stopPost (B:Nat) (I:World→Prop) (A:World):Exit→Act→World→Prop
 | .ret,_,W=>KeepsFrom B A W∧I W
 | _,_,_=>False
theorem KeepsFrom.ofOld {A B:World} (N:Nat) (h:Old A B):KeepsFrom N A B:=⟨h.size,fun k o _ hk _=>(h.block k (blk_lt hk)).trans hk⟩
theorem wpIn_tellsW {F:Fence} {n:Nat} {P:Program} {g:Operand} {ps:Array Tmp} {assign body:Code} {Q:Exit→Act→World→Prop} {a:Act} {w:World}
 (hro:F.round=none) (h1:1≤n) {gf:Nat} {lb:Array Value} (hg:a.eval g=.func (.func gf) #[] lb) (hFg:F.fn gf) (eg:∀ args w,(callFunc gf args).run P w=.ok (.enter gf args) w)
 {n0:Nat} {T:List Tk} {E ln cl:Int} {G:World→Prop} (hseq:TellsW F (n-1) P gf lb n0 T E ln cl G) (hn0:n0≤w.heap.size) (hps:ps.size=2)
 (I:Nat→World→Prop) (Iz:World→Prop) (hIo:∀ k A B,I k A→Kr n0 A B→I k B) (hZo:∀ A B,Iz A→Kr n0 A B→Iz B)
 (hIl:∀ k A l r r',I k A→w.heap.size≤l→A.heap[l]?=some (.loop r)→I k (A.putObj l (.loop r'))) (hZl:∀ A l r r',Iz A→w.heap.size≤l→A.heap[l]?=some (.loop r)→Iz (A.putObj l (.loop r')))
 (hIG:∀ k A,I k A→G A) (h0:I 0 w)
 (Ax:Nat→Tk→Int→Act→World→Prop) (hAl:∀ k x er a' A l r r',Ax k x er a' A→w.heap.size≤l→A.heap[l]?=some (.loop r)→Ax k x er a' (A.putObj l (.loop r')))
 (hassign:∀ l k x er A,I k A→assign.wpIn (F.inRound l) (n-1-1) P (Exit.then (fun a' B=>KeepsFrom w.heap.size A B∧Kb A B∧Ax k x er a' B) (fun _ _ _=>False)) { tmps:=(ps.zip #[x.v,.int .i64 er]).foldl (fun t (p,v)=>t.setIfInBounds p v) a.tmps,defers:=[] } A)
 (hbody:∀ l k x a' A,Ax k x 0 a' A→T[k]?=some x→body.wpIn (F.inRound l) (n-1-1) P (tellPost w.heap.size (I (k+1)) A) a' A)
 (hstopb:∀ l (x:Tk) a' A,Ax T.length x E a' A→E≠0→x.ln=ln→x.cl=cl→body.wpIn (F.inRound l) (n-1-1) P (stopPost w.heap.size Iz A) a' A)
 (hdone:E=0→∀ D A,w.heap.size≤D→I T.length A→A.heap[D]?=some (.deferred (some []))→Q .normal { a with defers:={ target:=.collected D,args:=#[] }::a.defers } A)
 (hstop:E≠0→∀ D A,w.heap.size≤D→Iz A→A.heap[D]?=some (.deferred (some []))→Code.ret.wpIn F n P Q { a with defers:={ target:=.collected D,args:=#[] }::a.defers } A) :
 (Code.rangeFunc g ps assign body).wpIn F n P Q a w:=by
 refine wpIn_rangeFunc ?_
 intro fn hfn
 rw [hro]
 obtain ⟨rec,hrec⟩:∃ rec:LoopState→Option Code→Loop,rec=fun st pe=>{ state:=st,pending:=pe,fn,tmps:=a.tmps,params:=ps,assign,body,defers:=w.heap.size }:=⟨_,rfl⟩
 obtain ⟨W1,hW1⟩:∃ W1,(w.alloc (.deferred (some []))).alloc (.loop (rec .ready none))=W1:=⟨_,rfl⟩
 have hL1:W1.heap[w.heap.size+1]?=some (.loop (rec .ready none)):=by
  rw [←hW1];have:=World.alloc_heap_new (w.alloc (.deferred (some []))) (.loop (rec .ready none));rwa [World.size_alloc] at this
 have hK1:W1.heap[w.heap.size]?=some (.deferred (some [])):=by
  rw [←hW1];exact (Below.heap_alloc _ _ _ (by simp)).trans (World.alloc_heap_new w _)
 have hI1:I 0 W1:=by rw [←hW1];exact hIo _ _ _ h0 (Kr.ofOld (((Old.refl w).alloc _).alloc _))
 have hn1:n0≤W1.heap.size:=by rw [←hW1];simp;omega
 have kl:∀ {A B:World} {k:Nat} {r:Loop},Kr n0 A B→A.heap[k]?=some (.loop r)→B.heap[k]?=some (.loop r):=fun h hk=>h.block _ _ hk (Or.inr fun _ _ e=>by cases e)
 have kd:∀ {A B:World} {k:Nat},Kr n0 A B→A.heap[k]?=some (.deferred (some []))→B.heap[k]?=some (.deferred (some [])):=fun h hk=>h.block _ _ hk (Or.inr fun _ _ e=>by cases e)
 refine ⟨w.heap.size+1,[{ target:=.collected w.heap.size,args:=#[] }],W1,{ target:=.fn (.func gf) lb,args:=#[.func (.yield (w.heap.size+1)) #[] #[]] },W1,gf,
  #[.func (.yield (w.heap.size+1)) #[] #[]]++lb,W1,?_,?_,?_,?_,fun _=>h1,?_⟩
 ·rw [←hW1,hrec];exact run_enterLoop_outer _ _ _ _ _
 ·simp only [resolve,hg]
  simp [go_sem]
 ·intro f' hf';simp [Target.leads] at hf';subst hf';exact hFg
 ·simp [invoke,go_sem,eg]
 ·refine (hseq (w.heap.size+1)
   (fun k W=>I k W∧W.heap[w.heap.size+1]?=some (.loop (rec .ready none))∧W.heap[w.heap.size]?=some (.deferred (some [])))
   (fun W=>Iz W∧W.heap[w.heap.size+1]?=some (.loop (rec .done (some .ret)))∧W.heap[w.heap.size]?=some (.deferred (some [])))
   W1 hn1 (fun k A B h ho=>⟨hIo k A B h.1 ho,kl ho h.2.1,kd ho h.2.2⟩) (fun A B h ho=>⟨hZo A B h.1 ho,kl ho h.2.1,kd ho h.2.2⟩) (fun k A h=>hIG k A h.1) ?_ ?_ ⟨hI1,hL1,hK1⟩).mono ?_
  ·rintro k x W ⟨hi,hl,hk⟩ hkN
   have hlt:w.heap.size+1<W.heap.size:=blk_lt hl
   have hy:=run_yield (P:=P) (args:=#[x.v,.int .i64 0]) hl (by rw [hrec];exact hps.symm)
   rw [hrec] at hy
   refine ⟨fn,_,assign,body,hy,roundIn_of_wpIn hfn (wpIn_mono (hassign (w.heap.size+1) k x 0 W hi) ?_)⟩
   clear hy
   intro e a' Wa hex
   cases e with
   | normal=>
     obtain ⟨hkf,hkb,hax⟩:=hex
     have hl0:=hl
     replace hl:=hkf.same _ _ (by omega) hl rfl
     replace hk:=hkf.same _ _ (Nat.le_refl _) hk rfl
     replace hlt:w.heap.size+1<Wa.heap.size:=blk_lt hl
     refine ⟨_,run_beginRound hl (by rw [hrec]),?_⟩
     have hl2:(Wa.putObj (w.heap.size+1) (.loop { rec .ready none with state:=.busy })).heap[w.heap.size+1]?=some (.loop { rec .ready none with state:=.busy }):=World.putObj_heap_same hlt
     have hk2:(Wa.putObj (w.heap.size+1) (.loop { rec .ready none with state:=.busy })).heap[w.heap.size]?=some (.deferred (some [])):=(World.putObj_heap_other (by omega)).trans hk
     refine wpIn_mono (hbody (w.heap.size+1) k x a' _ (hAl k x 0 a' Wa _ _ _ hax (by omega) hl) hkN) ?_
     rintro e a3 W3 hp
     cases e with
     | normal=>
       obtain ⟨hk3,hkb3,hi3⟩:=hp
       have hl3:=hk3.same _ _ (by omega) hl2 rfl
       have hd3:=hk3.same _ _ (Nat.le_refl _) hk2 rfl
       have hr:=run_endRound (P:=P) none hl3
       rw [hrec] at hr hl3
       refine ⟨_,_,hr,rfl,⟨hIl _ _ _ _ _ hi3 (by omega) hl3,?_,?_⟩,(hkb.trans ((Kb.put hl _).trans hkb3)).trans (Kb.put hl3 _)⟩
       ·rw [hrec]
        exact World.putObj_heap_same (blk_lt hl3)
       ·exact (World.putObj_heap_other (by omega)).trans hd3
     | ret=>exact hp.elim
     | exit id=>exact hp.elim
     | goto t=>exact hp.elim
     | panic ch=>exact hp.elim
     | outgrown=>exact hp.elim
   | ret=>exact hex.elim
   | exit id=>exact hex.elim
   | goto t=>exact hex.elim
   | panic ch=>exact hex.elim
   | outgrown=>exact hex.elim
  ·rintro x W ⟨hi,hl,hk⟩ hE hxl hxc
   have hlt:w.heap.size+1<W.heap.size:=blk_lt hl
   have hy:=run_yield (P:=P) (args:=#[x.v,.int .i64 E]) hl (by rw [hrec];exact hps.symm)
   rw [hrec] at hy
   refine ⟨fn,_,assign,body,hy,roundIn_of_wpIn hfn (wpIn_mono (hassign (w.heap.size+1) T.length x E W hi) ?_)⟩
   clear hy
   intro e a' Wa hex
   cases e with
   | normal=>
     obtain ⟨hkf,hkb,hax⟩:=hex
     have hl0:=hl
     replace hl:=hkf.same _ _ (by omega) hl rfl
     replace hk:=hkf.same _ _ (Nat.le_refl _) hk rfl
     replace hlt:w.heap.size+1<Wa.heap.size:=blk_lt hl
     refine ⟨_,run_beginRound hl (by rw [hrec]),?_⟩
     have hl2:(Wa.putObj (w.heap.size+1) (.loop { rec .ready none with state:=.busy })).heap[w.heap.size+1]?=some (.loop { rec .ready none with state:=.busy }):=World.putObj_heap_same hlt
     have hk2:(Wa.putObj (w.heap.size+1) (.loop { rec .ready none with state:=.busy })).heap[w.heap.size]?=some (.deferred (some [])):=(World.putObj_heap_other (by omega)).trans hk
     refine wpIn_mono (hstopb (w.heap.size+1) x a' _ (hAl _ x E a' Wa _ _ _ hax (by omega) hl) hE hxl hxc) ?_
     rintro e a3 W3 hp
     cases e with
     | ret=>
       obtain ⟨hk3,hi3⟩:=hp
       have hl3:=hk3.same _ _ (by omega) hl2 rfl
       have hd3:=hk3.same _ _ (Nat.le_refl _) hk2 rfl
       have hr:=run_endRound (P:=P) (some .ret) hl3
       rw [hrec] at hr hl3
       refine ⟨_,_,hr,⟨_,rfl⟩,hZl _ _ _ _ hi3 (by omega) hl3,?_,?_⟩
       ·rw [hrec]
        exact World.putObj_heap_same (blk_lt hl3)
       ·exact (World.putObj_heap_other (by omega)).trans hd3
     | normal=>exact hp.elim
     | exit id=>exact hp.elim
     | goto t=>exact hp.elim
     | panic ch=>exact hp.elim
     | outgrown=>exact hp.elim
   | ret=>exact hex.elim
   | exit id=>exact hex.elim
   | goto t=>exact hex.elim
   | panic ch=>exact hex.elim
   | outgrown=>exact hex.elim
  ·rintro e W2 ⟨⟨v,rfl⟩,hfin⟩
   by_cases hE:E=0
   ·rw [if_pos hE] at hfin
    obtain ⟨hi,hl,hk⟩:=hfin
    exact ⟨none,_,by have:=run_endLoop (P:=P) hl (by rw [hrec];simp);rw [hrec] at this;exact this,hdone hE _ _ (Nat.le_refl _) (hIl _ _ _ _ _ hi (by omega) hl) ((World.putObj_heap_other (by omega)).trans hk)⟩
   ·rw [if_neg hE] at hfin
    obtain ⟨hi,hl,hk⟩:=hfin
    exact ⟨some .ret,_,by have:=run_endLoop (P:=P) hl (by rw [hrec];simp);rw [hrec] at this;exact this,hstop hE _ _ (Nat.le_refl _) (hZl _ _ _ _ hi (by omega) hl) ((World.putObj_heap_other (by omega)).trans hk)⟩
end Go.Proofs.YtkellpcljiodeaaGreatDoor
