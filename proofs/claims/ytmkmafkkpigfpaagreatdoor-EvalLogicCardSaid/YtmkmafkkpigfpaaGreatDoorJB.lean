/- The document's reader: to take a word; levels; to put a node. -/
import Derived.Test.YtmkmafkkpigfpaaGreatDoorJA
set_option maxHeartbeats 1600000
namespace Go.Proofs.YtmkmafkkpigfpaaGreatDoor
open Go.ChangeShapes Go.WideShapes Go.ChangeAt Go.RowKit Go.Lib
set_option linter.unusedVariables false
set_option linter.unusedSimpArgs false
set_option maxRecDepth 100000
section
variable {w:World} {b n:Nat} {vw vt:Value} {o e m:Int} {A:List Tk}
theorem rmust_stop (h:RqB w b vw n o vt e m) (he:e≠0) (s:List UInt8) :
 Calls Tryz.prog 99 #[.pointer (some ⟨b,0,none⟩),.string (st s)] w fun e' w'=>e'=.returned (.tuple #[])∧Old w w':=by
 have r4:=h.c 4
 have i0:(e==0)=false:=beq_false_of_ne he
 clear h
 go_enter Tryz.func99,Tryz.ntmps99
 go_wp2
 exact bodyPost_end (v:=.tuple #[]) (by simp [results,Tryz.results99,go_sem]) rfl ⟨rfl,Old.refl _⟩
theorem rmust_ok (h:RqB w b vw n o vt 0 m) (hw:Rw w vw A) (hn:n≤A.length) (hA:A.length≤200000) (s:List UInt8) (hs:s≠[]) (hi:isL s (A.drop n)=true) :
 Calls Tryz.prog 99 #[.pointer (some ⟨b,0,none⟩),.string (st s)] w fun e' w'=>e'=.returned (.tuple #[])∧Chx (·= b) w w'∧RqB w' b vw ((n+1:Nat):Int) o vt 0 m:=by
 have hx:=rnext_any h hw hn hA
 rw [next_is hs] at hi
 have hq:nextL (A.drop n)=s:=by simpa using hi
 rw [hq] at hx
 have HR:=hid h
 have r4:=h.c 4
 clear h hi hq
 go_enter Tryz.func99,Tryz.ntmps99
 go_wp2_with (first
  | (go_at_call 48;refine hx.mono ?_;rintro e w1 ⟨rfl,o1⟩;have H1:=hid (HR.out.old o1);have O1:=hid o1;clear o1;have k1:=H1.out.c 1;have k4:=H1.out.c 4;have g1:=H1.out.f 1))
 exact bodyPost_end (v:=.tuple #[]) (by simp [results,Tryz.results99,go_sem]) rfl ⟨rfl,(Chx.ofOld O1.out).trans (Chx.ofSet _ ⟨b,1,none⟩ _),H1.out.set1 _⟩
theorem rmust_no (h:RqB w b vw n o vt 0 m) (hw:Rw w vw A) (hn:n≤A.length) (hA:A.length≤200000) (s:List UInt8) (hs:s≠[]) (hi:isL s (A.drop n)=false) :
 Calls Tryz.prog 99 #[.pointer (some ⟨b,0,none⟩),.string (st s)] w fun e' w'=>e'=.returned (.tuple #[])∧Chx (·= b) w w'∧RqB w' b vw n o vt 4 n:=by
 have hx:=rnext_any h hw hn hA
 rw [next_is hs] at hi
 obtain ⟨t,ht⟩:∃ t,t=nextL (A.drop n):=⟨_,rfl⟩
 rw [←ht] at hx hi
 have hq2:(st t==st s)=false:=by rw [st_beq];exact hi
 have HR:=hid h
 have r4:=h.c 4
 clear h ht
 go_enter Tryz.func99,Tryz.ntmps99
 go_wp2_with (first
  | (go_at_call 48;refine hx.mono ?_;rintro e w1 ⟨rfl,o1⟩;have H1:=hid (HR.out.old o1);have O1:=hid o1;clear o1;have k4:=H1.out.c 4)
  | (go_at_call 96;refine (rstop_any H1.out 4).mono ?_;rintro e w2 ⟨rfl,c2,h2⟩;rw [if_pos rfl,if_pos rfl] at h2;have H2:=hid h2;have C2:=hid ((Chx.ofOld O1.out).trans c2);clear c2 h2;have j4:=H2.out.c 4))
 exact bodyPost_end (v:=.tuple #[]) (by simp [results,Tryz.results99,go_sem]) rfl ⟨rfl,C2.out,H2.out⟩
theorem rdeep_ok (h:RqB w b vw n o vt e m) (ho:0≤o) (ho2:o<12) :
 Calls Tryz.prog 49 #[.pointer (some ⟨b,0,none⟩)] w fun e' w'=>e'=.returned (.tuple #[])∧Chx (·= b) w w'∧RqB w' b vw n (o+1) vt e m:=by
 have HR:=hid h
 have r2:=h.c 2
 have f2:=h.f 2
 clear h
 go_enter Tryz.func49,Tryz.ntmps49
 go_wp2
 exact bodyPost_end (v:=.tuple #[]) (by simp [results,Tryz.results49,go_sem]) rfl ⟨rfl,Chx.ofSet _ ⟨b,2,none⟩ _,HR.out.set2 _⟩
theorem rdeep_no (h:RqB w b vw n o vt 0 m) (ho:12≤o) (ho2:o≤1000) :
 Calls Tryz.prog 49 #[.pointer (some ⟨b,0,none⟩)] w fun e' w'=>e'=.returned (.tuple #[])∧Chx (·= b) w w'∧RqB w' b vw n (o+1) vt 12 n:=by
 have HR:=hid h
 have r2:=h.c 2
 clear h
 go_enter Tryz.func49,Tryz.ntmps49
 go_wp2_with (first
  | (go_at_call 96;refine (rstop_any HR.out 12).mono ?_;rintro e w2 ⟨rfl,c2,h2⟩;rw [if_pos rfl,if_pos rfl] at h2;have H2:=hid h2;have C2:=hid c2;clear c2 h2;have j2:=H2.out.c 2;have g2:=H2.out.f 2))
 exact bodyPost_end (v:=.tuple #[]) (by simp [results,Tryz.results49,go_sem]) rfl ⟨rfl,C2.out.trans (Chx.ofSet _ ⟨b,2,none⟩ _),H2.out.set2 _⟩
end
theorem RqB.grown {W w':World} {base size k b:Nat} {v:Value} {cs:List Value} {vw vt:Value} {n o e m:Int} (h:RqB W b vw n o vt e m) (hg:W.grownBy w' v.ownBlock) (ho:W.ownsRow base 54 size v k cs):RqB w' b vw n o vt e m:=
 grown_at h hg ho (fun cs fr e=>by injection e with _ e2;cases e2)
theorem own_chq {w w':World} {b base n size:Nat} {e:TypeId} {v:Value} {cs:List Value} {vw vt:Value} {i o er m:Int} (h:w.ownsRow base e size v n cs) (he2:e≠82) (hr:RqB w b vw i o vt er m) (c:Chx (·= b) w w'):w'.ownsRow base e size v n cs:=by
 refine ⟨h.1,?_⟩
 rcases h.2 with h'|⟨g,cap,cur,rfl,hb',hg,hc⟩
 ·exact Or.inl h'
 ·exact Or.inr ⟨g,cap,cur,rfl,hb',(c.block g (blk_lt hg) (hr.ne hg he2)).trans hg,hc⟩
structure Cv (b:Nat) (v v':Value) (w w':World):Prop where
 os:w'.os=w.os
 output:w'.output=w.output
 size:w.heap.size≤w'.heap.size
 block:∀ k,k<w.heap.size→k≠b→v.ownBlock≠some k→w'.heap[k]?=w.heap[k]?
 own:∀ g,v'.ownBlock=some g→v.ownBlock=some g∨w.heap.size≤g
section
variable {b:Nat} {v v' v'':Value} {w w' w'':World}
theorem Cv.ofChx (h:Chx (·= b) w w'):Cv b v v w w':=⟨h.os,h.output,h.size,fun k hk hb _=>h.block k hk hb,fun _ h=>Or.inl h⟩
theorem Cv.ofOld (h:Old w w'):Cv b v v w w':=Cv.ofChx (Chx.ofOld h)
theorem Cv.trans (h:Cv b v v' w w') (k:Cv b v' v'' w' w''):Cv b v v'' w w'':=
 ⟨k.os.trans h.os,k.output.trans h.output,Nat.le_trans h.size k.size,fun i hi hb hv=>
   (k.block i (Nat.lt_of_lt_of_le hi h.size) hb (fun e=>by rcases h.own i e with e'|e';exact hv e';omega)).trans (h.block i hi hb hv),
  fun g e=>by
   rcases k.own g e with e'|e'
   ·exact h.own g e'
   ·exact Or.inr (Nat.le_trans h.size e')⟩
theorem Cv.old {a:World} (h:Cv b v v' w w') (ho:Old a w) (hb:a.heap.size≤b) (hv:∀ g,v.ownBlock=some g→a.heap.size≤g):Old a w':=
 ⟨h.os.trans ho.os,h.output.trans ho.output,Nat.le_trans ho.size h.size,fun k hk=>(h.block k (Nat.lt_of_lt_of_le hk ho.size) (by omega) (fun e=>by have:=hv k e;omega)).trans (ho.block k hk)⟩
theorem Cv.at {k:Nat} {ob:Obj} (h:Cv b v v' w w') (hk:w.heap[k]?=some ob) (hb:k≠b) (hv:v.ownBlock≠some k):w'.heap[k]?=some ob:=(h.block k (blk_lt hk) hb hv).trans hk
end
theorem row_ne {w:World} {base size n k:Nat} {v:Value} {cs:List Value} {ds:Array Value} {t:TypeId} {fr:Nat × Nat} (h:w.ownsRow base 54 size v n cs) (hk:w.heap[k]?=some (.cells ds t fr)) (ht:t≠54):v.ownBlock≠some k:=by
 intro e
 rcases h.2 with ⟨rfl,_⟩|⟨g,cap,cur,rfl,_,hg,_⟩
 ·simp [Value.ownBlock] at e
 ·have:g=k:=by simpa [Value.ownBlock] using e
  subst this
  rw [hk] at hg
  injection hg with hg
  injection hg with _ e2 _
  exact ht e2
theorem row_lo {w:World} {base size n k:Nat} {v:Value} {cs:List Value} {e:TypeId} (h:w.ownsRow base e size v n cs) (hk:v.ownBlock=some k):base≤k:=by
 rcases h.2 with ⟨rfl,_⟩|⟨g,cap,cur,rfl,h1,_⟩
 ·simp [Value.ownBlock] at hk
 ·have:g=k:=by simpa [Value.ownBlock] using hk
  omega
theorem own_cv {w w':World} {b base base' n size k size':Nat} {e:TypeId} {u v v':Value} {xs cs:List Value} {vw vt:Value} {i o er m:Int} (h:w.ownsRow base e size u n xs) (he:e≠54) (he2:e≠82) (hr:RqB w b vw i o vt er m) (hv:w.ownsRow base' 54 size' v k cs) (c:Cv b v v' w w'):w'.ownsRow base e size u n xs:=by
 refine ⟨h.1,?_⟩
 rcases h.2 with h'|⟨g,cap,cur,rfl,hb',hg,hc⟩
 ·exact Or.inl h'
 ·exact Or.inr ⟨g,cap,cur,rfl,hb',c.at hg (hr.ne hg he2) (row_ne hv hg he),hc⟩
theorem rput_any {w:World} {b base N:Nat} {vw vt:Value} {n o e m:Int} (h:RqB w b vw n o vt e m) {cs:List Value} (t2:w.ownsRow base 54 8 vt N cs) (hbase:base≤w.heap.size) (x:Nd) (kv:Value) (hks:kv.oneCell'=true) (hN:N≤1000000) :
 Calls Tryz.prog 50 #[.pointer (some ⟨b,0,none⟩),x.val kv] w fun e' w'=>e'=.returned (.int .i64 (N:Int))∧∃ v5,Cv b vt v5 w w'∧RqB w' b vw n o v5 e m∧w'.ownsRow base 54 8 v5 (N+1) (cs++x.cells kv):=by
 obtain ⟨op,vk,vn,vs,nm,ks,ln,cl⟩:=x
 obtain ⟨i,hi,hz,hsz,hby⟩:=info_parts info37
 obtain ⟨oa,cap,rfl⟩:=own_shape t2
 have ho1:=(Old.refl w).alloc (.cells (ncl op vk vn vs nm kv ln cl) 54)
 have hr1:=h.old ho1
 have d0:(w.alloc (.cells (ncl op vk vn vs nm kv ln cl) 54)).heap[w.heap.size]?=some (.cells (ncl op vk vn vs nm kv ln cl) 54 (0,0)):=(MapKept.heap_alloc w _).1
 have hown:=own_old t2 ho1
 go_enter Tryz.func50,Tryz.ntmps50
 go_wp2
 generalize hW1:w.alloc (.cells (ncl op vk vn vs nm kv ln cl) 54)=W at *
 have r3:=hr1.c 3
 have f3:=hr1.f 3
 have c0:W.cell? ⟨w.heap.size,0,none⟩=some (.int .u8 op):=by simp [World.cell?,d0]
 have c1:W.cell? ⟨w.heap.size,1,none⟩=some (.int .u8 vk):=by simp [World.cell?,d0]
 have c2:W.cell? ⟨w.heap.size,2,none⟩=some (.int .i64 vn):=by simp [World.cell?,d0]
 have c3:W.cell? ⟨w.heap.size,3,none⟩=some (.string (st vs)):=by simp [World.cell?,d0]
 have c4:W.cell? ⟨w.heap.size,4,none⟩=some (.string (st nm)):=by simp [World.cell?,d0]
 have c5:W.cell? ⟨w.heap.size,5,none⟩=some kv:=by simp [World.cell?,d0]
 have c6:W.cell? ⟨w.heap.size,6,none⟩=some (.int .i64 ln):=by simp [World.cell?,d0]
 have c7:W.cell? ⟨w.heap.size,7,none⟩=some (.int .i64 cl):=by simp [World.cell?,d0]
 have hlt:w.heap.size<W.heap.size:=blk_lt d0
 have n1:W.heap.size≠w.heap.size:=Nat.ne_of_gt hlt
 have n2:W.heap.size≠b:=Nat.ne_of_gt hr1.lt
 have ho2:=((Old.refl W).alloc (.cells (ncl op vk vn vs nm kv ln cl) 54)).drew
 have OWN:=hid (own_old hown ho2)
 have NEWS:=hid (fun (j:Nat) (u:Value) (hj:(ncl op vk vn vs nm kv ln cl).toList[j]?=some u)=>(World.news_of_block (w:=(W.alloc (.cells (ncl op vk vn vs nm kv ln cl) 54)).drew) (B:=W.heap.size) (cs:=ncl op vk vn vs nm kv ln cl) (MapKept.heap_alloc W _).1 j u hj))
 have ONE:=hid (show ∀ u∈(ncl op vk vn vs nm kv ln cl).toList,u.oneCell'=true from fun u hu=>by
  simp only [List.mem_cons,List.not_mem_nil,or_false] at hu
  rcases hu with rfl|rfl|rfl|rfl|rfl|rfl|rfl|rfl
  all_goals first|rfl|exact hks)
 have L1:=hid (show (N+1)*96≤140737488355328 by omega)
 have L2:=hid (show N+1≤maxLen by unfold maxLen;omega)
 have L3:=hid (show base≤((W.alloc (.cells (ncl op vk vn vs nm kv ln cl) 54)).drew).heap.size from Nat.le_trans (Nat.le_trans hbase ho1.size) ho2.size)
 have HR:=hid (hr1.old ho2)
 have p3:=HR.out.c 3
 have p3':=(hr1.old ((Old.refl W).alloc (.cells (ncl op vk vn vs nm kv ln cl) 54))).c 3
 have HO:=hid (ho1.trans ho2)
 have ho1s:=ho1.size
 have ho2s:=ho2.size
 clear hW1 d0 hlt ho2 hown t2 h ho1 hr1 hks
 have HSZ:=hid (Nat.le_trans ho1s ho2s)
 go_region_law (first
  | (refine step_append_lies _ rfl _ _ 29 rfl base 54 i _ 8 96 Tryz.underlying29 hi hz hsz hby rfl (Nat.zero_lt_succ 7) (.slice oa N cap) N cs rfl OWN.out ⟨W.heap.size,0,none⟩ 1 1 _ rfl rfl NEWS.out ONE.out (Nat.zero_lt_succ 0) L2.out L1.out L3.out _ rfl ?_;intro g5 c5' w5 hown hgr hlie _;have HR5:=hid (HR.out.grown hgr OWN.out);have HW:=hid hown;have HG:=hid (show Cv b (.slice oa N cap) (.slice (some ⟨g5,0,none⟩) (N+1) c5') w w5 from ⟨hgr.os.trans HO.out.os,hgr.output.trans HO.out.output,Nat.le_trans HO.out.size hgr.size,fun k hk _ hv=>(hgr.block k (Nat.lt_of_lt_of_le hk HO.out.size) (fun e=>hv e.symm)).trans (HO.out.block k hk),fun g e=>by
      obtain rfl:g5=g:=by simpa [Value.ownBlock] using e
      rcases hlie with h1|h1
      ·exact Or.inl h1
      ·exact Or.inr (by rw [h1];exact HSZ.out)⟩);clear hown hgr hlie;have q3:=HR5.out.c 3;have g3:=HR5.out.f 3))
 all_goals
  have z3:=(HR5.out.set3 (.slice (some ⟨g5,0,none⟩) (N+1) c5')).c 3
  clear p3 p3' q3 g3
  go_wp2
  go_ret
  have hc3:Chx (·= b) w5 (w5.setCell ⟨b,3,none⟩ (.slice (some ⟨g5,0,none⟩) (N+1) c5')):=Chx.ofSet w5 ⟨b,3,none⟩ _
  exact ⟨by simp,_,HG.out.trans (Cv.ofChx hc3),HR5.out.set3 _,own_chq HW.out (by decide) HR5.out hc3⟩
end Go.Proofs.YtmkmafkkpigfpaaGreatDoor
