/- Layer lexer: what a word means. what a word means, by its kind. -/
import Derived.Test.YtkellpcljiodeaaGreatDoorTI
set_option maxHeartbeats 1600000
namespace Go.Proofs.YtkellpcljiodeaaGreatDoor
open Go.ChangeShapes Go.WideShapes Go.ChangeAt Go.RowKit Go.Lib
set_option linter.unusedVariables false
set_option linter.unusedSimpArgs false
set_option maxRecDepth 100000
def namedL (k:Int) (l:List UInt8):Tk × Int:=if isName l then (⟨k,l,0,0,[],0,0⟩,0) else (Tk.zero,4)
def valuedL (k:Int) (l:List UInt8):Tk × Int:=
 if (parseL l).e=9 then (Tk.zero,9) else if (parseL l).e≠0 then (Tk.zero,4)
 else (⟨k,if k=5 then l.tail.take (l.length-2) else l,(parseL l).k,(parseL l).n,(parseL l).s,0,0⟩,0)
def meanL (k:Nat) (l:List UInt8):Tk × Int:=
 if k=1 then namedL 1 l else if k=2 then namedL 2 l.tail
 else if k=6 then (if (namedL 6 l.tail).2=0 then ({ (namedL 6 l.tail).1 with vk:=5,vs:=l.tail },0) else namedL 6 l.tail)
 else if k=4 then valuedL 4 l else if k=5 then valuedL 5 l
 else if k=3 then (⟨3,[],0,0,[],0,0⟩,0) else if k=7 then (⟨7,l,0,0,[],0,0⟩,0) else (Tk.zero,4)
abbrev tokX (x:Tk × Int):Ending:=tokE x.1.v x.2
theorem st_list (s:ByteArray):st s.data.toList=s:=by cases s;rfl
theorem Sv.drew {w:World} {b:Nat} {x0 x1 x2 x3 x4 x5 x6:Value} (h:Sv w b x0 x1 x2 x3 x4 x5 x6):Sv w.drew b x0 x1 x2 x3 x4 x5 x6:=h
theorem cell_far7 {w:World} {b g o:Nat} (h:g≠b) (y0 y1 y2 y3 y4 y5 y6:Value):(poke7 w b y0 y1 y2 y3 y4 y5 y6).cell? ⟨g,o,none⟩=w.cell? ⟨g,o,none⟩:=by
 refine World.cell?_of_block ?_
 simp only [World.setCell]
 simp [Array.getElem?_modify,Ne.symm h]
theorem valued_any (k:Nat) (hk:k=4∨k=5) (s:ByteArray) (w:World) (hs:s.size≤900000) (he:Env w) (h2:k=5→(parseL s.data.toList).e=0→2≤s.size) :
 Calls Tryz.prog 138 #[.int .u8 (k:Int),.string s] w fun e w'=>e=tokX (valuedL k s.data.toList)∧Old w w':=by
 have hpa:=fun W hW=>parse_any s.data.toList (by rw [Array.length_toList];exact (show s.data.size≤1000000 from Nat.le_trans hs (by omega))) W hW
 rw [st_list] at hpa
 have hlen:s.data.toList.length=s.size:=Array.length_toList
 unfold valuedL
 rw [hlen]
 obtain ⟨⟨K,N,E,S⟩,hp⟩:∃ p,p=parseL s.data.toList:=⟨_,rfl⟩
 rw [←hp] at hpa h2 ⊢
 simp only at h2
 have HPA:=hid hpa
 have HS:=hid (sv0 w)
 have HO:=hid ((Old.refl w).alloc (.cells #[.int .u8 0,.string ⟨#[]⟩,.int .u8 0,.int .i64 0,.string ⟨#[]⟩,.int .i64 0,.int .i64 0] 57))
 have HE:=hid he
 have H2:=hid h2
 clear hpa he hp h2
 go_enter Tryz.func138,Tryz.ntmps138
 by_cases h9:E=9
 ·subst h9
  go_wp2_with (first
   | (go_at_call 166;refine (HPA.out _ (HE.out.old HO.out)).mono ?_;rintro e w1 ⟨rfl,o1⟩;replace HO:=hid (HO.out.trans (o1.alloc (.cells #[.int .u8 K,.int .i64 N,.string (st S)] 35)));replace HS:=hid (HS.out.old (o1.alloc (.cells #[.int .u8 K,.int .i64 N,.string (st S)] 35)));have HN:=hid (Nat.lt_of_lt_of_le (sv0 w).lt o1.size);have a0:=HS.out.c 0;have a1:=HS.out.c 1;have a2:=HS.out.c 2;have a3:=HS.out.c 3;have a4:=HS.out.c 4;have a5:=HS.out.c 5;have a6:=HS.out.c 6;have f0:=HS.out.f 0;have f1:=HS.out.f 1;have f2:=HS.out.f 2;have f3:=HS.out.f 3;have f4:=HS.out.f 4;have f5:=HS.out.f 5;have f6:=HS.out.f 6))
  refine bodyPost_ret (ret_tok rfl _ _ w.heap.size rfl rfl (HS.out.poke _ _ _ _ _ _ _)) rfl ?_
  exact ⟨rfl,old_poke7 HO.out (Nat.le_refl _) _ _ _ _ _ _ _⟩
 by_cases h0:E=0
 ·subst h0
  rcases hk with rfl|rfl
  ·have hcl:=fun W=>clone_any s W (by omega)
   go_wp2_with (first
    | (go_at_call 166;refine (HPA.out _ (HE.out.old HO.out)).mono ?_;rintro e w1 ⟨rfl,o1⟩;replace HO:=hid (HO.out.trans (o1.alloc (.cells #[.int .u8 K,.int .i64 N,.string (st S)] 35)));replace HS:=hid (HS.out.old (o1.alloc (.cells #[.int .u8 K,.int .i64 N,.string (st S)] 35)));have HN:=hid (Nat.lt_of_lt_of_le (sv0 w).lt o1.size);have a0:=HS.out.c 0;have a1:=HS.out.c 1;have a2:=HS.out.c 2;have a3:=HS.out.c 3;have a4:=HS.out.c 4;have a5:=HS.out.c 5;have a6:=HS.out.c 6;have f0:=HS.out.f 0;have f1:=HS.out.f 1;have f2:=HS.out.f 2;have f3:=HS.out.f 3;have f4:=HS.out.f 4;have f5:=HS.out.f 5;have f6:=HS.out.f 6))
   obtain ⟨W2,hW2⟩:∃ W2,W2=w1.alloc (.cells #[.int .u8 K,.int .i64 N,.string (st S)] 35):=⟨_,rfl⟩
   have ht3:Three W2 w1.heap.size (.int .u8 K) (.int .i64 N) (.string (st S)):=by rw [hW2];exact Three.new w1 _ _ _
   rw [←hW2] at HS HO ⊢
   have HT:=hid ht3
   have t0:=ht3.c0
   have t1:=ht3.c1
   have t2:=ht3.c2
   clear hW2 ht3 a0 a1 a2 a3 a4 a5 a6 f0 f1 f2 f3 f4 f5 f6
   go_region_held3 (fun w'=>w'.cell? ⟨w1.heap.size,0,none⟩=some (.int .u8 K)∧w'.cell? ⟨w1.heap.size,1,none⟩=some (.int .i64 N)∧w'.cell? ⟨w1.heap.size,2,none⟩=some (.string (st S)))
    (first|with_reducible exact ⟨t0,t1,t2⟩|with_reducible exact ⟨u0,u1,u2⟩|with_reducible exact ⟨(cell_far7 (Nat.ne_of_gt HN.out) _ _ _ _ _ _ _).trans u0,(cell_far7 (Nat.ne_of_gt HN.out) _ _ _ _ _ _ _).trans u1,(cell_far7 (Nat.ne_of_gt HN.out) _ _ _ _ _ _ _).trans u2⟩|go_keep)
    (first
      | (go_at_call 104;refine (hcl _).mono ?_;rintro e w3 ⟨rfl,o3⟩;have HS3:=hid (Sv.old HS.out.drew o3);have HO3:=hid (HO.out.drew.trans o3);have HT3:=hid (Three.old HT.out.drew o3);have u0:=HT3.out.c0;have u1:=HT3.out.c1;have u2:=HT3.out.c2;have a0:w3.cell? ⟨w.heap.size,0,none⟩=some (.int .u8 0):=HS3.out.c 0;have a1:w3.cell? ⟨w.heap.size,1,none⟩=some (.string ⟨#[]⟩):=HS3.out.c 1;have a2:w3.cell? ⟨w.heap.size,2,none⟩=some (.int .u8 0):=HS3.out.c 2;have a3:w3.cell? ⟨w.heap.size,3,none⟩=some (.int .i64 0):=HS3.out.c 3;have a4:w3.cell? ⟨w.heap.size,4,none⟩=some (.string ⟨#[]⟩):=HS3.out.c 4;have a5:w3.cell? ⟨w.heap.size,5,none⟩=some (.int .i64 0):=HS3.out.c 5;have a6:w3.cell? ⟨w.heap.size,6,none⟩=some (.int .i64 0):=HS3.out.c 6;have f0:=HS3.out.f 0;have f1:=HS3.out.f 1;have f2:=HS3.out.f 2;have f3:=HS3.out.f 3;have f4:=HS3.out.f 4;have f5:=HS3.out.f 5;have f6:=HS3.out.f 6))
   all_goals
    go_wp2
    refine bodyPost_ret (ret_tok rfl _ _ w.heap.size rfl rfl (HS3.out.poke _ _ _ _ _ _ _)) rfl ?_
    exact ⟨by rw [←st_list s];rfl,old_poke7 HO3.out (Nat.le_refl _) _ _ _ _ _ _ _⟩
  ·have h2s:=H2.out rfl rfl
   have hxl:st (s.data.toList.tail.take (s.size-2))=s.extract 1 (s.size-1):=by
    apply ba_ext
    rw [Lib.extract_toList,ByteArray.toList_eq]
    rw [show s.size-1-1=s.size-2 by omega,List.drop_one]
   obtain ⟨z,hz⟩:∃ z,z=st (s.data.toList.tail.take (s.size-2)):=⟨_,rfl⟩
   have hzs:z.size≤1000000:=by
    rw [hz,hxl,ByteArray.size_extract]
    omega
   have hcl:=fun W=>clone_any z W hzs
   have hsl:∀ W,(Instr.slice 9 (.string s) (some (.int .i64 1)) (some (.int .i64 ((s.size:Int)-1))) none).run Tryz.prog W=.ok (.string z) W:=fun W=>by
    rw [run_slice_string W 9 s .i64 .i64 1 ((s.size:Int)-1) Tryz.underlying9 (by omega) (by omega) (by omega),hz,hxl]
    congr 4
    omega
   have HZ:=hid hz
   clear hz hxl
   go_wp2_with (first
    | (go_at_call 166;refine (HPA.out _ (HE.out.old HO.out)).mono ?_;rintro e w1 ⟨rfl,o1⟩;replace HO:=hid (HO.out.trans (o1.alloc (.cells #[.int .u8 K,.int .i64 N,.string (st S)] 35)));replace HS:=hid (HS.out.old (o1.alloc (.cells #[.int .u8 K,.int .i64 N,.string (st S)] 35)));have HN:=hid (Nat.lt_of_lt_of_le (sv0 w).lt o1.size);have a0:=HS.out.c 0;have a1:=HS.out.c 1;have a2:=HS.out.c 2;have a3:=HS.out.c 3;have a4:=HS.out.c 4;have a5:=HS.out.c 5;have a6:=HS.out.c 6;have f0:=HS.out.f 0;have f1:=HS.out.f 1;have f2:=HS.out.f 2;have f3:=HS.out.f 3;have f4:=HS.out.f 4;have f5:=HS.out.f 5;have f6:=HS.out.f 6))
   obtain ⟨W2,hW2⟩:∃ W2,W2=w1.alloc (.cells #[.int .u8 K,.int .i64 N,.string (st S)] 35):=⟨_,rfl⟩
   have ht3:Three W2 w1.heap.size (.int .u8 K) (.int .i64 N) (.string (st S)):=by rw [hW2];exact Three.new w1 _ _ _
   rw [←hW2] at HS HO ⊢
   have HT:=hid ht3
   have t0:=ht3.c0
   have t1:=ht3.c1
   have t2:=ht3.c2
   clear hW2 ht3 a0 a1 a2 a3 a4 a5 a6 f0 f1 f2 f3 f4 f5 f6
   go_region_held3 (fun w'=>w'.cell? ⟨w1.heap.size,0,none⟩=some (.int .u8 K)∧w'.cell? ⟨w1.heap.size,1,none⟩=some (.int .i64 N)∧w'.cell? ⟨w1.heap.size,2,none⟩=some (.string (st S)))
    (first|with_reducible exact ⟨t0,t1,t2⟩|with_reducible exact ⟨u0,u1,u2⟩|with_reducible exact ⟨(cell_far7 (Nat.ne_of_gt HN.out) _ _ _ _ _ _ _).trans u0,(cell_far7 (Nat.ne_of_gt HN.out) _ _ _ _ _ _ _).trans u1,(cell_far7 (Nat.ne_of_gt HN.out) _ _ _ _ _ _ _).trans u2⟩|go_keep)
    (first
      | (go_at_call 104;refine (hcl _).mono ?_;rintro e w3 ⟨rfl,o3⟩;have HS3:=hid (Sv.old HS.out.drew o3);have HO3:=hid (HO.out.drew.trans o3);have HT3:=hid (Three.old HT.out.drew o3);have u0:=HT3.out.c0;have u1:=HT3.out.c1;have u2:=HT3.out.c2;have a0:w3.cell? ⟨w.heap.size,0,none⟩=some (.int .u8 0):=HS3.out.c 0;have a1:w3.cell? ⟨w.heap.size,1,none⟩=some (.string ⟨#[]⟩):=HS3.out.c 1;have a2:w3.cell? ⟨w.heap.size,2,none⟩=some (.int .u8 0):=HS3.out.c 2;have a3:w3.cell? ⟨w.heap.size,3,none⟩=some (.int .i64 0):=HS3.out.c 3;have a4:w3.cell? ⟨w.heap.size,4,none⟩=some (.string ⟨#[]⟩):=HS3.out.c 4;have a5:w3.cell? ⟨w.heap.size,5,none⟩=some (.int .i64 0):=HS3.out.c 5;have a6:w3.cell? ⟨w.heap.size,6,none⟩=some (.int .i64 0):=HS3.out.c 6;have f0:=HS3.out.f 0;have f1:=HS3.out.f 1;have f2:=HS3.out.f 2;have f3:=HS3.out.f 3;have f4:=HS3.out.f 4;have f5:=HS3.out.f 5;have f6:=HS3.out.f 6))
   all_goals
    go_wp2
    refine bodyPost_ret (ret_tok rfl _ _ w.heap.size rfl rfl (HS3.out.poke _ _ _ _ _ _ _)) rfl ?_
    exact ⟨by rw [HZ.out];rfl,old_poke7 HO3.out (Nat.le_refl _) _ _ _ _ _ _ _⟩
 ·go_wp2_with (first
   | (go_at_call 166;refine (HPA.out _ (HE.out.old HO.out)).mono ?_;rintro e w1 ⟨rfl,o1⟩;replace HO:=hid (HO.out.trans (o1.alloc (.cells #[.int .u8 K,.int .i64 N,.string (st S)] 35)));replace HS:=hid (HS.out.old (o1.alloc (.cells #[.int .u8 K,.int .i64 N,.string (st S)] 35)));have HN:=hid (Nat.lt_of_lt_of_le (sv0 w).lt o1.size);have a0:=HS.out.c 0;have a1:=HS.out.c 1;have a2:=HS.out.c 2;have a3:=HS.out.c 3;have a4:=HS.out.c 4;have a5:=HS.out.c 5;have a6:=HS.out.c 6;have f0:=HS.out.f 0;have f1:=HS.out.f 1;have f2:=HS.out.f 2;have f3:=HS.out.f 3;have f4:=HS.out.f 4;have f5:=HS.out.f 5;have f6:=HS.out.f 6))
  refine bodyPost_ret (ret_tok rfl _ _ w.heap.size rfl rfl (HS.out.poke _ _ _ _ _ _ _)) rfl ?_
  exact ⟨rfl,old_poke7 HO.out (Nat.le_refl _) _ _ _ _ _ _ _⟩
theorem meaning_any (k:Nat) (hk:k≤7) (s:ByteArray) (w:World) (hs:s.size≤900000) (h1:1≤s.size) (he:Env w) (h2:k=5→(parseL s.data.toList).e=0→2≤s.size) :
 Calls Tryz.prog 96 #[.int .u8 (k:Int),.string s] w fun e w'=>e=tokX (meanL k s.data.toList)∧Old w w':=by
 have hst:=st_list s
 have hval:=fun (k':Nat) (hk':k'=4∨k'=5) (hkk:k'=k) W hW=>valued_any k' hk' s W hs hW (by rw [hkk];exact h2)
 obtain ⟨z,hz⟩:∃ z,z=st s.data.toList.tail:=⟨_,rfl⟩
 have hzl:z.data.toList=s.data.toList.tail:=by rw [hz]
 have hsl:∀ W,(Instr.slice 9 (.string s) (some (.int .i64 1)) none none).run Tryz.prog W=.ok (.string z) W:=fun W=>by
  rw [run_slice_string_l W 9 s Tryz.underlying9 .i64 1 (by omega) (by omega),hz]
  congr 2
  apply ba_ext
  rw [Lib.extract_toList,ByteArray.toList_eq,←List.drop_one,List.take_of_length_le (by rw [List.length_drop,Array.length_toList];exact Nat.le_refl _)]
  rfl
 have hzs:z.size≤900000:=by
  have h3:z.data.toList.length=z.size:=Array.length_toList
  have h4:s.data.toList.length=s.size:=Array.length_toList
  rw [←h3,hzl,List.length_tail]
  omega
 have hnz:=fun (k':Int) W=>named_any k' z _ W (by omega) (fun W'=>lname_any z W' hzs)
 have hns:=fun (k':Int) W=>named_any k' s _ W (by omega) (fun W'=>lname_any s W' hs)
 have hcl:=fun W=>clone_any s W (by omega)
 rw [hzl] at hnz
 have HZ:=hid hz
 have HST:=hid hst
 have HS:=hid (sv0 w)
 have HO:=hid ((Old.refl w).alloc (.cells #[.int .u8 0,.string ⟨#[]⟩,.int .u8 0,.int .i64 0,.string ⟨#[]⟩,.int .i64 0,.int .i64 0] 57))
 have HE:=hid he
 clear he hz hzl hst h2
 have hk8:k=0∨k=1∨k=2∨k=3∨k=4∨k=5∨k=6∨k=7:=by omega
 rcases hk8 with rfl|rfl|rfl|rfl|rfl|rfl|rfl|rfl
 ·go_enter Tryz.func96,Tryz.ntmps96
  go_wp2_with fail
  refine bodyPost_ret (ret_tok rfl _ _ w.heap.size rfl rfl (Sv.new w)) rfl ?_
  exact ⟨rfl,(Old.refl w).alloc _⟩
 ·have e:meanL 1 s.data.toList=namedL 1 s.data.toList:=rfl
  rw [e]
  unfold namedL
  cases hB:isName s.data.toList
  all_goals
   simp only [hB] at hns
   go_enter Tryz.func96,Tryz.ntmps96
   go_wp2_with (first
    | (go_at_call 137;refine (hns 1 _).mono ?_;rintro e w2 ⟨rfl,o2⟩;replace HS:=hid (HS.out.old o2);replace HO:=hid (HO.out.trans o2);have a0:=HS.out.c 0;have a1:=HS.out.c 1;have a2:=HS.out.c 2;have a3:=HS.out.c 3;have a4:=HS.out.c 4;have a5:=HS.out.c 5;have a6:=HS.out.c 6;have f0:=HS.out.f 0;have f1:=HS.out.f 1;have f2:=HS.out.f 2;have f3:=HS.out.f 3;have f4:=HS.out.f 4;have f5:=HS.out.f 5;have f6:=HS.out.f 6))
   refine bodyPost_ret (ret_tok rfl _ _ w.heap.size rfl rfl (HS.out.poke _ _ _ _ _ _ _)) rfl ?_
   exact ⟨by first|rfl|(rw [←HST.out];rfl),old_poke7 HO.out (Nat.le_refl _) _ _ _ _ _ _ _⟩
 ·have e:meanL 2 s.data.toList=namedL 2 s.data.toList.tail:=rfl
  rw [e]
  unfold namedL
  cases hB:isName s.data.toList.tail
  all_goals
   simp only [hB] at hnz
   go_enter Tryz.func96,Tryz.ntmps96
   go_wp2_with (first
    | (go_at_call 137;refine (hnz 2 _).mono ?_;rintro e w2 ⟨rfl,o2⟩;replace HS:=hid (HS.out.old o2);replace HO:=hid (HO.out.trans o2);have a0:=HS.out.c 0;have a1:=HS.out.c 1;have a2:=HS.out.c 2;have a3:=HS.out.c 3;have a4:=HS.out.c 4;have a5:=HS.out.c 5;have a6:=HS.out.c 6;have f0:=HS.out.f 0;have f1:=HS.out.f 1;have f2:=HS.out.f 2;have f3:=HS.out.f 3;have f4:=HS.out.f 4;have f5:=HS.out.f 5;have f6:=HS.out.f 6))
   refine bodyPost_ret (ret_tok rfl _ _ w.heap.size rfl rfl (HS.out.poke _ _ _ _ _ _ _)) rfl ?_
   exact ⟨by first|rfl|(rw [HZ.out];rfl),old_poke7 HO.out (Nat.le_refl _) _ _ _ _ _ _ _⟩
 ·go_enter Tryz.func96,Tryz.ntmps96
  go_wp2_with fail
  refine bodyPost_ret (ret_tok rfl _ _ w.heap.size rfl rfl (Sv.new w)) rfl ?_
  exact ⟨rfl,(Old.refl w).alloc _⟩
 ·have e:meanL 4 s.data.toList=valuedL 4 s.data.toList:=rfl
  rw [e]
  go_enter Tryz.func96,Tryz.ntmps96
  go_wp2_with (first
   | (go_at_call 138;refine (hval 4 (Or.inl rfl) rfl _ (HE.out.old HO.out)).mono ?_;rintro e w2 ⟨rfl,o2⟩;replace HS:=hid (HS.out.old o2);replace HO:=hid (HO.out.trans o2);have a0:=HS.out.c 0;have a1:=HS.out.c 1;have a2:=HS.out.c 2;have a3:=HS.out.c 3;have a4:=HS.out.c 4;have a5:=HS.out.c 5;have a6:=HS.out.c 6;have f0:=HS.out.f 0;have f1:=HS.out.f 1;have f2:=HS.out.f 2;have f3:=HS.out.f 3;have f4:=HS.out.f 4;have f5:=HS.out.f 5;have f6:=HS.out.f 6))
  refine bodyPost_ret (ret_tok rfl _ _ w.heap.size rfl rfl (HS.out.poke _ _ _ _ _ _ _)) rfl ?_
  exact ⟨rfl,old_poke7 HO.out (Nat.le_refl _) _ _ _ _ _ _ _⟩
 ·have e:meanL 5 s.data.toList=valuedL 5 s.data.toList:=rfl
  rw [e]
  go_enter Tryz.func96,Tryz.ntmps96
  go_wp2_with (first
   | (go_at_call 138;refine (hval 5 (Or.inr rfl) rfl _ (HE.out.old HO.out)).mono ?_;rintro e w2 ⟨rfl,o2⟩;replace HS:=hid (HS.out.old o2);replace HO:=hid (HO.out.trans o2);have a0:=HS.out.c 0;have a1:=HS.out.c 1;have a2:=HS.out.c 2;have a3:=HS.out.c 3;have a4:=HS.out.c 4;have a5:=HS.out.c 5;have a6:=HS.out.c 6;have f0:=HS.out.f 0;have f1:=HS.out.f 1;have f2:=HS.out.f 2;have f3:=HS.out.f 3;have f4:=HS.out.f 4;have f5:=HS.out.f 5;have f6:=HS.out.f 6))
  refine bodyPost_ret (ret_tok rfl _ _ w.heap.size rfl rfl (HS.out.poke _ _ _ _ _ _ _)) rfl ?_
  exact ⟨rfl,old_poke7 HO.out (Nat.le_refl _) _ _ _ _ _ _ _⟩
 ·have e:meanL 6 s.data.toList=if (namedL 6 s.data.toList.tail).2=0 then ({ (namedL 6 s.data.toList.tail).1 with vk:=5,vs:=s.data.toList.tail },0) else namedL 6 s.data.toList.tail:=rfl
  rw [e]
  unfold namedL
  cases hB:isName s.data.toList.tail
  ·simp only [hB] at hnz
   go_enter Tryz.func96,Tryz.ntmps96
   go_wp2_with (first
    | (go_at_call 137;refine (hnz 6 _).mono ?_;rintro e w2 ⟨rfl,o2⟩;have HN:=hid (Nat.lt_of_lt_of_le HS.out.lt o2.size);have HS2:=hid (Sv.new w2 (x0:=.int .u8 0) (x1:=.string ⟨#[]⟩) (x2:=.int .u8 0) (x3:=.int .i64 0) (x4:=.string ⟨#[]⟩) (x5:=.int .i64 0) (x6:=.int .i64 0));replace HO:=hid (HO.out.trans (o2.alloc (.cells #[.int .u8 0,.string ⟨#[]⟩,.int .u8 0,.int .i64 0,.string ⟨#[]⟩,.int .i64 0,.int .i64 0] 57)));replace HS:=hid (HS.out.old (o2.alloc (.cells #[.int .u8 0,.string ⟨#[]⟩,.int .u8 0,.int .i64 0,.string ⟨#[]⟩,.int .i64 0,.int .i64 0] 57)));have a0:=HS.out.c 0;have a1:=HS.out.c 1;have a2:=HS.out.c 2;have a3:=HS.out.c 3;have a4:=HS.out.c 4;have a5:=HS.out.c 5;have a6:=HS.out.c 6;have f0:=HS.out.f 0;have f1:=HS.out.f 1;have f2:=HS.out.f 2;have f3:=HS.out.f 3;have f4:=HS.out.f 4;have f5:=HS.out.f 5;have f6:=HS.out.f 6;have d0:=HS2.out.c 0;have d1:=HS2.out.c 1;have d2:=HS2.out.c 2;have d3:=HS2.out.c 3;have d4:=HS2.out.c 4;have d5:=HS2.out.c 5;have d6:=HS2.out.c 6;have g0:=HS2.out.f 0;have g1:=HS2.out.f 1;have g2:=HS2.out.f 2;have g3:=HS2.out.f 3;have g4:=HS2.out.f 4;have g5:=HS2.out.f 5;have g6:=HS2.out.f 6))
   all_goals refine bodyPost_ret (ret_tok rfl _ _ w.heap.size rfl rfl (HS.out.poke _ _ _ _ _ _ _)) rfl ?_
   all_goals exact ⟨rfl,old_poke7 HO.out (Nat.le_refl _) _ _ _ _ _ _ _⟩
  ·simp only [hB] at hnz
   go_enter Tryz.func96,Tryz.ntmps96
   go_wp2_with (first
    | (go_at_call 137;refine (hnz 6 _).mono ?_;rintro e w2 ⟨rfl,o2⟩;have HN:=hid (Nat.lt_of_lt_of_le HS.out.lt o2.size);have HS2:=hid (Sv.new w2 (x0:=.int .u8 6) (x1:=.string z) (x2:=.int .u8 0) (x3:=.int .i64 0) (x4:=.string ⟨#[]⟩) (x5:=.int .i64 0) (x6:=.int .i64 0));replace HO:=hid (HO.out.trans (o2.alloc (.cells #[.int .u8 6,.string z,.int .u8 5,.int .i64 0,.string z,.int .i64 0,.int .i64 0] 57)));replace HS:=hid (HS.out.old (o2.alloc (.cells #[.int .u8 6,.string z,.int .u8 5,.int .i64 0,.string z,.int .i64 0,.int .i64 0] 57)));have a0:=HS.out.c 0;have a1:=HS.out.c 1;have a2:=HS.out.c 2;have a3:=HS.out.c 3;have a4:=HS.out.c 4;have a5:=HS.out.c 5;have a6:=HS.out.c 6;have f0:=HS.out.f 0;have f1:=HS.out.f 1;have f2:=HS.out.f 2;have f3:=HS.out.f 3;have f4:=HS.out.f 4;have f5:=HS.out.f 5;have f6:=HS.out.f 6;have d0:=HS2.out.c 0;have d1:=HS2.out.c 1;have d2:=HS2.out.c 2;have d3:=HS2.out.c 3;have d4:=HS2.out.c 4;have d5:=HS2.out.c 5;have d6:=HS2.out.c 6;have g0:=HS2.out.f 0;have g1:=HS2.out.f 1;have g2:=HS2.out.f 2;have g3:=HS2.out.f 3;have g4:=HS2.out.f 4;have g5:=HS2.out.f 5;have g6:=HS2.out.f 6))
   refine bodyPost_ret (ret_tok rfl _ _ w.heap.size rfl rfl (HS.out.poke _ _ _ _ _ _ _)) rfl ?_
   exact ⟨by rw [HZ.out];rfl,old_poke7 HO.out (Nat.le_refl _) _ _ _ _ _ _ _⟩
 ·have e:meanL 7 s.data.toList=(⟨7,s.data.toList,0,0,[],0,0⟩,0):=rfl
  rw [e]
  go_enter Tryz.func96,Tryz.ntmps96
  go_wp2_with (first
   | (go_at_call 104;refine (hcl _).mono ?_;rintro e w2 ⟨rfl,o2⟩;replace HS:=hid (HS.out.old o2);replace HO:=hid (HO.out.trans o2);have a0:=HS.out.c 0;have a1:=HS.out.c 1;have a2:=HS.out.c 2;have a3:=HS.out.c 3;have a4:=HS.out.c 4;have a5:=HS.out.c 5;have a6:=HS.out.c 6;have f0:=HS.out.f 0;have f1:=HS.out.f 1;have f2:=HS.out.f 2;have f3:=HS.out.f 3;have f4:=HS.out.f 4;have f5:=HS.out.f 5;have f6:=HS.out.f 6))
  refine bodyPost_ret (ret_tok rfl _ _ w.heap.size rfl rfl (HS.out.poke _ _ _ _ _ _ _)) rfl ?_
  exact ⟨by first|rfl|(rw [←HST.out];rfl),old_poke7 HO.out (Nat.le_refl _) _ _ _ _ _ _ _⟩
end Go.Proofs.YtkellpcljiodeaaGreatDoor
