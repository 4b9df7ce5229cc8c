/- The document's lexer: a word that layer 3 reads. -/
import Derived.Test.YtmkmafkkpigfpaaGreatDoorFD
set_option maxHeartbeats 1600000
namespace Go.Proofs.YtmkmafkkpigfpaaGreatDoor
open Go.ChangeShapes Go.WideShapes Go.ChangeAt Go.RowKit Go.Lib
set_option linter.unusedVariables false
set_option linter.unusedSimpArgs false
set_option maxRecDepth 100000
theorem cell_drew (W:World) (a:Addr):W.drew.cell? a=W.cell? a:=rfl
theorem cell_far7d {w:World} {b g o:Nat} (h:g≠b) (y0 y1 y2 y3 y4 y5 y6:Value):(poke7 w b y0 y1 y2 y3 y4 y5 y6).drew.cell? ⟨g,o,none⟩=w.cell? ⟨g,o,none⟩:=(cell_drew _ _).trans (cell_far7 h y0 y1 y2 y3 y4 y5 y6)
theorem rword_num (s:ByteArray) (j:Nat) (hs:s.size≤70000) (hj:j<s.size) (c:UInt8) (hd0:s.data.toList.drop j=c::s.data.toList.drop (j+1)) (hc:sm c=false) (hc2:dgc c=true) (RP:RParse) (w:World) (he:Env w) :
 Calls Tryz.prog 21 #[.string s,.int .i64 (j:Int)] w fun e w'=>e=wordE j (s.data.toList.drop j)∧Old w w':=by
 have hx:=fun W=>idx_any s j c (drop_get hd0) W
 have hr0:runN (s.data.toList.drop j)=0:=by rw [hd0];exact if_neg (by show ¬ sm c=true;rw [hc];exact Bool.false_ne_true)
 have h1:=fun W=>rrun_any s j (by omega) (by omega) W
 rw [hr0,Nat.add_zero] at h1
 have h2:=fun W=>rdgc_any c W
 rw [hc2] at h2
 obtain ⟨hw,hm⟩:=word4 (r:=s.data.toList.drop (j+1)) hc hc2
 rw [←hd0] at hw hm
 have i35:((c.toNat:Int)==35)=false:=beq_false_of_ne (u8_int (d:=35) (by rintro rfl;exact absurd hc2 (by decide)))
 have i63:((c.toNat:Int)==63)=false:=beq_false_of_ne (u8_int (d:=63) (by rintro rfl;exact absurd hc2 (by decide)))
 obtain ⟨n,hn⟩:∃ n,n=numN (s.data.toList.drop j):=⟨_,rfl⟩
 obtain ⟨k,hk⟩:∃ k,k=j+n:=⟨_,rfl⟩
 have h3:=fun W=>rnum_any s j (by omega) (by omega) W
 rw [←hn,←hk] at h3
 rw [←hn] at hw hm
 have hle:j+n≤s.size:=by
  have h4:=wlen_le (l:=s.data.toList.drop j) (by rw [hd0];exact List.cons_ne_nil _ _)
  rw [hw,List.length_drop,Array.length_toList] at h4
  have hz:s.data.size=s.size:=rfl
  omega
 have hsl:=sl_at s j n (j:Int) (k:Int) rfl (by rw [hk]) hle
 obtain ⟨l,hl⟩:∃ l,l=(s.data.toList.drop j).take n:=⟨_,rfl⟩
 have hll:l.length≤70000:=by
  rw [hl,List.length_take]
  omega
 rw [←hl] at hsl hm
 have hp:=fun W hW=>RP l W hll hW
 unfold valuedL at hm
 obtain ⟨⟨K,M,E,S⟩,hp0⟩:∃ p,p=parseL l:=⟨_,rfl⟩
 rw [←hp0] at hp hm
 have HP:=hid hp
 have HE:=hid he
 have H0:=hid (wo0 w)
 clear hp0 hp he hll hn hd0 hr0 hl
 simp only at hm
 by_cases h9:E=9
 ·subst h9
  rw [wordE_bad hm (by decide)]
  clear hm hw hk hc hc2
  generalize (c.toNat:Int)=v at *
  go_enter Tryz.func21,Tryz.ntmps21
  go_wp2_with (first
   | (go_at_call 40;(with_reducible refine (h1 _).mono ?_);rintro e w1 ⟨rfl,hw1⟩;have H1:=hid (Eq.mp (congrArg (Wo w) hw1) H0.out);clear hw1;have a0:=H1.out.s.c 0;have a1:=H1.out.s.c 1;have a2:=H1.out.s.c 2;have a3:=H1.out.s.c 3;have a4:=H1.out.s.c 4;have a5:=H1.out.s.c 5;have a6:=H1.out.s.c 6;have f0:=H1.out.s.f 0;have f1:=H1.out.s.f 1;have f2:=H1.out.s.f 2;have f3:=H1.out.s.f 3;have f4:=H1.out.s.f 4;have f5:=H1.out.s.f 5;have f6:=H1.out.s.f 6;have b0:=H1.out.t.c 0;have b1:=H1.out.t.c 1;have b2:=H1.out.t.c 2;have b3:=H1.out.t.c 3;have b4:=H1.out.t.c 4;have b5:=H1.out.t.c 5;have b6:=H1.out.t.c 6)
   | (go_at_call 41;(with_reducible refine (h2 _).mono ?_);rintro e w2 ⟨rfl,rfl⟩)
   | (go_at_call 42;(with_reducible refine (h3 _).mono ?_);rintro e w2 ⟨rfl,rfl⟩)
   | (go_at_call 43;(with_reducible refine (HP.out _ (HE.out.old H1.out.o)).mono ?_);rintro e w3 ⟨rfl,o3⟩;have HN:=hid (Nat.lt_of_lt_of_le H1.out.s.lt o3.size);replace H1:=hid (H1.out.old (o3.alloc (.cells #[.int .u8 K,.int .i64 M,.string (st S)] 26)));clear a0 a1 a2 a3 a4 a5 a6 f0 f1 f2 f3 f4 f5 f6 b0 b1 b2 b3 b4 b5 b6;have a0:=H1.out.s.c 0;have a1:=H1.out.s.c 1;have a2:=H1.out.s.c 2;have a3:=H1.out.s.c 3;have a4:=H1.out.s.c 4;have a5:=H1.out.s.c 5;have a6:=H1.out.s.c 6;have f0:=H1.out.s.f 0;have f1:=H1.out.s.f 1;have f2:=H1.out.s.f 2;have f3:=H1.out.s.f 3;have f4:=H1.out.s.f 4;have f5:=H1.out.s.f 5;have f6:=H1.out.s.f 6;have b0:=H1.out.t.c 0;have b1:=H1.out.t.c 1;have b2:=H1.out.t.c 2;have b3:=H1.out.t.c 3;have b4:=H1.out.t.c 4;have b5:=H1.out.t.c 5;have b6:=H1.out.t.c 6))
  refine bodyPost_ret (ret_tok2 rfl _ _ w.heap.size rfl rfl rfl (H1.out.s.poke _ _ _ _ _ _ _)) rfl ?_
  exact ⟨rfl,old_poke7 H1.out.o (Nat.le_refl _) _ _ _ _ _ _ _⟩
 rw [if_neg h9] at hm
 by_cases h0:E=0
 ·subst h0
  rw [if_neg (by exact fun h=>h rfl),if_neg (by decide)] at hm
  rw [wordE_ok hw hm,←hk]
  show Calls _ _ _ _ fun e w'=>e=.returned (.tuple #[.agg #[.int .u8 4,.string (st l),.int .u8 K,.int .i64 M,.string (st S),_,_],_,_])∧_
  clear hm hw hk hc hc2
  generalize (c.toNat:Int)=v at *
  go_enter Tryz.func21,Tryz.ntmps21
  go_wp2_with (first
   | (go_at_call 40;(with_reducible refine (h1 _).mono ?_);rintro e w1 ⟨rfl,hw1⟩;have H1:=hid (Eq.mp (congrArg (Wo w) hw1) H0.out);clear hw1;have a0:=H1.out.s.c 0;have a1:=H1.out.s.c 1;have a2:=H1.out.s.c 2;have a3:=H1.out.s.c 3;have a4:=H1.out.s.c 4;have a5:=H1.out.s.c 5;have a6:=H1.out.s.c 6;have f0:=H1.out.s.f 0;have f1:=H1.out.s.f 1;have f2:=H1.out.s.f 2;have f3:=H1.out.s.f 3;have f4:=H1.out.s.f 4;have f5:=H1.out.s.f 5;have f6:=H1.out.s.f 6;have b0:=H1.out.t.c 0;have b1:=H1.out.t.c 1;have b2:=H1.out.t.c 2;have b3:=H1.out.t.c 3;have b4:=H1.out.t.c 4;have b5:=H1.out.t.c 5;have b6:=H1.out.t.c 6)
   | (go_at_call 41;(with_reducible refine (h2 _).mono ?_);rintro e w2 ⟨rfl,rfl⟩)
   | (go_at_call 42;(with_reducible refine (h3 _).mono ?_);rintro e w2 ⟨rfl,rfl⟩)
   | (go_at_call 43;(with_reducible refine (HP.out _ (HE.out.old H1.out.o)).mono ?_);rintro e w3 ⟨rfl,o3⟩;have HN:=hid (Nat.lt_of_lt_of_le H1.out.s.lt o3.size);replace H1:=hid (H1.out.old (o3.alloc (.cells #[.int .u8 K,.int .i64 M,.string (st S)] 26)));clear a0 a1 a2 a3 a4 a5 a6 f0 f1 f2 f3 f4 f5 f6 b0 b1 b2 b3 b4 b5 b6;have a0:=H1.out.s.c 0;have a1:=H1.out.s.c 1;have a2:=H1.out.s.c 2;have a3:=H1.out.s.c 3;have a4:=H1.out.s.c 4;have a5:=H1.out.s.c 5;have a6:=H1.out.s.c 6;have f0:=H1.out.s.f 0;have f1:=H1.out.s.f 1;have f2:=H1.out.s.f 2;have f3:=H1.out.s.f 3;have f4:=H1.out.s.f 4;have f5:=H1.out.s.f 5;have f6:=H1.out.s.f 6;have b0:=H1.out.t.c 0;have b1:=H1.out.t.c 1;have b2:=H1.out.t.c 2;have b3:=H1.out.t.c 3;have b4:=H1.out.t.c 4;have b5:=H1.out.t.c 5;have b6:=H1.out.t.c 6))
  obtain ⟨W2,hW2⟩:∃ W2,W2=w3.alloc (.cells #[.int .u8 K,.int .i64 M,.string (st S)] 26):=⟨_,rfl⟩
  have ht3:Three W2 w3.heap.size (.int .u8 K) (.int .i64 M) (.string (st S)):=by rw [hW2];exact Three.new w3 _ _ _
  rw [←hW2] at H1 a0 a1 a2 a3 a4 a5 a6 f0 f1 f2 f3 f4 f5 f6 b0 b1 b2 b3 b4 b5 b6 ⊢
  have HT:=hid ht3
  have t0:=ht3.c0
  have t1:=ht3.c1
  have t2:=ht3.c2
  clear hW2 ht3 b0 b1 b2 b3 b4 b5 b6
  go_region_held3 (fun w'=>w'.cell? ⟨w3.heap.size,0,none⟩=some (.int .u8 K)∧w'.cell? ⟨w3.heap.size,1,none⟩=some (.int .i64 M)∧w'.cell? ⟨w3.heap.size,2,none⟩=some (.string (st S)))
   (first|with_reducible exact ⟨t0,t1,t2⟩|with_reducible exact ⟨(cell_far7 (Nat.ne_of_gt HN.out) _ _ _ _ _ _ _).trans t0,(cell_far7 (Nat.ne_of_gt HN.out) _ _ _ _ _ _ _).trans t1,(cell_far7 (Nat.ne_of_gt HN.out) _ _ _ _ _ _ _).trans t2⟩|with_reducible exact ⟨(cell_far7d (Nat.ne_of_gt HN.out) _ _ _ _ _ _ _).trans t0,(cell_far7d (Nat.ne_of_gt HN.out) _ _ _ _ _ _ _).trans t1,(cell_far7d (Nat.ne_of_gt HN.out) _ _ _ _ _ _ _).trans t2⟩|go_keep)
   (fail)
  all_goals
   go_wp2
   refine bodyPost_ret (ret_tok2 rfl _ _ w.heap.size rfl rfl rfl (H1.out.s.poke _ _ _ _ _ _ _).drew) rfl ?_
   exact ⟨rfl,(old_poke7 H1.out.o (Nat.le_refl _) _ _ _ _ _ _ _).drew⟩
 ·rw [if_pos h0] at hm
  rw [wordE_bad hm (by decide)]
  clear hm hw hk hc hc2
  generalize (c.toNat:Int)=v at *
  go_enter Tryz.func21,Tryz.ntmps21
  go_wp2_with (first
   | (go_at_call 40;(with_reducible refine (h1 _).mono ?_);rintro e w1 ⟨rfl,hw1⟩;have H1:=hid (Eq.mp (congrArg (Wo w) hw1) H0.out);clear hw1;have a0:=H1.out.s.c 0;have a1:=H1.out.s.c 1;have a2:=H1.out.s.c 2;have a3:=H1.out.s.c 3;have a4:=H1.out.s.c 4;have a5:=H1.out.s.c 5;have a6:=H1.out.s.c 6;have f0:=H1.out.s.f 0;have f1:=H1.out.s.f 1;have f2:=H1.out.s.f 2;have f3:=H1.out.s.f 3;have f4:=H1.out.s.f 4;have f5:=H1.out.s.f 5;have f6:=H1.out.s.f 6;have b0:=H1.out.t.c 0;have b1:=H1.out.t.c 1;have b2:=H1.out.t.c 2;have b3:=H1.out.t.c 3;have b4:=H1.out.t.c 4;have b5:=H1.out.t.c 5;have b6:=H1.out.t.c 6)
   | (go_at_call 41;(with_reducible refine (h2 _).mono ?_);rintro e w2 ⟨rfl,rfl⟩)
   | (go_at_call 42;(with_reducible refine (h3 _).mono ?_);rintro e w2 ⟨rfl,rfl⟩)
   | (go_at_call 43;(with_reducible refine (HP.out _ (HE.out.old H1.out.o)).mono ?_);rintro e w3 ⟨rfl,o3⟩;have HN:=hid (Nat.lt_of_lt_of_le H1.out.s.lt o3.size);replace H1:=hid (H1.out.old (o3.alloc (.cells #[.int .u8 K,.int .i64 M,.string (st S)] 26)));clear a0 a1 a2 a3 a4 a5 a6 f0 f1 f2 f3 f4 f5 f6 b0 b1 b2 b3 b4 b5 b6;have a0:=H1.out.s.c 0;have a1:=H1.out.s.c 1;have a2:=H1.out.s.c 2;have a3:=H1.out.s.c 3;have a4:=H1.out.s.c 4;have a5:=H1.out.s.c 5;have a6:=H1.out.s.c 6;have f0:=H1.out.s.f 0;have f1:=H1.out.s.f 1;have f2:=H1.out.s.f 2;have f3:=H1.out.s.f 3;have f4:=H1.out.s.f 4;have f5:=H1.out.s.f 5;have f6:=H1.out.s.f 6;have b0:=H1.out.t.c 0;have b1:=H1.out.t.c 1;have b2:=H1.out.t.c 2;have b3:=H1.out.t.c 3;have b4:=H1.out.t.c 4;have b5:=H1.out.t.c 5;have b6:=H1.out.t.c 6))
  refine bodyPost_ret (ret_tok2 rfl _ _ w.heap.size rfl rfl rfl (H1.out.s.poke _ _ _ _ _ _ _)) rfl ?_
  exact ⟨rfl,old_poke7 H1.out.o (Nat.le_refl _) _ _ _ _ _ _ _⟩
theorem rword_str (s:ByteArray) (j:Nat) (hs:s.size≤70000) (hj:j<s.size) (c:UInt8) (hd0:s.data.toList.drop j=c::s.data.toList.drop (j+1)) (hc0:c=34) (RP:RParse) (w:World) (he:Env w) :
 Calls Tryz.prog 21 #[.string s,.int .i64 (j:Int)] w fun e w'=>e=wordE j (s.data.toList.drop j)∧Old w w':=by
 have hx:=fun W=>idx_any s j c (drop_get hd0) W
 have hc:sm c=false:=by subst hc0;decide
 have hr0:runN (s.data.toList.drop j)=0:=by rw [hd0];exact if_neg (by show ¬ sm c=true;rw [hc];exact Bool.false_ne_true)
 have h1:=fun W=>rrun_any s j (by omega) (by omega) W
 rw [hr0,Nat.add_zero] at h1
 have h2:=fun W=>rdgc_any c W
 subst hc0
 replace h2:∀ W,Calls Tryz.prog 41 #[.int .u8 34] W fun e w'=>e=.returned (.bool false)∧W=w':=fun W=>h2 W
 replace hx:∀ W,(Instr.index 9 (.string s) (.int .i64 (j:Int))).run Tryz.prog W=.ok (.int .u8 34) W:=hx
 obtain ⟨r,hr⟩:∃ r,r=s.data.toList.drop (j+1):=⟨_,rfl⟩
 have h3:=fun W=>rquo_any s j (by omega) hj W
 rw [←hr] at h3 hd0
 obtain ⟨hw1,hw2⟩:=word5 r
 have HE:=hid he
 have H0:=hid (wo0 w)
 rw [hd0]
 cases hq:qd r with
 | none=>
   rw [hq] at h3
   replace h3:∀ W,Calls Tryz.prog 44 #[.string s,.int .i64 (j:Int)] W fun e w'=>e=.returned (.int .i64 (-1))∧W=w':=h3
   rw [wordE_bad (hw2 hq) (by decide)]
   clear hw1 hw2 hq hd0 hr0 hr
   go_enter Tryz.func21,Tryz.ntmps21
   go_wp2_with (first
    | (go_at_call 40;(with_reducible refine (h1 _).mono ?_);rintro e w1 ⟨rfl,hw1⟩;have H1:=hid (Eq.mp (congrArg (Wo w) hw1) H0.out);clear hw1;have a0:=H1.out.s.c 0;have a1:=H1.out.s.c 1;have a2:=H1.out.s.c 2;have a3:=H1.out.s.c 3;have a4:=H1.out.s.c 4;have a5:=H1.out.s.c 5;have a6:=H1.out.s.c 6;have f0:=H1.out.s.f 0;have f1:=H1.out.s.f 1;have f2:=H1.out.s.f 2;have f3:=H1.out.s.f 3;have f4:=H1.out.s.f 4;have f5:=H1.out.s.f 5;have f6:=H1.out.s.f 6;have b0:=H1.out.t.c 0;have b1:=H1.out.t.c 1;have b2:=H1.out.t.c 2;have b3:=H1.out.t.c 3;have b4:=H1.out.t.c 4;have b5:=H1.out.t.c 5;have b6:=H1.out.t.c 6)
    | (go_at_call 41;(with_reducible refine (h2 _).mono ?_);rintro e w2 ⟨rfl,rfl⟩)
    | (go_at_call 44;(with_reducible refine (h3 _).mono ?_);rintro e w2 ⟨rfl,rfl⟩))
   refine bodyPost_ret (ret_tok2 rfl _ _ w.heap.size rfl rfl rfl (H1.out.s.poke _ _ _ _ _ _ _)) rfl ?_
   exact ⟨rfl,old_poke7 H1.out.o (Nat.le_refl _) _ _ _ _ _ _ _⟩
 | some n=>
   obtain ⟨hw,hm⟩:=hw1 n hq
   rw [hq] at h3
   obtain ⟨k,hk⟩:∃ k,k=j+(n+1):=⟨_,rfl⟩
   replace h3:∀ W,Calls Tryz.prog 44 #[.string s,.int .i64 (j:Int)] W fun e w'=>e=.returned (.int .i64 (k:Int))∧W=w':=fun W=>by
    have:=h3 W
    rw [show qdI (j+1) (some n)=(k:Int) by show ((j+1+n:Nat):Int)=(k:Int);omega] at this
    exact this
   obtain ⟨_,hn1,hn2⟩:=qd_len r n hq
   have hle:j+(n+1)≤s.size:=by
    rw [hr,List.length_drop,Array.length_toList] at hn2
    have hz:s.data.size=s.size:=rfl
    omega
   have hsl:=sl_at s j (n+1) (j:Int) (k:Int) rfl (by rw [hk]) hle
   have hsl2:=sl_at s (j+1) (n-1) ((j:Int)+1) ((k:Int)-1) (by omega) (by omega) (by omega)
   rw [←hr] at hsl2
   rw [hd0] at hsl
   obtain ⟨l,hl⟩:∃ l,l=(34::r).take (n+1):=⟨_,rfl⟩
   have hlen:l.length=n+1:=by rw [hl,List.length_take,List.length_cons];omega
   have hll:l.length≤70000:=by omega
   have hl2:r.take (n-1)=l.tail.take (l.length-2):=by
    rw [hlen,hl,tail_take (by omega),List.take_take]
    congr 1
    omega
   have h9:(parseL l).e≠9:=by rw [hl,take_cons (by omega)];exact parse_no9 _
   rw [←hl] at hsl hm
   have hp:=fun W hW=>RP l W hll hW
   unfold valuedL at hm
   rw [if_neg h9,←hl2] at hm
   rw [if_pos (show (5:Int)=5 from rfl)] at hm
   obtain ⟨t,ht⟩:∃ t,t=r.take (n-1):=⟨_,rfl⟩
   rw [←ht] at hm hsl2
   obtain ⟨⟨K,M,E,S⟩,hp0⟩:∃ p,p=parseL l:=⟨_,rfl⟩
   rw [←hp0] at hp hm
   have HP:=hid hp
   have hk0:¬ (k:Int)<0:=by omega
   have hk7:k≤70000:=by omega
   have q1:IntKind.i64.wrap ((j:Int)+1)=(j:Int)+1:=by rw [IntKind.wrap_i64];omega
   have q2:IntKind.i64.wrap ((k:Int)-1)=(k:Int)-1:=by rw [IntKind.wrap_i64];omega
   clear hp0 hp he hll hd0 hr0 hl hl2 ht hlen hn1 hn2 hw1 hw2 hq h9 hr
   simp only at hm
   by_cases h0:E=0
   ·subst h0
    rw [if_neg (by exact fun h=>h rfl)] at hm
    rw [wordE_ok hw hm,←hk]
    show Calls _ _ _ _ fun e w'=>e=.returned (.tuple #[.agg #[.int .u8 5,.string (st t),.int .u8 K,.int .i64 M,.string (st S),_,_],_,_])∧_
    clear hm hw hk
    go_enter Tryz.func21,Tryz.ntmps21
    go_wp2_with (first
     | (go_at_call 40;(with_reducible refine (h1 _).mono ?_);rintro e w1 ⟨rfl,hw1⟩;have H1:=hid (Eq.mp (congrArg (Wo w) hw1) H0.out);clear hw1;have a0:=H1.out.s.c 0;have a1:=H1.out.s.c 1;have a2:=H1.out.s.c 2;have a3:=H1.out.s.c 3;have a4:=H1.out.s.c 4;have a5:=H1.out.s.c 5;have a6:=H1.out.s.c 6;have f0:=H1.out.s.f 0;have f1:=H1.out.s.f 1;have f2:=H1.out.s.f 2;have f3:=H1.out.s.f 3;have f4:=H1.out.s.f 4;have f5:=H1.out.s.f 5;have f6:=H1.out.s.f 6;have b0:=H1.out.t.c 0;have b1:=H1.out.t.c 1;have b2:=H1.out.t.c 2;have b3:=H1.out.t.c 3;have b4:=H1.out.t.c 4;have b5:=H1.out.t.c 5;have b6:=H1.out.t.c 6)
     | (go_at_call 41;(with_reducible refine (h2 _).mono ?_);rintro e w2 ⟨rfl,rfl⟩)
     | (go_at_call 44;(with_reducible refine (h3 _).mono ?_);rintro e w2 ⟨rfl,rfl⟩)
     | (go_at_call 43;(with_reducible refine (HP.out _ (HE.out.old H1.out.o)).mono ?_);rintro e w3 ⟨rfl,o3⟩;have HN:=hid (Nat.lt_of_lt_of_le H1.out.s.lt o3.size);replace H1:=hid (H1.out.old (o3.alloc (.cells #[.int .u8 K,.int .i64 M,.string (st S)] 26)));clear a0 a1 a2 a3 a4 a5 a6 f0 f1 f2 f3 f4 f5 f6 b0 b1 b2 b3 b4 b5 b6;have a0:=H1.out.s.c 0;have a1:=H1.out.s.c 1;have a2:=H1.out.s.c 2;have a3:=H1.out.s.c 3;have a4:=H1.out.s.c 4;have a5:=H1.out.s.c 5;have a6:=H1.out.s.c 6;have f0:=H1.out.s.f 0;have f1:=H1.out.s.f 1;have f2:=H1.out.s.f 2;have f3:=H1.out.s.f 3;have f4:=H1.out.s.f 4;have f5:=H1.out.s.f 5;have f6:=H1.out.s.f 6;have b0:=H1.out.t.c 0;have b1:=H1.out.t.c 1;have b2:=H1.out.t.c 2;have b3:=H1.out.t.c 3;have b4:=H1.out.t.c 4;have b5:=H1.out.t.c 5;have b6:=H1.out.t.c 6))
    obtain ⟨W2,hW2⟩:∃ W2,W2=w3.alloc (.cells #[.int .u8 K,.int .i64 M,.string (st S)] 26):=⟨_,rfl⟩
    have ht3:Three W2 w3.heap.size (.int .u8 K) (.int .i64 M) (.string (st S)):=by rw [hW2];exact Three.new w3 _ _ _
    rw [←hW2] at H1 a0 a1 a2 a3 a4 a5 a6 f0 f1 f2 f3 f4 f5 f6 b0 b1 b2 b3 b4 b5 b6 ⊢
    have HT:=hid ht3
    have t0:=ht3.c0
    have t1:=ht3.c1
    have t2:=ht3.c2
    clear hW2 ht3 b0 b1 b2 b3 b4 b5 b6
    go_region_held3 (fun w'=>w'.cell? ⟨w3.heap.size,0,none⟩=some (.int .u8 K)∧w'.cell? ⟨w3.heap.size,1,none⟩=some (.int .i64 M)∧w'.cell? ⟨w3.heap.size,2,none⟩=some (.string (st S)))
     (first|with_reducible exact ⟨t0,t1,t2⟩|with_reducible exact ⟨(cell_far7 (Nat.ne_of_gt HN.out) _ _ _ _ _ _ _).trans t0,(cell_far7 (Nat.ne_of_gt HN.out) _ _ _ _ _ _ _).trans t1,(cell_far7 (Nat.ne_of_gt HN.out) _ _ _ _ _ _ _).trans t2⟩|with_reducible exact ⟨(cell_far7d (Nat.ne_of_gt HN.out) _ _ _ _ _ _ _).trans t0,(cell_far7d (Nat.ne_of_gt HN.out) _ _ _ _ _ _ _).trans t1,(cell_far7d (Nat.ne_of_gt HN.out) _ _ _ _ _ _ _).trans t2⟩|go_keep)
     (fail)
    all_goals
     go_wp2
     refine bodyPost_ret (ret_tok2 rfl _ _ w.heap.size rfl rfl rfl (H1.out.s.poke _ _ _ _ _ _ _).drew) rfl ?_
     exact ⟨rfl,(old_poke7 H1.out.o (Nat.le_refl _) _ _ _ _ _ _ _).drew⟩
   ·rw [if_pos h0] at hm
    rw [wordE_bad hm (by decide)]
    clear hm hw hk
    go_enter Tryz.func21,Tryz.ntmps21
    go_wp2_with (first
     | (go_at_call 40;(with_reducible refine (h1 _).mono ?_);rintro e w1 ⟨rfl,hw1⟩;have H1:=hid (Eq.mp (congrArg (Wo w) hw1) H0.out);clear hw1;have a0:=H1.out.s.c 0;have a1:=H1.out.s.c 1;have a2:=H1.out.s.c 2;have a3:=H1.out.s.c 3;have a4:=H1.out.s.c 4;have a5:=H1.out.s.c 5;have a6:=H1.out.s.c 6;have f0:=H1.out.s.f 0;have f1:=H1.out.s.f 1;have f2:=H1.out.s.f 2;have f3:=H1.out.s.f 3;have f4:=H1.out.s.f 4;have f5:=H1.out.s.f 5;have f6:=H1.out.s.f 6;have b0:=H1.out.t.c 0;have b1:=H1.out.t.c 1;have b2:=H1.out.t.c 2;have b3:=H1.out.t.c 3;have b4:=H1.out.t.c 4;have b5:=H1.out.t.c 5;have b6:=H1.out.t.c 6)
     | (go_at_call 41;(with_reducible refine (h2 _).mono ?_);rintro e w2 ⟨rfl,rfl⟩)
     | (go_at_call 44;(with_reducible refine (h3 _).mono ?_);rintro e w2 ⟨rfl,rfl⟩)
     | (go_at_call 43;(with_reducible refine (HP.out _ (HE.out.old H1.out.o)).mono ?_);rintro e w3 ⟨rfl,o3⟩;have HN:=hid (Nat.lt_of_lt_of_le H1.out.s.lt o3.size);replace H1:=hid (H1.out.old (o3.alloc (.cells #[.int .u8 K,.int .i64 M,.string (st S)] 26)));clear a0 a1 a2 a3 a4 a5 a6 f0 f1 f2 f3 f4 f5 f6 b0 b1 b2 b3 b4 b5 b6;have a0:=H1.out.s.c 0;have a1:=H1.out.s.c 1;have a2:=H1.out.s.c 2;have a3:=H1.out.s.c 3;have a4:=H1.out.s.c 4;have a5:=H1.out.s.c 5;have a6:=H1.out.s.c 6;have f0:=H1.out.s.f 0;have f1:=H1.out.s.f 1;have f2:=H1.out.s.f 2;have f3:=H1.out.s.f 3;have f4:=H1.out.s.f 4;have f5:=H1.out.s.f 5;have f6:=H1.out.s.f 6;have b0:=H1.out.t.c 0;have b1:=H1.out.t.c 1;have b2:=H1.out.t.c 2;have b3:=H1.out.t.c 3;have b4:=H1.out.t.c 4;have b5:=H1.out.t.c 5;have b6:=H1.out.t.c 6))
    refine bodyPost_ret (ret_tok2 rfl _ _ w.heap.size rfl rfl rfl (H1.out.s.poke _ _ _ _ _ _ _)) rfl ?_
    exact ⟨rfl,old_poke7 H1.out.o (Nat.le_refl _) _ _ _ _ _ _ _⟩
theorem rword_any (RP:RParse) (s:ByteArray) (j:Nat) (hs:s.size≤70000) (hj:j<s.size) (w:World) (he:Env w) :
 Calls Tryz.prog 21 #[.string s,.int .i64 (j:Int)] w fun e w'=>e=wordE j (s.data.toList.drop j)∧Old w w':=by
 obtain ⟨c,hd0⟩:=drop_ex hj
 cases hc:sm c with
 | true=>exact rword_name s j hs hj c hd0 hc w
 | false=>
   by_cases h35:c=35
   ·exact rword_sym s j hs hj c hd0 h35 w
   by_cases h63:c=63
   ·exact rword_var s j hs hj c hd0 h63 w
   cases hc2:dgc c with
   | true=>exact rword_num s j hs hj c hd0 hc hc2 RP w he
   | false=>
     by_cases h34:c=34
     ·exact rword_str s j hs hj c hd0 h34 RP w he
     ·exact rword_sign s j hs hj c hd0 hc hc2 h34 h35 h63 w
end Go.Proofs.YtmkmafkkpigfpaaGreatDoor
