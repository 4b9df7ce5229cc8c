/- The document's lexer: a word. -/
import Derived.Test.YtmkmafkkpigfpaaGreatDoorFC
set_option maxHeartbeats 1600000
namespace Go.Proofs.YtmkmafkkpigfpaaGreatDoor
open Go.ChangeShapes Go.WideShapes Go.ChangeAt Go.RowKit Go.Lib
set_option linter.unusedVariables false
set_option linter.unusedSimpArgs false
set_option maxRecDepth 100000
def RParse:Prop:=∀ (l:List UInt8) (W:World),l.length≤70000→Env W→Calls Tryz.prog 43 #[.string (st l)] W fun e w'=>e=rd (parseL l)∧Old W w'
theorem sl_at (s:ByteArray) (i n:Nat) (I E:Int) (hI:I=(i:Int)) (hE:E=((i+n:Nat):Int)) (h:i+n≤s.size) (W:World) :
 (Instr.slice 9 (.string s) (some (.int .i64 I)) (some (.int .i64 E)) none).run Tryz.prog W=.ok (.string (st ((s.data.toList.drop i).take n))) W:=by
 subst hI hE
 have e:st ((s.data.toList.drop i).take n)=s.extract i (i+n):=by
  apply ba_ext
  rw [Lib.extract_toList,ByteArray.toList_eq,Nat.add_sub_cancel_left]
 rw [run_slice_string W 9 s .i64 .i64 (i:Int) ((i+n:Nat):Int) Tryz.underlying9 (by omega) (by omega) (by omega),e]
 congr 4
theorem ret_tok2 {fn:Func} {p u v:Tmp} (hf:fn.results=#[.cell p 64,.tmp u,.tmp v]) (tmps:Array Value) (w:World) (g:Nat) {x0 x1 x2 x3 x4 x5 x6 b c:Value} (hp:tmps.getD p undef=.pointer (some ⟨g,0,none⟩)) (hb:tmps.getD u undef=b) (hc:tmps.getD v undef=c) (hg:Sv w g x0 x1 x2 x3 x4 x5 x6) :
 (results fn tmps).run Tryz.prog w=.ok (.tuple #[.agg #[x0,x1,x2,x3,x4,x5,x6],b,c]) w:=by
 have hp':tmps[p]?.getD undef=.pointer (some ⟨g,0,none⟩):=by simpa using hp
 have hb':tmps[u]?.getD undef=b:=by simpa using hb
 have hc':tmps[v]?.getD undef=c:=by simpa using hc
 have r:=run_loadVar_row (P:=Tryz.prog) w g 64 64 #[x0,x1,x2,x3,x4,x5,x6] (0,0) _ hg Tryz.underlying64 rfl size33
 simp [results,hf,Sem.run_bind,Result.andThen,hp',hb',hc',asAddr,r]
structure Wo (w w1:World):Prop where
 s:Sv w1 w.heap.size (.int .u8 0) (.string ⟨#[]⟩) (.int .u8 0) (.int .i64 0) (.string ⟨#[]⟩) (.int .i64 0) (.int .i64 0)
 t:Sv w1 (w.heap.size+1) (.int .u8 0) (.string ⟨#[]⟩) (.int .u8 0) (.int .i64 0) (.string ⟨#[]⟩) (.int .i64 0) (.int .i64 0)
 o:Old w w1
theorem Wo.old {w w1 w2:World} (h:Wo w w1) (ho:Old w1 w2):Wo w w2:=⟨h.s.old ho,h.t.old ho,h.o.trans ho⟩
theorem Wo.drew {w w1:World} (h:Wo w w1):Wo w w1.drew:=⟨h.s,h.t,h.o.drew⟩
abbrev zobj:Obj:=.cells #[.int .u8 0,.string ⟨#[]⟩,.int .u8 0,.int .i64 0,.string ⟨#[]⟩,.int .i64 0,.int .i64 0] 64
theorem wo1 (w:World):Sv ((w.alloc zobj).alloc zobj) (w.heap.size+1) (.int .u8 0) (.string ⟨#[]⟩) (.int .u8 0) (.int .i64 0) (.string ⟨#[]⟩) (.int .i64 0) (.int .i64 0):=by
 have h:=Sv.new (x0:=.int .u8 0) (x1:=.string ⟨#[]⟩) (x2:=.int .u8 0) (x3:=.int .i64 0) (x4:=.string ⟨#[]⟩) (x5:=.int .i64 0) (x6:=.int .i64 0) (w.alloc zobj)
 rw [sz_alloc] at h
 exact h
theorem wo0 (w:World):Wo w ((w.alloc zobj).alloc zobj):=⟨(sv0 w).old ((Old.refl _).alloc zobj),wo1 w,((Old.refl w).alloc _).alloc _⟩
abbrev wordE (j:Nat) (l:List UInt8):Ending:=.returned (.tuple #[(meanW l).1.v,.int .i64 (if (meanW l).2=0 then ((j+wlen l:Nat):Int) else 0),.int .i64 (meanW l).2])
theorem wordE_bad {j:Nat} {l:List UInt8} {e:Int} (h:meanW l=(Tk.zero,e)) (he:e≠0):wordE j l=.returned (.tuple #[zeroV,.int .i64 0,.int .i64 e]):=by
 unfold wordE;rw [h];simp only [if_neg he];rfl
theorem wordE_ok {j n:Nat} {l:List UInt8} {x:Tk} (hw:wlen l=n) (h:meanW l=(x,0)):wordE j l=.returned (.tuple #[x.v,.int .i64 ((j+n:Nat):Int),.int .i64 0]):=by
 unfold wordE;rw [h,hw];rfl
theorem rword_name (s:ByteArray) (j:Nat) (hs:s.size≤70000) (hj:j<s.size) (c:UInt8) (hd0:s.data.toList.drop j=c::s.data.toList.drop (j+1)) (hc:sm c=true) (w:World) :
 Calls Tryz.prog 21 #[.string s,.int .i64 (j:Int)] w fun e w'=>e=wordE j (s.data.toList.drop j)∧Old w w':=by
 have hx:=fun W=>idx_any s j c (drop_get hd0) W
 obtain ⟨hw,hm⟩:=word1 (r:=s.data.toList.drop (j+1)) hc
 rw [←hd0] at hw hm
 obtain ⟨n,hn⟩:∃ n,n=runN (s.data.toList.drop j):=⟨_,rfl⟩
 obtain ⟨k,hk⟩:∃ k,k=j+n:=⟨_,rfl⟩
 have hle:j+n≤s.size:=by
  have:=runN_le (s.data.toList.drop j)
  rw [List.length_drop,Array.length_toList] at this
  have hz:s.data.size=s.size:=rfl
  omega
 have hp:1≤n:=by
  rw [hn]
  exact run_pos (by rw [hd0];exact hc)
 have h1:=fun W=>rrun_any s j (by omega) (by omega) W
 rw [←hn,←hk] at h1
 rw [←hn] at hw hm
 have H0:=hid (wo0 w)
 by_cases h12:n≤12
 ·rw [if_pos h12] at hm
  rw [wordE_ok hw hm,←hk]
  have hsl:=sl_at s j n (j:Int) (k:Int) rfl (by rw [hk]) hle
  obtain ⟨z,hz⟩:∃ z,z=st ((s.data.toList.drop j).take n):=⟨_,rfl⟩
  rw [←hz] at hsl
  have hg:(j:Int)<(k:Int):=by omega
  have hk7:k≤70000:=by omega
  have hg2:(k:Int)-(j:Int)≤12:=by omega
  have HZ:=hid hz
  show Calls _ _ _ _ fun e w'=>e=.returned (.tuple #[.agg #[.int .u8 1,.string (st ((s.data.toList.drop j).take n)),_,_,_,_,_],_,_])∧_
  rw [←hz]
  clear hw hm hn hk hz hd0
  go_enter Tryz.func21,Tryz.ntmps21
  go_wp2_with (first
   | (go_at_call 40;(with_reducible refine (h1 _).mono ?_);rintro e w1 ⟨rfl,hw1⟩;have H1:=hid (Eq.mp (congrArg (Wo w) hw1) H0.out);clear hw1;have a0:=H1.out.s.c 0;have a1:=H1.out.s.c 1;have a2:=H1.out.s.c 2;have a3:=H1.out.s.c 3;have a4:=H1.out.s.c 4;have a5:=H1.out.s.c 5;have a6:=H1.out.s.c 6;have f0:=H1.out.s.f 0;have f1:=H1.out.s.f 1;have f2:=H1.out.s.f 2;have f3:=H1.out.s.f 3;have f4:=H1.out.s.f 4;have f5:=H1.out.s.f 5;have f6:=H1.out.s.f 6;have b0:=H1.out.t.c 0;have b1:=H1.out.t.c 1;have b2:=H1.out.t.c 2;have b3:=H1.out.t.c 3;have b4:=H1.out.t.c 4;have b5:=H1.out.t.c 5;have b6:=H1.out.t.c 6))
  refine bodyPost_ret (ret_tok2 rfl _ _ w.heap.size rfl rfl rfl (H1.out.s.poke _ _ _ _ _ _ _)) rfl ?_
  exact ⟨rfl,old_poke7 H1.out.o (Nat.le_refl _) _ _ _ _ _ _ _⟩
 ·rw [if_neg h12] at hm
  rw [wordE_bad hm (by decide)]
  have hg:(j:Int)<(k:Int):=by omega
  have hk7:k≤70000:=by omega
  have hg2:12<(k:Int)-(j:Int):=by omega
  clear hw hm hn hk hd0
  go_enter Tryz.func21,Tryz.ntmps21
  go_wp2_with (first
   | (go_at_call 40;(with_reducible refine (h1 _).mono ?_);rintro e w1 ⟨rfl,hw1⟩;have H1:=hid (Eq.mp (congrArg (Wo w) hw1) H0.out);clear hw1;have a0:=H1.out.s.c 0;have a1:=H1.out.s.c 1;have a2:=H1.out.s.c 2;have a3:=H1.out.s.c 3;have a4:=H1.out.s.c 4;have a5:=H1.out.s.c 5;have a6:=H1.out.s.c 6;have f0:=H1.out.s.f 0;have f1:=H1.out.s.f 1;have f2:=H1.out.s.f 2;have f3:=H1.out.s.f 3;have f4:=H1.out.s.f 4;have f5:=H1.out.s.f 5;have f6:=H1.out.s.f 6;have b0:=H1.out.t.c 0;have b1:=H1.out.t.c 1;have b2:=H1.out.t.c 2;have b3:=H1.out.t.c 3;have b4:=H1.out.t.c 4;have b5:=H1.out.t.c 5;have b6:=H1.out.t.c 6))
  refine bodyPost_ret (ret_tok2 rfl _ _ w.heap.size rfl rfl rfl (H1.out.s.poke _ _ _ _ _ _ _)) rfl ?_
  exact ⟨rfl,old_poke7 H1.out.o (Nat.le_refl _) _ _ _ _ _ _ _⟩
theorem rword_sym (s:ByteArray) (j:Nat) (hs:s.size≤70000) (hj:j<s.size) (c:UInt8) (hd0:s.data.toList.drop j=c::s.data.toList.drop (j+1)) (hc0:c=35) (w:World) :
 Calls Tryz.prog 21 #[.string s,.int .i64 (j:Int)] w fun e w'=>e=wordE j (s.data.toList.drop j)∧Old w w':=by
 have hx:=fun W=>idx_any s j c (drop_get hd0) W
 have hc:sm c=false:=by subst hc0;decide
 have hr0:runN (s.data.toList.drop j)=0:=by rw [hd0];exact if_neg (by show ¬ sm c=true;rw [hc];exact Bool.false_ne_true)
 have h1:=fun W=>rrun_any s j (by omega) (by omega) W
 rw [hr0,Nat.add_zero] at h1
 obtain ⟨r,hr⟩:∃ r,r=s.data.toList.drop (j+1):=⟨_,rfl⟩
 obtain ⟨n,hn⟩:∃ n,n=runN r:=⟨_,rfl⟩
 obtain ⟨k,hk⟩:∃ k,k=j+1+n:=⟨_,rfl⟩
 have hle:j+1+n≤s.size:=by
  have:=runN_le (s.data.toList.drop (j+1))
  rw [List.length_drop,Array.length_toList] at this
  have hz:s.data.size=s.size:=rfl
  rw [hn,hr]
  omega
 have h2:∀ W,Calls Tryz.prog 40 #[.string s,.int .i64 ((j:Int)+1)] W fun e w'=>e=.returned (.int .i64 (k:Int))∧W=w':=fun W=>by
  have:=rrun_any s (j+1) (by omega) (by omega) W
  rw [←hr,←hn,←hk] at this
  exact this
 have hsl:=sl_at s (j+1) n ((j:Int)+1) (k:Int) (by omega) (by rw [hk]) hle
 rw [←hr] at hd0 hsl
 obtain ⟨z,hz⟩:∃ z,z=st (r.take n):=⟨_,rfl⟩
 have hzs:z.size=n:=by
  rw [hz]
  show (r.take n).toArray.size=n
  have:=runN_le r
  rw [List.size_toArray,List.length_take,hn]
  omega
 rw [←hz] at hsl
 rw [hd0]
 have HZ:=hid hz
 subst hc0
 replace hx:∀ W,(Instr.index 9 (.string s) (.int .i64 (j:Int))).run Tryz.prog W=.ok (.int .u8 35) W:=hx
 have H0:=hid (wo0 w)
 obtain ⟨hw1,hw2⟩:=word6 r
 rw [←hn] at hw1 hw2
 by_cases h12:n≤12
 ·by_cases h0:1≤n
  ·obtain ⟨hw,hm⟩:=hw1 ⟨h12,h0⟩
   rw [wordE_ok hw hm,show j+(n+1)=k by omega]
   have hg:z.size≤12:=by omega
   have hg0:¬ z.toList=[]:=fun h=>by
    have h3:z.toList.length=z.size:=by rw [ba_list];exact Array.length_toList
    rw [h] at h3
    simp at h3
    omega
   have hE:z.toList.isEmpty=false:=by simpa using hg0
   show Calls _ _ _ _ fun e w'=>e=.returned (.tuple #[.agg #[.int .u8 6,.string (st (r.take n)),.int .u8 5,.int .i64 0,.string (st (r.take n)),_,_],_,_])∧_
   rw [←hz]
   clear hw hm hw1 hw2 hn hk hz hd0 hr hr0 hzs
   go_enter Tryz.func21,Tryz.ntmps21
   go_wp2_with (first
    | (go_at_call 40;(with_reducible refine (h1 _).mono ?_);rintro e w1 ⟨rfl,hw1⟩;have H1:=hid (Eq.mp (congrArg (Wo w) hw1) H0.out);clear hw1;have a0:=H1.out.s.c 0;have a1:=H1.out.s.c 1;have a2:=H1.out.s.c 2;have a3:=H1.out.s.c 3;have a4:=H1.out.s.c 4;have a5:=H1.out.s.c 5;have a6:=H1.out.s.c 6;have f0:=H1.out.s.f 0;have f1:=H1.out.s.f 1;have f2:=H1.out.s.f 2;have f3:=H1.out.s.f 3;have f4:=H1.out.s.f 4;have f5:=H1.out.s.f 5;have f6:=H1.out.s.f 6;have b0:=H1.out.t.c 0;have b1:=H1.out.t.c 1;have b2:=H1.out.t.c 2;have b3:=H1.out.t.c 3;have b4:=H1.out.t.c 4;have b5:=H1.out.t.c 5;have b6:=H1.out.t.c 6)
    | (go_at_call 40;(with_reducible refine (h2 _).mono ?_);rintro e w2 ⟨rfl,rfl⟩))
   refine bodyPost_ret (ret_tok2 rfl _ _ w.heap.size rfl rfl rfl (H1.out.s.poke _ _ _ _ _ _ _)) rfl ?_
   exact ⟨rfl,old_poke7 H1.out.o (Nat.le_refl _) _ _ _ _ _ _ _⟩
  ·have hm:=hw2 (fun h=>h0 h.2)
   rw [wordE_bad hm (by decide)]
   have hzz:z=⟨#[]⟩:=by
    rw [hz,show n=0 by omega,List.take_zero]
   subst hzz
   clear hm hw1 hw2 hn hk hz hd0 hr hr0 hzs HZ
   go_enter Tryz.func21,Tryz.ntmps21
   go_wp2_with (first
    | (go_at_call 40;(with_reducible refine (h1 _).mono ?_);rintro e w1 ⟨rfl,hw1⟩;have H1:=hid (Eq.mp (congrArg (Wo w) hw1) H0.out);clear hw1;have a0:=H1.out.s.c 0;have a1:=H1.out.s.c 1;have a2:=H1.out.s.c 2;have a3:=H1.out.s.c 3;have a4:=H1.out.s.c 4;have a5:=H1.out.s.c 5;have a6:=H1.out.s.c 6;have f0:=H1.out.s.f 0;have f1:=H1.out.s.f 1;have f2:=H1.out.s.f 2;have f3:=H1.out.s.f 3;have f4:=H1.out.s.f 4;have f5:=H1.out.s.f 5;have f6:=H1.out.s.f 6;have b0:=H1.out.t.c 0;have b1:=H1.out.t.c 1;have b2:=H1.out.t.c 2;have b3:=H1.out.t.c 3;have b4:=H1.out.t.c 4;have b5:=H1.out.t.c 5;have b6:=H1.out.t.c 6)
    | (go_at_call 40;(with_reducible refine (h2 _).mono ?_);rintro e w2 ⟨rfl,rfl⟩))
   refine bodyPost_ret (ret_tok2 rfl _ _ w.heap.size rfl rfl rfl (H1.out.s.poke _ _ _ _ _ _ _)) rfl ?_
   exact ⟨rfl,old_poke7 H1.out.o (Nat.le_refl _) _ _ _ _ _ _ _⟩
 ·have hm:=hw2 (fun h=>h12 h.1)
  rw [wordE_bad hm (by decide)]
  have hg:12<z.size:=by omega
  clear hm hw1 hw2 hn hk hz hd0 hr hr0 hzs
  go_enter Tryz.func21,Tryz.ntmps21
  go_wp2_with (first
   | (go_at_call 40;(with_reducible refine (h1 _).mono ?_);rintro e w1 ⟨rfl,hw1⟩;have H1:=hid (Eq.mp (congrArg (Wo w) hw1) H0.out);clear hw1;have a0:=H1.out.s.c 0;have a1:=H1.out.s.c 1;have a2:=H1.out.s.c 2;have a3:=H1.out.s.c 3;have a4:=H1.out.s.c 4;have a5:=H1.out.s.c 5;have a6:=H1.out.s.c 6;have f0:=H1.out.s.f 0;have f1:=H1.out.s.f 1;have f2:=H1.out.s.f 2;have f3:=H1.out.s.f 3;have f4:=H1.out.s.f 4;have f5:=H1.out.s.f 5;have f6:=H1.out.s.f 6;have b0:=H1.out.t.c 0;have b1:=H1.out.t.c 1;have b2:=H1.out.t.c 2;have b3:=H1.out.t.c 3;have b4:=H1.out.t.c 4;have b5:=H1.out.t.c 5;have b6:=H1.out.t.c 6)
   | (go_at_call 40;(with_reducible refine (h2 _).mono ?_);rintro e w2 ⟨rfl,rfl⟩))
  refine bodyPost_ret (ret_tok2 rfl _ _ w.heap.size rfl rfl rfl (H1.out.s.poke _ _ _ _ _ _ _)) rfl ?_
  exact ⟨rfl,old_poke7 H1.out.o (Nat.le_refl _) _ _ _ _ _ _ _⟩
theorem rword_var (s:ByteArray) (j:Nat) (hs:s.size≤70000) (hj:j<s.size) (c:UInt8) (hd0:s.data.toList.drop j=c::s.data.toList.drop (j+1)) (hc0:c=63) (w:World) :
 Calls Tryz.prog 21 #[.string s,.int .i64 (j:Int)] w fun e w'=>e=wordE j (s.data.toList.drop j)∧Old w w':=by
 have hx:=fun W=>idx_any s j c (drop_get hd0) W
 have hc:sm c=false:=by subst hc0;decide
 have hr0:runN (s.data.toList.drop j)=0:=by rw [hd0];exact if_neg (by show ¬ sm c=true;rw [hc];exact Bool.false_ne_true)
 have h1:=fun W=>rrun_any s j (by omega) (by omega) W
 rw [hr0,Nat.add_zero] at h1
 obtain ⟨r,hr⟩:∃ r,r=s.data.toList.drop (j+1):=⟨_,rfl⟩
 obtain ⟨n,hn⟩:∃ n,n=runN r:=⟨_,rfl⟩
 obtain ⟨k,hk⟩:∃ k,k=j+1+n:=⟨_,rfl⟩
 have hle:j+1+n≤s.size:=by
  have:=runN_le (s.data.toList.drop (j+1))
  rw [List.length_drop,Array.length_toList] at this
  have hz:s.data.size=s.size:=rfl
  rw [hn,hr]
  omega
 have h2:∀ W,Calls Tryz.prog 40 #[.string s,.int .i64 ((j:Int)+1)] W fun e w'=>e=.returned (.int .i64 (k:Int))∧W=w':=fun W=>by
  have:=rrun_any s (j+1) (by omega) (by omega) W
  rw [←hr,←hn,←hk] at this
  exact this
 have hsl:=sl_at s (j+1) n ((j:Int)+1) (k:Int) (by omega) (by rw [hk]) hle
 rw [←hr] at hd0 hsl
 obtain ⟨z,hz⟩:∃ z,z=st (r.take n):=⟨_,rfl⟩
 have hzs:z.size=n:=by
  rw [hz]
  show (r.take n).toArray.size=n
  have:=runN_le r
  rw [List.size_toArray,List.length_take,hn]
  omega
 rw [←hz] at hsl
 rw [hd0]
 have HZ:=hid hz
 subst hc0
 replace hx:∀ W,(Instr.index 9 (.string s) (.int .i64 (j:Int))).run Tryz.prog W=.ok (.int .u8 63) W:=hx
 have H0:=hid (wo0 w)
 by_cases h0:1≤n
 ·obtain ⟨hw1,hw2⟩:=word2 (r:=r) (by omega)
  rw [←hn] at hw1 hw2
  by_cases h12:n≤12
  ·obtain ⟨hw,hm⟩:=hw1 h12
   rw [wordE_ok hw hm,show j+(n+1)=k by omega]
   have hg:z.size≤12:=by omega
   have hg0:¬ z.toList=[]:=fun h=>by
    have h3:z.toList.length=z.size:=by rw [ba_list];exact Array.length_toList
    rw [h] at h3
    simp at h3
    omega
   have hE:z.toList.isEmpty=false:=by simpa using hg0
   show Calls _ _ _ _ fun e w'=>e=.returned (.tuple #[.agg #[.int .u8 2,.string (st (r.take n)),_,_,_,_,_],_,_])∧_
   rw [←hz]
   clear hw hm hw1 hw2 hn hk hz hd0 hr hr0 hzs
   go_enter Tryz.func21,Tryz.ntmps21
   go_wp2_with (first
    | (go_at_call 40;(with_reducible refine (h1 _).mono ?_);rintro e w1 ⟨rfl,hw1⟩;have H1:=hid (Eq.mp (congrArg (Wo w) hw1) H0.out);clear hw1;have a0:=H1.out.s.c 0;have a1:=H1.out.s.c 1;have a2:=H1.out.s.c 2;have a3:=H1.out.s.c 3;have a4:=H1.out.s.c 4;have a5:=H1.out.s.c 5;have a6:=H1.out.s.c 6;have f0:=H1.out.s.f 0;have f1:=H1.out.s.f 1;have f2:=H1.out.s.f 2;have f3:=H1.out.s.f 3;have f4:=H1.out.s.f 4;have f5:=H1.out.s.f 5;have f6:=H1.out.s.f 6;have b0:=H1.out.t.c 0;have b1:=H1.out.t.c 1;have b2:=H1.out.t.c 2;have b3:=H1.out.t.c 3;have b4:=H1.out.t.c 4;have b5:=H1.out.t.c 5;have b6:=H1.out.t.c 6)
    | (go_at_call 40;(with_reducible refine (h2 _).mono ?_);rintro e w2 ⟨rfl,rfl⟩))
   refine bodyPost_ret (ret_tok2 rfl _ _ w.heap.size rfl rfl rfl (H1.out.s.poke _ _ _ _ _ _ _)) rfl ?_
   exact ⟨rfl,old_poke7 H1.out.o (Nat.le_refl _) _ _ _ _ _ _ _⟩
  ·have hm:=hw2 h12
   rw [wordE_bad hm (by decide)]
   have hg:12<z.size:=by omega
   clear hm hw1 hw2 hn hk hz hd0 hr hr0 hzs
   go_enter Tryz.func21,Tryz.ntmps21
   go_wp2_with (first
    | (go_at_call 40;(with_reducible refine (h1 _).mono ?_);rintro e w1 ⟨rfl,hw1⟩;have H1:=hid (Eq.mp (congrArg (Wo w) hw1) H0.out);clear hw1;have a0:=H1.out.s.c 0;have a1:=H1.out.s.c 1;have a2:=H1.out.s.c 2;have a3:=H1.out.s.c 3;have a4:=H1.out.s.c 4;have a5:=H1.out.s.c 5;have a6:=H1.out.s.c 6;have f0:=H1.out.s.f 0;have f1:=H1.out.s.f 1;have f2:=H1.out.s.f 2;have f3:=H1.out.s.f 3;have f4:=H1.out.s.f 4;have f5:=H1.out.s.f 5;have f6:=H1.out.s.f 6;have b0:=H1.out.t.c 0;have b1:=H1.out.t.c 1;have b2:=H1.out.t.c 2;have b3:=H1.out.t.c 3;have b4:=H1.out.t.c 4;have b5:=H1.out.t.c 5;have b6:=H1.out.t.c 6)
    | (go_at_call 40;(with_reducible refine (h2 _).mono ?_);rintro e w2 ⟨rfl,rfl⟩))
   refine bodyPost_ret (ret_tok2 rfl _ _ w.heap.size rfl rfl rfl (H1.out.s.poke _ _ _ _ _ _ _)) rfl ?_
   exact ⟨rfl,old_poke7 H1.out.o (Nat.le_refl _) _ _ _ _ _ _ _⟩
 ·obtain ⟨hw,hm⟩:=word3 (r:=r) (by omega)
  rw [wordE_ok hw hm,show j+1=k by omega]
  have hzz:z=⟨#[]⟩:=by
   rw [hz,show n=0 by omega,List.take_zero]
  subst hzz
  clear hw hm hn hk hz hd0 hr hr0 hzs HZ
  go_enter Tryz.func21,Tryz.ntmps21
  go_wp2_with (first
   | (go_at_call 40;(with_reducible refine (h1 _).mono ?_);rintro e w1 ⟨rfl,hw1⟩;have H1:=hid (Eq.mp (congrArg (Wo w) hw1) H0.out);clear hw1;have a0:=H1.out.s.c 0;have a1:=H1.out.s.c 1;have a2:=H1.out.s.c 2;have a3:=H1.out.s.c 3;have a4:=H1.out.s.c 4;have a5:=H1.out.s.c 5;have a6:=H1.out.s.c 6;have f0:=H1.out.s.f 0;have f1:=H1.out.s.f 1;have f2:=H1.out.s.f 2;have f3:=H1.out.s.f 3;have f4:=H1.out.s.f 4;have f5:=H1.out.s.f 5;have f6:=H1.out.s.f 6;have b0:=H1.out.t.c 0;have b1:=H1.out.t.c 1;have b2:=H1.out.t.c 2;have b3:=H1.out.t.c 3;have b4:=H1.out.t.c 4;have b5:=H1.out.t.c 5;have b6:=H1.out.t.c 6)
   | (go_at_call 40;(with_reducible refine (h2 _).mono ?_);rintro e w2 ⟨rfl,rfl⟩))
  refine bodyPost_ret (ret_tok2 rfl _ _ w.heap.size rfl rfl rfl (H1.out.s.poke _ _ _ _ _ _ _)) rfl ?_
  exact ⟨rfl,old_poke7 H1.out.o (Nat.le_refl _) _ _ _ _ _ _ _⟩
theorem rword_sign (s:ByteArray) (j:Nat) (hs:s.size≤70000) (hj:j<s.size) (c:UInt8) (hd0:s.data.toList.drop j=c::s.data.toList.drop (j+1)) (hc:sm c=false) (hc2:dgc c=false) (h34:c≠34) (h35:c≠35) (h63:c≠63) (w:World) :
 Calls Tryz.prog 21 #[.string s,.int .i64 (j:Int)] w fun e w'=>e=wordE j (s.data.toList.drop j)∧Old w w':=by
 have hx:=fun W=>idx_any s j c (drop_get hd0) W
 have hr0:runN (s.data.toList.drop j)=0:=by rw [hd0];exact if_neg (by show ¬ sm c=true;rw [hc];exact Bool.false_ne_true)
 have h1:=fun W=>rrun_any s j (by omega) (by omega) W
 rw [hr0,Nat.add_zero] at h1
 have h2:=fun W=>rdgc_any c W
 rw [hc2] at h2
 have h3:=fun W=>rsign_any s j (by omega) hj W
 obtain ⟨hw1,hw2⟩:=word7 (r:=s.data.toList.drop (j+1)) hc hc2 h34 h35 h63
 rw [←hd0] at hw1 hw2
 have i34:((c.toNat:Int)==34)=false:=beq_false_of_ne (u8_int (d:=34) h34)
 have i35:((c.toNat:Int)==35)=false:=beq_false_of_ne (u8_int (d:=35) h35)
 have i63:((c.toNat:Int)==63)=false:=beq_false_of_ne (u8_int (d:=63) h63)
 have H0:=hid (wo0 w)
 cases hg:sgI (s.data.toList.drop j) with
 | none=>
   rw [hg] at h3
   replace h3:∀ W,Calls Tryz.prog 45 #[.string s,.int .i64 (j:Int)] W fun e w'=>e=.returned (.int .i64 (-1))∧W=w':=h3
   rw [wordE_bad (hw2 hg) (by decide)]
   clear hw1 hw2 hg hd0 hr0 h34 h35 h63 hc2 hc
   generalize (c.toNat:Int)=v at *
   go_enter Tryz.func21,Tryz.ntmps21
   go_wp2_with (first
    | (go_at_call 40;(with_reducible refine (h1 _).mono ?_);rintro e w1 ⟨rfl,hw1⟩;have H1:=hid (Eq.mp (congrArg (Wo w) hw1) H0.out);clear hw1;have a0:=H1.out.s.c 0;have a1:=H1.out.s.c 1;have a2:=H1.out.s.c 2;have a3:=H1.out.s.c 3;have a4:=H1.out.s.c 4;have a5:=H1.out.s.c 5;have a6:=H1.out.s.c 6;have f0:=H1.out.s.f 0;have f1:=H1.out.s.f 1;have f2:=H1.out.s.f 2;have f3:=H1.out.s.f 3;have f4:=H1.out.s.f 4;have f5:=H1.out.s.f 5;have f6:=H1.out.s.f 6;have b0:=H1.out.t.c 0;have b1:=H1.out.t.c 1;have b2:=H1.out.t.c 2;have b3:=H1.out.t.c 3;have b4:=H1.out.t.c 4;have b5:=H1.out.t.c 5;have b6:=H1.out.t.c 6)
    | (go_at_call 41;(with_reducible refine (h2 _).mono ?_);rintro e w2 ⟨rfl,rfl⟩)
    | (go_at_call 45;(with_reducible refine (h3 _).mono ?_);rintro e w2 ⟨rfl,rfl⟩))
   refine bodyPost_ret (ret_tok2 rfl _ _ w.heap.size rfl rfl rfl (H1.out.s.poke _ _ _ _ _ _ _)) rfl ?_
   exact ⟨rfl,old_poke7 H1.out.o (Nat.le_refl _) _ _ _ _ _ _ _⟩
 | some n=>
   obtain ⟨hw,hm⟩:=hw1 n hg
   rw [wordE_ok hw hm]
   rw [hg] at h3
   obtain ⟨k,hk⟩:∃ k,k=j+n:=⟨_,rfl⟩
   replace h3:∀ W,Calls Tryz.prog 45 #[.string s,.int .i64 (j:Int)] W fun e w'=>e=.returned (.int .i64 (k:Int))∧W=w':=fun W=>by rw [hk];exact h3 W
   have hle:j+n≤s.size:=by
    have h4:=wlen_le (l:=s.data.toList.drop j) (by rw [hd0];exact List.cons_ne_nil _ _)
    rw [hw,List.length_drop,Array.length_toList] at h4
    have hz:s.data.size=s.size:=rfl
    omega
   have hsl:=sl_at s j n (j:Int) (k:Int) rfl (by rw [hk]) hle
   obtain ⟨z,hz⟩:∃ z,z=st ((s.data.toList.drop j).take n):=⟨_,rfl⟩
   rw [←hz] at hsl
   have HZ:=hid hz
   show Calls _ _ _ _ fun e w'=>e=.returned (.tuple #[.agg #[.int .u8 7,.string (st ((s.data.toList.drop j).take n)),_,_,_,_,_],_,_])∧_
   rw [←hz,←hk]
   have hk0:¬ (k:Int)<0:=by omega
   clear hw1 hw2 hg hd0 hr0 h34 h35 h63 hw hm hk hz hc2 hc
   generalize (c.toNat:Int)=v at *
   go_enter Tryz.func21,Tryz.ntmps21
   go_wp2_with (first
    | (go_at_call 40;(with_reducible refine (h1 _).mono ?_);rintro e w1 ⟨rfl,hw1⟩;have H1:=hid (Eq.mp (congrArg (Wo w) hw1) H0.out);clear hw1;have a0:=H1.out.s.c 0;have a1:=H1.out.s.c 1;have a2:=H1.out.s.c 2;have a3:=H1.out.s.c 3;have a4:=H1.out.s.c 4;have a5:=H1.out.s.c 5;have a6:=H1.out.s.c 6;have f0:=H1.out.s.f 0;have f1:=H1.out.s.f 1;have f2:=H1.out.s.f 2;have f3:=H1.out.s.f 3;have f4:=H1.out.s.f 4;have f5:=H1.out.s.f 5;have f6:=H1.out.s.f 6;have b0:=H1.out.t.c 0;have b1:=H1.out.t.c 1;have b2:=H1.out.t.c 2;have b3:=H1.out.t.c 3;have b4:=H1.out.t.c 4;have b5:=H1.out.t.c 5;have b6:=H1.out.t.c 6)
    | (go_at_call 41;(with_reducible refine (h2 _).mono ?_);rintro e w2 ⟨rfl,rfl⟩)
    | (go_at_call 45;(with_reducible refine (h3 _).mono ?_);rintro e w2 ⟨rfl,rfl⟩))
   refine bodyPost_ret (ret_tok2 rfl _ _ w.heap.size rfl rfl rfl (H1.out.s.poke _ _ _ _ _ _ _)) rfl ?_
   exact ⟨rfl,old_poke7 H1.out.o (Nat.le_refl _) _ _ _ _ _ _ _⟩
end Go.Proofs.YtmkmafkkpigfpaaGreatDoor
