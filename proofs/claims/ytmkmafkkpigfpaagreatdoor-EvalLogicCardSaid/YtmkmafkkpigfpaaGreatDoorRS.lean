/- The document's reader: every level keeps its contract. The document's Parse. The document's Behind. The document's own answers of layer value: names, which values may be, their order. -/
import Derived.Test.YtmkmafkkpigfpaaGreatDoorJI
set_option maxHeartbeats 1600000
namespace Go.Proofs.YtmkmafkkpigfpaaGreatDoor
open Go.ChangeShapes Go.WideShapes Go.ChangeAt Go.RowKit Go.Lib
set_option linter.unusedVariables false
set_option linter.unusedSimpArgs false
set_option maxRecDepth 100000
theorem callq_any {w0:Wz} {b F:Nat} {vw:Value} {A:List Tk} (hA:A.length≤200000) (ih:∀ S G,G≤F→LvQ (wz w0 S) b vw A G):CallQ w0 b vw A F:=by
 intro op lo hi o n N T vt w ho hn hTn H hout h1 h2 h3 h4 h5 hN hN2
 unfold callP at hout ⊢
 rw [drop_tl,drop_tl] at *
 simp only at hout ⊢
 cases hi40:isL [40] (A.drop (n+1))
 ·rw [if_pos rfl]
  exact rcall_paren (F:=F) H hn hA ho hTn h2 (by omega) h5 (by omega) hN2 hi40
 ·rw [hi40] at hout
  rw [if_neg (by simp)] at hout ⊢
  by_cases h12:o=12
  ·rw [if_pos h12]
   exact rcall_deep (F:=F) H hn hA ho hTn h2 (by omega) h5 (by omega) hN2 hi40 h12
  ·rw [if_neg h12] at hout ⊢
   exact rcall_go ih H hn hA ho hTn h2 (by omega) h5 h3 h4 hN hN2 hi40 h12 rfl hout
theorem rlvl7 {w0:Wz} {w:World} {b n o N:Nat} {vw vt:Value} {A:List Tk} {T:List Nd} {X:Rz} (H:Qr w0 b vw A T n o vt w) (hX:X≠.out)
 (h:∀ W,Qr w0 b vw A T n o vt W→Calls Tryz.prog 46 #[.pointer (some ⟨b,0,none⟩)] W (RRes w0 b vw A T n o N vt W X)) :
 Calls Tryz.prog 22 #[.pointer (some ⟨b,0,none⟩),.int .i64 7] w (RRes w0 b vw A T n o N vt w X):=by
 have r4:=H.rd.c 4
 have HQ:=hid (h w H)
 clear H h
 go_enter Tryz.func22,Tryz.ntmps22
 go_wp2_with (first
  | (go_at_call 46;(with_reducible refine HQ.out.mono ?_);rintro e w9 h9;obtain ⟨i,rfl⟩:=rres_int hX h9;have H9:=hid h9;clear h9))
 go_ret
 exact H9.out
theorem lvq (w0:Wz) (b:Nat) (vw:Value) (A:List Tk) (hA:A.length≤200000):∀ F S,LvQ (wz w0 S) b vw A F:=by
 intro F
 induction F using Nat.strongRecOn with
 | ind F ih0=>
   intro S
   cases F with
   | zero=>
     intro L o n N T vt w hL ho hn hTn H hout
     exact absurd rfl hout
   | succ F=>
     have ih:∀ S G,G≤F→LvQ (wz w0 S) b vw A G:=fun S G hG=>ih0 G (Nat.lt_succ_of_le hG) S
     intro L o n N T vt w hL ho hn hTn H hout hN hN2
     by_cases h7:L=7
     ·subst h7
      have e:P (F+1) (.lvl 7) o (A.drop n)=atomP (P F) o (A.drop n):=by rw [P_lvl];rfl
      rw [e] at hout ⊢
      exact rlvl7 H hout fun W h=>ratom_any (ih S F (Nat.le_refl _)) (callq_any (w0:=wz w0 S) hA (fun S' G hG=>ih S' G hG)) h hn hA ho hTn hout (by omega) hN2
     by_cases h2:L=2
     ·subst h2
      have e:P (F+1) (.lvl 2) o (A.drop n)=preP (P F) 2 o (A.drop n):=by rw [P_lvl];rfl
      rw [e] at hout ⊢
      exact rpre (.inl ⟨rfl,rfl,rfl,rfl,rfl,rfl⟩) (ih S F (Nat.le_refl _)) H hn hA ho hTn hout (by omega) hN2
     by_cases h6:L=6
     ·subst h6
      have e:P (F+1) (.lvl 6) o (A.drop n)=preP (P F) 6 o (A.drop n):=by rw [P_lvl];rfl
      rw [e] at hout ⊢
      exact rpre (.inr ⟨rfl,rfl,rfl,rfl,rfl,rfl⟩) (ih S F (Nat.le_refl _)) H hn hA ho hTn hout (by omega) hN2
     ·have hL5:L=0∨L=1∨L=3∨L=4∨L=5:=by omega
      exact rlvl_any (fun G hG=>ih S G hG) H hn hA ho hTn hL5 (lvl_kq hL5).symm hout (by omega) hN2
abbrev rq0 (vw:Value):Obj:=.cells #[vw,.int .i64 0,.int .i64 0,.slice none 0 0,.int .i64 0,.int .i64 0] 82
abbrev wF (w:World):Wz:=⟨w,fun _=>False⟩
theorem qr_new {w:World} {vw:Value} {A:List Tk} (hw:Rw w vw A):Qr (wF w) w.heap.size vw A [] 0 0 (.slice none 0 0) (w.alloc (rq0 vw)):=
 ⟨(MapKept.heap_alloc w _).1,⟨(Old.refl w).alloc _,Nat.le_refl _,hw⟩,TreeR.nil _ _ _,fun k hk=>hk.elim⟩
theorem qparse_ok {w:World} {oa:Option Addr} {cap:Nat} {A:List Tk} {ns:List Nd} {r:List Tk} (hA:A.length≤65536) (hw:Rw w (.slice oa A.length cap) A) (hP:parseX A=.ok ns r) :
 Calls Tryz.prog 14 #[.slice oa A.length cap,.int .i64 0] w fun e w'=>Pz w A (.ok ns r) e w'∧Old w w':=by
 have hQ:=qr_new hw
 have hl:=lvq (wF w) w.heap.size (.slice oa A.length cap) A (by omega) (fuelOf A) (fun _=>False) 0 0 0 1000000 [] (.slice none 0 0) (w.alloc (rq0 (.slice oa A.length cap))) (by omega) (by omega) (by omega) (by simp) hQ (by show P (fuelOf A) (.lvl 0) 0 A≠.out;exact parseX_in A) (by simp only [List.length_nil];unfold fuelOf;omega) (Nat.le_refl _)
 have e0:P (fuelOf A) (.lvl 0) 0 (A.drop 0)=.ok ns r:=hP
 rw [e0] at hl
 have HL:=hid (show Calls Tryz.prog 22 #[.pointer (some ⟨w.heap.size,0,none⟩),.int .i64 0] (w.alloc (.cells #[.slice oa A.length cap,.int .i64 0,.int .i64 0,.slice none 0 0,.int .i64 0,.int .i64 0] 82)) _ from calls_rg (T:=[]) hl rfl)
 clear hw hQ hl e0 hP
 by_cases h60:60<ns.length
 ·go_enter Tryz.func14,Tryz.ntmps14
  go_wp2_with (first
   | (go_at_call 22;(with_reducible refine HL.out.mono ?_);rintro e w3 ⟨m,vt,rfl,hg⟩;have HG:=hg;obtain ⟨kvs,hk1,hk2,hk3⟩:=hg.out.ok.tree;obtain ⟨oa',cap',rfl⟩:=own_shape hk2;have x4:=hg.out.ok.rd.c 4;have x3:=hg.out.ok.rd.c 3;have x1:=hg.out.ok.rd.c 1;have h60':(60:Int)<(ns.length:Int):=(by omega);clear hk1 hk2 hk3 hg))
  refine bodyPost_ret (v:=.tuple #[.slice none 0 0,.int .i64 0,.int .i64 7]) (by simp [results,Tryz.results14,go_sem]) rfl ?_
  refine ⟨⟨m,HG.out.hr,HG.out.hm,?_⟩,HG.out.ok.qi.old⟩
  rw [if_pos h60]
 ·go_enter Tryz.func14,Tryz.ntmps14
  go_wp2_with (first
   | (go_at_call 22;(with_reducible refine HL.out.mono ?_);rintro e w3 ⟨m,vt,rfl,hg⟩;have HG:=hg;obtain ⟨kvs,hk1,hk2,hk3⟩:=hg.out.ok.tree;obtain ⟨oa',cap',rfl⟩:=own_shape hk2;have x4:=hg.out.ok.rd.c 4;have x3:=hg.out.ok.rd.c 3;have x1:=hg.out.ok.rd.c 1;have h60':¬ (60:Int)<(ns.length:Int):=(by omega);clear hk1 hk2 hk3 hg))
  go_quiet (fail)
  go_wp2
  refine bodyPost_ret (v:=.tuple #[.slice oa' _ cap',.int .i64 (m:Int),.int .i64 0]) (by simp [results,Tryz.results14,go_sem];rfl) rfl ?_
  refine ⟨⟨m,HG.out.hr,HG.out.hm,?_⟩,HG.out.ok.qi.old.drewN _⟩
  rw [if_neg h60]
  exact ⟨_,rfl,HG.out.ok.tree.old ((Old.refl w3).drewN _)⟩
theorem qparse_no {w:World} {oa:Option Addr} {cap:Nat} {A:List Tk} {er:Int} {r:List Tk} (hA:A.length≤65536) (hw:Rw w (.slice oa A.length cap) A) (hP:parseX A=.no er r) :
 Calls Tryz.prog 14 #[.slice oa A.length cap,.int .i64 0] w fun e w'=>Pz w A (.no er r) e w'∧Old w w':=by
 have hQ:=qr_new hw
 have hl:=lvq (wF w) w.heap.size (.slice oa A.length cap) A (by omega) (fuelOf A) (fun _=>False) 0 0 0 1000000 [] (.slice none 0 0) (w.alloc (rq0 (.slice oa A.length cap))) (by omega) (by omega) (by omega) (by simp) hQ (by show P (fuelOf A) (.lvl 0) 0 A≠.out;exact parseX_in A) (by simp only [List.length_nil];unfold fuelOf;omega) (Nat.le_refl _)
 have e0:P (fuelOf A) (.lvl 0) 0 (A.drop 0)=.no er r:=hP
 rw [e0] at hl
 have HL:=hid (show Calls Tryz.prog 22 #[.pointer (some ⟨w.heap.size,0,none⟩),.int .i64 0] (w.alloc (.cells #[.slice oa A.length cap,.int .i64 0,.int .i64 0,.slice none 0 0,.int .i64 0,.int .i64 0] 82)) _ from calls_rb (T:=[]) hl)
 clear hw hQ hl e0 hP
 go_enter Tryz.func14,Tryz.ntmps14
 go_wp2_with (first
  | (go_at_call 22;(with_reducible refine HL.out.mono ?_);rintro e w3 ⟨i,m,vt,rfl,hb⟩;have HB:=hb;obtain ⟨n9,o9,cs9,k9,j1,j2,j3,j4⟩:=hb.out.qs.st;have x4:=j3.c 4;have x5:=j3.c 5;have i0:(er==0)=false:=beq_false_of_ne hb.out.qs.ne;have i1:(er != 0)=true:=(by rw [bne,i0];rfl);clear j1 j2 j3 j4 hb))
 go_quiet (fail)
 go_wp2
 refine bodyPost_ret (v:=.tuple #[.slice none 0 0,.int .i64 (m:Int),.int .i64 er]) (by simp [results,Tryz.results14,go_sem]) rfl ?_
 exact ⟨⟨m,HB.out.hr,HB.out.hm,rfl⟩,HB.out.qs.qi.old.drewN _⟩
theorem qparse_any {w:World} {oa:Option Addr} {cap:Nat} {A:List Tk} (hA:A.length≤65536) (hw:Rw w (.slice oa A.length cap) A) :
 Calls Tryz.prog 14 #[.slice oa A.length cap,.int .i64 0] w fun e w'=>Pz w A (parseX A) e w'∧Old w w':=by
 cases hP:parseX A with
 | out=>exact absurd hP (parseX_in A)
 | ok ns r=>exact qparse_ok hA hw hP
 | no er r=>exact qparse_no hA hw hP
theorem mean_self {k:Nat} {l:List UInt8} (h:(meanL k l).2=0) (h3:(meanL k l).1.k=3):(meanL k l).1.t=[]:=by
 unfold meanL at h h3 ⊢
 split at h
 ·next hk=>rw [if_pos hk] at h3;rw [(named_ok h).2] at h3;simp at h3
 next h1=>
 rw [if_neg h1] at h3 ⊢
 split at h
 ·next hk=>rw [if_pos hk] at h3;rw [(named_ok h).2] at h3;simp at h3
 next h2=>
 rw [if_neg h2] at h3 ⊢
 split at h
 ·next hk=>
  rw [if_pos hk] at h3
  split at h
  ·next h0=>rw [if_pos h0] at h3;rw [(named_ok h0).2] at h3;simp at h3
  ·next h0=>exact absurd h h0
 next h6=>
 rw [if_neg h6] at h3 ⊢
 split at h
 ·next hk=>rw [if_pos hk] at h3;rw [valued_ok h] at h3;simp at h3
 next h4=>
 rw [if_neg h4] at h3 ⊢
 split at h
 ·next hk=>rw [if_pos hk] at h3;rw [valued_ok h] at h3;simp at h3
 next h5=>
 rw [if_neg h5] at h3 ⊢
 split at h
 ·next hk=>rw [if_pos hk]
 next hk3=>
 rw [if_neg hk3] at h3 ⊢
 split at h
 ·next hk=>rw [if_pos hk] at h3;simp at h3
 ·next hk=>rw [if_neg hk] at h3;simp [Tk.zero] at h3
theorem Wds.self {s:List UInt8} {L C:Nat} {T:List Tk} {E ln cl:Int} (h:Wds s L C T E ln cl):∀ x∈T,x.k=3→x.t=[]:=fun x hx hk=>by
 obtain ⟨h1,h2,h3,h4⟩:=h.good.1 x hx
 have e1:=bare_k h4
 have e2:=bare_t h4
 rw [←e2]
 exact mean_self h3 (e1.trans hk)
theorem qbehind_nil (oa:Option Addr) (cap:Nat) (w:World):Calls Tryz.prog 15 #[.slice oa 0 cap] w fun e w'=>e=.returned (.agg #[.int .i64 1,.int .i64 1])∧Old w w':=by
 have HO:=hid (((Old.refl w).alloc (.cells #[.int .i64 1,.int .i64 1] 31)))
 have HP:=hid (pl_new w 1 1)
 go_enter Tryz.func15,Tryz.ntmps15
 go_wp2
 exact bodyPost_ret (ret_pl1 rfl _ _ w.heap.size rfl HP.out) rfl ⟨rfl,HO.out⟩
theorem qbehind_some (g n cap:Nat) (w:World) {k xk xn ln cl:Int} {t xs:List UInt8} {Z:Nat} (hZ:Z=writtenL ⟨k,t,xk,xn,xs,ln,cl⟩) (h3:k=3→t=[]) (hn:n≤200000) (ht:t.length≤1000000) (hcl:cl≤1000000∧0≤cl) (hg:g<w.heap.size)
 (c0:w.cell? ⟨g,n*7,none⟩=some (.int .u8 k)) (c1:w.cell? ⟨g,n*7+1,none⟩=some (.string (st t))) (c2:w.cell? ⟨g,n*7+2,none⟩=some (.int .u8 xk)) (c3:w.cell? ⟨g,n*7+3,none⟩=some (.int .i64 xn))
 (c4:w.cell? ⟨g,n*7+4,none⟩=some (.string (st xs))) (c5:w.cell? ⟨g,n*7+5,none⟩=some (.int .i64 ln)) (c6:w.cell? ⟨g,n*7+6,none⟩=some (.int .i64 cl)) :
 Calls Tryz.prog 15 #[.slice (some ⟨g,0,none⟩) (n+1) cap] w fun e w'=>e=.returned (.agg #[.int .i64 ln,.int .i64 (cl+(Z:Int))])∧Old w w':=by
 obtain ⟨l,hl⟩:∃ l,l=t.length:=⟨_,rfl⟩
 have hsz:(st t).size=l:=by rw [st_size,hl]
 have hl6:l≤1000000:=by omega
 have ho:=(Old.refl w).alloc (.cells #[.int .i64 0,.int .i64 0] 31)
 replace c0:=ho.c hg c0
 replace c1:=ho.c hg c1
 replace c2:=ho.c hg c2
 replace c3:=ho.c hg c3
 replace c4:=ho.c hg c4
 replace c5:=ho.c hg c5
 replace c6:=ho.c hg c6
 have e1:((n+1:Nat):Int)-1=(n:Int):=by omega
 have HSv:=hid ((Sv.new (x0:=.int .u8 k) (x1:=.string (st t)) (x2:=.int .u8 xk) (x3:=.int .i64 xn) (x4:=.string (st xs)) (x5:=.int .i64 ln) (x6:=.int .i64 cl) (w.alloc (.cells #[.int .i64 0,.int .i64 0] 31))))
 rw [sz_alloc] at HSv
 have HP:=hid ((show Pl (w.alloc (.cells #[.int .i64 0,.int .i64 0] 31)) w.heap.size 0 0 from (MapKept.heap_alloc w _).1).old ((Old.refl _).alloc (.cells #[.int .u8 k,.string (st t),.int .u8 xk,.int .i64 xn,.string (st xs),.int .i64 ln,.int .i64 cl] 64)))
 have HO:=hid (ho.alloc (.cells #[.int .u8 k,.string (st t),.int .u8 xk,.int .i64 xn,.string (st xs),.int .i64 ln,.int .i64 cl] 64))
 clear ho
 have fin:∀ (q:Int) (W:World),Old w W→Pl W w.heap.size 0 0→(cl+q:Int)=cl+(Z:Int)→Old w ((W.setCell ⟨w.heap.size,0,none⟩ (.int .i64 ln)).setCell ⟨w.heap.size,1,none⟩ (.int .i64 (cl+q)))∧Pl ((W.setCell ⟨w.heap.size,0,none⟩ (.int .i64 ln)).setCell ⟨w.heap.size,1,none⟩ (.int .i64 (cl+q))) w.heap.size ln (cl+(Z:Int)):=fun q W h1 h2 h3=>by
  rw [h3]
  exact ⟨(h1.setCell (p:=⟨w.heap.size,0,none⟩) (Nat.le_refl _) _).setCell (p:=⟨w.heap.size,1,none⟩) (Nat.le_refl _) _,pl_set h2 _ _⟩
 have FIN:=hid fin
 clear fin
 by_cases k2:k=2
 ·subst k2
  have HZ:=hid (show Z=l+1 by subst hZ;unfold writtenL;simp only [true_or,if_true];omega)
  clear hZ hl h3
  go_enter Tryz.func15,Tryz.ntmps15
  go_upto_region 4 with fail
  clear c0 c1 c2 c3 c4 c5 c6 hg
  generalize ((w.alloc (.cells #[.int .i64 0,.int .i64 0] 31)).alloc (.cells #[.int .u8 2,.string (st t),.int .u8 xk,.int .i64 xn,.string (st xs),.int .i64 ln,.int .i64 cl] 64))=W at *
  have d0:W.cell? ⟨w.heap.size+1,0,none⟩=some (.int .u8 2):=HSv.out.c 0
  have d1:W.cell? ⟨w.heap.size+1,1,none⟩=some (.string (st t)):=HSv.out.c 1
  have d2:W.cell? ⟨w.heap.size+1,2,none⟩=some (.int .u8 xk):=HSv.out.c 2
  have d3:W.cell? ⟨w.heap.size+1,3,none⟩=some (.int .i64 xn):=HSv.out.c 3
  have d4:W.cell? ⟨w.heap.size+1,4,none⟩=some (.string (st xs)):=HSv.out.c 4
  have d5:W.cell? ⟨w.heap.size+1,5,none⟩=some (.int .i64 ln):=HSv.out.c 5
  have d6:W.cell? ⟨w.heap.size+1,6,none⟩=some (.int .i64 cl):=HSv.out.c 6
  have p0:=HP.out.c0
  have p1:=HP.out.c1
  have p2:=HP.out.f 0
  have p3:=HP.out.f 1
  go_wp2_with fail
  have h9:=FIN.out _ W HO.out HP.out (show cl+((l:Int)+1)=cl+(Z:Int) by have:=HZ.out;omega)
  exact bodyPost_ret (ret_pl1 rfl _ _ w.heap.size rfl h9.2) rfl ⟨rfl,h9.1⟩
 by_cases k3:k=3
 ·subst k3
  have ht3:=h3 rfl
  subst ht3
  have hl0:l=0:=by rw [hl];rfl
  subst hl0
  have HZ:=hid (show Z=1 by subst hZ;rfl)
  clear hZ hl h3
  go_enter Tryz.func15,Tryz.ntmps15
  go_upto_region 4 with fail
  clear c0 c1 c2 c3 c4 c5 c6 hg
  generalize ((w.alloc (.cells #[.int .i64 0,.int .i64 0] 31)).alloc (.cells #[.int .u8 3,.string (st []),.int .u8 xk,.int .i64 xn,.string (st xs),.int .i64 ln,.int .i64 cl] 64))=W at *
  have d0:W.cell? ⟨w.heap.size+1,0,none⟩=some (.int .u8 3):=HSv.out.c 0
  have d1:W.cell? ⟨w.heap.size+1,1,none⟩=some (.string (st [])):=HSv.out.c 1
  have d2:W.cell? ⟨w.heap.size+1,2,none⟩=some (.int .u8 xk):=HSv.out.c 2
  have d3:W.cell? ⟨w.heap.size+1,3,none⟩=some (.int .i64 xn):=HSv.out.c 3
  have d4:W.cell? ⟨w.heap.size+1,4,none⟩=some (.string (st xs)):=HSv.out.c 4
  have d5:W.cell? ⟨w.heap.size+1,5,none⟩=some (.int .i64 ln):=HSv.out.c 5
  have d6:W.cell? ⟨w.heap.size+1,6,none⟩=some (.int .i64 cl):=HSv.out.c 6
  have p0:=HP.out.c0
  have p1:=HP.out.c1
  have p2:=HP.out.f 0
  have p3:=HP.out.f 1
  go_wp2_with fail
  have h9:=FIN.out _ W HO.out HP.out (show cl+1=cl+(Z:Int) by have:=HZ.out;omega)
  exact bodyPost_ret (ret_pl1 rfl _ _ w.heap.size rfl h9.2) rfl ⟨rfl,h9.1⟩
 by_cases k6:k=6
 ·subst k6
  have HZ:=hid (show Z=l+1 by subst hZ;unfold writtenL;simp only [or_true,if_true];omega)
  clear hZ hl h3
  go_enter Tryz.func15,Tryz.ntmps15
  go_upto_region 4 with fail
  clear c0 c1 c2 c3 c4 c5 c6 hg
  generalize ((w.alloc (.cells #[.int .i64 0,.int .i64 0] 31)).alloc (.cells #[.int .u8 6,.string (st t),.int .u8 xk,.int .i64 xn,.string (st xs),.int .i64 ln,.int .i64 cl] 64))=W at *
  have d0:W.cell? ⟨w.heap.size+1,0,none⟩=some (.int .u8 6):=HSv.out.c 0
  have d1:W.cell? ⟨w.heap.size+1,1,none⟩=some (.string (st t)):=HSv.out.c 1
  have d2:W.cell? ⟨w.heap.size+1,2,none⟩=some (.int .u8 xk):=HSv.out.c 2
  have d3:W.cell? ⟨w.heap.size+1,3,none⟩=some (.int .i64 xn):=HSv.out.c 3
  have d4:W.cell? ⟨w.heap.size+1,4,none⟩=some (.string (st xs)):=HSv.out.c 4
  have d5:W.cell? ⟨w.heap.size+1,5,none⟩=some (.int .i64 ln):=HSv.out.c 5
  have d6:W.cell? ⟨w.heap.size+1,6,none⟩=some (.int .i64 cl):=HSv.out.c 6
  have p0:=HP.out.c0
  have p1:=HP.out.c1
  have p2:=HP.out.f 0
  have p3:=HP.out.f 1
  go_wp2_with fail
  have h9:=FIN.out _ W HO.out HP.out (show cl+((l:Int)+1)=cl+(Z:Int) by have:=HZ.out;omega)
  exact bodyPost_ret (ret_pl1 rfl _ _ w.heap.size rfl h9.2) rfl ⟨rfl,h9.1⟩
 by_cases k5:k=5
 ·subst k5
  have HZ:=hid (show Z=l+2 by subst hZ;show 2+t.length=l+2;omega)
  clear hZ hl h3
  go_enter Tryz.func15,Tryz.ntmps15
  go_upto_region 4 with fail
  clear c0 c1 c2 c3 c4 c5 c6 hg
  generalize ((w.alloc (.cells #[.int .i64 0,.int .i64 0] 31)).alloc (.cells #[.int .u8 5,.string (st t),.int .u8 xk,.int .i64 xn,.string (st xs),.int .i64 ln,.int .i64 cl] 64))=W at *
  have d0:W.cell? ⟨w.heap.size+1,0,none⟩=some (.int .u8 5):=HSv.out.c 0
  have d1:W.cell? ⟨w.heap.size+1,1,none⟩=some (.string (st t)):=HSv.out.c 1
  have d2:W.cell? ⟨w.heap.size+1,2,none⟩=some (.int .u8 xk):=HSv.out.c 2
  have d3:W.cell? ⟨w.heap.size+1,3,none⟩=some (.int .i64 xn):=HSv.out.c 3
  have d4:W.cell? ⟨w.heap.size+1,4,none⟩=some (.string (st xs)):=HSv.out.c 4
  have d5:W.cell? ⟨w.heap.size+1,5,none⟩=some (.int .i64 ln):=HSv.out.c 5
  have d6:W.cell? ⟨w.heap.size+1,6,none⟩=some (.int .i64 cl):=HSv.out.c 6
  have p0:=HP.out.c0
  have p1:=HP.out.c1
  have p2:=HP.out.f 0
  have p3:=HP.out.f 1
  go_wp2_with fail
  have h9:=FIN.out _ W HO.out HP.out (show cl+((l:Int)+2)=cl+(Z:Int) by have:=HZ.out;omega)
  exact bodyPost_ret (ret_pl1 rfl _ _ w.heap.size rfl h9.2) rfl ⟨rfl,h9.1⟩
 ·have hZl:Z=l:=by
   subst hZ
   unfold writtenL
   simp only [k2,k3,k5,k6,or_self,if_false]
   exact hl.symm
  have i2:(k==2)=false:=beq_false_of_ne k2
  have i3:(k==3)=false:=beq_false_of_ne k3
  have i5:(k==5)=false:=beq_false_of_ne k5
  have i6:(k==6)=false:=beq_false_of_ne k6
  have HZ:=hid hZl
  clear hZ hZl hl k2 k3 k5 k6 h3
  go_enter Tryz.func15,Tryz.ntmps15
  go_upto_region 4 with fail
  clear c0 c1 c2 c3 c4 c5 c6 hg
  generalize ((w.alloc (.cells #[.int .i64 0,.int .i64 0] 31)).alloc (.cells #[.int .u8 k,.string (st t),.int .u8 xk,.int .i64 xn,.string (st xs),.int .i64 ln,.int .i64 cl] 64))=W at *
  have d0:W.cell? ⟨w.heap.size+1,0,none⟩=some (.int .u8 k):=HSv.out.c 0
  have d1:W.cell? ⟨w.heap.size+1,1,none⟩=some (.string (st t)):=HSv.out.c 1
  have d2:W.cell? ⟨w.heap.size+1,2,none⟩=some (.int .u8 xk):=HSv.out.c 2
  have d3:W.cell? ⟨w.heap.size+1,3,none⟩=some (.int .i64 xn):=HSv.out.c 3
  have d4:W.cell? ⟨w.heap.size+1,4,none⟩=some (.string (st xs)):=HSv.out.c 4
  have d5:W.cell? ⟨w.heap.size+1,5,none⟩=some (.int .i64 ln):=HSv.out.c 5
  have d6:W.cell? ⟨w.heap.size+1,6,none⟩=some (.int .i64 cl):=HSv.out.c 6
  have p0:=HP.out.c0
  have p1:=HP.out.c1
  have p2:=HP.out.f 0
  have p3:=HP.out.f 1
  go_wp2_with fail
  have h9:=FIN.out _ W HO.out HP.out (show cl+(l:Int)=cl+(Z:Int) by have:=HZ.out;omega)
  exact bodyPost_ret (ret_pl1 rfl _ _ w.heap.size rfl h9.2) rfl ⟨rfl,h9.1⟩
theorem qbehind_any (oa:Option Addr) (cap:Nat) (w:World) {A:List Tk} (hA:A.length≤200000) (hB:∀ x∈A,WdB 1000000 x) (hS:∀ x∈A,x.k=3→x.t=[]) (hw:Rw w (.slice oa A.length cap) A) :
 Calls Tryz.prog 15 #[.slice oa A.length cap] w fun e w'=>e=.returned (.agg #[.int .i64 (behindL A).1,.int .i64 (behindL A).2])∧Old w w':=by
 unfold behindL
 by_cases h0:A.length=0
 ·rw [if_pos h0,h0]
  exact qbehind_nil oa cap w
 rw [if_neg h0]
 obtain ⟨oa',cap',e,_,_,h⟩:=hw
 injection e with e1 e2 e3
 subst e1 e3
 have hlt:A.length-1<A.length:=by omega
 have hx:A[A.length-1]?=some A[A.length-1]:=List.getElem?_eq_getElem hlt
 have hd:wordL (A.drop (A.length-1))=A[A.length-1]:=by rw [List.drop_eq_getElem_cons hlt];rfl
 rw [hd]
 have hm:A[A.length-1]∈A:=List.getElem_mem hlt
 obtain ⟨g,rfl,hg,_,c0,c1,c2,c3,c4,c5,c6⟩:=h _ _ hx
 have hb:=hB _ hm
 have hs:=hS _ hm
 revert c0 c1 c2 c3 c4 c5 c6 hb hs
 generalize A[A.length-1]=x
 intro c0 c1 c2 c3 c4 c5 c6 hb hs
 obtain ⟨k,t,xk,xn,xs,ln,cl⟩:=x
 have:=qbehind_some g (A.length-1) cap w rfl hs (by omega) hb.tM ⟨hb.clM,by have:=hb.cl;omega⟩ hg c0 c1 c2 c3 c4 c5 c6
 rw [show A.length-1+1=A.length by omega] at this
 exact this
end Go.Proofs.YtmkmafkkpigfpaaGreatDoor
namespace Go.Proofs.YtmkmafkkpigfpaaGreatDoor
open Go.ChangeShapes Go.WideShapes Go.ChangeAt Go.RowKit
set_option linter.unusedVariables false
theorem rname_no (s:ByteArray) (w:World) (n:Nat) (hn:s.size=n) (h:n=0∨12<n):Calls Tryz.prog 19 #[.string s] w fun e w'=>e=.returned (.bool false)∧Old w w':=by
 rcases h with h|h
 ·subst h
  go_enter Tryz.func19,Tryz.ntmps19
  go_wp2
  go_ret
  exact ⟨rfl,Old.refl w⟩
 ·go_enter Tryz.func19,Tryz.ntmps19
  go_wp2
  all_goals (go_ret;exact ⟨rfl,Old.refl w⟩)
def fs1 (s:ByteArray) (k:Nat):Bool:=(decide (k=0)||sl (bt s 0))&&fst nb s k
theorem fs1_first {s:ByteArray} (h:sl (bt s 0)=true):fs1 s 1=true:=by
 unfold fs1
 rw [h,fst,fst]
 unfold nb
 rw [h]
 rfl
theorem fs1_next {s:ByteArray} {k:Nat} (h:fs1 s k=true) (hk:¬ k=0) (hb:nb (bt s k)=true):fs1 s (k+1)=true:=by
 unfold fs1 at *
 rw [decide_eq_false hk,Bool.false_or,Bool.and_eq_true] at h
 rw [h.1,fst,h.2,hb,Bool.or_true]
 rfl
theorem sl_yes {b:Int} (h:97≤b) (k:b≤122):sl b=true:=by unfold sl;rw [decide_eq_true h,decide_eq_true k];rfl
theorem sl_no {b:Int} (h:b<97∨122<b):sl b=false:=by
 unfold sl
 rcases h with h|h
 ·rw [decide_eq_false (by omega)];rfl
 ·rw [decide_eq_false (p:=b≤122) (by omega),Bool.and_false]
theorem nb_yes {b:Int} (h:(97≤b∧b≤122)∨(48≤b∧b≤57)):nb b=true:=by
 unfold nb
 rcases h with h|h
 ·rw [sl_yes h.1 h.2];rfl
 ·unfold dg;rw [decide_eq_true h.1,decide_eq_true h.2,Bool.and_true,Bool.or_true]
theorem nb_no {b:Int} (h:b<97∨122<b) (k:b<48∨57<b):nb b=false:=by
 unfold nb
 rw [sl_no h]
 unfold dg
 rcases k with k|k
 ·rw [decide_eq_false (by omega)];rfl
 ·rw [decide_eq_false (p:=b≤57) (by omega),Bool.and_false];rfl
theorem rname_loop (s:ByteArray) (w:World) (n:Nat) (hn:s.size=n) (hz:0<n) (hs:n≤12):Calls Tryz.prog 19 #[.string s] w fun e w'=>e=.returned (.bool (sl (bt s 0)&&fst nb s n))∧Old w w':=by
 have hg:=Lib.hid (fun j (h:j<n)=>bt_get s j (by rw [hn];exact h))
 go_enter Tryz.func19,Tryz.ntmps19
 go_wp2
 go_loopw [3] (fun i wr=>∃ k:Nat,k≤n∧i=.int .i64 (k:Int)∧Hid (fs1 s k=true)∧wr=w) (fun i _=>(n-intOf i).toNat)
 case atStart=>exact ⟨0,Nat.zero_le _,rfl,Lib.hid rfl,rfl⟩
 case round=>
  obtain ⟨k,hk,rfl,HE,rfl⟩:=hrel
  by_cases hkn:k<n
  ·have hb:=hg.out k hkn
   obtain ⟨b,hbb⟩:∃ b,b=bt s k:=⟨_,rfl⟩
   rw [←hbb] at hb
   have HX:=Lib.hid hbb
   clear hbb
   by_cases hk0:k=0
   ·subst hk0
    by_cases h1:97≤b
    ·by_cases h2:b≤122
     ·go_wp2
      refine ⟨⟨1,hkn,rfl,Lib.hid ?_,?_⟩,by simp only [intOf];omega⟩
      ·exact fs1_first (by rw [←HX.out];exact sl_yes h1 h2)
      ·first|rfl|trivial
     ·go_wp2
      go_ret
      exact ⟨rb _ _ (by rw [←HX.out,sl_no (by omega)];rfl),Old.refl _⟩
    ·go_wp2
     go_ret
     exact ⟨rb _ _ (by rw [←HX.out,sl_no (by omega)];rfl),Old.refl _⟩
   ·have hk1:((k:Int)==0)=false:=by
     have:¬ (k:Int)=0:=by omega
     simpa using this
    have hc:(97≤b∧b≤122)∨(122<b)∨(57<b∧b<97)∨(48≤b∧b≤57)∨b<48:=by omega
    rcases hc with hc|hc|hc|hc|hc
    ·have c1:=hc.1
     have c2:=hc.2
     go_wp2
     refine ⟨⟨k+1,hkn,rfl,Lib.hid ?_,?_⟩,by simp only [intOf];omega⟩
     ·exact fs1_next HE.out hk0 (by rw [←HX.out];exact nb_yes (by omega))
     ·first|rfl|trivial
    ·have hd:(!decide (b≤122))=true:=by simp;omega
     go_wp2
     go_ret
     exact ⟨rb _ _ (by rw [fst_no (j:=k) (by rw [←HX.out];exact nb_no (by omega) (by omega)) n hkn,Bool.and_false]),Old.refl _⟩
    ·have c1:=hc.1
     have c2:=hc.2
     go_wp2
     go_ret
     exact ⟨rb _ _ (by rw [fst_no (j:=k) (by rw [←HX.out];exact nb_no (by omega) (by omega)) n hkn,Bool.and_false]),Old.refl _⟩
    ·have c1:=hc.1
     have c2:=hc.2
     go_wp2
     refine ⟨⟨k+1,hkn,rfl,Lib.hid ?_,?_⟩,by simp only [intOf];omega⟩
     ·exact fs1_next HE.out hk0 (by rw [←HX.out];exact nb_yes (by omega))
     ·first|rfl|trivial
    ·go_wp2
     go_ret
     exact ⟨rb _ _ (by rw [fst_no (j:=k) (by rw [←HX.out];exact nb_no (by omega) (by omega)) n hkn,Bool.and_false]),Old.refl _⟩
  ·have hkn':k=n:=by omega
   subst hkn'
   go_wp2
   go_ret
   refine ⟨rb _ _ ?_,Old.refl _⟩
   have:=HE.out
   unfold fs1 at this
   rw [decide_eq_false (by omega),Bool.false_or] at this
   exact this.symm
theorem rname_any (s:ByteArray) (w:World):Calls Tryz.prog 19 #[.string s] w fun e w'=>e=.returned (.bool (nameB s))∧Old w w':=by
 unfold nameB
 by_cases h:1≤s.size∧s.size≤12
 ·rw [decide_eq_true h,Bool.true_and]
  exact rname_loop s w s.size rfl h.1 h.2
 ·rw [decide_eq_false h]
  exact rname_no s w s.size rfl (by omega)
theorem rmay_text (n:Int) (s:ByteArray) (w:World) (N:Nat) (hN:s.size=N) (hb:(N:Int)≤9223372036854775807):Calls Tryz.prog 10 #[vl 3 n s] w fun e w'=>e=.returned (.bool (n==0&&textB s))∧Old w w':=by
 have hg:=Lib.hid (fun j (h:j<N)=>bt_get s j (by rw [hN];exact h))
 have HO:=Lib.hid ((Old.refl w).alloc (.cells #[.int .u8 3,.int .i64 n,.string s] 26))
 go_enter Tryz.func10,Tryz.ntmps10
 go_wp2
 go_loopw [3] (fun i wr=>∃ k:Nat,k≤N∧i=.int .i64 (k:Int)∧Hid (fst tb s k=true)∧wr=w.alloc (.cells #[.int .u8 3,.int .i64 n,.string s] 26)) (fun i _=>(N-intOf i).toNat)
 case atStart=>exact ⟨0,Nat.zero_le _,rfl,Lib.hid rfl,rfl⟩
 case round=>
  obtain ⟨k,hk,rfl,HE,rfl⟩:=hrel
  by_cases hkn:k<N
  ·have hb:=hg.out k hkn
   obtain ⟨b,hbb⟩:∃ b,b=bt s k:=⟨_,rfl⟩
   rw [←hbb] at hb
   have HX:=Lib.hid hbb
   clear hbb
   by_cases h1:b<32
   ·go_wp2
    have e:fst tb s N=false:=fst_no (by rw [←HX.out];unfold tb;rw [decide_eq_false (by omega)];rfl) N hkn
    go_ret
    exact ⟨rb _ _ (by unfold textB;rw [hN,e,Bool.and_false,Bool.and_false]),HO.out⟩
   ·by_cases h2:126<b
    ·go_wp2
     have e:fst tb s N=false:=fst_no (by rw [←HX.out];unfold tb;rw [decide_eq_false (p:=b≤126) (by omega),Bool.and_false]) N hkn
     go_ret
     exact ⟨rb _ _ (by unfold textB;rw [hN,e,Bool.and_false,Bool.and_false]),HO.out⟩
    ·go_wp2
     refine ⟨⟨k+1,hkn,rfl,Lib.hid ?_,?_⟩,by simp only [intOf];omega⟩
     ·rw [fst,HE.out,←HX.out]
      unfold tb
      rw [decide_eq_true (show 32≤b by omega),decide_eq_true (show b≤126 by omega)]
      rfl
     ·first|rfl|trivial
  ·have hkn':k=N:=by omega
   subst hkn'
   by_cases hn:n=0
   ·subst hn
    go_wp2
    go_ret
    refine ⟨rb _ _ ?_,HO.out⟩
    unfold textB
    rw [hN,HE.out,Bool.and_true]
    by_cases h:k≤200
    ·rw [decide_eq_true h,decide_eq_true (by omega)];rfl
    ·rw [decide_eq_false h,decide_eq_false (by omega)];rfl
   ·have e:(n==0)=false:=by simpa using hn
    go_wp2
    go_ret
    exact ⟨rb _ _ (by rw [e];rfl),HO.out⟩
theorem rmay_any (k n:Int) (s:ByteArray) (w:World) (hs:s.size≤maxLen):Calls Tryz.prog 10 #[vl k n s] w fun e w'=>e=.returned (.bool (mayB k n s))∧Old w w':=by
 unfold mayB
 by_cases h0:k=0
 ·subst h0
  rw [if_pos rfl]
  by_cases hn:n=0
  ·subst hn
   go_enter Tryz.func10,Tryz.ntmps10
   go_wp2
   go_ret
   exact ⟨rfl,(Old.refl w).alloc _⟩
  ·have e:(n==0)=false:=by simpa using hn
   rw [e]
   go_enter Tryz.func10,Tryz.ntmps10
   go_wp2
   go_ret
   exact ⟨rfl,(Old.refl w).alloc _⟩
 rw [if_neg h0]
 by_cases h1:k=1∨k=2
 ·rw [if_pos h1]
  rcases h1 with rfl|rfl
  ·clear h0
   go_enter Tryz.func10,Tryz.ntmps10
   go_wp2
   go_ret
   exact ⟨rfl,(Old.refl w).alloc _⟩
  ·clear h0
   go_enter Tryz.func10,Tryz.ntmps10
   go_wp2
   go_ret
   exact ⟨rfl,(Old.refl w).alloc _⟩
 rw [if_neg h1]
 by_cases h3:k=3
 ·subst h3
  rw [if_pos rfl]
  exact rmay_text n s w s.size rfl (by unfold maxLen at hs;omega)
 rw [if_neg h3]
 by_cases h4:k=4
 ·subst h4
  rw [if_pos rfl]
  clear h0 h1 h3
  rw [Bool.and_comm]
  by_cases hE:s.toList.isEmpty=true
  ·have hE':s.toList=[]:=List.isEmpty_iff.1 hE
   rw [hE,Bool.true_and]
   clear hE
   by_cases hn:n=0
   ·subst hn
    go_enter Tryz.func10,Tryz.ntmps10
    go_wp2
    go_ret
    exact ⟨rfl,(Old.refl w).alloc _⟩
   ·have e:(n==0)=false:=by simpa using hn
    rw [e,Bool.false_or]
    go_enter Tryz.func10,Tryz.ntmps10
    go_wp2
    go_ret
    exact ⟨rb _ _ (by first|rfl|(rw [e];rfl)),(Old.refl w).alloc _⟩
  ·have hE':s.toList.isEmpty=false:=by simpa using hE
   have hE2:¬ s.toList=[]:=fun h=>hE (List.isEmpty_iff.2 h)
   rw [hE',Bool.false_and]
   clear hE
   go_enter Tryz.func10,Tryz.ntmps10
   go_wp2
   go_ret
   exact ⟨rb _ _ (by first|rfl|exact hE'),(Old.refl w).alloc _⟩
 rw [if_neg h4]
 by_cases h5:k=5
 ·subst h5
  rw [if_pos rfl]
  clear h0 h1 h3 h4
  by_cases hn:n=0
  ·subst hn
   go_enter Tryz.func10,Tryz.ntmps10
   go_wp2_with (first
    | (go_at_call 19;(with_reducible refine (rname_any _ _).mono ?_);rintro e w1 ⟨rfl,ho⟩))
   go_ret
   exact ⟨rfl,((Old.refl w).alloc _).trans ho⟩
  ·have e:(n==0)=false:=by simpa using hn
   rw [e]
   go_enter Tryz.func10,Tryz.ntmps10
   go_wp2
   go_ret
   exact ⟨rfl,(Old.refl w).alloc _⟩
 rw [if_neg h5]
 have h2:¬ k=2:=fun h=>h1 (Or.inr h)
 have h1':¬ k=1:=fun h=>h1 (Or.inl h)
 clear h1
 go_enter Tryz.func10,Tryz.ntmps10
 go_wp2
 go_ret
 exact ⟨rfl,(Old.refl w).alloc _⟩
end Go.Proofs.YtmkmafkkpigfpaaGreatDoor
