/- Layer expr: a new reader; an expression is read, or given up. -/
import Derived.Defers
import Derived.Recover
import Derived.Test.YtkellpcljiodeaaGreatDoorKE
set_option maxHeartbeats 1600000
namespace Go.Proofs.YtkellpcljiodeaaGreatDoor
open Go.ChangeShapes Go.WideShapes Go.ChangeAt Go.RowKit Go.Lib
set_option linter.unusedVariables false
set_option linter.unusedSimpArgs false
set_option maxRecDepth 100000
theorem newr_any (oa:Option Addr) (k cap:Nat) (n:Int) (w:World):Calls Tryz.prog 39 #[.slice oa k cap,.int .i64 n] w fun e w'=>∃ (b:Nat) (vm:Value),e=.returned (.pointer (some ⟨b,0,none⟩))∧Old w w'∧w.heap.size≤b∧CMap w' vm∧RdB w' b (.slice oa k cap) n 0 (.slice none 0 0) vm:=by
 have hmf:∀ (fn:Fn) (first cap:Array Value) (w:World),(Instr.makeFunc fn first cap).run Tryz.prog w=.ok (.func fn first cap) w:=fun _ _ _ _=>rfl
 have hc:=calls_any w
 go_enter Tryz.func39,Tryz.ntmps39
 go_wp2_with (go_at_call 55;refine hc.mono ?_;rintro e w1 ⟨vm,rfl,h1,o1⟩;have H1:=hid h1;obtain ⟨B,rfl,hB⟩:=h1;clear hB)
 go_ret
 exact ⟨w1.heap.size,_,rfl,o1.trans ((Old.refl w1).alloc _),o1.size,H1.out.old ((Old.refl w1).alloc _),(MapKept.heap_alloc w1 _).1⟩
theorem catch_err (p:Addr) (x er:Int) (w:World) (hc:w.cell? p=some (.int .i64 x)) (hz:w.frozen? p=false) :
 CallsD Tryz.prog 64 #[.pointer (some p)] (.panicking [{ v:=.iface 27 (.int .i64 er),recovered:=false }]) w fun e u' w'=>
  e=.returned (.tuple #[])∧u'=.panicking [{ v:=.iface 27 (.int .i64 er),recovered:=true }]∧w'=w.setCell p (.int .i64 er):=by
 have hta:(Instr.typeAssert (.iface 27 (.int .i64 er)) 20 27 false).run Tryz.prog w=.ok (.int .i64 er) w:=by kernel_rfl
 refine callsD_of_wpS Tryz.func64 rfl fun c₀ cs hu=>?_
 apply wpS_seq
 apply wpS_region
 simp [wpOpsS,go_sem,recoverD,hu,Tryz.ntmps64,Exit.thenS]
 apply wpS_seq
 apply wpS_region
 simp [wpOpsS,go_sem,recoverD,hu,Tryz.ntmps64,Exit.thenS]
 refine wpS_cond (t:=true) (by simp [Act.eval,Array.replicate]) ?_
 simp only [if_true]
 apply wpS_region
 simp [wpOpsS,go_sem,hta,hc,hz,bodyPostS,results,Tryz.results64]
theorem catch_none (p:Addr) (w:World) :
 CallsD Tryz.prog 64 #[.pointer (some p)] .returning w fun e u' w'=>e=.returned (.tuple #[])∧u'=.returning∧w'=w:=by
 refine callsD_of_wpS Tryz.func64 rfl fun c₀ cs hu=>?_
 apply wpS_seq
 apply wpS_region
 simp [wpOpsS,go_sem,recoverD,hu,Tryz.ntmps64,Exit.thenS]
 apply wpS_seq
 apply wpS_region
 simp [wpOpsS,go_sem,recoverD,hu,Tryz.ntmps64,Exit.thenS]
 refine wpS_cond (t:=false) (by simp [Act.eval,Array.replicate]) ?_
 simp only [Bool.false_eq_true,if_false]
 refine wpS_of_wp (wp_skip ?_)
 cases c₀
 simp_all [bodyPostS,results,Tryz.results64]
end Go.Proofs.YtkellpcljiodeaaGreatDoor
namespace Go.Proofs.YtkellpcljiodeaaGreatDoor
open Go.ChangeShapes Go.WideShapes Go.ChangeAt Go.RowKit Go.Lib
set_option linter.unusedVariables false
set_option linter.unusedSimpArgs false
set_option maxRecDepth 100000
theorem own_side {w w':World} {base size n g:Nat} {e t:TypeId} {v:Value} {cs:List Value} {cs':Array Value} {fr:Nat × Nat} (h:w.ownsRow base e size v n cs) (hg:w.heap[g]?=some (.cells cs' t fr)) (ht:e≠t) (c:Chx (·= g) w w'):w'.ownsRow base e size v n cs:=by
 refine ⟨h.1,?_⟩
 rcases h.2 with h'|⟨g',cap,cur,rfl,hb',hg',hc⟩
 ·exact Or.inl h'
 ·refine Or.inr ⟨g',cap,cur,rfl,hb',(c.block g' (blk_lt hg') (fun e2=>?_)).trans hg',hc⟩
  subst e2
  rw [hg] at hg'
  injection hg' with hg'
  injection hg' with _ h2
  exact ht h2.symm
theorem RdB.side {w w':World} {b g:Nat} {vw vt vm:Value} {n o:Int} {cs':Array Value} {fr:Nat × Nat} (h:RdB w b vw n o vt vm) (hg:w.heap[g]?=some (.cells cs' 27 fr)) (c:Chx (·= g) w w'):RdB w' b vw n o vt vm:=
 (c.block b h.lt (fun e=>h.ne hg (by decide) e.symm)).trans h
theorem Rr.side {w0:Wz} {w w':World} {b n o g:Nat} {vw vm vt:Value} {A:List Tk} {T:List Nd} {cs':Array Value} {fr:Nat × Nat} (h:Rr w0 b vw vm A T n o vt w) (hg:w.heap[g]?=some (.cells cs' 27 fr)) (hb:w0.heap.size≤g) (c:Chx (·= g) w w'):Rr w0 b vw vm A T n o vt w':=by
 refine ⟨h.rd.side hg c,c.old h.ri.old (fun k hk=>by subst hk;exact hb),h.ri.lo,fun k hk=>Nat.lt_of_lt_of_le (h.ri.sb k hk) c.size,h.ri.words,?_,?_⟩
 ·obtain ⟨B,e,hB⟩:=h.ri.map
  refine ⟨B,e,(c.block B (blk_lt hB) (fun e2=>?_)).trans hB⟩
  subst e2
  rw [hg] at hB
  cases hB
 ·obtain ⟨kvs,h1,h2,h3⟩:=h.ri.tree
  exact ⟨kvs,h1,own_side h2 hg (by decide) c,fun i x v hx hv=>⟨own_side (h3 i x v hx hv).1 hg (by decide) c,(h3 i x v hx hv).2⟩⟩
def Rd0 (w0:Wz) (b:Nat) (vw vm:Value) (A:List Tk) (X:Rz) (e:Ending) (w':World):Prop:=
 match X with
 | .out=>True
 | .ok ns r=>e=.returned (.int .i64 0)∧∃ n':Nat,r=A.drop n'∧n'≤A.length∧Rok w0 b vw vm A ns n' 0 w'
 | .no er r=>e=.returned (.int .i64 er)∧∃ (n' o':Nat) (vt:Value),r=A.drop n'∧n'≤A.length∧Old w0 w'∧RdB w' b vw (n':Int) (o':Int) vt vm
theorem rd_any {w0:Wz} {w:World} {b:Nat} {vw vm vt:Value} {A:List Tk} (hA:A.length≤200000) (hB:Brief A) (H:Rr w0 b vw vm A [] 0 0 vt w) :
 Calls Tryz.prog 40 #[.pointer (some ⟨b,0,none⟩)] w (Rd0 w0 b vw vm A (parseX A)):=by
 have hmf:∀ (fn:Fn) (first cap:Array Value) (w:World),(Instr.makeFunc fn first cap).run Tryz.prog w=.ok (.func fn first cap) w:=fun _ _ _ _=>rfl
 have ho:=(Old.refl w).alloc (.cells #[.int .i64 0] 27)
 have hg0:(w.alloc (.cells #[.int .i64 0] 27)).heap[w.heap.size]?=some (.cells #[.int .i64 0] 27 (0,0)):=(MapKept.heap_alloc w _).1
 have hbn:w.heap.size≠b:=Nat.ne_of_gt H.rd.lt
 have hin:=parseX_in A
 have hx:=expr_any (lv_any (w0:=w0) hA hB (fuelOf A) w0.S (fuelOf A) (Nat.le_refl _)) (H.oldw ho) (Nat.zero_le _) (by omega) (Nat.le_refl _) (o:=0) (n:=0) hin
 rw [List.drop_zero] at hx
 rw [show P (fuelOf A) (.lvl 0) 0 A=parseX A from rfl] at hx
 have hbase:=H.ri.old.size
 cases hP:parseX A with
 | out=>exact absurd hP hin
 | no er r=>
   rw [hP] at hx
   have HX:=hid hx
   have HD:=hid (show ∀ (e:Ending) (w2:World),Res w0 b vw vm A [] 0 0 (w.alloc (.cells #[.int .i64 0] 27)) (.no er r) e w2→e=pan er∧w2.heap[w.heap.size]?=some (.cells #[.int .i64 0] 27 (0,0))∧Rd0 w0 b vw vm A (.no er r) (.returned (.int .i64 er)) (w2.setCell ⟨w.heap.size,0,none⟩ (.int .i64 er)) from fun e w2 h=>by
    obtain ⟨n',h1,h2,h3,h4,o',vt',h5⟩:=h
    have hg:=h4.cells hg0 hbn (by decide)
    have c:Chx (·= w.heap.size) w2 (w2.setCell ⟨w.heap.size,0,none⟩ (.int .i64 er)):=Chx.ofSet w2 ⟨w.heap.size,0,none⟩ _
    exact ⟨h3,hg,rfl,n',o',vt',h1,h2,c.old (h4.old (H.ri.old.trans ho) (Nat.le_refl _) H.ri.lo) (fun k hk=>by subst hk;exact hbase),h5.side hg c⟩)
   clear hx H hP hin hbn ho hg0
   go_enter_defers Tryz.func40,Tryz.ntmps40
   go_wp2_with (go_at_call 65;refine HX.out.mono ?_;intro e w2 h2;have h3:=HD.out _ _ h2;obtain ⟨rfl,hg,h4⟩:=h3;have H4:=hid h4;have HG:=hid hg;clear h2 h4 hg)
   refine leaves_cons (f:=64) (args:=#[.pointer (some ⟨w.heap.size,0,none⟩)]) (by simp) (by simp [go_sem]) ?_
   refine (catch_err ⟨w.heap.size,0,none⟩ 0 er _ ?_ ?_).mono ?_
   ·simp [World.cell?,HG.out]
   ·simp [World.frozen?,HG.out]
   rintro e u' w'' ⟨rfl,rfl,rfl⟩
   have hcell:(w2.setCell ⟨w.heap.size,0,none⟩ (.int .i64 er)).cell? ⟨w.heap.size,0,none⟩=some (.int .i64 er):=by simp [World.cell?,World.setCell,Array.getElem?_modify,HG.out]
   simp [Leaves,settle,results,Tryz.results40,go_sem,hcell]
   exact H4.out
 | ok ns r=>
   rw [hP] at hx
   have HX:=hid hx
   have HD:=hid (show ∀ (e:Ending) (w2:World),Res w0 b vw vm A [] 0 0 (w.alloc (.cells #[.int .i64 0] 27)) (.ok ns r) e w2→∃ k:Nat,e=.returned (.int .i64 (k:Int))∧w2.heap[w.heap.size]?=some (.cells #[.int .i64 0] 27 (0,0))∧Rd0 w0 b vw vm A (.ok ns r) (.returned (.int .i64 0)) (w2.setCell ⟨w.heap.size,0,none⟩ (.int .i64 0)) from fun e w2 h=>by
    obtain ⟨n',h1,h2,h3,h4,⟨vt',h5⟩,h6⟩:=h
    have hg:=h4.cells hg0 hbn (by decide)
    have c:Chx (·= w.heap.size) w2 (w2.setCell ⟨w.heap.size,0,none⟩ (.int .i64 0)):=Chx.ofSet w2 ⟨w.heap.size,0,none⟩ _
    exact ⟨_,h3,hg,rfl,n',h1,h2,vt',h5.side hg hbase c⟩)
   clear hx H hP hin hbn ho hg0
   go_enter_defers Tryz.func40,Tryz.ntmps40
   go_wp2_with (go_at_call 65;refine HX.out.mono ?_;intro e w2 h2;have h3:=HD.out _ _ h2;obtain ⟨k,rfl,hg,h4⟩:=h3;have H4:=hid h4;have HG:=hid hg;have hcl:w2.cell? ⟨w.heap.size,0,none⟩=some (.int .i64 0):=by simp [World.cell?,HG.out]
                have hfr:w2.frozen? ⟨w.heap.size,0,none⟩=false:=by simp [World.frozen?,HG.out]
                clear h2 h4 hg)
   refine leaves_cons (f:=64) (args:=#[.pointer (some ⟨w.heap.size,0,none⟩)]) (by simp) (by simp [go_sem]) ?_
   refine (catch_none ⟨w.heap.size,0,none⟩ _).mono ?_
   rintro e u' w'' ⟨rfl,rfl,rfl⟩
   have hcell:(w2.setCell ⟨w.heap.size,0,none⟩ (.int .i64 0)).cell? ⟨w.heap.size,0,none⟩=some (.int .i64 0):=by simp [World.cell?,World.setCell,Array.getElem?_modify,HG.out]
   simp [Leaves,settle,results,Tryz.results40,go_sem,hcell]
   exact H4.out
end Go.Proofs.YtkellpcljiodeaaGreatDoor
namespace Go.Proofs.YtkellpcljiodeaaGreatDoor
open Go.ChangeShapes Go.WideShapes Go.ChangeAt Go.RowKit Go.Lib
set_option linter.unusedVariables false
set_option linter.unusedSimpArgs false
set_option maxRecDepth 100000
def Rz.fit:Rz→Prop
 | .no e _=>e=4∨e=12∨e=14
 | _=>True
theorem fit_bnd {x:Rz} {f:List Nd→List Tk→Rz} (h:x.fit) (hf:∀ ns r,(f ns r).fit):(x.bnd f).fit:=by
 cases x with
 | out=>trivial
 | no e r=>exact h
 | ok ns r=>exact hf ns r
theorem fit_ite {c:Prop} [Decidable c] {a b:Rz} (ha:a.fit) (hb:b.fit):(if c then a else b).fit:=by split<;>assumption
theorem fits:∀ F m o l,(P F m o l).fit
 | 0,m,o,l=>trivial
 | F+1,m,o,l=>by
   have ih:=fits F
   have f4:∀ r,(Rz.no 4 r).fit:=fun r=>Or.inl rfl
   have f12:∀ r,(Rz.no 12 r).fit:=fun r=>Or.inr (Or.inl rfl)
   have f14:∀ r,(Rz.no 14 r).fit:=fun r=>Or.inr (Or.inr rfl)
   have hp:∀ L ns o l,(pairP (P F) L ns o l).fit:=fun L ns o l=>fit_bnd (ih _ _ _) (fun _ _=>trivial)
   cases m with
   | lvl L=>
     rw [P_lvl]
     refine fit_ite ?_ (fit_ite ?_ (fit_ite ?_ (fit_bnd (ih _ _ _) (fun _ _=>ih _ _ _))))
     ·refine fit_ite trivial (fit_ite trivial (fit_ite trivial (fit_ite ?_ (fit_ite ?_ (f4 _)))))
      ·refine fit_ite trivial (fit_ite trivial (fit_ite trivial ?_))
       cases callL (wordL l).t with
       | none=>exact f4 _
       | some c=>exact fit_ite (f4 _) (fit_ite (f12 _) (fit_bnd (ih _ _ _) (fun _ _=>ih _ _ _)))
      ·exact fit_ite (f12 _) (fit_bnd (ih _ _ _) (fun _ _=>fit_ite trivial (f4 _)))
     ·exact fit_ite (ih _ _ _) (fit_ite (f12 _) (fit_bnd (ih _ _ _) (fun _ _=>trivial)))
     ·exact fit_bnd (ih _ _ _) (fun _ _=>fit_ite trivial (hp _ _ _ _))
   | tail L ns=>
     rw [P_tail]
     exact fit_ite trivial (fit_bnd (hp _ _ _ _) (fun _ _=>ih _ _ _))
   | args op lo hi ln cl ns ks=>
     rw [P_args]
     exact fit_ite (fit_ite (f14 _) (fit_bnd (ih _ _ _) (fun _ _=>ih _ _ _))) (fit_ite (f14 _) (fit_ite trivial (f4 _)))
theorem parseX_fit (l:List Tk):(parseX l).fit:=fits _ _ _ _
def Pz (w:World) (A:List Tk) (X:Rz) (e:Ending) (w':World):Prop:=
 match X with
 | .out=>True
 | .ok ns r=>∃ n':Nat,r=A.drop n'∧n'≤A.length∧if 60<ns.length then e=.returned (.tuple #[.slice none 0 0,.int .i64 0,.int .i64 7]) else ∃ vt,e=.returned (.tuple #[vt,.int .i64 (n':Int),.int .i64 0])∧TreeR (fun _=>False) w' w.heap.size vt ns
 | .no er r=>∃ n':Nat,r=A.drop n'∧n'≤A.length∧e=.returned (.tuple #[.slice none 0 0,.int .i64 (n':Int),.int .i64 er])
theorem eparse_any (oa:Option Addr) (cap:Nat) (w:World) {A:List Tk} (hA:A.length≤200000) (hB:Brief A) (hw:Rw w (.slice oa A.length cap) A) :
 Calls Tryz.prog 24 #[.slice oa A.length cap,.int .i64 0] w fun e w'=>Pz w A (parseX A) e w'∧Old w w':=by
 have hnew:=newr_any oa A.length cap 0 w
 have hin:=parseX_in A
 have hfit:=parseX_fit A
 obtain ⟨N,hN⟩:∃ N,N=A.length:=⟨_,rfl⟩
 have hN0:¬ (N:Int)<0:=by omega
 have hN1:((N:Int)<0)=False:=eq_false hN0
 have hrd:=hid (show ∀ (b:Nat) (vm:Value) (w1:World),Old w w1→w.heap.size≤b→CMap w1 vm→RdB w1 b (.slice oa A.length cap) 0 0 (.slice none 0 0) vm→Calls Tryz.prog 40 #[.pointer (some ⟨b,0,none⟩)] w1 (Rd0 ⟨w,fun _=>False⟩ b (.slice oa A.length cap) vm A (parseX A)) from fun b vm w1 ho hlo hm hr=>
  rd_any (w0:=⟨w,fun _=>False⟩) hA hB (vt:=.slice none 0 0) ⟨hr,ho,hlo,fun k hk=>hk.elim,hw,hm,TreeR.nil _ _ _⟩)
 cases hP:parseX A with
 | out=>exact absurd hP hin
 | no er r=>
   rw [hP] at hrd hfit
   have hne:¬ er=0:=by
    rcases hfit with rfl|rfl|rfl<;>decide
   rw [←hN] at hrd hnew ⊢
   clear hin hP hfit hw hN
   go_enter Tryz.func24,Tryz.ntmps24
   go_wp2_with (first
    | (go_at_call 39;refine hnew.mono ?_;rintro e w1 ⟨b,vm,rfl,o1,hlo,hm,hr⟩;have H26:=hid (hrd.out b vm w1 o1 hlo hm hr);clear hr hm)
    | (go_at_call 40;refine H26.out.mono ?_;rintro e w2 ⟨rfl,n',o',vt,h1,h2,h3,h4⟩;have H4:=hid h4;have q1:=h4.c 1;clear h4))
   go_quiet (fail)
   go_wp2
   go_ret3
   exact ⟨⟨n',h1,h2,rfl⟩,h3.os,h3.output,h3.size,h3.block⟩
 | ok ns r=>
   rw [hP] at hrd
   rw [←hN] at hrd hnew ⊢
   clear hin hP hfit hw hN
   by_cases h60:60<ns.length
   ·have HD:=hid (show ∀ (b:Nat) (vm:Value) (e:Ending) (w2:World),Rd0 ⟨w,fun _=>False⟩ b (.slice oa N cap) vm A (.ok ns r) e w2→e=.returned (.int .i64 0)∧∃ (ob:Option Addr) (cb M:Nat) (n':Nat),60<M∧RdB w2 b (.slice oa N cap) (n':Int) 0 (.slice ob M cb) vm∧Old w w2∧r=A.drop n'∧n'≤A.length from fun b vm e w2 h=>by
     obtain ⟨h0,n',h1,h2,vt,h3⟩:=h
     obtain ⟨kvs,t1,t2,t3⟩:=h3.ri.tree
     obtain ⟨ob,cb,rfl⟩:=own_shape t2
     exact ⟨h0,ob,cb,ns.length,n',h60,h3.rd,h3.ri.old,h1,h2⟩)
    go_enter Tryz.func24,Tryz.ntmps24
    go_wp2_with (first
     | (go_at_call 39;refine hnew.mono ?_;rintro e w1 ⟨b,vm,rfl,o1,hlo,hm,hr⟩;have H26:=hid (hrd.out b vm w1 o1 hlo hm hr);clear hr hm)
     | (go_at_call 40;refine H26.out.mono ?_;intro e w2 h2;obtain ⟨rfl,ob,cb,M,n',hM,h4,o2,h5,h6⟩:=HD.out _ _ _ _ h2;have hM':(60:Int)<(M:Int):=by omega
        have q3:=h4.c 3;clear h2 h4))
    go_ret3
    refine ⟨⟨n',h5,h6,?_⟩,o2⟩
    rw [if_pos h60]
    rfl
   ·have HD:=hid (show ∀ (b:Nat) (vm:Value) (e:Ending) (w2:World),Rd0 ⟨w,fun _=>False⟩ b (.slice oa N cap) vm A (.ok ns r) e w2→e=.returned (.int .i64 0)∧∃ (ob:Option Addr) (cb M:Nat) (n':Nat),¬ 60<M∧RdB w2 b (.slice oa N cap) (n':Int) 0 (.slice ob M cb) vm∧Old w w2∧r=A.drop n'∧n'≤A.length∧TreeR (fun _=>False) w2 w.heap.size (.slice ob M cb) ns from fun b vm e w2 h=>by
     obtain ⟨h0,n',h1,h2,vt,h3⟩:=h
     have ht:=h3.ri.tree
     obtain ⟨kvs,t1,t2,t3⟩:=h3.ri.tree
     obtain ⟨ob,cb,rfl⟩:=own_shape t2
     exact ⟨h0,ob,cb,ns.length,n',h60,h3.rd,h3.ri.old,h1,h2,ht⟩)
    go_enter Tryz.func24,Tryz.ntmps24
    go_wp2_with (first
     | (go_at_call 39;refine hnew.mono ?_;rintro e w1 ⟨b,vm,rfl,o1,hlo,hm,hr⟩;have H26:=hid (hrd.out b vm w1 o1 hlo hm hr);clear hr hm)
     | (go_at_call 40;refine H26.out.mono ?_;intro e w2 h2;obtain ⟨rfl,ob,cb,M,n',hM,h4,o2,h5,h6,h7⟩:=HD.out _ _ _ _ h2;have H7:=hid h7;have hM':¬ (60:Int)<(M:Int):=by omega
        have q3:=h4.c 3
        have q1:=h4.c 1
        clear h2 h4 h7))
    go_quiet (fail)
    go_wp2
    go_ret3
    refine ⟨⟨n',h5,h6,?_⟩,o2.os,o2.output,o2.size,o2.block⟩
    rw [if_neg h60]
    exact ⟨_,rfl,H7.out.old ⟨rfl,rfl,Nat.le_refl _,fun _ _=>rfl⟩⟩
end Go.Proofs.YtkellpcljiodeaaGreatDoor
namespace Go.Proofs.YtkellpcljiodeaaGreatDoor
open Go.ChangeShapes Go.WideShapes Go.ChangeAt Go.RowKit Go.Lib
set_option linter.unusedVariables false
set_option linter.unusedSimpArgs false
set_option maxRecDepth 100000
def writtenL (x:Tk):Nat:=if x.k=2∨x.k=6 then 1+x.t.length else if x.k=3 then 1 else if x.k=5 then 2+x.t.length else x.t.length
theorem st_size (l:List UInt8):(st l).size=l.length:=by simp [ByteArray.size]
theorem written_any {k xk xn ln cl:Int} {t xs:List UInt8} {Z:Nat} (hZ:Z=writtenL ⟨k,t,xk,xn,xs,ln,cl⟩) (w:World) (ht:t.length≤1000000) :
 Calls Tryz.prog 66 #[.agg #[.int .u8 k,.string (st t),.int .u8 xk,.int .i64 xn,.string (st xs),.int .i64 ln,.int .i64 cl]] w fun e w'=>e=.returned (.int .i64 (Z:Int))∧Old w w':=by
 have HO:=hid ((Old.refl w).alloc (.cells #[.int .u8 k,.string (st t),.int .u8 xk,.int .i64 xn,.string (st xs),.int .i64 ln,.int .i64 cl] 57))
 obtain ⟨n,hn⟩:∃ n,n=t.length:=⟨_,rfl⟩
 have hs:(st t).size=n:=by rw [st_size,hn]
 unfold writtenL at hZ
 simp only at hZ
 rw [←hn] at hZ ht
 clear hn
 by_cases h26:k=2∨k=6
 ·rw [if_pos h26] at hZ
  subst hZ
  rcases h26 with rfl|rfl
  all_goals
   go_enter Tryz.func66,Tryz.ntmps66
   go_wp2
   go_ret
   exact ⟨by simp [hs],HO.out⟩
 rw [if_neg h26] at hZ
 have k2:¬ k=2:=fun e=>h26 (Or.inl e)
 have k6:¬ k=6:=fun e=>h26 (Or.inr e)
 by_cases h3:k=3
 ·rw [if_pos h3] at hZ
  subst hZ h3
  clear h26
  go_enter Tryz.func66,Tryz.ntmps66
  go_wp2
  go_ret
  exact ⟨rfl,HO.out⟩
 rw [if_neg h3] at hZ
 by_cases h5:k=5
 ·rw [if_pos h5] at hZ
  subst hZ h5
  clear h26
  go_enter Tryz.func66,Tryz.ntmps66
  go_wp2
  go_ret
  exact ⟨by simp [hs],HO.out⟩
 ·rw [if_neg h5] at hZ
  subst hZ
  clear h26
  go_enter Tryz.func66,Tryz.ntmps66
  go_wp2
  go_ret
  exact ⟨by simp [hs],HO.out⟩
def behindL (A:List Tk):Int × Int:=if A.length=0 then (1,1) else ((wordL (A.drop (A.length-1))).ln,(wordL (A.drop (A.length-1))).cl+(writtenL (wordL (A.drop (A.length-1))):Nat))
def placeL (A:List Tk) (n:Nat):Int × Int:=if n<A.length then ((wordL (A.drop n)).ln,(wordL (A.drop n)).cl) else behindL A
theorem behind_nil (oa:Option Addr) (cap:Nat) (w:World):Calls Tryz.prog 41 #[.slice oa 0 cap] w fun e w'=>e=.returned (.agg #[.int .i64 1,.int .i64 1])∧Old w w':=by
 have HO:=hid ((Old.refl w).alloc (.cells #[.int .i64 1,.int .i64 1] 26))
 go_enter Tryz.func41,Tryz.ntmps41
 go_wp2
 refine bodyPost_ret (v:=.agg #[.int .i64 1,.int .i64 1]) (by simp [results,Tryz.results41,go_sem]) rfl ⟨rfl,HO.out⟩
theorem behind_some (g n cap:Nat) (w:World) {k xk xn ln cl:Int} {t xs:List UInt8} {Z:Nat} (hZ:Z=writtenL ⟨k,t,xk,xn,xs,ln,cl⟩) (hn:n≤200000) (ht:t.length≤1000000) (hcl:cl≤1000000∧0≤cl) (hg:g<w.heap.size)
 (c0:w.cell? ⟨g,n*7,none⟩=some (.int .u8 k)) (c1:w.cell? ⟨g,n*7+1,none⟩=some (.string (st t))) (c2:w.cell? ⟨g,n*7+2,none⟩=some (.int .u8 xk)) (c3:w.cell? ⟨g,n*7+3,none⟩=some (.int .i64 xn))
 (c4:w.cell? ⟨g,n*7+4,none⟩=some (.string (st xs))) (c5:w.cell? ⟨g,n*7+5,none⟩=some (.int .i64 ln)) (c6:w.cell? ⟨g,n*7+6,none⟩=some (.int .i64 cl)) :
 Calls Tryz.prog 41 #[.slice (some ⟨g,0,none⟩) (n+1) cap] w fun e w'=>e=.returned (.agg #[.int .i64 ln,.int .i64 (cl+(Z:Int))])∧Old w w':=by
 have hz2:Z≤1000002:=by
  subst hZ
  unfold writtenL
  simp only
  repeat' split
  all_goals omega
 have HW:=hid (fun W=>written_any hZ W ht)
 have ho:=(Old.refl w).alloc (.cells #[.int .i64 0,.int .i64 0] 26)
 replace c0:=ho.c hg c0
 replace c1:=ho.c hg c1
 replace c2:=ho.c hg c2
 replace c3:=ho.c hg c3
 replace c4:=ho.c hg c4
 replace c5:=ho.c hg c5
 replace c6:=ho.c hg c6
 have e1:((n+1:Nat):Int)-1=(n:Int):=by omega
 clear hZ
 go_enter Tryz.func41,Tryz.ntmps41
 go_wp2
 have HSv:=hid ((Sv.new (x0:=.int .u8 k) (x1:=.string (st t)) (x2:=.int .u8 xk) (x3:=.int .i64 xn) (x4:=.string (st xs)) (x5:=.int .i64 ln) (x6:=.int .i64 cl) (w.alloc (.cells #[.int .i64 0,.int .i64 0] 26))))
 rw [sz_alloc] at HSv
 have HP:=hid ((show Pl (w.alloc (.cells #[.int .i64 0,.int .i64 0] 26)) w.heap.size 0 0 from (MapKept.heap_alloc w _).1).old ((Old.refl _).alloc (.cells #[.int .u8 k,.string (st t),.int .u8 xk,.int .i64 xn,.string (st xs),.int .i64 ln,.int .i64 cl] 57)))
 have HO:=hid (ho.alloc (.cells #[.int .u8 k,.string (st t),.int .u8 xk,.int .i64 xn,.string (st xs),.int .i64 ln,.int .i64 cl] 57))
 clear c0 c1 c2 c3 c4 c5 c6 ho hg
 generalize (w.alloc (.cells #[.int .i64 0,.int .i64 0] 26)).alloc (.cells #[.int .u8 k,.string (st t),.int .u8 xk,.int .i64 xn,.string (st xs),.int .i64 ln,.int .i64 cl] 57)=W at *
 have d0:=HSv.out.c 0
 have d1:=HSv.out.c 1
 have d2:=HSv.out.c 2
 have d3:=HSv.out.c 3
 have d4:=HSv.out.c 4
 have d5:=HSv.out.c 5
 have d6:=HSv.out.c 6
 go_region_held3 (fun w'=>w'.cell? ⟨w.heap.size+1,0,none⟩=some (.int .u8 k)∧w'.cell? ⟨w.heap.size+1,1,none⟩=some (.string (st t))∧w'.cell? ⟨w.heap.size+1,2,none⟩=some (.int .u8 xk)∧w'.cell? ⟨w.heap.size+1,3,none⟩=some (.int .i64 xn)∧w'.cell? ⟨w.heap.size+1,4,none⟩=some (.string (st xs))∧w'.cell? ⟨w.heap.size+1,5,none⟩=some (.int .i64 ln)∧w'.cell? ⟨w.heap.size+1,6,none⟩=some (.int .i64 cl))
  (first|exact ⟨d0,d1,d2,d3,d4,d5,d6⟩|exact ⟨R3.out.c 0,R3.out.c 1,R3.out.c 2,R3.out.c 3,R3.out.c 4,R3.out.c 5,R3.out.c 6⟩|go_keep)
  (first
    | (go_at_call 66;refine (HW.out _).mono ?_;rintro e w3 ⟨rfl,o3⟩;replace o3:=((Old.refl W).drew).trans o3;have R3:=hid (HSv.out.old o3);have P3:=hid (HP.out.old o3);have O3:=hid (HO.out.trans o3);have g0:=P3.out.c0;have g1:=P3.out.c1;have g2:=P3.out.f 0;have g3:=P3.out.f 1;clear o3))
 all_goals
  have hwr:IntKind.i64.wrap (cl+(Z:Int))=cl+(Z:Int):=by rw [IntKind.wrap_i64];omega
  rw [hwr]
  have H4:=hid (show Pl ((w3.setCell ⟨w.heap.size,0,none⟩ (.int .i64 ln)).setCell ⟨w.heap.size,1,none⟩ (.int .i64 (cl+(Z:Int)))) w.heap.size ln (cl+(Z:Int)) from by
   have:=P3.out
   unfold Pl at this ⊢
   simp [World.setCell,Array.getElem?_modify,this])
  have O4:=hid ((O3.out.setCell (p:=⟨w.heap.size,0,none⟩) (Nat.le_refl _) (.int .i64 ln)).setCell (p:=⟨w.heap.size,1,none⟩) (Nat.le_refl _) (.int .i64 (cl+(Z:Int))))
  have q0:=H4.out.c0
  have q1:=H4.out.c1
  clear g0 g1 g2 g3
  go_wp2
  refine bodyPost_ret (v:=.agg #[.int .i64 ln,.int .i64 (cl+(Z:Int))]) (by simp [results,Tryz.results41,go_sem,q0,q1]) rfl ⟨rfl,O4.out⟩
theorem behind_any (oa:Option Addr) (cap:Nat) (w:World) {A:List Tk} (hA:A.length≤200000) (hB:∀ x∈A,WdB 1000000 x) (hw:Rw w (.slice oa A.length cap) A) :
 Calls Tryz.prog 41 #[.slice oa A.length cap] w fun e w'=>e=.returned (.agg #[.int .i64 (behindL A).1,.int .i64 (behindL A).2])∧Old w w':=by
 unfold behindL
 by_cases h0:A.length=0
 ·rw [if_pos h0,h0]
  exact behind_nil oa cap w
 rw [if_neg h0]
 obtain ⟨oa',cap',e,_,_,h⟩:=hw
 injection e with e1 e2 e3
 subst e1 e3
 have hlt:A.length-1<A.length:=by omega
 have hx:A[A.length-1]?=some A[A.length-1]:=List.getElem?_eq_getElem hlt
 have hd:wordL (A.drop (A.length-1))=A[A.length-1]:=by rw [List.drop_eq_getElem_cons hlt];rfl
 rw [hd]
 have hm:A[A.length-1]∈A:=List.getElem_mem hlt
 obtain ⟨g,rfl,hg,_,c0,c1,c2,c3,c4,c5,c6⟩:=h _ _ hx
 have hb:=hB _ hm
 revert c0 c1 c2 c3 c4 c5 c6 hb
 generalize A[A.length-1]=x
 intro c0 c1 c2 c3 c4 c5 c6 hb
 obtain ⟨k,t,xk,xn,xs,ln,cl⟩:=x
 have:=behind_some g (A.length-1) cap w rfl (by omega) hb.tM ⟨hb.clM,by have:=hb.cl;omega⟩ hg c0 c1 c2 c3 c4 c5 c6
 rw [show A.length-1+1=A.length by omega] at this
 exact this
end Go.Proofs.YtkellpcljiodeaaGreatDoor
namespace Go.Proofs.YtkellpcljiodeaaGreatDoor
open Go.ChangeShapes Go.WideShapes Go.ChangeAt Go.RowKit Go.Lib
set_option linter.unusedVariables false
set_option linter.unusedSimpArgs false
set_option maxRecDepth 100000
theorem place_in (g n N cap:Nat) (w:World) {ln cl:Int} (hn:n<N) (hN:N≤200000) (hg:g<w.heap.size)
 (c5:w.cell? ⟨g,n*7+5,none⟩=some (.int .i64 ln)) (c6:w.cell? ⟨g,n*7+6,none⟩=some (.int .i64 cl)) :
 Calls Tryz.prog 25 #[.slice (some ⟨g,0,none⟩) N cap,.int .i64 (n:Int)] w fun e w'=>e=.returned (.agg #[.int .i64 ln,.int .i64 cl])∧Old w w':=by
 have ho:=(Old.refl w).alloc (.cells #[.int .i64 0,.int .i64 0] 26)
 replace c5:=ho.c hg c5
 replace c6:=ho.c hg c6
 have HO:=hid ((Old.refl w).alloc (.cells #[.int .i64 ln,.int .i64 cl] 26))
 have hlt:(n:Int)<(N:Int):=by omega
 clear ho
 go_enter Tryz.func25,Tryz.ntmps25
 go_wp2
 refine bodyPost_ret (v:=.agg #[.int .i64 ln,.int .i64 cl]) (by simp [results,Tryz.results25,go_sem]) rfl ⟨rfl,HO.out⟩
theorem place_out (oa:Option Addr) (n N cap:Nat) (w:World) {p q:Int} (hn:N≤n) (hN:N≤200000) (h2:n≤200000) (hb:∀ W,Old w W→Calls Tryz.prog 41 #[.slice oa N cap] W fun e w'=>e=.returned (.agg #[.int .i64 p,.int .i64 q])∧Old W w') :
 Calls Tryz.prog 25 #[.slice oa N cap,.int .i64 (n:Int)] w fun e w'=>e=.returned (.agg #[.int .i64 p,.int .i64 q])∧Old w w':=by
 have ho:=(Old.refl w).alloc (.cells #[.int .i64 0,.int .i64 0] 26)
 have HP:=hid (show Pl (w.alloc (.cells #[.int .i64 0,.int .i64 0] 26)) w.heap.size 0 0 from (MapKept.heap_alloc w _).1)
 have HB:=hid (hb _ ho)
 have HO:=hid ho
 have hlt:¬ (n:Int)<(N:Int):=by omega
 clear hb ho
 go_enter Tryz.func25,Tryz.ntmps25
 go_wp2_with (go_at_call 41;refine HB.out.mono ?_;rintro e w3 ⟨rfl,o3⟩;have P3:=hid (HP.out.old o3);have O3:=hid (HO.out.trans o3);have g0:=P3.out.c0;have g1:=P3.out.c1;have g2:=P3.out.f 0;have g3:=P3.out.f 1;clear o3)
 have H4:=hid (show Pl ((w3.setCell ⟨w.heap.size,0,none⟩ (.int .i64 p)).setCell ⟨w.heap.size,1,none⟩ (.int .i64 q)) w.heap.size p q from by
  have:=P3.out
  unfold Pl at this ⊢
  simp [World.setCell,Array.getElem?_modify,this])
 have O4:=hid ((O3.out.setCell (p:=⟨w.heap.size,0,none⟩) (Nat.le_refl _) (.int .i64 p)).setCell (p:=⟨w.heap.size,1,none⟩) (Nat.le_refl _) (.int .i64 q))
 have q0:=H4.out.c0
 have q1:=H4.out.c1
 refine bodyPost_ret (v:=.agg #[.int .i64 p,.int .i64 q]) (by simp [results,Tryz.results25,go_sem,q0,q1]) rfl ⟨rfl,O4.out⟩
theorem place_any (oa:Option Addr) (cap:Nat) (w:World) {A:List Tk} (hA:A.length≤200000) (hB:∀ x∈A,WdB 1000000 x) (hw:Rw w (.slice oa A.length cap) A) (n:Nat) (hn:n≤A.length) :
 Calls Tryz.prog 25 #[.slice oa A.length cap,.int .i64 (n:Int)] w fun e w'=>e=.returned (.agg #[.int .i64 (placeL A n).1,.int .i64 (placeL A n).2])∧Old w w':=by
 unfold placeL
 by_cases h:n<A.length
 ·rw [if_pos h]
  obtain ⟨oa',cap',e,_,_,h3⟩:=hw
  injection e with e1 e2 e3
  subst e1 e3
  have hx:A[n]?=some A[n]:=List.getElem?_eq_getElem h
  have hd:wordL (A.drop n)=A[n]:=by rw [List.drop_eq_getElem_cons h];rfl
  rw [hd]
  obtain ⟨g,rfl,hg,_,c0,c1,c2,c3,c4,c5,c6⟩:=h3 _ _ hx
  exact place_in g n A.length cap w h hA hg c5 c6
 ·rw [if_neg h]
  exact place_out oa n A.length cap w (by omega) hA (by omega) (fun W ho=>(behind_any oa cap W hA hB (hw.old ho)))
def readP (l:List UInt8):List Nd × Int × Int × Int:=
 if (lexR l).2.1≠0 then ([],(lexR l).2.2.1,(lexR l).2.2.2,(lexR l).2.1)
 else match parseX (lexR l).1 with
  | .out=>([],0,0,0)
  | .no e r=>([],(placeL (lexR l).1 ((lexR l).1.length-r.length)).1,(placeL (lexR l).1 ((lexR l).1.length-r.length)).2,e)
  | .ok ns r=>if 60<ns.length then ([],(placeL (lexR l).1 0).1,(placeL (lexR l).1 0).2,7)
    else if r≠[] then ([],(placeL (lexR l).1 ((lexR l).1.length-r.length)).1,(placeL (lexR l).1 ((lexR l).1.length-r.length)).2,4) else (ns,0,0,0)
def Rdt (w w':World) (R:List Nd × Int × Int × Int) (e:Ending):Prop:=∃ vt,e=.returned (.tuple #[vt,.agg #[.int .i64 R.2.1,.int .i64 R.2.2.1],.int .i64 R.2.2.2])∧TreeR (fun _=>False) w' w.heap.size vt R.1
theorem pl_set {w:World} {g:Nat} {a b:Int} (h:Pl w g a b) (p q:Int):Pl ((w.setCell ⟨g,0,none⟩ (.int .i64 p)).setCell ⟨g,1,none⟩ (.int .i64 q)) g p q:=by
 unfold Pl at h ⊢
 simp [World.setCell,Array.getElem?_modify,h]
theorem pl_far {w:World} {g g':Nat} {a b:Int} (h:Pl w g a b) (hne:g'≠g) (p q:Int):Pl ((w.setCell ⟨g',0,none⟩ (.int .i64 p)).setCell ⟨g',1,none⟩ (.int .i64 q)) g a b:=by
 unfold Pl at h ⊢
 simp [World.setCell,Array.getElem?_modify,hne,h]
theorem old_set {a w:World} {g:Nat} (h:Old a w) (hg:a.heap.size≤g) (p q:Int):Old a ((w.setCell ⟨g,0,none⟩ (.int .i64 p)).setCell ⟨g,1,none⟩ (.int .i64 q)):=
 (h.setCell (p:=⟨g,0,none⟩) hg (.int .i64 p)).setCell (p:=⟨g,1,none⟩) hg (.int .i64 q)
theorem read_bad (s:ByteArray) (w:World) {N:Nat} {E ln cl:Int} (hE:¬ E=0) (hl:∀ W,Old w W→Calls Tryz.prog 23 #[.string s] W fun e w'=>(∃ oa cap,e=.returned (.tuple #[.slice oa N cap,.agg #[.int .i64 ln,.int .i64 cl],.int .i64 E]))∧Old W w') :
 Calls Tryz.prog 9 #[.string s] w fun e w'=>Rdt w w' ([],ln,cl,E) e∧Old w w':=by
 have ho:=(Old.refl w).alloc (.cells #[.int .i64 0,.int .i64 0] 26)
 have HP:=hid (show Pl (w.alloc (.cells #[.int .i64 0,.int .i64 0] 26)) w.heap.size 0 0 from (MapKept.heap_alloc w _).1)
 have HL:=hid (hl _ ho)
 have HO:=hid ho
 clear hl ho
 go_enter Tryz.func9,Tryz.ntmps9
 go_wp2_with (go_at_call 23;refine HL.out.mono ?_;rintro e w1 ⟨⟨oa,cap,rfl⟩,o1⟩;have NE:=hid (Nat.ne_of_lt (blk_lt (HP.out.old o1)));have o2:=(Old.refl w1).alloc (.cells #[.int .i64 ln,.int .i64 cl] 26);have P3:=hid ((HP.out.old o1).old o2);have P6:=hid (show Pl (w1.alloc (.cells #[.int .i64 ln,.int .i64 cl] 26)) w1.heap.size ln cl from (MapKept.heap_alloc w1 _).1);have O3:=hid ((HO.out.trans o1).trans o2);clear o1 o2)
 generalize w1.alloc (.cells #[.int .i64 ln,.int .i64 cl] 26)=W at *
 have g0:=P3.out.c0
 have g1:=P3.out.c1
 have g2:=P3.out.f 0
 have g3:=P3.out.f 1
 have d0:=P6.out.c0
 have d1:=P6.out.c1
 have F6:=hid (pl_far P6.out NE.out ln cl)
 go_region_held3 (fun w'=>w'.cell? ⟨w1.heap.size,0,none⟩=some (.int .i64 ln)∧w'.cell? ⟨w1.heap.size,1,none⟩=some (.int .i64 cl))
  (first|exact ⟨d0,d1⟩|exact ⟨F6.out.c0,F6.out.c1⟩|go_keep)
  (fail)
 all_goals
  have H4:=hid (pl_set P3.out ln cl)
  have O4:=hid (old_set O3.out (Nat.le_refl _) ln cl)
  have q0:=H4.out.c0
  have q1:=H4.out.c1
  clear d0 d1 g0 g1 g2 g3
  go_wp2
  refine bodyPost_ret (v:=.tuple #[.slice none 0 0,.agg #[.int .i64 ln,.int .i64 cl],.int .i64 E]) (by simp [results,Tryz.results9,go_sem,q0,q1]) rfl ⟨⟨_,rfl,TreeR.nil _ _ _⟩,O4.out.os,O4.out.output,O4.out.size,O4.out.block⟩
theorem TreeR.side {S:Nat→Prop} {w w':World} {base g:Nat} {v:Value} {T:List Nd} {cs':Array Value} {t:TypeId} {fr:Nat × Nat} (h:TreeR S w base v T) (hg:w.heap[g]?=some (.cells cs' t fr)) (h1:38≠t) (h2:3≠t) (c:Chx (·= g) w w'):TreeR S w' base v T:=by
 obtain ⟨kvs,t1,t2,t3⟩:=h
 exact ⟨kvs,t1,own_side t2 hg h1 c,fun i x v hx hv=>⟨own_side (t3 i x v hx hv).1 hg h2 c,(t3 i x v hx hv).2⟩⟩
section
variable {s:ByteArray} {w:World} {N n:Nat} {E ln cl p q:Int} {A:List Tk} {X:Value→World→Prop}
def LexOk (s:ByteArray) (w:World) (N:Nat) (ln cl:Int) (A:List Tk):Prop:=∀ W,Old w W→Calls Tryz.prog 23 #[.string s] W fun e w'=>∃ oa cap,e=.returned (.tuple #[.slice oa N cap,.agg #[.int .i64 ln,.int .i64 cl],.int .i64 0])∧Hid (Rw w' (.slice oa N cap) A)∧Old W w'
def ParseAs (w:World) (N:Nat) (A:List Tk) (n:Nat) (E:Int) (X:Value→World→Prop):Prop:=∀ oa cap W,Rw W (.slice oa N cap) A→Old w W→Calls Tryz.prog 24 #[.slice oa N cap,.int .i64 0] W fun e w'=>∃ vt,e=.returned (.tuple #[vt,.int .i64 (n:Int),.int .i64 E])∧Hid (X vt w')∧Old W w'
def PlaceAs (N:Nat) (A:List Tk) (n:Nat) (p q:Int):Prop:=∀ oa cap W,Rw W (.slice oa N cap) A→Calls Tryz.prog 25 #[.slice oa N cap,.int .i64 (n:Int)] W fun e w'=>e=.returned (.agg #[.int .i64 p,.int .i64 q])∧Old W w'
theorem read_err (hE:¬ E=0) (hl:LexOk s w N ln cl A) (hp:ParseAs w N A n E X) (hq:PlaceAs N A n p q):Calls Tryz.prog 9 #[.string s] w fun e w'=>Rdt w w' ([],p,q,E) e∧Old w w':=by
 have ho:=(Old.refl w).alloc (.cells #[.int .i64 0,.int .i64 0] 26)
 have HP:=hid (show Pl (w.alloc (.cells #[.int .i64 0,.int .i64 0] 26)) w.heap.size 0 0 from (MapKept.heap_alloc w _).1)
 have HL:=hid (hl _ ho)
 have HO:=hid ho
 have HPA:=hid hp
 have HQ:=hid hq
 clear hl ho hp hq
 go_enter Tryz.func9,Tryz.ntmps9
 go_wp2_with (first
  | (go_at_call 23;refine HL.out.mono ?_;rintro e w1 ⟨oa,cap,rfl,hw,o1⟩;have o2:=(Old.refl w1).alloc (.cells #[.int .i64 ln,.int .i64 cl] 26);have P3:=hid ((HP.out.old o1).old o2);have RW:=hid (hw.out.old o2);have O3:=hid ((HO.out.trans o1).trans o2);clear o1 o2 hw)
  | (go_at_call 24;refine (HPA.out _ _ _ RW.out O3.out).mono ?_;rintro e w4 ⟨vt,rfl,hx,o4⟩;replace P3:=hid (P3.out.old o4);replace RW:=hid (RW.out.old o4);replace O3:=hid (O3.out.trans o4);clear o4)
  | (go_at_call 25;refine (HQ.out _ _ _ RW.out).mono ?_;rintro e w5 ⟨rfl,o5⟩;replace P3:=hid (P3.out.old o5);replace O3:=hid (O3.out.trans o5);have g0:=P3.out.c0;have g1:=P3.out.c1;have g2:=P3.out.f 0;have g3:=P3.out.f 1;clear o5))
 have H4:=hid (pl_set P3.out p q)
 have O4:=hid (old_set O3.out (Nat.le_refl _) p q)
 have q0:=H4.out.c0
 have q1:=H4.out.c1
 refine bodyPost_ret (v:=.tuple #[.slice none 0 0,.agg #[.int .i64 p,.int .i64 q],.int .i64 E]) (by simp [results,Tryz.results9,go_sem,q0,q1]) rfl ⟨⟨_,rfl,TreeR.nil _ _ _⟩,O4.out⟩
theorem read_rest (hn:n<N) (hl:LexOk s w N ln cl A) (hp:ParseAs w N A n 0 X) (hq:PlaceAs N A n p q):Calls Tryz.prog 9 #[.string s] w fun e w'=>Rdt w w' ([],p,q,4) e∧Old w w':=by
 have ho:=(Old.refl w).alloc (.cells #[.int .i64 0,.int .i64 0] 26)
 have HP:=hid (show Pl (w.alloc (.cells #[.int .i64 0,.int .i64 0] 26)) w.heap.size 0 0 from (MapKept.heap_alloc w _).1)
 have HL:=hid (hl _ ho)
 have HO:=hid ho
 have HPA:=hid hp
 have HQ:=hid hq
 have hn2:(n:Int)<(N:Int):=by omega
 clear hl ho hp hq
 go_enter Tryz.func9,Tryz.ntmps9
 go_wp2_with (first
  | (go_at_call 23;refine HL.out.mono ?_;rintro e w1 ⟨oa,cap,rfl,hw,o1⟩;have o2:=(Old.refl w1).alloc (.cells #[.int .i64 ln,.int .i64 cl] 26);have P3:=hid ((HP.out.old o1).old o2);have RW:=hid (hw.out.old o2);have O3:=hid ((HO.out.trans o1).trans o2);clear o1 o2 hw)
  | (go_at_call 24;refine (HPA.out _ _ _ RW.out O3.out).mono ?_;rintro e w4 ⟨vt,rfl,hx,o4⟩;replace P3:=hid (P3.out.old o4);replace RW:=hid (RW.out.old o4);replace O3:=hid (O3.out.trans o4);clear o4)
  | (go_at_call 25;refine (HQ.out _ _ _ RW.out).mono ?_;rintro e w5 ⟨rfl,o5⟩;replace P3:=hid (P3.out.old o5);replace O3:=hid (O3.out.trans o5);have g0:=P3.out.c0;have g1:=P3.out.c1;have g2:=P3.out.f 0;have g3:=P3.out.f 1;clear o5))
 have H4:=hid (pl_set P3.out p q)
 have O4:=hid (old_set O3.out (Nat.le_refl _) p q)
 have q0:=H4.out.c0
 have q1:=H4.out.c1
 refine bodyPost_ret (v:=.tuple #[.slice none 0 0,.agg #[.int .i64 p,.int .i64 q],.int .i64 4]) (by simp [results,Tryz.results9,go_sem,q0,q1]) rfl ⟨⟨_,rfl,TreeR.nil _ _ _⟩,O4.out⟩
theorem read_good {T:List Nd} (hn:¬ n<N) (hl:LexOk s w N ln cl A) (hp:ParseAs w N A n 0 (fun vt w'=>TreeR (fun _=>False) w' w.heap.size vt T)):Calls Tryz.prog 9 #[.string s] w fun e w'=>Rdt w w' (T,0,0,0) e∧Old w w':=by
 have ho:=(Old.refl w).alloc (.cells #[.int .i64 0,.int .i64 0] 26)
 have HP:=hid (show Pl (w.alloc (.cells #[.int .i64 0,.int .i64 0] 26)) w.heap.size 0 0 from (MapKept.heap_alloc w _).1)
 have HL:=hid (hl _ ho)
 have HO:=hid ho
 have HPA:=hid hp
 have hn2:¬ (n:Int)<(N:Int):=by omega
 clear hl ho hp
 go_enter Tryz.func9,Tryz.ntmps9
 go_wp2_with (first
  | (go_at_call 23;refine HL.out.mono ?_;rintro e w1 ⟨oa,cap,rfl,hw,o1⟩;have o2:=(Old.refl w1).alloc (.cells #[.int .i64 ln,.int .i64 cl] 26);have P3:=hid ((HP.out.old o1).old o2);have RW:=hid (hw.out.old o2);have O3:=hid ((HO.out.trans o1).trans o2);clear o1 o2 hw)
  | (go_at_call 24;refine (HPA.out _ _ _ RW.out O3.out).mono ?_;rintro e w4 ⟨vt,rfl,hx,o4⟩;replace P3:=hid (P3.out.old o4);replace O3:=hid (O3.out.trans o4);have g0:=P3.out.c0;have g1:=P3.out.c1;have g2:=P3.out.f 0;have g3:=P3.out.f 1;obtain ⟨ob,cb,rfl⟩:=(show ∃ ob cb,vt=.slice ob T.length cb from by { obtain ⟨kvs,_,h2,_⟩:=hx.out;exact own_shape h2 });clear o4))
 have H4:=hid (pl_set P3.out 0 0)
 have O4:=hid (old_set O3.out (Nat.le_refl _) 0 0)
 have q0:=H4.out.c0
 have q1:=H4.out.c1
 refine bodyPost_ret (v:=.tuple #[.slice ob T.length cb,.agg #[.int .i64 0,.int .i64 0],.int .i64 0]) (by simp [results,Tryz.results9,go_sem,q0,q1]) rfl ⟨⟨_,rfl,?_⟩,O4.out⟩
 exact hx.out.side P3.out (by decide) (by decide) ((Chx.ofSet w4 ⟨w.heap.size,0,none⟩ _).trans (Chx.ofSet _ ⟨w.heap.size,1,none⟩ _))
end
theorem TreeR.mono {S:Nat→Prop} {w:World} {base base':Nat} {v:Value} {T:List Nd} (h:TreeR S w base v T) (hb:base'≤base):TreeR S w base' v T:=by
 obtain ⟨kvs,h1,h2,h3⟩:=h
 exact ⟨kvs,h1,own_mono h2 hb,fun i x v hx hv=>⟨own_mono (h3 i x v hx hv).1 hb,(h3 i x v hx hv).2⟩⟩
theorem drop_len {A:List Tk} {n:Nat} (hn:n≤A.length):A.length-(A.drop n).length=n:=by rw [List.length_drop];omega
theorem eread_any (s:ByteArray) (w:World) (hs:s.size≤65536) (he:Env w) {R:List Nd × Int × Int × Int} (hR:R=readP s.data.toList):Calls Tryz.prog 9 #[.string s] w fun e w'=>Rdt w w' R e∧Old w w':=by
 subst hR
 have hz:s.data.toList.length=s.size:=Array.length_toList
 obtain ⟨⟨A,E,ln,cl⟩,hT⟩:∃ x,x=lexR s.data.toList:=⟨_,rfl⟩
 have hlex:=fun W (h:Old w W)=>lex_at s W hs (he.old h) _ hT
 unfold readP
 rw [←hT]
 by_cases hE:E=0
 ·rw [if_neg (by simp only;omega)]
  have hT2:=hT
  unfold lexR at hT2
  have hw:Wds s.data.toList 1 1 A E ln cl:=by
   split at hT2
   ·exact wds_of hT2.symm
   ·rename_i h
    rw [Prod.mk.injEq] at hT2
    exact absurd (by rw [←hT2.2];exact hE) h
  have hf:=hw.fine 1000000 (Nat.le_refl _) (Nat.le_refl _) (by omega) (by omega)
  have hA:A.length≤200000:=by have:=hw.len;omega
  have hB:Brief A:=fun x hx=>⟨(hf x hx).tM,(hf x hx).vM⟩
  subst hE
  have hl:LexOk s w A.length ln cl A:=fun W h=>(hlex W h).mono (by
   rintro e w' ⟨⟨oa,cap,h1,h2⟩,h3⟩
   exact ⟨oa,cap,h1,hid (Rw.of_row h2),h3⟩)
  have hin:=parseX_in A
  have hfit:=parseX_fit A
  have hpa:=fun oa cap W (hw:Rw W (.slice oa A.length cap) A)=>eparse_any oa cap W hA hB hw
  have hq:∀ n,n≤A.length→PlaceAs A.length A n (placeL A n).1 (placeL A n).2:=fun n hn oa cap W hw=>place_any oa cap W hA hf hw n hn
  simp only
  cases hP:parseX A with
  | out=>exact absurd hP hin
  | no er r=>
    rw [hP] at hpa hfit
    obtain ⟨n,hr,hn⟩:∃ n,r=A.drop n∧n≤A.length:=parseX_no hP
    subst hr
    simp only
    rw [drop_len hn]
    refine read_err (X:=fun _ _=>True) (by rcases hfit with rfl|rfl|rfl<;>decide) hl (fun oa cap W hw ho=>(hpa oa cap W hw).mono ?_) (hq n hn)
    rintro e w' ⟨⟨n',h1,h2,h3⟩,h4⟩
    have:n=n':=by
     have:=congrArg List.length h1
     rw [List.length_drop,List.length_drop] at this
     omega
    subst this
    exact ⟨_,h3,hid trivial,h4⟩
  | ok ns r=>
    rw [hP] at hpa
    obtain ⟨n,hr,hn⟩:∃ n,r=A.drop n∧n≤A.length:=parseX_ok hP
    subst hr
    simp only
    by_cases h60:60<ns.length
    ·rw [if_pos h60]
     refine read_err (n:=0) (X:=fun _ _=>True) (by decide) hl (fun oa cap W hw ho=>(hpa oa cap W hw).mono ?_) (hq 0 (Nat.zero_le _))
     rintro e w' ⟨⟨n',h1,h2,h3⟩,h4⟩
     rw [if_pos h60] at h3
     exact ⟨_,h3,hid trivial,h4⟩
    rw [if_neg h60]
    have hpz:ParseAs w A.length A n 0 (fun vt w'=>TreeR (fun _=>False) w' w.heap.size vt ns):=fun oa cap W hw ho=>(hpa oa cap W hw).mono (by
     rintro e w' ⟨⟨n',h1,h2,h3⟩,h4⟩
     rw [if_neg h60] at h3
     obtain ⟨vt,h5,h6⟩:=h3
     have:n=n':=by
      have:=congrArg List.length h1
      rw [List.length_drop,List.length_drop] at this
      omega
     subst this
     exact ⟨_,h5,hid (h6.mono ho.size),h4⟩)
    by_cases hrn:A.drop n≠[]
    ·rw [if_pos hrn,drop_len hn]
     exact read_rest (drop_lt hrn) hl hpz (hq n hn)
    ·rw [if_neg hrn]
     refine read_good (n:=n) (fun hlt=>hrn ?_) hl hpz
     intro e
     have:=congrArg List.length e
     rw [List.length_drop] at this
     simp at this
     omega
 ·rw [if_pos (by simp only;exact hE)]
  exact read_bad s w hE (fun W h=>(hlex W h).mono (by
   rintro e w' ⟨⟨oa,cap,h1,h2⟩,h3⟩
   exact ⟨⟨oa,cap,h1⟩,h3⟩))
end Go.Proofs.YtkellpcljiodeaaGreatDoor
