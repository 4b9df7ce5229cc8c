/- Layer vtext: how texts are read, by what begins them. a text in quotes is read. -/
import Derived.Test.YtkellpcljiodeaaGreatDoorLG
set_option maxHeartbeats 3200000
namespace Go.Proofs.YtkellpcljiodeaaGreatDoor
open Go.ChangeShapes Go.WideShapes Go.ChangeAt Go.RowKit Go.Lib
set_option linter.unusedVariables false
set_option linter.unusedSimpArgs false
set_option maxRecDepth 100000
def readN:List UInt8→Int × Int × Int
 | []=>(0,0,4)
 | c::l=>if c=45 then readC [45] (Lib.cut l [46]).1 (Lib.cut l [46]).2.1 (Lib.cut l [46]).2.2 else readC [] (Lib.cut (c::l) [46]).1 (Lib.cut (c::l) [46]).2.1 (Lib.cut (c::l) [46]).2.2
theorem rn_any (c:UInt8) (l:List UInt8) (hl:l.length≤900) (w:World) (he:Env w) :
 Calls Tryz.prog 199 #[.string (st (c::l))] w fun e w'=>e=rt (readN (c::l))∧Old w w':=by
 show Calls Tryz.prog 199 #[.string (st (c::l))] w fun e w'=>e=rt (if c=45 then readC [45] (Lib.cut l [46]).1 (Lib.cut l [46]).2.1 (Lib.cut l [46]).2.2 else readC [] (Lib.cut (c::l) [46]).1 (Lib.cut (c::l) [46]).2.1 (Lib.cut (c::l) [46]).2.2)∧Old w w'
 by_cases h:c=45
 ·rw [if_pos h]
  exact rn_neg c l _ _ _ h rfl hl w he
 ·rw [if_neg h]
  exact rn_pos c l _ _ _ h rfl hl w he
theorem truth_any (b:Bool) (w:World):Calls Tryz.prog 196 #[.bool b] w fun e w'=>e=.returned (vl 4 (if b=true then 1 else 0) ⟨#[]⟩)∧Old w w':=by
 cases b
 ·go_enter Tryz.func196,Tryz.ntmps196
  go_wp2
  exact bodyPost_ret (v:=vl 4 0 ⟨#[]⟩) (by simp [results,Tryz.results196,go_sem]) rfl ⟨rfl,(Old.refl w).alloc _⟩
 ·go_enter Tryz.func196,Tryz.ntmps196
  go_wp2
  exact bodyPost_ret (v:=vl 4 1 ⟨#[]⟩) (by simp [results,Tryz.results196,go_sem]) rfl ⟨rfl,(Old.refl w).alloc _⟩
theorem only_any (k n:Int) (s:ByteArray) (w:World):Calls Tryz.prog 195 #[vl k n s] w fun e w'=>e=.returned (.func (.func 206) #[] #[.pointer (some ⟨w.heap.size,0,none⟩)])∧w'=w.alloc (.cells #[.int .u8 k,.int .i64 n,.string s] 35):=by
 go_enter Tryz.func195,Tryz.ntmps195
 go_wp2
 go_ret
 exact ⟨rfl,rfl⟩
theorem only1_any (k n:Int) (t s:ByteArray) (b:Nat) (w:World) (hb:Three w b (.int .u8 k) (.int .i64 n) (.string t)) :
 Calls Tryz.prog 206 #[.string s,.pointer (some ⟨b,0,none⟩)] w fun e w'=>e=rv k n 0 t∧Old w w':=by
 have hb':=hb.alloc (.cells #[.int .u8 0,.int .i64 0,.string ⟨#[]⟩] 35)
 have c0:=hb'.c0
 have c1:=hb'.c1
 have c2:=hb'.c2
 clear hb'
 go_enter Tryz.func206,Tryz.ntmps206
 go_wp2
 exact bodyPost_ret (v:=.tuple #[vl k n t,.int .i64 0]) (by simp [results,Tryz.results206,go_sem]) rfl ⟨rfl,(Old.refl w).alloc _⟩
theorem sym_any (c:UInt8) (l:List UInt8) (hl:l.length≤900) (w:World):Calls Tryz.prog 198 #[.string (st (c::l))] w fun e w'=>e=rv 5 0 0 (st l)∧Old w w':=by
 have HT:=hid (Three.new w (.int .u8 0) (.int .i64 0) (.string ⟨#[]⟩))
 have HO:=hid ((Old.refl w).alloc (.cells #[.int .u8 0,.int .i64 0,.string ⟨#[]⟩] 35))
 have hx:(st (c::l)).extract 1 (l.length+1)=st l:=ext1 c l
 have hc:=fun W=>Tryz.stringslite_Clone (st l) W (by simp [ByteArray.size];omega)
 have hcl:∀ W,Calls Tryz.prog 104 #[.string (st l)] W fun e w'=>e=.returned (.string (st l))∧Old W w':=by
  intro W
  go_enter Tryz.func104,Tryz.ntmps104
  go_wp2_with (go_at_call 144;(with_reducible refine (hc _).mono ?_);rintro e w1 ⟨rfl,hb⟩)
  go_ret
  exact ⟨rfl,Old.ofBelow hb (Nat.le_refl _)⟩
 clear hc
 go_enter Tryz.func198,Tryz.ntmps198
 go_wp2_with (go_at_call 104;(with_reducible refine (hcl _).mono ?_);rintro e w1 ⟨rfl,o1⟩;have T:=hid (HT.out.old o1);have c0:=T.out.c0;have c1:=T.out.c1;have c2:=T.out.c2;have f0:=T.out.f 0;have f1:=T.out.f 1;have f2:=T.out.f 2)
 have R:=T.out.set (.int .u8 5) (.int .i64 0) (.string (st l))
 exact bodyPost_ret (v:=.tuple #[vl 5 0 (st l),.int .i64 0]) (by simp [results,Tryz.results198,go_sem,R.c0,R.c1,R.c2]) rfl ⟨rfl,old3 (HO.out.trans o1) (Nat.le_refl _) _ _ _⟩
theorem begin_any (b:Int) (w:World):Calls Tryz.prog 184 #[.int .u8 b] w fun e w'=>e=.returned (.int .u8 (if 48≤b∧b≤57 then 48 else b))∧w=w':=by
 have hd:=fun W=>digit_any b W
 by_cases h:48≤b∧b≤57
 ·rw [decide_eq_true h] at hd
  rw [if_pos h]
  clear h
  go_enter Tryz.func184,Tryz.ntmps184
  go_wp2_with (go_at_call 200;(with_reducible refine (hd _).mono ?_);rintro e w1 ⟨rfl,rfl⟩)
  go_ret
  exact ⟨rfl,rfl⟩
 ·rw [decide_eq_false h] at hd
  rw [if_neg h]
  clear h
  go_enter Tryz.func184,Tryz.ntmps184
  go_wp2_with (go_at_call 200;(with_reducible refine (hd _).mono ?_);rintro e w1 ⟨rfl,rfl⟩)
  go_ret
  exact ⟨rfl,rfl⟩
abbrev me (k:Int) (v:Value) (n:Nat):MapEntry:=⟨.int .u8 k,.agg #[v],n⟩
theorem run_put {w:World} {B:Nat} {es:Array MapEntry} {clock:Nat} (k:Int) (v:Value) (hb:w.heap[B]?=some (.map es clock)) (hf:Instr.findNow (.int .u8) (.int .u8 k) es.toList 0=some none) :
 ∃ w',(Instr.mapUpdate 198 (.map (some B)) (.int .u8 k) v).run Tryz.prog w=.ok () w'∧w'.heap[B]?=some (.map (es.push ⟨.int .u8 k,v,clock⟩) (clock+1))∧w.grownBy w' (some B):=by
 have hr:=MapKept.run_findKey (P:=Tryz.prog) (w:=w) (kt:=5) Tryz.underlying5 hf
 have hu:=run_underlying (P:=Tryz.prog) (w:=w) Tryz.underlying198
 have hck:=MapKept.run_checkKey (P:=Tryz.prog) (w:=w) (kt:=5) (k:=.int .u8 k) Tryz.underlying5 (by simp [MapKept.IsKey]) false 9999
 have hg:=MapKept.run_getObj_map (P:=Tryz.prog) hb
 have hs:=MapKept.run_setObj_map (P:=Tryz.prog) (.map (es.push ⟨.int .u8 k,v,clock⟩) (clock+1)) hb
 refine ⟨{ w with heap:=w.heap.setIfInBounds B (.map (es.push ⟨.int .u8 k,v,clock⟩) (clock+1)) },?_,(MapKept.heap_set hb).1,⟨rfl,rfl,rfl,by simp,fun j hj hne=>(MapKept.heap_set hb).2 j (fun e=>hne (by rw [e]))⟩⟩
 simp [Instr.mapUpdate,hu,hg,hck,hr,hs,Result.andThen]
def lkV:Option (Nat × Value)→Value
 | some (_,v)=>v
 | none=>.agg #[.nilFunc]
theorem run_lk {w:World} {B:Nat} {es:Array MapEntry} {clock:Nat} (k:Int) (hb:w.heap[B]?=some (.map es clock)) (r:Option (Nat × Value)) (hf:Instr.findNow (.int .u8) (.int .u8 k) es.toList 0=some r) :
 (Instr.lookup 198 (.map (some B)) (.int .u8 k) true).run Tryz.prog w=.ok (.tuple #[lkV r,.bool r.isSome]) w:=by
 have hr:=MapKept.run_findKey (P:=Tryz.prog) (w:=w) (kt:=5) Tryz.underlying5 hf
 have hu:=run_underlying (P:=Tryz.prog) (w:=w) Tryz.underlying198
 have hck:=fun b=>MapKept.run_checkKey (P:=Tryz.prog) (w:=w) (kt:=5) (k:=.int .u8 k) Tryz.underlying5 (by simp [MapKept.IsKey]) b 9999
 have hg:=MapKept.run_getObj_map (P:=Tryz.prog) hb
 have hz:(zeroValue 196).run Tryz.prog w=.ok (.agg #[.nilFunc]) w:=Tryz.zeroValue196 w
 cases r with
 | none=>simp [Instr.lookup,hu,hg,hck,hr,hz,Result.andThen,lkV]
 | some p=>simp [Instr.lookup,hu,hg,hck,hr,Result.andThen,lkV]
theorem wpl_put {ops:Array Oper} {rest:List Oper} {o:Oper} {a:Act} {Q:Exit→Act→World→Prop} {w:World} (hg:o.guard=none) (m x v:Operand) (hop:o.op=.insert 198 m x v)
 (B:Nat) (es:Array MapEntry) (clock:Nat) (k:Int) (val:Value) (hm:a.eval m=.map (some B)) (hx:a.eval x=.int .u8 k) (hv:a.eval v=val) (hb:w.heap[B]?=some (.map es clock)) (hf:Instr.findNow (.int .u8) (.int .u8 k) es.toList 0=some none)
 (hK:∀ w',w'.heap[B]?=some (.map (es.push ⟨.int .u8 k,val,clock⟩) (clock+1))→w.grownBy w' (some B)→wpList Tryz.prog ops Q rest (a.put o.dst undef) w'):wpList Tryz.prog ops Q (o::rest) a w:=by
 refine wpList_plain hg fun K' hK'=>?_
 obtain ⟨w',hrun,r1,r2⟩:=run_put k val hb hf
 unfold Oper.wp
 simp [execOp,hop,hm,hx,hv,hrun,Result.andThen]
 exact hK' _ _ (hK w' r1 r2)
def formsAt (b1 b2 b3:Nat):List MapEntry:=[me 110 (.func (.func 206) #[] #[.pointer (some ⟨b1,0,none⟩)]) 0,me 116 (.func (.func 206) #[] #[.pointer (some ⟨b2,0,none⟩)]) 1,me 102 (.func (.func 206) #[] #[.pointer (some ⟨b3,0,none⟩)]) 2,me 34 (.func (.func 197) #[] #[]) 3,me 35 (.func (.func 198) #[] #[]) 4,me 45 (.func (.func 199) #[] #[]) 5,me 48 (.func (.func 199) #[] #[]) 6]
def FormsIn (w:World) (B:Nat):Prop:=∃ b1 b2 b3 cl,w.heap[B]?=some (.map (formsAt b1 b2 b3).toArray cl)∧Three w b1 (.int .u8 0) (.int .i64 0) (.string ⟨#[]⟩)∧Three w b2 (.int .u8 4) (.int .i64 1) (.string ⟨#[]⟩)∧Three w b3 (.int .u8 4) (.int .i64 0) (.string ⟨#[]⟩)
theorem Three.grown {w w':World} {b B:Nat} {x y z:Value} (h:Three w b x y z) (hg:w.grownBy w' (some B)) (hne:b≠B):Three w' b x y z:=(hg.block b h.lt (by simpa using hne)).trans h
theorem Old.put {a w w':World} {B:Nat} (h:Old a w) (hg:w.grownBy w' (some B)) (hB:a.heap.size≤B):Old a w':=h.grown hg (by intro k hk;cases hk;exact hB)
theorem hm_old {w w':World} {B:Nat} {o:Obj} (ho:Old w w') (h:w.heap[B]?=some o):w'.heap[B]?=some o:=(ho.block B (blk_lt h)).trans h
theorem only_ex (k n:Int) (w:World) {B:Nat} {o:Obj} (hb:w.heap[B]?=some o):Calls Tryz.prog 195 #[vl k n ⟨#[]⟩] w fun e w'=>∃ b,e=.returned (.func (.func 206) #[] #[.pointer (some ⟨b,0,none⟩)])∧Three w' b (.int .u8 k) (.int .i64 n) (.string ⟨#[]⟩)∧b≠B∧Old w w':=by
 refine (only_any k n ⟨#[]⟩ w).mono ?_
 rintro e w' ⟨rfl,rfl⟩
 exact ⟨w.heap.size,rfl,Three.new _ _ _ _,Nat.ne_of_gt (blk_lt hb),(Old.refl w).alloc _⟩
theorem forms_any (w:World):Calls Tryz.prog 183 #[] w fun e w'=>∃ B,e=.returned (.map (some B))∧FormsIn w' B∧Old w w':=by
 have hmm:=@run_makeMap Tryz.prog
 have HM:Hid ((w.alloc (.map #[] 0)).heap[w.heap.size]?=some (.map #[] 0)):=hid (MapKept.heap_alloc w _).1
 have HO:=hid ((Old.refl w).alloc (.map #[] 0))
 go_enter Tryz.func183,Tryz.ntmps183
 go_wp2_with (first
  | (refine wpl_put (by rfl) (.tmp 1) (.const (.int .u8 110)) _ (by rfl) w.heap.size #[] 0 110 (.agg #[.func (.func 206) #[] #[.pointer (some ⟨b1,0,none⟩)]]) (by rfl) (by rfl) (by rfl) HM.out (by rfl) ?_;intro p0 hM0 hG0;replace HM:=hid hM0;replace HO:=hid (HO.out.put hG0 (Nat.le_refl _));clear hM0;replace T1:=hid (T1.out.grown hG0 N1.out);clear hG0)
  | (refine wpl_put (by rfl) (.tmp 1) (.const (.int .u8 116)) _ (by rfl) w.heap.size #[me 110 (.func (.func 206) #[] #[.pointer (some ⟨b1,0,none⟩)]) 0] 1 116 (.agg #[.func (.func 206) #[] #[.pointer (some ⟨b2,0,none⟩)]]) (by rfl) (by rfl) (by rfl) HM.out (by rfl) ?_;intro p1 hM1 hG1;replace HM:=hid hM1;replace HO:=hid (HO.out.put hG1 (Nat.le_refl _));clear hM1;replace T1:=hid (T1.out.grown hG1 N1.out);replace T2:=hid (T2.out.grown hG1 N2.out);clear hG1)
  | (refine wpl_put (by rfl) (.tmp 1) (.const (.int .u8 102)) _ (by rfl) w.heap.size #[me 110 (.func (.func 206) #[] #[.pointer (some ⟨b1,0,none⟩)]) 0,me 116 (.func (.func 206) #[] #[.pointer (some ⟨b2,0,none⟩)]) 1] 2 102 (.agg #[.func (.func 206) #[] #[.pointer (some ⟨b3,0,none⟩)]]) (by rfl) (by rfl) (by rfl) HM.out (by rfl) ?_;intro p2 hM2 hG2;replace HM:=hid hM2;replace HO:=hid (HO.out.put hG2 (Nat.le_refl _));clear hM2;replace T1:=hid (T1.out.grown hG2 N1.out);replace T2:=hid (T2.out.grown hG2 N2.out);replace T3:=hid (T3.out.grown hG2 N3.out);clear hG2)
  | (refine wpl_put (by rfl) (.tmp 1) (.const (.int .u8 34)) _ (by rfl) w.heap.size #[me 110 (.func (.func 206) #[] #[.pointer (some ⟨b1,0,none⟩)]) 0,me 116 (.func (.func 206) #[] #[.pointer (some ⟨b2,0,none⟩)]) 1,me 102 (.func (.func 206) #[] #[.pointer (some ⟨b3,0,none⟩)]) 2] 3 34 (.agg #[.func (.func 197) #[] #[]]) (by rfl) (by rfl) (by rfl) HM.out (by rfl) ?_;intro p3 hM3 hG3;replace HM:=hid hM3;replace HO:=hid (HO.out.put hG3 (Nat.le_refl _));clear hM3;replace T1:=hid (T1.out.grown hG3 N1.out);replace T2:=hid (T2.out.grown hG3 N2.out);replace T3:=hid (T3.out.grown hG3 N3.out);clear hG3)
  | (refine wpl_put (by rfl) (.tmp 1) (.const (.int .u8 35)) _ (by rfl) w.heap.size #[me 110 (.func (.func 206) #[] #[.pointer (some ⟨b1,0,none⟩)]) 0,me 116 (.func (.func 206) #[] #[.pointer (some ⟨b2,0,none⟩)]) 1,me 102 (.func (.func 206) #[] #[.pointer (some ⟨b3,0,none⟩)]) 2,me 34 (.func (.func 197) #[] #[]) 3] 4 35 (.agg #[.func (.func 198) #[] #[]]) (by rfl) (by rfl) (by rfl) HM.out (by rfl) ?_;intro p4 hM4 hG4;replace HM:=hid hM4;replace HO:=hid (HO.out.put hG4 (Nat.le_refl _));clear hM4;replace T1:=hid (T1.out.grown hG4 N1.out);replace T2:=hid (T2.out.grown hG4 N2.out);replace T3:=hid (T3.out.grown hG4 N3.out);clear hG4)
  | (refine wpl_put (by rfl) (.tmp 1) (.const (.int .u8 45)) _ (by rfl) w.heap.size #[me 110 (.func (.func 206) #[] #[.pointer (some ⟨b1,0,none⟩)]) 0,me 116 (.func (.func 206) #[] #[.pointer (some ⟨b2,0,none⟩)]) 1,me 102 (.func (.func 206) #[] #[.pointer (some ⟨b3,0,none⟩)]) 2,me 34 (.func (.func 197) #[] #[]) 3,me 35 (.func (.func 198) #[] #[]) 4] 5 45 (.agg #[.func (.func 199) #[] #[]]) (by rfl) (by rfl) (by rfl) HM.out (by rfl) ?_;intro p5 hM5 hG5;replace HM:=hid hM5;replace HO:=hid (HO.out.put hG5 (Nat.le_refl _));clear hM5;replace T1:=hid (T1.out.grown hG5 N1.out);replace T2:=hid (T2.out.grown hG5 N2.out);replace T3:=hid (T3.out.grown hG5 N3.out);clear hG5)
  | (refine wpl_put (by rfl) (.tmp 1) (.const (.int .u8 48)) _ (by rfl) w.heap.size #[me 110 (.func (.func 206) #[] #[.pointer (some ⟨b1,0,none⟩)]) 0,me 116 (.func (.func 206) #[] #[.pointer (some ⟨b2,0,none⟩)]) 1,me 102 (.func (.func 206) #[] #[.pointer (some ⟨b3,0,none⟩)]) 2,me 34 (.func (.func 197) #[] #[]) 3,me 35 (.func (.func 198) #[] #[]) 4,me 45 (.func (.func 199) #[] #[]) 5] 6 48 (.agg #[.func (.func 199) #[] #[]]) (by rfl) (by rfl) (by rfl) HM.out (by rfl) ?_;intro p6 hM6 hG6;replace HM:=hid hM6;replace HO:=hid (HO.out.put hG6 (Nat.le_refl _));clear hM6;replace T1:=hid (T1.out.grown hG6 N1.out);replace T2:=hid (T2.out.grown hG6 N2.out);replace T3:=hid (T3.out.grown hG6 N3.out);clear hG6)
  | (go_at_call 196;(with_reducible refine (truth_any true _).mono ?_);rintro e q2 ⟨rfl,o⟩;replace HM:=hid (hm_old o HM.out);replace HO:=hid (HO.out.trans o);replace T1:=hid (T1.out.old o);clear o)
  | (go_at_call 196;(with_reducible refine (truth_any false _).mono ?_);rintro e q3 ⟨rfl,o⟩;replace HM:=hid (hm_old o HM.out);replace HO:=hid (HO.out.trans o);replace T1:=hid (T1.out.old o);replace T2:=hid (T2.out.old o);clear o)
  | (go_at_call 195;(with_reducible refine (only_ex 0 0 _ HM.out).mono ?_);rintro e v1 ⟨b1,rfl,t1,n1,o⟩;have T1:=hid t1;have N1:=hid n1;clear t1 n1;replace HM:=hid (hm_old o HM.out);replace HO:=hid (HO.out.trans o);clear o)
  | (go_at_call 195;(with_reducible refine (only_ex 4 1 _ HM.out).mono ?_);rintro e v2 ⟨b2,rfl,t2,n2,o⟩;have T2:=hid t2;have N2:=hid n2;clear t2 n2;replace HM:=hid (hm_old o HM.out);replace HO:=hid (HO.out.trans o);replace T1:=hid (T1.out.old o);clear o)
  | (go_at_call 195;(with_reducible refine (only_ex 4 0 _ HM.out).mono ?_);rintro e v3 ⟨b3,rfl,t3,n3,o⟩;have T3:=hid t3;have N3:=hid n3;clear t3 n3;replace HM:=hid (hm_old o HM.out);replace HO:=hid (HO.out.trans o);replace T1:=hid (T1.out.old o);replace T2:=hid (T2.out.old o);clear o)
  )
 go_ret
 exact ⟨w.heap.size,rfl,⟨b1,b2,b3,_,HM.out,T1.out,T2.out,T3.out⟩,HO.out⟩
end Go.Proofs.YtkellpcljiodeaaGreatDoor
namespace Go.Proofs.YtkellpcljiodeaaGreatDoor
open Go.ChangeShapes Go.WideShapes Go.ChangeAt Go.RowKit Go.Lib
set_option linter.unusedVariables false
set_option maxRecDepth 100000
def unqL:List UInt8→List UInt8
 | []=>[]
 | [c]=>[c]
 | c::d::r=>if c=92 then d::unqL r else c::unqL (d::r)
theorem unq_two {c d:UInt8} {r:List UInt8} (h:c=92):unqL (c::d::r)=d::unqL r:=by
 rw [unqL,if_pos h]
theorem unq_one {c:UInt8} {r:List UInt8} (h:¬ (c=92∧r≠[])):unqL (c::r)=c::unqL r:=by
 cases r with
 | nil=>rfl
 | cons d r=>rw [unqL,if_neg (fun e=>h ⟨e,by simp⟩)]
theorem drop_at {I:List UInt8} {k:Nat} (h:k<I.length):I.drop k=I[k]::I.drop (k+1):=List.drop_eq_getElem_cons h
structure Ui (W wr:World) (B:Nat) (acc:List UInt8):Prop where
 old:Old W wr
 bu:Lib.IsBuilder 171 5 B B (Lib.byteCells acc) wr
theorem Ui.step {W wr:World} {B:Nat} {acc:List UInt8} (h:Ui W wr B acc) (hB:W.heap.size=B) (c:UInt8) (hl:acc.length≤1000) :
 Calls Tryz.prog 156 #[.pointer (some ⟨B,0,none⟩),.int .u8 (c.toNat:Int)] wr fun e w'=>e=.returned .nilIface∧Ui W w' B (acc++[c]):=by
 have hs:=h.old.size
 refine (Tryz.Builder_WriteByte B B (Lib.byteCells acc) c.toNat wr h.bu (by simp [Lib.byteCells];omega) (by omega)).mono ?_
 rintro e w' ⟨rfl,h1,h2⟩
 refine ⟨rfl,old_below h.old (by rw [hB];exact h2),?_⟩
 have:Lib.byteCells (acc++[c])=Lib.byteCells acc++[.int .u8 (c.toNat:Int)]:=by simp [Lib.byteCells]
 rw [this]
 exact Or.inr h1
theorem quo_read (c:UInt8) (l I:List UInt8) (hI:Lib.trimSuffix l [34]=I) (hl:l.length≤900) (w:World) :
 Calls Tryz.prog 197 #[.string (st (c::l))] w fun e w'=>e=rv 3 0 0 (st (unqL I))∧Old w w':=by
 have hx:(st (c::l)).extract 1 (l.length+1)=st l:=ext1 c l
 have hil:I.length≤l.length:=by
  rw [←hI]
  unfold Lib.trimSuffix
  split
  ·simp
  ·exact Nat.le_refl _
 have hts:∀ W,Calls Tryz.prog 207 #[.string (st l),.string ⟨#[34]⟩] W fun e w'=>e=.returned (.string (st I))∧w'=W:=by
  intro W
  have h:=Tryz.strings_TrimSuffix (st l) ⟨#[34]⟩ W (by simp [ByteArray.size];omega)
  have e:Lib.trimSuffix (st l).data.toList (⟨#[34]⟩:ByteArray).data.toList=I:=hI
  rw [e] at h
  exact h
 have HO:=hid ((Old.refl w).alloc (.cells #[.int .u8 0,.int .i64 0,.string ⟨#[]⟩] 35))
 have HT:=hid (Three.new w (.int .u8 0) (.int .i64 0) (.string ⟨#[]⟩))
 have hI1:I.length≤900:=by omega
 have HU:Hid (Ui (w.alloc (.cells #[.int .u8 0,.int .i64 0,.string ⟨#[]⟩] 35)) ((w.alloc (.cells #[.int .u8 0,.int .i64 0,.string ⟨#[]⟩] 35)).alloc (.cells #[.pointer none,.slice none 0 0] 171)) (w.heap.size+1) []):=by
  have h:=Lib.fresh_isBuilder 171 5 (w.alloc (.cells #[.int .u8 0,.int .i64 0,.string ⟨#[]⟩] 35))
  rw [sz_alloc] at h
  exact hid ⟨(Old.refl _).alloc _,h⟩
 have HB:Hid ((w.alloc (.cells #[.int .u8 0,.int .i64 0,.string ⟨#[]⟩] 35)).heap.size=w.heap.size+1):=hid (sz_alloc _ _)
 clear hI hil
 go_enter Tryz.func197,Tryz.ntmps197
 go_wp2_with (go_at_call 207;(with_reducible refine (hts _).mono ?_);rintro e w1 ⟨rfl,rfl⟩)
 clear hts hx
 generalize (w.alloc (.cells #[.int .u8 0,.int .i64 0,.string ⟨#[]⟩] 35))=W1 at *
 go_loopw [6] (fun i wr=>∃ k:Nat,∃ acc,k≤I.length∧i=.int .i64 (k:Int)∧Hid (Ui W1 wr (w.heap.size+1) acc)∧Hid (acc++unqL (I.drop k)=unqL I∧acc.length≤k)) (fun i _=>(I.length-RowKit.intOf i).toNat)
 case atStart=>exact ⟨0,[],Nat.zero_le _,rfl,HU,hid ⟨rfl,Nat.le_refl _⟩⟩
 case round=>
  obtain ⟨k,acc,hk,rfl,HR,HA⟩:=hrel
  by_cases hkn:k<I.length
  ·have hg:(st I).size=I.length:=by simp [ByteArray.size]
   have hks:k<(st I).size:=by rw [hg];exact hkn
   obtain ⟨a,ha⟩:∃ a,a=I[k]'hkn:=⟨_,rfl⟩
   have hd:I.drop k=a::I.drop (k+1):=by rw [ha];exact drop_at hkn
   have HK:=hid hkn
   by_cases h92:a=92∧k+1<I.length
   ·have e92:(((((st I)[k]'hks).toNat:Int))==92)=true:=by
     have e:((st I)[k]'hks)=a:=ha.symm
     rw [e,h92.1];rfl
    have hlt:=h92.2
    have hls:k+1<(st I).size:=by rw [hg];exact hlt
    obtain ⟨b,hb⟩:∃ b,b=I[k+1]'hlt:=⟨_,rfl⟩
    have hq:=hid (HR.out.step HB.out ((st I)[k+1]'hls) (by have:=HA.out.2;omega))
    have hnx:acc++[(st I)[k+1]'hls]++unqL (I.drop (k+1+1))=unqL I:=by
     have e:((st I)[k+1]'hls)=b:=hb.symm
     have hd2:I.drop (k+1)=b::I.drop (k+1+1):=by rw [hb];exact drop_at hlt
     have:=HA.out.1
     rw [hd,hd2,unq_two h92.1] at this
     rw [←this,List.append_assoc,e]
     rfl
    have HN:=hid hnx
    have HAl:=hid HA.out.2
    clear hnx hd h92 hb ha
    go_wp2_with (first
     | (go_at_call 156;(with_reducible refine hq.out.mono ?_);rintro e w2 ⟨rfl,hq2⟩;have H2:=hid hq2;clear hq2))
    refine ⟨⟨k+1+1,_,by omega,rfl,H2,hid ⟨HN.out,by have:=HAl.out;rw [List.length_append,List.length_cons,List.length_nil];omega⟩⟩,by simp only [RowKit.intOf];omega⟩
   ·have hq:=hid (HR.out.step HB.out ((st I)[k]'hks) (by have:=HA.out.2;omega))
    have hnx:acc++[(st I)[k]'hks]++unqL (I.drop (k+1))=unqL I:=by
     have e:((st I)[k]'hks)=a:=ha.symm
     have:=HA.out.1
     rw [hd,unq_one (fun h=>h92 ⟨h.1,by
      rcases Nat.lt_or_ge (k+1) I.length with h'|h'
      ·exact h'
      ·exact absurd (List.drop_eq_nil_of_le h') h.2⟩)] at this
     rw [←this,List.append_assoc,e]
     rfl
    have HN:=hid hnx
    have HAl:=hid HA.out.2
    by_cases ha92:a=92
    ·have e92:(((((st I)[k]'hks).toNat:Int))==92)=true:=by
      have e:((st I)[k]'hks)=a:=ha.symm
      rw [e,ha92];rfl
     have hnl:¬ k+1<I.length:=fun h=>h92 ⟨ha92,h⟩
     clear hnx hd h92 ha ha92
     go_wp2_with (first
      | (go_at_call 156;(with_reducible refine hq.out.mono ?_);rintro e w2 ⟨rfl,hq2⟩;have H2:=hid hq2;clear hq2))
     refine ⟨⟨k+1,_,hkn,rfl,H2,hid ⟨HN.out,by have:=HAl.out;rw [List.length_append,List.length_cons,List.length_nil];omega⟩⟩,by simp only [RowKit.intOf];omega⟩
    ·have e92:(((((st I)[k]'hks).toNat:Int))==92)=false:=by
      have e:((st I)[k]'hks)=a:=ha.symm
      rw [e,beq_eq_false_iff_ne]
      intro h
      exact ha92 (UInt8.toNat_inj.1 (by show a.toNat=92;omega))
     clear hnx hd h92 ha ha92
     go_wp2_with (first
      | (go_at_call 156;(with_reducible refine hq.out.mono ?_);rintro e w2 ⟨rfl,hq2⟩;have H2:=hid hq2;clear hq2))
     refine ⟨⟨k+1,_,hkn,rfl,H2,hid ⟨HN.out,by have:=HAl.out;rw [List.length_append,List.length_cons,List.length_nil];omega⟩⟩,by simp only [RowKit.intOf];omega⟩
  ·have hkn':k=I.length:=by omega
   have hacc:acc=unqL I:=by
    have:=HA.out.1
    rw [hkn',List.drop_length] at this
    simpa [unqL] using this
   have HI:=hid (Tryz.Builder_String_any (w.heap.size+1) (w.heap.size+1) acc wr HR.out.bu (by have:=HR.out.old.size;have:=HB.out;omega))
   have HC:=hid hacc
   clear hacc
   have HZ:=hid hkn'
   clear hkn'
   go_wp2_with (first
    | (go_at_call 157;(with_reducible refine HI.out.mono ?_);rintro e w4 ⟨rfl,hb4⟩;have o4:=hid (old_below HR.out.old (by rw [HB.out];exact hb4));clear hb4;have T:=hid (HT.out.old o4.out);have c0:=T.out.c0;have c1:=T.out.c1;have c2:=T.out.c2;have f0:=T.out.f 0;have f1:=T.out.f 1;have f2:=T.out.f 2))
   have R:=T.out.set (.int .u8 3) (.int .i64 0) (.string (st acc))
   refine bodyPost_ret (v:=.tuple #[vl 3 0 (st acc),.int .i64 0]) (by simp [results,Tryz.results197,go_sem,R.c0,R.c1,R.c2]) rfl ⟨by rw [HC.out],old3 (HO.out.trans o4.out) (Nat.le_refl _) _ _ _⟩
end Go.Proofs.YtkellpcljiodeaaGreatDoor
