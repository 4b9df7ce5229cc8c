/- What a call of the library's asks of the world, and that it stays; strconv.FormatUint at. Layer vtext: digits. Layer value: names; which values may be. May. -/
import Derived.Lib.ItoaMem
import Derived.Lib.ParseIntB
import Derived.Test.YtkellpcljiodeaaGreatDoorSB
import Derived.Test.YtkellpcljiodeaaGreatDoorVN
set_option maxHeartbeats 6400000
namespace Go.Proofs.YtkellpcljiodeaaGreatDoor
open Go.ChangeShapes Go.WideShapes Go.ChangeAt Go.RowKit Go.Lib Go.Sort
set_option linter.unusedVariables false
set_option maxRecDepth 100000
structure Env (w:World):Prop where
 tab:Lib.TabIs Tryz.prog w "internal/strconv.uint64pow10" .u64 Lib.pow10Tab
 len:∃ m,w.cell? ⟨1,0,none⟩=some (.int .i64 m)
 err:∃ ev,w.cell? ⟨8,0,none⟩=some ev∧(ev=.nilIface∨∃ te pe,ev=.iface te pe)
theorem lt_of_cell {w:World} {p:Addr} {v:Value} (h:w.cell? p=some v):p.block<w.heap.size:=by
 rcases Nat.lt_or_ge p.block w.heap.size with h'|h'
 ·exact h'
 ·unfold World.cell? at h
  rw [Array.getElem?_eq_none h'] at h
  cases h
theorem Old.keeps {w w':World} (ho:Old w w') {p:Addr} {v:Value} (h:w.cell? p=some v):w'.cell? p=some v:=(ho.cell (lt_of_cell h)).trans h
theorem tab_old {P:Program} {w w':World} {nm:String} {k:IntKind} {zs:List Int} (h:Lib.TabIs P w nm k zs) (ho:Old w w'):Lib.TabIs P w' nm k zs:=by
 unfold Lib.TabIs World.var? at *
 cases hg:P.globalNamed nm with
 | none=>simp [hg] at h
 | some g=>
   simp only [hg,Option.bind_some] at h ⊢
   have hlt:g<w.heap.size:=by
    rcases Nat.lt_or_ge g w.heap.size with h'|h'
    ·exact h'
    ·rw [Array.getElem?_eq_none h'] at h;simp at h
   rw [ho.block g hlt]
   exact h
theorem Env.old {w w':World} (h:Env w) (ho:Old w w'):Env w':=by
 obtain ⟨h1,⟨m,h2⟩,ev,h3,h4⟩:=h
 exact ⟨tab_old h1 ho,⟨m,ho.keeps h2⟩,ev,ho.keeps h3,h4⟩
theorem Old.same {w w':World} (h:w'=w):Old w w':=h▸Old.refl w
theorem Old.ofDrewN {w w':World} (h:∃ n,w'=w.drewN n):Old w w':=by
 obtain ⟨n,rfl⟩:=h
 exact (Old.refl w).drewN n
theorem Old.ofGrow {w w':World} (h:∃ k os,w'=Go.Sort.grow (w.drewN k) os):Old w w':=by
 obtain ⟨k,os,rfl⟩:=h
 refine ⟨rfl,rfl,by simp [Go.Sort.grow,World.drewN],fun i hi=>?_⟩
 simp [Go.Sort.grow,World.drewN,Array.getElem?_append,hi]
theorem holds0 (w:World) (T:TypeId) (nd:Nat) (hs:nd≤24):Holds (fun (b:UInt8)=>Value.int .u8 (b.toNat:Int)) (w.alloc (.cells zeros24 T)) w.heap.size 0 (Array.replicate nd (0:UInt8)):=fun j hj=>by
 have hj':j<nd:=by simpa using hj
 refine ⟨?_,World.frozen?_alloc_new _ _ _ _⟩
 rw [World.cell?_alloc_new,zeros24_at _ (by omega),getElem!_pos _ j hj]
 simp
theorem ifu_any (u:Nat) (hu64:u<18446744073709551616) (w:World) (he:Env w) :
 Calls Tryz.prog 176 #[.int .u64 u,.int .i64 10] w fun e w'=>e=.returned (.string ⟨(Lib.decDigits u).toArray⟩)∧Old w w':=by
 by_cases hs:u<100
 ·have hs':(u:Int)<100:=by omega
  have hc:IntKind.i64.wrap (u:Int)=u:=by rw [IntKind.wrap_i64];omega
  go_enter Tryz.func176,Tryz.ntmps176
  go_wp2_with (go_at_call 172;refine (Tryz.internal_strconv_small u hs _).mono ?_;rintro e w' ⟨rfl,rfl⟩)
  go_ret
  exact ⟨rfl,Old.refl _⟩
 ·have hs':¬ (u:Int)<100:=by omega
  have hu1:1≤u:=by omega
  have hnd20:Lib.nDigits u≤20:=by have:=Lib.numDigits_eq u hu1 hu64;split at this<;>omega
  have hb3:Lib.nDigits u≤24:=by omega
  have hal:Tryz.prog.arrayLen 183=24:=by simp [Program.arrayLen,Tryz.underlying183]
  have hsl1:∀ W,(Instr.sliceAt 183 (.pointer (some ⟨w.heap.size,0,none⟩)) none (some (.int .i64 (Lib.nDigits u:Int))) none).run Tryz.prog W=.ok (.slice (some ⟨w.heap.size,0,none⟩) (Lib.nDigits u) 24) W:=fun W=>by
   rw [run_sliceAt_array_h W 183 ⟨w.heap.size,0,none⟩ (by simp [Program.arrayLen,Program.elem,Tryz.underlying183]) .i64 (Lib.nDigits u:Int) (by omega) (by rw [hal];omega)]
   go_simp
  have hH0:=holds0 w 183 (Lib.nDigits u) (by omega)
  have hfmt:=Tryz.internal_strconv_formatBase10 w.heap.size 0 24 u (Array.replicate (Lib.nDigits u) 0) (w.alloc (.cells Lib.zeros24 183)) hH0 (by rw [Array.size_replicate];exact Lib.lt_pow_nDigits u) hu64 (by rw [Array.size_replicate];omega)
  rw [Array.size_replicate] at hfmt
  have HH0:=hid hH0
  clear hH0 hal
  go_enter Tryz.func176,Tryz.ntmps176
  go_wp2_with (first
   | (go_at_call 173;refine (Tryz.internal_strconv_numDigits u hu1 hu64 _ (Lib.tabIs_alloc he.tab _)).mono ?_;rintro e w' ⟨rfl,rfl⟩))
  go_at_call 174
  refine hfmt.mono ?_
  rintro e w' ⟨rfl,k,v',dk,rfl,hF⟩
  have hcv:(convert 147 9 (.slice (some ⟨w.heap.size,0,none⟩) (Lib.nDigits u) 24)).run Tryz.prog ((putRow (fun (b:UInt8)=>Value.int .u8 (b.toNat:Int)) (w.alloc (.cells Lib.zeros24 183)) w.heap.size 0 dk).drewN k)=.ok (.string ⟨(Lib.decDigits u).toArray⟩) ((putRow (fun (b:UInt8)=>Value.int .u8 (b.toNat:Int)) (w.alloc (.cells Lib.zeros24 183)) w.heap.size 0 dk).drewN k):=by
   have h:=run_convert_bytes_back (P:=Tryz.prog) ((putRow (fun (b:UInt8)=>Value.int .u8 (b.toNat:Int)) (w.alloc (.cells Lib.zeros24 183)) w.heap.size 0 dk).drewN k) 147 9 5 ⟨w.heap.size,0,none⟩ 24 (Lib.decDigits u) Tryz.underlying147 Tryz.underlying5 Tryz.underlying9 (fun j hj=>by
    rw [Lib.row_is_numeral hF j hj,Lib.add_plain,World.cell?_drewN]
    exact cell?_putRow (fun (b:UInt8)=>Value.int .u8 (b.toNat:Int)) _ w.heap.size 0 _ dk HH0.out (by rw [hF.size,Array.size_replicate]) j (by rw [hF.size];rw [Lib.decDigits_length] at hj;exact hj))
   rw [Lib.decDigits_length] at h
   exact h
  go_wp2
  go_ret
  refine ⟨rfl,?_⟩
  rw [alloc_eq_grow]
  obtain ⟨os',_,e⟩:=putRow_grow_new (fun (b:UInt8)=>Value.int .u8 (b.toNat:Int)) w #[.cells Lib.zeros24 183] w.heap.size 0 dk (Nat.le_refl _)
  exact Old.ofGrow ⟨k,os',by rw [e];rfl⟩
theorem fu_any (u:Nat) (hu64:u<18446744073709551616) (w:World) (he:Env w) :
 Calls Tryz.prog 154 #[.int .u64 u,.int .i64 10] w fun e w'=>e=.returned (.string ⟨(Lib.decDigits u).toArray⟩)∧Old w w':=by
 have h:=ifu_any u hu64 w he
 go_enter Tryz.func154,Tryz.ntmps154
 go_wp2_with (go_at_call 176;refine h.mono ?_;rintro e w' ⟨rfl,ho⟩)
 go_ret
 exact ⟨rfl,ho⟩
theorem fi_any (n:Int) (hn:I64 n) (w:World) (he:Env w) :
 Calls Tryz.prog 117 #[.int .i64 n,.int .i64 10] w fun e w'=>e=.returned (.string ⟨(Lib.itoa n).toArray⟩)∧Old w w':=
 (Tryz.strconv_FormatInt_10 n hn.1 hn.2 w he.tab).mono fun _ _ h=>⟨h.1,Old.ofGrow h.2⟩
end Go.Proofs.YtkellpcljiodeaaGreatDoor
namespace Go.Proofs.YtkellpcljiodeaaGreatDoor
open Go.ChangeShapes Go.WideShapes Go.ChangeAt Go.RowKit
set_option linter.unusedVariables false
set_option linter.unusedSimpArgs false
set_option maxRecDepth 100000
def dg8 (c:UInt8):Bool:=decide (48≤c.toNat∧c.toNat≤57)
def digsL (l:List UInt8):Bool:=!l.isEmpty&&l.all dg8
def wholeL (l:List UInt8):Bool:=digsL l&&(l.length==1||l.head? != some 48)
theorem digit_any (b:Int) (w:World):Calls Tryz.prog 200 #[.int .u8 b] w fun e w'=>e=.returned (.bool (decide (48≤b∧b≤57)))∧w=w':=by
 by_cases h1:48≤b
 ·by_cases h2:b≤57
  ·rw [decide_eq_true ⟨h1,h2⟩]
   go_enter Tryz.func200,Tryz.ntmps200
   go_wp2
   go_ret
   exact ⟨by simp [h1,h2],rfl⟩
  ·rw [decide_eq_false (fun h=>h2 h.2)]
   go_enter Tryz.func200,Tryz.ntmps200
   go_wp2
   go_ret
   exact ⟨by simp [h1,h2],rfl⟩
 ·rw [decide_eq_false (fun h=>h1 h.1)]
  go_enter Tryz.func200,Tryz.ntmps200
  go_wp2
  go_ret
  exact ⟨by simp [h1],rfl⟩
theorem list_bt {s:ByteArray} {k:Nat} (h:k<s.size):bt s k=((s.data.toList[k]'(by simpa using h)).toNat:Int):=by
 unfold bt
 rw [List.getD_eq_getElem?_getD,List.getElem?_eq_getElem (by simpa using h)]
 rfl
theorem all_more {s:ByteArray} {k:Nat} (h:k<s.size) (p:UInt8→Bool):(s.data.toList.take (k+1)).all p=((s.data.toList.take k).all p&&p (s.data.toList[k]'(by simpa using h))):=by
 rw [List.take_succ_eq_append_getElem (by simpa using h),List.all_append]
 simp
theorem digits_any (s:ByteArray) (w:World) (hs:s.size≤1000):Calls Tryz.prog 211 #[.string s] w fun e w'=>e=.returned (.bool (digsL s.data.toList))∧Old w w':=by
 obtain ⟨cap,W1,hc,ho,hj⟩:=conv_cells w s
 have HA:=Lib.hid hj
 have HO:=Lib.hid ho
 clear hj ho
 obtain ⟨n,hn⟩:∃ n,n=s.size:=⟨_,rfl⟩
 rw [←hn] at hc hs
 have HN:=Lib.hid hn
 have hl:(s.data.toList).length=n:=by rw [hn];simp
 have HL:=Lib.hid hl
 clear hl
 go_enter Tryz.func211,Tryz.ntmps211
 have hn':=hn.symm
 clear hn
 go_wp2
 go_loopw [8] (fun i wr=>∃ k:Nat,k≤n∧i=.int .i64 (k:Int)∧Hid ((s.data.toList.take k).all dg8=true)∧wr=W1) (fun i _=>(n-intOf i).toNat)
 case atStart=>exact ⟨0,Nat.zero_le _,rfl,Lib.hid rfl,rfl⟩
 case round=>
  obtain ⟨k,hk,rfl,HE,rfl⟩:=hrel
  by_cases hkn:k<n
  ·have hks:k<s.size:=by rw [←HN.out];exact hkn
   have d0:=HA.out k hks
   have hb0:=list_bt hks
   have hm:=all_more hks dg8
   obtain ⟨u,hu⟩:∃ u,u=s.data.toList[k]'(by simpa using hks):=⟨_,rfl⟩
   rw [←hu] at hb0 hm
   have hmem:u∈s.data.toList:=by rw [hu];exact List.getElem_mem _
   obtain ⟨b,hb⟩:∃ b,b=bt s k:=⟨_,rfl⟩
   rw [←hb] at d0 hb0
   have HX:=Lib.hid hb0
   have HM:=Lib.hid hm
   have HU:=Lib.hid hmem
   have hd:=fun W=>digit_any b W
   clear hb hb0 hm hu hks hmem
   by_cases h:48≤b∧b≤57
   ·rw [decide_eq_true h] at hd
    have HH:=Lib.hid h
    clear h
    go_wp2_with (first
     | (go_at_call 200;(with_reducible refine (hd _).mono ?_);rintro e w1 ⟨rfl,rfl⟩))
    refine ⟨⟨k+1,hkn,rfl,Lib.hid ?_,by trivial⟩,by simp only [intOf];omega⟩
    rw [HM.out,HE.out]
    unfold dg8
    have:=HX.out
    have:=HH.out
    simp
    omega
   ·rw [decide_eq_false h] at hd
    have HH:=Lib.hid h
    clear h
    go_wp2_with (first
     | (go_at_call 200;(with_reducible refine (hd _).mono ?_);rintro e w1 ⟨rfl,rfl⟩))
    go_ret
    refine ⟨rb _ _ ?_,HO.out⟩
    symm
    unfold digsL
    rw [Bool.and_eq_false_iff]
    right
    rw [List.all_eq_false]
    refine ⟨u,HU.out,?_⟩
    have:=HX.out
    have:=HH.out
    unfold dg8
    simp
    omega
  ·have hkn':k=n:=by omega
   subst hkn'
   have hT:s.data.toList.take k=s.data.toList:=List.take_of_length_le (by rw [HL.out];exact Nat.le_refl _)
   have HE':=HE.out
   rw [hT] at HE'
   have HE2:=Lib.hid HE'
   clear hT HE' HE
   by_cases h0:s.toList=[]
   ·have h0':(!s.toList.isEmpty)=false:=by rw [h0];rfl
    have h0'':s.data.toList=[]:=by rw [←ByteArray.toList_eq];exact h0
    have HZ:=Lib.hid h0''
    clear h0''
    go_wp2
    go_ret
    refine ⟨rb _ _ ?_,HO.out⟩
    unfold digsL
    rw [HZ.out]
    rfl
   ·have h0':(!s.toList.isEmpty)=true:=by simpa using h0
    have h0'':¬ s.data.toList=[]:=by rw [←ByteArray.toList_eq];exact h0
    have HZ:=Lib.hid h0''
    clear h0''
    go_wp2
    go_ret
    refine ⟨rb _ _ ?_,HO.out⟩
    unfold digsL
    rw [HE2.out]
    rw [Bool.and_true]
    cases he:s.data.toList with
    | nil=>exact absurd he HZ.out
    | cons x l=>rfl
theorem whole_any (s:ByteArray) (w:World) (hs:s.size≤1000):Calls Tryz.prog 209 #[.string s] w fun e w'=>e=.returned (.bool (wholeL s.data.toList))∧Old w w':=by
 have hd:=fun W=>digits_any s W hs
 cases h:digsL s.data.toList
 ·rw [h] at hd
  have H:=Lib.hid h
  clear h
  go_enter Tryz.func209,Tryz.ntmps209
  go_wp2_with (go_at_call 211;(with_reducible refine (hd _).mono ?_);rintro e w1 ⟨rfl,o1⟩)
  go_ret
  exact ⟨rb _ _ (by unfold wholeL;rw [H.out];rfl),o1⟩
 ·rw [h] at hd
  have hpos:0<s.size:=by
   rcases Nat.eq_zero_or_pos s.size with e|e
   ·have:s.data.toList=[]:=by
     apply List.eq_nil_of_length_eq_zero
     simpa using e
    rw [this] at h
    cases h
   ·exact e
  obtain ⟨c,l,hcl⟩:∃ c l,s.data.toList=c::l:=by
   cases e:s.data.toList with
   | nil=>rw [e] at h;cases h
   | cons c l=>exact ⟨c,l,rfl⟩
  have hi:=list_bt hpos
  have hsz:s.size=l.length+1:=by
   have:s.data.toList.length=s.size:=by simp
   rw [←this,hcl];rfl
  have hx:(s.data.toList[0]'(by rw [hcl];simp))=c:=by simp [hcl]
  have hg:(s[0]'hpos)=c:=by
   have:(s[0]'hpos)=s.data.toList[0]'(by rw [hcl];simp):=by
    rw [Array.getElem_toList];rfl
   rw [this];exact hx
  have HG:=Lib.hid hg
  clear hg
  have H:=Lib.hid h
  have HC:=Lib.hid hcl
  clear h
  by_cases h1:l.length=0
  ·have e1:((s.size:Int)==1)=true:=by rw [hsz,h1];rfl
   clear hi hx hsz hcl
   go_enter Tryz.func209,Tryz.ntmps209
   go_wp2_with (go_at_call 211;(with_reducible refine (hd _).mono ?_);rintro e w1 ⟨rfl,o1⟩)
   go_ret
   refine ⟨rb _ _ ?_,o1⟩
   unfold wholeL
   rw [H.out,HC.out]
   simp [h1]
  ·have e1:((s.size:Int)==1)=false:=by rw [hsz];simp;omega
   clear hx hsz hcl
   go_enter Tryz.func209,Tryz.ntmps209
   go_wp2_with (go_at_call 211;(with_reducible refine (hd _).mono ?_);rintro e w1 ⟨rfl,o1⟩)
   go_ret
   refine ⟨rb _ _ ?_,o1⟩
   rw [HG.out]
   unfold wholeL
   rw [H.out,HC.out]
   have e2:(l.length+1==1)=false:=by
    rw [beq_eq_false_iff_ne];omega
   rw [List.length_cons,e2,Bool.true_and,Bool.false_or,List.head?_cons]
   rw [Bool.eq_iff_iff]
   simp only [bne_iff_ne,ne_eq,Option.some.injEq]
   constructor
   ·intro h e
    exact h (by rw [e];rfl)
   ·intro h e
    have e':(c.toNat:Int)=48:=e
    exact h (UInt8.toNat_inj.1 (by show c.toNat=48;omega))
end Go.Proofs.YtkellpcljiodeaaGreatDoor
namespace Go.Proofs.YtkellpcljiodeaaGreatDoor
open Go.ChangeShapes Go.WideShapes Go.ChangeAt Go.RowKit
set_option linter.unusedVariables false
set_option maxRecDepth 100000
def sl (b:Int):Bool:=decide (97≤b)&&decide (b≤122)
def dg (b:Int):Bool:=decide (48≤b)&&decide (b≤57)
def nb (b:Int):Bool:=sl b||dg b
def nameB (s:ByteArray):Bool:=decide (1≤s.size∧s.size≤12)&&sl (bt s 0)&&fst nb s s.size
theorem sl_any (b:Int) (w:World):Calls Tryz.prog 170 #[.int .u8 b] w fun e w'=>e=.returned (.bool (sl b))∧w=w':=by
 unfold sl
 by_cases h:97≤b
 ·go_enter Tryz.func170,Tryz.ntmps170
  go_wp2
  go_ret
  exact ⟨rb _ _ (by rw [decide_eq_true h];rfl),rfl⟩
 ·go_enter Tryz.func170,Tryz.ntmps170
  go_wp2
  go_ret
  exact ⟨rb _ _ (by rw [decide_eq_false (by omega)];rfl),rfl⟩
theorem dg_any (b:Int) (w:World):Calls Tryz.prog 171 #[.int .u8 b] w fun e w'=>e=.returned (.bool (dg b))∧w=w':=by
 unfold dg
 by_cases h:48≤b
 ·go_enter Tryz.func171,Tryz.ntmps171
  go_wp2
  go_ret
  exact ⟨rb _ _ (by rw [decide_eq_true h];rfl),rfl⟩
 ·go_enter Tryz.func171,Tryz.ntmps171
  go_wp2
  go_ret
  exact ⟨rb _ _ (by rw [decide_eq_false (by omega)];rfl),rfl⟩
theorem bt_get (s:ByteArray) (j:Nat) (h:j<s.size):((s[j]'h).toNat:Int)=bt s j:=by
 unfold bt
 have hj':j<s.data.size:=h
 rw [List.getD_eq_getElem?_getD,Array.getElem?_toList,Array.getElem?_eq_getElem hj']
 rfl
theorem ba_nil {s:ByteArray}:s.toList=[]↔s.size=0:=by
 rw [ByteArray.toList_eq]
 constructor
 ·intro h
  have:s.data.toList.length=0:=by rw [h];rfl
  rw [Array.length_toList] at this
  exact this
 ·intro h
  have:s.data.toList.length=0:=by rw [Array.length_toList];exact h
  exact List.length_eq_zero_iff.1 this
theorem sl_get (s:ByteArray) (B:Bool) (hB:sl (bt s 0)=B) (h:0<s.size) (w:World):Calls Tryz.prog 170 #[.int .u8 ((s[0]'h).toNat:Int)] w fun e w'=>e=.returned (.bool B)∧w=w':=by
 rw [bt_get s 0 h,←hB]
 exact sl_any _ w
theorem name_none (s:ByteArray) (w:World) (h:s.toList=[]):Calls Tryz.prog 152 #[.string s] w fun e w'=>e=.returned (.bool false)∧Old w w':=by
 go_enter Tryz.func152,Tryz.ntmps152
 go_wp2_with fail
 go_ret
 exact ⟨rfl,Old.refl w⟩
theorem name_long (s:ByteArray) (w:World) (h:¬ s.toList=[]) (hl:¬ s.size≤12):Calls Tryz.prog 152 #[.string s] w fun e w'=>e=.returned (.bool false)∧Old w w':=by
 go_enter Tryz.func152,Tryz.ntmps152
 go_wp2_with fail
 all_goals (go_ret;exact ⟨rfl,Old.refl w⟩)
theorem name_first (s:ByteArray) (w:World) (h:¬ s.toList=[]) (hz:0<s.size) (hl:s.size≤12) (hB:sl (bt s 0)=false):Calls Tryz.prog 152 #[.string s] w fun e w'=>e=.returned (.bool false)∧Old w w':=by
 go_enter Tryz.func152,Tryz.ntmps152
 go_wp2_with (first
  | (go_at_call 170;(with_reducible refine (sl_get s false hB _ _).mono ?_);rintro e w1 ⟨rfl,rfl⟩))
 all_goals (go_ret;exact ⟨rfl,Old.refl w⟩)
theorem name_loop (s:ByteArray) (w:World) (cap:Nat) (W1:World) (h:¬ s.toList=[]) (n:Nat) (hn:s.size=n) (hz:0<n) (hs:n≤12) (hB:sl (bt s 0)=true) (hc:(convert 9 147 (.string s)).run Tryz.prog w=.ok (.slice (some ⟨w.heap.size,0,none⟩) n cap) W1) (ho:Old w W1) (hj:∀ j,j<n→W1.cell? ⟨w.heap.size,j,none⟩=some (.int .u8 (bt s j))) :
 Calls Tryz.prog 152 #[.string s] w fun e w'=>e=.returned (.bool (fst nb s n))∧Old w w':=by
 have HA:=Lib.hid hj
 have HO:=Lib.hid ho
 clear hj ho
 have hE:s.toList.isEmpty=false:=by simpa using h
 go_enter Tryz.func152,Tryz.ntmps152
 go_wp2_with (first
  | (go_at_call 170;(with_reducible refine (sl_get s true hB _ _).mono ?_);rintro e w1 ⟨rfl,rfl⟩))
 go_loopw [21] (fun i wr=>∃ k:Nat,k≤n∧i=.int .i64 (k:Int)∧Hid (fst nb s k=true)∧wr=W1) (fun i _=>(n-intOf i).toNat)
 case atStart=>exact ⟨0,Nat.zero_le _,rfl,Lib.hid rfl,rfl⟩
 case round=>
  obtain ⟨k,hk,rfl,HE,rfl⟩:=hrel
  by_cases hkn:k<n
  ·have d0:=HA.out k hkn
   obtain ⟨b,hb⟩:∃ b,b=bt s k:=⟨_,rfl⟩
   rw [←hb] at d0
   have HX:=Lib.hid hb
   clear hb
   cases h1:sl b
   ·cases h2:dg b
    ·have k1:=sl_any b
     have k2:=dg_any b
     rw [h1] at k1
     rw [h2] at k2
     go_wp2_with (first
      | (go_at_call 170;(with_reducible refine (k1 _).mono ?_);rintro e w1 ⟨rfl,rfl⟩)
      | (go_at_call 171;(with_reducible refine (k2 _).mono ?_);rintro e w1 ⟨rfl,rfl⟩))
     have e:fst nb s n=false:=fst_no (by rw [←HX.out];unfold nb;rw [h1,h2];rfl) n hkn
     go_ret
     exact ⟨rb _ _ e.symm,HO.out⟩
    ·have k1:=sl_any b
     have k2:=dg_any b
     rw [h1] at k1
     rw [h2] at k2
     go_wp2_with (first
      | (go_at_call 170;(with_reducible refine (k1 _).mono ?_);rintro e w1 ⟨rfl,rfl⟩)
      | (go_at_call 171;(with_reducible refine (k2 _).mono ?_);rintro e w1 ⟨rfl,rfl⟩))
     refine ⟨⟨k+1,hkn,rfl,Lib.hid ?_,?_⟩,by simp only [intOf];omega⟩
     ·rw [fst,HE.out,←HX.out];unfold nb;rw [h1,h2];rfl
     ·first|rfl|trivial
   ·have k1:=sl_any b
    rw [h1] at k1
    go_wp2_with (first
     | (go_at_call 170;(with_reducible refine (k1 _).mono ?_);rintro e w1 ⟨rfl,rfl⟩))
    refine ⟨⟨k+1,hkn,rfl,Lib.hid ?_,?_⟩,by simp only [intOf];omega⟩
    ·rw [fst,HE.out,←HX.out];unfold nb;rw [h1];rfl
    ·first|rfl|trivial
  ·have hkn':k=n:=by omega
   subst hkn'
   go_wp2
   go_ret
   exact ⟨rb _ _ HE.out.symm,HO.out⟩
theorem name_any (s:ByteArray) (w:World):Calls Tryz.prog 152 #[.string s] w fun e w'=>e=.returned (.bool (nameB s))∧Old w w':=by
 unfold nameB
 by_cases h:s.toList=[]
 ·rw [decide_eq_false (by have:=ba_nil.1 h;omega)]
  exact name_none s w h
 ·have hz:0<s.size:=Nat.pos_of_ne_zero (fun e=>h (ba_nil.2 e))
  by_cases hl:s.size≤12
  ·rw [decide_eq_true ⟨hz,hl⟩]
   cases hB:sl (bt s 0)
   ·exact name_first s w h hz hl hB
   ·obtain ⟨cap,W1,h1,h2,h3⟩:=conv_cells w s
    exact name_loop s w cap W1 h s.size rfl hz hl hB h1 h2 h3
  ·rw [decide_eq_false (by omega)]
   exact name_long s w h hl
def mayB (k n:Int) (s:ByteArray):Bool:=
 if k=0 then n==0&&s.toList.isEmpty
 else if k=1∨k=2 then s.toList.isEmpty
 else if k=3 then n==0&&textB s
 else if k=4 then (n==0||n==1)&&s.toList.isEmpty
 else if k=5 then n==0&&nameB s
 else false
theorem may_any (k n:Int) (s:ByteArray) (w:World):Calls Tryz.prog 116 #[vl k n s] w fun e w'=>e=.returned (.bool (mayB k n s))∧Old w w':=by
 unfold mayB
 by_cases h0:k=0
 ·subst h0
  rw [if_pos rfl]
  by_cases hn:n=0
  ·subst hn
   go_enter Tryz.func116,Tryz.ntmps116
   go_wp2
   go_ret
   exact ⟨rfl,(Old.refl w).alloc _⟩
  ·have e:(n==0)=false:=by simpa using hn
   rw [e]
   go_enter Tryz.func116,Tryz.ntmps116
   go_wp2
   go_ret
   exact ⟨rfl,(Old.refl w).alloc _⟩
 rw [if_neg h0]
 by_cases h1:k=1∨k=2
 ·rw [if_pos h1]
  rcases h1 with rfl|rfl
  ·clear h0
   go_enter Tryz.func116,Tryz.ntmps116
   go_wp2
   go_ret
   exact ⟨rfl,(Old.refl w).alloc _⟩
  ·clear h0
   go_enter Tryz.func116,Tryz.ntmps116
   go_wp2
   go_ret
   exact ⟨rfl,(Old.refl w).alloc _⟩
 rw [if_neg h1]
 by_cases h3:k=3
 ·subst h3
  rw [if_pos rfl]
  clear h0 h1
  by_cases hn:n=0
  ·subst hn
   go_enter Tryz.func116,Tryz.ntmps116
   go_wp2_with (first
    | (go_at_call 151;(with_reducible refine (text_any _ _).mono ?_);rintro e w1 ⟨rfl,ho⟩))
   go_ret
   exact ⟨rfl,((Old.refl w).alloc _).trans ho⟩
  ·have e:(n==0)=false:=by simpa using hn
   rw [e]
   go_enter Tryz.func116,Tryz.ntmps116
   go_wp2
   go_ret
   exact ⟨rfl,(Old.refl w).alloc _⟩
 rw [if_neg h3]
 by_cases h4:k=4
 ·subst h4
  rw [if_pos rfl]
  clear h0 h1 h3
  by_cases hn:n=0
  ·subst hn
   go_enter Tryz.func116,Tryz.ntmps116
   go_wp2
   go_ret
   exact ⟨rfl,(Old.refl w).alloc _⟩
  ·by_cases hn1:n=1
   ·subst hn1
    go_enter Tryz.func116,Tryz.ntmps116
    go_wp2
    go_ret
    exact ⟨rfl,(Old.refl w).alloc _⟩
   ·have e:(n==0)=false:=by simpa using hn
    have e':(n==1)=false:=by simpa using hn1
    rw [e,e']
    go_enter Tryz.func116,Tryz.ntmps116
    go_wp2
    go_ret
    exact ⟨rfl,(Old.refl w).alloc _⟩
 rw [if_neg h4]
 by_cases h5:k=5
 ·subst h5
  rw [if_pos rfl]
  clear h0 h1 h3 h4
  by_cases hn:n=0
  ·subst hn
   go_enter Tryz.func116,Tryz.ntmps116
   go_wp2_with (first
    | (go_at_call 152;(with_reducible refine (name_any _ _).mono ?_);rintro e w1 ⟨rfl,ho⟩))
   go_ret
   exact ⟨rfl,((Old.refl w).alloc _).trans ho⟩
  ·have e:(n==0)=false:=by simpa using hn
   rw [e]
   go_enter Tryz.func116,Tryz.ntmps116
   go_wp2
   go_ret
   exact ⟨rfl,(Old.refl w).alloc _⟩
 rw [if_neg h5]
 have h2:¬ k=2:=fun h=>h1 (Or.inr h)
 have h1':¬ k=1:=fun h=>h1 (Or.inl h)
 clear h1
 go_enter Tryz.func116,Tryz.ntmps116
 go_wp2
 go_ret
 exact ⟨rfl,(Old.refl w).alloc _⟩
end Go.Proofs.YtkellpcljiodeaaGreatDoor
