/- What stays of memory; a value and its box. Values as a law's arguments: how they are opened and read again; the row's last step. The row's last step where nothing turns: true, whatever the arguments' types. Contracts of the library that this seat needs, laid at its program (the shelf's own, in. Plain facts on digits in rows to the base 10000, the lowest one first: their worth, sums. -/
import Derived.Test.YtmkmafkkpigfpaaGreatDoorRows
import Derived.WalkKit
import Derived.ProofKit
import Derived.OpenShut
import Derived.OwnWalk
import Derived.Below
import Derived.Laws.Cover1
import Derived.Lib.Hide
import Derived.BigQuiet
import Derived.Deep.QuietTactic
import Derived.Deep.RegionHeld3
import Derived.ChangeSame
import Derived.Lib.SmallJoins
import Derived.ReadAgain
import Derived.Shelf.Strings.Builder1
import Derived.Shelf.Strings.Builder2
import Derived.Shelf.Small.Utf8
import Derived.Shelf.Small.Bits
import Derived.Shelf.Strings.BuilderF
import Derived.Shelf.Strings.BuilderK
import Derived.Shelf.Strings.BuilderRune
import Derived.Shelf.Strings.Builder2Cap
import Derived.Shelf.Strconv.Itoa0
import Derived.Shelf.Strings.Search1
import Derived.Shelf.Strings.Search2
import Derived.Shelf.Strings.Search3
import Derived.Shelf.LaysM
import Derived.Shelf.Strings.Shaped
import Derived.Shelf.Strings.Prefix
import Derived.Shelf.Unicode.Decode
import Derived.Shelf.Bits.Mul64
import Derived.Shelf.Unicode.DecodeSlow
import Derived.Shelf.Unicode.DecodeAny
import Derived.Shelf.Strings.MapAny
import Derived.Shelf.Strings.BuilderCap
import Derived.Test.YtmkmafkkpigfpaaGreatDoorProg
namespace Go.Proofs.YtmkmafkkpigfpaaGreatDoor
open Go.ChangeShapes Go.WideShapes Go.ChangeAt Go.RowKit Go.Lib
set_option linter.unusedVariables false
set_option maxRecDepth 100000
structure Old (w w':World):Prop where
 os:w'.os=w.os
 output:w'.output=w.output
 size:w.heap.size≤w'.heap.size
 block:∀ k,k<w.heap.size→w'.heap[k]?=w.heap[k]?
theorem Old.refl (w:World):Old w w:=⟨rfl,rfl,Nat.le_refl _,fun _ _=>rfl⟩
theorem Old.trans {a b c:World} (h:Old a b) (k:Old b c):Old a c:=
 ⟨k.os.trans h.os,k.output.trans h.output,Nat.le_trans h.size k.size,fun i hi=>(k.block i (Nat.lt_of_lt_of_le hi h.size)).trans (h.block i hi)⟩
theorem Old.ofBelow {B:Nat} {w w':World} (h:Below B w w') (hB:w.heap.size≤B):Old w w':=⟨h.os,h.output,h.size,fun k hk=>h.block k (by omega)⟩
theorem Old.drew {a w:World} (h:Old a w):Old a w.drew:=⟨h.os,h.output,h.size,h.block⟩
theorem Old.drewN {a w:World} (h:Old a w) (n:Nat):Old a (w.drewN n):=⟨h.os,h.output,h.size,h.block⟩
theorem Old.alloc {a w:World} (h:Old a w) (o:Obj):Old a (w.alloc o):=
 h.trans ⟨rfl,rfl,by simp,fun k hk=>Below.heap_alloc _ _ _ (by omega)⟩
theorem Old.setCell {a w:World} (h:Old a w) {p:Addr} (hp:a.heap.size≤p.block) (u:Value):Old a (w.setCell p u):=
 ⟨h.os,h.output,by have:=h.size;simp [World.setCell];exact this,fun k hk=>(Below.heap_setCell _ _ _ _ (by omega)).trans (h.block k hk)⟩
theorem Old.grown {a w w':World} {row:Option Nat} (h:Old a w) (hg:w.grownBy w' row) (hr:∀ k,row=some k→a.heap.size≤k):Old a w':=
 ⟨hg.os.trans h.os,hg.output.trans h.output,Nat.le_trans h.size hg.size,fun k hk=>(hg.block k (Nat.lt_of_lt_of_le hk h.size) (fun e=>by have:=hr k e.symm;omega)).trans (h.block k hk)⟩
theorem Old.cell {w w':World} (h:Old w w') {p:Addr} (hp:p.block<w.heap.size):w'.cell? p=w.cell? p:=World.cell?_of_block (w:=w) (h.block p.block hp)
theorem Old.frozen {w w':World} (h:Old w w') {p:Addr} (hp:p.block<w.heap.size):w'.frozen? p=w.frozen? p:=World.frozen?_of_block (w:=w) (h.block p.block hp)
theorem Old.frame {W w':World} (h:Old W w') (may:MemPlace→Prop):W.keptBut w' may:=by
 refine ⟨h.os,h.output,fun i hi=>?_⟩
 rw [h.block i hi]
 split<;>simp_all
abbrev vl (k n:Int) (s:ByteArray):Value:=.agg #[.int .u8 k,.int .i64 n,.string s]
abbrev rv (k n er:Int) (s:ByteArray):Ending:=.returned (.tuple #[vl k n s,.int .i64 er])
theorem rb (a b:Bool) (h:a=b):Ending.returned (.bool a)=.returned (.bool b):=by rw [h]
theorem ba_ext {a b:ByteArray} (h:a.toList=b.toList):a=b:=by
 have e:∀ s:ByteArray,s.toList=s.data.toList:=fun s=>ByteArray.toList_eq s
 rw [e,e] at h
 cases a;cases b
 congr 1
 exact Array.toList_inj.1 h
def Three (w:World) (b:Nat) (x y z:Value):Prop:=w.heap[b]?=some (.cells #[x,y,z] 26 (0,0))
theorem Three.c0 {w:World} {b:Nat} {x y z:Value} (h:Three w b x y z):w.cell? ⟨b,0,none⟩=some x:=by unfold Three at h;simp [World.cell?,h]
theorem Three.c1 {w:World} {b:Nat} {x y z:Value} (h:Three w b x y z):w.cell? ⟨b,1,none⟩=some y:=by unfold Three at h;simp [World.cell?,h]
theorem Three.c2 {w:World} {b:Nat} {x y z:Value} (h:Three w b x y z):w.cell? ⟨b,2,none⟩=some z:=by unfold Three at h;simp [World.cell?,h]
theorem Three.f {w:World} {b:Nat} {x y z:Value} (h:Three w b x y z) (o:Nat):w.frozen? ⟨b,o,none⟩=false:=by unfold Three at h;simp [World.frozen?,h]
theorem blk_lt {w:World} {b:Nat} {o:Obj} (h:w.heap[b]?=some o):b<w.heap.size:=by
 rcases Nat.lt_or_ge b w.heap.size with h1|h1
 ·exact h1
 ·rw [Array.getElem?_eq_none h1] at h;cases h
theorem Three.lt {w:World} {b:Nat} {x y z:Value} (h:Three w b x y z):b<w.heap.size:=by
 unfold Three at h
 rcases Nat.lt_or_ge b w.heap.size with h1|h1
 ·exact h1
 ·rw [Array.getElem?_eq_none h1] at h;cases h
theorem Three.alloc {w:World} {b:Nat} {x y z:Value} (h:Three w b x y z) (o:Obj):Three (w.alloc o) b x y z:=(Below.heap_alloc w o b h.lt).trans h
theorem Three.new (w:World) (x y z:Value):Three (w.alloc (.cells #[x,y,z] 26)) w.heap.size x y z:=(MapKept.heap_alloc w _).1
theorem Three.old {w w':World} {b:Nat} {x y z:Value} (h:Three w b x y z) (ho:Old w w'):Three w' b x y z:=(ho.block b h.lt).trans h
theorem Three.drew {w:World} {b:Nat} {x y z:Value} (h:Three w b x y z):Three w.drew b x y z:=h
theorem sz_alloc (w:World) (o:Obj):(w.alloc o).heap.size=w.heap.size+1:=by simp
def I64 (n:Int):Prop:=-9223372036854775808≤n∧n≤9223372036854775807
instance (n:Int):Decidable (I64 n):=inferInstanceAs (Decidable (_∧_))
theorem Three.set0 {w:World} {b:Nat} {x y z:Value} (h:Three w b x y z) (u:Value):Three (w.setCell ⟨b,0,none⟩ u) b u y z:=by
 have hlt:=h.lt
 unfold Three at *
 have h':w.heap[b]=.cells #[x,y,z] 26 (0,0):=by simpa [Array.getElem?_eq_getElem hlt] using h
 show (w.heap.modify b _)[b]?=_
 rw [Array.getElem?_modify,if_pos rfl,h]
 simp
theorem Three.set1 {w:World} {b:Nat} {x y z:Value} (h:Three w b x y z) (u:Value):Three (w.setCell ⟨b,1,none⟩ u) b x u z:=by
 have hlt:=h.lt
 unfold Three at *
 have h':w.heap[b]=.cells #[x,y,z] 26 (0,0):=by simpa [Array.getElem?_eq_getElem hlt] using h
 show (w.heap.modify b _)[b]?=_
 rw [Array.getElem?_modify,if_pos rfl,h]
 simp
theorem Three.set2 {w:World} {b:Nat} {x y z:Value} (h:Three w b x y z) (u:Value):Three (w.setCell ⟨b,2,none⟩ u) b x y u:=by
 have hlt:=h.lt
 unfold Three at *
 have h':w.heap[b]=.cells #[x,y,z] 26 (0,0):=by simpa [Array.getElem?_eq_getElem hlt] using h
 show (w.heap.modify b _)[b]?=_
 rw [Array.getElem?_modify,if_pos rfl,h]
 simp
theorem Three.set {w:World} {b:Nat} {x y z:Value} (h:Three w b x y z) (u0 u1 u2:Value):Three (((w.setCell ⟨b,0,none⟩ u0).setCell ⟨b,1,none⟩ u1).setCell ⟨b,2,none⟩ u2) b u0 u1 u2:=((h.set0 u0).set1 u1).set2 u2
theorem old3 {W w:World} {b:Nat} (ho:Old W w) (hb:W.heap.size≤b) (u0 u1 u2:Value):Old W (((w.setCell ⟨b,0,none⟩ u0).setCell ⟨b,1,none⟩ u1).setCell ⟨b,2,none⟩ u2):=((ho.setCell (p:=⟨b,0,none⟩) hb u0).setCell (p:=⟨b,1,none⟩) hb u1).setCell (p:=⟨b,2,none⟩) hb u2
end Go.Proofs.YtmkmafkkpigfpaaGreatDoor
namespace Go.Proofs.YtmkmafkkpigfpaaGreatDoor
open Go.ChangeShapes Go.WideShapes Go.ChangeAt Go.RowKit Go.Joins
set_option linter.unusedVariables false
set_option maxRecDepth 100000
theorem own:ownKnob Tryz.prog.godebug=none:=by kernel_rfl
theorem post_of_old {H:Type} {enc:TypeId × Value→H} {P:Program} {f:Func} {s:ChangeSpec} {apart fresh handsOn again:Bool} {W W':World} {args:Array Value} {v:Value} {ds gs:List (DataW H)} {before pa pv:List MemPlace}
 (hW:DataW.Whole enc P f.params.toList s.vars apart W args.toList ds gs before)
 (hres:∀ (b:Nat) (sp:Nat→Bool) (hd:Bool),DataW.TrodAll enc P W' b sp hd f.resultTypes.toList (v.resultList f.resultTypes.size) (s.fn H (ds++gs)).results [])
 (hargs:∀ sp:Nat→Bool,(∀ p∈before,sp p.block=true)→DataW.TrodAll enc P W' 0 sp true f.params.toList args.toList (s.fn H (ds++gs)).args pa)
 (hvars:∀ sp:Nat→Bool,(∀ p∈before,sp p.block=true)→DataW.TrodVars enc P W' sp s.vars (s.fn H (ds++gs)).vars pv)
 (hps:before=pa++pv) (ho:Old W W')
 (hok:∀ (j:Nat) (t:TypeId) (r:Value),f.resultTypes[j]?=some t→(v.resultList f.resultTypes.size)[j]?=some r→Value.okWide P W' .any 0 t r) :
 s.post enc P f apart fresh handsOn again W args v W':=by
 have hlt:∀ p∈before,p.block<W.heap.size:=fun p hp=>hW.lt p hp
 have hin:∀ p∈before,(fun b=>decide (b<W.heap.size)) p.block=true:=fun p hp=>decide_eq_true (hlt p hp)
 have hpart:∀ p∈before,p∈pa∨p∈pv:=fun p hp=>List.mem_append.1 (hps▸hp)
 refine ⟨ds,gs,before,[],pa,pv,hW,hres _ _ _,hargs _ hin,hvars _ hin,World.keptBut_mono (fun p hp=>⟨hp,Or.inr (hpart p hp)⟩) (ho.frame (·∈ before)),fun _=>?_⟩
 obtain ⟨_,_,_,_,_,hz,hn⟩:=hW
 refine ⟨hok,_,_,([]++pa)++pv,⟨[]++pa,pv,trodAll_append (hargs _ (fun _ _=>rfl)) (hres _ _ _),hvars _ (fun _ _=>rfl),rfl,fun b off hp=>?_,fun ha=>?_⟩,fun p hp _=>?_⟩
 ·have hb:MemPlace.cell b off∈before:=by rw [hps];simpa using hp
  rw [ho.frozen (hlt _ hb)]
  exact hz b off hb
 ·have:=hn ha
  rw [hps] at this
  simpa using this
 ·rw [hps]
  simpa using hp
theorem Old.sameP {w w':World} (ho:Old w w') {p:MemPlace} (hp:p.block<w.heap.size):w.sameAt w' p:=by
 cases p with
 | cell b off=>exact ho.cell (p:=⟨b,off,none⟩) hp
 | map b=>exact ho.block b hp
section
variable {H:Type} {enc:TypeId × Value→H} {P:Program} {W W':World} {base:Nat} {sp:Nat→Bool} {held:Bool}
theorem trodAll_old (ho:Old W W'):∀ {ts:List TypeId} {vs:List Value} {ds:List (DataW H)} {ps:List MemPlace},DataW.TrodAll enc P W base sp held ts vs ds ps→(∀ p∈ps,p.block<W.heap.size)→DataW.TrodAll enc P W' base sp held ts vs ds ps
 | [],[],[],_,h,_=>h
 | _::_,_::_,_::_,_,⟨p,q,⟨n,h1⟩,h2,e⟩,hs=>
   ⟨p,q,⟨n,DataW.trod_carry n _ _ _ h1 (fun x hx=>ho.sameP (hs x (by rw [e];exact List.mem_append_left _ hx)))⟩,trodAll_old ho h2 (fun x hx=>hs x (by rw [e];exact List.mem_append_right _ hx)),e⟩
theorem post_true {f:Func} {s:ChangeSpec} {apart fresh handsOn again:Bool} {args:Array Value} {ds:List (DataW H)} {before:List MemPlace} {tb:TypeId}
 (K:Kids P (·< P.types.size)) (hz:∀ t e,t<P.types.size→P.underlying t=some (.slice e)→0<P.cellsOf e) (hts:∀ t∈f.params.toList,t<P.types.size)
 (hvs:s.vars=[]) (hW:DataW.Whole enc P f.params.toList s.vars apart W args.toList ds [] before)
 (hs:s.fn H ds={ results:=[.lit (.bool true)],args:=ds }) (hr:f.resultTypes=#[tb]) (htb:P.underlying tb=some .bool) (ho:Old W W') :
 s.post enc P f apart fresh handsOn again W args (.bool true) W':=by
 have hW':=hW
 obtain ⟨p,q,hA,hV,hpq,hfz,hnd⟩:=hW
 have hlt:∀ x∈before,x.block<W.heap.size:=fun x hx=>hW'.lt x hx
 rw [hvs] at hV
 obtain ⟨_,rfl⟩:=trodVars_none hV
 simp only [List.append_nil] at hpq
 subst hpq
 refine post_of_old (pa:=before) (pv:=[]) hW' (fun b sp hd=>?_) (fun sp hsp=>?_) (fun sp _=>?_) (by simp) ho ?_
 ·rw [List.append_nil,hs,hr]
  exact trodAll_cons_mk (shut_bool htb _) trodAll_mk0
 ·rw [List.append_nil,hs]
  exact trodAll_old ho (DataW.TrodAll.respare K hz hts hA (fun x hx=>hsp x hx)) hlt
 ·rw [hvs,List.append_nil,hs]
  exact rfl
 ·exact ok_one hr rfl (okWide_bool_mk htb _)
end
end Go.Proofs.YtmkmafkkpigfpaaGreatDoor
namespace Go.Proofs
def Tryz.lays230_ren : Go.Shelf.Ren := ⟨fun | 230 => 132 | 197 => 154 | 118 => 155 | 165 => 156 | 166 => 157 | 168 => 158 | 270 => 159 | 167 => 160 | 169 => 161 | 260 => 174 | 240 => 175 | 241 => 176 | 242 => 177 | 276 => 188 | 277 => 189 | 278 => 190 | n => n, fun | 107 => 156 | 9 => 9 | 72 => 179 | 0 => 0 | 4 => 4 | 3 => 3 | 21 => 21 | 105 => 180 | 76 => 186 | 5 => 5 | 75 => 185 | 70 => 177 | 20 => 20 | 37 => 87 | 127 => 198 | 119 => 204 | 46 => 195 | 139 => 207 | 138 => 206 | 164 => 208 | 51 => 211 | 80 => 103 | n => n, fun | 3 => 3 | 4 => 4 | n => n⟩
theorem Tryz.lays230 : Go.Proofs.Lays.n230 Tryz.prog Tryz.lays230_ren := {
  mixed := by kernel_rfl
  f118 := Tryz.func155.trans (congrArg some (by kernel_rfl))
  f165 := Tryz.func156.trans (congrArg some (by kernel_rfl))
  f166 := Tryz.func157.trans (congrArg some (by kernel_rfl))
  f167 := Tryz.func160.trans (congrArg some (by kernel_rfl))
  f168 := Tryz.func158.trans (congrArg some (by kernel_rfl))
  f169 := Tryz.func161.trans (congrArg some (by kernel_rfl))
  f197 := Tryz.func154.trans (congrArg some (by kernel_rfl))
  f230 := Tryz.func132.trans (congrArg some (by kernel_rfl))
  f240 := Tryz.func175.trans (congrArg some (by kernel_rfl))
  f241 := Tryz.func176.trans (congrArg some (by kernel_rfl))
  f242 := Tryz.func177.trans (congrArg some (by kernel_rfl))
  f260 := Tryz.func174.trans (congrArg some (by kernel_rfl))
  f270 := Tryz.func159.trans (congrArg some (by kernel_rfl))
  f276 := Tryz.func188.trans (congrArg some (by kernel_rfl))
  f277 := Tryz.func189.trans (congrArg some (by kernel_rfl))
  f278 := Tryz.func190.trans (congrArg some (by kernel_rfl))
  t0 := Tryz.underlying0
  a0 := Tryz.isAgg0
  z0 := Tryz.sizeOf0
  v0 := Tryz.zeroValue0
  t3 := Tryz.underlying3
  a3 := Tryz.isAgg3
  z3 := Tryz.sizeOf3
  v3 := Tryz.zeroValue3
  t4 := Tryz.underlying4
  a4 := Tryz.isAgg4
  z4 := Tryz.sizeOf4
  v4 := Tryz.zeroValue4
  t5 := Tryz.underlying5
  a5 := Tryz.isAgg5
  z5 := Tryz.sizeOf5
  v5 := Tryz.zeroValue5
  t9 := Tryz.underlying9
  a9 := Tryz.isAgg9
  z9 := Tryz.sizeOf9
  v9 := Tryz.zeroValue9
  t20 := Tryz.underlying20
  a20 := Tryz.isAgg20
  z20 := Tryz.sizeOf20
  v20 := Tryz.zeroValue20
  t21 := Tryz.underlying21
  a21 := Tryz.isAgg21
  z21 := Tryz.sizeOf21
  v21 := Tryz.zeroValue21
  t37 := Tryz.underlying87
  a37 := Tryz.isAgg87
  z37 := Tryz.sizeOf87
  v37 := Tryz.zeroValue87
  t46 := Tryz.underlying195
  a46 := Tryz.isAgg195
  z46 := Tryz.sizeOf195
  v46 := Tryz.zeroValue195
  t51 := Tryz.underlying211
  a51 := Tryz.isAgg211
  z51 := Tryz.sizeOf211
  v51 := Tryz.zeroValue211
  t70 := Tryz.underlying177
  a70 := Tryz.isAgg177
  z70 := Tryz.sizeOf177
  v70 := Tryz.zeroValue177
  t72 := Tryz.underlying179
  a72 := Tryz.isAgg179
  z72 := Tryz.sizeOf179
  v72 := Tryz.zeroValue179
  t75 := Tryz.underlying185
  a75 := Tryz.isAgg185
  z75 := Tryz.sizeOf185
  v75 := Tryz.zeroValue185
  t76 := Tryz.underlying186
  a76 := Tryz.isAgg186
  z76 := Tryz.sizeOf186
  v76 := Tryz.zeroValue186
  t105 := Tryz.underlying180
  a105 := Tryz.isAgg180
  z105 := Tryz.sizeOf180
  v105 := Tryz.zeroValue180
  t107 := Tryz.underlying156
  a107 := Tryz.isAgg156
  z107 := Tryz.sizeOf156
  v107 := Tryz.zeroValue156
  t119 := Tryz.underlying204
  a119 := Tryz.isAgg204
  z119 := Tryz.sizeOf204
  t127 := Tryz.underlying198
  a127 := Tryz.isAgg198
  z127 := Tryz.sizeOf198
  v127 := Tryz.zeroValue198
  t138 := Tryz.underlying206
  a138 := Tryz.isAgg206
  z138 := Tryz.sizeOf206
  v138 := Tryz.zeroValue206
  t139 := Tryz.underlying207
  a139 := Tryz.isAgg207
  z139 := Tryz.sizeOf207
  v139 := Tryz.zeroValue207
  t164 := Tryz.underlying208
  a164 := Tryz.isAgg208
  z164 := Tryz.sizeOf208
  v164 := Tryz.zeroValue208
  g3 := by kernel_rfl
  g4 := by kernel_rfl }
theorem Tryz.Builder_Extra_230 : Builder.Extra Tryz.prog Tryz.lays230_ren := {
  sizeBuilder := by kernel_rfl
  liesBuilder := by kernel_rfl
  t5 := Tryz.underlying5
  a5 := Tryz.isAgg5
  z5 := Tryz.sizeOf5
  v5 := Tryz.zeroValue5
  infoByte := by kernel_rfl
  cellsByte := by kernel_rfl
  sizeByte := by kernel_rfl
  neB5 := by decide }
open Go.RowKit Go.Lib in
theorem Tryz.strings_Map_runes (g : Nat) (lb : Array Value) (eg : ∀ args w, (callFunc g args).run Tryz.prog w = .ok (.enter g args) w) (f : Int → Int) (s : ByteArray) (w : World) (hs : s.size < 35184372088832) (hf : MapAtRunes Tryz.prog g lb f w) (hnn : ∀ x : Nat, x ≤ 1114111 → 0 ≤ f x ∧ f x ≤ 2147483647) (hT : Lib.Utf8Tabs 3 4 w) :
    Calls Tryz.prog 132 #[.func (.func g) #[] lb, .string s] w fun e w' => e = .returned (.string ⟨(Lib.mapD f s.data.toList).toArray⟩) ∧ Below w.heap.size w w' := Any.strings_Map_runes Tryz.lays230 Tryz.Builder_Extra_230 g lb eg f s w hs hf hnn hT
def Tryz.lays144_ren : Go.Shelf.Ren := ⟨fun | 144 => 89 | 143 => 134 | 219 => 162 | 217 => 178 | 225 => 179 | 224 => 180 | 267 => 181 | 266 => 191 | 314 => 192 | n => n, fun | 9 => 9 | 4 => 4 | 3 => 3 | 5 => 5 | 46 => 195 | 146 => 212 | 51 => 211 | n => n, fun | 1 => 0 | n => n⟩
theorem Tryz.lays144 : Go.Proofs.Lays.n144 Tryz.prog Tryz.lays144_ren := {
  mixed := by kernel_rfl
  f143 := Tryz.func134.trans (congrArg some (by kernel_rfl))
  f144 := Tryz.func89.trans (congrArg some (by kernel_rfl))
  f217 := Tryz.func178.trans (congrArg some (by kernel_rfl))
  f219 := Tryz.func162.trans (congrArg some (by kernel_rfl))
  f224 := Tryz.func180.trans (congrArg some (by kernel_rfl))
  f225 := Tryz.func179.trans (congrArg some (by kernel_rfl))
  f266 := Tryz.func191.trans (congrArg some (by kernel_rfl))
  f267 := Tryz.func181.trans (congrArg some (by kernel_rfl))
  f314 := Tryz.func192.trans (congrArg some (by kernel_rfl))
  t3 := Tryz.underlying3
  a3 := Tryz.isAgg3
  z3 := Tryz.sizeOf3
  v3 := Tryz.zeroValue3
  t4 := Tryz.underlying4
  a4 := Tryz.isAgg4
  z4 := Tryz.sizeOf4
  v4 := Tryz.zeroValue4
  t5 := Tryz.underlying5
  a5 := Tryz.isAgg5
  z5 := Tryz.sizeOf5
  v5 := Tryz.zeroValue5
  t9 := Tryz.underlying9
  a9 := Tryz.isAgg9
  z9 := Tryz.sizeOf9
  v9 := Tryz.zeroValue9
  t46 := Tryz.underlying195
  a46 := Tryz.isAgg195
  z46 := Tryz.sizeOf195
  v46 := Tryz.zeroValue195
  t51 := Tryz.underlying211
  a51 := Tryz.isAgg211
  z51 := Tryz.sizeOf211
  v51 := Tryz.zeroValue211
  t146 := Tryz.underlying212
  a146 := Tryz.isAgg212
  z146 := Tryz.sizeOf212
  v146 := Tryz.zeroValue212
  g1 := by kernel_rfl }
open Go.RowKit Go.Lib in
theorem Tryz.strings_Contains (s sub : ByteArray) (m : Int) (w : World) (hs : s.size < 4294967281) (hm : w.cell? ⟨0, 0, none⟩ = some (.int .i64 m)) :
    Calls Tryz.prog 89 #[.string s, .string sub] w fun e w' => e = .returned (.bool (Lib.contains s.data.toList sub.data.toList)) ∧ w' = w := Any.strings_Contains Tryz.lays144 s sub m w hs hm
def Tryz.lays99_ren : Go.Shelf.Ren := ⟨fun | 99 => 90 | 206 => 135 | n => n, fun | 9 => 9 | 4 => 4 | 3 => 3 | n => n, fun | n => n⟩
theorem Tryz.lays99 : Go.Proofs.Lays.n99 Tryz.prog Tryz.lays99_ren := {
  mixed := by kernel_rfl
  f99 := Tryz.func90.trans (congrArg some (by kernel_rfl))
  f206 := Tryz.func135.trans (congrArg some (by kernel_rfl))
  t3 := Tryz.underlying3
  a3 := Tryz.isAgg3
  z3 := Tryz.sizeOf3
  v3 := Tryz.zeroValue3
  t4 := Tryz.underlying4
  a4 := Tryz.isAgg4
  z4 := Tryz.sizeOf4
  v4 := Tryz.zeroValue4
  t9 := Tryz.underlying9
  a9 := Tryz.isAgg9
  z9 := Tryz.sizeOf9
  v9 := Tryz.zeroValue9 }
open Go.RowKit Go.Lib in
theorem Tryz.strings_HasPrefix (s p : ByteArray) (w : World) :
    Calls Tryz.prog 90 #[.string s, .string p] w fun e w' => e = .returned (.bool (Lib.hasPrefix s.data.toList p.data.toList)) ∧ w' = w := Any.strings_HasPrefix Tryz.lays99 s p w
end Go.Proofs
namespace Go.Proofs.YtmkmafkkpigfpaaGreatDoor
set_option linter.unusedVariables false
def val:List Int→Int
 | []=>0
 | d::r=>d+10000*val r
def p10:Nat→Int
 | 0=>1
 | k+1=>10000*p10 k
def Dg (l:List Int):Prop:=∀ d∈l,0≤d∧d<10000
theorem p10_pos:∀ k,0<p10 k
 | 0=>by decide
 | k+1=>by have:=p10_pos k;unfold p10;omega
theorem dg_nil:Dg []:=fun d h=>by cases h
theorem dg_snoc {l:List Int} {d:Int} (h:Dg l) (h0:0≤d) (h1:d<10000):Dg (l++[d]):=by
 intro x hx
 rcases List.mem_append.1 hx with hx|hx
 ·exact h x hx
 ·rw [List.mem_singleton.1 hx];exact ⟨h0,h1⟩
theorem dg_cons {d:Int} {l:List Int} (h:Dg (d::l)):(0≤d∧d<10000)∧Dg l:=⟨h d (by simp),fun x hx=>h x (by simp [hx])⟩
theorem dg_getD {l:List Int} (h:Dg l) (k:Nat):0≤l.getD k 0∧l.getD k 0<10000:=by
 rw [List.getD_eq_getElem?_getD]
 rcases Nat.lt_or_ge k l.length with hk|hk
 ·rw [List.getElem?_eq_getElem hk];exact h _ (List.getElem_mem hk)
 ·rw [List.getElem?_eq_none hk];simp
theorem dg_take {l:List Int} (h:Dg l) (k:Nat):Dg (l.take k):=fun d hd=>h d (List.mem_of_mem_take hd)
theorem val_snoc:∀ (l:List Int) (d:Int),val (l++[d])=val l+p10 l.length*d
 | [],d=>by simp [val,p10]
 | x::r,d=>by
   have ih:=val_snoc r d
   simp only [List.cons_append,val,List.length_cons,p10]
   rw [ih,Int.mul_assoc]
   generalize p10 r.length*d=z
   omega
theorem val_bd:∀ (l:List Int),Dg l→0≤val l∧val l<p10 l.length
 | [],_=>by decide
 | x::r,h=>by
   obtain ⟨h1,h2⟩:=dg_cons h
   have ih:=val_bd r h2
   simp only [val,List.length_cons,p10]
   omega
theorem take_snoc (l:List Int) (k:Nat) (hk:k<l.length):l.take (k+1)=l.take k++[l.getD k 0]:=by
 rw [List.take_add_one,List.getElem?_eq_getElem hk,List.getD_eq_getElem?_getD,List.getElem?_eq_getElem hk];rfl
theorem val_take (l:List Int) (k:Nat):val (l.take (k+1))=val (l.take k)+p10 k*l.getD k 0:=by
 rcases Nat.lt_or_ge k l.length with hk|hk
 ·rw [take_snoc l k hk,val_snoc,List.length_take,Nat.min_eq_left (Nat.le_of_lt hk)]
 ·rw [List.take_of_length_le hk,List.take_of_length_le (by omega),List.getD_eq_getElem?_getD,List.getElem?_eq_none hk];simp
def upK (a b:List Int):Nat→List Int × Int
 | 0=>([],0)
 | k+1=>((upK a b k).1++[((upK a b k).2+a.getD k 0+b.getD k 0)%10000],((upK a b k).2+a.getD k 0+b.getD k 0)/10000)
theorem upK_len (a b:List Int):∀ k,(upK a b k).1.length=k
 | 0=>rfl
 | k+1=>by simp [upK,upK_len a b k]
theorem upK_m {a b:List Int} (ha:Dg a) (hb:Dg b):∀ k,0≤(upK a b k).2∧(upK a b k).2≤1
 | 0=>by show (0:Int)≤0∧(0:Int)≤1;omega
 | k+1=>by
   have ih:=upK_m ha hb k
   have h1:=dg_getD ha k
   have h2:=dg_getD hb k
   simp only [upK]
   omega
theorem upK_dg {a b:List Int} (ha:Dg a) (hb:Dg b):∀ k,Dg (upK a b k).1
 | 0=>dg_nil
 | k+1=>by
   have ih:=upK_dg ha hb k
   simp only [upK]
   exact dg_snoc ih (by omega) (by omega)
theorem carry (p v s m x y c d:Int) (h:v+p*m=c) (hs:s=m+x+y) (e:p*s=p*(10000*(s/10000)+s%10000)) (d1:p*(m+x+y)=p*m+p*x+p*y) (d2:p*(10000*(s/10000)+s%10000)=10000*(p*(s/10000))+p*(s%10000)):v+p*(s%10000)+10000*(p*(s/10000))=c+p*x+p*y:=by
 subst hs
 omega
theorem upK_val (a b:List Int):∀ k,val (upK a b k).1+p10 k*(upK a b k).2=val (a.take k)+val (b.take k)
 | 0=>by simp [upK,val]
 | k+1=>by
   have ih:=upK_val a b k
   rw [val_take a k,val_take b k]
   simp only [upK]
   rw [val_snoc,upK_len]
   generalize (upK a b k).2=m at *
   generalize val (upK a b k).1=v at *
   generalize a.getD k 0=x at *
   generalize b.getD k 0=y at *
   have h:=carry (p10 k) v (m+x+y) m x y _ 0 ih rfl (by rw [Int.mul_ediv_add_emod]) (by rw [Int.mul_add,Int.mul_add]) (by rw [Int.mul_add,Int.mul_left_comm])
   show _+10000*p10 k*_=_
   rw [Int.mul_assoc,h]
   omega
def upN (a b:List Int):Nat:=if (upK a b (max a.length b.length)).2=0 then max a.length b.length else max a.length b.length+1
def upL (a b:List Int):List Int:=(upK a b (upN a b)).1
theorem up_le (a b:List Int):upN a b≤max a.length b.length+1:=by unfold upN;split<;>omega
theorem up_ge (a b:List Int):a.length≤upN a b∧b.length≤upN a b:=by unfold upN;split<;>omega
theorem getD_past {l:List Int} {k:Nat} (h:l.length≤k):l.getD k 0=0:=by
 rw [List.getD_eq_getElem?_getD,List.getElem?_eq_none h];rfl
theorem up_done {a b:List Int} (ha:Dg a) (hb:Dg b):(upK a b (upN a b)).2=0:=by
 unfold upN
 split
 ·assumption
 ·have h:=upK_m ha hb (max a.length b.length)
  simp only [upK]
  rw [getD_past (l:=a) (by omega),getD_past (l:=b) (by omega)]
  omega
theorem up_more {a b:List Int} (ha:Dg a) (hb:Dg b) (k:Nat) (hk:k<upN a b):k<a.length∨k<b.length∨0<(upK a b k).2:=by
 by_cases h1:k<a.length
 ·exact Or.inl h1
 ·by_cases h2:k<b.length
  ·exact Or.inr (Or.inl h2)
  ·refine Or.inr (Or.inr ?_)
   unfold upN at hk
   split at hk
   ·omega
   ·rename_i hne
    have e:k=max a.length b.length:=by omega
    have:=upK_m ha hb k
    rw [←e] at hne
    omega
theorem upL_val {a b:List Int} (ha:Dg a) (hb:Dg b):val (upL a b)=val a+val b:=by
 have h:=upK_val a b (upN a b)
 have hg:=up_ge a b
 rw [up_done ha hb,List.take_of_length_le hg.1,List.take_of_length_le hg.2] at h
 unfold upL
 omega
theorem upL_dg {a b:List Int} (ha:Dg a) (hb:Dg b):Dg (upL a b):=upK_dg ha hb _
theorem upL_len (a b:List Int):(upL a b).length≤max a.length b.length+1:=by unfold upL;rw [upK_len];exact up_le a b
def dnK (a b:List Int):Nat→List Int × Int
 | 0=>([],0)
 | k+1=>if a.getD k 0-(dnK a b k).2-b.getD k 0<0 then ((dnK a b k).1++[a.getD k 0-(dnK a b k).2-b.getD k 0+10000],1) else ((dnK a b k).1++[a.getD k 0-(dnK a b k).2-b.getD k 0],0)
theorem dnK_len (a b:List Int):∀ k,(dnK a b k).1.length=k
 | 0=>rfl
 | k+1=>by unfold dnK;split<;>simp [dnK_len a b k]
theorem dnK_m (a b:List Int):∀ k,(dnK a b k).2=0∨(dnK a b k).2=1
 | 0=>Or.inl rfl
 | k+1=>by unfold dnK;split<;>simp
theorem dnK_dg {a b:List Int} (ha:Dg a) (hb:Dg b):∀ k,Dg (dnK a b k).1
 | 0=>dg_nil
 | k+1=>by
   have ih:=dnK_dg ha hb k
   have h1:=dg_getD ha k
   have h2:=dg_getD hb k
   have h3:=dnK_m a b k
   unfold dnK
   split
   ·exact dg_snoc ih (by omega) (by omega)
   ·exact dg_snoc ih (by omega) (by omega)
theorem dnK_val (a b:List Int):∀ k,val (dnK a b k).1-p10 k*(dnK a b k).2=val (a.take k)-val (b.take k)
 | 0=>by simp [dnK,val]
 | k+1=>by
   have ih:=dnK_val a b k
   rw [val_take a k,val_take b k]
   unfold dnK
   generalize he:(dnK a b k).2=m at *
   generalize ho:(dnK a b k).1=o at *
   have hl:o.length=k:=by rw [←ho];exact dnK_len a b k
   generalize a.getD k 0=x at *
   generalize b.getD k 0=y at *
   split
   ·show val (o++[x-m-y+10000])-10000*p10 k*1=_
    rw [val_snoc,hl,Int.mul_add,Int.mul_sub,Int.mul_sub]
    generalize p10 k*m=pm at *
    generalize p10 k*x=px at *
    generalize p10 k*y=py at *
    omega
   ·show val (o++[x-m-y])-10000*p10 k*0=_
    rw [val_snoc,hl,Int.mul_sub,Int.mul_sub]
    generalize p10 k*m=pm at *
    generalize p10 k*x=px at *
    generalize p10 k*y=py at *
    omega
def dnL (a b:List Int):List Int:=(dnK a b a.length).1
theorem dnL_val {a b:List Int} (ha:Dg a) (hb:Dg b) (hl:b.length≤a.length) (h:val b≤val a):val (dnL a b)=val a-val b:=by
 have e:=dnK_val a b a.length
 rw [List.take_of_length_le (Nat.le_refl _),List.take_of_length_le hl] at e
 have hd:=val_bd _ (dnK_dg ha hb a.length)
 rw [dnK_len] at hd
 have hm:=dnK_m a b a.length
 unfold dnL
 rcases hm with hm|hm<;>rw [hm] at e<;>omega
theorem dnL_dg {a b:List Int} (ha:Dg a) (hb:Dg b):Dg (dnL a b):=dnK_dg ha hb _
theorem dnL_len (a b:List Int):(dnL a b).length=a.length:=dnK_len _ _ _
def dig (n:Nat):List Int:=if h:n=0 then [] else ((n%10000:Nat):Int)::dig (n/10000)
termination_by n
decreasing_by exact Nat.div_lt_self (by omega) (by omega)
theorem dig_zero:dig 0=[]:=by rw [dig];rfl
theorem dig_pos {n:Nat} (h:¬ n=0):dig n=((n%10000:Nat):Int)::dig (n/10000):=by rw [dig,dif_neg h]
theorem dig_dg (n:Nat):Dg (dig n):=by
 induction n using Nat.strongRecOn with
 | ind n ih=>
   by_cases h:n=0
   ·subst h;rw [dig_zero];exact dg_nil
   ·rw [dig_pos h]
    intro d hd
    rcases List.mem_cons.1 hd with rfl|hd
    ·omega
    ·exact ih _ (by omega) d hd
theorem dig_val (n:Nat):val (dig n)=n:=by
 induction n using Nat.strongRecOn with
 | ind n ih=>
   by_cases h:n=0
   ·subst h;rw [dig_zero];rfl
   ·rw [dig_pos h]
    simp only [val]
    rw [ih _ (by omega)]
    omega
def Can (l:List Int):Prop:=∀ h:l≠[],l.getLast h≠0
theorem can_cons {d:Int} {l:List Int} (h:Can (d::l)):Can l:=by
 intro hne
 have:=h (by simp)
 rw [List.getLast_cons hne] at this
 exact this
theorem can_val:∀ {l:List Int},Dg l→Can l→l≠[]→0<val l
 | [],_,_,h=>absurd rfl h
 | [d],hd,hc,_=>by
   have:=hc (by simp)
   have h1:=(dg_cons hd).1
   simp only [List.getLast_singleton] at this
   simp only [val];omega
 | d::e::r,hd,hc,_=>by
   have h1:=dg_cons hd
   have:=can_val h1.2 (can_cons hc) (by simp)
   simp only [val] at *
   omega
theorem can_dig:∀ {l:List Int},Dg l→Can l→l=dig (val l).toNat
 | [],_,_=>by rw [show (val []).toNat=0 from rfl,dig_zero]
 | d::r,hd,hc=>by
   have h1:=dg_cons hd
   have hp:=can_val hd hc (by simp)
   have hb:=(val_bd r h1.2).1
   have ih:=can_dig h1.2 (can_cons hc)
   have e1:(val (d::r)).toNat%10000=d.toNat:=by simp only [val] at *;omega
   have e2:(val (d::r)).toNat/10000=(val r).toNat:=by simp only [val] at *;omega
   rw [dig_pos (by omega),e1,e2,←ih]
   congr 1
   omega
theorem can_nil:Can []:=fun h=>absurd rfl h
theorem dig_can (n:Nat):Can (dig n):=by
 induction n using Nat.strongRecOn with
 | ind n ih=>
   by_cases h:n=0
   ·subst h;rw [dig_zero];exact can_nil
   ·rw [dig_pos h]
    intro hne
    by_cases h2:n/10000=0
    ·simp only [h2,dig_zero,List.getLast_singleton];omega
    ·have hn2:dig (n/10000)≠[]:=by rw [dig_pos h2];simp
     rw [List.getLast_cons hn2]
     exact ih _ (by omega) hn2
theorem dig_nil {n:Nat}:dig n=[]↔n=0:=by
 constructor
 ·intro h
  have:=dig_val n
  rw [h] at this
  simp only [val] at this
  omega
 ·rintro rfl;exact dig_zero
theorem val_drop0 (l:List Int) (k:Nat) (hk:k+1≤l.length) (h:l.getD k 0=0):val (l.take (k+1))=val (l.take k):=by
 rw [val_take,h,Int.mul_zero,Int.add_zero]
theorem can_take (l:List Int) (k:Nat) (hk:k+1≤l.length) (h:¬ l.getD k 0=0):Can (l.take (k+1)):=by
 intro hne
 rw [List.getLast_eq_getElem]
 have e:(l.take (k+1))[(l.take (k+1)).length-1]'(by have:=List.length_pos_iff.2 hne;omega)=l.getD k 0:=by
  rw [List.getElem_take,List.getD_eq_getElem?_getD,List.getElem?_eq_getElem (by omega)]
  simp only [List.length_take,Nat.min_eq_left hk,Nat.add_sub_cancel]
  rfl
 rw [e];exact h
theorem trim_dig {l:List Int} (hd:Dg l) {k:Nat} (hk:k≤l.length) (hv:val (l.take k)=val l) (hc:k=0∨¬ l.getD (k-1) 0=0):l.take k=dig (val l).toNat:=by
 rw [←hv]
 refine can_dig (dg_take hd k) ?_
 rcases hc with rfl|hc
 ·rw [List.take_zero];exact can_nil
 ·rcases k with _|k
  ·rw [List.take_zero];exact can_nil
  ·exact can_take l k hk (by simpa using hc)
theorem last_of {l:List Int} (hc:Can l) {k:Nat} (hk:k+1=l.length):¬ l.getD k 0=0:=by
 have hne:l≠[]:=by intro h;rw [h] at hk;simp at hk
 have:=hc hne
 rw [List.getLast_eq_getElem] at this
 rw [List.getD_eq_getElem?_getD,List.getElem?_eq_getElem (by omega)]
 have e:k=l.length-1:=by omega
 subst e
 exact this
theorem can_ge {l:List Int} (hd:Dg l) (hc:Can l) (hl:0<l.length):p10 (l.length-1)≤val l:=by
 obtain ⟨k,hk⟩:∃ k,k+1=l.length:=⟨l.length-1,by omega⟩
 have hlast:=last_of hc hk
 have hg:=dg_getD hd k
 have e:=val_take l k
 rw [hk,List.take_of_length_le (Nat.le_refl _)] at e
 have hb:=(val_bd _ (dg_take hd k)).1
 have hp:p10 k*1≤p10 k*l.getD k 0:=Int.mul_le_mul_of_nonneg_left (by omega) (Int.le_of_lt (p10_pos k))
 rw [show l.length-1=k by omega]
 omega
theorem p10_mono {j k:Nat} (h:j≤k):p10 j≤p10 k:=by
 induction k with
 | zero=>rw [show j=0 by omega];exact Int.le_refl _
 | succ k ih=>
   rcases Nat.lt_or_ge k j with h1|h1
   ·rw [show j=k+1 by omega];exact Int.le_refl _
   ·have:=ih h1
    have:=p10_pos k
    show p10 j≤10000*p10 k
    omega
theorem p10_lt {j k:Nat} (h:p10 j<p10 k):j<k:=by
 rcases Nat.lt_or_ge j k with h1|h1
 ·exact h1
 ·have:=p10_mono h1;omega
theorem dig_len {n k:Nat} (h:(n:Int)<p10 k):(dig n).length≤k:=by
 rcases Nat.eq_zero_or_pos (dig n).length with h0|h0
 ·omega
 ·have h1:=can_ge (dig_dg n) (dig_can n) h0
  rw [dig_val] at h1
  have:=p10_lt (Int.lt_of_le_of_lt h1 h)
  omega
theorem len_lt {a b:List Int} (ha:Dg a) (hb:Dg b) (cb:Can b) (h:a.length<b.length):val a<val b:=by
 have h1:=(val_bd a ha).2
 have h2:=can_ge hb cb (by omega)
 have h3:=p10_mono (show a.length≤b.length-1 by omega)
 omega
theorem val_split (l:List Int):∀ k,val l=val (l.take k)+p10 k*val (l.drop k):=by
 intro k
 induction k with
 | zero=>simp [val,p10]
 | succ k ih=>
   rw [val_take,ih]
   rcases Nat.lt_or_ge k l.length with hk|hk
   ·have e:l.drop k=l.getD k 0::l.drop (k+1):=by
     rw [List.drop_eq_getElem_cons hk,List.getD_eq_getElem?_getD,List.getElem?_eq_getElem hk];rfl
    rw [e]
    simp only [val,p10]
    rw [Int.mul_add,←Int.mul_assoc,Int.mul_comm (p10 k) 10000]
    omega
   ·rw [List.drop_eq_nil_of_le hk,List.drop_eq_nil_of_le (by omega),getD_past hk]
    simp [val]
theorem digit_lt {a b:List Int} (ha:Dg a) (hb:Dg b) {k:Nat} (hk:a.drop (k+1)=b.drop (k+1)) (h:a.getD k 0<b.getD k 0):val a<val b:=by
 rw [val_split a (k+1),val_split b (k+1),hk,val_take,val_take]
 have h1:=val_bd _ (dg_take ha k)
 have h2:=val_bd _ (dg_take hb k)
 have h3:p10 (a.take k).length≤p10 k:=p10_mono (by simp;omega)
 have h4:p10 k*(a.getD k 0+1)≤p10 k*b.getD k 0:=Int.mul_le_mul_of_nonneg_left (by omega) (Int.le_of_lt (p10_pos k))
 rw [Int.mul_add,Int.mul_one] at h4
 omega
end Go.Proofs.YtmkmafkkpigfpaaGreatDoor
