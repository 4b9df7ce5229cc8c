/- The document's reader: infix operators; calls. -/
import Derived.Test.YtmkmafkkpigfpaaGreatDoorJB
set_option maxHeartbeats 1600000
namespace Go.Proofs.YtmkmafkkpigfpaaGreatDoor
open Go.ChangeShapes Go.WideShapes Go.ChangeAt Go.RowKit Go.Lib
set_option linter.unusedVariables false
set_option linter.unusedSimpArgs false
set_option maxRecDepth 100000
structure InW (w V:World):Prop where
 old:Old w V
 b0:V.heap[w.heap.size]?=some (.cells #[Value.string ⟨#[111,114]⟩] 9 (0,0))
 b1:V.heap[w.heap.size+1]?=some (.cells #[Value.string ⟨#[97,110,100]⟩] 9 (0,0))
 b2:V.heap[w.heap.size+1+1]?=some (.cells #[Value.string ⟨#[61]⟩,Value.string ⟨#[60,62]⟩,Value.string ⟨#[60]⟩,Value.string ⟨#[60,61]⟩,Value.string ⟨#[62]⟩,Value.string ⟨#[62,61]⟩] 9 (0,0))
 b3:V.heap[w.heap.size+1+1+1]?=some (.cells #[Value.string ⟨#[43]⟩,Value.string ⟨#[45]⟩] 9 (0,0))
 b4:V.heap[w.heap.size+1+1+1+1]?=some (.cells #[Value.string ⟨#[42]⟩,Value.string ⟨#[47]⟩] 9 (0,0))
 b5:V.heap[w.heap.size+1+1+1+1+1]?=some (.cells #[Value.slice (some ⟨w.heap.size,0,none⟩) 1 1,Value.slice (some ⟨w.heap.size+1,0,none⟩) 1 1,Value.slice none 0 0,Value.slice (some ⟨w.heap.size+1+1,0,none⟩) 6 6,Value.slice (some ⟨w.heap.size+1+1+1,0,none⟩) 2 2,Value.slice (some ⟨w.heap.size+1+1+1+1,0,none⟩) 2 2,Value.slice none 0 0] 142 (0,0))
 b6:V.heap[w.heap.size+1+1+1+1+1+1]?=some (.cells #[Value.int .u8 4,Value.int .u8 5,Value.int .u8 0,Value.int .u8 7,Value.int .u8 13,Value.int .u8 15,Value.int .u8 0] 5 (0,0))
theorem inw (w:World):InW w (((((((w.alloc (.cells #[Value.string ⟨#[111,114]⟩] 9)).alloc (.cells #[Value.string ⟨#[97,110,100]⟩] 9)).alloc (.cells #[Value.string ⟨#[61]⟩,Value.string ⟨#[60,62]⟩,Value.string ⟨#[60]⟩,Value.string ⟨#[60,61]⟩,Value.string ⟨#[62]⟩,Value.string ⟨#[62,61]⟩] 9)).alloc (.cells #[Value.string ⟨#[43]⟩,Value.string ⟨#[45]⟩] 9)).alloc (.cells #[Value.string ⟨#[42]⟩,Value.string ⟨#[47]⟩] 9)).alloc (.cells #[Value.slice (some ⟨w.heap.size,0,none⟩) 1 1,Value.slice (some ⟨w.heap.size+1,0,none⟩) 1 1,Value.slice none 0 0,Value.slice (some ⟨w.heap.size+1+1,0,none⟩) 6 6,Value.slice (some ⟨w.heap.size+1+1+1,0,none⟩) 2 2,Value.slice (some ⟨w.heap.size+1+1+1+1,0,none⟩) 2 2,Value.slice none 0 0] 142)).alloc (.cells #[Value.int .u8 4,Value.int .u8 5,Value.int .u8 0,Value.int .u8 7,Value.int .u8 13,Value.int .u8 15,Value.int .u8 0] 5)):=by
 obtain ⟨v0,h0⟩:∃ v,v=w.alloc (.cells #[Value.string ⟨#[111,114]⟩] 9):=⟨_,rfl⟩
 obtain ⟨v1,h1⟩:∃ v,v=v0.alloc (.cells #[Value.string ⟨#[97,110,100]⟩] 9):=⟨_,rfl⟩
 obtain ⟨v2,h2⟩:∃ v,v=v1.alloc (.cells #[Value.string ⟨#[61]⟩,Value.string ⟨#[60,62]⟩,Value.string ⟨#[60]⟩,Value.string ⟨#[60,61]⟩,Value.string ⟨#[62]⟩,Value.string ⟨#[62,61]⟩] 9):=⟨_,rfl⟩
 obtain ⟨v3,h3⟩:∃ v,v=v2.alloc (.cells #[Value.string ⟨#[43]⟩,Value.string ⟨#[45]⟩] 9):=⟨_,rfl⟩
 obtain ⟨v4,h4⟩:∃ v,v=v3.alloc (.cells #[Value.string ⟨#[42]⟩,Value.string ⟨#[47]⟩] 9):=⟨_,rfl⟩
 obtain ⟨v5,h5⟩:∃ v,v=v4.alloc (.cells #[Value.slice (some ⟨w.heap.size,0,none⟩) 1 1,Value.slice (some ⟨w.heap.size+1,0,none⟩) 1 1,Value.slice none 0 0,Value.slice (some ⟨w.heap.size+1+1,0,none⟩) 6 6,Value.slice (some ⟨w.heap.size+1+1+1,0,none⟩) 2 2,Value.slice (some ⟨w.heap.size+1+1+1+1,0,none⟩) 2 2,Value.slice none 0 0] 142):=⟨_,rfl⟩
 obtain ⟨v6,h6⟩:∃ v,v=v5.alloc (.cells #[Value.int .u8 4,Value.int .u8 5,Value.int .u8 0,Value.int .u8 7,Value.int .u8 13,Value.int .u8 15,Value.int .u8 0] 5):=⟨_,rfl⟩
 rw [←h0,←h1,←h2,←h3,←h4,←h5,←h6]
 have o0:Old w v0:=by rw [h0];exact (Old.refl _).alloc _
 have s0:v0.heap.size=w.heap.size+1:=by rw [h0,sz_alloc]
 have o1:Old v0 v1:=by rw [h1];exact (Old.refl _).alloc _
 have s1:v1.heap.size=w.heap.size+1+1:=by rw [h1,sz_alloc,s0]
 have o2:Old v1 v2:=by rw [h2];exact (Old.refl _).alloc _
 have s2:v2.heap.size=w.heap.size+1+1+1:=by rw [h2,sz_alloc,s1]
 have o3:Old v2 v3:=by rw [h3];exact (Old.refl _).alloc _
 have s3:v3.heap.size=w.heap.size+1+1+1+1:=by rw [h3,sz_alloc,s2]
 have o4:Old v3 v4:=by rw [h4];exact (Old.refl _).alloc _
 have s4:v4.heap.size=w.heap.size+1+1+1+1+1:=by rw [h4,sz_alloc,s3]
 have o5:Old v4 v5:=by rw [h5];exact (Old.refl _).alloc _
 have s5:v5.heap.size=w.heap.size+1+1+1+1+1+1:=by rw [h5,sz_alloc,s4]
 have o6:Old v5 v6:=by rw [h6];exact (Old.refl _).alloc _
 have s6:v6.heap.size=w.heap.size+1+1+1+1+1+1+1:=by rw [h6,sz_alloc,s5]
 have e0:v0.heap[w.heap.size]?=some (.cells #[Value.string ⟨#[111,114]⟩] 9 (0,0)):=by rw [h0];exact (MapKept.heap_alloc w _).1
 have e1:v1.heap[w.heap.size+1]?=some (.cells #[Value.string ⟨#[97,110,100]⟩] 9 (0,0)):=by rw [h1,←s0];exact (MapKept.heap_alloc _ _).1
 have e2:v2.heap[w.heap.size+1+1]?=some (.cells #[Value.string ⟨#[61]⟩,Value.string ⟨#[60,62]⟩,Value.string ⟨#[60]⟩,Value.string ⟨#[60,61]⟩,Value.string ⟨#[62]⟩,Value.string ⟨#[62,61]⟩] 9 (0,0)):=by rw [h2,←s1];exact (MapKept.heap_alloc _ _).1
 have e3:v3.heap[w.heap.size+1+1+1]?=some (.cells #[Value.string ⟨#[43]⟩,Value.string ⟨#[45]⟩] 9 (0,0)):=by rw [h3,←s2];exact (MapKept.heap_alloc _ _).1
 have e4:v4.heap[w.heap.size+1+1+1+1]?=some (.cells #[Value.string ⟨#[42]⟩,Value.string ⟨#[47]⟩] 9 (0,0)):=by rw [h4,←s3];exact (MapKept.heap_alloc _ _).1
 have e5:v5.heap[w.heap.size+1+1+1+1+1]?=some (.cells #[Value.slice (some ⟨w.heap.size,0,none⟩) 1 1,Value.slice (some ⟨w.heap.size+1,0,none⟩) 1 1,Value.slice none 0 0,Value.slice (some ⟨w.heap.size+1+1,0,none⟩) 6 6,Value.slice (some ⟨w.heap.size+1+1+1,0,none⟩) 2 2,Value.slice (some ⟨w.heap.size+1+1+1+1,0,none⟩) 2 2,Value.slice none 0 0] 142 (0,0)):=by rw [h5,←s4];exact (MapKept.heap_alloc _ _).1
 have e6:v6.heap[w.heap.size+1+1+1+1+1+1]?=some (.cells #[Value.int .u8 4,Value.int .u8 5,Value.int .u8 0,Value.int .u8 7,Value.int .u8 13,Value.int .u8 15,Value.int .u8 0] 5 (0,0)):=by rw [h6,←s5];exact (MapKept.heap_alloc _ _).1
 have up:∀ {a c:World} {k:Nat} {ob:Obj},Old a c→a.heap[k]?=some ob→c.heap[k]?=some ob:=fun ho hk=>(ho.block _ (blk_lt hk)).trans hk
 exact ⟨((((((o0.trans o1).trans o2).trans o3).trans o4).trans o5).trans o6),up (((((o1.trans o2).trans o3).trans o4).trans o5).trans o6) e0,up ((((o2.trans o3).trans o4).trans o5).trans o6) e1,up (((o3.trans o4).trans o5).trans o6) e2,up ((o4.trans o5).trans o6) e3,up (o5.trans o6) e4,up o6 e5,e6⟩
theorem cell_of {V:World} {g:Nat} {cs:Array Value} {t:TypeId} {fr:Nat × Nat} (h:V.heap[g]?=some (.cells cs t fr)) (k:Nat):V.cell? ⟨g,k,none⟩=cs[k]?:=by simp [World.cell?,h]
theorem inop_no0 {s:List UInt8} (n0:s≠[111,114]):(if (inOp s).2=0 then (inOp s).1 else 0:Nat)=0:=by
 by_cases h0:s=[111,114]
 ·subst h0;first|rfl|exact absurd rfl (by assumption)
 by_cases h1:s=[97,110,100]
 ·subst h1;first|rfl|exact absurd rfl (by assumption)
 by_cases h2:s=[61]
 ·subst h2;first|rfl|exact absurd rfl (by assumption)
 by_cases h3:s=[60,62]
 ·subst h3;first|rfl|exact absurd rfl (by assumption)
 by_cases h4:s=[60]
 ·subst h4;first|rfl|exact absurd rfl (by assumption)
 by_cases h5:s=[60,61]
 ·subst h5;first|rfl|exact absurd rfl (by assumption)
 by_cases h6:s=[62]
 ·subst h6;first|rfl|exact absurd rfl (by assumption)
 by_cases h7:s=[62,61]
 ·subst h7;first|rfl|exact absurd rfl (by assumption)
 by_cases h8:s=[43]
 ·subst h8;first|rfl|exact absurd rfl (by assumption)
 by_cases h9:s=[45]
 ·subst h9;first|rfl|exact absurd rfl (by assumption)
 by_cases h10:s=[42]
 ·subst h10;first|rfl|exact absurd rfl (by assumption)
 by_cases h11:s=[47]
 ·subst h11;first|rfl|exact absurd rfl (by assumption)
 have hz:inOp s=(0,0):=by
  unfold inOp
  rw [if_neg h0,if_neg h1,if_neg h2,if_neg h3,if_neg h4,if_neg h5,if_neg h6,if_neg h7,if_neg h8,if_neg h9,if_neg h10,if_neg h11]
 rw [hz]
 split<;>rfl
theorem rinfix0 (s:List UInt8) (w:World):Calls Tryz.prog 51 #[.int .i64 0,.string (st s)] w fun e w'=>e=.returned (.int .u8 ((if (inOp s).2=0 then (inOp s).1 else 0:Nat):Int))∧Old w w':=by
 obtain ⟨R,hR⟩:∃ R:Nat,R=if (inOp s).2=0 then (inOp s).1 else 0:=⟨_,rfl⟩
 rw [←hR]
 have HR:=hid hR
 have HI:=hid (inw w)
 clear hR
 go_enter Tryz.func51,Tryz.ntmps51
 go_wp2
 generalize (((((((w.alloc (.cells #[Value.string ⟨#[111,114]⟩] 9)).alloc (.cells #[Value.string ⟨#[97,110,100]⟩] 9)).alloc (.cells #[Value.string ⟨#[61]⟩,Value.string ⟨#[60,62]⟩,Value.string ⟨#[60]⟩,Value.string ⟨#[60,61]⟩,Value.string ⟨#[62]⟩,Value.string ⟨#[62,61]⟩] 9)).alloc (.cells #[Value.string ⟨#[43]⟩,Value.string ⟨#[45]⟩] 9)).alloc (.cells #[Value.string ⟨#[42]⟩,Value.string ⟨#[47]⟩] 9)).alloc (.cells #[Value.slice (some ⟨w.heap.size,0,none⟩) 1 1,Value.slice (some ⟨w.heap.size+1,0,none⟩) 1 1,Value.slice none 0 0,Value.slice (some ⟨w.heap.size+1+1,0,none⟩) 6 6,Value.slice (some ⟨w.heap.size+1+1+1,0,none⟩) 2 2,Value.slice (some ⟨w.heap.size+1+1+1+1,0,none⟩) 2 2,Value.slice none 0 0] 142)).alloc (.cells #[Value.int .u8 4,Value.int .u8 5,Value.int .u8 0,Value.int .u8 7,Value.int .u8 13,Value.int .u8 15,Value.int .u8 0] 5))=V at *
 have a5:V.cell? ⟨w.heap.size+1+1+1+1+1,0,none⟩=some (Value.slice (some ⟨w.heap.size,0,none⟩) 1 1):=cell_of HI.out.b5 0
 have a6:V.cell? ⟨w.heap.size+1+1+1+1+1+1,0,none⟩=some (.int .u8 4):=cell_of HI.out.b6 0
 have c0:V.cell? ⟨w.heap.size,0,none⟩=some (Value.string ⟨#[111,114]⟩):=cell_of HI.out.b0 0
 go_loopw [7] (fun v wr=>∃ k:Nat,v=.int .i64 (k:Int)∧k≤1∧(0<k→s≠[111,114])∧wr=V) (fun v _=>(1-RowKit.intOf v).toNat)
 case atStart=>exact ⟨0,rfl,by omega,fun h=>absurd h (by omega),rfl⟩
 case round=>
  obtain ⟨k,rfl,hk,q0,rfl⟩:=hrel
  rcases (show k=0∨k=1 by omega) with rfl|rfl
  ·by_cases hq:s=[111,114]
   ·subst hq
    have hr:R=4:=by rw [HR.out];rfl
    subst hr
    clear q0
    go_wp2
    go_ret
    exact ⟨rfl,HI.out.old⟩
   ·have e1:((⟨#[111,114]⟩:ByteArray)==st s)=false:=by rw [show (⟨#[111,114]⟩:ByteArray)=st [111,114] from rfl,st_beq];exact beq_false_of_ne (Ne.symm hq)
    have e2:(s==[111,114])=false:=beq_false_of_ne hq
    have e3:([111,114]==s)=false:=beq_false_of_ne (Ne.symm hq)
    have HQ:=hid hq
    have Q0:=hid q0
    clear hq q0
    go_wp2
    exact ⟨⟨1,rfl,by omega,fun _=>HQ.out,by first|rfl|trivial⟩,by simp only [RowKit.intOf];omega⟩
  ·have hr:R=0:=by rw [HR.out];exact inop_no0 (q0 (by omega))
   subst hr
   clear q0
   go_wp2
   go_ret
   exact ⟨rfl,HI.out.old⟩
theorem inop_no1 {s:List UInt8} (n0:s≠[97,110,100]):(if (inOp s).2=1 then (inOp s).1 else 0:Nat)=0:=by
 by_cases h0:s=[111,114]
 ·subst h0;first|rfl|exact absurd rfl (by assumption)
 by_cases h1:s=[97,110,100]
 ·subst h1;first|rfl|exact absurd rfl (by assumption)
 by_cases h2:s=[61]
 ·subst h2;first|rfl|exact absurd rfl (by assumption)
 by_cases h3:s=[60,62]
 ·subst h3;first|rfl|exact absurd rfl (by assumption)
 by_cases h4:s=[60]
 ·subst h4;first|rfl|exact absurd rfl (by assumption)
 by_cases h5:s=[60,61]
 ·subst h5;first|rfl|exact absurd rfl (by assumption)
 by_cases h6:s=[62]
 ·subst h6;first|rfl|exact absurd rfl (by assumption)
 by_cases h7:s=[62,61]
 ·subst h7;first|rfl|exact absurd rfl (by assumption)
 by_cases h8:s=[43]
 ·subst h8;first|rfl|exact absurd rfl (by assumption)
 by_cases h9:s=[45]
 ·subst h9;first|rfl|exact absurd rfl (by assumption)
 by_cases h10:s=[42]
 ·subst h10;first|rfl|exact absurd rfl (by assumption)
 by_cases h11:s=[47]
 ·subst h11;first|rfl|exact absurd rfl (by assumption)
 have hz:inOp s=(0,0):=by
  unfold inOp
  rw [if_neg h0,if_neg h1,if_neg h2,if_neg h3,if_neg h4,if_neg h5,if_neg h6,if_neg h7,if_neg h8,if_neg h9,if_neg h10,if_neg h11]
 rw [hz]
 split<;>rfl
theorem rinfix1 (s:List UInt8) (w:World):Calls Tryz.prog 51 #[.int .i64 1,.string (st s)] w fun e w'=>e=.returned (.int .u8 ((if (inOp s).2=1 then (inOp s).1 else 0:Nat):Int))∧Old w w':=by
 obtain ⟨R,hR⟩:∃ R:Nat,R=if (inOp s).2=1 then (inOp s).1 else 0:=⟨_,rfl⟩
 rw [←hR]
 have HR:=hid hR
 have HI:=hid (inw w)
 clear hR
 go_enter Tryz.func51,Tryz.ntmps51
 go_wp2
 generalize (((((((w.alloc (.cells #[Value.string ⟨#[111,114]⟩] 9)).alloc (.cells #[Value.string ⟨#[97,110,100]⟩] 9)).alloc (.cells #[Value.string ⟨#[61]⟩,Value.string ⟨#[60,62]⟩,Value.string ⟨#[60]⟩,Value.string ⟨#[60,61]⟩,Value.string ⟨#[62]⟩,Value.string ⟨#[62,61]⟩] 9)).alloc (.cells #[Value.string ⟨#[43]⟩,Value.string ⟨#[45]⟩] 9)).alloc (.cells #[Value.string ⟨#[42]⟩,Value.string ⟨#[47]⟩] 9)).alloc (.cells #[Value.slice (some ⟨w.heap.size,0,none⟩) 1 1,Value.slice (some ⟨w.heap.size+1,0,none⟩) 1 1,Value.slice none 0 0,Value.slice (some ⟨w.heap.size+1+1,0,none⟩) 6 6,Value.slice (some ⟨w.heap.size+1+1+1,0,none⟩) 2 2,Value.slice (some ⟨w.heap.size+1+1+1+1,0,none⟩) 2 2,Value.slice none 0 0] 142)).alloc (.cells #[Value.int .u8 4,Value.int .u8 5,Value.int .u8 0,Value.int .u8 7,Value.int .u8 13,Value.int .u8 15,Value.int .u8 0] 5))=V at *
 have a5:V.cell? ⟨w.heap.size+1+1+1+1+1,1,none⟩=some (Value.slice (some ⟨w.heap.size+1,0,none⟩) 1 1):=cell_of HI.out.b5 1
 have a6:V.cell? ⟨w.heap.size+1+1+1+1+1+1,1,none⟩=some (.int .u8 5):=cell_of HI.out.b6 1
 have c0:V.cell? ⟨w.heap.size+1,0,none⟩=some (Value.string ⟨#[97,110,100]⟩):=cell_of HI.out.b1 0
 go_loopw [7] (fun v wr=>∃ k:Nat,v=.int .i64 (k:Int)∧k≤1∧(0<k→s≠[97,110,100])∧wr=V) (fun v _=>(1-RowKit.intOf v).toNat)
 case atStart=>exact ⟨0,rfl,by omega,fun h=>absurd h (by omega),rfl⟩
 case round=>
  obtain ⟨k,rfl,hk,q0,rfl⟩:=hrel
  rcases (show k=0∨k=1 by omega) with rfl|rfl
  ·by_cases hq:s=[97,110,100]
   ·subst hq
    have hr:R=5:=by rw [HR.out];rfl
    subst hr
    clear q0
    go_wp2
    go_ret
    exact ⟨rfl,HI.out.old⟩
   ·have e1:((⟨#[97,110,100]⟩:ByteArray)==st s)=false:=by rw [show (⟨#[97,110,100]⟩:ByteArray)=st [97,110,100] from rfl,st_beq];exact beq_false_of_ne (Ne.symm hq)
    have e2:(s==[97,110,100])=false:=beq_false_of_ne hq
    have e3:([97,110,100]==s)=false:=beq_false_of_ne (Ne.symm hq)
    have HQ:=hid hq
    have Q0:=hid q0
    clear hq q0
    go_wp2
    exact ⟨⟨1,rfl,by omega,fun _=>HQ.out,by first|rfl|trivial⟩,by simp only [RowKit.intOf];omega⟩
  ·have hr:R=0:=by rw [HR.out];exact inop_no1 (q0 (by omega))
   subst hr
   clear q0
   go_wp2
   go_ret
   exact ⟨rfl,HI.out.old⟩
theorem inop_no2 {s:List UInt8}:(if (inOp s).2=2 then (inOp s).1 else 0:Nat)=0:=by
 by_cases h0:s=[111,114]
 ·subst h0;first|rfl|exact absurd rfl (by assumption)
 by_cases h1:s=[97,110,100]
 ·subst h1;first|rfl|exact absurd rfl (by assumption)
 by_cases h2:s=[61]
 ·subst h2;first|rfl|exact absurd rfl (by assumption)
 by_cases h3:s=[60,62]
 ·subst h3;first|rfl|exact absurd rfl (by assumption)
 by_cases h4:s=[60]
 ·subst h4;first|rfl|exact absurd rfl (by assumption)
 by_cases h5:s=[60,61]
 ·subst h5;first|rfl|exact absurd rfl (by assumption)
 by_cases h6:s=[62]
 ·subst h6;first|rfl|exact absurd rfl (by assumption)
 by_cases h7:s=[62,61]
 ·subst h7;first|rfl|exact absurd rfl (by assumption)
 by_cases h8:s=[43]
 ·subst h8;first|rfl|exact absurd rfl (by assumption)
 by_cases h9:s=[45]
 ·subst h9;first|rfl|exact absurd rfl (by assumption)
 by_cases h10:s=[42]
 ·subst h10;first|rfl|exact absurd rfl (by assumption)
 by_cases h11:s=[47]
 ·subst h11;first|rfl|exact absurd rfl (by assumption)
 have hz:inOp s=(0,0):=by
  unfold inOp
  rw [if_neg h0,if_neg h1,if_neg h2,if_neg h3,if_neg h4,if_neg h5,if_neg h6,if_neg h7,if_neg h8,if_neg h9,if_neg h10,if_neg h11]
 rw [hz]
 split<;>rfl
theorem rinfix2 (s:List UInt8) (w:World):Calls Tryz.prog 51 #[.int .i64 2,.string (st s)] w fun e w'=>e=.returned (.int .u8 ((if (inOp s).2=2 then (inOp s).1 else 0:Nat):Int))∧Old w w':=by
 obtain ⟨R,hR⟩:∃ R:Nat,R=if (inOp s).2=2 then (inOp s).1 else 0:=⟨_,rfl⟩
 rw [←hR]
 have HR:=hid hR
 have HI:=hid (inw w)
 clear hR
 go_enter Tryz.func51,Tryz.ntmps51
 go_wp2
 generalize (((((((w.alloc (.cells #[Value.string ⟨#[111,114]⟩] 9)).alloc (.cells #[Value.string ⟨#[97,110,100]⟩] 9)).alloc (.cells #[Value.string ⟨#[61]⟩,Value.string ⟨#[60,62]⟩,Value.string ⟨#[60]⟩,Value.string ⟨#[60,61]⟩,Value.string ⟨#[62]⟩,Value.string ⟨#[62,61]⟩] 9)).alloc (.cells #[Value.string ⟨#[43]⟩,Value.string ⟨#[45]⟩] 9)).alloc (.cells #[Value.string ⟨#[42]⟩,Value.string ⟨#[47]⟩] 9)).alloc (.cells #[Value.slice (some ⟨w.heap.size,0,none⟩) 1 1,Value.slice (some ⟨w.heap.size+1,0,none⟩) 1 1,Value.slice none 0 0,Value.slice (some ⟨w.heap.size+1+1,0,none⟩) 6 6,Value.slice (some ⟨w.heap.size+1+1+1,0,none⟩) 2 2,Value.slice (some ⟨w.heap.size+1+1+1+1,0,none⟩) 2 2,Value.slice none 0 0] 142)).alloc (.cells #[Value.int .u8 4,Value.int .u8 5,Value.int .u8 0,Value.int .u8 7,Value.int .u8 13,Value.int .u8 15,Value.int .u8 0] 5))=V at *
 have a5:V.cell? ⟨w.heap.size+1+1+1+1+1,2,none⟩=some (Value.slice none 0 0):=cell_of HI.out.b5 2
 go_loopw [7] (fun v wr=>∃ k:Nat,v=.int .i64 (k:Int)∧k≤0∧wr=V) (fun v _=>(0-RowKit.intOf v).toNat)
 case atStart=>exact ⟨0,rfl,by omega,rfl⟩
 case round=>
  obtain ⟨k,rfl,hk,rfl⟩:=hrel
  obtain rfl:k=0:=by omega
  have hr:R=0:=by rw [HR.out];exact inop_no2
  subst hr
  skip
  go_wp2
  go_ret
  exact ⟨rfl,HI.out.old⟩
theorem inop_no3 {s:List UInt8} (n0:s≠[61]) (n1:s≠[60,62]) (n2:s≠[60]) (n3:s≠[60,61]) (n4:s≠[62]) (n5:s≠[62,61]):(if (inOp s).2=3 then (inOp s).1 else 0:Nat)=0:=by
 by_cases h0:s=[111,114]
 ·subst h0;first|rfl|exact absurd rfl (by assumption)
 by_cases h1:s=[97,110,100]
 ·subst h1;first|rfl|exact absurd rfl (by assumption)
 by_cases h2:s=[61]
 ·subst h2;first|rfl|exact absurd rfl (by assumption)
 by_cases h3:s=[60,62]
 ·subst h3;first|rfl|exact absurd rfl (by assumption)
 by_cases h4:s=[60]
 ·subst h4;first|rfl|exact absurd rfl (by assumption)
 by_cases h5:s=[60,61]
 ·subst h5;first|rfl|exact absurd rfl (by assumption)
 by_cases h6:s=[62]
 ·subst h6;first|rfl|exact absurd rfl (by assumption)
 by_cases h7:s=[62,61]
 ·subst h7;first|rfl|exact absurd rfl (by assumption)
 by_cases h8:s=[43]
 ·subst h8;first|rfl|exact absurd rfl (by assumption)
 by_cases h9:s=[45]
 ·subst h9;first|rfl|exact absurd rfl (by assumption)
 by_cases h10:s=[42]
 ·subst h10;first|rfl|exact absurd rfl (by assumption)
 by_cases h11:s=[47]
 ·subst h11;first|rfl|exact absurd rfl (by assumption)
 have hz:inOp s=(0,0):=by
  unfold inOp
  rw [if_neg h0,if_neg h1,if_neg h2,if_neg h3,if_neg h4,if_neg h5,if_neg h6,if_neg h7,if_neg h8,if_neg h9,if_neg h10,if_neg h11]
 rw [hz]
 split<;>rfl
theorem rinfix3 (s:List UInt8) (w:World):Calls Tryz.prog 51 #[.int .i64 3,.string (st s)] w fun e w'=>e=.returned (.int .u8 ((if (inOp s).2=3 then (inOp s).1 else 0:Nat):Int))∧Old w w':=by
 obtain ⟨R,hR⟩:∃ R:Nat,R=if (inOp s).2=3 then (inOp s).1 else 0:=⟨_,rfl⟩
 rw [←hR]
 have HR:=hid hR
 have HI:=hid (inw w)
 clear hR
 go_enter Tryz.func51,Tryz.ntmps51
 go_wp2
 generalize (((((((w.alloc (.cells #[Value.string ⟨#[111,114]⟩] 9)).alloc (.cells #[Value.string ⟨#[97,110,100]⟩] 9)).alloc (.cells #[Value.string ⟨#[61]⟩,Value.string ⟨#[60,62]⟩,Value.string ⟨#[60]⟩,Value.string ⟨#[60,61]⟩,Value.string ⟨#[62]⟩,Value.string ⟨#[62,61]⟩] 9)).alloc (.cells #[Value.string ⟨#[43]⟩,Value.string ⟨#[45]⟩] 9)).alloc (.cells #[Value.string ⟨#[42]⟩,Value.string ⟨#[47]⟩] 9)).alloc (.cells #[Value.slice (some ⟨w.heap.size,0,none⟩) 1 1,Value.slice (some ⟨w.heap.size+1,0,none⟩) 1 1,Value.slice none 0 0,Value.slice (some ⟨w.heap.size+1+1,0,none⟩) 6 6,Value.slice (some ⟨w.heap.size+1+1+1,0,none⟩) 2 2,Value.slice (some ⟨w.heap.size+1+1+1+1,0,none⟩) 2 2,Value.slice none 0 0] 142)).alloc (.cells #[Value.int .u8 4,Value.int .u8 5,Value.int .u8 0,Value.int .u8 7,Value.int .u8 13,Value.int .u8 15,Value.int .u8 0] 5))=V at *
 have a5:V.cell? ⟨w.heap.size+1+1+1+1+1,3,none⟩=some (Value.slice (some ⟨w.heap.size+1+1,0,none⟩) 6 6):=cell_of HI.out.b5 3
 have a6:V.cell? ⟨w.heap.size+1+1+1+1+1+1,3,none⟩=some (.int .u8 7):=cell_of HI.out.b6 3
 have c0:V.cell? ⟨w.heap.size+1+1,0,none⟩=some (Value.string ⟨#[61]⟩):=cell_of HI.out.b2 0
 have c1:V.cell? ⟨w.heap.size+1+1,1,none⟩=some (Value.string ⟨#[60,62]⟩):=cell_of HI.out.b2 1
 have c2:V.cell? ⟨w.heap.size+1+1,2,none⟩=some (Value.string ⟨#[60]⟩):=cell_of HI.out.b2 2
 have c3:V.cell? ⟨w.heap.size+1+1,3,none⟩=some (Value.string ⟨#[60,61]⟩):=cell_of HI.out.b2 3
 have c4:V.cell? ⟨w.heap.size+1+1,4,none⟩=some (Value.string ⟨#[62]⟩):=cell_of HI.out.b2 4
 have c5:V.cell? ⟨w.heap.size+1+1,5,none⟩=some (Value.string ⟨#[62,61]⟩):=cell_of HI.out.b2 5
 go_loopw [7] (fun v wr=>∃ k:Nat,v=.int .i64 (k:Int)∧k≤6∧(0<k→s≠[61])∧(1<k→s≠[60,62])∧(2<k→s≠[60])∧(3<k→s≠[60,61])∧(4<k→s≠[62])∧(5<k→s≠[62,61])∧wr=V) (fun v _=>(6-RowKit.intOf v).toNat)
 case atStart=>exact ⟨0,rfl,by omega,fun h=>absurd h (by omega),fun h=>absurd h (by omega),fun h=>absurd h (by omega),fun h=>absurd h (by omega),fun h=>absurd h (by omega),fun h=>absurd h (by omega),rfl⟩
 case round=>
  obtain ⟨k,rfl,hk,q0,q1,q2,q3,q4,q5,rfl⟩:=hrel
  rcases (show k=0∨k=1∨k=2∨k=3∨k=4∨k=5∨k=6 by omega) with rfl|rfl|rfl|rfl|rfl|rfl|rfl
  ·by_cases hq:s=[61]
   ·subst hq
    have hr:R=7:=by rw [HR.out];rfl
    subst hr
    clear q0 q1 q2 q3 q4 q5
    go_wp2
    go_ret
    exact ⟨rfl,HI.out.old⟩
   ·have e1:((⟨#[61]⟩:ByteArray)==st s)=false:=by rw [show (⟨#[61]⟩:ByteArray)=st [61] from rfl,st_beq];exact beq_false_of_ne (Ne.symm hq)
    have e2:(s==[61])=false:=beq_false_of_ne hq
    have e3:([61]==s)=false:=beq_false_of_ne (Ne.symm hq)
    have HQ:=hid hq
    have Q0:=hid q0
    have Q1:=hid q1
    have Q2:=hid q2
    have Q3:=hid q3
    have Q4:=hid q4
    have Q5:=hid q5
    clear hq q0 q1 q2 q3 q4 q5
    go_wp2
    exact ⟨⟨1,rfl,by omega,fun _=>HQ.out,fun h=>absurd h (by omega),fun h=>absurd h (by omega),fun h=>absurd h (by omega),fun h=>absurd h (by omega),fun h=>absurd h (by omega),by first|rfl|trivial⟩,by simp only [RowKit.intOf];omega⟩
  ·by_cases hq:s=[60,62]
   ·subst hq
    have hr:R=8:=by rw [HR.out];rfl
    subst hr
    clear q0 q1 q2 q3 q4 q5
    go_wp2
    go_ret
    exact ⟨rfl,HI.out.old⟩
   ·have e1:((⟨#[60,62]⟩:ByteArray)==st s)=false:=by rw [show (⟨#[60,62]⟩:ByteArray)=st [60,62] from rfl,st_beq];exact beq_false_of_ne (Ne.symm hq)
    have e2:(s==[60,62])=false:=beq_false_of_ne hq
    have e3:([60,62]==s)=false:=beq_false_of_ne (Ne.symm hq)
    have HQ:=hid hq
    have Q0:=hid q0
    have Q1:=hid q1
    have Q2:=hid q2
    have Q3:=hid q3
    have Q4:=hid q4
    have Q5:=hid q5
    clear hq q0 q1 q2 q3 q4 q5
    go_wp2
    exact ⟨⟨2,rfl,by omega,fun _=>Q0.out (by omega),fun _=>HQ.out,fun h=>absurd h (by omega),fun h=>absurd h (by omega),fun h=>absurd h (by omega),fun h=>absurd h (by omega),by first|rfl|trivial⟩,by simp only [RowKit.intOf];omega⟩
  ·by_cases hq:s=[60]
   ·subst hq
    have hr:R=9:=by rw [HR.out];rfl
    subst hr
    clear q0 q1 q2 q3 q4 q5
    go_wp2
    go_ret
    exact ⟨rfl,HI.out.old⟩
   ·have e1:((⟨#[60]⟩:ByteArray)==st s)=false:=by rw [show (⟨#[60]⟩:ByteArray)=st [60] from rfl,st_beq];exact beq_false_of_ne (Ne.symm hq)
    have e2:(s==[60])=false:=beq_false_of_ne hq
    have e3:([60]==s)=false:=beq_false_of_ne (Ne.symm hq)
    have HQ:=hid hq
    have Q0:=hid q0
    have Q1:=hid q1
    have Q2:=hid q2
    have Q3:=hid q3
    have Q4:=hid q4
    have Q5:=hid q5
    clear hq q0 q1 q2 q3 q4 q5
    go_wp2
    exact ⟨⟨3,rfl,by omega,fun _=>Q0.out (by omega),fun _=>Q1.out (by omega),fun _=>HQ.out,fun h=>absurd h (by omega),fun h=>absurd h (by omega),fun h=>absurd h (by omega),by first|rfl|trivial⟩,by simp only [RowKit.intOf];omega⟩
  ·by_cases hq:s=[60,61]
   ·subst hq
    have hr:R=10:=by rw [HR.out];rfl
    subst hr
    clear q0 q1 q2 q3 q4 q5
    go_wp2
    go_ret
    exact ⟨rfl,HI.out.old⟩
   ·have e1:((⟨#[60,61]⟩:ByteArray)==st s)=false:=by rw [show (⟨#[60,61]⟩:ByteArray)=st [60,61] from rfl,st_beq];exact beq_false_of_ne (Ne.symm hq)
    have e2:(s==[60,61])=false:=beq_false_of_ne hq
    have e3:([60,61]==s)=false:=beq_false_of_ne (Ne.symm hq)
    have HQ:=hid hq
    have Q0:=hid q0
    have Q1:=hid q1
    have Q2:=hid q2
    have Q3:=hid q3
    have Q4:=hid q4
    have Q5:=hid q5
    clear hq q0 q1 q2 q3 q4 q5
    go_wp2
    exact ⟨⟨4,rfl,by omega,fun _=>Q0.out (by omega),fun _=>Q1.out (by omega),fun _=>Q2.out (by omega),fun _=>HQ.out,fun h=>absurd h (by omega),fun h=>absurd h (by omega),by first|rfl|trivial⟩,by simp only [RowKit.intOf];omega⟩
  ·by_cases hq:s=[62]
   ·subst hq
    have hr:R=11:=by rw [HR.out];rfl
    subst hr
    clear q0 q1 q2 q3 q4 q5
    go_wp2
    go_ret
    exact ⟨rfl,HI.out.old⟩
   ·have e1:((⟨#[62]⟩:ByteArray)==st s)=false:=by rw [show (⟨#[62]⟩:ByteArray)=st [62] from rfl,st_beq];exact beq_false_of_ne (Ne.symm hq)
    have e2:(s==[62])=false:=beq_false_of_ne hq
    have e3:([62]==s)=false:=beq_false_of_ne (Ne.symm hq)
    have HQ:=hid hq
    have Q0:=hid q0
    have Q1:=hid q1
    have Q2:=hid q2
    have Q3:=hid q3
    have Q4:=hid q4
    have Q5:=hid q5
    clear hq q0 q1 q2 q3 q4 q5
    go_wp2
    exact ⟨⟨5,rfl,by omega,fun _=>Q0.out (by omega),fun _=>Q1.out (by omega),fun _=>Q2.out (by omega),fun _=>Q3.out (by omega),fun _=>HQ.out,fun h=>absurd h (by omega),by first|rfl|trivial⟩,by simp only [RowKit.intOf];omega⟩
  ·by_cases hq:s=[62,61]
   ·subst hq
    have hr:R=12:=by rw [HR.out];rfl
    subst hr
    clear q0 q1 q2 q3 q4 q5
    go_wp2
    go_ret
    exact ⟨rfl,HI.out.old⟩
   ·have e1:((⟨#[62,61]⟩:ByteArray)==st s)=false:=by rw [show (⟨#[62,61]⟩:ByteArray)=st [62,61] from rfl,st_beq];exact beq_false_of_ne (Ne.symm hq)
    have e2:(s==[62,61])=false:=beq_false_of_ne hq
    have e3:([62,61]==s)=false:=beq_false_of_ne (Ne.symm hq)
    have HQ:=hid hq
    have Q0:=hid q0
    have Q1:=hid q1
    have Q2:=hid q2
    have Q3:=hid q3
    have Q4:=hid q4
    have Q5:=hid q5
    clear hq q0 q1 q2 q3 q4 q5
    go_wp2
    exact ⟨⟨6,rfl,by omega,fun _=>Q0.out (by omega),fun _=>Q1.out (by omega),fun _=>Q2.out (by omega),fun _=>Q3.out (by omega),fun _=>Q4.out (by omega),fun _=>HQ.out,by first|rfl|trivial⟩,by simp only [RowKit.intOf];omega⟩
  ·have hr:R=0:=by rw [HR.out];exact inop_no3 (q0 (by omega)) (q1 (by omega)) (q2 (by omega)) (q3 (by omega)) (q4 (by omega)) (q5 (by omega))
   subst hr
   clear q0 q1 q2 q3 q4 q5
   go_wp2
   go_ret
   exact ⟨rfl,HI.out.old⟩
theorem inop_no4 {s:List UInt8} (n0:s≠[43]) (n1:s≠[45]):(if (inOp s).2=4 then (inOp s).1 else 0:Nat)=0:=by
 by_cases h0:s=[111,114]
 ·subst h0;first|rfl|exact absurd rfl (by assumption)
 by_cases h1:s=[97,110,100]
 ·subst h1;first|rfl|exact absurd rfl (by assumption)
 by_cases h2:s=[61]
 ·subst h2;first|rfl|exact absurd rfl (by assumption)
 by_cases h3:s=[60,62]
 ·subst h3;first|rfl|exact absurd rfl (by assumption)
 by_cases h4:s=[60]
 ·subst h4;first|rfl|exact absurd rfl (by assumption)
 by_cases h5:s=[60,61]
 ·subst h5;first|rfl|exact absurd rfl (by assumption)
 by_cases h6:s=[62]
 ·subst h6;first|rfl|exact absurd rfl (by assumption)
 by_cases h7:s=[62,61]
 ·subst h7;first|rfl|exact absurd rfl (by assumption)
 by_cases h8:s=[43]
 ·subst h8;first|rfl|exact absurd rfl (by assumption)
 by_cases h9:s=[45]
 ·subst h9;first|rfl|exact absurd rfl (by assumption)
 by_cases h10:s=[42]
 ·subst h10;first|rfl|exact absurd rfl (by assumption)
 by_cases h11:s=[47]
 ·subst h11;first|rfl|exact absurd rfl (by assumption)
 have hz:inOp s=(0,0):=by
  unfold inOp
  rw [if_neg h0,if_neg h1,if_neg h2,if_neg h3,if_neg h4,if_neg h5,if_neg h6,if_neg h7,if_neg h8,if_neg h9,if_neg h10,if_neg h11]
 rw [hz]
 split<;>rfl
theorem rinfix4 (s:List UInt8) (w:World):Calls Tryz.prog 51 #[.int .i64 4,.string (st s)] w fun e w'=>e=.returned (.int .u8 ((if (inOp s).2=4 then (inOp s).1 else 0:Nat):Int))∧Old w w':=by
 obtain ⟨R,hR⟩:∃ R:Nat,R=if (inOp s).2=4 then (inOp s).1 else 0:=⟨_,rfl⟩
 rw [←hR]
 have HR:=hid hR
 have HI:=hid (inw w)
 clear hR
 go_enter Tryz.func51,Tryz.ntmps51
 go_wp2
 generalize (((((((w.alloc (.cells #[Value.string ⟨#[111,114]⟩] 9)).alloc (.cells #[Value.string ⟨#[97,110,100]⟩] 9)).alloc (.cells #[Value.string ⟨#[61]⟩,Value.string ⟨#[60,62]⟩,Value.string ⟨#[60]⟩,Value.string ⟨#[60,61]⟩,Value.string ⟨#[62]⟩,Value.string ⟨#[62,61]⟩] 9)).alloc (.cells #[Value.string ⟨#[43]⟩,Value.string ⟨#[45]⟩] 9)).alloc (.cells #[Value.string ⟨#[42]⟩,Value.string ⟨#[47]⟩] 9)).alloc (.cells #[Value.slice (some ⟨w.heap.size,0,none⟩) 1 1,Value.slice (some ⟨w.heap.size+1,0,none⟩) 1 1,Value.slice none 0 0,Value.slice (some ⟨w.heap.size+1+1,0,none⟩) 6 6,Value.slice (some ⟨w.heap.size+1+1+1,0,none⟩) 2 2,Value.slice (some ⟨w.heap.size+1+1+1+1,0,none⟩) 2 2,Value.slice none 0 0] 142)).alloc (.cells #[Value.int .u8 4,Value.int .u8 5,Value.int .u8 0,Value.int .u8 7,Value.int .u8 13,Value.int .u8 15,Value.int .u8 0] 5))=V at *
 have a5:V.cell? ⟨w.heap.size+1+1+1+1+1,4,none⟩=some (Value.slice (some ⟨w.heap.size+1+1+1,0,none⟩) 2 2):=cell_of HI.out.b5 4
 have a6:V.cell? ⟨w.heap.size+1+1+1+1+1+1,4,none⟩=some (.int .u8 13):=cell_of HI.out.b6 4
 have c0:V.cell? ⟨w.heap.size+1+1+1,0,none⟩=some (Value.string ⟨#[43]⟩):=cell_of HI.out.b3 0
 have c1:V.cell? ⟨w.heap.size+1+1+1,1,none⟩=some (Value.string ⟨#[45]⟩):=cell_of HI.out.b3 1
 go_loopw [7] (fun v wr=>∃ k:Nat,v=.int .i64 (k:Int)∧k≤2∧(0<k→s≠[43])∧(1<k→s≠[45])∧wr=V) (fun v _=>(2-RowKit.intOf v).toNat)
 case atStart=>exact ⟨0,rfl,by omega,fun h=>absurd h (by omega),fun h=>absurd h (by omega),rfl⟩
 case round=>
  obtain ⟨k,rfl,hk,q0,q1,rfl⟩:=hrel
  rcases (show k=0∨k=1∨k=2 by omega) with rfl|rfl|rfl
  ·by_cases hq:s=[43]
   ·subst hq
    have hr:R=13:=by rw [HR.out];rfl
    subst hr
    clear q0 q1
    go_wp2
    go_ret
    exact ⟨rfl,HI.out.old⟩
   ·have e1:((⟨#[43]⟩:ByteArray)==st s)=false:=by rw [show (⟨#[43]⟩:ByteArray)=st [43] from rfl,st_beq];exact beq_false_of_ne (Ne.symm hq)
    have e2:(s==[43])=false:=beq_false_of_ne hq
    have e3:([43]==s)=false:=beq_false_of_ne (Ne.symm hq)
    have HQ:=hid hq
    have Q0:=hid q0
    have Q1:=hid q1
    clear hq q0 q1
    go_wp2
    exact ⟨⟨1,rfl,by omega,fun _=>HQ.out,fun h=>absurd h (by omega),by first|rfl|trivial⟩,by simp only [RowKit.intOf];omega⟩
  ·by_cases hq:s=[45]
   ·subst hq
    have hr:R=14:=by rw [HR.out];rfl
    subst hr
    clear q0 q1
    go_wp2
    go_ret
    exact ⟨rfl,HI.out.old⟩
   ·have e1:((⟨#[45]⟩:ByteArray)==st s)=false:=by rw [show (⟨#[45]⟩:ByteArray)=st [45] from rfl,st_beq];exact beq_false_of_ne (Ne.symm hq)
    have e2:(s==[45])=false:=beq_false_of_ne hq
    have e3:([45]==s)=false:=beq_false_of_ne (Ne.symm hq)
    have HQ:=hid hq
    have Q0:=hid q0
    have Q1:=hid q1
    clear hq q0 q1
    go_wp2
    exact ⟨⟨2,rfl,by omega,fun _=>Q0.out (by omega),fun _=>HQ.out,by first|rfl|trivial⟩,by simp only [RowKit.intOf];omega⟩
  ·have hr:R=0:=by rw [HR.out];exact inop_no4 (q0 (by omega)) (q1 (by omega))
   subst hr
   clear q0 q1
   go_wp2
   go_ret
   exact ⟨rfl,HI.out.old⟩
theorem inop_no5 {s:List UInt8} (n0:s≠[42]) (n1:s≠[47]):(if (inOp s).2=5 then (inOp s).1 else 0:Nat)=0:=by
 by_cases h0:s=[111,114]
 ·subst h0;first|rfl|exact absurd rfl (by assumption)
 by_cases h1:s=[97,110,100]
 ·subst h1;first|rfl|exact absurd rfl (by assumption)
 by_cases h2:s=[61]
 ·subst h2;first|rfl|exact absurd rfl (by assumption)
 by_cases h3:s=[60,62]
 ·subst h3;first|rfl|exact absurd rfl (by assumption)
 by_cases h4:s=[60]
 ·subst h4;first|rfl|exact absurd rfl (by assumption)
 by_cases h5:s=[60,61]
 ·subst h5;first|rfl|exact absurd rfl (by assumption)
 by_cases h6:s=[62]
 ·subst h6;first|rfl|exact absurd rfl (by assumption)
 by_cases h7:s=[62,61]
 ·subst h7;first|rfl|exact absurd rfl (by assumption)
 by_cases h8:s=[43]
 ·subst h8;first|rfl|exact absurd rfl (by assumption)
 by_cases h9:s=[45]
 ·subst h9;first|rfl|exact absurd rfl (by assumption)
 by_cases h10:s=[42]
 ·subst h10;first|rfl|exact absurd rfl (by assumption)
 by_cases h11:s=[47]
 ·subst h11;first|rfl|exact absurd rfl (by assumption)
 have hz:inOp s=(0,0):=by
  unfold inOp
  rw [if_neg h0,if_neg h1,if_neg h2,if_neg h3,if_neg h4,if_neg h5,if_neg h6,if_neg h7,if_neg h8,if_neg h9,if_neg h10,if_neg h11]
 rw [hz]
 split<;>rfl
theorem rinfix5 (s:List UInt8) (w:World):Calls Tryz.prog 51 #[.int .i64 5,.string (st s)] w fun e w'=>e=.returned (.int .u8 ((if (inOp s).2=5 then (inOp s).1 else 0:Nat):Int))∧Old w w':=by
 obtain ⟨R,hR⟩:∃ R:Nat,R=if (inOp s).2=5 then (inOp s).1 else 0:=⟨_,rfl⟩
 rw [←hR]
 have HR:=hid hR
 have HI:=hid (inw w)
 clear hR
 go_enter Tryz.func51,Tryz.ntmps51
 go_wp2
 generalize (((((((w.alloc (.cells #[Value.string ⟨#[111,114]⟩] 9)).alloc (.cells #[Value.string ⟨#[97,110,100]⟩] 9)).alloc (.cells #[Value.string ⟨#[61]⟩,Value.string ⟨#[60,62]⟩,Value.string ⟨#[60]⟩,Value.string ⟨#[60,61]⟩,Value.string ⟨#[62]⟩,Value.string ⟨#[62,61]⟩] 9)).alloc (.cells #[Value.string ⟨#[43]⟩,Value.string ⟨#[45]⟩] 9)).alloc (.cells #[Value.string ⟨#[42]⟩,Value.string ⟨#[47]⟩] 9)).alloc (.cells #[Value.slice (some ⟨w.heap.size,0,none⟩) 1 1,Value.slice (some ⟨w.heap.size+1,0,none⟩) 1 1,Value.slice none 0 0,Value.slice (some ⟨w.heap.size+1+1,0,none⟩) 6 6,Value.slice (some ⟨w.heap.size+1+1+1,0,none⟩) 2 2,Value.slice (some ⟨w.heap.size+1+1+1+1,0,none⟩) 2 2,Value.slice none 0 0] 142)).alloc (.cells #[Value.int .u8 4,Value.int .u8 5,Value.int .u8 0,Value.int .u8 7,Value.int .u8 13,Value.int .u8 15,Value.int .u8 0] 5))=V at *
 have a5:V.cell? ⟨w.heap.size+1+1+1+1+1,5,none⟩=some (Value.slice (some ⟨w.heap.size+1+1+1+1,0,none⟩) 2 2):=cell_of HI.out.b5 5
 have a6:V.cell? ⟨w.heap.size+1+1+1+1+1+1,5,none⟩=some (.int .u8 15):=cell_of HI.out.b6 5
 have c0:V.cell? ⟨w.heap.size+1+1+1+1,0,none⟩=some (Value.string ⟨#[42]⟩):=cell_of HI.out.b4 0
 have c1:V.cell? ⟨w.heap.size+1+1+1+1,1,none⟩=some (Value.string ⟨#[47]⟩):=cell_of HI.out.b4 1
 go_loopw [7] (fun v wr=>∃ k:Nat,v=.int .i64 (k:Int)∧k≤2∧(0<k→s≠[42])∧(1<k→s≠[47])∧wr=V) (fun v _=>(2-RowKit.intOf v).toNat)
 case atStart=>exact ⟨0,rfl,by omega,fun h=>absurd h (by omega),fun h=>absurd h (by omega),rfl⟩
 case round=>
  obtain ⟨k,rfl,hk,q0,q1,rfl⟩:=hrel
  rcases (show k=0∨k=1∨k=2 by omega) with rfl|rfl|rfl
  ·by_cases hq:s=[42]
   ·subst hq
    have hr:R=15:=by rw [HR.out];rfl
    subst hr
    clear q0 q1
    go_wp2
    go_ret
    exact ⟨rfl,HI.out.old⟩
   ·have e1:((⟨#[42]⟩:ByteArray)==st s)=false:=by rw [show (⟨#[42]⟩:ByteArray)=st [42] from rfl,st_beq];exact beq_false_of_ne (Ne.symm hq)
    have e2:(s==[42])=false:=beq_false_of_ne hq
    have e3:([42]==s)=false:=beq_false_of_ne (Ne.symm hq)
    have HQ:=hid hq
    have Q0:=hid q0
    have Q1:=hid q1
    clear hq q0 q1
    go_wp2
    exact ⟨⟨1,rfl,by omega,fun _=>HQ.out,fun h=>absurd h (by omega),by first|rfl|trivial⟩,by simp only [RowKit.intOf];omega⟩
  ·by_cases hq:s=[47]
   ·subst hq
    have hr:R=16:=by rw [HR.out];rfl
    subst hr
    clear q0 q1
    go_wp2
    go_ret
    exact ⟨rfl,HI.out.old⟩
   ·have e1:((⟨#[47]⟩:ByteArray)==st s)=false:=by rw [show (⟨#[47]⟩:ByteArray)=st [47] from rfl,st_beq];exact beq_false_of_ne (Ne.symm hq)
    have e2:(s==[47])=false:=beq_false_of_ne hq
    have e3:([47]==s)=false:=beq_false_of_ne (Ne.symm hq)
    have HQ:=hid hq
    have Q0:=hid q0
    have Q1:=hid q1
    clear hq q0 q1
    go_wp2
    exact ⟨⟨2,rfl,by omega,fun _=>Q0.out (by omega),fun _=>HQ.out,by first|rfl|trivial⟩,by simp only [RowKit.intOf];omega⟩
  ·have hr:R=0:=by rw [HR.out];exact inop_no5 (q0 (by omega)) (q1 (by omega))
   subst hr
   clear q0 q1
   go_wp2
   go_ret
   exact ⟨rfl,HI.out.old⟩
theorem inop_no6 {s:List UInt8}:(if (inOp s).2=6 then (inOp s).1 else 0:Nat)=0:=by
 by_cases h0:s=[111,114]
 ·subst h0;first|rfl|exact absurd rfl (by assumption)
 by_cases h1:s=[97,110,100]
 ·subst h1;first|rfl|exact absurd rfl (by assumption)
 by_cases h2:s=[61]
 ·subst h2;first|rfl|exact absurd rfl (by assumption)
 by_cases h3:s=[60,62]
 ·subst h3;first|rfl|exact absurd rfl (by assumption)
 by_cases h4:s=[60]
 ·subst h4;first|rfl|exact absurd rfl (by assumption)
 by_cases h5:s=[60,61]
 ·subst h5;first|rfl|exact absurd rfl (by assumption)
 by_cases h6:s=[62]
 ·subst h6;first|rfl|exact absurd rfl (by assumption)
 by_cases h7:s=[62,61]
 ·subst h7;first|rfl|exact absurd rfl (by assumption)
 by_cases h8:s=[43]
 ·subst h8;first|rfl|exact absurd rfl (by assumption)
 by_cases h9:s=[45]
 ·subst h9;first|rfl|exact absurd rfl (by assumption)
 by_cases h10:s=[42]
 ·subst h10;first|rfl|exact absurd rfl (by assumption)
 by_cases h11:s=[47]
 ·subst h11;first|rfl|exact absurd rfl (by assumption)
 have hz:inOp s=(0,0):=by
  unfold inOp
  rw [if_neg h0,if_neg h1,if_neg h2,if_neg h3,if_neg h4,if_neg h5,if_neg h6,if_neg h7,if_neg h8,if_neg h9,if_neg h10,if_neg h11]
 rw [hz]
 split<;>rfl
theorem rinfix6 (s:List UInt8) (w:World):Calls Tryz.prog 51 #[.int .i64 6,.string (st s)] w fun e w'=>e=.returned (.int .u8 ((if (inOp s).2=6 then (inOp s).1 else 0:Nat):Int))∧Old w w':=by
 obtain ⟨R,hR⟩:∃ R:Nat,R=if (inOp s).2=6 then (inOp s).1 else 0:=⟨_,rfl⟩
 rw [←hR]
 have HR:=hid hR
 have HI:=hid (inw w)
 clear hR
 go_enter Tryz.func51,Tryz.ntmps51
 go_wp2
 generalize (((((((w.alloc (.cells #[Value.string ⟨#[111,114]⟩] 9)).alloc (.cells #[Value.string ⟨#[97,110,100]⟩] 9)).alloc (.cells #[Value.string ⟨#[61]⟩,Value.string ⟨#[60,62]⟩,Value.string ⟨#[60]⟩,Value.string ⟨#[60,61]⟩,Value.string ⟨#[62]⟩,Value.string ⟨#[62,61]⟩] 9)).alloc (.cells #[Value.string ⟨#[43]⟩,Value.string ⟨#[45]⟩] 9)).alloc (.cells #[Value.string ⟨#[42]⟩,Value.string ⟨#[47]⟩] 9)).alloc (.cells #[Value.slice (some ⟨w.heap.size,0,none⟩) 1 1,Value.slice (some ⟨w.heap.size+1,0,none⟩) 1 1,Value.slice none 0 0,Value.slice (some ⟨w.heap.size+1+1,0,none⟩) 6 6,Value.slice (some ⟨w.heap.size+1+1+1,0,none⟩) 2 2,Value.slice (some ⟨w.heap.size+1+1+1+1,0,none⟩) 2 2,Value.slice none 0 0] 142)).alloc (.cells #[Value.int .u8 4,Value.int .u8 5,Value.int .u8 0,Value.int .u8 7,Value.int .u8 13,Value.int .u8 15,Value.int .u8 0] 5))=V at *
 have a5:V.cell? ⟨w.heap.size+1+1+1+1+1,6,none⟩=some (Value.slice none 0 0):=cell_of HI.out.b5 6
 go_loopw [7] (fun v wr=>∃ k:Nat,v=.int .i64 (k:Int)∧k≤0∧wr=V) (fun v _=>(0-RowKit.intOf v).toNat)
 case atStart=>exact ⟨0,rfl,by omega,rfl⟩
 case round=>
  obtain ⟨k,rfl,hk,rfl⟩:=hrel
  obtain rfl:k=0:=by omega
  have hr:R=0:=by rw [HR.out];exact inop_no6
  subst hr
  skip
  go_wp2
  go_ret
  exact ⟨rfl,HI.out.old⟩
theorem rinfix_any (L:Nat) (hL:L≤6) (l:List Tk) (w:World):Calls Tryz.prog 51 #[.int .i64 (L:Int),.string (st (nextL l))] w fun e w'=>e=.returned (.int .u8 (inL L l:Nat))∧Old w w':=by
 have e:inL L l=if (inOp (nextL l)).2=L then (inOp (nextL l)).1 else 0:=by
  unfold inL inT isT nextL
  by_cases h:(wordL l).k=1∨(wordL l).k=7
  ·rw [if_pos h]
   have:((wordL l).k==1||(wordL l).k==7)=true:=by simpa using h
   rw [this]
   simp
  ·rw [if_neg h]
   have:((wordL l).k==1||(wordL l).k==7)=false:=by simpa using h
   rw [this]
   simp [inOp]
 rw [e]
 rcases (show L=0∨L=1∨L=2∨L=3∨L=4∨L=5∨L=6 by omega) with rfl|rfl|rfl|rfl|rfl|rfl|rfl
 ·exact rinfix0 _ w
 ·exact rinfix1 _ w
 ·exact rinfix2 _ w
 ·exact rinfix3 _ w
 ·exact rinfix4 _ w
 ·exact rinfix5 _ w
 ·exact rinfix6 _ w
def callR (s:List UInt8):Nat × Nat × Nat:=(callL s).getD (0,0,0)
theorem rcall_any (s:List UInt8) (w:World):Calls Tryz.prog 97 #[.string (st s)] w fun e w'=>e=.returned (.tuple #[.int .u8 ((callR s).1:Nat),.int .i64 ((callR s).2.1:Nat),.int .i64 ((callR s).2.2:Nat)])∧w'=w:=by
 by_cases h0:s=[97,98,115]
 ·subst h0
  go_enter Tryz.func97,Tryz.ntmps97
  go_wp2
  exact bodyPost_ret (v:=.tuple #[.int .u8 18,.int .i64 1,.int .i64 1]) (by simp [results,Tryz.results97,go_sem]) rfl ⟨rfl,rfl⟩
 have e0:(s==[97,98,115])=false:=beq_false_of_ne h0
 by_cases h1:s=[109,105,110]
 ·subst h1
  go_enter Tryz.func97,Tryz.ntmps97
  go_wp2
  exact bodyPost_ret (v:=.tuple #[.int .u8 19,.int .i64 1,.int .i64 8]) (by simp [results,Tryz.results97,go_sem]) rfl ⟨rfl,rfl⟩
 have e1:(s==[109,105,110])=false:=beq_false_of_ne h1
 by_cases h2:s=[109,97,120]
 ·subst h2
  go_enter Tryz.func97,Tryz.ntmps97
  go_wp2
  exact bodyPost_ret (v:=.tuple #[.int .u8 20,.int .i64 1,.int .i64 8]) (by simp [results,Tryz.results97,go_sem]) rfl ⟨rfl,rfl⟩
 have e2:(s==[109,97,120])=false:=beq_false_of_ne h2
 by_cases h3:s=[109,111,100]
 ·subst h3
  go_enter Tryz.func97,Tryz.ntmps97
  go_wp2
  exact bodyPost_ret (v:=.tuple #[.int .u8 21,.int .i64 2,.int .i64 2]) (by simp [results,Tryz.results97,go_sem]) rfl ⟨rfl,rfl⟩
 have e3:(s==[109,111,100])=false:=beq_false_of_ne h3
 by_cases h4:s=[108,101,110,103,116,104]
 ·subst h4
  go_enter Tryz.func97,Tryz.ntmps97
  go_wp2
  exact bodyPost_ret (v:=.tuple #[.int .u8 22,.int .i64 1,.int .i64 1]) (by simp [results,Tryz.results97,go_sem]) rfl ⟨rfl,rfl⟩
 have e4:(s==[108,101,110,103,116,104])=false:=beq_false_of_ne h4
 by_cases h5:s=[117,112,112,101,114]
 ·subst h5
  go_enter Tryz.func97,Tryz.ntmps97
  go_wp2
  exact bodyPost_ret (v:=.tuple #[.int .u8 23,.int .i64 1,.int .i64 1]) (by simp [results,Tryz.results97,go_sem]) rfl ⟨rfl,rfl⟩
 have e5:(s==[117,112,112,101,114])=false:=beq_false_of_ne h5
 by_cases h6:s=[99,111,110,116,97,105,110,115]
 ·subst h6
  go_enter Tryz.func97,Tryz.ntmps97
  go_wp2
  exact bodyPost_ret (v:=.tuple #[.int .u8 24,.int .i64 2,.int .i64 2]) (by simp [results,Tryz.results97,go_sem]) rfl ⟨rfl,rfl⟩
 have e6:(s==[99,111,110,116,97,105,110,115])=false:=beq_false_of_ne h6
 by_cases h7:s=[115,116,97,114,116,115]
 ·subst h7
  go_enter Tryz.func97,Tryz.ntmps97
  go_wp2
  exact bodyPost_ret (v:=.tuple #[.int .u8 25,.int .i64 2,.int .i64 2]) (by simp [results,Tryz.results97,go_sem]) rfl ⟨rfl,rfl⟩
 have e7:(s==[115,116,97,114,116,115])=false:=beq_false_of_ne h7
 by_cases h8:s=[105,102]
 ·subst h8
  go_enter Tryz.func97,Tryz.ntmps97
  go_wp2
  exact bodyPost_ret (v:=.tuple #[.int .u8 26,.int .i64 3,.int .i64 3]) (by simp [results,Tryz.results97,go_sem]) rfl ⟨rfl,rfl⟩
 have e8:(s==[105,102])=false:=beq_false_of_ne h8
 have hz:callR s=(0,0,0):=by
  unfold callR callL
  rw [if_neg h0,if_neg h1,if_neg h2,if_neg h3,if_neg h4,if_neg h5,if_neg h6,if_neg h7,if_neg h8]
  rfl
 rw [hz]
 clear hz h0 h1 h2 h3 h4 h5 h6 h7 h8
 go_enter Tryz.func97,Tryz.ntmps97
 go_wp2
 exact bodyPost_ret (v:=.tuple #[.int .u8 0,.int .i64 0,.int .i64 0]) (by simp [results,Tryz.results97,go_sem]) rfl ⟨rfl,rfl⟩
end Go.Proofs.YtmkmafkkpigfpaaGreatDoor
