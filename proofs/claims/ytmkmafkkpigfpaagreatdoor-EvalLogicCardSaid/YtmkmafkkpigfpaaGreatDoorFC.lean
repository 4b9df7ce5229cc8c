/- The document's lexer: signs. The document's lexer, plain: what it makes of a word is what the program's makes of it. -/
import Derived.Test.YtmkmafkkpigfpaaGreatDoorFA
set_option maxHeartbeats 1600000
namespace Go.Proofs.YtmkmafkkpigfpaaGreatDoor
open Go.ChangeShapes Go.WideShapes Go.ChangeAt Go.RowKit Go.Lib
set_option linter.unusedVariables false
set_option linter.unusedSimpArgs false
set_option maxRecDepth 100000
def sgI (l:List UInt8):Option Nat:=if pair l then some 2 else if hd sgn l then some 1 else none
def sgB (v:Int):Bool:=[40,41,91,93,44,58,61,60,62,43,45,42,47].contains v
theorem sgB_of (c:UInt8):sgn c=sgB (c.toNat:Int):=by
 unfold sgn sgB
 simp only [List.contains_cons,List.contains_nil,Bool.or_false]
 rw [←u8_eq c 40,←u8_eq c 41,←u8_eq c 91,←u8_eq c 93,←u8_eq c 44,←u8_eq c 58,←u8_eq c 61,←u8_eq c 60,←u8_eq c 62,←u8_eq c 43,←u8_eq c 45,←u8_eq c 42,←u8_eq c 47]
 rfl
theorem rsg_tail {s:ByteArray} {j:Nat} {c:UInt8} {r:List UInt8} (hd0:s.data.toList.drop j=c::r) (hp:pair (c::r)=false):qdI j (sgI (s.data.toList.drop j))=if sgB (c.toNat:Int) then (j:Int)+1 else -1:=by
 rw [hd0]
 unfold sgI
 rw [hp,if_neg (by exact Bool.false_ne_true),show hd sgn (c::r)=sgn c from rfl,sgB_of]
 cases sgB (c.toNat:Int)<;>rfl
theorem rsign_any (s:ByteArray) (j:Nat) (hs:s.size≤1000000) (hj:j<s.size) (w:World) :
 Calls Tryz.prog 45 #[.string s,.int .i64 (j:Int)] w fun e w'=>e=.returned (.int .i64 (qdI j (sgI (s.data.toList.drop j))))∧w=w':=by
 obtain ⟨c,hd0⟩:=drop_ex hj
 have hx:=fun W=>idx_any s j c (drop_get hd0) W
 rcases Nat.lt_or_ge (j+1) s.size with h|h
 ·obtain ⟨y,hd1⟩:=drop_ex h
  have hz0:s.extract j (j+2)=⟨#[c,y]⟩:=by
   apply ba_ext
   rw [Lib.extract_toList,ByteArray.toList_eq,hd0,hd1]
   have:j+2-j=2:=by omega
   rw [this]
   rfl
  obtain ⟨z,hz⟩:∃ z:ByteArray,z=⟨#[c,y]⟩:=⟨_,rfl⟩
  have hsl:∀ W,(Instr.slice 9 (.string s) (some (.int .i64 (j:Int))) (some (.int .i64 ((j:Int)+2))) none).run Tryz.prog W=.ok (.string z) W:=fun W=>by
   rw [run_slice_string W 9 s .i64 .i64 (j:Int) ((j:Int)+2) Tryz.underlying9 (by omega) (by omega) (by omega),hz,←hz0]
   congr 4
  have hp:pair (s.data.toList.drop j)=((z.toList==[60,61])||(z.toList==[62,61])||(z.toList==[60,62])||(z.toList==[46,46])):=by
   rw [hd0,hd1,hz,ByteArray.toList_eq]
   simp [pair,Bool.and_true]
  cases hpp:pair (s.data.toList.drop j) with
  | true=>
    have e:qdI j (sgI (s.data.toList.drop j))=(j:Int)+2:=by unfold sgI;rw [if_pos hpp];rfl
    rw [e]
    rw [hpp] at hp
    clear hd0 hd1 hz0 hz e hpp
    go_enter Tryz.func45,Tryz.ntmps45
    go_wp2_with fail
    all_goals first
     | (go_ret;exact ⟨rfl,rfl⟩)
     | (exfalso;simp_all)
  | false=>
    have e:=rsg_tail hd0 (by rw [←hd0];exact hpp)
    rw [e]
    rw [hpp] at hp
    have k1:¬ z.toList=[60,61]:=fun h=>by rw [h] at hp;exact absurd hp (by decide)
    have k2:¬ z.toList=[62,61]:=fun h=>by rw [h] at hp;exact absurd hp (by decide)
    have k3:¬ z.toList=[60,62]:=fun h=>by rw [h] at hp;exact absurd hp (by decide)
    have k4:¬ z.toList=[46,46]:=fun h=>by rw [h] at hp;exact absurd hp (by decide)
    clear hd0 hd1 hz0 hz e hpp hp
    generalize (c.toNat:Int)=v at *
    obtain ⟨m,hm⟩:∃ m,m=if sgB v then (j:Int)+1 else -1:=⟨_,rfl⟩
    rw [←hm]
    have HM:=hid hm
    clear hm
    go_enter Tryz.func45,Tryz.ntmps45
    go_wp2_with fail
    all_goals (go_ret;exact ⟨by rw [HM.out];first|rfl|(simp_all [sgB]),rfl⟩)
 ·have hp:pair (s.data.toList.drop j)=false:=by rw [hd0,drop_no h];rfl
  have e:=rsg_tail hd0 (by rw [←hd0];exact hp)
  rw [e]
  clear hd0 e hp
  generalize (c.toNat:Int)=v at *
  obtain ⟨m,hm⟩:∃ m,m=if sgB v then (j:Int)+1 else -1:=⟨_,rfl⟩
  rw [←hm]
  have HM:=hid hm
  clear hm
  go_enter Tryz.func45,Tryz.ntmps45
  go_wp2_with fail
  all_goals (go_ret;exact ⟨by rw [HM.out];first|rfl|(simp_all [sgB]),rfl⟩)
theorem sm_nm {c:UInt8} (h:sm c=true):nm c=true:=by unfold nm;rw [h];rfl
theorem run_name {l:List UInt8} (h:hd sm l=true):isName (l.take (goL (runS nm) () l))=decide (goL (runS nm) () l≤12):=by
 cases l with
 | nil=>cases h
 | cons c r=>
   have hc:sm c=true:=h
   have hp:=goL_runT (r:=r) (sm_nm hc)
   have hle:=goL_le (runS nm) () (c::r)
   obtain ⟨n,hn⟩:∃ n,n=goL (runS nm) () (c::r):=⟨_,rfl⟩
   have hall:((c::r).take n).all nm=true:=by
    rw [List.all_eq_true]
    intro x hx
    rw [hn] at hx
    exact run_all nm (c::r) x hx
   rw [←hn] at hp hle ⊢
   have hlen:((c::r).take n).length=n:=by rw [List.length_take];omega
   have htk:(c::r).take n=c::r.take (n-1):=take_cons (by omega)
   unfold isName
   rw [hlen,hall,htk,show hd sm (c::r.take (n-1))=sm c from rfl,hc,Bool.and_true,Bool.and_true]
   congr 1
   simp
theorem kind_sm {c:UInt8} {r:List UInt8} (h:sm c=true):kindL (c::r)=1:=by rw [kind_cons,if_pos h]
theorem word1 {c:UInt8} {r:List UInt8} (h:sm c=true):wlen (c::r)=runN (c::r)∧meanW (c::r)=if runN (c::r)≤12 then (⟨1,(c::r).take (runN (c::r)),0,0,[],0,0⟩,0) else (Tk.zero,4):=by
 have hk:=kind_sm (r:=r) h
 have hr:runN (c::r)=goL (runS nm) () (c::r):=if_pos h
 have hw:wlen (c::r)=runN (c::r):=by
  rw [hr,goL_runT (sm_nm h)]
  unfold wlen
  rw [hk]
  rfl
 refine ⟨hw,?_⟩
 rw [mean_k _ _ hk,hw]
 show namedL 1 _=_
 unfold namedL
 rw [hr,run_name (show hd sm (c::r)=true from h)]
 by_cases h12:goL (runS nm) () (c::r)≤12
 ·rw [decide_eq_true h12,if_pos rfl,if_pos h12]
 ·rw [decide_eq_false h12,if_neg (by exact Bool.false_ne_true),if_neg h12]
theorem kind_35 (r:List UInt8):kindL (35::r)=6:=by rw [kind_cons];rfl
theorem kind_63 (r:List UInt8):kindL (63::r)=if hd sm r then 2 else 3:=by rw [kind_cons];rfl
theorem wlen_35 (r:List UInt8):wlen (35::r)=goL (runS nm) () r+1:=by unfold wlen;rw [kind_35];rfl
theorem name_no {l:List UInt8} (n:Nat) (h:hd sm l=false):isName (l.take n)=false:=by
 have:hd sm (l.take n)=false:=by
  cases l with
  | nil=>rw [List.take_nil];rfl
  | cons c r=>cases n with
    | zero=>rfl
    | succ n=>exact h
 unfold isName
 rw [this,Bool.and_false,Bool.false_and]
theorem run_pos {r:List UInt8} (h:hd sm r=true):1≤runN r:=by
 cases r with
 | nil=>cases h
 | cons c r=>
   have hc:sm c=true:=h
   have:runN (c::r)=goL (runS nm) () (c::r):=if_pos h
   rw [this,goL_runT (sm_nm hc)]
   omega
theorem runN_le (l:List UInt8):runN l≤l.length:=by
 unfold runN
 split
 ·exact goL_le _ _ _
 ·exact Nat.zero_le _
theorem word6 (r:List UInt8):(runN r≤12∧1≤runN r→wlen (35::r)=runN r+1∧meanW (35::r)=(⟨6,r.take (runN r),5,0,r.take (runN r),0,0⟩,0))∧(¬ (runN r≤12∧1≤runN r)→meanW (35::r)=(Tk.zero,4)):=by
 have hm:=mean_k _ _ (kind_35 r)
 rw [wlen_35] at hm
 have e:∀ l:List UInt8,meanL 6 l=if (namedL 6 l.tail).2=0 then ({ (namedL 6 l.tail).1 with vk:=5,vs:=l.tail },0) else namedL 6 l.tail:=fun _=>rfl
 rw [e,tail_take (by omega),Nat.add_sub_cancel] at hm
 cases hh:hd sm r with
 | true=>
   have hr:runN r=goL (runS nm) () r:=if_pos hh
   have hp:=run_pos hh
   unfold namedL at hm
   rw [run_name hh,←hr] at hm
   constructor
   ·rintro ⟨h12,_⟩
    rw [decide_eq_true h12] at hm
    exact ⟨by rw [wlen_35,←hr],hm⟩
   ·intro hn
    have h12:¬ runN r≤12:=fun h=>hn ⟨h,hp⟩
    rw [decide_eq_false h12] at hm
    exact hm
 | false=>
   have hr:runN r=0:=if_neg (by rw [hh];exact Bool.false_ne_true)
   unfold namedL at hm
   rw [name_no _ hh] at hm
   exact ⟨fun h=>absurd h.2 (by omega),fun _=>hm⟩
theorem word2 {r:List UInt8} (h:1≤runN r):(runN r≤12→wlen (63::r)=runN r+1∧meanW (63::r)=(⟨2,r.take (runN r),0,0,[],0,0⟩,0))∧(¬ runN r≤12→meanW (63::r)=(Tk.zero,4)):=by
 have hh:hd sm r=true:=by
  by_cases hc:hd sm r=true
  ·exact hc
  ·have:runN r=0:=if_neg hc
   omega
 have hk:kindL (63::r)=2:=by rw [kind_63,if_pos hh]
 have hr:runN r=goL (runS nm) () r:=if_pos hh
 have hw:wlen (63::r)=runN r+1:=by unfold wlen;rw [hk,hr];rfl
 have hm:=mean_k _ _ hk
 rw [hw] at hm
 have e:∀ l:List UInt8,meanL 2 l=namedL 2 l.tail:=fun _=>rfl
 rw [e,tail_take (by omega),Nat.add_sub_cancel] at hm
 unfold namedL at hm
 rw [hr,run_name hh,←hr] at hm
 constructor
 ·intro h12
  rw [decide_eq_true h12] at hm
  exact ⟨hw,hm⟩
 ·intro h12
  rw [decide_eq_false h12] at hm
  exact hm
theorem word3 {r:List UInt8} (h:runN r=0):wlen (63::r)=1∧meanW (63::r)=(⟨3,[],0,0,[],0,0⟩,0):=by
 have hh:¬ hd sm r=true:=fun hc=>by have:=run_pos hc;omega
 have hk:kindL (63::r)=3:=by rw [kind_63,if_neg hh]
 exact ⟨by unfold wlen;rw [hk];rfl,by rw [mean_k _ _ hk];rfl⟩
theorem num_true:∀ l:List UInt8,goL numS true l=digN l
 | []=>rfl
 | c::r=>by
   have e:numS true (c::r)=if dgc c then some true else none:=by rw [num_cons];rfl
   unfold digN
   cases hc:dgc c with
   | true=>rw [goL_go (by rw [e,if_pos hc]:numS true (c::r)=some true),goL_runT hc,num_true r];rfl
   | false=>rw [goL_stop (by rw [e,if_neg (by rw [hc];exact Bool.false_ne_true)]),goL_runF hc]
theorem num_false:∀ l:List UInt8,goL numS false l=if ptN (l.drop (digN l)) then digN l+1+digN (l.drop (digN l+1)) else digN l
 | []=>rfl
 | c::r=>by
   have e:numS false (c::r)=if (c==46&&hd dgc r)=true then some true else if dgc c then some false else none:=num_cons false c r
   cases hc:dgc c with
   | true=>
     have h46:(c==46)=false:=by
      rw [beq_eq_false_iff_ne]
      rintro rfl
      exact absurd hc (by decide)
     have hd1:digN (c::r)=digN r+1:=goL_runT hc
     rw [goL_go (by rw [e,h46,Bool.false_and,if_neg (by exact Bool.false_ne_true),if_pos hc]:numS false (c::r)=some false),num_false r,hd1,List.drop_succ_cons,List.drop_succ_cons]
     split<;>omega
   | false=>
     have hd0:digN (c::r)=0:=goL_runF hc
     rw [hd0,List.drop_zero]
     have hp:ptN (c::r)=(c==46&&hd dgc r):=rfl
     rw [hp]
     cases hb:(c==46&&hd dgc r) with
     | true=>
       rw [goL_go (by rw [e,if_pos hb]:numS false (c::r)=some true),num_true,if_pos rfl,show (c::r).drop (0+1)=r from rfl]
       omega
     | false=>
       rw [goL_stop (by rw [e,if_neg (by rw [hb];exact Bool.false_ne_true),if_neg (by rw [hc];exact Bool.false_ne_true)]),if_neg (by exact Bool.false_ne_true)]
theorem kind_dg {c:UInt8} {r:List UInt8} (h1:sm c=false) (h:dgc c=true):kindL (c::r)=4:=by
 rw [kind_cons,if_neg (by rw [h1];exact Bool.false_ne_true),if_pos h]
theorem word4 {c:UInt8} {r:List UInt8} (h1:sm c=false) (h:dgc c=true):wlen (c::r)=numN (c::r)∧meanW (c::r)=valuedL 4 ((c::r).take (numN (c::r))):=by
 have hk:=kind_dg (r:=r) h1 h
 have hw:wlen (c::r)=numN (c::r):=by
  have hd1:digN (c::r)=digN r+1:=goL_runT h
  unfold wlen
  rw [hk]
  show goL numS false r+1=_
  rw [num_false]
  unfold numN
  rw [hd1,List.drop_succ_cons,List.drop_succ_cons]
  split<;>omega
 exact ⟨hw,by rw [mean_k _ _ hk,hw];rfl⟩
theorem qd_len:∀ (l:List UInt8) (n:Nat),qd l=some n→goL strS (false,false) l=n∧1≤n∧n≤l.length
 | [],n,h=>by cases h
 | c::r,n,h=>by
   have e:strS (false,false) (c::r)=some (c==34,c==92):=by rw [str_cons];simp
   have hdone:∀ es (l:List UInt8),goL strS (true,es) l=0:=fun es l=>by
    cases l with
    | nil=>rfl
    | cons d l=>exact goL_stop rfl
   cases hb:badB c with
   | true=>rw [qd_bad hb] at h;cases h
   | false=>
     by_cases h34:c=34
     ·subst h34
      rw [qd_end] at h
      obtain rfl:1=n:=Option.some.inj h
      rw [goL_go e]
      exact ⟨by rw [show ((34:UInt8)==34)=true from rfl,hdone],Nat.le_refl _,by simp⟩
     by_cases h92:c=92
     ·subst h92
      cases r with
      | nil=>rw [qd_esc1] at h;cases h
      | cons d r=>
        rw [qd_esc] at h
        split at h
        ·cases h
        ·cases hq:qd r with
         | none=>rw [hq] at h;cases h
         | some m=>
           rw [hq] at h
           obtain rfl:m+2=n:=Option.some.inj h
           obtain ⟨i1,i2,i3⟩:=qd_len r m hq
           have e2:strS (false,true) (d::r)=some (false,false):=by rw [str_cons];simp
           rw [goL_go e,show ((92:UInt8)==34)=false from rfl,show ((92:UInt8)==92)=true from rfl,goL_go e2,i1]
           exact ⟨rfl,by omega,by simp only [List.length_cons];omega⟩
     ·rw [qd_one hb h34 h92] at h
      cases hq:qd r with
      | none=>rw [hq] at h;cases h
      | some m=>
        rw [hq] at h
        obtain rfl:m+1=n:=Option.some.inj h
        obtain ⟨i1,i2,i3⟩:=qd_len r m hq
        rw [goL_go e,beq_false_of_ne h34,beq_false_of_ne h92,i1]
        exact ⟨rfl,by omega,by simp only [List.length_cons];omega⟩
theorem qd_quo:∀ (v x:List UInt8),(∀ c∈v,32≤c.toNat∧c.toNat≤126)→qd (escL v++34::x)≠none
 | [],x,_=>by show qd (34::x)≠none;rw [qd_end];exact fun h=>by cases h
 | c::v,x,hv=>by
   have ih:=qd_quo v x (fun d hd=>hv d (List.mem_cons_of_mem _ hd))
   have hc:=hv c List.mem_cons_self
   have hb:badB c=false:=by unfold badB;rw [decide_eq_false_iff_not];omega
   rw [esc_cons]
   unfold escB
   split
   ·next he=>
    show qd (92::c::(escL v++34::x))≠none
    rw [qd_esc,if_neg (by rw [hb];exact Bool.false_ne_true)]
    cases hq:qd (escL v++34::x) with
    | none=>exact absurd hq ih
    | some m=>exact fun h=>by cases h
   ·next he=>
    show qd (c::(escL v++34::x))≠none
    rw [not_or] at he
    rw [qd_one hb he.1 he.2]
    cases hq:qd (escL v++34::x) with
    | none=>exact absurd hq ih
    | some m=>exact fun h=>by cases h
theorem kind_34 (r:List UInt8):kindL (34::r)=5:=by rw [kind_cons];rfl
theorem word5 (r:List UInt8):(∀ n,qd r=some n→wlen (34::r)=n+1∧meanW (34::r)=valuedL 5 ((34::r).take (n+1)))∧(qd r=none→meanW (34::r)=(Tk.zero,4)):=by
 have hk:=kind_34 r
 have hw:wlen (34::r)=goL strS (false,false) r+1:=by unfold wlen;rw [hk];rfl
 constructor
 ·intro n hn
  have hl:=(qd_len r n hn).1
  exact ⟨by rw [hw,hl],by rw [mean5 hk,hw,hl]⟩
 ·intro hn
  have hm:=mean5 hk
  by_cases h0:(meanW (34::r)).2=0
  ·obtain ⟨v,x,e,hv,_⟩:=good_str hk h0
   injection e with _ e
   exact absurd (e▸hn) (qd_quo v x hv)
  ·rw [hm] at h0 ⊢
   rw [hw,take_cons (by omega)] at h0 ⊢
   have h9:=parse_no9 (r.take (goL strS (false,false) r+1-1))
   unfold valuedL at h0 ⊢
   rw [if_neg h9] at h0 ⊢
   split
   ·rfl
   ·next h1=>rw [if_neg h1] at h0;exact absurd rfl h0
theorem word7 {c:UInt8} {r:List UInt8} (h1:sm c=false) (h2:dgc c=false) (h3:c≠34) (h4:c≠35) (h5:c≠63) :
 (∀ n,sgI (c::r)=some n→wlen (c::r)=n∧meanW (c::r)=(⟨7,(c::r).take n,0,0,[],0,0⟩,0))∧(sgI (c::r)=none→meanW (c::r)=(Tk.zero,4)):=by
 have hk:kindL (c::r)=if (sgn c||pair (c::r))=true then 7 else 0:=by
  rw [kind_cons,if_neg (by rw [h1];exact Bool.false_ne_true),if_neg (by rw [h2];exact Bool.false_ne_true),if_neg h3,if_neg h4,if_neg h5]
 have hg:sgI (c::r)=if pair (c::r)=true then some 2 else if sgn c=true then some 1 else none:=rfl
 cases hp:pair (c::r) with
 | true=>
   rw [hp,Bool.or_true,if_pos rfl] at hk
   rw [hp,if_pos rfl] at hg
   have hw:wlen (c::r)=2:=by
    unfold wlen;rw [hk]
    show goL (sgnS (pair (c::r))) true r+1=2
    rw [hp]
    cases r with
    | nil=>cases hp
    | cons d r=>rw [sgn_true];rfl
   refine ⟨fun n hn=>?_,fun hn=>by rw [hg] at hn;cases hn⟩
   rw [hg] at hn
   obtain rfl:2=n:=Option.some.inj hn
   exact ⟨hw,by rw [mean_k _ _ hk,hw];rfl⟩
 | false=>
   rw [hp,if_neg (by exact Bool.false_ne_true)] at hg
   cases hs:sgn c with
   | true=>
     rw [hp,hs,Bool.or_false,if_pos rfl] at hk
     rw [hs,if_pos rfl] at hg
     have hw:wlen (c::r)=1:=by
      unfold wlen;rw [hk]
      show goL (sgnS (pair (c::r))) true r+1=1
      rw [hp]
      cases r with
      | nil=>rfl
      | cons d r=>rw [sgn_true];rfl
     refine ⟨fun n hn=>?_,fun hn=>by rw [hg] at hn;cases hn⟩
     rw [hg] at hn
     obtain rfl:1=n:=Option.some.inj hn
     exact ⟨hw,by rw [mean_k _ _ hk,hw];rfl⟩
   | false=>
     rw [hp,hs,Bool.or_false,if_neg (by exact Bool.false_ne_true)] at hk
     rw [hs,if_neg (by exact Bool.false_ne_true)] at hg
     exact ⟨fun n hn=>(by rw [hg] at hn;cases hn),fun _=>(by rw [mean_k _ _ hk];rfl)⟩
end Go.Proofs.YtmkmafkkpigfpaaGreatDoor
