/- Layer lexer, plain: a word stands for itself, whatever is cut off behind it, or follows. Slices by their cells; append to a row of the call's own. Layer lexer: Lex. -/
import Derived.Maps.OwnSet
import Derived.Maps.OwnIn
import Derived.Maps.RangeWalk
import Derived.Maps.AppendAt
import Derived.Test.YtmkmafkkpigfpaaGreatDoorTN
namespace Go.Proofs.YtmkmafkkpigfpaaGreatDoor
set_option linter.unusedVariables false
set_option linter.unusedSimpArgs false
set_option maxRecDepth 100000
theorem fst_all {p:Int→Bool} {s:ByteArray}:∀ {k:Nat},fst p s k=true→∀ j,j<k→p (bt s j)=true
 | 0,_,j,h=>absurd h (Nat.not_lt_zero _)
 | k+1,hk,j,h=>by
   rw [fst,Bool.and_eq_true] at hk
   rcases Nat.lt_or_eq_of_le (Nat.le_of_lt_succ h) with h|h
   ·exact fst_all hk.1 j h
   ·subst h;exact hk.2
theorem bytes_of {p:Int→Bool} {s:ByteArray} (h:fst p s s.size=true):∀ c∈s.data.toList,p (c.toNat:Int)=true:=fun c hc=>by
 obtain ⟨j,hj⟩:=List.mem_iff_getElem?.1 hc
 have hlt:j<s.size:=by
  have:=(List.getElem?_eq_some_iff.1 hj).1
  simpa using this
 have:=fst_all h j hlt
 unfold bt at this
 rw [List.getD_eq_getElem?_getD,hj] at this
 exact this
theorem str_bytes {n:Int} {s:ByteArray} (h:mayB 3 n s=true):∀ c∈s.data.toList,32≤c.toNat∧c.toNat≤126:=by
 have ht:fst tb s s.size=true:=by
  unfold mayB textB at h
  simp at h
  exact h.2.2
 intro c hc
 have:=bytes_of ht c hc
 unfold tb at this
 simp at this
 omega
theorem read34 (r:List UInt8):readL (34::r)=⟨3,0,0,unqL (Lib.trimSuffix r [34])⟩:=rfl
theorem parse_ok34 (r:List UInt8) (h:(parseL (34::r)).e=0):∃ v:List UInt8,34::r=quoteL v∧∀ c∈v,32≤c.toNat∧c.toNat≤126:=by
 unfold parseL at h
 rw [read34] at h
 split at h
 ·cases h
 ·rw [if_pos (by rfl)] at h
  split at h
  ·next h1=>
   unfold textL at h1
   split at h1
   ·cases h1
   ·next h2=>
    have h2':mayB 3 0 (st (unqL (Lib.trimSuffix r [34])))=true:=by
     cases hm:mayB 3 0 (st (unqL (Lib.trimSuffix r [34]))) with
     | true=>rfl
     | false=>exact absurd hm h2
    rw [if_neg (show ¬ (3:Int)=1 by decide),if_neg (show ¬ (3:Int)=2 by decide),if_pos rfl] at h1
    exact ⟨_,h1.symm,str_bytes h2'⟩
  ·cases h
theorem parse_no9 (r:List UInt8):(parseL (34::r)).e≠9:=by
 unfold parseL
 rw [read34]
 split
 ·decide
 ·rw [if_pos (by rfl)]
  split
  ·show (0:Int)≠9
   decide
  ·show (4:Int)≠9
   decide
def Local {σ:Type} (step:σ→List UInt8→Option σ):Prop:=∀ a c r r',step a (c::r)=step a (c::r')
theorem local_run (p:UInt8→Bool):Local (runS p):=fun _ _ _ _=>rfl
theorem local_str:Local strS:=fun _ _ _ _=>rfl
theorem local_sgn (two:Bool):Local (sgnS two):=fun _ _ _ _=>rfl
theorem goL_cut {σ:Type} {step:σ→List UInt8→Option σ} (hl:Local step):∀ (a:σ) (p q:List UInt8),goL step a (p++q)≤p.length→goL step a p=goL step a (p++q)
 | a,[],q,h=>by
   rw [List.length_nil] at h
   rw [goL_nil]
   omega
 | a,c::p,q,h=>by
   rw [List.cons_append] at h ⊢
   cases hs:step a (c::(p++q)) with
   | none=>rw [goL_stop hs,goL_stop ((hl a c p (p++q)).trans hs)]
   | some b=>
     rw [goL_go hs] at h ⊢
     rw [goL_go ((hl a c p (p++q)).trans hs),goL_cut hl b p q (by simp only [List.length_cons] at h;omega)]
theorem num_cons (pt:Bool) (c:UInt8) (r:List UInt8):numS pt (c::r)=if !pt&&c==46&&hd dgc r then some true else if dgc c then some pt else none:=rfl
theorem num_cut:∀ (pt:Bool) (p q:List UInt8),goL numS pt (p++q)≤p.length→goL numS pt p=goL numS pt (p++q)
 | pt,[],q,h=>by
   rw [List.length_nil] at h
   rw [goL_nil]
   omega
 | pt,c::p,q,h=>by
   rw [List.cons_append] at h ⊢
   by_cases h1:(!pt&&c==46&&hd dgc (p++q))=true
   ·have hs:numS pt (c::(p++q))=some true:=by rw [num_cons,if_pos h1]
    rw [goL_go hs] at h ⊢
    simp only [List.length_cons] at h
    have hp:hd dgc p=true:=by
     cases p with
     | cons d p=>
       rw [Bool.and_eq_true] at h1
       exact h1.2
     | nil=>
       rw [Bool.and_eq_true,List.nil_append] at h1
       rw [List.nil_append] at h
       cases q with
       | nil=>cases h1.2
       | cons d q=>
         have hd1:dgc d=true:=h1.2
         have hs2:numS true (d::q)=some true:=by
          rw [num_cons,if_neg (by simp),if_pos hd1]
         rw [goL_go hs2] at h
         simp only [List.length_nil] at h
         omega
    have h1':(!pt&&c==46&&hd dgc p)=true:=by
     rw [Bool.and_eq_true] at h1 ⊢
     exact ⟨h1.1,hp⟩
    have hs':numS pt (c::p)=some true:=by rw [num_cons,if_pos h1']
    rw [goL_go hs',num_cut true p q (by omega)]
   ·have h1':¬ (!pt&&c==46&&hd dgc p)=true:=by
     intro e
     apply h1
     rw [Bool.and_eq_true] at e ⊢
     refine ⟨e.1,?_⟩
     cases p with
     | nil=>cases e.2
     | cons d p=>exact e.2
    by_cases h2:dgc c=true
    ·have hs:numS pt (c::(p++q))=some pt:=by rw [num_cons,if_neg h1,if_pos h2]
     have hs':numS pt (c::p)=some pt:=by rw [num_cons,if_neg h1',if_pos h2]
     rw [goL_go hs] at h ⊢
     simp only [List.length_cons] at h
     rw [goL_go hs',num_cut pt p q (by omega)]
    ·have hs:numS pt (c::(p++q))=none:=by rw [num_cons,if_neg h1,if_neg h2]
     have hs':numS pt (c::p)=none:=by rw [num_cons,if_neg h1',if_neg h2]
     rw [goL_stop hs,goL_stop hs']
theorem kind_cons (c:UInt8) (r:List UInt8):kindL (c::r)=if sm c then 1 else if dgc c then 4 else if c=34 then 5 else if c=35 then 6
 else if c=63 then (if hd sm r then 2 else 3) else if sgn c||pair (c::r) then 7 else 0:=rfl
theorem kind_pos {l:List UInt8} (h:kindL l≠0):∃ c r,l=c::r∧c≠32∧c≠10∧c≠59:=by
 cases l with
 | nil=>exact absurd rfl h
 | cons c r=>
   refine ⟨c,r,rfl,?_,?_,?_⟩
   ·rintro rfl
    apply h
    rw [kind_cons]
    cases r<;>simp (decide:=true) [pair]
   ·rintro rfl
    apply h
    rw [kind_cons]
    cases r<;>simp (decide:=true) [pair]
   ·rintro rfl
    apply h
    rw [kind_cons]
    cases r<;>simp (decide:=true) [pair]
theorem sgn_false (two:Bool) (l:List UInt8):goL (sgnS two) false l=0:=by
 cases l with
 | nil=>rfl
 | cons c r=>exact goL_stop rfl
theorem sgn_true (two:Bool) (c:UInt8) (r:List UInt8):goL (sgnS two) true (c::r)=if two then 1 else 0:=by
 cases two with
 | true=>rw [goL_go (b:=false) rfl,sgn_false];rfl
 | false=>exact goL_stop rfl
end Go.Proofs.YtmkmafkkpigfpaaGreatDoor
namespace Go.Proofs.YtmkmafkkpigfpaaGreatDoor
set_option linter.unusedVariables false
set_option linter.unusedSimpArgs false
set_option maxRecDepth 100000
def meanW (l:List UInt8):Tk × Int:=meanL (kindL l) (l.take (wlen l))
theorem esc_cons (c:UInt8) (v:List UInt8):escL (c::v)=escB c++escL v:=rfl
theorem str_cons (en es:Bool) (c:UInt8) (r:List UInt8):strS (en,es) (c::r)=if en then none else some (c==34&&!es,c==92&&!es):=rfl
theorem quo_len:∀ (v x:List UInt8),goL strS (false,false) (escL v++34::x)=(escL v).length+1
 | [],x=>by
   have h1:strS (false,false) (34::x)=some (true,false):=rfl
   rw [show escL []=[] from rfl,List.nil_append,goL_go h1]
   cases x with
   | nil=>rfl
   | cons c x=>rw [goL_stop (by rw [str_cons];rfl)];rfl
 | c::v,x=>by
   rw [esc_cons]
   unfold escB
   by_cases h:c=34∨c=92
   ·rw [if_pos h]
    have h1:strS (false,false) (92::(c::(escL v++34::x)))=some (false,true):=rfl
    have h2:strS (false,true) (c::(escL v++34::x))=some (false,false):=by
     rw [str_cons]
     simp
    rw [List.append_assoc,List.cons_append,List.cons_append,List.nil_append,goL_go h1,goL_go h2,quo_len v x]
    simp only [List.length_append,List.length_cons,List.length_nil]
    omega
   ·rw [if_neg h]
    rw [not_or] at h
    have h1:strS (false,false) (c::(escL v++34::x))=some (false,false):=by
     rw [str_cons,beq_false_of_ne h.1,beq_false_of_ne h.2]
     rfl
    rw [List.append_assoc,List.cons_append,List.nil_append,goL_go h1,quo_len v x]
    simp only [List.length_append,List.length_cons,List.length_nil]
    omega
theorem wlen_pos (l:List UInt8):1≤wlen l:=by unfold wlen;omega
theorem take_cons {c:UInt8} {r:List UInt8} {n:Nat} (h:1≤n):(c::r).take n=c::r.take (n-1):=by
 obtain ⟨m,rfl⟩:∃ m,n=m+1:=⟨n-1,by omega⟩
 rfl
theorem valued_err (k:Int) (l:List UInt8) (h:(valuedL k l).2=0):(parseL l).e=0:=by
 unfold valuedL at h
 split at h
 ·cases h
 ·split at h
  ·cases h
  ·next h1=>simpa using h1
theorem mean5 {l:List UInt8} (h5:kindL l=5):meanW l=valuedL 5 (l.take (wlen l)):=by
 unfold meanW
 rw [h5]
 rfl
theorem good_str {l:List UInt8} (h5:kindL l=5) (h0:(meanW l).2=0):∃ v x,l=34::(escL v++34::x)∧(∀ c∈v,32≤c.toNat∧c.toNat≤126)∧wlen l=(escL v).length+2:=by
 cases l with
 | nil=>cases h5
 | cons c r=>
   obtain rfl:=kind5 h5
   rw [mean5 h5] at h0
   have hp:=valued_err _ _ h0
   rw [take_cons (wlen_pos _)] at hp
   obtain ⟨v,hv,hb⟩:=parse_ok34 _ hp
   rw [←take_cons (wlen_pos _)] at hv
   have hl:34::r=34::(escL v++34::(34::r).drop (wlen (34::r))):=by
    have:=List.take_append_drop (wlen (34::r)) (34::r)
    rw [hv] at this
    exact this.symm.trans (by simp [quoteL])
   refine ⟨v,_,hl,hb,?_⟩
   have hw:wlen (34::r)=goL strS (false,false) r+1:=by unfold wlen;rw [h5];rfl
   have hr:r=escL v++34::(34::r).drop (wlen (34::r)):=by injection hl
   rw [hw]
   generalize (34::r).drop (wlen (34::r))=x at hr
   rw [hr,quo_len]
theorem word_cut {p q:List UInt8} (hp:p≠[]) (h:wlen (p++q)≤p.length):kindL p=kindL (p++q)∧wlen p=wlen (p++q):=by
 match p,hp with
 | [c],_=>
   rw [List.cons_append,List.nil_append] at h ⊢
   have he:endL (kindL (c::q)) (c::q)=0:=by
    unfold wlen at h
    simp only [List.length_cons,List.length_nil] at h
    omega
   have hk:kindL [c]=kindL (c::q):=by
    rw [kind_cons] at he ⊢
    rw [kind_cons]
    by_cases h1:sm c=true
    ·rw [if_pos h1,if_pos h1]
    rw [if_neg h1] at he
    rw [if_neg h1,if_neg h1]
    by_cases h2:dgc c=true
    ·rw [if_pos h2,if_pos h2]
    rw [if_neg h2] at he
    rw [if_neg h2,if_neg h2]
    by_cases h3:c=34
    ·rw [if_pos h3,if_pos h3]
    rw [if_neg h3] at he
    rw [if_neg h3,if_neg h3]
    by_cases h4:c=35
    ·rw [if_pos h4,if_pos h4]
    rw [if_neg h4] at he
    rw [if_neg h4,if_neg h4]
    by_cases h5:c=63
    ·rw [if_pos h5] at he
     rw [if_pos h5,if_pos h5]
     cases q with
     | nil=>rfl
     | cons d q=>
       by_cases h6:sm d=true
       ·exfalso
        rw [show hd sm (d::q)=sm d from rfl,if_pos h6] at he
        have hs:runS nm () (d::q)=some ():=by
         rw [show runS nm () (d::q)=if nm d then some () else none from rfl,if_pos (by unfold nm;rw [h6];rfl)]
        rw [show endL 2 (c::d::q)=goL (runS nm) () (d::q) from rfl,goL_go hs] at he
        cases he
       ·rw [show hd sm (d::q)=sm d from rfl,if_neg h6]
        rfl
    rw [if_neg h5] at he
    rw [if_neg h5,if_neg h5]
    by_cases h6:sgn c=true
    ·rw [h6]
     rfl
    ·have h6':sgn c=false:=by simpa using h6
     rw [h6',Bool.false_or] at he ⊢
     rw [Bool.false_or]
     cases q with
     | nil=>rfl
     | cons d q=>
       cases h7:pair (c::d::q) with
       | false=>rfl
       | true=>
         exfalso
         rw [h7,if_pos rfl,show endL 7 (c::d::q)=goL (sgnS (pair (c::d::q))) true (d::q) from rfl,h7,sgn_true] at he
         cases he
   refine ⟨hk,?_⟩
   unfold wlen
   rw [he,hk]
   unfold endL
   have g1:goL (sgnS (pair [c])) true [c].tail=0:=rfl
   have g2:goL (runS nm) () [c].tail=0:=rfl
   have g3:goL numS false [c].tail=0:=rfl
   have g4:goL strS (false,false) [c].tail=0:=rfl
   rw [g1,g2,g3,g4]
   repeat' split
   all_goals rfl
 | c::d::p,_=>
   have hk:kindL (c::d::p)=kindL (c::d::p++q):=rfl
   refine ⟨hk,?_⟩
   unfold wlen at h ⊢
   rw [←hk] at h ⊢
   have h':endL (kindL (c::d::p)) (c::d::p++q)≤(d::p).length:=by
    rw [List.length_cons (a:=c)] at h
    omega
   congr 1
   generalize kindL (c::d::p)=k at h'
   unfold endL at h' ⊢
   rw [show (c::d::p++q).tail=(d::p)++q from rfl,show pair (c::d::p++q)=pair (c::d::p) from rfl] at h' ⊢
   rw [List.tail_cons]
   by_cases k1:k=1∨k=2∨k=6
   ·rw [if_pos k1] at h' ⊢
    rw [if_pos k1]
    exact goL_cut (local_run nm) _ _ _ h'
   rw [if_neg k1] at h' ⊢
   rw [if_neg k1]
   by_cases k2:k=4
   ·rw [if_pos k2] at h' ⊢
    rw [if_pos k2]
    exact num_cut _ _ _ h'
   rw [if_neg k2] at h' ⊢
   rw [if_neg k2]
   by_cases k3:k=5
   ·rw [if_pos k3] at h' ⊢
    rw [if_pos k3]
    exact goL_cut local_str _ _ _ h'
   rw [if_neg k3] at h' ⊢
   rw [if_neg k3]
   by_cases k4:k=7
   ·rw [if_pos k4] at h' ⊢
    rw [if_pos k4]
    exact goL_cut (local_sgn _) _ _ _ h'
   ·rw [if_neg k4,if_neg k4]
theorem take_app {p q:List UInt8} {n:Nat} (h:n≤p.length):(p++q).take n=p.take n:=by
 rw [List.take_append_of_le_length h]
theorem mean_cut {p q:List UInt8} (hp:p≠[]) (h:wlen (p++q)≤p.length):meanW p=meanW (p++q):=by
 obtain ⟨h1,h2⟩:=word_cut hp h
 unfold meanW
 rw [h1,h2,take_app h]
end Go.Proofs.YtmkmafkkpigfpaaGreatDoor
namespace Go.Proofs.YtmkmafkkpigfpaaGreatDoor
set_option linter.unusedVariables false
set_option linter.unusedSimpArgs false
set_option maxRecDepth 100000
def spellL (x:Tk):List UInt8:=
 if x.k=2∨x.k=3 then 63::x.t else if x.k=5 then 34::(x.t++[34]) else if x.k=6 then 35::x.t else x.t
theorem named_ok {k:Int} {l:List UInt8} (h:(namedL k l).2=0):isName l=true∧namedL k l=(⟨k,l,0,0,[],0,0⟩,0):=by
 unfold namedL at h ⊢
 split at h
 ·next h1=>exact ⟨h1,by rw [if_pos h1]⟩
 ·cases h
theorem valued_ok {k:Int} {l:List UInt8} (h:(valuedL k l).2=0):(valuedL k l).1=⟨k,if k=5 then l.tail.take (l.length-2) else l,(parseL l).k,(parseL l).n,(parseL l).s,0,0⟩:=by
 have he:=valued_err k l h
 unfold valuedL
 rw [if_neg (by rw [he];decide),if_neg (by rw [he];decide)]
theorem mean_k (l:List UInt8) (k:Nat) (hk:kindL l=k):meanW l=meanL k (l.take (wlen l)):=by
 unfold meanW
 rw [hk]
theorem kind_first {l:List UInt8} {k:Nat} (hk:kindL l=k) (h0:k≠0):∃ c r,l=c::r∧(k=2∨k=3→c=63)∧(k=5→c=34)∧(k=6→c=35):=by
 cases l with
 | nil=>exact absurd hk.symm h0
 | cons c r=>
   refine ⟨c,r,rfl,?_,?_,?_⟩
   ·intro h
    rw [kind_cons] at hk
    by_cases h1:c=63
    ·exact h1
    ·rw [if_neg h1] at hk
     repeat' split at hk
     all_goals omega
   ·intro h
    exact kind5 (hk.trans h)
   ·intro h
    rw [kind_cons] at hk
    by_cases h1:c=35
    ·exact h1
    ·rw [if_neg h1] at hk
     repeat' split at hk
     all_goals omega
theorem tail_take {c:UInt8} {r:List UInt8} {n:Nat} (h:1≤n):((c::r).take n).tail=r.take (n-1):=by rw [take_cons h];rfl
theorem spell_word {l:List UInt8} (h0:(meanW l).2=0):spellL (meanW l).1=l.take (wlen l):=by
 obtain ⟨k,hk⟩:∃ k,kindL l=k:=⟨_,rfl⟩
 have hm:=mean_k l k hk
 have hle:=kindL_le l
 rw [hk] at hle
 have hk8:k=0∨k=1∨k=2∨k=3∨k=4∨k=5∨k=6∨k=7:=by omega
 rw [hm] at h0 ⊢
 rcases hk8 with rfl|rfl|rfl|rfl|rfl|rfl|rfl|rfl
 ·exact absurd h0 (show ¬ (4:Int)=0 by decide)
 ·have e:meanL 1 (l.take (wlen l))=namedL 1 (l.take (wlen l)):=rfl
  rw [e] at h0 ⊢
  rw [(named_ok h0).2]
  rfl
 ·have e:meanL 2 (l.take (wlen l))=namedL 2 (l.take (wlen l)).tail:=rfl
  rw [e] at h0 ⊢
  rw [(named_ok h0).2]
  obtain ⟨c,r,rfl,hc,_,_⟩:=kind_first hk (by decide)
  obtain rfl:=hc (Or.inl rfl)
  rw [take_cons (wlen_pos _)]
  rfl
 ·obtain ⟨c,r,rfl,hc,_,_⟩:=kind_first hk (by decide)
  obtain rfl:=hc (Or.inr rfl)
  have:wlen (63::r)=1:=by unfold wlen;rw [hk];rfl
  rw [this]
  rfl
 ·have e:meanL 4 (l.take (wlen l))=valuedL 4 (l.take (wlen l)):=rfl
  rw [e] at h0 ⊢
  rw [valued_ok h0]
  rfl
 ·obtain ⟨v,x,hv,_,hw⟩:=good_str hk (by rw [hm];exact h0)
  have e:meanL 5 (l.take (wlen l))=valuedL 5 (l.take (wlen l)):=rfl
  rw [e] at h0 ⊢
  rw [valued_ok h0]
  have hq:l.take (wlen l)=34::(escL v++[34]):=by
   rw [hw,hv,List.take_succ_cons]
   congr 1
   rw [show escL v++34::x=(escL v++[34])++x by simp]
   exact List.take_left' (by simp)
  rw [hq]
  show 34::(((34::(escL v++[34])).tail.take ((34::(escL v++[34])).length-2))++[34])=_
  rw [List.tail_cons]
  congr 2
  exact List.take_left' (by simp)
 ·have e:meanL 6 (l.take (wlen l))=if (namedL 6 (l.take (wlen l)).tail).2=0 then ({ (namedL 6 (l.take (wlen l)).tail).1 with vk:=5,vs:=(l.take (wlen l)).tail },0) else namedL 6 (l.take (wlen l)).tail:=rfl
  rw [e] at h0 ⊢
  by_cases h1:(namedL 6 (l.take (wlen l)).tail).2=0
  ·rw [if_pos h1,(named_ok h1).2]
   obtain ⟨c,r,rfl,_,_,hc⟩:=kind_first hk (by decide)
   obtain rfl:=hc rfl
   rw [take_cons (wlen_pos _)]
   rfl
  ·rw [if_neg h1] at h0
   exact absurd h0 h1
 ·rfl
theorem goL_all {σ:Type} {step:σ→List UInt8→Option σ} {P:UInt8→Prop} (h:∀ a c r b,step a (c::r)=some b→P c):∀ (a:σ) (l:List UInt8),∀ c∈l.take (goL step a l),P c
 | a,[],c,hc=>by cases hc
 | a,d::l,c,hc=>by
   cases hs:step a (d::l) with
   | none=>rw [goL_stop hs] at hc;cases hc
   | some b=>
     rw [goL_go hs,List.take_succ_cons,List.mem_cons] at hc
     rcases hc with rfl|hc
     ·exact h a c l b hs
     ·exact goL_all h b l c hc
theorem run_all (p:UInt8→Bool) (l:List UInt8):∀ c∈l.take (goL (runS p) () l),p c=true:=
 goL_all (fun a c r b h=>by
  rw [show runS p a (c::r)=if p c then some () else none from rfl] at h
  by_cases hp:p c=true
  ·exact hp
  ·rw [if_neg hp] at h;cases h) () l
theorem num_all (l:List UInt8):∀ c∈l.take (goL numS false l),c=46∨dgc c=true:=
 goL_all (P:=fun c=>c=46∨dgc c=true) (fun a c r b h=>by
  rw [num_cons] at h
  split at h
  ·next h1=>
   rw [Bool.and_eq_true,Bool.and_eq_true] at h1
   exact Or.inl (by simpa using h1.1.2)
  ·split at h
   ·next h1=>exact Or.inr h1
   ·cases h) false l
theorem nm_10 {c:UInt8} (h:nm c=true):c≠10:=by rintro rfl;exact absurd h (by decide)
theorem dgc_10 {c:UInt8} (h:dgc c=true):c≠10:=by rintro rfl;exact absurd h (by decide)
theorem word_no10 {l:List UInt8} (h0:(meanW l).2=0):∀ c∈l.take (wlen l),c≠10:=by
 obtain ⟨k,hk⟩:∃ k,kindL l=k:=⟨_,rfl⟩
 have hm:=mean_k l k hk
 have hle:=kindL_le l
 rw [hk] at hle
 have hk8:k=0∨k=1∨k=2∨k=3∨k=4∨k=5∨k=6∨k=7:=by omega
 by_cases hk5:k=5
 ·subst hk5
  obtain ⟨v,x,hv,hb,hw⟩:=good_str hk h0
  intro c hc
  have hq:l.take (wlen l)=quoteL v:=by
   rw [hw,hv,List.take_succ_cons]
   unfold quoteL
   congr 1
   rw [show escL v++34::x=(escL v++[34])++x by simp]
   exact List.take_left' (by simp)
  rw [hq] at hc
  rintro rfl
  unfold quoteL at hc
  rw [List.mem_cons,List.mem_append] at hc
  rcases hc with hc|hc|hc
  ·cases hc
  ·unfold escL at hc
   rw [List.mem_flatMap] at hc
   obtain ⟨d,hd,hc⟩:=hc
   unfold escB at hc
   have:=hb d hd
   split at hc
   ·rw [List.mem_cons,List.mem_singleton] at hc
    rcases hc with hc|hc
    ·cases hc
    ·rw [←hc] at this
     exact absurd this.1 (by decide)
   ·rw [List.mem_singleton] at hc
    rw [←hc] at this
    exact absurd this.1 (by decide)
  ·rw [List.mem_singleton] at hc
   cases hc
 ·by_cases hk0:k=0
  ·subst hk0
   rw [hm] at h0
   exact absurd h0 (show ¬ (4:Int)=0 by decide)
  obtain ⟨c,r,rfl,g1,g2,g3⟩:=kind_first hk hk0
  intro d hd
  rw [take_cons (wlen_pos _),List.mem_cons] at hd
  rcases hd with rfl|hd
  ·
   rintro rfl
   obtain ⟨c',r',e,_,h10,_⟩:=kind_pos (l:=10::r) (by rw [hk];exact hk0)
   injection e with e1 e2
   exact h10 e1.symm
  ·have hw:wlen (c::r)-1=endL k (c::r):=by unfold wlen;rw [hk];omega
   rw [hw] at hd
   rcases hk8 with rfl|rfl|rfl|rfl|rfl|rfl|rfl|rfl
   ·exact absurd rfl hk0
   ·exact nm_10 (run_all nm r d hd)
   ·exact nm_10 (run_all nm r d hd)
   ·cases hd
   ·rcases num_all r d hd with rfl|h
    ·decide
    ·exact dgc_10 h
   ·exact absurd rfl hk5
   ·exact nm_10 (run_all nm r d hd)
   ·cases r with
    | nil=>cases hd
    | cons e r=>
      rw [show endL 7 (c::e::r)=goL (sgnS (pair (c::e::r))) true (e::r) from rfl,sgn_true] at hd
      by_cases hp:pair (c::e::r)=true
      ·rw [if_pos hp,List.take_succ_cons,List.take_zero,List.mem_singleton] at hd
       subst hd
       rintro rfl
       unfold pair at hp
       simp (decide:=true) at hp
      ·rw [if_neg hp] at hd
       cases hd
end Go.Proofs.YtmkmafkkpigfpaaGreatDoor
namespace Go.Proofs.YtmkmafkkpigfpaaGreatDoor
set_option linter.unusedVariables false
set_option linter.unusedSimpArgs false
set_option maxRecDepth 100000
def Tk.at (x:Tk) (L C:Nat):Tk:={ x with ln:=L,cl:=C }
inductive Wds:List UInt8→Nat→Nat→List Tk→Int→Int→Int→Prop
 | done {l L C L' C'}:skipL false l L C=([],L',C')→Wds l L C [] 0 0 0
 | bad {l L C c r L' C'}:skipL false l L C=(c::r,L',C')→(meanW (c::r)).2≠0→Wds l L C [] (meanW (c::r)).2 L' C'
 | word {l L C c r L' C' T E ln cl}:skipL false l L C=(c::r,L',C')→(meanW (c::r)).2=0→Wds ((c::r).drop (wlen (c::r))) L' (C'+wlen (c::r)) T E ln cl→
    Wds l L C ((meanW (c::r)).1.at L' C'::T) E ln cl
theorem Wds.word' {l l':List UInt8} {L C L' C':Nat} {T:List Tk} {E ln cl:Int} (hs:skipL false l L C=(l',L',C')) (hne:l'≠[]) (h0:(meanW l').2=0) (h:Wds (l'.drop (wlen l')) L' (C'+wlen l') T E ln cl) :
 Wds l L C ((meanW l').1.at L' C'::T) E ln cl:=by
 obtain ⟨c,r,rfl⟩:=List.exists_cons_of_ne_nil hne
 exact .word hs h0 h
theorem skip_len:∀ (m:Bool) (l:List UInt8) (L C:Nat),(skipL m l L C).1.length≤l.length
 | m,[],L,C=>by cases m<;>exact Nat.le_refl _
 | true,c::r,L,C=>by
   rw [skipL]
   split
   ·exact Nat.le_succ_of_le (skip_len false r _ _)
   ·exact Nat.le_succ_of_le (skip_len true r _ _)
 | false,c::r,L,C=>by
   rw [skipL]
   split
   ·exact Nat.le_succ_of_le (skip_len false r _ _)
   split
   ·exact Nat.le_succ_of_le (skip_len false r _ _)
   split
   ·exact Nat.le_succ_of_le (skip_len true r _ _)
   ·exact Nat.le_refl _
theorem lexS_word (f:Nat) (c:UInt8) (r:List UInt8) (L C:Nat):lexS (f+1) (c::r) L C=if (meanW (c::r)).2=0 then
 ((meanW (c::r)).1.at L C::(lexS f (skipL false ((c::r).drop (wlen (c::r))) L (C+wlen (c::r))).1 (skipL false ((c::r).drop (wlen (c::r))) L (C+wlen (c::r))).2.1 (skipL false ((c::r).drop (wlen (c::r))) L (C+wlen (c::r))).2.2).1,
   (lexS f (skipL false ((c::r).drop (wlen (c::r))) L (C+wlen (c::r))).1 (skipL false ((c::r).drop (wlen (c::r))) L (C+wlen (c::r))).2.1 (skipL false ((c::r).drop (wlen (c::r))) L (C+wlen (c::r))).2.2).2)
 else ([],(meanW (c::r)).2,(L:Int),(C:Int)):=rfl
theorem wds_lexS:∀ (f:Nat) (l:List UInt8) (L C:Nat),l.length<f→∀ T E ln cl,lexS f (skipL false l L C).1 (skipL false l L C).2.1 (skipL false l L C).2.2=(T,E,ln,cl)→Wds l L C T E ln cl
 | 0,l,L,C,h,_,_,_,_,_=>absurd h (Nat.not_lt_zero _)
 | f+1,l,L,C,h,T,E,ln,cl,e=>by
   have hle:=skip_len false l L C
   obtain ⟨⟨l',L',C'⟩,hs⟩:∃ x,skipL false l L C=x:=⟨_,rfl⟩
   rw [hs] at e hle
   simp only at e hle
   cases l' with
   | nil=>
     rw [lexS_nil] at e
     injection e with e1 e2
     injection e2 with e2 e3
     injection e3 with e3 e4
     subst e1 e2 e3 e4
     exact .done hs
   | cons c r=>
     rw [lexS_word] at e
     by_cases h0:(meanW (c::r)).2=0
     ·rw [if_pos h0] at e
      injection e with e1 e2
      subst e1
      refine .word hs h0 (wds_lexS f _ _ _ ?_ _ _ _ _ ?_)
      ·have:=wlen_pos (c::r)
       rw [List.length_drop]
       simp only [List.length_cons] at *
       omega
      ·rw [←e2]
     ·rw [if_neg h0] at e
      injection e with e1 e2
      injection e2 with e2 e3
      injection e3 with e3 e4
      subst e1 e2 e3 e4
      exact .bad hs h0
theorem wds_of {l:List UInt8} {T:List Tk} {E ln cl:Int} (h:lexL l=(T,E,ln,cl)):Wds l 1 1 T E ln cl:=wds_lexS (l.length+1) l 1 1 (Nat.lt_succ_self _) T E ln cl h
theorem Wds.zero {l:List UInt8} {L C:Nat} {T:List Tk} {E ln cl:Int} (h:Wds l L C T E ln cl) (h0:E=0):ln=0∧cl=0:=by
 induction h with
 | done hs=>exact ⟨rfl,rfl⟩
 | bad hs h1=>exact absurd h0 h1
 | word hs h1 _ ih=>exact ih h0
theorem Wds.len {l:List UInt8} {L C:Nat} {T:List Tk} {E ln cl:Int} (h:Wds l L C T E ln cl):T.length≤l.length:=by
 induction h with
 | done hs=>exact Nat.zero_le _
 | bad hs h1=>exact Nat.zero_le _
 | @word l L C c r L' C' T E ln cl hs h1 _ ih=>
   have hle:=skip_len false l L C
   rw [hs] at hle
   have:=wlen_pos (c::r)
   rw [List.length_drop] at ih
   simp only [List.length_cons] at *
   omega
def adv:List UInt8→Nat→Nat→Nat × Nat
 | [],L,C=>(L,C)
 | c::r,L,C=>if c=10 then adv r (L+1) 1 else adv r L (C+1)
theorem adv_app:∀ (u v:List UInt8) (L C:Nat),adv (u++v) L C=adv v (adv u L C).1 (adv u L C).2
 | [],v,L,C=>rfl
 | c::u,v,L,C=>by
   rw [List.cons_append,adv,adv]
   split
   ·exact adv_app u v _ _
   ·exact adv_app u v _ _
theorem adv_word:∀ (u:List UInt8) (L C:Nat),(∀ c∈u,c≠10)→adv u L C=(L,C+u.length)
 | [],L,C,_=>rfl
 | c::u,L,C,h=>by
   rw [adv,if_neg (h c (List.mem_cons_self ..)),adv_word u L (C+1) (fun d hd=>h d (List.mem_cons_of_mem _ hd)),List.length_cons]
   congr 1
   omega
theorem skip_adv:∀ (m:Bool) (l:List UInt8) (L C:Nat),∃ u,l=u++(skipL m l L C).1∧adv u L C=(skipL m l L C).2∧skipL m u L C=([],(skipL m l L C).2)∧∀ c r r',(skipL m l L C).1=c::r→skipL m (u++c::r') L C=(c::r',(skipL m l L C).2)
 | m,[],L,C=>⟨[],by cases m<;>rfl,by cases m<;>rfl,by cases m<;>rfl,fun c r r' h=>by cases m<;>cases h⟩
 | true,c::r,L,C=>by
   rw [skipL]
   by_cases h:c=10
   ·rw [if_pos h]
    obtain ⟨u,h1,h2,h3,h4⟩:=skip_adv false r (L+1) 1
    refine ⟨c::u,by rw [List.cons_append,←h1],by rw [adv,if_pos h,h2],by rw [skipL,if_pos h];exact h3,fun d x y hx=>by rw [List.cons_append,skipL,if_pos h];exact h4 d x y hx⟩
   ·rw [if_neg h]
    obtain ⟨u,h1,h2,h3,h4⟩:=skip_adv true r L (C+1)
    refine ⟨c::u,by rw [List.cons_append,←h1],by rw [adv,if_neg h,h2],by rw [skipL,if_neg h];exact h3,fun d x y hx=>by rw [List.cons_append,skipL,if_neg h];exact h4 d x y hx⟩
 | false,c::r,L,C=>by
   rw [skipL]
   by_cases h1:c=32
   ·rw [if_pos h1]
    obtain ⟨u,g1,g2,g3,g4⟩:=skip_adv false r L (C+1)
    refine ⟨c::u,by rw [List.cons_append,←g1],by rw [adv,if_neg (by rw [h1];decide),g2],by rw [skipL,if_pos h1];exact g3,fun d x y hx=>by rw [List.cons_append,skipL,if_pos h1];exact g4 d x y hx⟩
   rw [if_neg h1]
   by_cases h2:c=10
   ·rw [if_pos h2]
    obtain ⟨u,g1,g2,g3,g4⟩:=skip_adv false r (L+1) 1
    refine ⟨c::u,by rw [List.cons_append,←g1],by rw [adv,if_pos h2,g2],by rw [skipL,if_neg h1,if_pos h2];exact g3,fun d x y hx=>by rw [List.cons_append,skipL,if_neg h1,if_pos h2];exact g4 d x y hx⟩
   rw [if_neg h2]
   by_cases h3:c=59
   ·rw [if_pos h3]
    obtain ⟨u,g1,g2,g3,g4⟩:=skip_adv true r L (C+1)
    refine ⟨c::u,by rw [List.cons_append,←g1],by rw [adv,if_neg h2,g2],by rw [skipL,if_neg h1,if_neg h2,if_pos h3];exact g3,fun d x y hx=>by rw [List.cons_append,skipL,if_neg h1,if_neg h2,if_pos h3];exact g4 d x y hx⟩
   ·rw [if_neg h3]
    refine ⟨[],rfl,rfl,rfl,fun d x y hx=>?_⟩
    injection hx with hx _
    subst hx
    rw [List.nil_append,skipL,if_neg h1,if_neg h2,if_neg h3]
end Go.Proofs.YtmkmafkkpigfpaaGreatDoor
namespace Go.Proofs.YtmkmafkkpigfpaaGreatDoor
set_option linter.unusedVariables false
set_option linter.unusedSimpArgs false
set_option maxRecDepth 100000
theorem take_len {l:List UInt8} (hl:l≠[]):(l.take (wlen l)).length=wlen l:=by
 rw [List.length_take]
 have:=wlen_le hl
 omega
theorem Wds.cut {s:List UInt8} {L C:Nat} {T:List Tk} {E ln cl:Int} (h:Wds s L C T E ln cl):∀ k x,T[k]?=some x→
 ∃ u v,s=u++v∧v≠[]∧x.ln=((adv u L C).1:Int)∧x.cl=((adv u L C).2:Int)∧Wds u L C (T.take k) 0 0 0:=by
 induction h with
 | done hs=>intro k x hx;cases hx
 | bad hs h1=>intro k x hx;cases hx
 | @word l L C c r L' C' T E ln cl hs h1 _ ih=>
   intro k x hx
   obtain ⟨u0,g1,g2,g3,g4⟩:=skip_adv false l L C
   rw [hs] at g1 g2 g3 g4
   simp only at g1 g2 g3 g4
   cases k with
   | zero=>
     rw [List.getElem?_cons_zero] at hx
     injection hx with hx
     subst hx
     exact ⟨u0,c::r,g1,by simp,by rw [g2];rfl,by rw [g2];rfl,.done g3⟩
   | succ k=>
     rw [List.getElem?_cons_succ] at hx
     obtain ⟨u1,v1,e1,e2,e3,e4,e5⟩:=ih k x hx
     have hn:(c::r:List UInt8)≠[]:=by simp
     obtain ⟨w,hw⟩:∃ w,w=(c::r).take (wlen (c::r)):=⟨_,rfl⟩
     have hwl:w.length=wlen (c::r):=by rw [hw,take_len hn]
     have hcr:c::r=w++u1++v1:=by
      rw [List.append_assoc,←e1,hw,List.take_append_drop]
     have hwu:w++u1≠[]:=by
      intro e
      have:=congrArg List.length e
      rw [List.length_append,hwl,List.length_nil] at this
      have:=wlen_pos (c::r)
      omega
     have hle:wlen (w++u1++v1)≤(w++u1).length:=by
      rw [←hcr,List.length_append,hwl]
      omega
     have hm:=mean_cut hwu hle
     have hk:=(word_cut hwu hle).2
     rw [←hcr] at hm hk
     obtain ⟨d,y,hdy⟩:=List.exists_cons_of_ne_nil hwu
     have hdc:d=c:=by
      rw [hdy] at hcr
      injection hcr with hcr
      exact hcr.symm
     have hsk:=g4 c r y rfl
     rw [←hdc,←hdy] at hsk
     refine ⟨u0++(w++u1),v1,by rw [g1,hcr];simp only [List.append_assoc],e2,?_,?_,?_⟩
     ·rw [e3,adv_app,g2,adv_app,adv_word w _ _ (by rw [hw];exact word_no10 h1),hwl]
     ·rw [e4,adv_app,g2,adv_app,adv_word w _ _ (by rw [hw];exact word_no10 h1),hwl]
     ·rw [List.take_succ_cons,←hm]
      refine Wds.word' hsk hwu (by rw [hm];exact h1) ?_
      rw [hk,List.drop_left' hwl]
      exact e5
def Tk.bare (x:Tk):Tk:={ x with ln:=0,cl:=0 }
def Good (w:List UInt8) (x:Tk):Prop:=w≠[]∧wlen w=w.length∧(meanW w).2=0∧(meanW w).1.bare=x.bare
theorem Wds.good {s:List UInt8} {L C:Nat} {T:List Tk} {E ln cl:Int} (h:Wds s L C T E ln cl):(∀ x∈T,Good (spellL x) x)∧(T.map fun x=>(spellL x).length).sum≤s.length:=by
 induction h with
 | done hs=>exact ⟨fun x hx=>(by cases hx),Nat.zero_le _⟩
 | bad hs h1=>exact ⟨fun x hx=>(by cases hx),Nat.zero_le _⟩
 | @word l L C c r L' C' T E ln cl hs h1 _ ih=>
   have hn:(c::r:List UInt8)≠[]:=by simp
   have hsp:spellL ((meanW (c::r)).1.at L' C')=(c::r).take (wlen (c::r)):=(show spellL ((meanW (c::r)).1.at L' C')=spellL (meanW (c::r)).1 from rfl).trans (spell_word h1)
   have hl:=take_len hn
   refine ⟨fun x hx=>?_,?_⟩
   ·rcases List.mem_cons.1 hx with rfl|hx
    ·rw [hsp]
     have hne:(c::r).take (wlen (c::r))≠[]:=by rw [take_cons (wlen_pos _)];simp
     have hle:wlen ((c::r).take (wlen (c::r))++(c::r).drop (wlen (c::r)))≤((c::r).take (wlen (c::r))).length:=by rw [List.take_append_drop,hl];exact Nat.le_refl _
     have hk:=(word_cut hne hle).2
     have hm:=mean_cut hne hle
     rw [List.take_append_drop] at hk hm
     exact ⟨hne,by rw [hk,hl],by rw [hm];exact h1,by rw [hm];rfl⟩
    ·exact ih.1 x hx
   ·rw [List.map_cons,List.sum_cons,hsp,hl]
    have h2:=ih.2
    rw [List.length_drop] at h2
    have h3:=skip_len false l L C
    rw [hs] at h3
    have h4:=wlen_le hn
    simp only at h3
    omega
theorem Wds.skip {l l':List UInt8} {L C L' C':Nat} {T:List Tk} {E ln cl:Int} (hs:skipL false l L C=skipL false l' L' C') (h:Wds l' L' C' T E ln cl):Wds l L C T E ln cl:=by
 cases h with
 | done g=>exact .done (hs.trans g)
 | bad g g0=>exact .bad (hs.trans g) g0
 | word g g0 g1=>exact .word (hs.trans g) g0 g1
end Go.Proofs.YtmkmafkkpigfpaaGreatDoor
namespace Go.Proofs.YtmkmafkkpigfpaaGreatDoor
open Go.ChangeShapes Go.WideShapes Go.ChangeAt Go.RowKit Go.Lib
set_option linter.unusedVariables false
set_option linter.unusedSimpArgs false
set_option maxRecDepth 100000
def CR (w:World) (v:Value) (n size:Nat) (cs:List Value):Prop:=
 ∃ oa cap,v=.slice oa n cap∧n≤cap∧cap≤maxLen∧cs.length=n*size∧∀ j u,cs[j]?=some u→∃ g o,oa=some ⟨g,o,none⟩∧g<w.heap.size∧w.cell? ⟨g,o+j,none⟩=some u
theorem CR.old {w w':World} {v:Value} {n size:Nat} {cs:List Value} (h:CR w v n size cs) (ho:Old w w'):CR w' v n size cs:=by
 obtain ⟨oa,cap,rfl,h1,h2,h3,h4⟩:=h
 refine ⟨oa,cap,rfl,h1,h2,h3,fun j u hj=>?_⟩
 obtain ⟨g,o,rfl,hg,c⟩:=h4 j u hj
 exact ⟨g,o,rfl,Nat.lt_of_lt_of_le hg ho.size,(ho.cell hg).trans c⟩
theorem run_appC {P:Program} (W:World) (base:Nat) (t ty e:TypeId) (i:TypeInfo) (z:Value) (size bytes:Nat) (ht:P.underlying t=some (.slice e)) (hi:P.info? e=some i) (hz:i.zero=some z)
 (hsize:i.size=size) (hby:i.bytes=bytes) (hzs:z.cells.size=size) (hsz:0<size)
 (v:Value) (n:Nat) (xs:List Value) (hown:W.ownsRow base e size v n xs)
 (vx:Value) (m:Nat) (cs:List Value) (hr:CR W vx m size cs) (h1:∀ u∈cs,u.oneCell'=true) (hlen:(n+m)*bytes≤140737488355328) (hlen2:n+m≤maxLen) (hbase:base≤W.heap.size) :
 ∃ v' w',(Builtin.append_ #[t,t] ty #[v,vx]).run P W=.ok v' w'∧w'.ownsRow base e size v' (n+m) (xs++cs)∧W.grownBy w' v.ownBlock∧(v'=.slice none 0 0↔v=.slice none 0 0∧m=0):=by
 obtain ⟨oa,cap,rfl,r1,r2,r3,r4⟩:=hr
 rcases Nat.eq_zero_or_pos m with h0|h0
 ·subst h0
  have hc:cs=[]:=List.eq_nil_of_length_eq_zero (by simpa using r3)
  subst hc
  refine ⟨v,W,?_,by simpa using hown,World.grownBy.refl W _,by simp⟩
  rcases hown.2 with ⟨rfl,rfl⟩|⟨g,cap',cur,rfl,_,_,hnc,_⟩
  ·rcases oa with _|a<;>simp [Builtin.append_,run_underlying ht,sizeOf,typeInfo,hi,Builtin.lenOf,Builtin.firstCells,loadCells,loadCellsFrom]
  ·rcases oa with _|a<;>simp [Builtin.append_,run_underlying ht,sizeOf,typeInfo,hi,Builtin.lenOf,Builtin.firstCells,hnc,storeCells,loadCells,loadCellsFrom]
 ·have hp:0<cs.length:=by rw [r3];exact Nat.mul_pos h0 hsz
  obtain ⟨g,o,rfl,hg,_⟩:=r4 0 _ (List.getElem?_eq_getElem hp)
  obtain ⟨v',w',hrun,h2,h3,h4⟩:=run_append_own (P:=P) W base t ty e i z size bytes ht hi hz hsize hby hzs hsz v n xs hown ⟨g,o,none⟩ m cap cs r3 (fun j u hj=>by
   obtain ⟨g',o',e',_,c⟩:=r4 j u hj
   simp only [Option.some.injEq,Addr.mk.injEq,and_true] at e'
   obtain ⟨rfl,rfl⟩:=e'
   rw [Addr.add_lit]
   exact c) h1 hlen2 hlen hbase
  exact ⟨v',w',hrun,h2,h3,h4⟩
theorem wpList_appC {P:Program} (W:World) {ops:Array Oper} {rest:List Oper} {o:Oper} {a:Act} {Q:Exit→Act→World→Prop} (hgd:o.guard=none) (s x:Operand) (t:TypeId)
 (ho:o.op=.call { callee:=.builtin .append,args:=#[s,x],argTypes:=#[t,t] })
 (base:Nat) (e:TypeId) (i:TypeInfo) (z:Value) (size bytes:Nat) (ht:P.underlying t=some (.slice e)) (hi:P.info? e=some i) (hz:i.zero=some z)
 (hsize:i.size=size) (hby:i.bytes=bytes) (hzs:z.cells.size=size) (hsz:0<size)
 (v:Value) (n:Nat) (xs:List Value) (hs:a.eval s=v) (hown:W.ownsRow base e size v n xs)
 (vx:Value) (m:Nat) (cs:List Value) (hx:a.eval x=vx) (hr:CR W vx m size cs) (h1:∀ u∈cs,u.oneCell'=true) (hlen:(n+m)*bytes≤140737488355328) (hlen2:n+m≤maxLen) (hbase:base≤W.heap.size)
 (h:∀ v' w',w'.ownsRow base e size v' (n+m) (xs++cs)→W.grownBy w' v.ownBlock→(v'=.slice none 0 0↔v=.slice none 0 0∧m=0)→wpList P ops Q rest (a.put o.dst v') w'):wpList P ops Q (o::rest) a W:=
 wpList_plain hgd fun K hK=>by
  obtain ⟨v',w',hrun,h2,h3,h4⟩:=run_appC (P:=P) W base t o.type e i z size bytes ht hi hz hsize hby hzs hsz v n xs hown vx m cs hr h1 hlen hlen2 hbase
  unfold Oper.wp execOp
  simp only [ho,resolve,invoke,builtin,Sem.run_bind,Sem.run_pure,Result.andThen_ok,List.map_toArray,List.map_cons,List.map_nil,hs,hx,hrun]
  exact hK _ _ (h v' w' h2 h3 h4)
theorem own_shape {w:World} {base n size:Nat} {e:TypeId} {v:Value} {cs:List Value} (h:w.ownsRow base e size v n cs):∃ oa cap,v=.slice oa n cap:=by
 rcases h.2 with ⟨rfl,rfl⟩|⟨g,cap,cur,rfl,_⟩
 ·exact ⟨_,_,rfl⟩
 ·exact ⟨_,_,rfl⟩
theorem own_low {w:World} {base base' n size:Nat} {e:TypeId} {v:Value} {cs:List Value} (h:w.ownsRow base e size v n cs) (hb:base'≤base):w.ownsRow base' e size v n cs:=by
 refine ⟨h.1,?_⟩
 rcases h.2 with h'|⟨g,cap,cur,rfl,hb',hg,hc⟩
 ·exact Or.inl h'
 ·exact Or.inr ⟨g,cap,cur,rfl,Nat.le_trans hb hb',hg,hc⟩
theorem own_old {w w':World} {base n size:Nat} {e:TypeId} {v:Value} {cs:List Value} (h:w.ownsRow base e size v n cs) (ho:Old w w'):w'.ownsRow base e size v n cs:=by
 refine ⟨h.1,?_⟩
 rcases h.2 with h'|⟨g,cap,cur,rfl,hb',hg,hc⟩
 ·exact Or.inl h'
 ·exact Or.inr ⟨g,cap,cur,rfl,hb',(ho.block g (blk_lt hg)).trans hg,hc⟩
def tcells:List Tk→List Value
 | []=>[]
 | x::l=>.int .u8 x.k::.string (st x.t)::.int .u8 x.vk::.int .i64 x.vn::.string (st x.vs)::.int .i64 x.ln::.int .i64 x.cl::tcells l
theorem tcells_app:∀ (a b:List Tk),tcells (a++b)=tcells a++tcells b
 | [],b=>rfl
 | x::a,b=>by rw [List.cons_append,tcells,tcells_app a b];rfl
theorem tcells_one:∀ (l:List Tk),∀ u∈tcells l,u.oneCell'=true
 | [],u,h=>by cases h
 | x::l,u,h=>by
   simp only [tcells,List.mem_cons] at h
   rcases h with rfl|rfl|rfl|rfl|rfl|rfl|rfl|h
   ·rfl
   ·rfl
   ·rfl
   ·rfl
   ·rfl
   ·rfl
   ·rfl
   ·exact tcells_one l u h
theorem cr_one7 {W:World} {b:Nat} {x0 x1 x2 x3 x4 x5 x6:Value} (h:Sv W b x0 x1 x2 x3 x4 x5 x6):CR W (.slice (some ⟨b,0,none⟩) 1 1) 1 7 [x0,x1,x2,x3,x4,x5,x6]:=by
 refine ⟨_,1,rfl,Nat.le_refl _,by unfold maxLen;omega,rfl,fun j u hj=>⟨b,0,rfl,blk_lt h,?_⟩⟩
 rw [h.c (0+j),Nat.zero_add]
 rw [←List.getElem?_toArray] at hj
 exact hj
theorem info33:(Tryz.prog.info? 64).map (fun i=>(i.zero,i.size,i.bytes))=some (some zeroV,7,72):=by kernel_rfl
theorem own_far {A:World} {base n size b o:Nat} {e t:TypeId} {v:Value} {cs:List Value} {cs':Array Value} {fr:Nat × Nat} (h:A.ownsRow base e size v n cs) (hb:A.heap[b]?=some (.cells cs' t fr)) (ht:t≠e) (u:Value):(A.setCell ⟨b,o,none⟩ u).ownsRow base e size v n cs:=by
 refine ⟨h.1,?_⟩
 rcases h.2 with h'|⟨g,cap,cur,rfl,hbs,hg,hc⟩
 ·exact Or.inl h'
 ·refine Or.inr ⟨g,cap,cur,rfl,hbs,(far_heap (fun e'=>?_)).trans hg,hc⟩
  rw [e',hg] at hb
  injection hb with hb
  injection hb with e1 e2 e3
  exact ht e2.symm
theorem Pl.set0 {w:World} {g:Nat} {L C:Int} (h:Pl w g L C) (u:Int):Pl (w.setCell ⟨g,0,none⟩ (.int .i64 u)) g u C:=by
 unfold Pl at *
 show (w.heap.modify g _)[g]?=_
 rw [Array.getElem?_modify,if_pos rfl,h]
 simp
theorem Pl.set1 {w:World} {g:Nat} {L C:Int} (h:Pl w g L C) (u:Int):Pl (w.setCell ⟨g,1,none⟩ (.int .i64 u)) g L u:=by
 unfold Pl at *
 show (w.heap.modify g _)[g]?=_
 rw [Array.getElem?_modify,if_pos rfl,h]
 simp
theorem size25:(Tryz.prog.info? 31).map (·.size)=some 2:=by kernel_rfl
attribute [local go_sem] Oper.semAt_some
end Go.Proofs.YtmkmafkkpigfpaaGreatDoor
