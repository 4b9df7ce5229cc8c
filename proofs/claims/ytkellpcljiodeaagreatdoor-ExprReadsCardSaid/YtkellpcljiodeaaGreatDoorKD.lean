/- Layer expr: comparisons; what stands ahead; levels by their methods. -/
import Derived.Test.YtkellpcljiodeaaGreatDoorKC
set_option maxHeartbeats 3200000
namespace Go.Proofs.YtkellpcljiodeaaGreatDoor
open Go.ChangeShapes Go.WideShapes Go.ChangeAt Go.RowKit Go.Lib
set_option linter.unusedVariables false
set_option linter.unusedSimpArgs false
set_option maxRecDepth 100000
theorem Res.told {w0:Wz} {w w':World} {b c o:Nat} {vw vm:Value} {A:List Tk} {T:List Nd} {X:Rz} {e:Ending} (h:Res w0 b vw vm A T c o w X e w') (hX:X≠.out):(∃ k:Nat,e=.returned (.int .i64 (k:Int))∧Hid (Res w0 b vw vm A T c o w X (.returned (.int .i64 (k:Int))) w'))∨(∃ er,e=pan er∧Hid (Res w0 b vw vm A T c o w X (pan er) w')):=by
 cases X with
 | out=>exact absurd rfl hX
 | ok ns r=>
   have h':=h
   obtain ⟨n',h1,h2,h3,h4⟩:=h
   exact Or.inl ⟨_,h3,hid (h3▸h')⟩
 | no er r=>
   have h':=h
   obtain ⟨n',h1,h2,h3,h4⟩:=h
   exact Or.inr ⟨er,h3,hid (h3▸h')⟩
section
variable {w0:Wz} {w:World} {b n c o:Nat} {vw vm vt:Value} {A:List Tk} {T:List Nd} {X:Rz}
theorem or_fwd (hX:X≠.out) (h:Calls Tryz.prog 97 #[.pointer (some ⟨b,0,none⟩),.int .i64 0] w (Res w0 b vw vm A T c o w X)):Calls Tryz.prog 56 #[.pointer (some ⟨b,0,none⟩)] w (Res w0 b vw vm A T c o w X):=by
 go_enter Tryz.func56,Tryz.ntmps56
 go_wp2_with (go_at_call 97;refine h.mono ?_;intro e w1 h1;rcases h1.told hX with ⟨k,rfl,h2⟩|⟨er,rfl,h2⟩<;>clear h1)
 ·go_ret
  exact h2.out
 ·exact ⟨rfl,h2.out⟩
theorem and_fwd (hX:X≠.out) (h:Calls Tryz.prog 97 #[.pointer (some ⟨b,0,none⟩),.int .i64 1] w (Res w0 b vw vm A T c o w X)):Calls Tryz.prog 57 #[.pointer (some ⟨b,0,none⟩)] w (Res w0 b vw vm A T c o w X):=by
 go_enter Tryz.func57,Tryz.ntmps57
 go_wp2_with (go_at_call 97;refine h.mono ?_;intro e w1 h1;rcases h1.told hX with ⟨k,rfl,h2⟩|⟨er,rfl,h2⟩<;>clear h1)
 ·go_ret
  exact h2.out
 ·exact ⟨rfl,h2.out⟩
theorem sum_fwd (hX:X≠.out) (h:Calls Tryz.prog 97 #[.pointer (some ⟨b,0,none⟩),.int .i64 4] w (Res w0 b vw vm A T c o w X)):Calls Tryz.prog 60 #[.pointer (some ⟨b,0,none⟩)] w (Res w0 b vw vm A T c o w X):=by
 go_enter Tryz.func60,Tryz.ntmps60
 go_wp2_with (go_at_call 97;refine h.mono ?_;intro e w1 h1;rcases h1.told hX with ⟨k,rfl,h2⟩|⟨er,rfl,h2⟩<;>clear h1)
 ·go_ret
  exact h2.out
 ·exact ⟨rfl,h2.out⟩
theorem prod_fwd (hX:X≠.out) (h:Calls Tryz.prog 97 #[.pointer (some ⟨b,0,none⟩),.int .i64 5] w (Res w0 b vw vm A T c o w X)):Calls Tryz.prog 61 #[.pointer (some ⟨b,0,none⟩)] w (Res w0 b vw vm A T c o w X):=by
 go_enter Tryz.func61,Tryz.ntmps61
 go_wp2_with (go_at_call 97;refine h.mono ?_;intro e w1 h1;rcases h1.told hX with ⟨k,rfl,h2⟩|⟨er,rfl,h2⟩<;>clear h1)
 ·go_ret
  exact h2.out
 ·exact ⟨rfl,h2.out⟩
theorem not_fwd (hX:X≠.out) (h:Calls Tryz.prog 98 #[.pointer (some ⟨b,0,none⟩),.int .i64 2,.string ⟨#[110,111,116]⟩,.int .u8 6] w (Res w0 b vw vm A T c o w X)):Calls Tryz.prog 58 #[.pointer (some ⟨b,0,none⟩)] w (Res w0 b vw vm A T c o w X):=by
 go_enter Tryz.func58,Tryz.ntmps58
 go_wp2_with (go_at_call 98;refine h.mono ?_;intro e w1 h1;rcases h1.told hX with ⟨k,rfl,h2⟩|⟨er,rfl,h2⟩<;>clear h1)
 ·go_ret
  exact h2.out
 ·exact ⟨rfl,h2.out⟩
theorem minus_fwd (hX:X≠.out) (h:Calls Tryz.prog 98 #[.pointer (some ⟨b,0,none⟩),.int .i64 6,.string ⟨#[45]⟩,.int .u8 17] w (Res w0 b vw vm A T c o w X)):Calls Tryz.prog 62 #[.pointer (some ⟨b,0,none⟩)] w (Res w0 b vw vm A T c o w X):=by
 go_enter Tryz.func62,Tryz.ntmps62
 go_wp2_with (go_at_call 98;refine h.mono ?_;intro e w1 h1;rcases h1.told hX with ⟨k,rfl,h2⟩|⟨er,rfl,h2⟩<;>clear h1)
 ·go_ret
  exact h2.out
 ·exact ⟨rfl,h2.out⟩
theorem expr_fwd (hX:X≠.out) (H:RdB w b vw n o vt vm) (h:Calls Tryz.prog 56 #[.pointer (some ⟨b,0,none⟩)] w (Res w0 b vw vm A T c o w X)):Calls Tryz.prog 65 #[.pointer (some ⟨b,0,none⟩)] w (Res w0 b vw vm A T c o w X):=by
 have c4:=H.c 4
 go_enter Tryz.func65,Tryz.ntmps65
 go_wp2_with (go_at_call 56;refine h.mono ?_;intro e w1 h1;rcases h1.told hX with ⟨k,rfl,h2⟩|⟨er,rfl,h2⟩<;>clear h1)
 ·go_ret
  exact h2.out
 ·exact ⟨rfl,h2.out⟩
end
end Go.Proofs.YtkellpcljiodeaaGreatDoor
namespace Go.Proofs.YtkellpcljiodeaaGreatDoor
open Go.ChangeShapes Go.WideShapes Go.ChangeAt Go.RowKit Go.Lib
set_option linter.unusedVariables false
set_option linter.unusedSimpArgs false
set_option maxRecDepth 100000
theorem cmp_any {w0:Wz} {w:World} {b n o F:Nat} {vw vm vt:Value} {A:List Tk} {T:List Nd} (ih:Lv w0 b vw vm A F) (H:Rr w0 b vw vm A T n o vt w) (hn:n≤A.length) (hA:A.length≤200000) (ho:o≤12) (hTn:T.length≤n)
 (hout:cmpP (P F) o (A.drop n)≠.out):Calls Tryz.prog 59 #[.pointer (some ⟨b,0,none⟩)] w (Res w0 b vw vm A T n o w (cmpP (P F) o (A.drop n))):=by
 unfold cmpP at hout ⊢
 have hne:=bnd_out hout
 have hih:=ih 4 o n T vt w (by omega) ho hn hTn H hne
 have c8:=H.rd.c 8
 cases hP:P F (.lvl 4) o (A.drop n) with
 | out=>exact absurd hP hne
 | no er r=>
   rw [hP] at hih
   have HIH:=hid (calls_no hih)
   have HC:=hid (Cg.refl (N0:=w0.heap.size) (b:=b) w)
   clear hih hne hP ih hout H
   go_enter Tryz.func59,Tryz.ntmps59
   go_wp2_with (go_at_call 60;refine HIH.out.mono ?_;rintro e w1 ⟨rfl,h1⟩;have H1:=hid (h1.out _ T n o HC.out);clear h1)
   exact ⟨rfl,H1.out⟩
 | ok ns r=>
   rw [hP] at hih
   obtain ⟨R,hR⟩:∃ R,R=T.length+ns.length-1:=⟨_,rfl⟩
   have HIH:=hid (calls_rt hih hR)
   have HI:=hid (show ∀ (m:Nat) (w1:World),Rt w0 b vw vm A T n o w ns r m w1→Calls Tryz.prog 99 #[.pointer (some ⟨b,0,none⟩),.int .i64 ((3:Nat):Int)] w1 fun e w'=>e=.returned (.int .u8 (inL 3 r:Nat))∧Old w1 w' from fun m w1 h=>by
    obtain ⟨vt',hrr⟩:=h.ok
    rw [h.hr]
    exact infix_any hrr h.hm hA 3)
   rw [hP] at hout
   by_cases hz:inL 3 r=0
   ·rw [hz] at HI
    have HE:=hid (show ∀ (m:Nat) (w1 w2:World),Rt w0 b vw vm A T n o w ns r m w1→Old w1 w2→Res w0 b vw vm A T n o w (.ok ns r) (.returned (.int .i64 (R:Int))) w2 from fun m w1 w2 h ho=>by
     obtain ⟨vt',hrr⟩:=h.ok
     exact ⟨m,h.hr,h.hm,by rw [hR],h.cg.trans (Cg.ofOld ho),⟨vt',hrr.oldw ho⟩,h.pos,h.le⟩)
    show Calls _ _ _ _ (Res w0 b vw vm A T n o w (if inL 3 r=0 then .ok ns r else pairP (P F) 3 ns o r))
    rw [if_pos hz]
    clear hih hne hP ih hout H hR hz
    go_enter Tryz.func59,Tryz.ntmps59
    go_wp2_with (first
     | (go_at_call 60;refine HIH.out.mono ?_;rintro e w1 ⟨m,rfl,h1⟩)
     | (go_at_call 99;refine (HI.out _ _ h1.out).mono ?_;rintro e w2 ⟨rfl,o2⟩;have H2:=hid (HE.out _ _ _ h1.out o2);clear o2))
    go_ret
    exact H2.out
   ·show Calls _ _ _ _ (Res w0 b vw vm A T n o w (if inL 3 r=0 then .ok ns r else pairP (P F) 3 ns o r))
    rw [if_neg hz]
    have hne3:pairP (P F) 3 ns o r≠.out:=by
     intro e
     refine hout ?_
     show (if inL 3 r=0 then Rz.ok ns r else pairP (P F) 3 ns o r)=.out
     rw [if_neg hz,e]
    have HE:=hid (show ∀ (m:Nat) (w1 w2:World),Rt w0 b vw vm A T n o w ns r m w1→Old w1 w2→Calls Tryz.prog 100 #[.pointer (some ⟨b,0,none⟩),.int .i64 ((3:Nat):Int),.int .i64 (R:Int)] w2 (Res w0 b vw vm A T n o w (pairP (P F) 3 ns o r)) from fun m w1 w2 h ho2=>by
     obtain ⟨vt',hrr⟩:=h.ok
     have hle:=h.le
     have hr:=h.hr
     rw [hr] at hz hne3 ⊢
     rw [hR]
     refine (pairs_any (c:=n) ih (hrr.oldw ho2) hA ho (by rw [List.length_append];omega) hle (by omega) hz hne3).mono ?_
     intro e w' hh
     exact Res.pre (h.cg.trans (Cg.ofOld ho2)) hh)
    obtain ⟨q,hq⟩:∃ q,q=inL 3 r:=⟨_,rfl⟩
    have hq0:¬ (q:Int)=0:=by omega
    rw [←hq] at HI
    have HN3:=hid hne3
    clear hih hne hP ih hout H hR hz hq hne3
    go_enter Tryz.func59,Tryz.ntmps59
    go_wp2_with (first
     | (go_at_call 60;refine HIH.out.mono ?_;rintro e w1 ⟨m,rfl,h1⟩)
     | (go_at_call 99;refine (HI.out _ _ h1.out).mono ?_;rintro e w2 ⟨rfl,o2⟩;have O2:=hid o2;clear o2)
     | (go_at_call 100;refine (HE.out _ _ _ h1.out O2.out).mono ?_;intro e w3 h3;rcases h3.told HN3.out with ⟨k,rfl,h4⟩|⟨er,rfl,h4⟩<;>clear h3))
    ·go_ret
     exact h4.out
    ·exact ⟨rfl,h4.out⟩
end Go.Proofs.YtkellpcljiodeaaGreatDoor
namespace Go.Proofs.YtkellpcljiodeaaGreatDoor
open Go.ChangeShapes Go.WideShapes Go.ChangeAt Go.RowKit Go.Lib
set_option linter.unusedVariables false
set_option linter.unusedSimpArgs false
set_option maxRecDepth 100000
theorem enter_at {w0:Wz} {w:World} {b n o:Nat} {vw vm vt:Value} {A:List Tk} {T:List Nd} (H:Rr w0 b vw vm A T n o vt w) (hn:n≤A.length) (hA:A.length≤200000) (ho:o≤12) (h12:o≠12) {k xk xn ln cl:Int} {t xs:List UInt8} (hx:wordL (A.drop n)=⟨k,t,xk,xn,xs,ln,cl⟩) :
 Calls Tryz.prog 140 #[.pointer (some ⟨b,0,none⟩)] w fun e w'=>e=.returned (.agg #[.int .u8 k,.string (st t),.int .u8 xk,.int .i64 xn,.string (st xs),.int .i64 ln,.int .i64 cl])∧Chx (·= b) w w'∧Rr w0 b vw vm A T (n+1) (o+1) vt w':=by
 refine (enter_any H hn hA ho).mono ?_
 intro e w' h
 rw [if_neg h12,hx] at h
 exact ⟨h.1,h.2.1,H.chx h.2.1 h.2.2⟩
theorem enter_no {w0:Wz} {w:World} {b n o:Nat} {vw vm vt:Value} {A:List Tk} {T:List Nd} (H:Rr w0 b vw vm A T n o vt w) (hn:n≤A.length) (hA:A.length≤200000) (h12:o=12) :
 Calls Tryz.prog 140 #[.pointer (some ⟨b,0,none⟩)] w fun e w'=>e=pan 12∧Old w w':=by
 refine (enter_any H hn hA (by omega)).mono ?_
 intro e w' h
 rw [if_pos h12] at h
 exact h
theorem one_add {w0:Wz} {w3:World} {b n o o' m R:Nat} {vw vm:Value} {A:List Tk} {T ns:List Nd} {r:List Tk} {w:World} (h:Rt w0 b vw vm A T n (o+1) w ns r m w3) (hR:R=T.length+ns.length-1) (opn:Nat) (ln cl:Int) (hA:A.length≤200000) (hT:T.length≤n) :
 Calls Tryz.prog 141 #[.pointer (some ⟨b,0,none⟩),.agg #[.int .u8 (opn:Int),.int .u8 0,.int .i64 0,.string ⟨#[]⟩,.string ⟨#[]⟩,.slice (some ⟨w3.heap.size,0,none⟩) 1 1,.int .i64 ln,.int .i64 cl]] ((w3.setCell ⟨b,2,none⟩ (.int .i64 (o:Int))).alloc (.cells #[.int .i64 (R:Int)] 3)) fun e w'=>
  ∃ Z:Nat,e=.returned (.int .i64 (Z:Int))∧Z=(T++ns).length∧Cg w0.heap.size b w3 w'∧Rok w0 b vw vm A (T++ns++[⟨opn,0,0,[],[],[1],ln,cl⟩]) m o w':=by
 obtain ⟨vt,hrr⟩:=h.ok
 have hcs:Chx (·= b) w3 (w3.setCell ⟨b,2,none⟩ (.int .i64 (o:Int))):=Chx.ofSet w3 ⟨b,2,none⟩ _
 have hr2:=hrr.chx hcs (hrr.rd.set2 (o:Int))
 have hsz:(w3.setCell ⟨b,2,none⟩ (.int .i64 (o:Int))).heap.size=w3.heap.size:=by simp [World.setCell]
 have ho:=(Old.refl (w3.setCell ⟨b,2,none⟩ (.int .i64 (o:Int)))).alloc (.cells #[.int .i64 (R:Int)] 3)
 have hl:=h.le
 have hm:=h.hm
 have hk:=kr_new (w:=w3.setCell ⟨b,2,none⟩ (.int .i64 (o:Int))) hr2.ri.old.size [R] (by simp) #[.int .i64 (R:Int)] rfl
 have e1:[R]=[1].map ((T++ns).length-·):=by
  simp only [List.map_cons,List.map_nil,List.length_append]
  rw [hR]
 rw [hsz,e1] at hk
 refine (add_any (hr2.oldw ho) ⟨opn,0,0,[],[],[1],ln,cl⟩ _ ⟨hk,fun g e hs=>by have:=hr2.ri.sb g hs;simp [Value.ownBlock] at e;omega⟩ (by rw [List.length_append];omega)).mono ?_
 rintro e w' ⟨h1,h2,h3⟩
 exact ⟨_,h1,rfl,((Cg.ofChx hcs).trans (Cg.ofOld ho)).trans h2,h3⟩
theorem one_done {w0:Wz} {w w1 w3 w4:World} {b n c o m:Nat} {vw vm:Value} {A:List Tk} {T ns:List Nd} {r:List Tk} {x:Nd} (h:Rt w0 b vw vm A T n (o+1) w1 ns r m w3) (c1:Cg w0.heap.size b w w1) (c2:Cg w0.heap.size b w3 w4) (hr:Rok w0 b vw vm A (T++ns++[x]) m o w4) (hc:c+1≤n) {Z:Nat} (hZ:Z=(T++ns).length) :
 Res w0 b vw vm A T c o w (.ok (ns++[x]) r) (.returned (.int .i64 (Z:Int))) w4:=by
 subst hZ
 refine ⟨m,h.hr,h.hm,?_,(c1.trans h.cg).trans c2,?_,by simp,?_⟩
 ·congr 3
  simp
 ·rw [←List.append_assoc]
  exact hr
 ·have:=h.le
  simp
  omega
theorem not_any {w0:Wz} {w:World} {b n o F:Nat} {vw vm vt:Value} {A:List Tk} {T:List Nd} (ih:Lv w0 b vw vm A F) (H:Rr w0 b vw vm A T n o vt w) (hn:n≤A.length) (hA:A.length≤200000) (ho:o≤12) (hTn:T.length≤n)
 (hout:preP (P F) 2 o (A.drop n)≠.out):Calls Tryz.prog 98 #[.pointer (some ⟨b,0,none⟩),.int .i64 2,.string ⟨#[110,111,116]⟩,.int .u8 6] w (Res w0 b vw vm A T n o w (preP (P F) 2 o (A.drop n))):=by
 have hi:=is_any H hn hA [110,111,116]
 have HH:=hid H
 unfold preP at hout ⊢
 rw [show preW 2=[110,111,116] from rfl,show preO 2=6 from rfl] at *
 have HC:=hid (Cg.refl (N0:=w0.heap.size) (b:=b) w)
 cases hb:isL [110,111,116] (A.drop n)
 ·rw [hb] at hi hout
  simp only [if_true] at hout ⊢
  have HIH:=hid (show ∀ W,Old w W→Calls Tryz.prog 59 #[.pointer (some ⟨b,0,none⟩)] W (Res w0 b vw vm A T n o W (P F (.lvl 3) o (A.drop n))) from fun W h=>ih 3 o n T vt W (by omega) ho hn hTn (HH.out.oldw h) hout)
  have HN:=hid hout
  clear ih H hout hb
  go_enter Tryz.func98,Tryz.ntmps98
  go_wp2_with (first
   | (go_at_call 139;refine hi.mono ?_;rintro e w1 ⟨rfl,o1⟩;have O1:=hid o1;have c:=(HH.out.rd.old o1).c 7;clear o1)
   | (go_at_call 59;refine (HIH.out _ O1.out).mono ?_;intro e w2 h2;replace h2:=Res.pre (Cg.ofOld O1.out) h2;rcases h2.told HN.out with ⟨k,rfl,h4⟩|⟨er,rfl,h4⟩<;>clear h2))
  ·go_ret
   exact h4.out
  ·exact ⟨rfl,h4.out⟩
 ·rw [hb] at hi hout
  have hlt:=drop_lt (isL_ne hb)
  simp only [Bool.true_eq_false,if_false] at hout ⊢
  by_cases h12:o=12
  ·rw [if_pos h12]
   have HE:=hid (show ∀ W,Old w W→Calls Tryz.prog 140 #[.pointer (some ⟨b,0,none⟩)] W fun e w'=>e=pan 12∧Old W w' from fun W h=>enter_no (HH.out.oldw h) hn hA h12)
   have HD:=hid (show ∀ w',Old w w'→Res w0 b vw vm A T n o w (.no 12 (A.drop n)) (pan 12) w' from fun w' h=>⟨n,rfl,hn,rfl,Cg.ofOld h,o,vt,HH.out.rd.old h⟩)
   clear ih H hout hb h12
   go_enter Tryz.func98,Tryz.ntmps98
   go_wp2_with (first
    | (go_at_call 139;refine hi.mono ?_;rintro e w1 ⟨rfl,o1⟩;have O1:=hid o1;clear o1)
    | (go_at_call 140;refine (HE.out _ O1.out).mono ?_;rintro e w2 ⟨rfl,o2⟩;have H2:=hid (HD.out _ (O1.out.trans o2));clear o2))
   exact ⟨rfl,H2.out⟩
  ·rw [if_neg h12,drop_tl] at hout ⊢
   obtain ⟨x,hx⟩:∃ x,wordL (A.drop n)=x:=⟨_,rfl⟩
   obtain ⟨k,t,xk,xn,xs,ln,cl⟩:=x
   have hfl:=fld_at k xk xn ln cl (st t) (st xs)
   have HE:=hid (show ∀ W,Old w W→Calls Tryz.prog 140 #[.pointer (some ⟨b,0,none⟩)] W fun e w'=>e=.returned (.agg #[.int .u8 k,.string (st t),.int .u8 xk,.int .i64 xn,.string (st xs),.int .i64 ln,.int .i64 cl])∧Chx (·= b) W w'∧Rr w0 b vw vm A T (n+1) (o+1) vt w' from fun W h=>enter_at (HH.out.oldw h) hn hA ho h12 hx)
   rw [hx]
   have hne:=bnd_out hout
   have hih:=fun W (h:Rr w0 b vw vm A T (n+1) (o+1) vt W)=>ih 2 (o+1) (n+1) T vt W (by omega) (by omega) hlt (Nat.le_succ_of_le hTn) h hne
   have HT1:=hid (Nat.le_succ_of_le hTn)
   have HLE:=hid (Nat.le_refl (n+1))
   cases hP:P F (.lvl 2) (o+1) (A.drop (n+1)) with
   | out=>exact absurd hP hne
   | no er r=>
     rw [hP] at hih
     have HIH:=hid (fun W (h:Rr w0 b vw vm A T (n+1) (o+1) vt W)=>calls_no (hih W h))
     clear ih H hout hb h12 hih hP hne hx
     go_enter Tryz.func98,Tryz.ntmps98
     go_wp2_with (first
      | (go_at_call 139;refine hi.mono ?_;rintro e w1 ⟨rfl,o1⟩;have O1:=hid o1;clear o1)
      | (go_at_call 140;refine (HE.out _ O1.out).mono ?_;rintro e w2 ⟨rfl,h2,h3⟩;have H2:=hid (h3.oldw ((Old.refl w2).alloc (.cells #[.int .i64 ln,.int .i64 cl] 26)));have C2:=hid ((Cg.ofChx (N0:=w0.heap.size) ((Chx.ofOld O1.out).trans h2)).trans (Cg.ofOld ((Old.refl w2).alloc (.cells #[.int .i64 ln,.int .i64 cl] 26))));have c:=H2.out.rd.c 6;clear h2 h3)
      | (go_at_call 58;refine (HIH.out _ H2.out).mono ?_;rintro e w3 ⟨rfl,h3⟩;have H3:=hid (h3.out _ T n o C2.out);clear h3))
     exact ⟨rfl,H3.out⟩
   | ok ns r=>
     rw [hP] at hih
     obtain ⟨R,hR⟩:∃ R,R=T.length+ns.length-1:=⟨_,rfl⟩
     have HIH:=hid (fun W (h:Rr w0 b vw vm A T (n+1) (o+1) vt W)=>calls_rt (hih W h) hR)
     have HRR:=hid hR
     clear ih H hout hb h12 hih hP hne hx hR
     go_enter Tryz.func98,Tryz.ntmps98
     go_wp2_with (first
      | (go_at_call 139;refine hi.mono ?_;rintro e w1 ⟨rfl,o1⟩;have O1:=hid o1;clear o1)
      | (go_at_call 140;refine (HE.out _ O1.out).mono ?_;rintro e w2 ⟨rfl,h2,h3⟩;have HPL:=hid (show Pl (w2.alloc (.cells #[.int .i64 ln,.int .i64 cl] 26)) w2.heap.size ln cl from (MapKept.heap_alloc w2 _).1);have H2:=hid (h3.oldw ((Old.refl w2).alloc (.cells #[.int .i64 ln,.int .i64 cl] 26)));have C2:=hid ((Cg.ofChx (N0:=w0.heap.size) ((Chx.ofOld O1.out).trans h2)).trans (Cg.ofOld ((Old.refl w2).alloc (.cells #[.int .i64 ln,.int .i64 cl] 26))));have c:=H2.out.rd.c 6;clear h2 h3)
      | (go_at_call 58;refine (HIH.out _ H2.out).mono ?_;rintro e w3 ⟨m,rfl,h3⟩;obtain ⟨vt3,hrr⟩:=h3.out.ok;have r2:=hrr.rd.c 2;have f2:=hrr.rd.f 2;replace HPL:=hid (pl_cg HPL.out H2.out.rd h3.out.cg);have hbn:=hrr.rd.ne HPL.out (by decide);have z:=((show Pl (w3.setCell ⟨b,2,none⟩ (.int .i64 (o:Int))) w2.heap.size ln cl from (far_heap (Ne.symm hbn)).trans HPL.out).old ((Old.refl _).alloc (.cells #[.int .i64 (R:Int)] 3)));have z0:=z.c0;have z1:=z.c1;clear z;have HVT:=hid hrr;clear hrr)
      | (go_at_call 141;refine (one_add (o':=0) h3.out HRR.out 6 ln cl hA HT1.out).mono ?_;rintro e w4 ⟨Z,rfl,hZ,h4,h5⟩;have H4:=hid (one_done h3.out C2.out h4 h5 HLE.out hZ);clear h4 h5 hZ))
     go_ret
     exact H4.out
theorem minus_any {w0:Wz} {w:World} {b n o F:Nat} {vw vm vt:Value} {A:List Tk} {T:List Nd} (ih:Lv w0 b vw vm A F) (H:Rr w0 b vw vm A T n o vt w) (hn:n≤A.length) (hA:A.length≤200000) (ho:o≤12) (hTn:T.length≤n)
 (hout:preP (P F) 6 o (A.drop n)≠.out):Calls Tryz.prog 98 #[.pointer (some ⟨b,0,none⟩),.int .i64 6,.string ⟨#[45]⟩,.int .u8 17] w (Res w0 b vw vm A T n o w (preP (P F) 6 o (A.drop n))):=by
 have hi:=is_any H hn hA [45]
 have HH:=hid H
 unfold preP at hout ⊢
 rw [show preW 6=[45] from rfl,show preO 6=17 from rfl] at *
 have HC:=hid (Cg.refl (N0:=w0.heap.size) (b:=b) w)
 cases hb:isL [45] (A.drop n)
 ·rw [hb] at hi hout
  simp only [if_true] at hout ⊢
  have HIH:=hid (show ∀ W,Old w W→Calls Tryz.prog 63 #[.pointer (some ⟨b,0,none⟩)] W (Res w0 b vw vm A T n o W (P F (.lvl 7) o (A.drop n))) from fun W h=>ih 7 o n T vt W (by omega) ho hn hTn (HH.out.oldw h) hout)
  have HN:=hid hout
  clear ih H hout hb
  go_enter Tryz.func98,Tryz.ntmps98
  go_wp2_with (first
   | (go_at_call 139;refine hi.mono ?_;rintro e w1 ⟨rfl,o1⟩;have O1:=hid o1;have c:=(HH.out.rd.old o1).c 11;clear o1)
   | (go_at_call 63;refine (HIH.out _ O1.out).mono ?_;intro e w2 h2;replace h2:=Res.pre (Cg.ofOld O1.out) h2;rcases h2.told HN.out with ⟨k,rfl,h4⟩|⟨er,rfl,h4⟩<;>clear h2))
  ·go_ret
   exact h4.out
  ·exact ⟨rfl,h4.out⟩
 ·rw [hb] at hi hout
  have hlt:=drop_lt (isL_ne hb)
  simp only [Bool.true_eq_false,if_false] at hout ⊢
  by_cases h12:o=12
  ·rw [if_pos h12]
   have HE:=hid (show ∀ W,Old w W→Calls Tryz.prog 140 #[.pointer (some ⟨b,0,none⟩)] W fun e w'=>e=pan 12∧Old W w' from fun W h=>enter_no (HH.out.oldw h) hn hA h12)
   have HD:=hid (show ∀ w',Old w w'→Res w0 b vw vm A T n o w (.no 12 (A.drop n)) (pan 12) w' from fun w' h=>⟨n,rfl,hn,rfl,Cg.ofOld h,o,vt,HH.out.rd.old h⟩)
   clear ih H hout hb h12
   go_enter Tryz.func98,Tryz.ntmps98
   go_wp2_with (first
    | (go_at_call 139;refine hi.mono ?_;rintro e w1 ⟨rfl,o1⟩;have O1:=hid o1;clear o1)
    | (go_at_call 140;refine (HE.out _ O1.out).mono ?_;rintro e w2 ⟨rfl,o2⟩;have H2:=hid (HD.out _ (O1.out.trans o2));clear o2))
   exact ⟨rfl,H2.out⟩
  ·rw [if_neg h12,drop_tl] at hout ⊢
   obtain ⟨x,hx⟩:∃ x,wordL (A.drop n)=x:=⟨_,rfl⟩
   obtain ⟨k,t,xk,xn,xs,ln,cl⟩:=x
   have hfl:=fld_at k xk xn ln cl (st t) (st xs)
   have HE:=hid (show ∀ W,Old w W→Calls Tryz.prog 140 #[.pointer (some ⟨b,0,none⟩)] W fun e w'=>e=.returned (.agg #[.int .u8 k,.string (st t),.int .u8 xk,.int .i64 xn,.string (st xs),.int .i64 ln,.int .i64 cl])∧Chx (·= b) W w'∧Rr w0 b vw vm A T (n+1) (o+1) vt w' from fun W h=>enter_at (HH.out.oldw h) hn hA ho h12 hx)
   rw [hx]
   have hne:=bnd_out hout
   have hih:=fun W (h:Rr w0 b vw vm A T (n+1) (o+1) vt W)=>ih 6 (o+1) (n+1) T vt W (by omega) (by omega) hlt (Nat.le_succ_of_le hTn) h hne
   have HT1:=hid (Nat.le_succ_of_le hTn)
   have HLE:=hid (Nat.le_refl (n+1))
   cases hP:P F (.lvl 6) (o+1) (A.drop (n+1)) with
   | out=>exact absurd hP hne
   | no er r=>
     rw [hP] at hih
     have HIH:=hid (fun W (h:Rr w0 b vw vm A T (n+1) (o+1) vt W)=>calls_no (hih W h))
     clear ih H hout hb h12 hih hP hne hx
     go_enter Tryz.func98,Tryz.ntmps98
     go_wp2_with (first
      | (go_at_call 139;refine hi.mono ?_;rintro e w1 ⟨rfl,o1⟩;have O1:=hid o1;clear o1)
      | (go_at_call 140;refine (HE.out _ O1.out).mono ?_;rintro e w2 ⟨rfl,h2,h3⟩;have H2:=hid (h3.oldw ((Old.refl w2).alloc (.cells #[.int .i64 ln,.int .i64 cl] 26)));have C2:=hid ((Cg.ofChx (N0:=w0.heap.size) ((Chx.ofOld O1.out).trans h2)).trans (Cg.ofOld ((Old.refl w2).alloc (.cells #[.int .i64 ln,.int .i64 cl] 26))));have c:=H2.out.rd.c 10;clear h2 h3)
      | (go_at_call 62;refine (HIH.out _ H2.out).mono ?_;rintro e w3 ⟨rfl,h3⟩;have H3:=hid (h3.out _ T n o C2.out);clear h3))
     exact ⟨rfl,H3.out⟩
   | ok ns r=>
     rw [hP] at hih
     obtain ⟨R,hR⟩:∃ R,R=T.length+ns.length-1:=⟨_,rfl⟩
     have HIH:=hid (fun W (h:Rr w0 b vw vm A T (n+1) (o+1) vt W)=>calls_rt (hih W h) hR)
     have HRR:=hid hR
     clear ih H hout hb h12 hih hP hne hx hR
     go_enter Tryz.func98,Tryz.ntmps98
     go_wp2_with (first
      | (go_at_call 139;refine hi.mono ?_;rintro e w1 ⟨rfl,o1⟩;have O1:=hid o1;clear o1)
      | (go_at_call 140;refine (HE.out _ O1.out).mono ?_;rintro e w2 ⟨rfl,h2,h3⟩;have HPL:=hid (show Pl (w2.alloc (.cells #[.int .i64 ln,.int .i64 cl] 26)) w2.heap.size ln cl from (MapKept.heap_alloc w2 _).1);have H2:=hid (h3.oldw ((Old.refl w2).alloc (.cells #[.int .i64 ln,.int .i64 cl] 26)));have C2:=hid ((Cg.ofChx (N0:=w0.heap.size) ((Chx.ofOld O1.out).trans h2)).trans (Cg.ofOld ((Old.refl w2).alloc (.cells #[.int .i64 ln,.int .i64 cl] 26))));have c:=H2.out.rd.c 10;clear h2 h3)
      | (go_at_call 62;refine (HIH.out _ H2.out).mono ?_;rintro e w3 ⟨m,rfl,h3⟩;obtain ⟨vt3,hrr⟩:=h3.out.ok;have r2:=hrr.rd.c 2;have f2:=hrr.rd.f 2;replace HPL:=hid (pl_cg HPL.out H2.out.rd h3.out.cg);have hbn:=hrr.rd.ne HPL.out (by decide);have z:=((show Pl (w3.setCell ⟨b,2,none⟩ (.int .i64 (o:Int))) w2.heap.size ln cl from (far_heap (Ne.symm hbn)).trans HPL.out).old ((Old.refl _).alloc (.cells #[.int .i64 (R:Int)] 3)));have z0:=z.c0;have z1:=z.c1;clear z;have HVT:=hid hrr;clear hrr)
      | (go_at_call 141;refine (one_add (o':=0) h3.out HRR.out 17 ln cl hA HT1.out).mono ?_;rintro e w4 ⟨Z,rfl,hZ,h4,h5⟩;have H4:=hid (one_done h3.out C2.out h4 h5 HLE.out hZ);clear h4 h5 hZ))
     go_ret
     exact H4.out
end Go.Proofs.YtkellpcljiodeaaGreatDoor
namespace Go.Proofs.YtkellpcljiodeaaGreatDoor
open Go.ChangeShapes Go.WideShapes Go.ChangeAt Go.RowKit Go.Lib
set_option linter.unusedVariables false
set_option linter.unusedSimpArgs false
set_option maxRecDepth 100000
abbrev cagg (c:Nat × Nat × Nat):Value:=.agg #[.int .u8 c.1,.int .i64 c.2.1,.int .i64 c.2.2]
theorem cents_snoc (x:List UInt8 × Nat × Nat × Nat):∀ (l:List (List UInt8 × Nat × Nat × Nat)) (n:Nat),cents (l++[x]) n=cents l n++[⟨.string (st x.1),cagg x.2,n+l.length⟩]
 | [],n=>rfl
 | y::l,n=>by
   show _::cents (l++[x]) (n+1)=_::(cents l (n+1)++_)
   rw [cents_snoc x l (n+1),List.length_cons,Nat.add_assoc n 1,Nat.add_comm 1]
def lookT (s:List UInt8):List (List UInt8 × Nat × Nat × Nat)→Option (Nat × Nat × Nat)
 | []=>none
 | x::l=>if s=x.1 then some x.2 else lookT s l
theorem look_call (s:List UInt8):lookT s callT=callL s:=rfl
theorem find_cents (s:List UInt8):∀ (l:List (List UInt8 × Nat × Nat × Nat)) (n i:Nat),∃ r,Instr.findNow .string (.string (st s)) (cents l n) i=some r∧r.map (·.2)=(lookT s l).map cagg
 | [],n,i=>⟨none,rfl,rfl⟩
 | y::l,n,i=>by
   obtain ⟨r,h1,h2⟩:=find_cents s l (n+1) (i+1)
   by_cases e:s=y.1
   ·refine ⟨some (i,cagg y.2),?_,?_⟩
    ·show (match Instr.sameNow .string (.string (st s)) (.string (st y.1)) with|some true=>_|some false=>_|none=>_)=_
     have e2:(st s==st y.1)=true:=by rw [e,st_beq];exact beq_self_eq_true _
     simp only [Instr.sameNow,e2]
    ·rw [lookT,if_pos e];rfl
   ·refine ⟨r,?_,?_⟩
    ·show (match Instr.sameNow .string (.string (st s)) (.string (st y.1)) with|some true=>_|some false=>_|none=>_)=_
     have e2:(st s==st y.1)=false:=by rw [st_beq];exact beq_false_of_ne e
     simp only [Instr.sameNow,e2]
     exact h1
    ·rw [lookT,if_neg e];exact h2
theorem run_cput {w:World} {B:Nat} {es:Array MapEntry} {clock:Nat} (s:ByteArray) (v:Value) (hb:w.heap[B]?=some (.map es clock)) (hf:Instr.findNow .string (.string s) es.toList 0=some none) :
 ∃ w',(Instr.mapUpdate 79 (.map (some B)) (.string s) v).run Tryz.prog w=.ok () w'∧w'.heap[B]?=some (.map (es.push ⟨.string s,v,clock⟩) (clock+1))∧w.grownBy w' (some B):=by
 have hr:=MapKept.run_findKey (P:=Tryz.prog) (w:=w) (kt:=9) Tryz.underlying9 hf
 have hu:=run_underlying (P:=Tryz.prog) (w:=w) Tryz.underlying79
 have hck:=MapKept.run_checkKey (P:=Tryz.prog) (w:=w) (kt:=9) (k:=.string s) Tryz.underlying9 (by simp [MapKept.IsKey]) false 9999
 have hg:=MapKept.run_getObj_map (P:=Tryz.prog) hb
 have hs:=MapKept.run_setObj_map (P:=Tryz.prog) (.map (es.push ⟨.string s,v,clock⟩) (clock+1)) hb
 refine ⟨{ w with heap:=w.heap.setIfInBounds B (.map (es.push ⟨.string s,v,clock⟩) (clock+1)) },?_,(MapKept.heap_set hb).1,⟨rfl,rfl,rfl,by simp,fun j hj hne=>(MapKept.heap_set hb).2 j (fun e=>hne (by rw [e]))⟩⟩
 simp [Instr.mapUpdate,hu,hg,hck,hr,hs,Result.andThen]
theorem run_clk {w:World} {vm:Value} (s:List UInt8) (h:CMap w vm) :
 (Instr.lookup 79 vm (.string (st s)) true).run Tryz.prog w=.ok (match callL s with|some c=>.tuple #[cagg c,.bool true]|none=>.tuple #[cagg (0,0,0),.bool false]) w:=by
 obtain ⟨B,rfl,hb⟩:=h
 obtain ⟨r,hf,h2⟩:=find_cents s callT 0 0
 rw [look_call] at h2
 have hr:=MapKept.run_findKey (P:=Tryz.prog) (w:=w) (kt:=9) Tryz.underlying9 hf
 have hu:=run_underlying (P:=Tryz.prog) (w:=w) Tryz.underlying79
 have hck:=fun b=>MapKept.run_checkKey (P:=Tryz.prog) (w:=w) (kt:=9) (k:=.string (st s)) Tryz.underlying9 (by simp [MapKept.IsKey]) b 9999
 have hg:=MapKept.run_getObj_map (P:=Tryz.prog) hb
 have hz:(zeroValue 130).run Tryz.prog w=.ok (cagg (0,0,0)) w:=Tryz.zeroValue130 w
 cases hc:callL s with
 | none=>
   rw [hc] at h2
   cases r with
   | none=>simp [Instr.lookup,hu,hg,hck,hr,hz,Result.andThen]
   | some p=>cases h2
 | some c=>
   rw [hc] at h2
   cases r with
   | none=>cases h2
   | some p=>
     have e:p.2=cagg c:=by injection h2
     simp [Instr.lookup,hu,hg,hck,hr,Result.andThen,e]
theorem cput_at {w:World} {B:Nat} {l:List (List UInt8 × Nat × Nat × Nat)} (x:List UInt8 × Nat × Nat × Nat) (hb:w.heap[B]?=some (.map (cents l 0).toArray l.length)) (hf:lookT x.1 l=none) :
 ∃ w',(Instr.mapUpdate 79 (.map (some B)) (.string (st x.1)) (cagg x.2)).run Tryz.prog w=.ok () w'∧w'.heap[B]?=some (.map (cents (l++[x]) 0).toArray (l++[x]).length)∧w.grownBy w' (some B):=by
 have hfn:Instr.findNow .string (.string (st x.1)) (cents l 0).toArray.toList 0=some none:=by
  obtain ⟨r,h1,h2⟩:=find_cents x.1 l 0 0
  rw [hf] at h2
  cases r with
  | none=>exact h1
  | some p=>cases h2
 obtain ⟨w',hrun,r1,r2⟩:=run_cput (st x.1) (cagg x.2) hb hfn
 refine ⟨w',hrun,?_,r2⟩
 rw [r1,cents_snoc,List.length_append,Nat.zero_add]
 simp
theorem Old.cput {a w w':World} {B:Nat} (h:Old a w) (hg:w.grownBy w' (some B)) (hB:a.heap.size≤B):Old a w':=h.grown hg (by intro k hk;cases hk;exact hB)
theorem calls_any (w:World):Calls Tryz.prog 55 #[] w fun e w'=>∃ vm,e=.returned vm∧CMap w' vm∧Old w w':=by
 have hmm:=@run_makeMap Tryz.prog
 have HM0:Hid ((w.alloc (.map #[] 0)).heap[w.heap.size]?=some (.map (cents [] 0).toArray ([]:List (List UInt8 × Nat × Nat × Nat)).length)):=hid (MapKept.heap_alloc w _).1
 have HO0:=hid ((Old.refl w).alloc (.map #[] 0))
 obtain ⟨w1,e1,m1,g1⟩:=cput_at ([97,98,115],18,1,1) HM0.out (by kernel_rfl)
 replace e1:(Instr.mapUpdate 79 (.map (some w.heap.size)) (.string ⟨#[97,98,115]⟩) (.agg #[.int .u8 18,.int .i64 1,.int .i64 1])).run Tryz.prog (w.alloc (.map #[] 0))=.ok () w1:=e1
 have HM1:=hid m1
 have HO1:=hid (HO0.out.cput g1 (Nat.le_refl _))
 clear m1 g1 HM0 HO0
 obtain ⟨w2,e2,m2,g2⟩:=cput_at ([109,105,110],19,1,8) HM1.out (by kernel_rfl)
 replace e2:(Instr.mapUpdate 79 (.map (some w.heap.size)) (.string ⟨#[109,105,110]⟩) (.agg #[.int .u8 19,.int .i64 1,.int .i64 8])).run Tryz.prog w1=.ok () w2:=e2
 have HM2:=hid m2
 have HO2:=hid (HO1.out.cput g2 (Nat.le_refl _))
 clear m2 g2 HM1 HO1
 obtain ⟨w3,e3,m3,g3⟩:=cput_at ([109,97,120],20,1,8) HM2.out (by kernel_rfl)
 replace e3:(Instr.mapUpdate 79 (.map (some w.heap.size)) (.string ⟨#[109,97,120]⟩) (.agg #[.int .u8 20,.int .i64 1,.int .i64 8])).run Tryz.prog w2=.ok () w3:=e3
 have HM3:=hid m3
 have HO3:=hid (HO2.out.cput g3 (Nat.le_refl _))
 clear m3 g3 HM2 HO2
 obtain ⟨w4,e4,m4,g4⟩:=cput_at ([109,111,100],21,2,2) HM3.out (by kernel_rfl)
 replace e4:(Instr.mapUpdate 79 (.map (some w.heap.size)) (.string ⟨#[109,111,100]⟩) (.agg #[.int .u8 21,.int .i64 2,.int .i64 2])).run Tryz.prog w3=.ok () w4:=e4
 have HM4:=hid m4
 have HO4:=hid (HO3.out.cput g4 (Nat.le_refl _))
 clear m4 g4 HM3 HO3
 obtain ⟨w5,e5,m5,g5⟩:=cput_at ([108,101,110,103,116,104],22,1,1) HM4.out (by kernel_rfl)
 replace e5:(Instr.mapUpdate 79 (.map (some w.heap.size)) (.string ⟨#[108,101,110,103,116,104]⟩) (.agg #[.int .u8 22,.int .i64 1,.int .i64 1])).run Tryz.prog w4=.ok () w5:=e5
 have HM5:=hid m5
 have HO5:=hid (HO4.out.cput g5 (Nat.le_refl _))
 clear m5 g5 HM4 HO4
 obtain ⟨w6,e6,m6,g6⟩:=cput_at ([117,112,112,101,114],23,1,1) HM5.out (by kernel_rfl)
 replace e6:(Instr.mapUpdate 79 (.map (some w.heap.size)) (.string ⟨#[117,112,112,101,114]⟩) (.agg #[.int .u8 23,.int .i64 1,.int .i64 1])).run Tryz.prog w5=.ok () w6:=e6
 have HM6:=hid m6
 have HO6:=hid (HO5.out.cput g6 (Nat.le_refl _))
 clear m6 g6 HM5 HO5
 obtain ⟨w7,e7,m7,g7⟩:=cput_at ([99,111,110,116,97,105,110,115],24,2,2) HM6.out (by kernel_rfl)
 replace e7:(Instr.mapUpdate 79 (.map (some w.heap.size)) (.string ⟨#[99,111,110,116,97,105,110,115]⟩) (.agg #[.int .u8 24,.int .i64 2,.int .i64 2])).run Tryz.prog w6=.ok () w7:=e7
 have HM7:=hid m7
 have HO7:=hid (HO6.out.cput g7 (Nat.le_refl _))
 clear m7 g7 HM6 HO6
 obtain ⟨w8,e8,m8,g8⟩:=cput_at ([115,116,97,114,116,115],25,2,2) HM7.out (by kernel_rfl)
 replace e8:(Instr.mapUpdate 79 (.map (some w.heap.size)) (.string ⟨#[115,116,97,114,116,115]⟩) (.agg #[.int .u8 25,.int .i64 2,.int .i64 2])).run Tryz.prog w7=.ok () w8:=e8
 have HM8:=hid m8
 have HO8:=hid (HO7.out.cput g8 (Nat.le_refl _))
 clear m8 g8 HM7 HO7
 obtain ⟨w9,e9,m9,g9⟩:=cput_at ([105,102],26,3,3) HM8.out (by kernel_rfl)
 replace e9:(Instr.mapUpdate 79 (.map (some w.heap.size)) (.string ⟨#[105,102]⟩) (.agg #[.int .u8 26,.int .i64 3,.int .i64 3])).run Tryz.prog w8=.ok () w9:=e9
 have HM9:=hid m9
 have HO9:=hid (HO8.out.cput g9 (Nat.le_refl _))
 clear m9 g9 HM8 HO8
 go_enter Tryz.func55,Tryz.ntmps55
 go_wp2_with fail
 go_ret
 exact ⟨_,rfl,⟨w.heap.size,rfl,HM9.out⟩,HO9.out⟩
end Go.Proofs.YtkellpcljiodeaaGreatDoor
namespace Go.Proofs.YtkellpcljiodeaaGreatDoor
open Go.ChangeShapes Go.WideShapes Go.ChangeAt Go.RowKit Go.Lib
set_option linter.unusedVariables false
set_option linter.unusedSimpArgs false
set_option maxRecDepth 100000
theorem expr_any {w0:Wz} {w:World} {b n o F:Nat} {vw vm vt:Value} {A:List Tk} {T:List Nd} (ih:Lv w0 b vw vm A F) (H:Rr w0 b vw vm A T n o vt w) (hn:n≤A.length) (ho:o≤12) (hTn:T.length≤n)
 (hout:P F (.lvl 0) o (A.drop n)≠.out):Calls Tryz.prog 65 #[.pointer (some ⟨b,0,none⟩)] w (Res w0 b vw vm A T n o w (P F (.lvl 0) o (A.drop n))):=
 expr_fwd hout H.rd (ih 0 o n T vt w (by omega) ho hn hTn H hout)
theorem leave_rt {w0:Wz} {w w1 w3:World} {b c n o m R:Nat} {vw vm:Value} {A:List Tk} {T ns:List Nd} {r:List Tk} (h:Rt w0 b vw vm A T n (o+1) w1 ns r m w3) (hc:c≤n) (c1:Cg w0.heap.size b w w1) (hR:R=T.length+ns.length-1) (hA:A.length≤200000) (ho:o<12) :
 Calls Tryz.prog 146 #[.pointer (some ⟨b,0,none⟩)] w3 fun e w'=>if isL [41] r then e=.returned (.tuple #[])∧Hid (Res w0 b vw vm A T c o w (.ok ns r.tail) (.returned (.int .i64 (R:Int))) w')
  else e=pan 4∧Hid (Res w0 b vw vm A T c o w (.no 4 r) (pan 4) w'):=by
 obtain ⟨vt,hrr⟩:=h.ok
 have hle:=h.le
 rw [h.hr]
 refine (leave_any hrr h.hm hA (by omega) (by omega)).mono ?_
 intro e w' hh
 cases hb:isL [41] (A.drop m)
 ·rw [hb] at hh
  simp only [Bool.false_eq_true,if_false] at hh ⊢
  exact ⟨hh.1,hid ⟨m,rfl,h.hm,rfl,(c1.trans h.cg).trans (Cg.ofOld hh.2),o+1,vt,hrr.rd.old hh.2⟩⟩
 ·rw [hb] at hh
  simp only [if_true] at hh ⊢
  have hlt:=drop_lt (isL_ne hb)
  refine ⟨hh.1,hid ⟨m+1,by rw [drop_tl],hlt,by rw [hR],(c1.trans h.cg).trans (Cg.ofChx hh.2.1),⟨vt,hrr.chx hh.2.1 hh.2.2⟩,h.pos,by omega⟩⟩
theorem group_any {w0:Wz} {w:World} {b n o F:Nat} {vw vm vt:Value} {A:List Tk} {T:List Nd} (ih:Lv w0 b vw vm A F) (H:Rr w0 b vw vm A T n o vt w) (hlt:n<A.length) (hA:A.length≤200000) (ho:o≤12) (hTn:T.length≤n)
 (hout:groupP (P F) o (A.drop n)≠.out):Calls Tryz.prog 106 #[.pointer (some ⟨b,0,none⟩)] w (Res w0 b vw vm A T n o w (groupP (P F) o (A.drop n))):=by
 have hn:=Nat.le_of_lt hlt
 have HH:=hid H
 unfold groupP at hout ⊢
 by_cases h12:o=12
 ·rw [if_pos h12]
  have HE:=hid (enter_no H hn hA h12)
  have HD:=hid (show ∀ w',Old w w'→Res w0 b vw vm A T n o w (.no 12 (A.drop n)) (pan 12) w' from fun w' h=>⟨n,rfl,hn,rfl,Cg.ofOld h,o,vt,HH.out.rd.old h⟩)
  clear ih H hout h12
  go_enter Tryz.func106,Tryz.ntmps106
  go_wp2_with (go_at_call 140;refine HE.out.mono ?_;rintro e w2 ⟨rfl,o2⟩;have H2:=hid (HD.out _ o2);clear o2)
  exact ⟨rfl,H2.out⟩
 rw [if_neg h12,drop_tl] at hout ⊢
 have ho':o<12:=by omega
 obtain ⟨x,hx⟩:∃ x,wordL (A.drop n)=x:=⟨_,rfl⟩
 obtain ⟨k,t,xk,xn,xs,ln,cl⟩:=x
 have HE:=hid (enter_at H hn hA ho h12 hx)
 have hne:=bnd_out hout
 have hih:=fun vt' W (h:Rr w0 b vw vm A T (n+1) (o+1) vt' W)=>expr_any ih h hlt (by omega) (Nat.le_succ_of_le hTn) hne
 cases hP:P F (.lvl 0) (o+1) (A.drop (n+1)) with
 | out=>exact absurd hP hne
 | no er r=>
   rw [hP] at hih
   have HIH:=hid (fun vt' W (h:Rr w0 b vw vm A T (n+1) (o+1) vt' W)=>calls_no (hih vt' W h))
   clear ih H hout h12 hih hP hne hx
   go_enter Tryz.func106,Tryz.ntmps106
   go_wp2_with (first
    | (go_at_call 140;refine HE.out.mono ?_;rintro e w2 ⟨rfl,h2,h3⟩;have H2:=hid h3;have C2:=hid (Cg.ofChx (N0:=w0.heap.size) h2);clear h2 h3)
    | (go_at_call 65;refine (HIH.out _ _ H2.out).mono ?_;rintro e w3 ⟨rfl,h3⟩;have H3:=hid (h3.out _ T n o C2.out);clear h3))
   exact ⟨rfl,H3.out⟩
 | ok ns r=>
   rw [hP] at hih
   show Calls _ _ _ _ (Res w0 b vw vm A T n o w (if isL [41] r then .ok ns r.tail else .no 4 r))
   obtain ⟨R,hR⟩:∃ R,R=T.length+ns.length-1:=⟨_,rfl⟩
   have HIH:=hid (fun vt' W (h:Rr w0 b vw vm A T (n+1) (o+1) vt' W)=>calls_rt (hih vt' W h) hR)
   have HL:=hid (show ∀ (w1 w3:World) (m:Nat),Cg w0.heap.size b w w1→Rt w0 b vw vm A T (n+1) (o+1) w1 ns r m w3→Calls Tryz.prog 146 #[.pointer (some ⟨b,0,none⟩)] w3 fun e w'=>if isL [41] r then e=.returned (.tuple #[])∧Hid (Res w0 b vw vm A T n o w (.ok ns r.tail) (.returned (.int .i64 (R:Int))) w')
    else e=pan 4∧Hid (Res w0 b vw vm A T n o w (.no 4 r) (pan 4) w') from fun w1 w3 m hc h=>leave_rt h (Nat.le_succ n) hc hR hA ho')
   cases hs:isL [41] r
   ·rw [hs] at HL
    simp only [Bool.false_eq_true,if_false] at HL ⊢
    clear ih H hout h12 hih hP hne hx hR hs ho'
    go_enter Tryz.func106,Tryz.ntmps106
    go_wp2_with (first
     | (go_at_call 140;refine HE.out.mono ?_;rintro e w2 ⟨rfl,h2,h3⟩;have H2:=hid h3;have C2:=hid (Cg.ofChx (N0:=w0.heap.size) h2);clear h2 h3)
     | (go_at_call 65;refine (HIH.out _ _ H2.out).mono ?_;rintro e w3 ⟨m,rfl,h3⟩;have H3:=hid h3.out;clear h3)
     | (go_at_call 146;refine (HL.out _ _ _ C2.out H3.out).mono ?_;rintro e w4 ⟨rfl,h4⟩))
    exact ⟨rfl,h4.out⟩
   ·rw [hs] at HL
    simp only [if_true] at HL ⊢
    clear ih H hout h12 hih hP hne hx hR hs ho'
    go_enter Tryz.func106,Tryz.ntmps106
    go_wp2_with (first
     | (go_at_call 140;refine HE.out.mono ?_;rintro e w2 ⟨rfl,h2,h3⟩;have H2:=hid h3;have C2:=hid (Cg.ofChx (N0:=w0.heap.size) h2);clear h2 h3)
     | (go_at_call 65;refine (HIH.out _ _ H2.out).mono ?_;rintro e w3 ⟨m,rfl,h3⟩;have H3:=hid h3.out;clear h3)
     | (go_at_call 146;refine (HL.out _ _ _ C2.out H3.out).mono ?_;rintro e w4 ⟨rfl,h4⟩))
    go_ret
    exact h4.out
end Go.Proofs.YtkellpcljiodeaaGreatDoor
