/- Layer vtext: Parse, whatever the text. Layer lexer, plain: where a word ends, its kind; what stands between words. Contracts of the plain functions of layer num: sums, differences, remainders, magnitudes. Contract of num.Mod. Plain arithmetic under math/bits.Div64: the school division of two words by one, digit by. Contracts of the functions of package math/bits that layer num calls: the product of two. -/
import Derived.Lib.ParseIntBTie
import Derived.Outline
import Derived.Lib.Mul64
import Derived.Laws.Bits64b
import Derived.Lib.BitFns
import Derived.Lib.ItoaNum
import Derived.Lib.Walk
import Derived.LoopTactic
import Derived.Test.YtmkmafkkpigfpaaGreatDoorLK
set_option maxHeartbeats 4000000
namespace Go.Proofs.YtmkmafkkpigfpaaGreatDoor
open Go.ChangeShapes Go.WideShapes Go.ChangeAt Go.RowKit Go.Lib
set_option linter.unusedVariables false
set_option maxRecDepth 100000
structure Rd3 where
 k:Int
 n:Int
 e:Int
 s:List UInt8
def readL:List UInt8→Rd3
 | []=>⟨0,0,4,[]⟩
 | c::r=>if c=110 then ⟨0,0,0,[]⟩ else if c=116 then ⟨4,1,0,[]⟩ else if c=102 then ⟨4,0,0,[]⟩
   else if c=34 then ⟨3,0,0,unqL (Lib.trimSuffix r [34])⟩ else if c=35 then ⟨5,0,0,r⟩
   else if c=45∨dg8 c=true then ⟨(readN (c::r)).1,(readN (c::r)).2.1,(readN (c::r)).2.2,[]⟩ else ⟨0,0,4,[]⟩
def parseL (l:List UInt8):Rd3:=
 if 402<l.length then ⟨0,0,3,[]⟩
 else if (readL l).e=0 then (if textL (readL l).k (readL l).n (st (readL l).s)=l then readL l else ⟨0,0,4,[]⟩)
 else ⟨0,0,(readL l).e,[]⟩
abbrev rd (t:Rd3):Ending:=rv t.k t.n t.e (st t.s)
theorem u8_int {c d:UInt8} (h:¬ c=d):(c.toNat:Int)≠(d.toNat:Int):=fun e=>h (UInt8.toNat_inj.1 (by omega))
end Go.Proofs.YtmkmafkkpigfpaaGreatDoor
namespace Go.Proofs.YtmkmafkkpigfpaaGreatDoor
set_option linter.unusedVariables false
set_option maxRecDepth 100000
def sm (c:UInt8):Bool:=decide (97≤c.toNat∧c.toNat≤122)
def dgc (c:UInt8):Bool:=decide (48≤c.toNat∧c.toNat≤57)
def nm (c:UInt8):Bool:=sm c||dgc c
def hd (p:UInt8→Bool):List UInt8→Bool
 | []=>false
 | c::_=>p c
def pair:List UInt8→Bool
 | a::b::_=>(a==60&&b==61)||(a==62&&b==61)||(a==60&&b==62)||(a==46&&b==46)
 | _=>false
def sgn (c:UInt8):Bool:=[40,41,91,93,44,58,61,60,62,43,45,42,47].contains c
def kindL:List UInt8→Nat
 | []=>0
 | c::r=>if sm c then 1 else if dgc c then 4 else if c=34 then 5 else if c=35 then 6
   else if c=63 then (if hd sm r then 2 else 3) else if sgn c||pair (c::r) then 7 else 0
def goL {σ:Type} (step:σ→List UInt8→Option σ):σ→List UInt8→Nat
 | _,[]=>0
 | a,c::r=>match step a (c::r) with
   | none=>0
   | some b=>goL step b r+1
theorem goL_nil {σ:Type} (step:σ→List UInt8→Option σ) (a:σ):goL step a []=0:=rfl
theorem goL_stop {σ:Type} {step:σ→List UInt8→Option σ} {a:σ} {c:UInt8} {r:List UInt8} (h:step a (c::r)=none):goL step a (c::r)=0:=by
 rw [goL,h]
theorem goL_go {σ:Type} {step:σ→List UInt8→Option σ} {a b:σ} {c:UInt8} {r:List UInt8} (h:step a (c::r)=some b):goL step a (c::r)=goL step b r+1:=by
 rw [goL,h]
theorem goL_le {σ:Type} (step:σ→List UInt8→Option σ):∀ (a:σ) (l:List UInt8),goL step a l≤l.length
 | _,[]=>Nat.le_refl _
 | a,c::r=>by
   rw [goL]
   split
   ·exact Nat.zero_le _
   ·next b h=>rw [List.length_cons];exact Nat.succ_le_succ (goL_le step b r)
def runS (p:UInt8→Bool) (a:Unit):List UInt8→Option Unit
 | []=>none
 | c::_=>if p c then some () else none
def numS (pt:Bool):List UInt8→Option Bool
 | []=>none
 | c::r=>if !pt&&c==46&&hd dgc r then some true else if dgc c then some pt else none
def strS (a:Bool × Bool):List UInt8→Option (Bool × Bool)
 | []=>none
 | c::_=>if a.1 then none else some (c==34&&!a.2,c==92&&!a.2)
def sgnS (two:Bool) (a:Bool):List UInt8→Option Bool
 | []=>none
 | _::_=>if a&&two then some false else none
def endL (k:Nat) (l:List UInt8):Nat:=
 if k=1∨k=2∨k=6 then goL (runS nm) () l.tail
 else if k=4 then goL numS false l.tail
 else if k=5 then goL strS (false,false) l.tail
 else if k=7 then goL (sgnS (pair l)) true l.tail
 else 0
def wlen (l:List UInt8):Nat:=endL (kindL l) l+1
theorem wlen_le {l:List UInt8} (h:l≠[]):wlen l≤l.length:=by
 cases l with
 | nil=>exact absurd rfl h
 | cons c r=>
   unfold wlen endL
   have h1:=goL_le (runS nm) () (c::r).tail
   have h2:=goL_le numS false (c::r).tail
   have h3:=goL_le strS (false,false) (c::r).tail
   have h4:=goL_le (sgnS (pair (c::r))) true (c::r).tail
   simp only [List.tail_cons,List.length_cons] at *
   split
   ·omega
   split
   ·omega
   split
   ·omega
   split
   ·omega
   ·omega
def skipL:Bool→List UInt8→Nat→Nat→List UInt8 × Nat × Nat
 | _,[],L,C=>([],L,C)
 | true,c::r,L,C=>if c=10 then skipL false r (L+1) 1 else skipL true r L (C+1)
 | false,c::r,L,C=>if c=32 then skipL false r L (C+1) else if c=10 then skipL false r (L+1) 1
   else if c=59 then skipL true r L (C+1) else (c::r,L,C)
def isName (l:List UInt8):Bool:=decide (l≠[]∧l.length≤12)&&hd sm l&&l.all nm
end Go.Proofs.YtmkmafkkpigfpaaGreatDoor
namespace Go.Proofs.YtmkmafkkpigfpaaGreatDoor.V
open Go.ChangeShapes Go.WideShapes Go.ChangeAt Go.RowKit
theorem sum_no (a b : Int) (ha : I64 a) (hb : I64 b) (h : (!decide (wrap64 (a + b) < a) == decide (b < 0)) = true) : ¬ I64 (a + b) := by
  unfold I64 at *; unfold wrap64 at h
  rw [Bool.not_eq_true'] at h
  by_cases h1 : (a + b + 9223372036854775808) % 18446744073709551616 - 9223372036854775808 < a <;> by_cases h2 : b < 0 <;> simp [h1, h2] at h <;> omega
theorem sum_yes (a b : Int) (ha : I64 a) (hb : I64 b) (h : (!decide (wrap64 (a + b) < a) == decide (b < 0)) = false) : I64 (a + b) ∧ wrap64 (a + b) = a + b := by
  unfold I64 at *; unfold wrap64 at *
  rw [Bool.not_eq_false'] at h
  by_cases h1 : (a + b + 9223372036854775808) % 18446744073709551616 - 9223372036854775808 < a <;> by_cases h2 : b < 0 <;> simp [h1, h2] at h <;> omega
theorem add_any (a b : Int) (w : World) (ha : I64 a) (hb : I64 b) :
    Calls Tryz.prog 116 #[.int .i64 a, .int .i64 b] w fun e w' => e = .returned (.tuple #[.int .i64 (fitV (a + b)), .int .i64 (fitE (a + b))]) ∧ w = w' := by
  go_enter Tryz.func116, Tryz.ntmps116
  go_wp2
  · have h := sum_no a b ha hb ‹_›
    go_ret2
    exact ⟨two _ _ _ _ (fitV_out h).symm (fitE_out h).symm, rfl⟩
  · obtain ⟨h, h'⟩ := sum_yes a b ha hb ‹_›
    go_ret2
    exact ⟨two _ _ _ _ (h'.trans (fitV_in h).symm) (fitE_in h).symm, rfl⟩
theorem dif_no (a b : Int) (ha : I64 a) (hb : I64 b) (h : (!decide (a < wrap64 (a - b)) == decide (b < 0)) = true) : ¬ I64 (a - b) := by
  unfold I64 at *; unfold wrap64 at h
  rw [Bool.not_eq_true'] at h
  by_cases h1 : a < (a - b + 9223372036854775808) % 18446744073709551616 - 9223372036854775808 <;> by_cases h2 : b < 0 <;> simp [h1, h2] at h <;> omega
theorem dif_yes (a b : Int) (ha : I64 a) (hb : I64 b) (h : (!decide (a < wrap64 (a - b)) == decide (b < 0)) = false) : I64 (a - b) ∧ wrap64 (a - b) = a - b := by
  unfold I64 at *; unfold wrap64 at *
  rw [Bool.not_eq_false'] at h
  by_cases h1 : a < (a - b + 9223372036854775808) % 18446744073709551616 - 9223372036854775808 <;> by_cases h2 : b < 0 <;> simp [h1, h2] at h <;> omega
theorem sub_any (a b : Int) (w : World) (ha : I64 a) (hb : I64 b) :
    Calls Tryz.prog 118 #[.int .i64 a, .int .i64 b] w fun e w' => e = .returned (.tuple #[.int .i64 (fitV (a - b)), .int .i64 (fitE (a - b))]) ∧ w = w' := by
  go_enter Tryz.func118, Tryz.ntmps118
  go_wp2
  · have h := dif_no a b ha hb ‹_›
    go_ret2
    exact ⟨two _ _ _ _ (fitV_out h).symm (fitE_out h).symm, rfl⟩
  · obtain ⟨h, h'⟩ := dif_yes a b ha hb ‹_›
    go_ret2
    exact ⟨two _ _ _ _ (h'.trans (fitV_in h).symm) (fitE_in h).symm, rfl⟩
theorem mag_any (a : Int) (w : World) (ha : I64 a) :
    Calls Tryz.prog 151 #[.int .i64 a] w fun e w' => e = .returned (.int .u64 (a.natAbs : Int)) ∧ w = w' := by
  unfold I64 at ha
  by_cases h : a < 0
  · go_enter Tryz.func151, Tryz.ntmps151
    go_wp2
    go_ret
    refine ⟨congrArg Ending.returned (congrArg (Value.int IntKind.u64) ?_), rfl⟩
    rw [IntKind.wrap_u64, IntKind.wrap_u64]; omega
  · go_enter Tryz.func151, Tryz.ntmps151
    go_wp2
    go_ret
    refine ⟨congrArg Ending.returned (congrArg (Value.int IntKind.u64) ?_), rfl⟩
    omega
def sgn (a b : Int) (n : Nat) : Int := if a < 0 ↔ b < 0 then n else -n
theorem sgn_same {a b : Int} (n : Nat) (h : (a < 0 ↔ b < 0)) : sgn a b n = n := if_pos h
theorem sgn_other {a b : Int} (n : Nat) (h : ¬ (a < 0 ↔ b < 0)) : sgn a b n = -n := if_neg h
theorem neg_wrap (n : Nat) (h : (n : Int) ≤ 9223372036854775808) : wrap64 (IntKind.u64.wrap (-(n : Int))) = -n := by
  rw [IntKind.wrap_u64]; unfold wrap64; omega
theorem sig_any (a b : Int) (n : Nat) (w : World) (p q : Addr) (hn : n < 18446744073709551616) (hp : w.cell? p = some (.int .i64 a)) (hq : w.cell? q = some (.int .i64 b)) :
    Calls Tryz.prog 172 #[.int .u64 n, .pointer (some p), .pointer (some q)] w fun e w' => e = .returned (.tuple #[.int .i64 (fitV (sgn a b n)), .int .i64 (fitE (sgn a b n))]) ∧ w = w' := by
  by_cases h : (a < 0 ↔ b < 0)
  · rw [sgn_same n h]
    have h1 : (!decide (a < 0) == decide (b < 0)) = false := by simp [h]
    clear h
    by_cases h2 : (n : Int) ≤ 9223372036854775807
    · rw [fitV_in (show I64 n from ⟨by omega, h2⟩), fitE_in (show I64 n from ⟨by omega, h2⟩)]
      go_enter Tryz.func172, Tryz.ntmps172
      go_wp2
      go_ret2
      exact ⟨rfl, rfl⟩
    · rw [fitV_out (show ¬ I64 n from fun h => h2 h.2), fitE_out (show ¬ I64 n from fun h => h2 h.2)]
      go_enter Tryz.func172, Tryz.ntmps172
      go_wp2
      go_ret2
      exact ⟨rfl, rfl⟩
  · rw [sgn_other n h]
    have h1 : (!decide (a < 0) == decide (b < 0)) = true := by
      by_cases ha : a < 0 <;> by_cases hb : b < 0 <;> simp [ha, hb] at h ⊢
    clear h
    by_cases h2 : (n : Int) ≤ 9223372036854775808
    · rw [fitV_in (show I64 (-n) from ⟨by omega, by omega⟩), fitE_in (show I64 (-n) from ⟨by omega, by omega⟩)]
      go_enter Tryz.func172, Tryz.ntmps172
      go_wp2
      go_ret2
      exact ⟨two _ _ _ _ (neg_wrap n h2) rfl, rfl⟩
    · rw [fitV_out (show ¬ I64 (-n) from fun h => h2 (by have := h.1; omega)), fitE_out (show ¬ I64 (-n) from fun h => h2 (by have := h.1; omega))]
      go_enter Tryz.func172, Tryz.ntmps172
      go_wp2
      go_ret2
      exact ⟨rfl, rfl⟩
theorem mod_zero (a : Int) (w : World) :
    Calls Tryz.prog 130 #[.int .i64 a, .int .i64 0] w fun e w' => e = .returned (.tuple #[.int .i64 0, .int .i64 10]) ∧ w = w' := by
  go_enter Tryz.func130, Tryz.ntmps130
  go_wp2
  go_ret2
  exact ⟨rfl, rfl⟩
theorem mod_any (a b : Int) (w : World) (h0 : (b == 0) = false) (h1 : ¬ b = 0) :
    Calls Tryz.prog 130 #[.int .i64 a, .int .i64 b] w fun e w' => e = .returned (.tuple #[.int .i64 (a.tmod b), .int .i64 0]) ∧ w = w' := by
  go_enter Tryz.func130, Tryz.ntmps130
  go_wp2
  go_ret2
  exact ⟨rfl, rfl⟩
end Go.Proofs.YtmkmafkkpigfpaaGreatDoor.V
namespace Go.Proofs.YtmkmafkkpigfpaaGreatDoor.V
def KF (un y1 y0 d Q : Nat) : Prop :=
  y0 < 4294967296 ∧ y1 < 4294967296 ∧ 2147483648 ≤ y1 ∧ un < y1 * 4294967296 + y0 ∧ d < 4294967296 ∧ Q = (un * 4294967296 + d) / (y1 * 4294967296 + y0)
def KI (un y1 Q q r : Nat) : Prop := q * y1 + r = un ∧ Q ≤ q ∧ q ≤ 4294967297 ∧ r < 4294967296
theorem k_le {q y1 y0 r d un : Nat} (hr : q * y1 + r = un) (h : q * y0 ≤ 4294967296 * r + d) : q * (y1 * 4294967296 + y0) ≤ un * 4294967296 + d := by
  rw [Nat.mul_add, ← Nat.mul_assoc, ← hr, Nat.add_mul]
  generalize q * y1 = A at *
  generalize q * y0 = C at *
  omega
theorem k_gt {q y1 y0 r d un : Nat} (hr : q * y1 + r = un) (h : 4294967296 * r + d < q * y0) : un * 4294967296 + d < q * (y1 * 4294967296 + y0) := by
  rw [Nat.mul_add, ← Nat.mul_assoc, ← hr, Nat.add_mul]
  generalize q * y1 = A at *
  generalize q * y0 = C at *
  omega
theorem k_Q {un y1 y0 d Q : Nat} (F : KF un y1 y0 d Q) : Q < 4294967296 := by
  obtain ⟨a, b, c, e, f, g⟩ := F
  rw [g, Nat.div_lt_iff_lt_mul (by omega)]
  omega
theorem k_stop {un y1 y0 d Q q r : Nat} (F : KF un y1 y0 d Q) (I : KI un y1 Q q r) (h : q * y0 ≤ 4294967296 * r + d) : q = Q := by
  obtain ⟨a, b, c, e, f, g⟩ := F
  have := k_le I.1 h
  have : q ≤ Q := by rw [g, Nat.le_div_iff_mul_le (by omega)]; exact this
  have := I.2.1
  omega
theorem k_more {un y1 y0 d Q q r : Nat} (F : KF un y1 y0 d Q) (I : KI un y1 Q q r) (h : 4294967296 ≤ q ∨ 4294967296 * r + d < q * y0) : Q < q := by
  rcases h with h | h
  · have := k_Q F; omega
  · obtain ⟨a, b, c, e, f, g⟩ := F
    have := k_gt I.1 h
    rw [g, Nat.div_lt_iff_lt_mul (by omega)]; exact this
theorem k_sub {q y1 r un : Nat} (h1 : 1 ≤ q) (h : q * y1 + r = un) : (q - 1) * y1 + (r + y1) = un := by
  obtain ⟨p, rfl⟩ : ∃ p, q = p + 1 := ⟨q - 1, by omega⟩
  rw [Nat.add_mul] at h
  simp only [Nat.add_sub_cancel]
  omega
theorem k_next {un y1 y0 d Q q r : Nat} (F : KF un y1 y0 d Q) (I : KI un y1 Q q r) (h : 4294967296 ≤ q ∨ 4294967296 * r + d < q * y0) (hr : r + y1 < 4294967296) : KI un y1 Q (q - 1) (r + y1) := by
  have hq := k_more F I h
  exact ⟨k_sub (by omega) I.1, by omega, by have := I.2.2.1; omega, hr⟩
theorem k_break {un y1 y0 d Q q r : Nat} (F : KF un y1 y0 d Q) (I : KI un y1 Q q r) (h : 4294967296 ≤ q ∨ 4294967296 * r + d < q * y0) (hr : 4294967296 ≤ r + y1) : q - 1 = Q := by
  have hq := k_more F I h
  have hs := k_sub (by omega) I.1
  have h3 := I.2.2.1
  have hy0 := F.1
  have hm : (q - 1) * y0 ≤ 4294967296 * 4294967295 := Nat.mul_le_mul (by omega) (by omega)
  have hl : (q - 1) * y0 ≤ 4294967296 * (r + y1) + d := by omega
  have hle := k_le hs hl
  obtain ⟨a, b, c, e, f, g⟩ := F
  have : q - 1 ≤ Q := by rw [g, Nat.le_div_iff_mul_le (by omega)]; exact hle
  omega
def KGo (y0 d q r : Nat) : Prop := 4294967296 ≤ q ∨ 4294967296 * r + d < q * y0
theorem kgo_of {y0 d q r : Nat} (h : 4294967296 ≤ q ∨ 4294967296 * (r : Int) + d < (q : Int) * y0) : KGo y0 d q r := by
  rcases h with h | h
  · exact Or.inl h
  · rw [← Int.natCast_mul] at h; exact Or.inr (by omega)
theorem kgo_not {y0 d q r : Nat} (h : (q : Int) * y0 ≤ 4294967296 * (r : Int) + d) : q * y0 ≤ 4294967296 * r + d := by rw [← Int.natCast_mul] at h; omega
theorem k_prod {q y0 : Nat} (hq : q < 4294967296) (hy : y0 < 4294967296) : 0 ≤ (q : Int) * y0 ∧ (q : Int) * y0 ≤ 18446744065119617025 := by
  have h : q * y0 ≤ 4294967295 * 4294967295 := Nat.mul_le_mul (by omega) (by omega)
  rw [← Int.natCast_mul]; omega
theorem k_first {un y1 y0 d Q : Nat} (F : KF un y1 y0 d Q) : KI un y1 Q (un / y1) (un % y1) := by
  obtain ⟨a, b, c, e, f, g⟩ := F
  have hd : un / y1 * y1 + un % y1 = un := by rw [Nat.mul_comm]; exact Nat.div_add_mod un y1
  have hm := Nat.mod_lt un (show y1 > 0 by omega)
  have hq : un / y1 < 4294967298 := by rw [Nat.div_lt_iff_lt_mul (by omega)]; omega
  refine ⟨hd, ?_, by omega, by omega⟩
  rw [g]
  refine Nat.le_of_lt_succ ?_
  rw [Nat.succ_eq_add_one, Nat.div_lt_iff_lt_mul (by omega)]
  have e1 : (un / y1 + 1) * (y1 * 4294967296 + y0) = (un / y1 * y1 + y1) * 4294967296 + (un / y1 + 1) * y0 := by
    rw [Nat.mul_add, ← Nat.mul_assoc, Nat.add_mul, Nat.one_mul]
  rw [e1]
  generalize un / y1 * y1 = A at *
  generalize (un / y1 + 1) * y0 = C at *
  omega
theorem k_left {un y1 y0 d Q : Nat} (F : KF un y1 y0 d Q) : Q * (y1 * 4294967296 + y0) + (un * 4294967296 + d) % (y1 * 4294967296 + y0) = un * 4294967296 + d ∧ (un * 4294967296 + d) % (y1 * 4294967296 + y0) < y1 * 4294967296 + y0 := by
  obtain ⟨a, b, c, e, f, g⟩ := F
  refine ⟨?_, Nat.mod_lt _ (by omega)⟩
  rw [g, Nat.mul_comm]
  exact Nat.div_add_mod _ _
theorem k_alg (A C U V1 V0 R1 R0 : Nat) (h1 : A + R1 = U * 4294967296 + V1) (h0 : C + R0 = R1 * 4294967296 + V0) : A * 4294967296 + C + R0 = U * 18446744073709551616 + (V1 * 4294967296 + V0) := by omega
theorem k_whole {N y s U V V1 V0 Y Q1 R1 Q0 R0 : Nat} (hY : Y = y * 2 ^ s) (hN : U * 18446744073709551616 + V = N * 2 ^ s) (hV : V = V1 * 4294967296 + V0)
    (h1 : Q1 * Y + R1 = U * 4294967296 + V1) (h0 : Q0 * Y + R0 = R1 * 4294967296 + V0) (hR : R0 < Y) :
    Q1 * 4294967296 + Q0 = N / y ∧ R0 / 2 ^ s = N % y := by
  have hp : 0 < 2 ^ s := Nat.two_pow_pos s
  have e : (Q1 * 4294967296 + Q0) * Y + R0 = N * 2 ^ s := by
    rw [← hN, hV, ← k_alg (Q1 * Y) (Q0 * Y) U V1 V0 R1 R0 h1 h0, Nat.add_mul, Nat.mul_right_comm]
  have hd : N * 2 ^ s / (y * 2 ^ s) = N / y := Nat.mul_div_mul_right N y hp
  have hm : N * 2 ^ s % (y * 2 ^ s) = N % y * 2 ^ s := Nat.mul_mod_mul_right (2 ^ s) N y
  rw [← hY, ← e] at hd hm
  constructor
  · rw [← hd, Nat.add_comm _ R0, Nat.add_mul_div_right _ _ (by omega), Nat.div_eq_of_lt hR, Nat.zero_add]
  · rw [Nat.add_comm _ R0, Nat.add_mul_mod_self_right, Nat.mod_eq_of_lt hR] at hm
    rw [hm, Nat.mul_div_cancel _ hp]
theorem k_shift (hi lo s : Nat) (hs : s ≤ 63) : (hi * 2 ^ s + lo / 2 ^ (64 - s)) * 18446744073709551616 + lo * 2 ^ s % 18446744073709551616 = (hi * 18446744073709551616 + lo) * 2 ^ s := by
  have hp : 0 < 2 ^ s := Nat.two_pow_pos s
  have e : (18446744073709551616 : Nat) = 2 ^ (64 - s) * 2 ^ s := by rw [← Nat.pow_add, show 64 - s + s = 64 by omega]
  have hd : lo * 2 ^ s / 18446744073709551616 = lo / 2 ^ (64 - s) := by
    rw [e]; exact Nat.mul_div_mul_right lo (2 ^ (64 - s)) hp
  have hm := Nat.div_add_mod (lo * 2 ^ s) 18446744073709551616
  rw [hd] at hm
  rw [Nat.add_mul, Nat.add_mul, Nat.mul_right_comm, Nat.add_assoc]
  congr 1
  rw [Nat.mul_comm (lo / 2 ^ (64 - s))]
  exact hm
theorem k_or (hi lo s : Nat) (hs : s ≤ 63) (hl : lo < 18446744073709551616) : hi * 2 ^ s ||| lo / 2 ^ (64 - s) = hi * 2 ^ s + lo / 2 ^ (64 - s) := by
  have e : (18446744073709551616 : Nat) = 2 ^ s * 2 ^ (64 - s) := by rw [← Nat.pow_add, show s + (64 - s) = 64 by omega]
  have h : lo / 2 ^ (64 - s) < 2 ^ s := by rw [Nat.div_lt_iff_lt_mul (Nat.two_pow_pos _), ← e]; exact hl
  rw [Nat.mul_comm hi, Nat.two_pow_add_eq_or_of_lt h]
def KFi (un y1 y0 d Q : Int) : Prop := ∃ a b c e f : Nat, un = a ∧ y1 = b ∧ y0 = c ∧ d = e ∧ Q = f ∧ KF a b c e f
def KIi (un y1 Q q r : Int) : Prop := ∃ a b f g h : Nat, un = a ∧ y1 = b ∧ Q = f ∧ q = g ∧ r = h ∧ KI a b f g h
theorem kfi_b {un y1 y0 d Q : Int} (F : KFi un y1 y0 d Q) : (0 ≤ y0 ∧ y0 < 4294967296) ∧ (2147483648 ≤ y1 ∧ y1 < 4294967296) ∧ (0 ≤ d ∧ d < 4294967296) ∧ (0 ≤ Q ∧ Q < 4294967296) ∧ 0 ≤ un := by
  obtain ⟨a, b, c, e, f, rfl, rfl, rfl, rfl, rfl, F⟩ := F
  have hQ := k_Q F
  obtain ⟨F1, F2, F3, F4, F5, F6⟩ := F
  clear F6
  omega
theorem kii_b {un y1 Q q r : Int} (I : KIi un y1 Q q r) : (0 ≤ q ∧ q ≤ 4294967297) ∧ 0 ≤ r ∧ r < 4294967296 := by
  obtain ⟨a, b, f, g, h, rfl, rfl, rfl, rfl, rfl, I⟩ := I
  obtain ⟨I1, I2, I3, I4⟩ := I
  omega
theorem kiNext {un y1 y0 d Q q r : Int} (F : KFi un y1 y0 d Q) (I : KIi un y1 Q q r) (h : 4294967296 ≤ q ∨ 4294967296 * r + d < q * y0) : Q < q ∧ (r + y1 < 4294967296 → KIi un y1 Q (q - 1) (r + y1)) ∧ (4294967296 ≤ r + y1 → q = Q + 1) := by
  obtain ⟨a, b, c, e, f, rfl, rfl, rfl, rfl, rfl, F⟩ := F
  obtain ⟨a', b', f', g, h', ha, hb, hf, rfl, rfl, I⟩ := I
  obtain rfl : a = a' := by omega
  obtain rfl : b = b' := by omega
  obtain rfl : f = f' := by omega
  have hg : KGo c e g h' := kgo_of (h.imp (fun h => by omega) id)
  have hm := k_more F I hg
  refine ⟨by omega, fun hr => ⟨a, b, f, g - 1, h' + b, rfl, rfl, rfl, by omega, by omega, k_next F I hg (by omega)⟩, fun hr => ?_⟩
  have := k_break F I hg (by omega)
  omega
theorem kiStop {un y1 y0 d Q q r : Int} (F : KFi un y1 y0 d Q) (I : KIi un y1 Q q r) (h : q * y0 ≤ 4294967296 * r + d) : q = Q := by
  obtain ⟨a, b, c, e, f, rfl, rfl, rfl, rfl, rfl, F⟩ := F
  obtain ⟨a', b', f', g, h', ha, hb, hf, rfl, rfl, I⟩ := I
  obtain rfl : a = a' := by omega
  obtain rfl : b = b' := by omega
  obtain rfl : f = f' := by omega
  have := k_stop F I (kgo_not h)
  omega
theorem kiProd {q y0 : Int} (hq : 0 ≤ q) (hq' : q < 4294967296) (hy : 0 ≤ y0) (hy' : y0 < 4294967296) : 0 ≤ q * y0 ∧ q * y0 ≤ 18446744065119617025 := by
  obtain ⟨a, rfl⟩ := Int.eq_ofNat_of_zero_le hq
  obtain ⟨b, rfl⟩ := Int.eq_ofNat_of_zero_le hy
  exact k_prod (by omega) (by omega)
end Go.Proofs.YtmkmafkkpigfpaaGreatDoor.V
namespace Go.Proofs.YtmkmafkkpigfpaaGreatDoor.V
set_option linter.unusedVariables false
open Go.ChangeShapes Go.WideShapes Go.ChangeAt Go.RowKit Go.Lib
theorem maskN (a : Nat) (ha : a < 18446744073709551616) : bits .and .u64 (a : Int) 4294967295 = ((a % 4294967296 : Nat) : Int) := by
  have h := bits_and_u64_nat a 4294967295 ha (by omega)
  rw [show a &&& 4294967295 = a % 4294967296 from Nat.and_two_pow_sub_one_eq_mod a 32] at h
  exact h
theorem divN (a : Nat) : (a : Int) / 4294967296 = ((a / 4294967296 : Nat) : Int) := by omega
theorem mulN (a b : Nat) : (a : Int) * (b : Int) = ((a * b : Nat) : Int) := (Int.natCast_mul a b).symm
theorem addN (a b : Nat) : (a : Int) + (b : Int) = ((a + b : Nat) : Int) := (Int.natCast_add a b).symm
theorem wrapN (a : Nat) (ha : a < 18446744073709551616) : IntKind.u64.wrap (a : Int) = (a : Int) := by rw [IntKind.wrap_u64]; omega
theorem wrapM (a : Nat) : IntKind.u64.wrap (a : Int) = ((a % 18446744073709551616 : Nat) : Int) := by rw [IntKind.wrap_u64]; omega
theorem mul64_any (x y : Nat) (hx : x < 18446744073709551616) (hy : y < 18446744073709551616) (w : World) :
    Calls Tryz.prog 150 #[.int .u64 x, .int .u64 y] w fun e w' => e = .returned (.tuple #[.int .u64 ((x * y / 18446744073709551616 : Nat) : Int), .int .u64 ((x * y % 18446744073709551616 : Nat) : Int)]) ∧ w = w' := by
  obtain ⟨bd, bt, bw, hhi⟩ := Lib.mul64_hi x y hx hy
  have ba := Lib.half_mul_le (a := x / 4294967296) (b := y / 4294967296) (by omega) (by omega)
  have bb := Lib.half_mul_le (a := x / 4294967296) (b := y % 4294967296) (by omega) (by omega)
  have bc := Lib.half_mul_le (a := x % 4294967296) (b := y / 4294967296) (by omega) (by omega)
  have ba' : x / 4294967296 * (y / 4294967296) < 18446744073709551616 := by omega
  have bb' : x / 4294967296 * (y % 4294967296) < 18446744073709551616 := by omega
  have bc' : x % 4294967296 * (y / 4294967296) < 18446744073709551616 := by omega
  have bh1 : x / 4294967296 * (y / 4294967296) + (x / 4294967296 * (y % 4294967296) + x % 4294967296 * (y % 4294967296) / 4294967296) / 4294967296 < 18446744073709551616 := by omega
  have bh : x / 4294967296 * (y / 4294967296) + (x / 4294967296 * (y % 4294967296) + x % 4294967296 * (y % 4294967296) / 4294967296) / 4294967296 + ((x / 4294967296 * (y % 4294967296) + x % 4294967296 * (y % 4294967296) / 4294967296) % 4294967296 + x % 4294967296 * (y / 4294967296)) / 4294967296 < 18446744073709551616 := by omega
  go_enter Tryz.func150, Tryz.ntmps150
  go_wp2
  simp only [maskN x hx, maskN y hy, divN, mulN, addN, wrapN _ bd, wrapN _ bb', wrapN _ bt, maskN _ bt, wrapN _ bc', wrapN _ bw, wrapN _ ba', wrapN _ bh1, wrapN _ bh, wrapM (x * y)]
  rw [hhi]
  go_ret2
  exact ⟨rfl, rfl⟩
set_option maxRecDepth 100000 in
theorem len8tab_size : Lib.len8tab.size = 256 := by decide
theorem len8_get (y : Int) (h : y.toNat < Lib.len8tab.size) (h0 : 0 ≤ y) (h1 : y ≤ 255) : ((Lib.len8tab[y.toNat]'h).toNat : Int) = (Lib.bitLen y.toNat : Int) := by
  rw [← Lib.len8_of y h0 h1]
  unfold Lib.len8
  rw [getElem?_pos Lib.len8tab y.toNat h]
  rfl
theorem len_way (k : Int) (y : Int) (x : Nat) (h : y.toNat < Lib.len8tab.size) (hk : 0 ≤ k) (hk' : k ≤ 56) (h0 : 0 ≤ y) (h1 : y ≤ 255) (hb : (Lib.bitLen x : Int) = k + Lib.bitLen y.toNat) :
    wrap64 (k + wrap64 ((Lib.len8tab[y.toNat]'h).toNat : Int)) = (Lib.bitLen x : Int) := by
  rw [len8_get y h h0 h1, hb]
  have := Lib.bitLen_le8' y h0 h1
  unfold wrap64; omega
theorem len_way0 (y : Int) (h : y.toNat < Lib.len8tab.size) (h0 : 0 ≤ y) (h1 : y ≤ 255) :
    wrap64 (wrap64 ((Lib.len8tab[y.toNat]'h).toNat : Int)) = (Lib.bitLen y.toNat : Int) := by
  rw [len8_get y h h0 h1]
  have := Lib.bitLen_le8' y h0 h1
  unfold wrap64; omega
theorem sh8 (x : Int) (h0 : 0 ≤ x) (h : 256 ≤ x) (h1 : x ≤ 18446744073709551615) : (Lib.bitLen x.toNat : Int) = 8 + Lib.bitLen (x / 256).toNat := by
  have := Lib.bitLen_shift8 x.toNat (by omega) (by omega); rw [show (x / 256).toNat = x.toNat / 256 by omega]; omega
theorem sh16 (x : Int) (h0 : 0 ≤ x) (h : 65536 ≤ x) (h1 : x ≤ 18446744073709551615) : (Lib.bitLen x.toNat : Int) = 16 + Lib.bitLen (x / 65536).toNat := by
  have := Lib.bitLen_shift16 x.toNat (by omega) (by omega); rw [show (x / 65536).toNat = x.toNat / 65536 by omega]; omega
theorem sh24 (x : Int) (h0 : 0 ≤ x) (h : 256 ≤ x / 65536) (h1 : x ≤ 18446744073709551615) : (Lib.bitLen x.toNat : Int) = 24 + Lib.bitLen (x / 65536 / 256).toNat := by
  have a := sh16 x h0 (by omega) h1; have b := sh8 (x / 65536) (by omega) h (by omega); omega
theorem sh32 (x : Int) (h0 : 0 ≤ x) (h : 4294967296 ≤ x) (h1 : x ≤ 18446744073709551615) : (Lib.bitLen x.toNat : Int) = 32 + Lib.bitLen (x / 4294967296).toNat := by
  have := Lib.bitLen_shift32 x.toNat (by omega) (by omega); rw [show (x / 4294967296).toNat = x.toNat / 4294967296 by omega]; omega
theorem sh40 (x : Int) (h0 : 0 ≤ x) (h : 256 ≤ x / 4294967296) (h1 : x ≤ 18446744073709551615) : (Lib.bitLen x.toNat : Int) = 40 + Lib.bitLen (x / 4294967296 / 256).toNat := by
  have a := sh32 x h0 (by omega) h1; have b := sh8 (x / 4294967296) (by omega) h (by omega); omega
theorem sh48 (x : Int) (h0 : 0 ≤ x) (h : 65536 ≤ x / 4294967296) (h1 : x ≤ 18446744073709551615) : (Lib.bitLen x.toNat : Int) = 48 + Lib.bitLen (x / 4294967296 / 65536).toNat := by
  have a := sh32 x h0 (by omega) h1; have b := sh16 (x / 4294967296) (by omega) h (by omega); omega
theorem sh56 (x : Int) (h0 : 0 ≤ x) (h : 256 ≤ x / 4294967296 / 65536) (h1 : x ≤ 18446744073709551615) : (Lib.bitLen x.toNat : Int) = 56 + Lib.bitLen (x / 4294967296 / 65536 / 256).toNat := by
  have a := sh48 x h0 (by omega) h1; have b := sh8 (x / 4294967296 / 65536) (by omega) h (by omega); omega
set_option maxRecDepth 100000 in
theorem len64_any (x : Int) (w : World) (h0 : 0 ≤ x) (h1 : x ≤ 18446744073709551615) :
    Calls Tryz.prog 196 #[.int .u64 x] w fun e w' => e = .returned (.int .i64 (Lib.bitLen x.toNat)) ∧ w = w' := by
  have hs := len8tab_size
  go_enter Tryz.func196, Tryz.ntmps196
  go_wp2
  all_goals (go_ret; refine ⟨congrArg Ending.returned (congrArg (Value.int IntKind.i64) ?_), rfl⟩)
  · exact len_way 56 _ _ _ (by omega) (by omega) (by omega) (by omega) (sh56 x h0 (by omega) h1)
  · exact len_way 48 _ _ _ (by omega) (by omega) (by omega) (by omega) (sh48 x h0 (by omega) h1)
  · exact len_way 40 _ _ _ (by omega) (by omega) (by omega) (by omega) (sh40 x h0 (by omega) h1)
  · exact len_way 32 _ _ _ (by omega) (by omega) (by omega) (by omega) (sh32 x h0 (by omega) h1)
  · exact len_way 24 _ _ _ (by omega) (by omega) (by omega) (by omega) (sh24 x h0 (by omega) h1)
  · exact len_way 16 _ _ _ (by omega) (by omega) (by omega) (by omega) (sh16 x h0 (by omega) h1)
  · exact len_way 8 _ _ _ (by omega) (by omega) (by omega) (by omega) (sh8 x h0 (by omega) h1)
  · exact len_way0 _ _ (by omega) (by omega)
def lz (y : Nat) : Nat := 64 - Lib.bitLen y
theorem lz_norm (y : Nat) (h0 : 0 < y) (h : y < 18446744073709551616) : lz y ≤ 63 ∧ 9223372036854775808 ≤ y * 2 ^ lz y ∧ y * 2 ^ lz y < 18446744073709551616 := by
  obtain ⟨h1, h2, h3⟩ := Lib.bitLenAux_bounds 64 y h (by omega)
  have h4 := Lib.bitLen_le y 64 (by omega) h
  change 1 ≤ Lib.bitLen y at h1
  change 2 ^ (Lib.bitLen y - 1) ≤ y at h2
  change y < 2 ^ (Lib.bitLen y) at h3
  unfold lz
  generalize Lib.bitLen y = L at *
  refine ⟨by omega, ?_, ?_⟩
  · have := Nat.mul_le_mul_right (2 ^ (64 - L)) h2
    rw [← Nat.pow_add, show L - 1 + (64 - L) = 63 by omega] at this
    exact this
  · have := Nat.mul_lt_mul_of_pos_right h3 (Nat.two_pow_pos (64 - L))
    rw [← Nat.pow_add, show L + (64 - L) = 64 by omega] at this
    exact this
theorem lz_any (y : Nat) (w : World) (h : y < 18446744073709551616) :
    Calls Tryz.prog 187 #[.int .u64 y] w fun e w' => e = .returned (.int .i64 (lz y : Nat)) ∧ w = w' := by
  have h4 := Lib.bitLen_le y 64 (by omega) h
  go_enter Tryz.func187, Tryz.ntmps187
  go_wp2_with (go_at_call 196; refine (len64_any _ _ (by omega) (by omega)).mono ?_; rintro e w' ⟨rfl, rfl⟩)
  go_ret
  refine ⟨congrArg Ending.returned (congrArg (Value.int IntKind.i64) ?_), rfl⟩
  unfold lz
  omega
end Go.Proofs.YtmkmafkkpigfpaaGreatDoor.V
