/- NumDoes returns true for every two int64: the walk of its text over the contracts of layer num and of the document's own numbers. -/
import Derived.Test.YtajpjkajmliffaaRR
namespace Go.Proofs.Ytajpjkajmliffaa.numDoes
open Go.ChangeShapes Go.WideShapes Go.ChangeAt Go.RowKit
set_option linter.unusedVariables false

/-- Memory: the three numbers' boxes. -/
structure DoW (w : World) (bx bu : Nat) (nx ny nu : Bool) (ox oy ou : Option Addr) (lx cx ly cy lu cu : Nat) (a b : Int) (wr : World) : Prop where
  x : Two wr bx (.bool nx) (.slice ox lx cx)
  y : Two wr (bx + 1) (.bool ny) (.slice oy ly cy)
  u : Two wr bu (.bool nu) (.slice ou lu cu)
  rx : RN wr (.agg #[.bool nx, .slice ox lx cx]) a
  ry : RN wr (.agg #[.bool ny, .slice oy ly cy]) b
  ru : RN wr (.agg #[.bool nu, .slice ou lu cu]) 10000
  old : Old w wr
theorem DoW.step {w : World} {bx bu : Nat} {nx ny nu : Bool} {ox oy ou : Option Addr} {lx cx ly cy lu cu : Nat} {a b : Int} {wr w' : World} (h : DoW w bx bu nx ny nu ox oy ou lx cx ly cy lu cu a b wr) (ho : Old wr w') : DoW w bx bu nx ny nu ox oy ou lx cx ly cy lu cu a b w' :=
  ⟨h.x.old ho, h.y.old ho, h.u.old ho, h.rx.old ho, h.ry.old ho, h.ru.old ho, h.old.trans ho⟩
theorem DoW.cells {w : World} {bx bu : Nat} {nx ny nu : Bool} {ox oy ou : Option Addr} {lx cx ly cy lu cu : Nat} {a b : Int} {wr : World} (h : DoW w bx bu nx ny nu ox oy ou lx cx ly cy lu cu a b wr) :
    wr.cell? ⟨bx, 0, none⟩ = some (.bool nx) ∧ wr.cell? ⟨bx, 1, none⟩ = some (.slice ox lx cx) ∧ wr.cell? ⟨bx + 1, 0, none⟩ = some (.bool ny) ∧ wr.cell? ⟨bx + 1, 1, none⟩ = some (.slice oy ly cy) ∧ wr.cell? ⟨bu, 0, none⟩ = some (.bool nu) ∧ wr.cell? ⟨bu, 1, none⟩ = some (.slice ou lu cu) :=
  ⟨h.x.c0, h.x.c1, h.y.c0, h.y.c1, h.u.c0, h.u.c1⟩

/-- The same, with the quotient's two boxes. -/
structure DoQ (w : World) (bx bu bq : Nat) (nx ny nu nq nr : Bool) (ox oy ou oq orr : Option Addr) (lx cx ly cy lu cu lq cq lr cr : Nat) (a b q r : Int) (wr : World) : Prop where
  m : DoW w bx bu nx ny nu ox oy ou lx cx ly cy lu cu a b wr
  tq : Two wr bq (.bool nq) (.slice oq lq cq)
  tr : Two wr (bq + 1) (.bool nr) (.slice orr lr cr)
  rq : RN wr (.agg #[.bool nq, .slice oq lq cq]) q
  rr : RN wr (.agg #[.bool nr, .slice orr lr cr]) r
theorem DoQ.step {w : World} {bx bu bq : Nat} {nx ny nu nq nr : Bool} {ox oy ou oq orr : Option Addr} {lx cx ly cy lu cu lq cq lr cr : Nat} {a b q r : Int} {wr w' : World} (h : DoQ w bx bu bq nx ny nu nq nr ox oy ou oq orr lx cx ly cy lu cu lq cq lr cr a b q r wr) (ho : Old wr w') : DoQ w bx bu bq nx ny nu nq nr ox oy ou oq orr lx cx ly cy lu cu lq cq lr cr a b q r w' :=
  ⟨h.m.step ho, h.tq.old ho, h.tr.old ho, h.rq.old ho, h.rr.old ho⟩
theorem DoQ.cells {w : World} {bx bu bq : Nat} {nx ny nu nq nr : Bool} {ox oy ou oq orr : Option Addr} {lx cx ly cy lu cu lq cq lr cr : Nat} {a b q r : Int} {wr : World} (h : DoQ w bx bu bq nx ny nu nq nr ox oy ou oq orr lx cx ly cy lu cu lq cq lr cr a b q r wr) :
    wr.cell? ⟨bx, 0, none⟩ = some (.bool nx) ∧ wr.cell? ⟨bx, 1, none⟩ = some (.slice ox lx cx) ∧ wr.cell? ⟨bx + 1, 0, none⟩ = some (.bool ny) ∧ wr.cell? ⟨bx + 1, 1, none⟩ = some (.slice oy ly cy) ∧ wr.cell? ⟨bu, 0, none⟩ = some (.bool nu) ∧ wr.cell? ⟨bu, 1, none⟩ = some (.slice ou lu cu) ∧ wr.cell? ⟨bq, 0, none⟩ = some (.bool nq) ∧ wr.cell? ⟨bq, 1, none⟩ = some (.slice oq lq cq) ∧ wr.cell? ⟨bq + 1, 0, none⟩ = some (.bool nr) ∧ wr.cell? ⟨bq + 1, 1, none⟩ = some (.slice orr lr cr) :=
  ⟨h.m.x.c0, h.m.x.c1, h.m.y.c0, h.m.y.c1, h.m.u.c0, h.m.u.c1, h.tq.c0, h.tq.c1, h.tr.c0, h.tr.c1⟩

/-- A call that returns a pair, over a world whose old memory stays. -/
def CP (F : FuncId) (xs : Array Value) (V E : Int) : Prop := ∀ W, Calls Try.prog F xs W fun e w' => e = pr V E ∧ Old W w'
def CI (F : FuncId) (xs : Array Value) (n : Int) : Prop := ∀ W, Calls Try.prog F xs W (RetI W n)
def CII (F : FuncId) (a b n : Int) : Prop := ∀ W x y, RN W x a → RN W y b → Calls Try.prog F #[x, y] W (RetI W n)
def CT (V E n : Int) : Prop := ∀ W z, RN W z n → Calls Try.prog 14 #[.int .i64 V, .int .i64 E, z] W fun e w' => e = .returned (.bool true) ∧ Old W w'

set_option maxHeartbeats 6400000 in
set_option maxRecDepth 100000 in
theorem core (a b V1 E1 V2 E2 V3 E3 V4 E4 V5 E5 n1 n2 n3 n4 n5 V6 E6 V7 E7 V8 E8 : Int) (w : World)
    (o1 : CI 8 #[.int .i64 a] a) (o2 : CI 8 #[.int .i64 b] b) (o3 : CI 8 #[.int .i64 10000] 10000)
    (p1 : CP 9 #[.int .i64 a, .int .i64 b] V1 E1) (p2 : CP 10 #[.int .i64 a, .int .i64 b] V2 E2) (p3 : CP 11 #[.int .i64 a, .int .i64 b] V3 E3) (p4 : CP 12 #[.int .i64 a] V4 E4) (p5 : CP 13 #[.int .i64 a, .int .i64 b] V5 E5)
    (i1 : CII 15 a b n1) (i2 : CII 16 a b n2) (i3 : CII 17 a b n3) (i4 : CII 17 a 10000 n4) (i5 : CII 18 n3 10000 n5)
    (t1 : CT V1 E1 n1) (t2 : CT V2 E2 n2) (t3 : CT V3 E3 n3) (t4 : CT V4 E4 n4) (t5 : CT V5 E5 n5) (q r n8 : Int)
    (hb : ((b == 0) = true ∧ CP 19 #[.int .i64 a, .int .i64 b] 0 10 ∧ CP 20 #[.int .i64 a, .int .i64 b] 0 10 ∧ CP 21 #[.int .i64 a, .int .i64 b] 0 10) ∨
      ((b == 0) = false ∧ CP 19 #[.int .i64 a, .int .i64 b] V6 E6 ∧ CP 20 #[.int .i64 a, .int .i64 b] V7 E7 ∧ CP 21 #[.int .i64 a, .int .i64 b] V8 E8 ∧ (∀ W x y, RN W x a → RN W y b → Calls Try.prog 23 #[x, y] W (RetQI W q r)) ∧ CT V6 E6 q ∧ CT V7 E7 r ∧ CII 18 n4 b n8 ∧ CT V8 E8 n8))
    (kn : ∀ W, Calls Try.prog 22 #[] W fun e w' => e = .returned (.bool true) ∧ Old W w') :
    Calls Try.prog 3 #[.int .i64 a, .int .i64 b] w fun e w' => e = .returned (.bool true) ∧ Old w w' := by
  have O1 := Lib.hid o1
  have O2 := Lib.hid o2
  have O3 := Lib.hid o3
  have P1 := Lib.hid p1
  have P2 := Lib.hid p2
  have P3 := Lib.hid p3
  have P4 := Lib.hid p4
  have P5 := Lib.hid p5
  have I1 := Lib.hid i1
  have I2 := Lib.hid i2
  have I3 := Lib.hid i3
  have I4 := Lib.hid i4
  have I5 := Lib.hid i5
  have T1 := Lib.hid t1
  have T2 := Lib.hid t2
  have T3 := Lib.hid t3
  have T4 := Lib.hid t4
  have T5 := Lib.hid t5
  have HB := Lib.hid hb
  have KN := Lib.hid kn
  clear hb kn
  clear o1 o2 o3 p1 p2 p3 p4 p5 i1 i2 i3 i4 i5 t1 t2 t3 t4 t5
  go_enter Try.func3, Try.ntmps3
  go_wp2_with fail
  refine (O1.out _).mono ?_
  rintro e w1 ⟨z1, rfl, hz1, ho1⟩
  obtain ⟨nx, ox, lx, cx, rfl⟩ := hz1.form
  go_wp2_with fail
  refine (O2.out _).mono ?_
  rintro e w2 ⟨z2, rfl, hz2, ho2⟩
  obtain ⟨ny, oy, ly, cy, rfl⟩ := hz2.form
  go_wp2_with fail
  refine (O3.out _).mono ?_
  rintro e w3 ⟨z3, rfl, hz3, ho3⟩
  obtain ⟨nu, ou, lu, cu, rfl⟩ := hz3.form
  have HV : Hid (DoW w w2.heap.size w3.heap.size nx ny nu ox oy ou lx cx ly cy lu cu a b (w3.alloc (.cells #[.bool nu, .slice ou lu cu] 24))) := by
    have q1 := (Two.new w2 (.bool nx) (.slice ox lx cx)).alloc (.cells #[.bool ny, .slice oy ly cy] 24)
    have q2 := Two.new (w2.alloc (.cells #[.bool nx, .slice ox lx cx] 24)) (.bool ny) (.slice oy ly cy)
    rw [show (w2.alloc (.cells #[.bool nx, .slice ox lx cx] 24)).heap.size = w2.heap.size + 1 by simp] at q2
    have o23 := ((Old.refl w2).alloc (.cells #[.bool nx, .slice ox lx cx] 24)).alloc (.cells #[.bool ny, .slice oy ly cy] 24)
    have oA := (Old.refl w3).alloc (.cells #[.bool nu, .slice ou lu cu] 24)
    exact ⟨q1.old (ho3.trans oA), q2.old (ho3.trans oA), Two.new _ _ _, hz1.old (ho2.trans (o23.trans (ho3.trans oA))), hz2.old (o23.trans (ho3.trans oA)), hz3.old oA, ho1.trans (ho2.trans (o23.trans (ho3.trans oA)))⟩
  clear hz1 hz2 hz3 ho1 ho2 ho3
  obtain ⟨bx, hbx⟩ : ∃ bx, bx = w2.heap.size := ⟨_, rfl⟩
  go_wp2_with fail
  rw [← hbx] at HV ⊢
  clear hbx
  refine (P1.out _).mono ?_
  rintro e w5 ⟨rfl, ho⟩
  have HV5 := Lib.hid (HV.out.step ho)
  clear HV ho
  go_wp2_with fail
  refine (P2.out _).mono ?_
  rintro e w6 ⟨rfl, ho⟩
  have HV6 := Lib.hid (HV5.out.step ho)
  clear HV5 ho
  go_wp2_with fail
  refine (P3.out _).mono ?_
  rintro e w7 ⟨rfl, ho⟩
  have HV7 := Lib.hid (HV6.out.step ho)
  clear HV6 ho
  go_wp2_with fail
  refine (P4.out _).mono ?_
  rintro e w8 ⟨rfl, ho⟩
  have HV8 := Lib.hid (HV7.out.step ho)
  clear HV7 ho
  go_wp2_with fail
  refine (P5.out _).mono ?_
  rintro e w9 ⟨rfl, ho⟩
  have HV := Lib.hid (HV8.out.step (ho.trans (Old.refl w9).drew))
  have HV0 := Lib.hid (HV8.out.step ho)
  clear HV8 ho
  go_wp2_with fail
  go_region_held3 (fun w' => w'.cell? ⟨bx, 0, none⟩ = some (.bool nx) ∧ w'.cell? ⟨bx, 1, none⟩ = some (.slice ox lx cx) ∧ w'.cell? ⟨bx + 1, 0, none⟩ = some (.bool ny) ∧ w'.cell? ⟨bx + 1, 1, none⟩ = some (.slice oy ly cy) ∧ w'.cell? ⟨w3.heap.size, 0, none⟩ = some (.bool nu) ∧ w'.cell? ⟨w3.heap.size, 1, none⟩ = some (.slice ou lu cu))
    (first | exact HV.out.cells | go_keep)
    (first
      | (go_at_call_of 14 (Value.int IntKind.i64 V1); refine (T1.out _ _ HZ.out).mono ?_; rintro e wt ⟨rfl, ho⟩; have HV := Lib.hid (HV.out.step ho); clear ho)
      | (go_at_call_of 14 (Value.int IntKind.i64 V2); refine (T2.out _ _ HZ.out).mono ?_; rintro e wt ⟨rfl, ho⟩; have HV := Lib.hid (HV.out.step ho); clear ho)
      | (go_at_call_of 14 (Value.int IntKind.i64 V3); refine (T3.out _ _ HZ.out).mono ?_; rintro e wt ⟨rfl, ho⟩; have HV := Lib.hid (HV.out.step ho); clear ho)
      | (go_at_call_of 14 (Value.int IntKind.i64 V4); refine (T4.out _ _ HZ.out).mono ?_; rintro e wt ⟨rfl, ho⟩; have HV := Lib.hid (HV.out.step ho); clear ho)
      | (go_at_call_of 14 (Value.int IntKind.i64 V5); refine (T5.out _ _ HZ.out).mono ?_; rintro e wt ⟨rfl, ho⟩; have HV := Lib.hid (HV.out.step ho); clear ho)
      | (go_at_call 15; refine (I1.out _ _ _ HV.out.rx HV.out.ry).mono ?_; rintro e wt ⟨z, rfl, hz, ho⟩; have HV := Lib.hid (HV.out.step ho); have HZ := Lib.hid hz; clear hz ho)
      | (go_at_call 16; refine (I2.out _ _ _ HV.out.rx HV.out.ry).mono ?_; rintro e wt ⟨z, rfl, hz, ho⟩; have HV := Lib.hid (HV.out.step ho); have HZ := Lib.hid hz; clear hz ho)
      | (go_at_call_of 17 (Value.agg #[Value.bool nu, Value.slice ou lu cu]); refine (I4.out _ _ _ HV.out.rx HV.out.ru).mono ?_; rintro e wt ⟨z, rfl, hz, ho⟩; have HV := Lib.hid (HV.out.step ho); have HZ := Lib.hid hz; clear hz ho)
      | (go_at_call 17; refine (I3.out _ _ _ HV.out.rx HV.out.ry).mono ?_; rintro e wt ⟨z, rfl, hz, ho⟩; have HV := Lib.hid (HV.out.step ho); have HZ := Lib.hid hz; clear hz ho)
      | (go_at_call 18; refine (I5.out _ _ _ HZ.out HV.out.ru).mono ?_; rintro e wt ⟨z, rfl, hz, ho⟩; have HV := Lib.hid (HV.out.step ho); have HZ := Lib.hid hz; clear hz ho))
  go_wp2_with fail
  clear I1 I2 I3 I5 T1 T2 T3 T4 T5
  rcases HB.out with ⟨hb, p6, p7, p8⟩ | ⟨hb, p6, p7, p8, k1, k2, k3, k4, k5⟩
  · have P6 := Lib.hid p6
    have P7 := Lib.hid p7
    have P8 := Lib.hid p8
    clear HB p6 p7 p8
    refine (P6.out _).mono ?_
    rintro e w5 ⟨rfl, ho⟩
    have HV := Lib.hid (HV.out.step ho)
    clear ho
    go_wp2_with fail
    refine (P7.out _).mono ?_
    rintro e w6 ⟨rfl, ho⟩
    have HV := Lib.hid (HV.out.step ho)
    clear ho
    go_wp2_with fail
    refine (P8.out _).mono ?_
    rintro e w7 ⟨rfl, ho⟩
    have HV := Lib.hid (HV.out.step ho)
    clear ho
    go_wp2_with fail
    refine (KN.out _).mono ?_
    rintro e w8 ⟨rfl, ho⟩
    have HV := Lib.hid (HV.out.step ho)
    clear ho
    go_wp2_with fail
    go_ret
    exact ⟨rfl, HV.out.old⟩
  · have P6 := Lib.hid p6
    have P7 := Lib.hid p7
    have P8 := Lib.hid p8
    have IQ := Lib.hid k1
    have T6 := Lib.hid k2
    have T7 := Lib.hid k3
    have I8 := Lib.hid k4
    have T8 := Lib.hid k5
    clear HB p6 p7 p8 k1 k2 k3 k4 k5
    refine (P6.out _).mono ?_
    rintro e w5 ⟨rfl, ho⟩
    have HV := Lib.hid (HV.out.step ho)
    clear ho
    go_wp2_with fail
    refine (P7.out _).mono ?_
    rintro e w6 ⟨rfl, ho⟩
    have HV := Lib.hid (HV.out.step ho)
    clear ho
    go_wp2_with fail
    refine (P8.out _).mono ?_
    rintro e w7 ⟨rfl, ho⟩
    have HV := Lib.hid (HV.out.step ho)
    clear ho
    have c0 := HV.out.x.c0
    have c1 := HV.out.x.c1
    have c2 := HV.out.y.c0
    have c3 := HV.out.y.c1
    go_wp2_with fail
    refine (IQ.out _ _ _ HV.out.rx HV.out.ry).mono ?_
    rintro e w8 ⟨zq, zr, rfl, hzq, hzr, ho⟩
    obtain ⟨nq, oq, lq, cq, rfl⟩ := hzq.form
    obtain ⟨nr, orr, lr, cr, rfl⟩ := hzr.form
    have HV8 := Lib.hid (HV.out.step ho)
    clear ho c0 c1 c2 c3
    have HV : Hid (DoQ w bx w3.heap.size w8.heap.size nx ny nu nq nr ox oy ou oq orr lx cx ly cy lu cu lq cq lr cr a b q r ((w8.alloc (.cells #[.bool nq, .slice oq lq cq] 24)).alloc (.cells #[.bool nr, .slice orr lr cr] 24)).drew) := by
      have q1 := (Two.new w8 (.bool nq) (.slice oq lq cq)).alloc (.cells #[.bool nr, .slice orr lr cr] 24)
      have q2 := Two.new (w8.alloc (.cells #[.bool nq, .slice oq lq cq] 24)) (.bool nr) (.slice orr lr cr)
      rw [show (w8.alloc (.cells #[.bool nq, .slice oq lq cq] 24)).heap.size = w8.heap.size + 1 by simp] at q2
      have oA := (((Old.refl w8).alloc (.cells #[.bool nq, .slice oq lq cq] 24)).alloc (.cells #[.bool nr, .slice orr lr cr] 24)).drew
      exact ⟨HV8.out.step oA, q1, q2, hzq.old oA, hzr.old oA⟩
    clear hzq hzr HV8
    obtain ⟨bq, hbq⟩ : ∃ bq, bq = w8.heap.size := ⟨_, rfl⟩
    go_wp2_with fail
    rw [← hbq] at HV ⊢
    clear hbq
    generalize hWQ : ((w8.alloc (.cells #[.bool nq, .slice oq lq cq] 24)).alloc (.cells #[.bool nr, .slice orr lr cr] 24)) = WQ at *
    clear hWQ
    go_region_held3 (fun w' => w'.cell? ⟨bx, 0, none⟩ = some (.bool nx) ∧ w'.cell? ⟨bx, 1, none⟩ = some (.slice ox lx cx) ∧ w'.cell? ⟨bx + 1, 0, none⟩ = some (.bool ny) ∧ w'.cell? ⟨bx + 1, 1, none⟩ = some (.slice oy ly cy) ∧ w'.cell? ⟨w3.heap.size, 0, none⟩ = some (.bool nu) ∧ w'.cell? ⟨w3.heap.size, 1, none⟩ = some (.slice ou lu cu) ∧ w'.cell? ⟨bq, 0, none⟩ = some (.bool nq) ∧ w'.cell? ⟨bq, 1, none⟩ = some (.slice oq lq cq) ∧ w'.cell? ⟨bq + 1, 0, none⟩ = some (.bool nr) ∧ w'.cell? ⟨bq + 1, 1, none⟩ = some (.slice orr lr cr))
      (first | exact HV.out.cells | go_keep)
      (first
        | (go_at_call_of 14 (Value.int IntKind.i64 V6); refine (T6.out _ _ HV.out.rq).mono ?_; rintro e wt ⟨rfl, ho⟩; have HV := Lib.hid (HV.out.step ho); clear ho)
        | (go_at_call_of 14 (Value.int IntKind.i64 V7); refine (T7.out _ _ HV.out.rr).mono ?_; rintro e wt ⟨rfl, ho⟩; have HV := Lib.hid (HV.out.step ho); clear ho)
        | (go_at_call_of 14 (Value.int IntKind.i64 V8); refine (T8.out _ _ HZ.out).mono ?_; rintro e wt ⟨rfl, ho⟩; have HV := Lib.hid (HV.out.step ho); clear ho)
        | (go_at_call 17; refine (I4.out _ _ _ HV.out.m.rx HV.out.m.ru).mono ?_; rintro e wt ⟨z, rfl, hz, ho⟩; have HV := Lib.hid (HV.out.step ho); have HZ := Lib.hid hz; clear hz ho)
        | (go_at_call 18; refine (I8.out _ _ _ HZ.out HV.out.m.ry).mono ?_; rintro e wt ⟨z, rfl, hz, ho⟩; have HV := Lib.hid (HV.out.step ho); have HZ := Lib.hid hz; clear hz ho)
        | (go_at_call 22; refine (KN.out _).mono ?_; rintro e wt ⟨rfl, ho⟩; have HV := Lib.hid (HV.out.step ho); clear ho))
    go_wp2_with fail
    go_ret
    exact ⟨rfl, HV.out.m.old⟩

end Go.Proofs.Ytajpjkajmliffaa.numDoes
