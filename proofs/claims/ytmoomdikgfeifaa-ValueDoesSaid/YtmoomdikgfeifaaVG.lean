/- Layer value: Add, Sub, Mul, Div as walks. -/
import Derived.Test.YtmoomdikgfeifaaVF
namespace Go.Proofs.Ytmoomdikgfeifaa
open Go.ChangeShapes Go.WideShapes Go.ChangeAt Go.RowKit
set_option linter.unusedVariables false

theorem far3 {w : World} {B b o : Nat} {x : Value} (h : w.cell? ⟨b, o, none⟩ = some x) (hne : ¬ b = B) (u0 u1 u2 : Value) : (((w.setCell ⟨B, 0, none⟩ u0).setCell ⟨B, 1, none⟩ u1).setCell ⟨B, 2, none⟩ u2).cell? ⟨b, o, none⟩ = some x := by
  rw [World.cell?_setCell_other _ _ _ _ (by intro e; exact hne (congrArg Addr.block e).symm), World.cell?_setCell_other _ _ _ _ (by intro e; exact hne (congrArg Addr.block e).symm), World.cell?_setCell_other _ _ _ _ (by intro e; exact hne (congrArg Addr.block e).symm)]
  exact h
theorem ofi_any (f : FuncId) (w : World) : Calls Try.prog 36 #[.func (.func f) #[] #[]] w fun e w' => e = .returned (.func (.func 62) #[] #[.pointer (some ⟨w.heap.size, 0, none⟩)]) ∧ w' = w.alloc (.cells #[.func (.func f) #[] #[]] 52) := by
  go_enter Try.func36, Try.ntmps36
  go_wp2
  go_ret
  exact ⟨rfl, rfl⟩
theorem ofd_any (f : FuncId) (w : World) : Calls Try.prog 38 #[.func (.func f) #[] #[]] w fun e w' => e = .returned (.func (.func 64) #[] #[.pointer (some ⟨w.heap.size, 0, none⟩)]) ∧ w' = w.alloc (.cells #[.func (.func f) #[] #[]] 52) := by
  go_enter Try.func38, Try.ntmps38
  go_wp2
  go_ret
  exact ⟨rfl, rfl⟩
/-- One cell that holds a function. -/
def Fc (w : World) (g : Nat) (f : FuncId) : Prop := g < w.heap.size ∧ w.cell? ⟨g, 0, none⟩ = some (.func (.func f) #[] #[])
theorem Fc.new (w : World) (f : FuncId) : Fc (w.alloc (.cells #[.func (.func f) #[] #[]] 52)) w.heap.size f := by
  have h := (MapKept.heap_alloc w (.cells #[.func (.func f) #[] #[]] 52)).1
  refine ⟨blk_lt h, ?_⟩
  simp only [World.cell?, h]
  rfl
theorem Fc.old {w w' : World} {g : Nat} {f : FuncId} (h : Fc w g f) (ho : Old w w') : Fc w' g f := ⟨Nat.lt_of_lt_of_le h.1 ho.size, (ho.cell (p := ⟨g, 0, none⟩) h.1).trans h.2⟩
/-- What reckon answers, asked with these two functions. -/
def RK (fi fd : FuncId) (k n : Int) (s : ByteArray) (k' n' : Int) (s' : ByteArray) (A B C : Int) : Prop :=
  ∀ (W : World) (g g' : Nat), Fc W g fi → Fc W g' fd → Calls Try.prog 35 #[vl k n s, vl k' n' s', .func (.func 62) #[] #[.pointer (some ⟨g, 0, none⟩)], .func (.func 64) #[] #[.pointer (some ⟨g', 0, none⟩)]] W fun e w' => e = rv A B C ∧ Old W w'

set_option maxHeartbeats 1600000 in
theorem vadd_walk (k n : Int) (s : ByteArray) (k' n' : Int) (s' : ByteArray) (w : World) (A B C : Int) (hR : RK 37 37 k n s k' n' s' A B C) :
    Calls Try.prog 11 #[vl k n s, vl k' n' s'] w fun e w' => e = rv A B C ∧ Old w w' := by
  unfold RK at hR
  have HR := Rk3.new w k n s k' n' s'
  go_enter Try.func11, Try.ntmps11
  go_wp2_with fail
  generalize hW : ((w.alloc (.cells #[.int .u8 k, .int .i64 n, .string s] 23)).alloc (.cells #[.int .u8 k', .int .i64 n', .string s'] 23)).alloc (.cells #[.int .u8 0, .int .i64 0, .string ⟨#[]⟩] 23) = W at *
  clear hW
  have c0 := HR.b.t0.c0
  have c1 := HR.b.t0.c1
  have c2 := HR.b.t0.c2
  have d0 := HR.b.t1.c0
  have d1 := HR.b.t1.c1
  have d2 := HR.b.t1.c2
  have HR := Lib.hid HR
  have oi : Old W (W.alloc (.cells #[.func (.func 37) #[] #[]] 52)).drew := ((Old.refl W).alloc _).drew
  have oj : Old W ((W.alloc (.cells #[.func (.func 37) #[] #[]] 52)).alloc (.cells #[.func (.func 37) #[] #[]] 52)).drew := (((Old.refl W).alloc _).alloc _).drew
  have R1 := Lib.hid (HR.out.old oi)
  have R2 := Lib.hid (HR.out.old oj)
  have F2 := Lib.hid ((Fc.new W 37).old (((Old.refl _).alloc (.cells #[.func (.func 37) #[] #[]] 52)).drew))
  have F3 := Fc.new (W.alloc (.cells #[.func (.func 37) #[] #[]] 52)) 37
  rw [sz_alloc] at F3
  have F3 := Lib.hid (F3.old (Old.refl _).drew)
  clear oi oj
  go_region_held3 (fun w' => w'.cell? ⟨w.heap.size, 0, none⟩ = some (.int .u8 k) ∧ w'.cell? ⟨w.heap.size, 1, none⟩ = some (.int .i64 n) ∧ w'.cell? ⟨w.heap.size, 2, none⟩ = some (.string s) ∧ w'.cell? ⟨w.heap.size + 1, 0, none⟩ = some (.int .u8 k') ∧ w'.cell? ⟨w.heap.size + 1, 1, none⟩ = some (.int .i64 n') ∧ w'.cell? ⟨w.heap.size + 1, 2, none⟩ = some (.string s'))
    (first | exact ⟨c0, c1, c2, d0, d1, d2⟩ | exact ⟨R1.out.b.t0.c0, R1.out.b.t0.c1, R1.out.b.t0.c2, R1.out.b.t1.c0, R1.out.b.t1.c1, R1.out.b.t1.c2⟩ | exact ⟨R2.out.b.t0.c0, R2.out.b.t0.c1, R2.out.b.t0.c2, R2.out.b.t1.c0, R2.out.b.t1.c1, R2.out.b.t1.c2⟩ | exact ⟨R3.out.b.t0.c0, R3.out.b.t0.c1, R3.out.b.t0.c2, R3.out.b.t1.c0, R3.out.b.t1.c1, R3.out.b.t1.c2⟩ | exact ⟨far3 R3.out.b.t0.c0 (by omega) _ _ _, far3 R3.out.b.t0.c1 (by omega) _ _ _, far3 R3.out.b.t0.c2 (by omega) _ _ _, far3 R3.out.b.t1.c0 (by omega) _ _ _, far3 R3.out.b.t1.c1 (by omega) _ _ _, far3 R3.out.b.t1.c2 (by omega) _ _ _⟩ | go_keep)
    (first
      | (go_at_call 36; (with_reducible refine (ofi_any _ _).mono ?_); rintro e w1 ⟨rfl, rfl⟩)
      | (go_at_call 38; (with_reducible refine (ofd_any _ _).mono ?_); rintro e w2 ⟨rfl, rfl⟩)
      | (go_at_call 35; (with_reducible refine (hR _ _ _ F2.out F3.out).mono ?_); rintro e w3 ⟨rfl, ho3⟩; have R3 := Lib.hid (R2.out.old ho3); have e0 := R3.out.t2.c0; have e1 := R3.out.t2.c1; have e2 := R3.out.t2.c2; have f0 := R3.out.t2.f 0; have f1 := R3.out.t2.f 1; have f2 := R3.out.t2.f 2))
  all_goals go_wp2
  have R := R3.out.t2.set (.int .u8 A) (.int .i64 B) (.string ⟨#[]⟩)
  have O := old3 R3.out.b.o (b := w.heap.size + 1 + 1) (by omega) (.int .u8 A) (.int .i64 B) (.string ⟨#[]⟩)
  clear hR HR c0 c1 c2 d0 d1 d2 R1 R2 F2 F3 e0 e1 e2 f0 f1 f2 R3 ho3
  exact bodyPost_ret (v := .tuple #[vl A B ⟨#[]⟩, .int .i64 C]) (by simp [results, Try.results11, go_sem, R.c0, R.c1, R.c2]) rfl ⟨rfl, O⟩

set_option maxHeartbeats 1600000 in
theorem vsub_walk (k n : Int) (s : ByteArray) (k' n' : Int) (s' : ByteArray) (w : World) (A B C : Int) (hR : RK 48 48 k n s k' n' s' A B C) :
    Calls Try.prog 13 #[vl k n s, vl k' n' s'] w fun e w' => e = rv A B C ∧ Old w w' := by
  unfold RK at hR
  have HR := Rk3.new w k n s k' n' s'
  go_enter Try.func13, Try.ntmps13
  go_wp2_with fail
  generalize hW : ((w.alloc (.cells #[.int .u8 k, .int .i64 n, .string s] 23)).alloc (.cells #[.int .u8 k', .int .i64 n', .string s'] 23)).alloc (.cells #[.int .u8 0, .int .i64 0, .string ⟨#[]⟩] 23) = W at *
  clear hW
  have c0 := HR.b.t0.c0
  have c1 := HR.b.t0.c1
  have c2 := HR.b.t0.c2
  have d0 := HR.b.t1.c0
  have d1 := HR.b.t1.c1
  have d2 := HR.b.t1.c2
  have HR := Lib.hid HR
  have oi : Old W (W.alloc (.cells #[.func (.func 48) #[] #[]] 52)).drew := ((Old.refl W).alloc _).drew
  have oj : Old W ((W.alloc (.cells #[.func (.func 48) #[] #[]] 52)).alloc (.cells #[.func (.func 48) #[] #[]] 52)).drew := (((Old.refl W).alloc _).alloc _).drew
  have R1 := Lib.hid (HR.out.old oi)
  have R2 := Lib.hid (HR.out.old oj)
  have F2 := Lib.hid ((Fc.new W 48).old (((Old.refl _).alloc (.cells #[.func (.func 48) #[] #[]] 52)).drew))
  have F3 := Fc.new (W.alloc (.cells #[.func (.func 48) #[] #[]] 52)) 48
  rw [sz_alloc] at F3
  have F3 := Lib.hid (F3.old (Old.refl _).drew)
  clear oi oj
  go_region_held3 (fun w' => w'.cell? ⟨w.heap.size, 0, none⟩ = some (.int .u8 k) ∧ w'.cell? ⟨w.heap.size, 1, none⟩ = some (.int .i64 n) ∧ w'.cell? ⟨w.heap.size, 2, none⟩ = some (.string s) ∧ w'.cell? ⟨w.heap.size + 1, 0, none⟩ = some (.int .u8 k') ∧ w'.cell? ⟨w.heap.size + 1, 1, none⟩ = some (.int .i64 n') ∧ w'.cell? ⟨w.heap.size + 1, 2, none⟩ = some (.string s'))
    (first | exact ⟨c0, c1, c2, d0, d1, d2⟩ | exact ⟨R1.out.b.t0.c0, R1.out.b.t0.c1, R1.out.b.t0.c2, R1.out.b.t1.c0, R1.out.b.t1.c1, R1.out.b.t1.c2⟩ | exact ⟨R2.out.b.t0.c0, R2.out.b.t0.c1, R2.out.b.t0.c2, R2.out.b.t1.c0, R2.out.b.t1.c1, R2.out.b.t1.c2⟩ | exact ⟨R3.out.b.t0.c0, R3.out.b.t0.c1, R3.out.b.t0.c2, R3.out.b.t1.c0, R3.out.b.t1.c1, R3.out.b.t1.c2⟩ | exact ⟨far3 R3.out.b.t0.c0 (by omega) _ _ _, far3 R3.out.b.t0.c1 (by omega) _ _ _, far3 R3.out.b.t0.c2 (by omega) _ _ _, far3 R3.out.b.t1.c0 (by omega) _ _ _, far3 R3.out.b.t1.c1 (by omega) _ _ _, far3 R3.out.b.t1.c2 (by omega) _ _ _⟩ | go_keep)
    (first
      | (go_at_call 36; (with_reducible refine (ofi_any _ _).mono ?_); rintro e w1 ⟨rfl, rfl⟩)
      | (go_at_call 38; (with_reducible refine (ofd_any _ _).mono ?_); rintro e w2 ⟨rfl, rfl⟩)
      | (go_at_call 35; (with_reducible refine (hR _ _ _ F2.out F3.out).mono ?_); rintro e w3 ⟨rfl, ho3⟩; have R3 := Lib.hid (R2.out.old ho3); have e0 := R3.out.t2.c0; have e1 := R3.out.t2.c1; have e2 := R3.out.t2.c2; have f0 := R3.out.t2.f 0; have f1 := R3.out.t2.f 1; have f2 := R3.out.t2.f 2))
  all_goals go_wp2
  have R := R3.out.t2.set (.int .u8 A) (.int .i64 B) (.string ⟨#[]⟩)
  have O := old3 R3.out.b.o (b := w.heap.size + 1 + 1) (by omega) (.int .u8 A) (.int .i64 B) (.string ⟨#[]⟩)
  clear hR HR c0 c1 c2 d0 d1 d2 R1 R2 F2 F3 e0 e1 e2 f0 f1 f2 R3 ho3
  exact bodyPost_ret (v := .tuple #[vl A B ⟨#[]⟩, .int .i64 C]) (by simp [results, Try.results13, go_sem, R.c0, R.c1, R.c2]) rfl ⟨rfl, O⟩

set_option maxHeartbeats 1600000 in
theorem vmul_walk (k n : Int) (s : ByteArray) (k' n' : Int) (s' : ByteArray) (w : World) (A B C : Int) (hR : RK 49 50 k n s k' n' s' A B C) :
    Calls Try.prog 14 #[vl k n s, vl k' n' s'] w fun e w' => e = rv A B C ∧ Old w w' := by
  unfold RK at hR
  have HR := Rk3.new w k n s k' n' s'
  go_enter Try.func14, Try.ntmps14
  go_wp2_with fail
  generalize hW : ((w.alloc (.cells #[.int .u8 k, .int .i64 n, .string s] 23)).alloc (.cells #[.int .u8 k', .int .i64 n', .string s'] 23)).alloc (.cells #[.int .u8 0, .int .i64 0, .string ⟨#[]⟩] 23) = W at *
  clear hW
  have c0 := HR.b.t0.c0
  have c1 := HR.b.t0.c1
  have c2 := HR.b.t0.c2
  have d0 := HR.b.t1.c0
  have d1 := HR.b.t1.c1
  have d2 := HR.b.t1.c2
  have HR := Lib.hid HR
  have oi : Old W (W.alloc (.cells #[.func (.func 49) #[] #[]] 52)).drew := ((Old.refl W).alloc _).drew
  have oj : Old W ((W.alloc (.cells #[.func (.func 49) #[] #[]] 52)).alloc (.cells #[.func (.func 50) #[] #[]] 52)).drew := (((Old.refl W).alloc _).alloc _).drew
  have R1 := Lib.hid (HR.out.old oi)
  have R2 := Lib.hid (HR.out.old oj)
  have F2 := Lib.hid ((Fc.new W 49).old (((Old.refl _).alloc (.cells #[.func (.func 50) #[] #[]] 52)).drew))
  have F3 := Fc.new (W.alloc (.cells #[.func (.func 49) #[] #[]] 52)) 50
  rw [sz_alloc] at F3
  have F3 := Lib.hid (F3.old (Old.refl _).drew)
  clear oi oj
  go_region_held3 (fun w' => w'.cell? ⟨w.heap.size, 0, none⟩ = some (.int .u8 k) ∧ w'.cell? ⟨w.heap.size, 1, none⟩ = some (.int .i64 n) ∧ w'.cell? ⟨w.heap.size, 2, none⟩ = some (.string s) ∧ w'.cell? ⟨w.heap.size + 1, 0, none⟩ = some (.int .u8 k') ∧ w'.cell? ⟨w.heap.size + 1, 1, none⟩ = some (.int .i64 n') ∧ w'.cell? ⟨w.heap.size + 1, 2, none⟩ = some (.string s'))
    (first | exact ⟨c0, c1, c2, d0, d1, d2⟩ | exact ⟨R1.out.b.t0.c0, R1.out.b.t0.c1, R1.out.b.t0.c2, R1.out.b.t1.c0, R1.out.b.t1.c1, R1.out.b.t1.c2⟩ | exact ⟨R2.out.b.t0.c0, R2.out.b.t0.c1, R2.out.b.t0.c2, R2.out.b.t1.c0, R2.out.b.t1.c1, R2.out.b.t1.c2⟩ | exact ⟨R3.out.b.t0.c0, R3.out.b.t0.c1, R3.out.b.t0.c2, R3.out.b.t1.c0, R3.out.b.t1.c1, R3.out.b.t1.c2⟩ | exact ⟨far3 R3.out.b.t0.c0 (by omega) _ _ _, far3 R3.out.b.t0.c1 (by omega) _ _ _, far3 R3.out.b.t0.c2 (by omega) _ _ _, far3 R3.out.b.t1.c0 (by omega) _ _ _, far3 R3.out.b.t1.c1 (by omega) _ _ _, far3 R3.out.b.t1.c2 (by omega) _ _ _⟩ | go_keep)
    (first
      | (go_at_call 36; (with_reducible refine (ofi_any _ _).mono ?_); rintro e w1 ⟨rfl, rfl⟩)
      | (go_at_call 38; (with_reducible refine (ofd_any _ _).mono ?_); rintro e w2 ⟨rfl, rfl⟩)
      | (go_at_call 35; (with_reducible refine (hR _ _ _ F2.out F3.out).mono ?_); rintro e w3 ⟨rfl, ho3⟩; have R3 := Lib.hid (R2.out.old ho3); have e0 := R3.out.t2.c0; have e1 := R3.out.t2.c1; have e2 := R3.out.t2.c2; have f0 := R3.out.t2.f 0; have f1 := R3.out.t2.f 1; have f2 := R3.out.t2.f 2))
  all_goals go_wp2
  have R := R3.out.t2.set (.int .u8 A) (.int .i64 B) (.string ⟨#[]⟩)
  have O := old3 R3.out.b.o (b := w.heap.size + 1 + 1) (by omega) (.int .u8 A) (.int .i64 B) (.string ⟨#[]⟩)
  clear hR HR c0 c1 c2 d0 d1 d2 R1 R2 F2 F3 e0 e1 e2 f0 f1 f2 R3 ho3
  exact bodyPost_ret (v := .tuple #[vl A B ⟨#[]⟩, .int .i64 C]) (by simp [results, Try.results14, go_sem, R.c0, R.c1, R.c2]) rfl ⟨rfl, O⟩

set_option maxHeartbeats 1600000 in
theorem vdiv_walk (k n : Int) (s : ByteArray) (k' n' : Int) (s' : ByteArray) (w : World) (A B C : Int) (hR : RK 51 52 k n s k' n' s' A B C) :
    Calls Try.prog 15 #[vl k n s, vl k' n' s'] w fun e w' => e = rv A B C ∧ Old w w' := by
  unfold RK at hR
  have HR := Rk3.new w k n s k' n' s'
  go_enter Try.func15, Try.ntmps15
  go_wp2_with fail
  generalize hW : ((w.alloc (.cells #[.int .u8 k, .int .i64 n, .string s] 23)).alloc (.cells #[.int .u8 k', .int .i64 n', .string s'] 23)).alloc (.cells #[.int .u8 0, .int .i64 0, .string ⟨#[]⟩] 23) = W at *
  clear hW
  have c0 := HR.b.t0.c0
  have c1 := HR.b.t0.c1
  have c2 := HR.b.t0.c2
  have d0 := HR.b.t1.c0
  have d1 := HR.b.t1.c1
  have d2 := HR.b.t1.c2
  have HR := Lib.hid HR
  have oi : Old W (W.alloc (.cells #[.func (.func 51) #[] #[]] 52)).drew := ((Old.refl W).alloc _).drew
  have oj : Old W ((W.alloc (.cells #[.func (.func 51) #[] #[]] 52)).alloc (.cells #[.func (.func 52) #[] #[]] 52)).drew := (((Old.refl W).alloc _).alloc _).drew
  have R1 := Lib.hid (HR.out.old oi)
  have R2 := Lib.hid (HR.out.old oj)
  have F2 := Lib.hid ((Fc.new W 51).old (((Old.refl _).alloc (.cells #[.func (.func 52) #[] #[]] 52)).drew))
  have F3 := Fc.new (W.alloc (.cells #[.func (.func 51) #[] #[]] 52)) 52
  rw [sz_alloc] at F3
  have F3 := Lib.hid (F3.old (Old.refl _).drew)
  clear oi oj
  go_region_held3 (fun w' => w'.cell? ⟨w.heap.size, 0, none⟩ = some (.int .u8 k) ∧ w'.cell? ⟨w.heap.size, 1, none⟩ = some (.int .i64 n) ∧ w'.cell? ⟨w.heap.size, 2, none⟩ = some (.string s) ∧ w'.cell? ⟨w.heap.size + 1, 0, none⟩ = some (.int .u8 k') ∧ w'.cell? ⟨w.heap.size + 1, 1, none⟩ = some (.int .i64 n') ∧ w'.cell? ⟨w.heap.size + 1, 2, none⟩ = some (.string s'))
    (first | exact ⟨c0, c1, c2, d0, d1, d2⟩ | exact ⟨R1.out.b.t0.c0, R1.out.b.t0.c1, R1.out.b.t0.c2, R1.out.b.t1.c0, R1.out.b.t1.c1, R1.out.b.t1.c2⟩ | exact ⟨R2.out.b.t0.c0, R2.out.b.t0.c1, R2.out.b.t0.c2, R2.out.b.t1.c0, R2.out.b.t1.c1, R2.out.b.t1.c2⟩ | exact ⟨R3.out.b.t0.c0, R3.out.b.t0.c1, R3.out.b.t0.c2, R3.out.b.t1.c0, R3.out.b.t1.c1, R3.out.b.t1.c2⟩ | exact ⟨far3 R3.out.b.t0.c0 (by omega) _ _ _, far3 R3.out.b.t0.c1 (by omega) _ _ _, far3 R3.out.b.t0.c2 (by omega) _ _ _, far3 R3.out.b.t1.c0 (by omega) _ _ _, far3 R3.out.b.t1.c1 (by omega) _ _ _, far3 R3.out.b.t1.c2 (by omega) _ _ _⟩ | go_keep)
    (first
      | (go_at_call 36; (with_reducible refine (ofi_any _ _).mono ?_); rintro e w1 ⟨rfl, rfl⟩)
      | (go_at_call 38; (with_reducible refine (ofd_any _ _).mono ?_); rintro e w2 ⟨rfl, rfl⟩)
      | (go_at_call 35; (with_reducible refine (hR _ _ _ F2.out F3.out).mono ?_); rintro e w3 ⟨rfl, ho3⟩; have R3 := Lib.hid (R2.out.old ho3); have e0 := R3.out.t2.c0; have e1 := R3.out.t2.c1; have e2 := R3.out.t2.c2; have f0 := R3.out.t2.f 0; have f1 := R3.out.t2.f 1; have f2 := R3.out.t2.f 2))
  all_goals go_wp2
  have R := R3.out.t2.set (.int .u8 A) (.int .i64 B) (.string ⟨#[]⟩)
  have O := old3 R3.out.b.o (b := w.heap.size + 1 + 1) (by omega) (.int .u8 A) (.int .i64 B) (.string ⟨#[]⟩)
  clear hR HR c0 c1 c2 d0 d1 d2 R1 R2 F2 F3 e0 e1 e2 f0 f1 f2 R3 ho3
  exact bodyPost_ret (v := .tuple #[vl A B ⟨#[]⟩, .int .i64 C]) (by simp [results, Try.results15, go_sem, R.c0, R.c1, R.c2]) rfl ⟨rfl, O⟩

end Go.Proofs.Ytmoomdikgfeifaa
