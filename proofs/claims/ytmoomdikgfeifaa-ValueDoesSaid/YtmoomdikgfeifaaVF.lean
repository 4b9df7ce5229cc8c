/- Layer value: reckon. -/
import Derived.Test.YtmoomdikgfeifaaVE
namespace Go.Proofs.Ytmoomdikgfeifaa
open Go.ChangeShapes Go.WideShapes Go.ChangeAt Go.RowKit
set_option linter.unusedVariables false

theorem RV.new2 (w : World) (k n : Int) (s : ByteArray) (k' n' : Int) (s' : ByteArray) : RV (w.alloc (.cells #[.int .u8 k, .int .i64 n, .string s, .int .u8 k', .int .i64 n', .string s'] 23)) (.slice (some ⟨w.heap.size, 0, none⟩) 2 2) [⟨k, n, s⟩, ⟨k', n', s'⟩] := by
  refine ⟨_, 2, rfl, Nat.le_refl _, by decide, fun j x hj => ?_⟩
  have h := (MapKept.heap_alloc w (.cells #[.int .u8 k, .int .i64 n, .string s, .int .u8 k', .int .i64 n', .string s'] 23)).1
  refine ⟨_, rfl, blk_lt h, ?_⟩
  have hj' : j = 0 ∨ j = 1 := by
    have := (List.getElem?_eq_some_iff.1 hj).1
    simp at this; omega
  simp only [World.cell?, h]
  rcases hj' with rfl | rfl <;> (simp at hj; subst hj; exact ⟨rfl, rfl, rfl⟩)

/-- What reckon lays: the two values, boxed, and the result's cells. -/
structure Rk3 (w W : World) (k n : Int) (s : ByteArray) (k' n' : Int) (s' : ByteArray) : Prop where
  b : Bx2 w W k n s k' n' s'
  t2 : Three W (w.heap.size + 1 + 1) (.int .u8 0) (.int .i64 0) (.string ⟨#[]⟩)
theorem Rk3.old {w W W' : World} {k n : Int} {s : ByteArray} {k' n' : Int} {s' : ByteArray} (h : Rk3 w W k n s k' n' s') (ho : Old W W') : Rk3 w W' k n s k' n' s' := ⟨h.b.old ho, h.t2.old ho⟩
theorem Rk3.new (w : World) (k n : Int) (s : ByteArray) (k' n' : Int) (s' : ByteArray) : Rk3 w (((w.alloc (.cells #[.int .u8 k, .int .i64 n, .string s] 23)).alloc (.cells #[.int .u8 k', .int .i64 n', .string s'] 23)).alloc (.cells #[.int .u8 0, .int .i64 0, .string ⟨#[]⟩] 23)) k n s k' n' s' := by
  refine ⟨(Bx2.new w k n s k' n' s').old ((Old.refl _).alloc _), ?_⟩
  have := Three.new ((w.alloc (.cells #[.int .u8 k, .int .i64 n, .string s] 23)).alloc (.cells #[.int .u8 k', .int .i64 n', .string s'] 23)) (.int .u8 0) (.int .i64 0) (.string ⟨#[]⟩)
  rwa [sz_alloc, sz_alloc] at this
/-- The world in which reckon asks the kind of both. -/
abbrev rkW (w : World) (k n : Int) (s : ByteArray) (k' n' : Int) (s' : ByteArray) : World := (((w.alloc (.cells #[.int .u8 k, .int .i64 n, .string s] 23)).alloc (.cells #[.int .u8 k', .int .i64 n', .string s'] 23)).alloc (.cells #[.int .u8 0, .int .i64 0, .string ⟨#[]⟩] 23)).alloc (.cells #[.int .u8 k, .int .i64 n, .string s, .int .u8 k', .int .i64 n', .string s'] 23)
theorem rk_kind (w : World) (k n : Int) (s : ByteArray) (k' n' : Int) (s' : ByteArray) :
    Calls Try.prog 61 #[.slice (some ⟨w.heap.size + 1 + 1 + 1, 0, none⟩) 2 2] (rkW w k n s k' n' s') fun e w' => e = kp (kdV [⟨k, n, s⟩, ⟨k', n', s'⟩]) (kdE [⟨k, n, s⟩, ⟨k', n', s'⟩]) ∧ Old (rkW w k n s k' n' s') w' := by
  have h := RV.new2 (((w.alloc (.cells #[.int .u8 k, .int .i64 n, .string s] 23)).alloc (.cells #[.int .u8 k', .int .i64 n', .string s'] 23)).alloc (.cells #[.int .u8 0, .int .i64 0, .string ⟨#[]⟩] 23)) k n s k' n' s'
  rw [sz_alloc, sz_alloc, sz_alloc] at h
  exact kind_any _ _ _ h (Nat.le_of_ble_eq_true rfl)

theorem reck_end (fw fd : Value) (k n : Int) (s : ByteArray) (k' n' : Int) (s' : ByteArray) (w : World) (er : Int) (hV : kdV [⟨k, n, s⟩, ⟨k', n', s'⟩] = 0) (hE : kdE [⟨k, n, s⟩, ⟨k', n', s'⟩] = er) :
    Calls Try.prog 35 #[vl k n s, vl k' n' s', fw, fd] w fun e w' => e = rv 0 0 er ∧ Old w w' := by
  have HR := Lib.hid ((Rk3.new w k n s k' n' s').old ((Old.refl _).alloc (.cells #[.int .u8 k, .int .i64 n, .string s, .int .u8 k', .int .i64 n', .string s'] 23)))
  have k1 := rk_kind w k n s k' n' s'
  rw [hV, hE] at k1
  clear hV hE
  by_cases he : er = 0
  · subst he
    go_enter Try.func35, Try.ntmps35
    go_wp2_with (first | (go_at_call 61; refine k1.mono ?_; rintro e w1 ⟨rfl, ho1⟩; have R1 := Lib.hid (HR.out.old ho1); have c0 := R1.out.t2.c0; have c1 := R1.out.t2.c1; have c2 := R1.out.t2.c2; have f0 := R1.out.t2.f 0; have f1 := R1.out.t2.f 1; have f2 := R1.out.t2.f 2))
    have R := R1.out.t2.set (.int .u8 0) (.int .i64 0) (.string ⟨#[]⟩)
    exact bodyPost_ret (v := .tuple #[vl 0 0 ⟨#[]⟩, .int .i64 0]) (by simp [results, Try.results35, go_sem, R.c0, R.c1, R.c2]) rfl ⟨rfl, old3 R1.out.b.o (by omega) _ _ _⟩
  · go_enter Try.func35, Try.ntmps35
    go_wp2_with (first | (go_at_call 61; refine k1.mono ?_; rintro e w1 ⟨rfl, ho1⟩; have R1 := Lib.hid (HR.out.old ho1); have c0 := R1.out.t2.c0; have c1 := R1.out.t2.c1; have c2 := R1.out.t2.c2; have f0 := R1.out.t2.f 0; have f1 := R1.out.t2.f 1; have f2 := R1.out.t2.f 2))
    have R := R1.out.t2.set (.int .u8 0) (.int .i64 0) (.string ⟨#[]⟩)
    exact bodyPost_ret (v := .tuple #[vl 0 0 ⟨#[]⟩, .int .i64 er]) (by simp [results, Try.results35, go_sem, R.c0, R.c1, R.c2]) rfl ⟨rfl, old3 R1.out.b.o (by omega) _ _ _⟩

theorem reck_int (p fd : Value) (k n : Int) (s : ByteArray) (k' n' : Int) (s' : ByteArray) (w : World) (A B C : Int) (hV : kdV [⟨k, n, s⟩, ⟨k', n', s'⟩] = 1) (hE : kdE [⟨k, n, s⟩, ⟨k', n', s'⟩] = 0)
    (hc : ∀ W, Old w W → Calls Try.prog 62 #[vl k n s, vl k' n' s', p] W fun e w' => e = rv A B C ∧ Old W w') :
    Calls Try.prog 35 #[vl k n s, vl k' n' s', .func (.func 62) #[] #[p], fd] w fun e w' => e = rv A B C ∧ Old w w' := by
  have HR := Lib.hid ((Rk3.new w k n s k' n' s').old ((Old.refl _).alloc (.cells #[.int .u8 k, .int .i64 n, .string s, .int .u8 k', .int .i64 n', .string s'] 23)))
  have k1 := rk_kind w k n s k' n' s'
  rw [hV, hE] at k1
  clear hV hE
  go_enter Try.func35, Try.ntmps35
  go_wp2_with (first
    | (go_at_call 61; refine k1.mono ?_; rintro e w1 ⟨rfl, ho1⟩; have R1 := Lib.hid (HR.out.old ho1); have c0 := R1.out.b.t0.c0; have c1 := R1.out.b.t0.c1; have c2 := R1.out.b.t0.c2; have d0 := R1.out.b.t1.c0; have d1 := R1.out.b.t1.c1; have d2 := R1.out.b.t1.c2)
    | (go_at_call 62; (with_reducible refine (hc _ R1.out.b.o).mono ?_); clear c0 c1 c2 d0 d1 d2; rintro e w2 ⟨rfl, ho2⟩; have R2 := Lib.hid (R1.out.old ho2); have c0 := R2.out.t2.c0; have c1 := R2.out.t2.c1; have c2 := R2.out.t2.c2; have f0 := R2.out.t2.f 0; have f1 := R2.out.t2.f 1; have f2 := R2.out.t2.f 2))
  have R := R2.out.t2.set (.int .u8 A) (.int .i64 B) (.string ⟨#[]⟩)
  exact bodyPost_ret (v := .tuple #[vl A B ⟨#[]⟩, .int .i64 C]) (by simp [results, Try.results35, go_sem, R.c0, R.c1, R.c2]) rfl ⟨rfl, old3 R2.out.b.o (by omega) _ _ _⟩

theorem reck_dec (p fw : Value) (k n : Int) (s : ByteArray) (k' n' : Int) (s' : ByteArray) (w : World) (A B C : Int) (hV : kdV [⟨k, n, s⟩, ⟨k', n', s'⟩] = 2) (hE : kdE [⟨k, n, s⟩, ⟨k', n', s'⟩] = 0)
    (hc : ∀ W, Old w W → Calls Try.prog 64 #[vl k n s, vl k' n' s', p] W fun e w' => e = rv A B C ∧ Old W w') :
    Calls Try.prog 35 #[vl k n s, vl k' n' s', fw, .func (.func 64) #[] #[p]] w fun e w' => e = rv A B C ∧ Old w w' := by
  have HR := Lib.hid ((Rk3.new w k n s k' n' s').old ((Old.refl _).alloc (.cells #[.int .u8 k, .int .i64 n, .string s, .int .u8 k', .int .i64 n', .string s'] 23)))
  have k1 := rk_kind w k n s k' n' s'
  rw [hV, hE] at k1
  clear hV hE
  go_enter Try.func35, Try.ntmps35
  go_wp2_with (first
    | (go_at_call 61; refine k1.mono ?_; rintro e w1 ⟨rfl, ho1⟩; have R1 := Lib.hid (HR.out.old ho1); have c0 := R1.out.b.t0.c0; have c1 := R1.out.b.t0.c1; have c2 := R1.out.b.t0.c2; have d0 := R1.out.b.t1.c0; have d1 := R1.out.b.t1.c1; have d2 := R1.out.b.t1.c2)
    | (go_at_call 64; (with_reducible refine (hc _ R1.out.b.o).mono ?_); clear c0 c1 c2 d0 d1 d2; rintro e w2 ⟨rfl, ho2⟩; have R2 := Lib.hid (R1.out.old ho2); have c0 := R2.out.t2.c0; have c1 := R2.out.t2.c1; have c2 := R2.out.t2.c2; have f0 := R2.out.t2.f 0; have f1 := R2.out.t2.f 1; have f2 := R2.out.t2.f 2))
  have R := R2.out.t2.set (.int .u8 A) (.int .i64 B) (.string ⟨#[]⟩)
  exact bodyPost_ret (v := .tuple #[vl A B ⟨#[]⟩, .int .i64 C]) (by simp [results, Try.results35, go_sem, R.c0, R.c1, R.c2]) rfl ⟨rfl, old3 R2.out.b.o (by omega) _ _ _⟩

end Go.Proofs.Ytmoomdikgfeifaa
