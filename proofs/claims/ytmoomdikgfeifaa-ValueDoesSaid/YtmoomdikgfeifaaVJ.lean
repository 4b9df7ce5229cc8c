/- Layer value: All, Any; the statements' own helper known. -/
import Derived.Test.YtmoomdikgfeifaaVH
import Derived.Test.YtmoomdikgfeifaaVI
namespace Go.Proofs.Ytmoomdikgfeifaa
open Go.ChangeShapes Go.WideShapes Go.ChangeAt Go.RowKit
set_option linter.unusedVariables false

theorem all_any (l : List Vl) (v : Value) (w : World) (hl : RV w v l) (hb : l.length ≤ 100000) : Calls Try.prog 20 #[v] w fun e w' => e = r1 (unT 0 l).1 (unT 0 l).2 ∧ Old w w' := by
  have HO := Lib.hid ((Old.refl w).alloc (.cells #[.int .u8 0, .int .i64 0, .string ⟨#[]⟩] 23))
  have HT := Lib.hid (Three.new w (.int .u8 0) (.int .i64 0) (.string ⟨#[]⟩))
  have k1 := un_any 0 l v _ (hl.old HO.out) hb
  generalize (unT 0 l).1 = A at *
  generalize (unT 0 l).2 = B at *
  go_enter Try.func20, Try.ntmps20
  go_wp2_with (first
    | (go_at_call 54; (with_reducible refine k1.mono ?_); rintro e w1 ⟨rfl, ho1⟩; have T := Lib.hid (HT.out.old ho1); have c0 := T.out.c0; have c1 := T.out.c1; have c2 := T.out.c2; have f0 := T.out.f 0; have f1 := T.out.f 1; have f2 := T.out.f 2))
  have R := T.out.set (.int .u8 A) (.int .i64 B) (.string ⟨#[]⟩)
  exact bodyPost_ret (v := vl A B ⟨#[]⟩) (by simp [results, Try.results20, go_sem, R.c0, R.c1, R.c2]) rfl ⟨rfl, old3 (HO.out.trans ho1) (Nat.le_refl _) _ _ _⟩
theorem any_any (l : List Vl) (v : Value) (w : World) (hl : RV w v l) (hb : l.length ≤ 100000) : Calls Try.prog 21 #[v] w fun e w' => e = r1 (unT 1 l).1 (unT 1 l).2 ∧ Old w w' := by
  have HO := Lib.hid ((Old.refl w).alloc (.cells #[.int .u8 0, .int .i64 0, .string ⟨#[]⟩] 23))
  have HT := Lib.hid (Three.new w (.int .u8 0) (.int .i64 0) (.string ⟨#[]⟩))
  have k1 := un_any 1 l v _ (hl.old HO.out) hb
  generalize (unT 1 l).1 = A at *
  generalize (unT 1 l).2 = B at *
  go_enter Try.func21, Try.ntmps21
  go_wp2_with (first
    | (go_at_call 54; (with_reducible refine k1.mono ?_); rintro e w1 ⟨rfl, ho1⟩; have T := Lib.hid (HT.out.old ho1); have c0 := T.out.c0; have c1 := T.out.c1; have c2 := T.out.c2; have f0 := T.out.f 0; have f1 := T.out.f 1; have f2 := T.out.f 2))
  have R := T.out.set (.int .u8 A) (.int .i64 B) (.string ⟨#[]⟩)
  exact bodyPost_ret (v := vl A B ⟨#[]⟩) (by simp [results, Try.results21, go_sem, R.c0, R.c1, R.c2]) rfl ⟨rfl, old3 (HO.out.trans ho1) (Nat.le_refl _) _ _ _⟩

/-- known: the two values that it looks at. -/
structure Kn (W : World) (p q : Nat) : Prop where
  a : Three W p (.int .u8 2) (.int .i64 15000) (.string ⟨#[]⟩)
  b : Three W q (.int .u8 0) (.int .i64 0) (.string ⟨#[]⟩)
theorem Kn.old {W W' : World} {p q : Nat} (h : Kn W p q) (ho : Old W W') : Kn W' p q := ⟨h.a.old ho, h.b.old ho⟩
theorem all_tn (W : World) : Calls Try.prog 20 #[.slice (some ⟨W.heap.size, 0, none⟩) 2 2] (W.alloc (.cells #[.int .u8 4, .int .i64 1, .string ⟨#[]⟩, .int .u8 0, .int .i64 0, .string ⟨#[]⟩] 23)) fun e w' => e = r1 0 0 ∧ Old (W.alloc (.cells #[.int .u8 4, .int .i64 1, .string ⟨#[]⟩, .int .u8 0, .int .i64 0, .string ⟨#[]⟩] 23)) w' :=
  all_any _ _ _ (RV.new2 W 4 1 ⟨#[]⟩ 0 0 ⟨#[]⟩) (Nat.le_of_ble_eq_true rfl)
theorem all_fn (W : World) : Calls Try.prog 20 #[.slice (some ⟨W.heap.size, 0, none⟩) 2 2] (W.alloc (.cells #[.int .u8 4, .int .i64 0, .string ⟨#[]⟩, .int .u8 0, .int .i64 0, .string ⟨#[]⟩] 23)) fun e w' => e = r1 4 0 ∧ Old (W.alloc (.cells #[.int .u8 4, .int .i64 0, .string ⟨#[]⟩, .int .u8 0, .int .i64 0, .string ⟨#[]⟩] 23)) w' :=
  all_any _ _ _ (RV.new2 W 4 0 ⟨#[]⟩ 0 0 ⟨#[]⟩) (Nat.le_of_ble_eq_true rfl)
theorem truth_t (W : World) : Calls Try.prog 53 #[.bool true] W fun e w' => e = r1 4 1 ∧ Old W w' := truth_any true W
theorem truth_f (W : World) : Calls Try.prog 53 #[.bool false] W fun e w' => e = r1 4 0 ∧ Old W w' := truth_any false W

set_option maxHeartbeats 3200000 in
theorem known_any (w : World) : Calls Try.prog 18 #[] w fun e w' => e = .returned (.bool true) ∧ Old w w' := by
  have k1 : ∀ W, Calls Try.prog 11 #[vl 1 1 ⟨#[]⟩, vl 2 5000 ⟨#[]⟩] W fun e w' => e = rv 2 15000 0 ∧ Old W w' := fun W => vadd_any 1 1 ⟨#[]⟩ 2 5000 ⟨#[]⟩ W (by decide) (by decide)
  have k2 : ∀ W, Calls Try.prog 9 #[vl 1 2 ⟨#[]⟩, vl 2 20000 ⟨#[]⟩] W fun e w' => e = pb 0 true ∧ Old W w' := fun W => compare_any 1 2 ⟨#[]⟩ 2 20000 ⟨#[]⟩ W (by decide) (by decide)
  have k3 : ∀ W, Calls Try.prog 11 #[vl 0 0 ⟨#[]⟩, vl 3 0 ⟨#[]⟩] W fun e w' => e = rv 0 0 8 ∧ Old W w' := fun W => vadd_any 0 0 ⟨#[]⟩ 3 0 ⟨#[]⟩ W (by decide) (by decide)
  go_enter Try.func18, Try.ntmps18
  go_wp2_with (first
    | (go_at_call 11; first | ((with_reducible refine (k1 _).mono ?_); rintro e w1 ⟨rfl, ho1⟩) | ((with_reducible refine (k3 _).mono ?_); rintro e w3 ⟨rfl, ho3⟩))
    | (go_at_call 9; ((with_reducible refine (k2 _).mono ?_); rintro e w2 ⟨rfl, ho2⟩)))
  clear k1 k2 k3
  have o1 : Old (w1.alloc (.cells #[.int .u8 2, .int .i64 15000, .string ⟨#[]⟩] 23)) ((w3.alloc (.cells #[.int .u8 0, .int .i64 0, .string ⟨#[]⟩] 23)).alloc (.cells #[.int .u8 0, .int .i64 0, .string ⟨#[]⟩] 23)) := ((ho2.trans ho3).alloc _).alloc _
  have HO := Lib.hid ((ho1.alloc (.cells #[.int .u8 2, .int .i64 15000, .string ⟨#[]⟩] 23)).trans o1)
  have t1 := (Three.new w1 (.int .u8 2) (.int .i64 15000) (.string ⟨#[]⟩)).old o1
  have t2 := Three.new (w3.alloc (.cells #[.int .u8 0, .int .i64 0, .string ⟨#[]⟩] 23)) (.int .u8 0) (.int .i64 0) (.string ⟨#[]⟩)
  rw [sz_alloc] at t2
  have K0 := Kn.mk t1 t2
  clear o1 ho1 ho2 ho3
  generalize hW : (w3.alloc (.cells #[.int .u8 0, .int .i64 0, .string ⟨#[]⟩] 23)).alloc (.cells #[.int .u8 0, .int .i64 0, .string ⟨#[]⟩] 23) = W at *
  generalize w1.heap.size = p at *
  generalize w3.heap.size + 1 = q at *
  clear hW t1 t2
  have c0 := K0.a.c0
  have c1 := K0.a.c1
  have c2 := K0.a.c2
  have d0 := K0.b.c0
  have d1 := K0.b.c1
  have d2 := K0.b.c2
  have K0 := Lib.hid K0
  go_region_held3 (fun w' => w'.cell? ⟨p, 0, none⟩ = some (.int .u8 2) ∧ w'.cell? ⟨p, 1, none⟩ = some (.int .i64 15000) ∧ w'.cell? ⟨p, 2, none⟩ = some (.string ⟨#[]⟩) ∧ w'.cell? ⟨q, 0, none⟩ = some (.int .u8 0) ∧ w'.cell? ⟨q, 1, none⟩ = some (.int .i64 0) ∧ w'.cell? ⟨q, 2, none⟩ = some (.string ⟨#[]⟩))
    (first | exact ⟨c0, c1, c2, d0, d1, d2⟩ | exact ⟨K1.out.a.c0, K1.out.a.c1, K1.out.a.c2, K1.out.b.c0, K1.out.b.c1, K1.out.b.c2⟩ | exact ⟨K2.out.a.c0, K2.out.a.c1, K2.out.a.c2, K2.out.b.c0, K2.out.b.c1, K2.out.b.c2⟩ | exact ⟨K3.out.a.c0, K3.out.a.c1, K3.out.a.c2, K3.out.b.c0, K3.out.b.c1, K3.out.b.c2⟩ | exact ⟨K4.out.a.c0, K4.out.a.c1, K4.out.a.c2, K4.out.b.c0, K4.out.b.c1, K4.out.b.c2⟩ | exact ⟨K5.out.a.c0, K5.out.a.c1, K5.out.a.c2, K5.out.b.c0, K5.out.b.c1, K5.out.b.c2⟩ | exact ⟨K6.out.a.c0, K6.out.a.c1, K6.out.a.c2, K6.out.b.c0, K6.out.b.c1, K6.out.b.c2⟩ | go_keep)
    (first
      | (go_at_call 53; first
          | ((with_reducible refine (truth_t _).mono ?_); rintro e w1 ⟨rfl, o1⟩; have K1 := Lib.hid (K0.out.old ((Old.refl _).drew.trans o1)))
          | (have K2 := K2; (with_reducible refine (truth_f _).mono ?_); first | (have K4 := K4; rintro e w5 ⟨rfl, o5⟩; have K5 := Lib.hid (K4.out.old o5)) | (rintro e w3 ⟨rfl, o3⟩; have K3 := Lib.hid (K2.out.old o3))))
      | (go_at_call 20; first
          | ((with_reducible refine (all_tn _).mono ?_); rintro e w2 ⟨rfl, o2⟩; have K2 := Lib.hid (K1.out.old (((Old.refl _).alloc _).trans o2)))
          | ((with_reducible refine (all_fn _).mono ?_); rintro e w4 ⟨rfl, o4⟩; have K4 := Lib.hid (K3.out.old (((Old.refl _).alloc _).trans o4)))))
  all_goals go_wp2
  go_ret
  exact ⟨rfl, HO.out.trans ((Old.refl W).drew.trans (o1.trans (((Old.refl _).alloc _).trans (o2.trans (o3.trans (((Old.refl _).alloc _).trans (o4.trans o5)))))))⟩

end Go.Proofs.Ytmoomdikgfeifaa
