/- Layer eval: ops that ask all their expressions. -/
import Derived.Test.YtmkmafkkpigfpaaGreatDoorWN
set_option maxHeartbeats 1600000
namespace Go.Proofs.YtmkmafkkpigfpaaGreatDoor.V
open Go.ChangeShapes Go.WideShapes Go.ChangeAt Go.RowKit Go.Lib
set_option linter.unusedVariables false
set_option linter.unusedSimpArgs false
set_option maxRecDepth 100000
theorem far4 {w : World} {B b o : Nat} {x : Value} (h : w.cell? ⟨b, o, none⟩ = some x) (hne : ¬ b = B) (u0 u1 u2 u3 : Value) : ((((w.setCell ⟨B, 0, none⟩ u0).setCell ⟨B, 1, none⟩ u1).setCell ⟨B, 2, none⟩ u2).setCell ⟨B, 3, none⟩ u3).cell? ⟨b, o, none⟩ = some x := by
  rw [World.cell?_setCell_other _ _ _ _ (by intro e; exact hne (congrArg Addr.block e).symm)]
  exact far3 h hne u0 u1 u2
theorem ofTwo_k (cf : Nat) (w : World) : Calls Tryz.prog 73 #[.func (.func cf) #[] #[]] w fun e w' => e = .returned (.func (.func 113) #[] #[.pointer (some ⟨w.heap.size, 0, none⟩)]) ∧ w'.cell? ⟨w.heap.size, 0, none⟩ = some (.func (.func cf) #[] #[]) ∧ w.heap.size < w'.heap.size ∧ Old w w' := by
  have HB := Bk.new w #[.func (.func cf) #[] #[]] 124
  have HO := hid ((Old.refl w).alloc (.cells #[.func (.func cf) #[] #[]] 124))
  have H := hid (And.intro (HB.c 0) HB.lt)
  clear HB
  go_enter Tryz.func73, Tryz.ntmps73
  go_wp2
  go_ret
  exact ⟨rfl, H.out.1, H.out.2, HO.out⟩
theorem ofOne_k (cf : Nat) (w : World) : Calls Tryz.prog 78 #[.func (.func cf) #[] #[]] w fun e w' => e = .returned (.func (.func 123) #[] #[.pointer (some ⟨w.heap.size, 0, none⟩)]) ∧ w'.cell? ⟨w.heap.size, 0, none⟩ = some (.func (.func cf) #[] #[]) ∧ w.heap.size < w'.heap.size ∧ Old w w' := by
  have HB := Bk.new w #[.func (.func cf) #[] #[]] 126
  have HO := hid ((Old.refl w).alloc (.cells #[.func (.func cf) #[] #[]] 126))
  have H := hid (And.intro (HB.c 0) HB.lt)
  clear HB
  go_enter Tryz.func78, Tryz.ntmps78
  go_wp2
  go_ret
  exact ⟨rfl, H.out.1, H.out.2, HO.out⟩
theorem ofText_k (cf : Nat) (w : World) : Calls Tryz.prog 88 #[.func (.func cf) #[] #[]] w fun e w' => e = .returned (.func (.func 133) #[] #[.pointer (some ⟨w.heap.size, 0, none⟩)]) ∧ w'.cell? ⟨w.heap.size, 0, none⟩ = some (.func (.func cf) #[] #[]) ∧ w.heap.size < w'.heap.size ∧ Old w w' := by
  have HB := Bk.new w #[.func (.func cf) #[] #[]] 129
  have HO := hid ((Old.refl w).alloc (.cells #[.func (.func cf) #[] #[]] 129))
  have H := hid (And.intro (HB.c 0) HB.lt)
  clear HB
  go_enter Tryz.func88, Tryz.ntmps88
  go_wp2
  go_ret
  exact ⟨rfl, H.out.1, H.out.2, HO.out⟩
theorem ord_k (cf : Nat) (w : World) : Calls Tryz.prog 68 #[.func (.func cf) #[] #[]] w fun e w' => e = .returned (.func (.func 111) #[] #[.pointer (some ⟨w.heap.size, 0, none⟩)]) ∧ w'.cell? ⟨w.heap.size, 0, none⟩ = some (.func (.func cf) #[] #[]) ∧ w.heap.size < w'.heap.size ∧ Old w w' := by
  have HB := Bk.new w #[.func (.func cf) #[] #[]] 122
  have HO := hid ((Old.refl w).alloc (.cells #[.func (.func cf) #[] #[]] 122))
  have H := hid (And.intro (HB.c 0) HB.lt)
  clear HB
  go_enter Tryz.func68, Tryz.ntmps68
  go_wp2
  go_ret
  exact ⟨rfl, H.out.1, H.out.2, HO.out⟩
theorem ofKind_k (kind : Int) (cf : Nat) (cb : Array Value) (w : World) : Calls Tryz.prog 84 #[.int .u8 kind, .func (.func cf) #[] cb] w fun e w' => e = .returned (.func (.func 127) #[] #[.pointer (some ⟨w.heap.size, 0, none⟩), .pointer (some ⟨w.heap.size + 1, 0, none⟩)]) ∧ w'.cell? ⟨w.heap.size, 0, none⟩ = some (.int .u8 kind) ∧ w'.cell? ⟨w.heap.size + 1, 0, none⟩ = some (.func (.func cf) #[] cb) ∧ Old w w' := by
  have HB := (Bk.new w #[.int .u8 kind] 5).alloc (.cells #[.func (.func cf) #[] cb] 119)
  have HC := Bk.new (w.alloc (.cells #[.int .u8 kind] 5)) #[.func (.func cf) #[] cb] 119
  rw [sz_alloc] at HC
  have HO := hid (((Old.refl w).alloc (.cells #[.int .u8 kind] 5)).alloc (.cells #[.func (.func cf) #[] cb] 119))
  have H := hid (And.intro (HB.c 0) (HC.c 0))
  clear HB HC
  go_enter Tryz.func84, Tryz.ntmps84
  go_wp2
  go_ret
  exact ⟨rfl, H.out.1, H.out.2, HO.out⟩
theorem equal_k (vt va : Value) (i : Nat) (wanted : Bool) (w : World) : Calls Tryz.prog 67 #[nv vt i va, .bool wanted] w fun e w' => e = .returned (.func (.func 107) #[] #[.pointer (some ⟨w.heap.size, 0, none⟩), .pointer (some ⟨w.heap.size + 1, 0, none⟩)]) ∧ (w'.cell? ⟨w.heap.size, 0, none⟩ = some vt ∧ w'.cell? ⟨w.heap.size, 1, none⟩ = some (.int .i64 (i : Int)) ∧ w'.cell? ⟨w.heap.size, 2, none⟩ = some va) ∧ w'.cell? ⟨w.heap.size + 1, 0, none⟩ = some (.bool wanted) ∧ Old w w' := by
  have HB := (Bk.new w #[vt, .int .i64 (i : Int), va] 77).alloc (.cells #[.bool wanted] 4)
  have HC := Bk.new (w.alloc (.cells #[vt, .int .i64 (i : Int), va] 77)) #[.bool wanted] 4
  rw [sz_alloc] at HC
  have HO := hid (((Old.refl w).alloc (.cells #[vt, .int .i64 (i : Int), va] 77)).alloc (.cells #[.bool wanted] 4))
  have H := hid (And.intro (And.intro (HB.c 0) (And.intro (HB.c 1) (HB.c 2))) (HC.c 0))
  clear HB HC
  go_enter Tryz.func67, Tryz.ntmps67
  go_wp2
  go_ret
  exact ⟨rfl, H.out.1, H.out.2, HO.out⟩
structure Nz (w : World) (vt va : Value) (T : List Na) (A : List An) (x : Na) : Prop where
  t : Tz w vt T
  a : AR w va A
  y : T[A.length]? = some x
  g : ∀ j, Gd (askA A x.ks j).v
  k : x.ks.length ≤ 100000
  e : En w
theorem Nz.old {w w' : World} {vt va : Value} {T : List Na} {A : List An} {x : Na} (h : Nz w vt va T A x) (ho : Old w w') : Nz w' vt va T A x := ⟨h.t.old ho, h.a.old ho, h.y, h.g, h.k, h.e.old ho⟩
theorem Nz.left {w : World} {vt va : Value} {T : List Na} {A : List An} {x : Na} (h : Nz w vt va T A x) (n : Nat) (hn : n ≤ 100000) (cf : Nat) (cb : Array Value) (R : List Vl → An) (hen : ∀ args W, (callFunc cf args).run Tryz.prog W = .ok (.enter cf args) W) (hR : Rk cf cb n R w) :
    Calls Tryz.prog 66 #[nv vt A.length va, .int .i64 (n : Int), .func (.func cf) #[] cb] w fun e w' => e = .returned (anv (leftA (askA A x.ks) n R)) ∧ Old w w' :=
  left_any w h.t h.a h.y n hn cf cb R hen hR h.g
structure Pz (w W : World) (vt va : Value) (N : Nat) : Prop where
  o : Old w W
  a : Bk W w.heap.size #[vt, .int .i64 (N : Int), va] 77
  b : Bk W (w.heap.size + 1) zA 73
theorem Pz.new (w : World) (vt va : Value) (N : Nat) : Pz w ((w.alloc (.cells #[vt, .int .i64 (N : Int), va] 77)).alloc (.cells zA 73)) vt va N := by
  refine ⟨((Old.refl w).alloc _).alloc _, (Bk.new w _ _).alloc _, ?_⟩
  have h := Bk.new (w.alloc (.cells #[vt, .int .i64 (N : Int), va] 77)) zA 73
  rw [sz_alloc] at h
  exact h
theorem Pz.keep {w W : World} {vt va : Value} {N : Nat} (h : Pz w W vt va N) : ∀ W', Old W W' → (W'.cell? ⟨w.heap.size, 0, none⟩ = some vt ∧ W'.cell? ⟨w.heap.size, 1, none⟩ = some (.int .i64 (N : Int)) ∧ W'.cell? ⟨w.heap.size, 2, none⟩ = some va) :=
  fun W' ho => ⟨(h.a.old ho).c 0, (h.a.old ho).c 1, (h.a.old ho).c 2⟩
theorem Pz.keep2 {w W : World} {vt va : Value} {N : Nat} (h : Pz w W vt va N) : ∀ W' u0 u1 u2 u3, Old W W' → (((((W'.setCell ⟨w.heap.size + 1, 0, none⟩ u0).setCell ⟨w.heap.size + 1, 1, none⟩ u1).setCell ⟨w.heap.size + 1, 2, none⟩ u2).setCell ⟨w.heap.size + 1, 3, none⟩ u3).cell? ⟨w.heap.size, 0, none⟩ = some (vt) ∧ ((((W'.setCell ⟨w.heap.size + 1, 0, none⟩ u0).setCell ⟨w.heap.size + 1, 1, none⟩ u1).setCell ⟨w.heap.size + 1, 2, none⟩ u2).setCell ⟨w.heap.size + 1, 3, none⟩ u3).cell? ⟨w.heap.size, 1, none⟩ = some (.int .i64 (N : Int)) ∧ ((((W'.setCell ⟨w.heap.size + 1, 0, none⟩ u0).setCell ⟨w.heap.size + 1, 1, none⟩ u1).setCell ⟨w.heap.size + 1, 2, none⟩ u2).setCell ⟨w.heap.size + 1, 3, none⟩ u3).cell? ⟨w.heap.size, 2, none⟩ = some (va)) :=
  fun W' u0 u1 u2 u3 ho => by
    obtain ⟨k0, k1, k2⟩ := h.keep W' ho
    exact ⟨far4 k0 (by omega) _ _ _ _, far4 k1 (by omega) _ _ _ _, far4 k2 (by omega) _ _ _ _⟩
theorem reck_two (w : World) {vt va : Value} {T : List Na} {A : List An} {x : Na} (h : Nz w vt va T A x) (op : Int) (cf : Nat) (hop : (op = 13 ∧ cf = 74) ∨ (op = 14 ∧ cf = 75) ∨ (op = 15 ∧ cf = 76) ∨ (op = 16 ∧ cf = 77)) {f : Vl → Vl → An} (hf : C2 cf f) :
    Calls Tryz.prog 39 #[nv vt A.length va, .int .u8 op] w fun e w' => e = .returned (anv (leftA (askA A x.ks) 2 (twoR f))) ∧ Old w w' := by
  have hen : ∀ args W, (callFunc cf args).run Tryz.prog W = .ok (.enter cf args) W := by rcases hop with ⟨rfl, rfl⟩ | ⟨rfl, rfl⟩ | ⟨rfl, rfl⟩ | ⟨rfl, rfl⟩ <;> exact fun _ _ => rfl
  have HF := hid (fun W (k : Old w W) g (k1 : W.cell? ⟨g, 0, none⟩ = some (.func (.func cf) #[] #[])) (k2 : g < W.heap.size) => show Calls Tryz.prog 66 #[nv vt A.length va, .int .i64 2, .func (.func 113) #[] #[.pointer (some ⟨g, 0, none⟩)]] W fun e W' => e = .returned (anv (leftA (askA A x.ks) 2 (twoR f))) ∧ Old W W' from
    (h.old k).left 2 (by omega) 113 _ _ (fun _ _ => rfl) (two_rk cf hen hf g W k1 k2))
  generalize leftA (askA A x.ks) 2 (twoR f) = Z at *
  have HP := hid (Pz.new w vt va A.length)
  obtain ⟨N, hN⟩ : ∃ N, N = A.length := ⟨_, rfl⟩
  rw [← hN] at HF HP ⊢
  clear hN h
  rcases hop with ⟨rfl, rfl⟩ | ⟨rfl, rfl⟩ | ⟨rfl, rfl⟩ | ⟨rfl, rfl⟩
  all_goals
      go_enter Tryz.func39, Tryz.ntmps39
      go_wp2
      generalize (w.alloc (.cells #[vt, .int .i64 (N : Int), va] 77)).alloc (.cells zA 73) = W0 at *
      have hO0 := (Old.refl W0).drew
      obtain ⟨n0, n1, n2⟩ := HP.out.keep _ (Old.refl W0)
      go_region_held3 (fun w' => w'.cell? ⟨w.heap.size, 0, none⟩ = some vt ∧ w'.cell? ⟨w.heap.size, 1, none⟩ = some (.int .i64 (N : Int)) ∧ w'.cell? ⟨w.heap.size, 2, none⟩ = some va)
        (first | exact HP.out.keep _ (by assumption) | exact HP.out.keep2 _ _ _ _ _ (by assumption) | exact HP.out.keep _ (Old.alloc (by assumption) _))
        (first
          | (go_at_call 73; (with_reducible refine (ofTwo_k _ _).mono ?_); rintro e w2 ⟨rfl, kc, kl, o2⟩; have hO2 := hO0.trans o2; replace kc : w2.cell? ⟨W0.heap.size, 0, none⟩ = _ := kc; replace kl : W0.heap.size < w2.heap.size := kl)
          | (go_at_call 66; (with_reducible refine (HF.out _ (HP.out.o.trans hO2) _ kc kl).mono ?_); rintro e w3 ⟨rfl, o3⟩; have hO3 := hO2.trans o3; have O5 := hid (HP.out.o.trans hO3); have T5 := hid (HP.out.b.old hO3); have f0 := T5.out.f 0; have f1 := T5.out.f 1; have f2 := T5.out.f 2; have f3 := T5.out.f 3; have c0 := T5.out.c 0; have c1 := T5.out.c 1; have c2 := T5.out.c 2; have c3 := T5.out.c 3))
      all_goals
        have c0 := T5.out.c 0; have c1 := T5.out.c 1; have c2 := T5.out.c 2; have c3 := T5.out.c 3
        go_wp2
        have Rr := T5.out.set4 rfl (.int .u8 Z.v.k) (.int .i64 Z.v.n) (.string Z.v.s) (.int .i64 Z.e)
        exact bodyPost_ret (v := anv Z) (by simp [results, Tryz.results39, go_sem, Rr.c 0, Rr.c 1, Rr.c 2, Rr.c 3]) rfl ⟨rfl, old4 O5.out (by omega) _ _ _ _⟩
theorem reck_one (w : World) {vt va : Value} {T : List Na} {A : List An} {x : Na} (h : Nz w vt va T A x) (op : Int) (cf : Nat) (hop : (op = 17 ∧ cf = 79) ∨ (op = 18 ∧ cf = 80)) {f : Vl → An} (hf : C1 cf f w) :
    Calls Tryz.prog 39 #[nv vt A.length va, .int .u8 op] w fun e w' => e = .returned (anv (leftA (askA A x.ks) 1 (oneR f))) ∧ Old w w' := by
  have hen : ∀ args W, (callFunc cf args).run Tryz.prog W = .ok (.enter cf args) W := by rcases hop with ⟨rfl, rfl⟩ | ⟨rfl, rfl⟩ <;> exact fun _ _ => rfl
  have HF := hid (fun W (k : Old w W) g (k1 : W.cell? ⟨g, 0, none⟩ = some (.func (.func cf) #[] #[])) (k2 : g < W.heap.size) => show Calls Tryz.prog 66 #[nv vt A.length va, .int .i64 1, .func (.func 123) #[] #[.pointer (some ⟨g, 0, none⟩)]] W fun e W' => e = .returned (anv (leftA (askA A x.ks) 1 (oneR f))) ∧ Old W W' from
    (h.old k).left 1 (by omega) 123 _ _ (fun _ _ => rfl) (one_rk cf hen g W (fun W2 k3 a ha => hf W2 (k.trans k3) a ha) k1 k2))
  generalize leftA (askA A x.ks) 1 (oneR f) = Z at *
  have HP := hid (Pz.new w vt va A.length)
  obtain ⟨N, hN⟩ : ∃ N, N = A.length := ⟨_, rfl⟩
  rw [← hN] at HF HP ⊢
  clear hN h
  rcases hop with ⟨rfl, rfl⟩ | ⟨rfl, rfl⟩
  all_goals
      go_enter Tryz.func39, Tryz.ntmps39
      go_wp2
      generalize (w.alloc (.cells #[vt, .int .i64 (N : Int), va] 77)).alloc (.cells zA 73) = W0 at *
      have hO0 := (Old.refl W0).drew
      obtain ⟨n0, n1, n2⟩ := HP.out.keep _ (Old.refl W0)
      go_region_held3 (fun w' => w'.cell? ⟨w.heap.size, 0, none⟩ = some vt ∧ w'.cell? ⟨w.heap.size, 1, none⟩ = some (.int .i64 (N : Int)) ∧ w'.cell? ⟨w.heap.size, 2, none⟩ = some va)
        (first | exact HP.out.keep _ (by assumption) | exact HP.out.keep2 _ _ _ _ _ (by assumption) | exact HP.out.keep _ (Old.alloc (by assumption) _))
        (first
          | (go_at_call 78; (with_reducible refine (ofOne_k _ _).mono ?_); rintro e w2 ⟨rfl, kc, kl, o2⟩; have hO2 := hO0.trans o2; replace kc : w2.cell? ⟨W0.heap.size, 0, none⟩ = _ := kc; replace kl : W0.heap.size < w2.heap.size := kl)
          | (go_at_call 66; (with_reducible refine (HF.out _ (HP.out.o.trans hO2) _ kc kl).mono ?_); rintro e w3 ⟨rfl, o3⟩; have hO3 := hO2.trans o3; have O5 := hid (HP.out.o.trans hO3); have T5 := hid (HP.out.b.old hO3); have f0 := T5.out.f 0; have f1 := T5.out.f 1; have f2 := T5.out.f 2; have f3 := T5.out.f 3; have c0 := T5.out.c 0; have c1 := T5.out.c 1; have c2 := T5.out.c 2; have c3 := T5.out.c 3))
      all_goals
        have c0 := T5.out.c 0; have c1 := T5.out.c 1; have c2 := T5.out.c 2; have c3 := T5.out.c 3
        go_wp2
        have Rr := T5.out.set4 rfl (.int .u8 Z.v.k) (.int .i64 Z.v.n) (.string Z.v.s) (.int .i64 Z.e)
        exact bodyPost_ret (v := anv Z) (by simp [results, Tryz.results39, go_sem, Rr.c 0, Rr.c 1, Rr.c 2, Rr.c 3]) rfl ⟨rfl, old4 O5.out (by omega) _ _ _ _⟩
theorem reck_ord (w : World) {vt va : Value} {T : List Na} {A : List An} {x : Na} (h : Nz w vt va T A x) (op : Int) (cf : Nat) (hop : (op = 9 ∧ cf = 69) ∨ (op = 10 ∧ cf = 70) ∨ (op = 11 ∧ cf = 71) ∨ (op = 12 ∧ cf = 72)) {p : Int → Bool} (hp : Pc cf #[] p w) :
    Calls Tryz.prog 39 #[nv vt A.length va, .int .u8 op] w fun e w' => e = .returned (anv (leftA (askA A x.ks) 2 (ordR p))) ∧ Old w w' := by
  have hen : ∀ args W, (callFunc cf args).run Tryz.prog W = .ok (.enter cf args) W := by rcases hop with ⟨rfl, rfl⟩ | ⟨rfl, rfl⟩ | ⟨rfl, rfl⟩ | ⟨rfl, rfl⟩ <;> exact fun _ _ => rfl
  have HF := hid (fun W (k : Old w W) g (k1 : W.cell? ⟨g, 0, none⟩ = some (.func (.func cf) #[] #[])) (k2 : g < W.heap.size) => show Calls Tryz.prog 66 #[nv vt A.length va, .int .i64 2, .func (.func 111) #[] #[.pointer (some ⟨g, 0, none⟩)]] W fun e W' => e = .returned (anv (leftA (askA A x.ks) 2 (ordR p))) ∧ Old W W' from
    (h.old k).left 2 (by omega) 111 _ _ (fun _ _ => rfl) (ord_rk cf hen p g W (hp.old k) k1))
  generalize leftA (askA A x.ks) 2 (ordR p) = Z at *
  have HP := hid (Pz.new w vt va A.length)
  obtain ⟨N, hN⟩ : ∃ N, N = A.length := ⟨_, rfl⟩
  rw [← hN] at HF HP ⊢
  clear hN h
  rcases hop with ⟨rfl, rfl⟩ | ⟨rfl, rfl⟩ | ⟨rfl, rfl⟩ | ⟨rfl, rfl⟩
  all_goals
      go_enter Tryz.func39, Tryz.ntmps39
      go_wp2
      generalize (w.alloc (.cells #[vt, .int .i64 (N : Int), va] 77)).alloc (.cells zA 73) = W0 at *
      have hO0 := (Old.refl W0).drew
      obtain ⟨n0, n1, n2⟩ := HP.out.keep _ (Old.refl W0)
      go_region_held3 (fun w' => w'.cell? ⟨w.heap.size, 0, none⟩ = some vt ∧ w'.cell? ⟨w.heap.size, 1, none⟩ = some (.int .i64 (N : Int)) ∧ w'.cell? ⟨w.heap.size, 2, none⟩ = some va)
        (first | exact HP.out.keep _ (by assumption) | exact HP.out.keep2 _ _ _ _ _ (by assumption) | exact HP.out.keep _ (Old.alloc (by assumption) _))
        (first
          | (go_at_call 68; (with_reducible refine (ord_k _ _).mono ?_); rintro e w2 ⟨rfl, kc, kl, o2⟩; have hO2 := hO0.trans o2; replace kc : w2.cell? ⟨W0.heap.size, 0, none⟩ = _ := kc; replace kl : W0.heap.size < w2.heap.size := kl)
          | (go_at_call 66; (with_reducible refine (HF.out _ (HP.out.o.trans hO2) _ kc kl).mono ?_); rintro e w3 ⟨rfl, o3⟩; have hO3 := hO2.trans o3; have O5 := hid (HP.out.o.trans hO3); have T5 := hid (HP.out.b.old hO3); have f0 := T5.out.f 0; have f1 := T5.out.f 1; have f2 := T5.out.f 2; have f3 := T5.out.f 3; have c0 := T5.out.c 0; have c1 := T5.out.c 1; have c2 := T5.out.c 2; have c3 := T5.out.c 3))
      all_goals
        have c0 := T5.out.c 0; have c1 := T5.out.c 1; have c2 := T5.out.c 2; have c3 := T5.out.c 3
        go_wp2
        have Rr := T5.out.set4 rfl (.int .u8 Z.v.k) (.int .i64 Z.v.n) (.string Z.v.s) (.int .i64 Z.e)
        exact bodyPost_ret (v := anv Z) (by simp [results, Tryz.results39, go_sem, Rr.c 0, Rr.c 1, Rr.c 2, Rr.c 3]) rfl ⟨rfl, old4 O5.out (by omega) _ _ _ _⟩
theorem reck_eq (w : World) {vt va : Value} {T : List Na} {A : List An} {x : Na} (h : Nz w vt va T A x) (op : Int) (wanted : Bool) (hop : (op = 7 ∧ wanted = true) ∨ (op = 8 ∧ wanted = false)) :
    Calls Tryz.prog 39 #[nv vt A.length va, .int .u8 op] w fun e w' => e = .returned (anv (leftA (askA A x.ks) 2 (eqR (nullA T A.length x.ks 0 || nullA T A.length x.ks 1) wanted))) ∧ Old w w' := by
  have HF := hid (fun W (k : Old w W) g g' (k1 : W.cell? ⟨g, 0, none⟩ = some vt ∧ W.cell? ⟨g, 1, none⟩ = some (.int .i64 (A.length : Int)) ∧ W.cell? ⟨g, 2, none⟩ = some va) (k2 : W.cell? ⟨g', 0, none⟩ = some (.bool wanted)) => show Calls Tryz.prog 66 #[nv vt A.length va, .int .i64 2, .func (.func 107) #[] #[.pointer (some ⟨g, 0, none⟩), .pointer (some ⟨g', 0, none⟩)]] W fun e W' => e = .returned (anv (leftA (askA A x.ks) 2 (eqR (nullA T A.length x.ks 0 || nullA T A.length x.ks 1) wanted))) ∧ Old W W' from
    (h.old k).left 2 (by omega) 107 _ _ (fun _ _ => rfl) (eq_rk g g' wanted W (h.t.old k) h.y k1 k2))
  generalize leftA (askA A x.ks) 2 (eqR (nullA T A.length x.ks 0 || nullA T A.length x.ks 1) wanted) = Z at *
  have HP := hid (Pz.new w vt va A.length)
  obtain ⟨N, hN⟩ : ∃ N, N = A.length := ⟨_, rfl⟩
  rw [← hN] at HF HP ⊢
  clear hN h
  rcases hop with ⟨rfl, rfl⟩ | ⟨rfl, rfl⟩
  all_goals
      go_enter Tryz.func39, Tryz.ntmps39
      go_wp2
      generalize (w.alloc (.cells #[vt, .int .i64 (N : Int), va] 77)).alloc (.cells zA 73) = W0 at *
      have hO0 := (Old.refl W0).drew
      obtain ⟨n0, n1, n2⟩ := HP.out.keep _ (Old.refl W0)
      go_region_held3 (fun w' => w'.cell? ⟨w.heap.size, 0, none⟩ = some vt ∧ w'.cell? ⟨w.heap.size, 1, none⟩ = some (.int .i64 (N : Int)) ∧ w'.cell? ⟨w.heap.size, 2, none⟩ = some va)
        (first | exact HP.out.keep _ (by assumption) | exact HP.out.keep2 _ _ _ _ _ (by assumption) | exact HP.out.keep _ (Old.alloc (by assumption) _))
        (first
          | (go_at_call 67; (with_reducible refine (equal_k _ _ _ _ _).mono ?_); rintro e w2 ⟨rfl, kc, kd, o2⟩; have hO2 := hO0.trans o2; replace kc : w2.cell? ⟨W0.heap.size, 0, none⟩ = some vt ∧ w2.cell? ⟨W0.heap.size, 1, none⟩ = some (.int .i64 (N : Int)) ∧ w2.cell? ⟨W0.heap.size, 2, none⟩ = some va := kc; replace kd : w2.cell? ⟨W0.heap.size + 1, 0, none⟩ = _ := kd)
          | (go_at_call 66; (with_reducible refine (HF.out _ (HP.out.o.trans hO2) W0.heap.size (W0.heap.size + 1) kc kd).mono ?_); rintro e w3 ⟨rfl, o3⟩; have hO3 := hO2.trans o3; have O5 := hid (HP.out.o.trans hO3); have T5 := hid (HP.out.b.old hO3); have f0 := T5.out.f 0; have f1 := T5.out.f 1; have f2 := T5.out.f 2; have f3 := T5.out.f 3; have c0 := T5.out.c 0; have c1 := T5.out.c 1; have c2 := T5.out.c 2; have c3 := T5.out.c 3))
      all_goals
        have c0 := T5.out.c 0; have c1 := T5.out.c 1; have c2 := T5.out.c 2; have c3 := T5.out.c 3
        go_wp2
        have Rr := T5.out.set4 rfl (.int .u8 Z.v.k) (.int .i64 Z.v.n) (.string Z.v.s) (.int .i64 Z.e)
        exact bodyPost_ret (v := anv Z) (by simp [results, Tryz.results39, go_sem, Rr.c 0, Rr.c 1, Rr.c 2, Rr.c 3]) rfl ⟨rfl, old4 O5.out (by omega) _ _ _ _⟩
theorem reck_ends (w : World) {vt va : Value} {T : List Na} {A : List An} {x : Na} (h : Nz w vt va T A x) (op : Int) (cf : Nat) (hop : (op = 19 ∧ cf = 82) ∨ (op = 20 ∧ cf = 83)) {R : List Vl → An} (hR : Rk cf #[] x.ks.length R w) :
    Calls Tryz.prog 39 #[nv vt A.length va, .int .u8 op] w fun e w' => e = .returned (anv (leftA (askA A x.ks) x.ks.length R)) ∧ Old w w' := by
  have hen : ∀ args W, (callFunc cf args).run Tryz.prog W = .ok (.enter cf args) W := by rcases hop with ⟨rfl, rfl⟩ | ⟨rfl, rfl⟩ <;> exact fun _ _ => rfl
  have HF := hid (fun W (k : Old w W) => show Calls Tryz.prog 66 #[nv vt A.length va, .int .i64 (x.ks.length : Int), .func (.func cf) #[] #[]] W fun e W' => e = .returned (anv (leftA (askA A x.ks) x.ks.length R)) ∧ Old W W' from
    (h.old k).left _ h.k cf _ _ hen (hR.old k))
  have HCT := hid (fun W (k : Old w W) => count_any W (va := va) (h.t.old k) h.y)
  generalize leftA (askA A x.ks) x.ks.length R = Z at *
  obtain ⟨K, hK⟩ : ∃ K, K = x.ks.length := ⟨_, rfl⟩
  rw [← hK] at HF HCT
  have HP := hid (Pz.new w vt va A.length)
  obtain ⟨N, hN⟩ : ∃ N, N = A.length := ⟨_, rfl⟩
  rw [← hN] at HF HP HCT ⊢
  clear hN h hK hR
  rcases hop with ⟨rfl, rfl⟩ | ⟨rfl, rfl⟩
  all_goals
      go_enter Tryz.func39, Tryz.ntmps39
      go_wp2
      generalize (w.alloc (.cells #[vt, .int .i64 (N : Int), va] 77)).alloc (.cells zA 73) = W0 at *
      have hO0 := (Old.refl W0).drew
      obtain ⟨n0, n1, n2⟩ := HP.out.keep _ (Old.refl W0)
      go_region_held3 (fun w' => w'.cell? ⟨w.heap.size, 0, none⟩ = some vt ∧ w'.cell? ⟨w.heap.size, 1, none⟩ = some (.int .i64 (N : Int)) ∧ w'.cell? ⟨w.heap.size, 2, none⟩ = some va)
        (first | exact HP.out.keep _ (by assumption) | exact HP.out.keep2 _ _ _ _ _ (by assumption) | exact HP.out.keep _ (Old.alloc (by assumption) _))
        (first
          | (go_at_call 81; (with_reducible refine (HCT.out _ (HP.out.o.trans hO0)).mono ?_); rintro e w2 ⟨rfl, o2⟩; have hO2 := hO0.trans o2)
          | (go_at_call 66; (with_reducible refine (HF.out _ (HP.out.o.trans hO2)).mono ?_); rintro e w3 ⟨rfl, o3⟩; have hO3 := hO2.trans o3; have O5 := hid (HP.out.o.trans hO3); have T5 := hid (HP.out.b.old hO3); have f0 := T5.out.f 0; have f1 := T5.out.f 1; have f2 := T5.out.f 2; have f3 := T5.out.f 3; have c0 := T5.out.c 0; have c1 := T5.out.c 1; have c2 := T5.out.c 2; have c3 := T5.out.c 3))
      all_goals
        have c0 := T5.out.c 0; have c1 := T5.out.c 1; have c2 := T5.out.c 2; have c3 := T5.out.c 3
        go_wp2
        have Rr := T5.out.set4 rfl (.int .u8 Z.v.k) (.int .i64 Z.v.n) (.string Z.v.s) (.int .i64 Z.e)
        exact bodyPost_ret (v := anv Z) (by simp [results, Tryz.results39, go_sem, Rr.c 0, Rr.c 1, Rr.c 2, Rr.c 3]) rfl ⟨rfl, old4 O5.out (by omega) _ _ _ _⟩
theorem reck_mod (w : World) {vt va : Value} {T : List Na} {A : List An} {x : Na} (h : Nz w vt va T A x) (op : Int) (cf : Nat) (hop : (op = 21 ∧ cf = 85)) {f : Vl → Vl → An} (hf : C2 cf f) :
    Calls Tryz.prog 39 #[nv vt A.length va, .int .u8 op] w fun e w' => e = .returned (anv (leftA (askA A x.ks) 2 (kindR 1 (twoR f)))) ∧ Old w w' := by
  have hen : ∀ args W, (callFunc cf args).run Tryz.prog W = .ok (.enter cf args) W := by rcases hop with ⟨rfl, rfl⟩ <;> exact fun _ _ => rfl
  have HF := hid (fun W (k : Old w W) g kg fg (k1 : W.cell? ⟨g, 0, none⟩ = some (.func (.func cf) #[] #[])) (k2 : g < W.heap.size) (k3 : W.cell? ⟨kg, 0, none⟩ = some (.int .u8 1)) (k4 : W.cell? ⟨fg, 0, none⟩ = some (.func (.func 113) #[] #[.pointer (some ⟨g, 0, none⟩)])) => show Calls Tryz.prog 66 #[nv vt A.length va, .int .i64 2, .func (.func 127) #[] #[.pointer (some ⟨kg, 0, none⟩), .pointer (some ⟨fg, 0, none⟩)]] W fun e W' => e = .returned (anv (leftA (askA A x.ks) 2 (kindR 1 (twoR f)))) ∧ Old W W' from
    (h.old k).left 2 (by omega) 127 _ _ (fun _ _ => rfl) (kind_rk 1 113 2 (fun _ _ => rfl) _ _ kg fg W (two_rk cf hen hf g W k1 k2) (by omega) k3 k4))
  generalize leftA (askA A x.ks) 2 (kindR 1 (twoR f)) = Z at *
  have HP := hid (Pz.new w vt va A.length)
  obtain ⟨N, hN⟩ : ∃ N, N = A.length := ⟨_, rfl⟩
  rw [← hN] at HF HP ⊢
  clear hN h
  rcases hop with ⟨rfl, rfl⟩
  all_goals
      go_enter Tryz.func39, Tryz.ntmps39
      go_wp2
      generalize (w.alloc (.cells #[vt, .int .i64 (N : Int), va] 77)).alloc (.cells zA 73) = W0 at *
      have hO0 := (Old.refl W0).drew
      obtain ⟨n0, n1, n2⟩ := HP.out.keep _ (Old.refl W0)
      go_region_held3 (fun w' => w'.cell? ⟨w.heap.size, 0, none⟩ = some vt ∧ w'.cell? ⟨w.heap.size, 1, none⟩ = some (.int .i64 (N : Int)) ∧ w'.cell? ⟨w.heap.size, 2, none⟩ = some va)
        (first | exact HP.out.keep _ (by assumption) | exact HP.out.keep2 _ _ _ _ _ (by assumption) | exact HP.out.keep _ (Old.alloc (by assumption) _))
        (first
          | (go_at_call 73; (with_reducible refine (ofTwo_k _ _).mono ?_); rintro e w2 ⟨rfl, kc, kl, o2⟩; have hO2 := hO0.trans o2; replace kc : w2.cell? ⟨W0.heap.size, 0, none⟩ = _ := kc; replace kl : W0.heap.size < w2.heap.size := kl)
          | (go_at_call 84; (with_reducible refine (ofKind_k _ _ _ _).mono ?_); rintro e w4 ⟨rfl, kd, ke, o4⟩; have hO4 := hO2.trans o4; have kc4 := o4.keeps kc; have kl4 := Nat.lt_of_lt_of_le kl o4.size)
          | (go_at_call 66; (with_reducible refine (HF.out _ (HP.out.o.trans hO4) _ _ _ kc4 kl4 kd ke).mono ?_); rintro e w3 ⟨rfl, o3⟩; have hO3 := hO4.trans o3; have O5 := hid (HP.out.o.trans hO3); have T5 := hid (HP.out.b.old hO3); have f0 := T5.out.f 0; have f1 := T5.out.f 1; have f2 := T5.out.f 2; have f3 := T5.out.f 3; have c0 := T5.out.c 0; have c1 := T5.out.c 1; have c2 := T5.out.c 2; have c3 := T5.out.c 3))
      all_goals
        have c0 := T5.out.c 0; have c1 := T5.out.c 1; have c2 := T5.out.c 2; have c3 := T5.out.c 3
        go_wp2
        have Rr := T5.out.set4 rfl (.int .u8 Z.v.k) (.int .i64 Z.v.n) (.string Z.v.s) (.int .i64 Z.e)
        exact bodyPost_ret (v := anv Z) (by simp [results, Tryz.results39, go_sem, Rr.c 0, Rr.c 1, Rr.c 2, Rr.c 3]) rfl ⟨rfl, old4 O5.out (by omega) _ _ _ _⟩
theorem reck_str (w : World) {vt va : Value} {T : List Na} {A : List An} {x : Na} (h : Nz w vt va T A x) (op : Int) (cf : Nat) (hop : (op = 22 ∧ cf = 86) ∨ (op = 23 ∧ cf = 87)) {f : Vl → An} (hf : C1 cf f w) :
    Calls Tryz.prog 39 #[nv vt A.length va, .int .u8 op] w fun e w' => e = .returned (anv (leftA (askA A x.ks) 1 (kindR 3 (oneR f)))) ∧ Old w w' := by
  have hen : ∀ args W, (callFunc cf args).run Tryz.prog W = .ok (.enter cf args) W := by rcases hop with ⟨rfl, rfl⟩ | ⟨rfl, rfl⟩ <;> exact fun _ _ => rfl
  have HF := hid (fun W (k : Old w W) g kg fg (k1 : W.cell? ⟨g, 0, none⟩ = some (.func (.func cf) #[] #[])) (k2 : g < W.heap.size) (k3 : W.cell? ⟨kg, 0, none⟩ = some (.int .u8 3)) (k4 : W.cell? ⟨fg, 0, none⟩ = some (.func (.func 123) #[] #[.pointer (some ⟨g, 0, none⟩)])) => show Calls Tryz.prog 66 #[nv vt A.length va, .int .i64 1, .func (.func 127) #[] #[.pointer (some ⟨kg, 0, none⟩), .pointer (some ⟨fg, 0, none⟩)]] W fun e W' => e = .returned (anv (leftA (askA A x.ks) 1 (kindR 3 (oneR f)))) ∧ Old W W' from
    (h.old k).left 1 (by omega) 127 _ _ (fun _ _ => rfl) (kind_rk 3 123 1 (fun _ _ => rfl) _ _ kg fg W (one_rk cf hen g W (fun W2 k3 a ha => hf W2 (k.trans k3) a ha) k1 k2) (by omega) k3 k4))
  generalize leftA (askA A x.ks) 1 (kindR 3 (oneR f)) = Z at *
  have HP := hid (Pz.new w vt va A.length)
  obtain ⟨N, hN⟩ : ∃ N, N = A.length := ⟨_, rfl⟩
  rw [← hN] at HF HP ⊢
  clear hN h
  rcases hop with ⟨rfl, rfl⟩ | ⟨rfl, rfl⟩
  all_goals
      go_enter Tryz.func39, Tryz.ntmps39
      go_wp2
      generalize (w.alloc (.cells #[vt, .int .i64 (N : Int), va] 77)).alloc (.cells zA 73) = W0 at *
      have hO0 := (Old.refl W0).drew
      obtain ⟨n0, n1, n2⟩ := HP.out.keep _ (Old.refl W0)
      go_region_held3 (fun w' => w'.cell? ⟨w.heap.size, 0, none⟩ = some vt ∧ w'.cell? ⟨w.heap.size, 1, none⟩ = some (.int .i64 (N : Int)) ∧ w'.cell? ⟨w.heap.size, 2, none⟩ = some va)
        (first | exact HP.out.keep _ (by assumption) | exact HP.out.keep2 _ _ _ _ _ (by assumption) | exact HP.out.keep _ (Old.alloc (by assumption) _))
        (first
          | (go_at_call 78; (with_reducible refine (ofOne_k _ _).mono ?_); rintro e w2 ⟨rfl, kc, kl, o2⟩; have hO2 := hO0.trans o2; replace kc : w2.cell? ⟨W0.heap.size, 0, none⟩ = _ := kc; replace kl : W0.heap.size < w2.heap.size := kl)
          | (go_at_call 84; (with_reducible refine (ofKind_k _ _ _ _).mono ?_); rintro e w4 ⟨rfl, kd, ke, o4⟩; have hO4 := hO2.trans o4; have kc4 := o4.keeps kc; have kl4 := Nat.lt_of_lt_of_le kl o4.size)
          | (go_at_call 66; (with_reducible refine (HF.out _ (HP.out.o.trans hO4) _ _ _ kc4 kl4 kd ke).mono ?_); rintro e w3 ⟨rfl, o3⟩; have hO3 := hO4.trans o3; have O5 := hid (HP.out.o.trans hO3); have T5 := hid (HP.out.b.old hO3); have f0 := T5.out.f 0; have f1 := T5.out.f 1; have f2 := T5.out.f 2; have f3 := T5.out.f 3; have c0 := T5.out.c 0; have c1 := T5.out.c 1; have c2 := T5.out.c 2; have c3 := T5.out.c 3))
      all_goals
        have c0 := T5.out.c 0; have c1 := T5.out.c 1; have c2 := T5.out.c 2; have c3 := T5.out.c 3
        go_wp2
        have Rr := T5.out.set4 rfl (.int .u8 Z.v.k) (.int .i64 Z.v.n) (.string Z.v.s) (.int .i64 Z.e)
        exact bodyPost_ret (v := anv Z) (by simp [results, Tryz.results39, go_sem, Rr.c 0, Rr.c 1, Rr.c 2, Rr.c 3]) rfl ⟨rfl, old4 O5.out (by omega) _ _ _ _⟩
theorem reck_txt (w : World) {vt va : Value} {T : List Na} {A : List An} {x : Na} (h : Nz w vt va T A x) (op : Int) (cf : Nat) (hop : (op = 24 ∧ cf = 89) ∨ (op = 25 ∧ cf = 90)) (p : ByteArray → ByteArray → Bool) (hf : ∀ W, Old w W → ∀ a b : ByteArray, a.size ≤ 1000000 → b.size ≤ 1000000 → Calls Tryz.prog cf #[.string a, .string b] W fun e W' => e = .returned (.bool (p a b)) ∧ Old W W') :
    Calls Tryz.prog 39 #[nv vt A.length va, .int .u8 op] w fun e w' => e = .returned (anv (leftA (askA A x.ks) 2 (kindR 3 (twoR fun a b => anT (p a.s b.s))))) ∧ Old w w' := by
  have hen : ∀ args W, (callFunc cf args).run Tryz.prog W = .ok (.enter cf args) W := by rcases hop with ⟨rfl, rfl⟩ | ⟨rfl, rfl⟩ <;> exact fun _ _ => rfl
  have HF := hid (fun W (k : Old w W) g kg fg (k1 : W.cell? ⟨g, 0, none⟩ = some (.func (.func cf) #[] #[])) (k2 : g < W.heap.size) (k3 : W.cell? ⟨kg, 0, none⟩ = some (.int .u8 3)) (k4 : W.cell? ⟨fg, 0, none⟩ = some (.func (.func 133) #[] #[.pointer (some ⟨g, 0, none⟩)])) => show Calls Tryz.prog 66 #[nv vt A.length va, .int .i64 2, .func (.func 127) #[] #[.pointer (some ⟨kg, 0, none⟩), .pointer (some ⟨fg, 0, none⟩)]] W fun e W' => e = .returned (anv (leftA (askA A x.ks) 2 (kindR 3 (twoR fun a b => anT (p a.s b.s))))) ∧ Old W W' from
    (h.old k).left 2 (by omega) 127 _ _ (fun _ _ => rfl) (kind_rk 3 133 2 (fun _ _ => rfl) _ _ kg fg W (text_rk cf hen p g W (fun W2 k3 a b ha hb => hf W2 (k.trans k3) a b ha hb) k1) (by omega) k3 k4))
  generalize leftA (askA A x.ks) 2 (kindR 3 (twoR fun a b => anT (p a.s b.s))) = Z at *
  have HP := hid (Pz.new w vt va A.length)
  obtain ⟨N, hN⟩ : ∃ N, N = A.length := ⟨_, rfl⟩
  rw [← hN] at HF HP ⊢
  clear hN h
  rcases hop with ⟨rfl, rfl⟩ | ⟨rfl, rfl⟩
  all_goals
      go_enter Tryz.func39, Tryz.ntmps39
      go_wp2
      generalize (w.alloc (.cells #[vt, .int .i64 (N : Int), va] 77)).alloc (.cells zA 73) = W0 at *
      have hO0 := (Old.refl W0).drew
      obtain ⟨n0, n1, n2⟩ := HP.out.keep _ (Old.refl W0)
      go_region_held3 (fun w' => w'.cell? ⟨w.heap.size, 0, none⟩ = some vt ∧ w'.cell? ⟨w.heap.size, 1, none⟩ = some (.int .i64 (N : Int)) ∧ w'.cell? ⟨w.heap.size, 2, none⟩ = some va)
        (first | exact HP.out.keep _ (by assumption) | exact HP.out.keep2 _ _ _ _ _ (by assumption) | exact HP.out.keep _ (Old.alloc (by assumption) _))
        (first
          | (go_at_call 88; (with_reducible refine (ofText_k _ _).mono ?_); rintro e w2 ⟨rfl, kc, kl, o2⟩; have hO2 := hO0.trans o2; replace kc : w2.cell? ⟨W0.heap.size, 0, none⟩ = _ := kc; replace kl : W0.heap.size < w2.heap.size := kl)
          | (go_at_call 84; (with_reducible refine (ofKind_k _ _ _ _).mono ?_); rintro e w4 ⟨rfl, kd, ke, o4⟩; have hO4 := hO2.trans o4; have kc4 := o4.keeps kc; have kl4 := Nat.lt_of_lt_of_le kl o4.size)
          | (go_at_call 66; (with_reducible refine (HF.out _ (HP.out.o.trans hO4) _ _ _ kc4 kl4 kd ke).mono ?_); rintro e w3 ⟨rfl, o3⟩; have hO3 := hO4.trans o3; have O5 := hid (HP.out.o.trans hO3); have T5 := hid (HP.out.b.old hO3); have f0 := T5.out.f 0; have f1 := T5.out.f 1; have f2 := T5.out.f 2; have f3 := T5.out.f 3; have c0 := T5.out.c 0; have c1 := T5.out.c 1; have c2 := T5.out.c 2; have c3 := T5.out.c 3))
      all_goals
        have c0 := T5.out.c 0; have c1 := T5.out.c 1; have c2 := T5.out.c 2; have c3 := T5.out.c 3
        go_wp2
        have Rr := T5.out.set4 rfl (.int .u8 Z.v.k) (.int .i64 Z.v.n) (.string Z.v.s) (.int .i64 Z.e)
        exact bodyPost_ret (v := anv Z) (by simp [results, Tryz.results39, go_sem, Rr.c 0, Rr.c 1, Rr.c 2, Rr.c 3]) rfl ⟨rfl, old4 O5.out (by omega) _ _ _ _⟩
end Go.Proofs.YtmkmafkkpigfpaaGreatDoor.V
