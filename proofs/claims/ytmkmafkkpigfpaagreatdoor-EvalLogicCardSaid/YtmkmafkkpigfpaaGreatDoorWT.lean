/- Layer eval: a node's answer. the answer of a node of any op. Value. -/
import Derived.Test.YtmkmafkkpigfpaaGreatDoorWQ
set_option maxHeartbeats 3200000
namespace Go.Proofs.YtmkmafkkpigfpaaGreatDoor.V
open Go.ChangeShapes Go.WideShapes Go.ChangeAt Go.RowKit Go.Lib
set_option linter.unusedVariables false
set_option linter.unusedSimpArgs false
set_option maxRecDepth 100000
def reckA (op : Int) (n0 n1 : Bool) (ask : Nat → An) (m : Nat) : An :=
  match reckR op n0 n1 with
  | some (some n, R) => leftA ask n R
  | some (none, R) => leftA ask m R
  | none => anE 2
theorem c2_add : C2 74 fun a b => tri (adT a.k a.n b.k b.n) := fun W a b ha hb => vadd_any a.k a.n a.s b.k b.n b.s W ha.n hb.n
theorem c2_sub : C2 75 fun a b => tri (sbT a.k a.n b.k b.n) := fun W a b ha hb => vsub_any a.k a.n a.s b.k b.n b.s W ha.n hb.n
theorem c2_mul : C2 76 fun a b => tri (mlT a.k a.n b.k b.n) := fun W a b ha hb => vmul_any a.k a.n a.s b.k b.n b.s W ha.n hb.n
theorem c2_div : C2 77 fun a b => tri (dvT a.k a.n b.k b.n) := fun W a b ha hb => vdiv_any a.k a.n a.s b.k b.n b.s W ha.n hb.n
theorem c2_mod : C2 85 modA := fun W a b ha hb => mod_ev a.k a.n a.s b.k b.n b.s W
theorem c1_neg (w : World) : C1 79 negA w := fun W _ a ha => vneg_any a.k a.n a.s W ha.n
theorem c1_abs (w : World) : C1 80 absA w := fun W _ a ha => abs_ev a.k a.n a.s W ha.n
theorem c1_len (w : World) : C1 86 lenA w := fun W _ a ha => length_ev a.k a.n a.s W ha.s
theorem c1_up (w : World) (he : En w) : C1 87 upA w := fun W h a ha => upper_ev a.k a.n a.s W (he.old h) ha.s
theorem rk_least (n : Nat) (hn : n ≤ 100000) (w : World) : Rk 82 #[] n (fun l => tri (fmT lsP l)) w := fun W _ l v hl hd hv => least_any l v W hv (by omega) fun x hx => (hd x hx).n
theorem rk_most (n : Nat) (hn : n ≤ 100000) (w : World) : Rk 83 #[] n (fun l => tri (fmT msP l)) w := fun W _ l v hl hd hv => most_any l v W hv (by omega) fun x hx => (hd x hx).n
theorem rk_zero (op : Int) (n0 n1 : Bool) (hop : op < 7 ∨ 25 < op) : reckR op n0 n1 = none := by
  unfold reckR
  rw [if_neg (show ¬ op = 7 by omega), if_neg (show ¬ op = 8 by omega), if_neg (show ¬ op = 9 by omega), if_neg (show ¬ op = 10 by omega), if_neg (show ¬ op = 11 by omega), if_neg (show ¬ op = 12 by omega), if_neg (show ¬ op = 13 by omega), if_neg (show ¬ op = 14 by omega), if_neg (show ¬ op = 15 by omega), if_neg (show ¬ op = 16 by omega), if_neg (show ¬ op = 17 by omega), if_neg (show ¬ op = 18 by omega), if_neg (show ¬ op = 19 by omega), if_neg (show ¬ op = 20 by omega), if_neg (show ¬ op = 21 by omega), if_neg (show ¬ op = 22 by omega), if_neg (show ¬ op = 23 by omega), if_neg (show ¬ op = 24 by omega), if_neg (show ¬ op = 25 by omega)]
theorem reck_none (w : World) {vt va : Value} {N : Nat} (op : Int) (hop : op < 7 ∨ 25 < op) : Calls Tryz.prog 39 #[nv vt N va, .int .u8 op] w fun e w' => e = .returned (anv (anE 2)) ∧ Old w w' := by
  have HP := hid (Pz.new w vt va N)
  have e7 : (op == 7) = false := beq_false_of_ne (by omega)
  have e8 : (op == 8) = false := beq_false_of_ne (by omega)
  have e9 : (op == 9) = false := beq_false_of_ne (by omega)
  have e10 : (op == 10) = false := beq_false_of_ne (by omega)
  have e11 : (op == 11) = false := beq_false_of_ne (by omega)
  have e12 : (op == 12) = false := beq_false_of_ne (by omega)
  have e13 : (op == 13) = false := beq_false_of_ne (by omega)
  have e14 : (op == 14) = false := beq_false_of_ne (by omega)
  have e15 : (op == 15) = false := beq_false_of_ne (by omega)
  have e16 : (op == 16) = false := beq_false_of_ne (by omega)
  have e17 : (op == 17) = false := beq_false_of_ne (by omega)
  have e18 : (op == 18) = false := beq_false_of_ne (by omega)
  have e19 : (op == 19) = false := beq_false_of_ne (by omega)
  have e20 : (op == 20) = false := beq_false_of_ne (by omega)
  have e21 : (op == 21) = false := beq_false_of_ne (by omega)
  have e22 : (op == 22) = false := beq_false_of_ne (by omega)
  have e23 : (op == 23) = false := beq_false_of_ne (by omega)
  have e24 : (op == 24) = false := beq_false_of_ne (by omega)
  have e25 : (op == 25) = false := beq_false_of_ne (by omega)
  clear hop
  go_enter Tryz.func39, Tryz.ntmps39
  go_wp2
  exact bodyPost_ret (v := anv (anE 2)) (by simp [results, Tryz.results39, go_sem]) rfl ⟨rfl, ((Old.refl w).alloc _).alloc _⟩
theorem reck_any (w : World) {vt va : Value} {T : List Na} {A : List An} {x : Na} (h : Nz w vt va T A x) (op : Int) :
    Calls Tryz.prog 39 #[nv vt A.length va, .int .u8 op] w fun e w' => e = .returned (anv (reckA op (nullA T A.length x.ks 0) (nullA T A.length x.ks 1) (askA A x.ks) x.ks.length)) ∧ Old w w' := by
  by_cases hop : op < 7 ∨ 25 < op
  · unfold reckA
    rw [rk_zero op _ _ hop]
    exact reck_none w op hop
  · have hc : op = 7 ∨ op = 8 ∨ op = 9 ∨ op = 10 ∨ op = 11 ∨ op = 12 ∨ op = 13 ∨ op = 14 ∨ op = 15 ∨ op = 16 ∨ op = 17 ∨ op = 18 ∨ op = 19 ∨ op = 20 ∨ op = 21 ∨ op = 22 ∨ op = 23 ∨ op = 24 ∨ op = 25 := by omega
    rcases hc with rfl | rfl | rfl | rfl | rfl | rfl | rfl | rfl | rfl | rfl | rfl | rfl | rfl | rfl | rfl | rfl | rfl | rfl | rfl
    · exact reck_eq w h 7 true (by simp)
    · exact reck_eq w h 8 false (by simp)
    · exact reck_ord w h 9 69 (by simp) (pc_lt w)
    · exact reck_ord w h 10 70 (by simp) (pc_le w)
    · exact reck_ord w h 11 71 (by simp) (pc_gt w)
    · exact reck_ord w h 12 72 (by simp) (pc_ge w)
    · exact reck_two w h 13 74 (by simp) c2_add
    · exact reck_two w h 14 75 (by simp) c2_sub
    · exact reck_two w h 15 76 (by simp) c2_mul
    · exact reck_two w h 16 77 (by simp) c2_div
    · exact reck_one w h 17 79 (by simp) (c1_neg w)
    · exact reck_one w h 18 80 (by simp) (c1_abs w)
    · exact reck_ends w h 19 82 (by simp) (rk_least _ h.k w)
    · exact reck_ends w h 20 83 (by simp) (rk_most _ h.k w)
    · exact reck_mod w h 21 85 (by simp) c2_mod
    · exact reck_str w h 22 86 (by simp) (c1_len w)
    · exact reck_str w h 23 87 (by simp) (c1_up w h.e)
    · exact reck_txt w h 24 89 (by simp) (fun a b => Lib.contains a.data.toList b.data.toList) fun W k a b ha hb => by
        obtain ⟨m, hm⟩ := (h.e.old k).len
        exact (Tryz.strings_Contains a b m W (by omega) hm).mono fun e w' h => ⟨h.1, h.2 ▸ Old.refl _⟩
    · exact reck_txt w h 25 90 (by simp) (fun a b => Lib.hasPrefix a.data.toList b.data.toList) fun W k a b ha hb => (Tryz.strings_HasPrefix a b W).mono fun e w' h => ⟨h.1, h.2 ▸ Old.refl _⟩
def ansA (T : List Na) (A : List An) (x : Na) (self : Vl) (vars : List Bd) : An :=
  if x.op = 1 then properA ⟨x.vk, x.vn, st x.vs⟩ else if x.op = 2 then boundA (st x.nm) vars else if x.op = 3 then properA self
  else if x.op = 5 then unlA false (askA A x.ks) else if x.op = 4 then unlA true (askA A x.ks) else if x.op = 6 then notA (askA A x.ks) else if x.op = 26 then ifA (askA A x.ks)
  else reckA x.op (nullA T A.length x.ks 0) (nullA T A.length x.ks 1) (askA A x.ks) x.ks.length
theorem ans_any (w : World) {vt va vv : Value} {T : List Na} {A : List An} {x : Na} (h : Nz w vt va T A x) (self : Vl) (vars : List Bd) (hv : BR w vv vars) :
    Calls Tryz.prog 20 #[nv vt A.length va, self.v, vv] w fun e w' => e = .returned (anv (ansA T A x self vars)) ∧ Old w w' := by
  have HO := hid ((((Old.refl w).alloc (.cells #[vt, .int .i64 (A.length : Int), va] 77)).alloc (.cells #[.int .u8 self.k, .int .i64 self.n, .string self.s] 26)).alloc (.cells zA 73))
  have HT := hid (Bk.new ((w.alloc (.cells #[vt, .int .i64 (A.length : Int), va] 77)).alloc (.cells #[.int .u8 self.k, .int .i64 self.n, .string self.s] 26)) zA 73)
  rw [sz_alloc, sz_alloc] at HT
  have HB := hid (Bk.new w #[vt, .int .i64 (A.length : Int), va] 77)
  have HQ := hid (((Bk.new w #[vt, .int .i64 (A.length : Int), va] 77).alloc (.cells #[.int .u8 self.k, .int .i64 self.n, .string self.s] 26)).alloc (.cells zA 73))
  have HS := hid ((Bk.new (w.alloc (.cells #[vt, .int .i64 (A.length : Int), va] 77)) #[.int .u8 self.k, .int .i64 self.n, .string self.s] 26).alloc (.cells zA 73))
  rw [sz_alloc] at HS
  have P1 := hid (fun W => proper_any x.vk x.vn (st x.vs) W)
  have P2 := hid (fun W (k : Old w W) => bound_any (st x.nm) vars vv W (hv.old k))
  have P3 := hid (fun W => proper_any self.k self.n self.s W)
  have P5 := hid (fun W (k : Old w W) => unl_node false 35 (Or.inl ⟨rfl, rfl⟩) W (h.old k))
  have P4 := hid (fun W (k : Old w W) => unl_node true 36 (Or.inr ⟨rfl, rfl⟩) W (h.old k))
  have P6 := hid (fun W (k : Old w W) => not_node W (h.old k))
  have P7 := hid (fun W (k : Old w W) => if_node W (h.old k))
  have P8 := hid (fun W (k : Old w W) => reck_any W (h.old k) x.op)
  have hy := h.y
  have hi : A.length < T.length := (List.getElem?_eq_some_iff.1 hy).1
  unfold ansA
  obtain ⟨oa, cap, rfl, h1, h2, h4⟩ := h.t.old HO.out
  obtain ⟨g, kv, rfl, hg, hs, a0, a1, a2, a3, a4, a5, a6, a7, hk⟩ := h4 A.length x hy
  obtain ⟨ok, ck, rfl, k1, k2, k4⟩ := hk
  generalize askA A x.ks = ask at *
  generalize hn0 : nullA T A.length x.ks 0 = N0 at *
  generalize hn1 : nullA T A.length x.ks 1 = N1 at *
  obtain ⟨L, hL⟩ : ∃ L, L = T.length := ⟨_, rfl⟩
  obtain ⟨N, hN⟩ : ∃ N, N = A.length := ⟨_, rfl⟩
  obtain ⟨K, hK⟩ : ∃ K, K = x.ks.length := ⟨_, rfl⟩
  obtain ⟨op, vk, vn, vs, nm, ks, ln, cl⟩ := x
  simp only at hK P1 P2 P3 P4 P5 P6 P7 P8 a0 a1 a2 a3 a4 a5 a6 a7 k1 ⊢
  rw [← hK] at P8 a5 k1 ⊢
  rw [← hL] at hi h1 HO HT HB HQ HS P4 P5 P6 P7 P8 a0 a1 a2 a3 a4 a5 a6 a7 ⊢
  rw [← hN] at hi HO HT HB HQ HS P4 P5 P6 P7 P8 a0 a1 a2 a3 a4 a5 a6 a7 ⊢
  have q0 := HQ.out.c 0
  have q1 := HQ.out.c 1
  have q2 := HQ.out.c 2
  have s0 := HS.out.c 0
  have s1 := HS.out.c 1
  have s2 := HS.out.c 2
  have f0 := HT.out.f 0; have f1 := HT.out.f 1; have f2 := HT.out.f 2; have f3 := HT.out.f 3
  have z0 := HT.out.c 0; have z1 := HT.out.c 1; have z2 := HT.out.c 2; have z3 := HT.out.c 3
  clear h h4 hv hy hs k4 hL hN hK hn0 hn1 k2
  by_cases h1 : op = 1
  · subst h1
    show Calls Tryz.prog 20 #[nv (.slice (some ⟨g, 0, none⟩) L cap) N va, self.v, vv] w fun e w' => e = .returned (anv (properA ⟨vk, vn, st vs⟩)) ∧ Old w w'
    generalize properA ⟨vk, vn, st vs⟩ = Z at *
    go_enter Tryz.func20, Tryz.ntmps20
    go_wp2_with (first
      | (go_at_call 32; (with_reducible refine (P1.out _).mono ?_); rintro e w1 ⟨rfl, o1⟩; have O1 := hid ((HO.out.alloc _).trans o1); have T1 := hid ((HT.out.alloc _).old o1); clear o1 f0 f1 f2 f3 z0 z1 z2 z3; have c0 := T1.out.c 0; have c1 := T1.out.c 1; have c2 := T1.out.c 2; have c3 := T1.out.c 3; have f0 := T1.out.f 0; have f1 := T1.out.f 1; have f2 := T1.out.f 2; have f3 := T1.out.f 3))
    have R := T1.out.set4 rfl (.int .u8 Z.v.k) (.int .i64 Z.v.n) (.string Z.v.s) (.int .i64 Z.e)
    exact bodyPost_ret (v := anv Z) (by simp [results, Tryz.results20, go_sem, R.c 0, R.c 1, R.c 2, R.c 3]) rfl ⟨rfl, old4 O1.out (by omega) _ _ _ _⟩
  by_cases h2 : op = 2
  · subst h2
    show Calls Tryz.prog 20 #[nv (.slice (some ⟨g, 0, none⟩) L cap) N va, self.v, vv] w fun e w' => e = .returned (anv (boundA (st nm) vars)) ∧ Old w w'
    generalize boundA (st nm) vars = Z at *
    go_enter Tryz.func20, Tryz.ntmps20
    go_wp2_with (first
      | (go_at_call 33; (with_reducible refine (P2.out _ (HO.out.alloc _)).mono ?_); rintro e w1 ⟨rfl, o1⟩; have O1 := hid ((HO.out.alloc _).trans o1); have T1 := hid ((HT.out.alloc _).old o1); clear o1 f0 f1 f2 f3 z0 z1 z2 z3; have c0 := T1.out.c 0; have c1 := T1.out.c 1; have c2 := T1.out.c 2; have c3 := T1.out.c 3; have f0 := T1.out.f 0; have f1 := T1.out.f 1; have f2 := T1.out.f 2; have f3 := T1.out.f 3))
    have R := T1.out.set4 rfl (.int .u8 Z.v.k) (.int .i64 Z.v.n) (.string Z.v.s) (.int .i64 Z.e)
    exact bodyPost_ret (v := anv Z) (by simp [results, Tryz.results20, go_sem, R.c 0, R.c 1, R.c 2, R.c 3]) rfl ⟨rfl, old4 O1.out (by omega) _ _ _ _⟩
  by_cases h3 : op = 3
  · subst h3
    show Calls Tryz.prog 20 #[nv (.slice (some ⟨g, 0, none⟩) L cap) N va, self.v, vv] w fun e w' => e = .returned (anv (properA self)) ∧ Old w w'
    obtain ⟨Z, hZ⟩ : ∃ Z, Z = properA self := ⟨_, rfl⟩
    have hZ2 : properA ⟨self.k, self.n, self.s⟩ = Z := hZ.symm
    rw [← hZ]
    rw [hZ2] at P3
    clear hZ hZ2
    go_enter Tryz.func20, Tryz.ntmps20
    go_wp2_with (first
      | (go_at_call 32; (with_reducible refine (P3.out _).mono ?_); rintro e w1 ⟨rfl, o1⟩; have O1 := hid ((HO.out.alloc _).trans o1); have T1 := hid ((HT.out.alloc _).old o1); clear o1 f0 f1 f2 f3 z0 z1 z2 z3; have c0 := T1.out.c 0; have c1 := T1.out.c 1; have c2 := T1.out.c 2; have c3 := T1.out.c 3; have f0 := T1.out.f 0; have f1 := T1.out.f 1; have f2 := T1.out.f 2; have f3 := T1.out.f 3))
    have R := T1.out.set4 rfl (.int .u8 Z.v.k) (.int .i64 Z.v.n) (.string Z.v.s) (.int .i64 Z.e)
    exact bodyPost_ret (v := anv Z) (by simp [results, Tryz.results20, go_sem, R.c 0, R.c 1, R.c 2, R.c 3]) rfl ⟨rfl, old4 O1.out (by omega) _ _ _ _⟩
  by_cases h5 : op = 5
  · subst h5
    show Calls Tryz.prog 20 #[nv (.slice (some ⟨g, 0, none⟩) L cap) N va, self.v, vv] w fun e w' => e = .returned (anv (unlA false ask)) ∧ Old w w'
    generalize unlA false ask = Z at *
    go_enter Tryz.func20, Tryz.ntmps20
    go_wp2_with (first
      | (go_at_call 34; (with_reducible refine (P5.out _ (HO.out.alloc _)).mono ?_); rintro e w1 ⟨rfl, o1⟩; have O1 := hid ((HO.out.alloc _).trans o1); have T1 := hid ((HT.out.alloc _).old o1); clear o1 f0 f1 f2 f3 z0 z1 z2 z3; have c0 := T1.out.c 0; have c1 := T1.out.c 1; have c2 := T1.out.c 2; have c3 := T1.out.c 3; have f0 := T1.out.f 0; have f1 := T1.out.f 1; have f2 := T1.out.f 2; have f3 := T1.out.f 3))
    have R := T1.out.set4 rfl (.int .u8 Z.v.k) (.int .i64 Z.v.n) (.string Z.v.s) (.int .i64 Z.e)
    exact bodyPost_ret (v := anv Z) (by simp [results, Tryz.results20, go_sem, R.c 0, R.c 1, R.c 2, R.c 3]) rfl ⟨rfl, old4 O1.out (by omega) _ _ _ _⟩
  by_cases h4 : op = 4
  · subst h4
    show Calls Tryz.prog 20 #[nv (.slice (some ⟨g, 0, none⟩) L cap) N va, self.v, vv] w fun e w' => e = .returned (anv (unlA true ask)) ∧ Old w w'
    generalize unlA true ask = Z at *
    go_enter Tryz.func20, Tryz.ntmps20
    go_wp2_with (first
      | (go_at_call 34; (with_reducible refine (P4.out _ (HO.out.alloc _)).mono ?_); rintro e w1 ⟨rfl, o1⟩; have O1 := hid ((HO.out.alloc _).trans o1); have T1 := hid ((HT.out.alloc _).old o1); clear o1 f0 f1 f2 f3 z0 z1 z2 z3; have c0 := T1.out.c 0; have c1 := T1.out.c 1; have c2 := T1.out.c 2; have c3 := T1.out.c 3; have f0 := T1.out.f 0; have f1 := T1.out.f 1; have f2 := T1.out.f 2; have f3 := T1.out.f 3))
    have R := T1.out.set4 rfl (.int .u8 Z.v.k) (.int .i64 Z.v.n) (.string Z.v.s) (.int .i64 Z.e)
    exact bodyPost_ret (v := anv Z) (by simp [results, Tryz.results20, go_sem, R.c 0, R.c 1, R.c 2, R.c 3]) rfl ⟨rfl, old4 O1.out (by omega) _ _ _ _⟩
  by_cases h6 : op = 6
  · subst h6
    show Calls Tryz.prog 20 #[nv (.slice (some ⟨g, 0, none⟩) L cap) N va, self.v, vv] w fun e w' => e = .returned (anv (notA ask)) ∧ Old w w'
    generalize notA ask = Z at *
    go_enter Tryz.func20, Tryz.ntmps20
    go_wp2_with (first
      | (go_at_call 37; (with_reducible refine (P6.out _ (HO.out.alloc _)).mono ?_); rintro e w1 ⟨rfl, o1⟩; have O1 := hid ((HO.out.alloc _).trans o1); have T1 := hid ((HT.out.alloc _).old o1); clear o1 f0 f1 f2 f3 z0 z1 z2 z3; have c0 := T1.out.c 0; have c1 := T1.out.c 1; have c2 := T1.out.c 2; have c3 := T1.out.c 3; have f0 := T1.out.f 0; have f1 := T1.out.f 1; have f2 := T1.out.f 2; have f3 := T1.out.f 3))
    have R := T1.out.set4 rfl (.int .u8 Z.v.k) (.int .i64 Z.v.n) (.string Z.v.s) (.int .i64 Z.e)
    exact bodyPost_ret (v := anv Z) (by simp [results, Tryz.results20, go_sem, R.c 0, R.c 1, R.c 2, R.c 3]) rfl ⟨rfl, old4 O1.out (by omega) _ _ _ _⟩
  by_cases h26 : op = 26
  · subst h26
    show Calls Tryz.prog 20 #[nv (.slice (some ⟨g, 0, none⟩) L cap) N va, self.v, vv] w fun e w' => e = .returned (anv (ifA ask)) ∧ Old w w'
    generalize ifA ask = Z at *
    go_enter Tryz.func20, Tryz.ntmps20
    go_wp2_with (first
      | (go_at_call 38; (with_reducible refine (P7.out _ (HO.out.alloc _)).mono ?_); rintro e w1 ⟨rfl, o1⟩; have O1 := hid ((HO.out.alloc _).trans o1); have T1 := hid ((HT.out.alloc _).old o1); clear o1 f0 f1 f2 f3 z0 z1 z2 z3; have c0 := T1.out.c 0; have c1 := T1.out.c 1; have c2 := T1.out.c 2; have c3 := T1.out.c 3; have f0 := T1.out.f 0; have f1 := T1.out.f 1; have f2 := T1.out.f 2; have f3 := T1.out.f 3))
    have R := T1.out.set4 rfl (.int .u8 Z.v.k) (.int .i64 Z.v.n) (.string Z.v.s) (.int .i64 Z.e)
    exact bodyPost_ret (v := anv Z) (by simp [results, Tryz.results20, go_sem, R.c 0, R.c 1, R.c 2, R.c 3]) rfl ⟨rfl, old4 O1.out (by omega) _ _ _ _⟩
  rw [if_neg h1, if_neg h2, if_neg h3, if_neg h5, if_neg h4, if_neg h6, if_neg h26]
  have e1 : (op == 1) = false := beq_false_of_ne h1
  have e2 : (op == 2) = false := beq_false_of_ne h2
  have e3 : (op == 3) = false := beq_false_of_ne h3
  have e5 : (op == 5) = false := beq_false_of_ne h5
  have e4 : (op == 4) = false := beq_false_of_ne h4
  have e6 : (op == 6) = false := beq_false_of_ne h6
  have e26 : (op == 26) = false := beq_false_of_ne h26
  generalize reckA op N0 N1 ask K = Z at *
  go_enter Tryz.func20, Tryz.ntmps20
  go_wp2_with (first
    | (go_at_call 39; (with_reducible refine (P8.out _ (HO.out.alloc _)).mono ?_); rintro e w1 ⟨rfl, o1⟩; have O1 := hid ((HO.out.alloc _).trans o1); have T1 := hid ((HT.out.alloc _).old o1); clear o1 f0 f1 f2 f3 z0 z1 z2 z3; have c0 := T1.out.c 0; have c1 := T1.out.c 1; have c2 := T1.out.c 2; have c3 := T1.out.c 3; have f0 := T1.out.f 0; have f1 := T1.out.f 1; have f2 := T1.out.f 2; have f3 := T1.out.f 3))
  have R := T1.out.set4 rfl (.int .u8 Z.v.k) (.int .i64 Z.v.n) (.string Z.v.s) (.int .i64 Z.e)
  exact bodyPost_ret (v := anv Z) (by simp [results, Tryz.results20, go_sem, R.c 0, R.c 1, R.c 2, R.c 3]) rfl ⟨rfl, old4 O1.out (by omega) _ _ _ _⟩
def runA (T : List Na) (self : Vl) (vars : List Bd) : Nat → List An
  | 0 => []
  | k + 1 => runA T self vars k ++ [match T[k]? with | some x => ansA T (runA T self vars k) x self vars | none => anE 0]
theorem run_len (T : List Na) (self : Vl) (vars : List Bd) : ∀ k, (runA T self vars k).length = k
  | 0 => rfl
  | k + 1 => by rw [runA, List.length_append, run_len T self vars k]; rfl
def lastA (T : List Na) (self : Vl) (vars : List Bd) (k : Nat) : An := (runA T self vars k).getD (k - 1) (anE 0)
theorem last_step {T : List Na} {self : Vl} {vars : List Bd} {k : Nat} {x : Na} (hx : T[k]? = some x) : lastA T self vars (k + 1) = ansA T (runA T self vars k) x self vars := by
  unfold lastA
  rw [runA, hx]
  rw [List.getD_eq_getElem?_getD, List.getElem?_append_right (by rw [run_len]; omega), run_len]
  rw [show k + 1 - 1 - k = 0 by omega]
  rfl
theorem run_step {T : List Na} {self : Vl} {vars : List Bd} {k : Nat} {x : Na} (hx : T[k]? = some x) : runA T self vars (k + 1) = runA T self vars k ++ [lastA T self vars (k + 1)] := by
  rw [last_step hx, runA, hx]
def valA (T : List Na) (self : Vl) (vars : List Bd) : An := lastA T self vars T.length
def acells (A : List An) : List Value := A.flatMap fun a => [.int .u8 a.v.k, .int .i64 a.v.n, .string a.v.s, .int .i64 a.e]
theorem acells_snoc (A : List An) (a : An) : acells (A ++ [a]) = acells A ++ [.int .u8 a.v.k, .int .i64 a.v.n, .string a.v.s, .int .i64 a.e] := by
  unfold acells
  rw [List.flatMap_append]
  simp
theorem acells_at : ∀ {A : List An} {j : Nat} {a : An}, A[j]? = some a → (acells A)[j * 4]? = some (.int .u8 a.v.k) ∧ (acells A)[j * 4 + 1]? = some (.int .i64 a.v.n) ∧ (acells A)[j * 4 + 2]? = some (.string a.v.s) ∧ (acells A)[j * 4 + 3]? = some (.int .i64 a.e)
  | b :: A, 0, a, h => by
    injection h with h
    subst h
    exact ⟨rfl, rfl, rfl, rfl⟩
  | b :: A, j + 1, a, h => by
    have ih := acells_at (A := A) (j := j) (a := a) h
    have e : ∀ r, (acells (b :: A))[(j + 1) * 4 + r]? = (acells A)[j * 4 + r]? := fun r => by
      show ([_, _, _, _] ++ acells A)[(j + 1) * 4 + r]? = _
      rw [List.getElem?_append_right (by simp only [List.length_cons, List.length_nil]; omega)]
      congr 1
      simp only [List.length_cons, List.length_nil]
      omega
    exact ⟨(e 0).trans ih.1, (e 1).trans ih.2.1, (e 2).trans ih.2.2.1, (e 3).trans ih.2.2.2⟩
theorem AR.own {w : World} {base : Nat} {va : Value} {A : List An} (h : w.ownsRow base 73 4 va A.length (acells A)) : AR w va A := by
  obtain ⟨oa, cap, e⟩ := own_shape h
  subst e
  obtain ⟨h1, h2⟩ := row_bound h
  refine ⟨oa, cap, rfl, h1, h2, fun j x hj => ?_⟩
  have hpos : 0 < A.length := by
    have := (List.getElem?_eq_some_iff.1 hj).1
    omega
  obtain ⟨g, rfl, hg, _, _, _, hc⟩ := row_any h hpos
  obtain ⟨a, b, c, d⟩ := acells_at hj
  exact ⟨g, rfl, hg, hc _ _ a, hc _ _ b, hc _ _ c, hc _ _ d⟩
theorem Bk.grown {w w' : World} {b t : Nat} {cs : Array Value} {row : Option Nat} (h : Bk w b cs t) (hg : w.grownBy w' row) (hr : row ≠ some b) : Bk w' b cs t :=
  (hg.block b h.lt (fun e => hr e.symm)).trans h
theorem info73 : (Tryz.prog.info? 73).map (fun i => (i.zero, i.size, i.bytes)) = some (some (.agg zA), 4, 40) := by kernel_rfl
structure Uz (w W : World) (sf : Vl) (va : Value) (A : List An) (L : An) : Prop where
  o : Old w W
  a : Bk W w.heap.size #[.int .u8 sf.k, .int .i64 sf.n, .string sf.s] 26
  b : Bk W (w.heap.size + 1) #[.int .u8 0, .int .i64 0, .string ⟨#[]⟩] 26
  c : Bk W (w.heap.size + 1 + 1) #[.int .u8 L.v.k, .int .i64 L.v.n, .string L.v.s, .int .i64 L.e] 73
  r : W.ownsRow (w.heap.size + 1 + 1 + 1) 73 4 va A.length (acells A)
theorem Uz.old {w W W' : World} {sf : Vl} {va : Value} {A : List An} {L : An} (h : Uz w W sf va A L) (ho : Old W W') : Uz w W' sf va A L :=
  ⟨h.o.trans ho, h.a.old ho, h.b.old ho, h.c.old ho, own_old h.r ho⟩
theorem Uz.set {w W : World} {sf : Vl} {va : Value} {A : List An} {L : An} (h : Uz w W sf va A L) (M : An) :
    Uz w ((((W.setCell ⟨w.heap.size + 1 + 1, 0, none⟩ (.int .u8 M.v.k)).setCell ⟨w.heap.size + 1 + 1, 1, none⟩ (.int .i64 M.v.n)).setCell ⟨w.heap.size + 1 + 1, 2, none⟩ (.string M.v.s)).setCell ⟨w.heap.size + 1 + 1, 3, none⟩ (.int .i64 M.e)) sf va A M := by
  refine ⟨old4 h.o (by omega) _ _ _ _, ((((h.a.far (by omega) _).far (by omega) _).far (by omega) _).far (by omega) _), ((((h.b.far (by omega) _).far (by omega) _).far (by omega) _).far (by omega) _), h.c.set4 rfl _ _ _ _, ?_⟩
  exact ownsRow_setCell_below (ownsRow_setCell_below (ownsRow_setCell_below (ownsRow_setCell_below h.r (by simp only; omega) _) (by simp only; omega) _) (by simp only; omega) _) (by simp only; omega) _
theorem own_not {w : World} {base e size n b : Nat} {v : Value} {cs : List Value} (h : w.ownsRow base e size v n cs) (hb : b < base) : v.ownBlock ≠ some b := by
  intro e1
  rcases h.2 with ⟨rfl, _⟩ | ⟨g, cap, cur, rfl, hb', _⟩
  · simp [Value.ownBlock] at e1
  · simp [Value.ownBlock] at e1
    omega
theorem Uz.grown {w W W' : World} {sf : Vl} {va va' : Value} {A : List An} {L : An} (h : Uz w W sf va A L) (hg : W.grownBy W' va.ownBlock) (hr : W'.ownsRow (w.heap.size + 1 + 1 + 1) 73 4 va' (A.length + 1) (acells A ++ [.int .u8 L.v.k, .int .i64 L.v.n, .string L.v.s, .int .i64 L.e])) : Uz w W' sf va' (A ++ [L]) L :=
  ⟨h.o.grown hg (fun k e => by
      rcases Nat.lt_or_ge k (w.heap.size + 1 + 1 + 1) with hk | hk
      · exact absurd e (own_not h.r hk)
      · omega), h.a.grown hg (own_not h.r (by omega)), h.b.grown hg (own_not h.r (by omega)), h.c.grown hg (own_not h.r (by omega)), by
    rw [List.length_append, acells_snoc]
    exact hr⟩
theorem new_ans (w : World) (k n : Int) (s : ByteArray) (e : Int) : ∀ j u, [Value.int .u8 k, .int .i64 n, .string s, .int .i64 e][j]? = some u → (w.alloc (.cells #[.int .u8 k, .int .i64 n, .string s, .int .i64 e] 73)).cell? ((⟨w.heap.size, 0, none⟩ : Addr).add j) = some u := by
  intro j u hj
  have h := Bk.new w #[.int .u8 k, .int .i64 n, .string s, .int .i64 e] 73
  match j, hj with
  | 0, hj => exact (h.c 0).trans hj
  | 1, hj => exact (h.c 1).trans hj
  | 2, hj => exact (h.c 2).trans hj
  | 3, hj => exact (h.c 3).trans hj
theorem one_ans (k n : Int) (s : ByteArray) (e : Int) : ∀ u ∈ [Value.int .u8 k, .int .i64 n, .string s, .int .i64 e], u.oneCell' = true := by
  intro u hu
  simp only [List.mem_cons, List.not_mem_nil, or_false] at hu
  rcases hu with rfl | rfl | rfl | rfl <;> rfl
theorem val_any (w : World) {vt vv : Value} {T : List Na} (self : Vl) (vars : List Bd) (hT : Tz w vt T) (hv : BR w vv vars) (he : En w) (hl : T.length ≤ 100000) (hk : ∀ x ∈ T, x.ks.length ≤ 100000)
    (hG : ∀ k x j, T[k]? = some x → Gd (askA (runA T self vars k) x.ks j).v) : Calls Tryz.prog 11 #[vt, self.v, vv] w fun e w' => e = tl (valA T self vars) ∧ Old w w' := by
  obtain ⟨i73, hi, hz0, hz1, hz2⟩ := info_parts info73
  have HA := hid (fun W (h : Old w W) va k x (hx : T[k]? = some x) (hr : AR W va (runA T self vars k)) => show Calls Tryz.prog 20 #[nv vt k va, self.v, vv] W fun e W' => e = .returned (anv (lastA T self vars (k + 1))) ∧ Old W W' from by
    have hh := ans_any W (x := x) (A := runA T self vars k) ⟨hT.old h, hr, by rw [run_len]; exact hx, fun j => hG k x j hx, hk x (List.mem_of_getElem? hx), he.old h⟩ self vars (hv.old h)
    rw [run_len, ← last_step hx] at hh
    exact hh)
  have HT := hid hT
  obtain ⟨oa, cap, rfl, h1, h2, _⟩ := hT
  obtain ⟨n, hn⟩ : ∃ n, n = T.length := ⟨_, rfl⟩
  rw [← hn] at hl h1 HA ⊢
  have HN := hid hn
  unfold valA
  rw [← hn]
  clear hn hv he hk hG
  have HO := hid ((((Old.refl w).alloc (.cells #[.int .u8 self.k, .int .i64 self.n, .string self.s] 26)).alloc (.cells #[.int .u8 0, .int .i64 0, .string ⟨#[]⟩] 26)).alloc (.cells zA 73))
  have B1 := hid (((Bk.new w #[.int .u8 self.k, .int .i64 self.n, .string self.s] 26).alloc (.cells #[.int .u8 0, .int .i64 0, .string ⟨#[]⟩] 26)).alloc (.cells zA 73))
  have B2 := hid ((Bk.new (w.alloc (.cells #[.int .u8 self.k, .int .i64 self.n, .string self.s] 26)) #[.int .u8 0, .int .i64 0, .string ⟨#[]⟩] 26).alloc (.cells zA 73))
  have B3 := hid (Bk.new ((w.alloc (.cells #[.int .u8 self.k, .int .i64 self.n, .string self.s] 26)).alloc (.cells #[.int .u8 0, .int .i64 0, .string ⟨#[]⟩] 26)) zA 73)
  rw [sz_alloc] at B2
  rw [sz_alloc, sz_alloc] at B3
  have HZ : w.heap.size + 1 + 1 + 1 ≤ (((w.alloc (.cells #[.int .u8 self.k, .int .i64 self.n, .string self.s] 26)).alloc (.cells #[.int .u8 0, .int .i64 0, .string ⟨#[]⟩] 26)).alloc (.cells zA 73)).heap.size := by
    rw [sz_alloc, sz_alloc, sz_alloc]
    exact Nat.le_refl _
  go_enter Tryz.func11, Tryz.ntmps11
  go_wp2_with (at_make; refine wpList_make_own _ rfl _ _ 74 rfl (w.heap.size + 1 + 1 + 1) 73 i73 (.agg zA) 4 Tryz.underlying74 hi hz0 hz1 .i64 .i64 _ n rfl rfl rfl (by rw [hz2]; omega) (by unfold maxLen; omega) HZ ?_; intro w0 hown0 hgrow0)
  have HL := hid (show Uz w w0 self (.slice (some ⟨(((w.alloc (.cells #[.int .u8 self.k, .int .i64 self.n, .string self.s] 26)).alloc (.cells #[.int .u8 0, .int .i64 0, .string ⟨#[]⟩] 26)).alloc (.cells zA 73)).heap.size, 0, none⟩) 0 n) (runA T self vars 0) (lastA T self vars 0) from
    ⟨HO.out.grown hgrow0 (fun k e => by cases e), B1.out.grown hgrow0 (fun e => by cases e), B2.out.grown hgrow0 (fun e => by cases e), B3.out.grown hgrow0 (fun e => by cases e), hown0⟩)
  clear hown0 hgrow0 HO B1 B2 B3 HZ
  go_loopw [9, 16] (fun va i wr => ∃ k : Nat, k ≤ n ∧ i = .int .i64 (k : Int) ∧ Hid (Uz w wr self va (runA T self vars k) (lastA T self vars k))) (fun _ i _ => (n - intOf i).toNat)
  case atStart =>
    refine ⟨0, Nat.zero_le _, rfl, ?_⟩
    simpa using HL
  case round =>
    clear HL
    obtain ⟨k, hk, rfl, HL⟩ := hrel
    by_cases hkn : k < n
    · obtain ⟨x, hx⟩ : ∃ x, T[k]? = some x := ⟨_, List.getElem?_eq_getElem (by rw [← HN.out]; exact hkn)⟩
      have hc := HA.out wr HL.out.o _ k x hx (AR.own HL.out.r)
      have hr := HL.out.r
      rw [run_len] at hr
      obtain ⟨oa', ca', hva⟩ := own_shape hr
      subst hva
      have HLL := hid (HL.out.set (lastA T self vars (k + 1)))
      have HR2 := hid (run_step (self := self) (vars := vars) hx)
      generalize hM : lastA T self vars (k + 1) = M at *
      generalize hA0 : runA T self vars k = A0 at *
      have HA0 := hid (show A0.length = k from by rw [← hA0, run_len])
      generalize hA1 : runA T self vars (k + 1) = A1 at *
      generalize lastA T self vars k = L0 at *
      have s0 := HL.out.a.c 0; have s1 := HL.out.a.c 1; have s2 := HL.out.a.c 2
      have HM := hid hM
      have HA1 := hid hA1
      clear hx hr hA0 hM hA1
      have sc := HL.out.c.c 0; have sc1 := HL.out.c.c 1; have sc2 := HL.out.c.c 2; have sc3 := HL.out.c.c 3
      go_upto_region 7 with (first
        | (go_at_call 20; (with_reducible refine hc.mono ?_); rintro e w1 ⟨rfl, o1⟩; have L1 := hid (HL.out.old o1); have M1 := hid (L1.out.set M); clear s0 s1 s2 sc sc1 sc2 sc3; have c0 := L1.out.c.c 0; have c1 := L1.out.c.c 1; have c2 := L1.out.c.c 2; have c3 := L1.out.c.c 3; have f0 := L1.out.c.f 0; have f1 := L1.out.c.f 1; have f2 := L1.out.c.f 2; have f3 := L1.out.c.f 3))
      clear c0 c1 c2 c3 f0 f1 f2 f3
      generalize (((w1.setCell ⟨w.heap.size + 1 + 1, 0, none⟩ (.int .u8 M.v.k)).setCell ⟨w.heap.size + 1 + 1, 1, none⟩ (.int .i64 M.v.n)).setCell ⟨w.heap.size + 1 + 1, 2, none⟩ (.string M.v.s)).setCell ⟨w.heap.size + 1 + 1, 3, none⟩ (.int .i64 M.e) = W2 at *
      have c0 := M1.out.c.c 0; have c1 := M1.out.c.c 1; have c2 := M1.out.c.c 2; have c3 := M1.out.c.c 3
      have hr := M1.out.r
      rw [HA0.out] at hr
      have M2 := hid (M1.out.old ((Old.refl W2).alloc (.cells #[.int .u8 M.v.k, .int .i64 M.v.n, .string M.v.s, .int .i64 M.e] 73)))
      have hr2 := M2.out.r
      rw [HA0.out] at hr2
      have hsz : w.heap.size + 1 + 1 + 1 ≤ (W2.alloc (.cells #[.int .u8 M.v.k, .int .i64 M.v.n, .string M.v.s, .int .i64 M.e] 73)).heap.size := by
        rw [sz_alloc]
        have := M1.out.c.lt
        omega
      have hm1 : k + 1 ≤ maxLen := by unfold maxLen; omega
      have hm2 : (k + 1) * 40 ≤ 140737488355328 := by omega
      go_wp2_with (at_builtin; refine wpList_append_own _ rfl _ _ 74 rfl (w.heap.size + 1 + 1 + 1) 73 i73 (.agg zA) 4 40 Tryz.underlying74 hi hz0 hz1 hz2 rfl (by decide) _ k _ rfl hr2 ⟨W2.heap.size, 0, none⟩ 1 1 [.int .u8 M.v.k, .int .i64 M.v.n, .string M.v.s, .int .i64 M.e] rfl rfl (new_ans W2 M.v.k M.v.n M.v.s M.e) (one_ans _ _ _ _) hm1 hm2 hsz ?_; intro va' w3 hown hgr _)
      refine ⟨⟨k + 1, hkn, rfl, hid ?_⟩, by simp only [intOf]; omega⟩
      rw [HA1.out, HM.out, HR2.out]
      refine M2.out.grown hgr ?_
      rw [HA0.out]
      exact hown
    · obtain rfl : k = n := by omega
      generalize hLL : lastA T self vars k = L at *
      generalize runA T self vars k = A0 at *
      have HLQ := hid hLL
      clear HA hLL
      go_upto_region 9 with (fail)
      have b0 := HL.out.c.c 0; have b1 := HL.out.c.c 1; have b2 := HL.out.c.c 2; have b3 := HL.out.c.c 3
      have f0 := HL.out.b.f 0; have f1 := HL.out.b.f 1; have f2 := HL.out.b.f 2
      have c0 := HL.out.b.c 0; have c1 := HL.out.b.c 1; have c2 := HL.out.b.c 2
      have HKP := hid (show ∀ W', Old wr W' → (W'.cell? ⟨w.heap.size + 1 + 1, 0, none⟩ = some (.int .u8 L.v.k) ∧ W'.cell? ⟨w.heap.size + 1 + 1, 1, none⟩ = some (.int .i64 L.v.n) ∧ W'.cell? ⟨w.heap.size + 1 + 1, 2, none⟩ = some (.string L.v.s) ∧ W'.cell? ⟨w.heap.size + 1 + 1, 3, none⟩ = some (.int .i64 L.e)) from fun W' h => ⟨h.keeps b0, h.keeps b1, h.keeps b2, h.keeps b3⟩)
      have HK2 := hid (show ∀ W' u0 u1 u2, Old wr W' → ((((W'.setCell ⟨w.heap.size + 1, 0, none⟩ u0).setCell ⟨w.heap.size + 1, 1, none⟩ u1).setCell ⟨w.heap.size + 1, 2, none⟩ u2).cell? ⟨w.heap.size + 1 + 1, 0, none⟩ = some (.int .u8 L.v.k) ∧ (((W'.setCell ⟨w.heap.size + 1, 0, none⟩ u0).setCell ⟨w.heap.size + 1, 1, none⟩ u1).setCell ⟨w.heap.size + 1, 2, none⟩ u2).cell? ⟨w.heap.size + 1 + 1, 1, none⟩ = some (.int .i64 L.v.n) ∧ (((W'.setCell ⟨w.heap.size + 1, 0, none⟩ u0).setCell ⟨w.heap.size + 1, 1, none⟩ u1).setCell ⟨w.heap.size + 1, 2, none⟩ u2).cell? ⟨w.heap.size + 1 + 1, 2, none⟩ = some (.string L.v.s) ∧ (((W'.setCell ⟨w.heap.size + 1, 0, none⟩ u0).setCell ⟨w.heap.size + 1, 1, none⟩ u1).setCell ⟨w.heap.size + 1, 2, none⟩ u2).cell? ⟨w.heap.size + 1 + 1, 3, none⟩ = some (.int .i64 L.e)) from fun W' u0 u1 u2 h => by
        obtain ⟨k0, k1, k2, k3⟩ := HKP.out W' h
        exact ⟨far3 k0 (by omega) _ _ _, far3 k1 (by omega) _ _ _, far3 k2 (by omega) _ _ _, far3 k3 (by omega) _ _ _⟩)
      have hO1 := (Old.refl wr).drew
      go_region_held3 (fun w' => w'.cell? ⟨w.heap.size + 1 + 1, 0, none⟩ = some (.int .u8 L.v.k) ∧ w'.cell? ⟨w.heap.size + 1 + 1, 1, none⟩ = some (.int .i64 L.v.n) ∧ w'.cell? ⟨w.heap.size + 1 + 1, 2, none⟩ = some (.string L.v.s) ∧ w'.cell? ⟨w.heap.size + 1 + 1, 3, none⟩ = some (.int .i64 L.e))
        (first | exact HKP.out _ (by assumption) | exact HK2.out wr _ _ _ (Old.refl wr) | exact HK2.out _ _ _ _ (by assumption))
        (fail)
      all_goals
        go_wp2
        have R : Three ((((wr.setCell ⟨w.heap.size + 1, 0, none⟩ (.int .u8 L.v.k)).setCell ⟨w.heap.size + 1, 1, none⟩ (.int .i64 L.v.n)).setCell ⟨w.heap.size + 1, 2, none⟩ (.string L.v.s)).drew) (w.heap.size + 1) (.int .u8 L.v.k) (.int .i64 L.v.n) (.string L.v.s) := Three.set (x := .int .u8 0) (y := .int .i64 0) (z := .string ⟨#[]⟩) (show Three wr (w.heap.size + 1) _ _ _ from HL.out.b) _ _ _
        exact bodyPost_ret (v := .tuple #[L.v.v, .int .i64 L.e]) (by simp [results, Tryz.results11, go_sem, R.c0, R.c1, R.c2]) rfl ⟨by rw [HLQ.out], (old3 HL.out.o (by omega) _ _ _).drew⟩
end Go.Proofs.YtmkmafkkpigfpaaGreatDoor.V
