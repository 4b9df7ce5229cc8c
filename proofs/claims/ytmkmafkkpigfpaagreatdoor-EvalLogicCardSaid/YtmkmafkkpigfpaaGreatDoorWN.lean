/- Layer eval: function values that reckon: of what compares. function values that reckon: whether two are equal. expressions asked from the left. expressions asked from the left: the walk. -/
import Derived.Test.YtmkmafkkpigfpaaGreatDoorWJ
set_option maxHeartbeats 1600000
namespace Go.Proofs.YtmkmafkkpigfpaaGreatDoor.V
open Go.ChangeShapes Go.WideShapes Go.ChangeAt Go.RowKit Go.Lib
set_option linter.unusedVariables false
set_option linter.unusedSimpArgs false
set_option maxRecDepth 100000
theorem ord_rk (cf : Nat) (hen : ∀ args W, (callFunc cf args).run Tryz.prog W = .ok (.enter cf args) W) (p : Int → Bool) (g : Nat) (w : World) (hp : Pc cf #[] p w) (hg : w.cell? ⟨g, 0, none⟩ = some (.func (.func cf) #[] #[])) :
    Rk 111 #[.pointer (some ⟨g, 0, none⟩)] 2 (ordR p) w := by
  intro W hW l v hl hd hv
  obtain ⟨a, b, rfl⟩ : ∃ a b, l = [a, b] := by
    match l, hl with
    | [a, b], _ => exact ⟨a, b, rfl⟩
  have hA := hd a (by simp)
  have hB := hd b (by simp)
  have HO := hid ((Old.refl W).alloc (.cells #[.int .u8 0, .int .i64 0, .string ⟨#[]⟩] 26))
  have HT := hid (Three.new W (.int .u8 0) (.int .i64 0) (.string ⟨#[]⟩))
  have HV := hid hv
  obtain ⟨oa, c, rfl, a1, a2, a3⟩ := hv
  obtain ⟨ga, rfl, l1, z0, z1, z2⟩ := a3 0 a rfl
  obtain ⟨gb, e2, l2, t0, t1, t2⟩ := a3 1 b rfl
  injection e2 with e2
  injection e2 with e2
  subst e2
  have x0 := HO.out.keeps z0
  have x1 := HO.out.keeps z1
  have x2 := HO.out.keeps z2
  have y0 := HO.out.keeps t0
  have y1 := HO.out.keeps t1
  have y2 := HO.out.keeps t2
  have G2 := hid (show ¬ ga = W.heap.size from Nat.ne_of_lt l1)
  simp only [Nat.zero_mul, Nat.one_mul, Nat.zero_add] at x0 x1 x2 y0 y1 y2
  obtain ⟨ak, aN, aS⟩ := a
  obtain ⟨bk, bN, bS⟩ := b
  simp only at x0 x1 x2 y0 y1 y2
  have hc2 : (2 : Nat) ≤ c := a1
  have hgl := lt_of_cell hg
  have hgW := Nat.lt_of_lt_of_le hgl hW.size
  have G1 := hid (show ¬ g = W.heap.size from Nat.ne_of_lt hgW)
  have hq := HO.out.keeps (hW.keeps hg)
  have HC := hid (fun W' (h : Old W W') => compared_any cf #[] p hen ak aN aS bk bN bS W' ((hp.old hW).old h) hA.n hB.n)
  have HG0 := hid (fun (W' : World) (h : Old W W') => show Calls Tryz.prog 104 #[.func (.func 112) #[] #[], .slice (some ⟨ga, 0, none⟩) 2 c] W' fun e W'' => e = .returned (.bool ([(⟨ak, aN, aS⟩ : Vl), ⟨bk, bN, bS⟩].all numB)) ∧ Old W' W'' from
    allp_any 112 #[] numB (fun _ _ => rfl) _ _ W' (HV.out.old h) (by simp) (num_pr W'))
  have HG1 := hid (fun (W' : World) (h : Old W W') (g : Nat) (k1 : W'.cell? ⟨g, 0, none⟩ = some (.int .u8 3)) (k2 : g < W'.heap.size) => show Calls Tryz.prog 104 #[.func (.func 143) #[] #[.pointer (some ⟨g, 0, none⟩)], .slice (some ⟨ga, 0, none⟩) 2 c] W' fun e W'' => e = .returned (.bool ([(⟨ak, aN, aS⟩ : Vl), ⟨bk, bN, bS⟩].all (goesB 3))) ∧ Old W' W'' from
    allp_any 143 #[.pointer (some ⟨g, 0, none⟩)] (goesB 3) (fun _ _ => rfl) _ _ W' (HV.out.old h) (by simp) (goesFor_pr 3 g W' k1 k2))
  show Calls Tryz.prog 111 #[.slice (some ⟨ga, 0, none⟩) 2 c, .pointer (some ⟨g, 0, none⟩)] W fun e W' => e = tl (if [(⟨ak, aN, aS⟩ : Vl), ⟨bk, bN, bS⟩].all numB = false ∧ [(⟨ak, aN, aS⟩ : Vl), ⟨bk, bN, bS⟩].all (goesB 3) = false then anE 8 else cmpA p ⟨ak, aN, aS⟩ ⟨bk, bN, bS⟩) ∧ Old W W'
  generalize [(⟨ak, aN, aS⟩ : Vl), ⟨bk, bN, bS⟩].all numB = B1 at *
  generalize [(⟨ak, aN, aS⟩ : Vl), ⟨bk, bN, bS⟩].all (goesB 3) = B2 at *
  generalize cmpA p ⟨ak, aN, aS⟩ ⟨bk, bN, bS⟩ = A at *
  have HKW := hid (show ∀ W', Old (W.alloc (.cells #[.int .u8 0, .int .i64 0, .string ⟨#[]⟩] 26)) W' → (W'.cell? ⟨g, 0, none⟩ = some (.func (.func cf) #[] #[]) ∧ W'.cell? ⟨ga, 0, none⟩ = some (.int .u8 ak) ∧ W'.cell? ⟨ga, 1, none⟩ = some (.int .i64 aN) ∧ W'.cell? ⟨ga, 2, none⟩ = some (.string aS) ∧ W'.cell? ⟨ga, 3, none⟩ = some (.int .u8 bk) ∧ W'.cell? ⟨ga, 3 + 1, none⟩ = some (.int .i64 bN) ∧ W'.cell? ⟨ga, 3 + 2, none⟩ = some (.string bS)) from fun W' h => ⟨h.keeps hq, h.keeps x0, h.keeps x1, h.keeps x2, h.keeps y0, h.keeps y1, h.keeps y2⟩)
  clear a3 hp hg hl a1 hgW l1 l2 z0 z1 z2 t0 t1 t2 hW hgl hd hA hB HV
  have main : (B1 = false ∧ B2 = false) ∨ (B1 = true ∨ (B1 = false ∧ B2 = true)) := by cases B1 <;> cases B2 <;> simp
  rcases main with ⟨rfl, rfl⟩ | hh
  · rw [if_pos ⟨rfl, rfl⟩]
    go_enter Tryz.func111, Tryz.ntmps111
    go_wp2_with (first
      | (go_at_call 104; (with_reducible refine (HG0.out _ HO.out).mono ?_); rintro e w1 ⟨rfl, o1⟩; have O1 := hid (HO.out.trans o1); have T1 := hid (HT.out.old o1); clear o1)
      | (go_at_call 105; (with_reducible refine (goesFor_k _ _).mono ?_); rintro e w2 ⟨rfl, kc, kl, o2⟩; have O2 := hid (O1.out.trans o2); have T2 := hid (T1.out.old o2); clear o2)
      | (go_at_call 104; (with_reducible refine (HG1.out _ O2.out _ kc kl).mono ?_); rintro e w3 ⟨rfl, o3⟩; have O3 := hid (O2.out.trans o3); have T3 := hid (T2.out.old o3); clear o3; have c0 := T3.out.c0; have c1 := T3.out.c1; have c2 := T3.out.c2; have f0 := T3.out.f 0; have f1 := T3.out.f 1; have f2 := T3.out.f 2))
    have Rr := T3.out.set (.int .u8 0) (.int .i64 0) (.string ⟨#[]⟩)
    exact bodyPost_ret (v := .tuple #[vl 0 0 ⟨#[]⟩, .int .i64 8]) (by simp [results, Tryz.results111, go_sem, Rr.c0, Rr.c1, Rr.c2]) rfl ⟨rfl, old3 O3.out (Nat.le_refl _) _ _ _⟩
  · rw [if_neg (by rcases hh with rfl | ⟨rfl, rfl⟩ <;> simp)]
    have key : Calls Tryz.prog 111 #[.slice (some ⟨ga, 0, none⟩) 2 c, .pointer (some ⟨g, 0, none⟩)] W fun e W' => e = tl A ∧ Old W W' := by
      rcases hh with rfl | ⟨rfl, rfl⟩
      all_goals
        go_enter Tryz.func111, Tryz.ntmps111
        go_wp2_with (first
          | (go_at_call 104; (with_reducible refine (HG0.out _ HO.out).mono ?_); rintro e w1 ⟨rfl, o1⟩; have O1 := hid (HO.out.trans o1); have T1 := hid (HT.out.old o1); have OX := hid o1; clear o1)
          | (go_at_call 105; (with_reducible refine (goesFor_k _ _).mono ?_); rintro e w2 ⟨rfl, kc, kl, o2⟩; replace O1 := hid (O1.out.trans o2); replace T1 := hid (T1.out.old o2); replace OX := hid (OX.out.trans o2); clear o2)
          | (go_at_call 104; (with_reducible refine (HG1.out _ O1.out _ kc kl).mono ?_); rintro e w3 ⟨rfl, o3⟩; replace O1 := hid (O1.out.trans o3); replace T1 := hid (T1.out.old o3); replace OX := hid (OX.out.trans o3); clear o3 kc kl))
        obtain ⟨W1, hW1⟩ : ∃ W1 : World, Old W1 W1 := ⟨W, Old.refl W⟩
        have hO1 := OX.out.drew
        obtain ⟨hq', x0', x1', x2', y0', y1', y2'⟩ := HKW.out _ OX.out
        have HK2 := hid (show ∀ W' u0 u1 u2, Old (W.alloc (.cells #[.int .u8 0, .int .i64 0, .string ⟨#[]⟩] 26)) W' → ((((W'.setCell ⟨W.heap.size, 0, none⟩ u0).setCell ⟨W.heap.size, 1, none⟩ u1).setCell ⟨W.heap.size, 2, none⟩ u2).cell? ⟨g, 0, none⟩ = some (.func (.func cf) #[] #[]) ∧ (((W'.setCell ⟨W.heap.size, 0, none⟩ u0).setCell ⟨W.heap.size, 1, none⟩ u1).setCell ⟨W.heap.size, 2, none⟩ u2).cell? ⟨ga, 0, none⟩ = some (.int .u8 ak) ∧ (((W'.setCell ⟨W.heap.size, 0, none⟩ u0).setCell ⟨W.heap.size, 1, none⟩ u1).setCell ⟨W.heap.size, 2, none⟩ u2).cell? ⟨ga, 1, none⟩ = some (.int .i64 aN) ∧ (((W'.setCell ⟨W.heap.size, 0, none⟩ u0).setCell ⟨W.heap.size, 1, none⟩ u1).setCell ⟨W.heap.size, 2, none⟩ u2).cell? ⟨ga, 2, none⟩ = some (.string aS) ∧ (((W'.setCell ⟨W.heap.size, 0, none⟩ u0).setCell ⟨W.heap.size, 1, none⟩ u1).setCell ⟨W.heap.size, 2, none⟩ u2).cell? ⟨ga, 3, none⟩ = some (.int .u8 bk) ∧ (((W'.setCell ⟨W.heap.size, 0, none⟩ u0).setCell ⟨W.heap.size, 1, none⟩ u1).setCell ⟨W.heap.size, 2, none⟩ u2).cell? ⟨ga, 3 + 1, none⟩ = some (.int .i64 bN) ∧ (((W'.setCell ⟨W.heap.size, 0, none⟩ u0).setCell ⟨W.heap.size, 1, none⟩ u1).setCell ⟨W.heap.size, 2, none⟩ u2).cell? ⟨ga, 3 + 2, none⟩ = some (.string bS)) from fun W' u0 u1 u2 h => by
          obtain ⟨k0, k1, k2, k3, k4, k5, k6⟩ := HKW.out W' h
          exact ⟨far3 k0 G1.out _ _ _, far3 k1 G2.out _ _ _, far3 k2 G2.out _ _ _, far3 k3 G2.out _ _ _, far3 k4 G2.out _ _ _, far3 k5 G2.out _ _ _, far3 k6 G2.out _ _ _⟩)
        go_region_held3 (fun w' => w'.cell? ⟨g, 0, none⟩ = some (.func (.func cf) #[] #[]) ∧ w'.cell? ⟨ga, 0, none⟩ = some (.int .u8 ak) ∧ w'.cell? ⟨ga, 1, none⟩ = some (.int .i64 aN) ∧ w'.cell? ⟨ga, 2, none⟩ = some (.string aS) ∧ w'.cell? ⟨ga, 3, none⟩ = some (.int .u8 bk) ∧ w'.cell? ⟨ga, 3 + 1, none⟩ = some (.int .i64 bN) ∧ w'.cell? ⟨ga, 3 + 2, none⟩ = some (.string bS))
          (first | exact HKW.out _ (by assumption) | exact HK2.out _ _ _ _ (by assumption))
          (first
            | (go_at_call 109; (with_reducible refine (HC.out _ O1.out.drew).mono ?_); rintro e w5 ⟨rfl, o5⟩; have O5 := hid (O1.out.drew.trans o5); have T5 := hid (T1.out.drew.old o5); have hO5 := hO1.trans o5; clear o5; have c0 := T5.out.c0; have c1 := T5.out.c1; have c2 := T5.out.c2; have f0 := T5.out.f 0; have f1 := T5.out.f 1; have f2 := T5.out.f 2))
        all_goals
          go_wp2
          have Rr := T5.out.set (.int .u8 A.v.k) (.int .i64 A.v.n) (.string A.v.s)
          exact bodyPost_ret (v := .tuple #[A.v.v, .int .i64 A.e]) (by simp [results, Tryz.results111, go_sem, Rr.c0, Rr.c1, Rr.c2]) rfl ⟨rfl, old3 O5.out (Nat.le_refl _) _ _ _⟩
    exact key
theorem eq_rk {vt va : Value} {T : List Na} {i : Nat} {x : Na} (g h : Nat) (wanted : Bool) (w : World) (hT : Tz w vt T) (hx : T[i]? = some x) (hg : w.cell? ⟨g, 0, none⟩ = some vt ∧ w.cell? ⟨g, 1, none⟩ = some (.int .i64 (i : Int)) ∧ w.cell? ⟨g, 2, none⟩ = some va) (hh : w.cell? ⟨h, 0, none⟩ = some (.bool wanted)) :
    Rk 107 #[.pointer (some ⟨g, 0, none⟩), .pointer (some ⟨h, 0, none⟩)] 2 (eqR (nullA T i x.ks 0 || nullA T i x.ks 1) wanted) w := by
  intro W hW l v hl hd hv
  obtain ⟨a, b, rfl⟩ : ∃ a b, l = [a, b] := by
    match l, hl with
    | [a, b], _ => exact ⟨a, b, rfl⟩
  have hA := hd a (by simp)
  have hB := hd b (by simp)
  have HO := hid ((Old.refl W).alloc (.cells #[.int .u8 0, .int .i64 0, .string ⟨#[]⟩] 26))
  have HT := hid (Three.new W (.int .u8 0) (.int .i64 0) (.string ⟨#[]⟩))
  have HV := hid hv
  obtain ⟨oa, c, rfl, a1, a2, a3⟩ := hv
  obtain ⟨ga, rfl, l1, z0, z1, z2⟩ := a3 0 a rfl
  obtain ⟨gb, e2, l2, t0, t1, t2⟩ := a3 1 b rfl
  injection e2 with e2
  injection e2 with e2
  subst e2
  have x0 := HO.out.keeps z0
  have x1 := HO.out.keeps z1
  have x2 := HO.out.keeps z2
  have y0 := HO.out.keeps t0
  have y1 := HO.out.keeps t1
  have y2 := HO.out.keeps t2
  have G2 := hid (show ¬ ga = W.heap.size from Nat.ne_of_lt l1)
  simp only [Nat.zero_mul, Nat.one_mul, Nat.zero_add] at x0 x1 x2 y0 y1 y2
  obtain ⟨ak, aN, aS⟩ := a
  obtain ⟨bk, bN, bS⟩ := b
  simp only at x0 x1 x2 y0 y1 y2
  have hc2 : (2 : Nat) ≤ c := a1
  obtain ⟨hg0, hg1, hg2⟩ := hg
  have hgl := lt_of_cell hh
  have hgW := Nat.lt_of_lt_of_le hgl hW.size
  have G1 := hid (show ¬ h = W.heap.size from Nat.ne_of_lt hgW)
  have q0 := HO.out.keeps (hW.keeps hg0)
  have q1 := HO.out.keeps (hW.keeps hg1)
  have q2 := HO.out.keeps (hW.keeps hg2)
  have hq := HO.out.keeps (hW.keeps hh)
  have HN0 := hid (fun W' (k : Old W W') => show Calls Tryz.prog 108 #[nv vt i va, .int .i64 0] W' fun e W'' => e = .returned (.bool (nullA T i x.ks 0)) ∧ Old W' W'' from null_any W' (va := va) (hT.old (hW.trans k)) hx 0)
  have HN1 := hid (fun W' (k : Old W W') => show Calls Tryz.prog 108 #[nv vt i va, .int .i64 1] W' fun e W'' => e = .returned (.bool (nullA T i x.ks 1)) ∧ Old W' W'' from null_any W' (va := va) (hT.old (hW.trans k)) hx 1)
  have HC := hid (fun W' (k : Old W W') => compared_any 110 #[.pointer (some ⟨h, 0, none⟩)] (fun c => (c == 0) == wanted) (fun _ _ => rfl) ak aN aS bk bN bS W' ((pc_eq wanted h w hh hgl).old (hW.trans k)) hA.n hB.n)
  have HTR := hid (fun W' => truth_any ((ak == bk) == wanted) W')
  show Calls Tryz.prog 107 #[.slice (some ⟨ga, 0, none⟩) 2 c, .pointer (some ⟨g, 0, none⟩), .pointer (some ⟨h, 0, none⟩)] W fun e W' => e = tl (if (nullA T i x.ks 0 || nullA T i x.ks 1) = true then anT ((ak == bk) == wanted) else cmpA (fun c => (c == 0) == wanted) ⟨ak, aN, aS⟩ ⟨bk, bN, bS⟩) ∧ Old W W'
  generalize nullA T i x.ks 0 = B1 at *
  generalize nullA T i x.ks 1 = B2 at *
  generalize cmpA (fun c => (c == 0) == wanted) ⟨ak, aN, aS⟩ ⟨bk, bN, bS⟩ = A at *
  have HKW := hid (show ∀ W', Old (W.alloc (.cells #[.int .u8 0, .int .i64 0, .string ⟨#[]⟩] 26)) W' → (W'.cell? ⟨h, 0, none⟩ = some (.bool wanted) ∧ W'.cell? ⟨ga, 0, none⟩ = some (.int .u8 ak) ∧ W'.cell? ⟨ga, 1, none⟩ = some (.int .i64 aN) ∧ W'.cell? ⟨ga, 2, none⟩ = some (.string aS) ∧ W'.cell? ⟨ga, 3, none⟩ = some (.int .u8 bk) ∧ W'.cell? ⟨ga, 3 + 1, none⟩ = some (.int .i64 bN) ∧ W'.cell? ⟨ga, 3 + 2, none⟩ = some (.string bS)) from fun W' h => ⟨h.keeps hq, h.keeps x0, h.keeps x1, h.keeps x2, h.keeps y0, h.keeps y1, h.keeps y2⟩)
  have HKN := hid (show ∀ W', Old (W.alloc (.cells #[.int .u8 0, .int .i64 0, .string ⟨#[]⟩] 26)) W' → (W'.cell? ⟨g, 0, none⟩ = some vt ∧ W'.cell? ⟨g, 1, none⟩ = some (.int .i64 (i : Int)) ∧ W'.cell? ⟨g, 2, none⟩ = some va) from fun W' h => ⟨h.keeps q0, h.keeps q1, h.keeps q2⟩)
  have HK2 := hid (show ∀ W' u0 u1 u2, Old (W.alloc (.cells #[.int .u8 0, .int .i64 0, .string ⟨#[]⟩] 26)) W' → ((((W'.setCell ⟨W.heap.size, 0, none⟩ u0).setCell ⟨W.heap.size, 1, none⟩ u1).setCell ⟨W.heap.size, 2, none⟩ u2).cell? ⟨h, 0, none⟩ = some (.bool wanted) ∧ (((W'.setCell ⟨W.heap.size, 0, none⟩ u0).setCell ⟨W.heap.size, 1, none⟩ u1).setCell ⟨W.heap.size, 2, none⟩ u2).cell? ⟨ga, 0, none⟩ = some (.int .u8 ak) ∧ (((W'.setCell ⟨W.heap.size, 0, none⟩ u0).setCell ⟨W.heap.size, 1, none⟩ u1).setCell ⟨W.heap.size, 2, none⟩ u2).cell? ⟨ga, 1, none⟩ = some (.int .i64 aN) ∧ (((W'.setCell ⟨W.heap.size, 0, none⟩ u0).setCell ⟨W.heap.size, 1, none⟩ u1).setCell ⟨W.heap.size, 2, none⟩ u2).cell? ⟨ga, 2, none⟩ = some (.string aS) ∧ (((W'.setCell ⟨W.heap.size, 0, none⟩ u0).setCell ⟨W.heap.size, 1, none⟩ u1).setCell ⟨W.heap.size, 2, none⟩ u2).cell? ⟨ga, 3, none⟩ = some (.int .u8 bk) ∧ (((W'.setCell ⟨W.heap.size, 0, none⟩ u0).setCell ⟨W.heap.size, 1, none⟩ u1).setCell ⟨W.heap.size, 2, none⟩ u2).cell? ⟨ga, 3 + 1, none⟩ = some (.int .i64 bN) ∧ (((W'.setCell ⟨W.heap.size, 0, none⟩ u0).setCell ⟨W.heap.size, 1, none⟩ u1).setCell ⟨W.heap.size, 2, none⟩ u2).cell? ⟨ga, 3 + 2, none⟩ = some (.string bS)) from fun W' u0 u1 u2 h => by
    obtain ⟨k0, k1, k2, k3, k4, k5, k6⟩ := HKW.out W' h
    exact ⟨far3 k0 G1.out _ _ _, far3 k1 G2.out _ _ _, far3 k2 G2.out _ _ _, far3 k3 G2.out _ _ _, far3 k4 G2.out _ _ _, far3 k5 G2.out _ _ _, far3 k6 G2.out _ _ _⟩)
  clear a3 hg0 hg1 hg2 hh hl a1 hgW l1 l2 z0 z1 z2 t0 t1 t2 hW hgl hd hA hB HV hT hx
  by_cases hn : (B1 || B2) = true
  · rw [if_pos hn]
    have hh : B1 = true ∨ (B1 = false ∧ B2 = true) := by cases B1 <;> simp_all
    rcases hh with rfl | ⟨rfl, rfl⟩
    all_goals
      clear hn
      go_enter Tryz.func107, Tryz.ntmps107
      go_wp2_with (first
        | (go_at_call 108; (with_reducible refine (HN0.out _ HO.out).mono ?_); rintro e w1 ⟨rfl, o1⟩; have O1 := hid (HO.out.trans o1); have T1 := hid (HT.out.old o1); have OX := hid o1; obtain ⟨q0, q1, q2⟩ := HKN.out _ o1; clear o1)
        | (go_at_call 108; (with_reducible refine (HN1.out _ O1.out).mono ?_); rintro e w2 ⟨rfl, o2⟩; replace O1 := hid (O1.out.trans o2); replace T1 := hid (T1.out.old o2); replace OX := hid (OX.out.trans o2); clear o2))
      have hO1 := OX.out.drew
      go_region_held3 (fun w' => w'.cell? ⟨h, 0, none⟩ = some (.bool wanted) ∧ w'.cell? ⟨ga, 0, none⟩ = some (.int .u8 ak) ∧ w'.cell? ⟨ga, 1, none⟩ = some (.int .i64 aN) ∧ w'.cell? ⟨ga, 2, none⟩ = some (.string aS) ∧ w'.cell? ⟨ga, 3, none⟩ = some (.int .u8 bk) ∧ w'.cell? ⟨ga, 3 + 1, none⟩ = some (.int .i64 bN) ∧ w'.cell? ⟨ga, 3 + 2, none⟩ = some (.string bS))
        (first | exact HKW.out _ (by assumption) | exact HK2.out _ _ _ _ (by assumption))
        (first
          | (go_at_call 62; (with_reducible refine (HTR.out _).mono ?_); rintro e w5 ⟨rfl, o5⟩; have O5 := hid (O1.out.drew.trans o5); have T5 := hid (T1.out.drew.old o5); have hO5 := hO1.trans o5; clear o5; have c0 := T5.out.c0; have c1 := T5.out.c1; have c2 := T5.out.c2; have f0 := T5.out.f 0; have f1 := T5.out.f 1; have f2 := T5.out.f 2))
      all_goals
        go_wp2
        have Rr := T5.out.set (.int .u8 4) (.int .i64 (b01 ((ak == bk) == wanted))) (.string ⟨#[]⟩)
        exact bodyPost_ret (v := .tuple #[vl 4 (b01 ((ak == bk) == wanted)) ⟨#[]⟩, .int .i64 0]) (by simp [results, Tryz.results107, go_sem, Rr.c0, Rr.c1, Rr.c2]) rfl ⟨rfl, old3 O5.out (Nat.le_refl _) _ _ _⟩
  · rw [if_neg hn]
    have hh : B1 = false ∧ B2 = false := by cases B1 <;> cases B2 <;> simp_all
    obtain ⟨rfl, rfl⟩ := hh
    clear hn
    go_enter Tryz.func107, Tryz.ntmps107
    go_wp2_with (first
      | (go_at_call 108; (with_reducible refine (HN0.out _ HO.out).mono ?_); rintro e w1 ⟨rfl, o1⟩; have O1 := hid (HO.out.trans o1); have T1 := hid (HT.out.old o1); have OX := hid o1; obtain ⟨q0, q1, q2⟩ := HKN.out _ o1; clear o1)
      | (go_at_call 108; (with_reducible refine (HN1.out _ O1.out).mono ?_); rintro e w2 ⟨rfl, o2⟩; replace O1 := hid (O1.out.trans o2); replace T1 := hid (T1.out.old o2); replace OX := hid (OX.out.trans o2); clear o2))
    have hO1 := OX.out.drew
    go_region_held3 (fun w' => w'.cell? ⟨h, 0, none⟩ = some (.bool wanted) ∧ w'.cell? ⟨ga, 0, none⟩ = some (.int .u8 ak) ∧ w'.cell? ⟨ga, 1, none⟩ = some (.int .i64 aN) ∧ w'.cell? ⟨ga, 2, none⟩ = some (.string aS) ∧ w'.cell? ⟨ga, 3, none⟩ = some (.int .u8 bk) ∧ w'.cell? ⟨ga, 3 + 1, none⟩ = some (.int .i64 bN) ∧ w'.cell? ⟨ga, 3 + 2, none⟩ = some (.string bS))
      (first | exact HKW.out _ (by assumption) | exact HK2.out _ _ _ _ (by assumption))
      (first
        | (go_at_call 109; (with_reducible refine (HC.out _ O1.out.drew).mono ?_); rintro e w5 ⟨rfl, o5⟩; have O5 := hid (O1.out.drew.trans o5); have T5 := hid (T1.out.drew.old o5); have hO5 := hO1.trans o5; clear o5; have c0 := T5.out.c0; have c1 := T5.out.c1; have c2 := T5.out.c2; have f0 := T5.out.f 0; have f1 := T5.out.f 1; have f2 := T5.out.f 2))
    all_goals
      go_wp2
      have Rr := T5.out.set (.int .u8 A.v.k) (.int .i64 A.v.n) (.string A.v.s)
      exact bodyPost_ret (v := .tuple #[A.v.v, .int .i64 A.e]) (by simp [results, Tryz.results107, go_sem, Rr.c0, Rr.c1, Rr.c2]) rfl ⟨rfl, old3 O5.out (Nat.le_refl _) _ _ _⟩
abbrev zc : Array Value := #[.int .u8 0, .int .i64 0, .string ⟨#[]⟩]
abbrev zV : Vl := ⟨0, 0, ⟨#[]⟩⟩
theorem made_at (n i r : Nat) (hi : i < n) (hr : r < 3) : (madeCells zc (n * 3))[i * 3 + r]? = some (zc[r]!) := by
  have h : i * 3 + r < n * 3 := by omega
  unfold madeCells
  rw [Array.getElem?_map, Array.getElem?_range, if_pos h]
  have e : (i * 3 + r) % zc.size = r := by
    show (i * 3 + r) % 3 = r
    omega
  simp only [Option.map_some, e]
theorem info26 : (Tryz.prog.info? 26).map (fun i => (i.zero, i.size, i.bytes)) = some (some (.agg zc), 3, 32) := by kernel_rfl
theorem mk_vals (n : Nat) (hn : n ≤ 1000000) (W : World) : (Instr.makeSlice 27 (.int .i64 (n : Int)) (.int .i64 (n : Int))).run Tryz.prog W = .ok (.slice (some ⟨W.heap.size, 0, none⟩) n n) (W.alloc (.cells (madeCells zc (n * 3)) 26)) := by
  obtain ⟨i, hi, hz, hs, hb⟩ := info_parts info26
  have h := run_make (P := Tryz.prog) W 27 26 i (.agg zc) Tryz.underlying27 hi hz .i64 .i64 (n : Int) (n : Int) (by omega) (Int.le_refl _) (by rw [hb]; omega) (by omega)
  rw [h, hs, Int.toNat_natCast]
  rfl
def Rf (w : World) (b n : Nat) (f : Nat → Vl) : Prop := ∃ cs, Bk w b cs 26 ∧ ∀ j, j < n → cs[j * 3]? = some (.int .u8 (f j).k) ∧ cs[j * 3 + 1]? = some (.int .i64 (f j).n) ∧ cs[j * 3 + 2]? = some (.string (f j).s)
theorem Rf.new (w : World) (n : Nat) : Rf (w.alloc (.cells (madeCells zc (n * 3)) 26)) w.heap.size n fun _ => zV :=
  ⟨_, Bk.new w _ _, fun j hj => ⟨made_at n j 0 hj (by omega), made_at n j 1 hj (by omega), made_at n j 2 hj (by omega)⟩⟩
theorem Rf.old {w w' : World} {b n : Nat} {f : Nat → Vl} (h : Rf w b n f) (ho : Old w w') : Rf w' b n f := by
  obtain ⟨cs, h1, h2⟩ := h
  exact ⟨cs, h1.old ho, h2⟩
theorem Rf.lt {w : World} {b n : Nat} {f : Nat → Vl} (h : Rf w b n f) : b < w.heap.size := by
  obtain ⟨cs, h1, h2⟩ := h
  exact h1.lt
theorem Rf.at {w : World} {b n : Nat} {f : Nat → Vl} (h : Rf w b n f) {j : Nat} (hj : j < n) : w.cell? ⟨b, j * 3, none⟩ = some (.int .u8 (f j).k) ∧ w.cell? ⟨b, j * 3 + 1, none⟩ = some (.int .i64 (f j).n) ∧ w.cell? ⟨b, j * 3 + 2, none⟩ = some (.string (f j).s) := by
  obtain ⟨cs, h1, h2⟩ := h
  obtain ⟨a, b, c⟩ := h2 j hj
  exact ⟨(h1.c _).trans a, (h1.c _).trans b, (h1.c _).trans c⟩
theorem Rf.f {w : World} {b n : Nat} {f : Nat → Vl} (h : Rf w b n f) (k : Nat) : w.frozen? ⟨b, k, none⟩ = false := by
  obtain ⟨cs, h1, h2⟩ := h
  exact h1.f k
theorem Rf.rv {w : World} {b n : Nat} {f : Nat → Vl} (h : Rf w b n f) (hn : n ≤ 1000000) : RV w (.slice (some ⟨b, 0, none⟩) n n) ((List.range n).map f) := by
  refine ⟨some ⟨b, 0, none⟩, n, by rw [List.length_map, List.length_range], by rw [List.length_map, List.length_range]; exact Nat.le_refl _, by unfold maxLen; omega, fun j x hj => ?_⟩
  rw [List.getElem?_map] at hj
  by_cases hjn : j < n
  · rw [List.getElem?_range hjn] at hj
    injection hj with hj
    subst hj
    obtain ⟨a, b', c⟩ := h.at hjn
    exact ⟨b, rfl, h.lt, a, b', c⟩
  · rw [List.getElem?_eq_none (by simpa using hjn)] at hj
    cases hj
theorem Rf.set {w : World} {b n : Nat} {f : Nat → Vl} (h : Rf w b n f) {k : Nat} (hk : k < n) (x : Vl) : Rf (((w.setCell ⟨b, k * 3, none⟩ (.int .u8 x.k)).setCell ⟨b, k * 3 + 1, none⟩ (.int .i64 x.n)).setCell ⟨b, k * 3 + 2, none⟩ (.string x.s)) b n fun j => if j = k then x else f j := by
  obtain ⟨cs, h1, h2⟩ := h
  have hz : k * 3 + 2 < cs.size := by
    rcases Nat.lt_or_ge (k * 3 + 2) cs.size with h | h
    · exact h
    · have := (h2 k hk).2.2
      rw [Array.getElem?_eq_none h] at this
      cases this
  refine ⟨_, ((h1.set _ _).set _ _).set _ _, fun j hj => ?_⟩
  by_cases e : j = k
  · subst e
    simp only [if_pos rfl]
    refine ⟨?_, ?_, ?_⟩
    · rw [Array.getElem?_setIfInBounds_ne (by omega), Array.getElem?_setIfInBounds_ne (by omega), Array.getElem?_setIfInBounds_self_of_lt (by omega), if_pos trivial]
    · rw [Array.getElem?_setIfInBounds_ne (by omega), Array.getElem?_setIfInBounds_self_of_lt (by simp; omega), if_pos trivial]
    · rw [Array.getElem?_setIfInBounds_self_of_lt (by simp; omega), if_pos trivial]
  · simp only [if_neg e]
    obtain ⟨a, b', c⟩ := h2 j hj
    refine ⟨?_, ?_, ?_⟩
    · rw [Array.getElem?_setIfInBounds_ne (by omega), Array.getElem?_setIfInBounds_ne (by omega), Array.getElem?_setIfInBounds_ne (by omega)]; exact a
    · rw [Array.getElem?_setIfInBounds_ne (by omega), Array.getElem?_setIfInBounds_ne (by omega), Array.getElem?_setIfInBounds_ne (by omega)]; exact b'
    · rw [Array.getElem?_setIfInBounds_ne (by omega), Array.getElem?_setIfInBounds_ne (by omega), Array.getElem?_setIfInBounds_ne (by omega)]; exact c
theorem Bk.far {w : World} {b t g k : Nat} {cs : Array Value} (h : Bk w b cs t) (hg : g ≠ b) (u : Value) : Bk (w.setCell ⟨g, k, none⟩ u) b cs t := (far_heap hg).trans h
def fil (ask : Nat → An) (k : Nat) : Nat → Vl := fun j => if j < k then (ask j).v else zV
theorem fil_step (ask : Nat → An) (k : Nat) : (fun j => if j = k then (ask k).v else fil ask k j) = fil ask (k + 1) := by
  funext j
  unfold fil
  by_cases h : j = k
  · subst h
    rw [if_pos rfl, if_pos (by omega)]
  · rw [if_neg h]
    by_cases h2 : j < k
    · rw [if_pos h2, if_pos (by omega)]
    · rw [if_neg h2, if_neg (by omega)]
theorem left_err {ask : Nat → An} {n k : Nat} {R : List Vl → An} (h : ∀ j, j < k → (ask j).e = 0) (hk : k < n) (he : ¬ (ask k).e = 0) : leftA ask n R = ask k := by
  unfold leftA
  have hf : (List.range n).find? (fun i => decide (¬ (ask i).e = 0)) = some k := by
    rw [List.find?_range_eq_some]
    exact ⟨by simpa using he, by simpa using hk, fun j hj => by simpa using h j hj⟩
  rw [hf]
theorem left_ok {ask : Nat → An} {n : Nat} {R : List Vl → An} (h : ∀ j, j < n → (ask j).e = 0) : leftA ask n R = R ((List.range n).map (fil ask n)) := by
  unfold leftA
  have hf : (List.range n).find? (fun i => decide (¬ (ask i).e = 0)) = none := by
    rw [List.find?_eq_none]
    intro j hj
    have := h j (by simpa using hj)
    simpa using this
  rw [hf]
  show R _ = R _
  congr 1
  apply List.map_congr_left
  intro j hj
  unfold fil
  rw [if_pos (by simpa using hj)]
structure Lz (w W : World) (vt va : Value) (N n : Nat) (f : Nat → Vl) : Prop where
  o : Old w W
  a : Bk W w.heap.size #[vt, .int .i64 (N : Int), va] 77
  b : Bk W (w.heap.size + 1) zA 73
  r : Rf W (w.heap.size + 2) n f
theorem Lz.old {w W W' : World} {vt va : Value} {N n : Nat} {f : Nat → Vl} (h : Lz w W vt va N n f) (ho : Old W W') : Lz w W' vt va N n f :=
  ⟨h.o.trans ho, h.a.old ho, h.b.old ho, h.r.old ho⟩
theorem Lz.set {w W : World} {vt va : Value} {N n : Nat} {f : Nat → Vl} (h : Lz w W vt va N n f) {k : Nat} (hk : k < n) (x : Vl) :
    Lz w (((W.setCell ⟨w.heap.size + 2, k * 3, none⟩ (.int .u8 x.k)).setCell ⟨w.heap.size + 2, k * 3 + 1, none⟩ (.int .i64 x.n)).setCell ⟨w.heap.size + 2, k * 3 + 2, none⟩ (.string x.s)) vt va N n fun j => if j = k then x else f j :=
  ⟨((h.o.setCell (p := ⟨w.heap.size + 2, k * 3, none⟩) (by simp only; omega) _).setCell (p := ⟨w.heap.size + 2, k * 3 + 1, none⟩) (by simp only; omega) _).setCell (p := ⟨w.heap.size + 2, k * 3 + 2, none⟩) (by simp only; omega) _,
   ((h.a.far (by omega) _).far (by omega) _).far (by omega) _, ((h.b.far (by omega) _).far (by omega) _).far (by omega) _, h.r.set hk x⟩
theorem left_any (w : World) {vt va : Value} {T : List Na} {A : List An} {x : Na} (hT : Tz w vt T) (hA : AR w va A) (hx : T[A.length]? = some x) (n : Nat) (hn : n ≤ 100000) (cf : Nat) (cb : Array Value) (R : List Vl → An) (hen : ∀ args W, (callFunc cf args).run Tryz.prog W = .ok (.enter cf args) W)
    (hR : Rk cf cb n R w) (hg : ∀ j, Gd (askA A x.ks j).v) : Calls Tryz.prog 66 #[nv vt A.length va, .int .i64 (n : Int), .func (.func cf) #[] cb] w fun e w' => e = .returned (anv (leftA (askA A x.ks) n R)) ∧ Old w w' := by
  obtain ⟨ask, hask⟩ : ∃ ask, ask = askA A x.ks := ⟨_, rfl⟩
  have HK := hid (fun W (h : Old w W) j => ask_any W (hT.old h) (hA.old h) hx j)
  obtain ⟨N, hN⟩ : ∃ N, N = A.length := ⟨_, rfl⟩
  rw [← hask] at hg ⊢
  simp only [← hask] at HK
  rw [← hN] at HK ⊢
  have HGD := hid hg
  have HR := hid hR
  have hmk := mk_vals n (by omega)
  obtain ⟨B, hB⟩ : ∃ B, B = leftA ask n R := ⟨_, rfl⟩
  rw [← hB]
  have HB := hid hB
  have HL := hid (show Lz w (((w.alloc (.cells #[vt, .int .i64 (N : Int), va] 77)).alloc (.cells zA 73)).alloc (.cells (madeCells zc (n * 3)) 26)) vt va N n (fil ask 0) from by
    refine ⟨(((Old.refl w).alloc _).alloc _).alloc _, ((Bk.new w _ _).alloc _).alloc _, ?_, ?_⟩
    · have h := (Bk.new (w.alloc (.cells #[vt, .int .i64 (N : Int), va] 77)) zA 73).alloc (.cells (madeCells zc (n * 3)) 26)
      rw [sz_alloc] at h
      exact h
    · have h := Rf.new ((w.alloc (.cells #[vt, .int .i64 (N : Int), va] 77)).alloc (.cells zA 73)) n
      rw [sz_alloc, sz_alloc] at h
      exact h)
  clear hT hA hx hR hg hask hN hB
  go_enter Tryz.func66, Tryz.ntmps66
  go_wp2
  go_loopw [16] (fun i wr => ∃ k : Nat, k ≤ n ∧ i = .int .i64 (k : Int) ∧ Hid (∀ j, j < k → (ask j).e = 0) ∧ Hid (Lz w wr vt va N n (fil ask k))) (fun i _ => (n - intOf i).toNat)
  case atStart => exact ⟨0, Nat.zero_le _, rfl, hid (fun j h => by omega), HL⟩
  case round =>
    clear HL
    obtain ⟨k, hk, rfl, HE, HL⟩ := hrel
    by_cases hkn : k < n
    · have n0 := HL.out.a.c 0; have n1 := HL.out.a.c 1; have n2 := HL.out.a.c 2
      have HC := HK.out wr HL.out.o k
      obtain ⟨C, hC⟩ : ∃ C, C = ask k := ⟨_, rfl⟩
      rw [← hC] at HC
      have HCC := hid hC
      clear hC
      obtain ⟨⟨ck, cn, cs⟩, ce⟩ := C
      by_cases he : ce = 0
      · subst he
        go_wp2_with (first
          | (go_at_call 65; (with_reducible refine HC.mono ?_); rintro e w1 ⟨rfl, o1⟩; have o2 := (Old.refl w1).alloc (.cells #[.int .u8 ck, .int .i64 cn, .string cs, .int .i64 0] 73); have L1 := hid (HL.out.old (o1.trans o2)); have r0 := L1.out.r.at hkn; obtain ⟨z0, z1, z2⟩ := r0; have g0 := L1.out.r.f (k * 3); have g1 := L1.out.r.f (k * 3 + 1); have g2 := L1.out.r.f (k * 3 + 2); clear o1 o2 n0 n1 n2))
        have L2 := L1.out.set hkn ⟨ck, cn, cs⟩
        have e2 : (⟨ck, cn, cs⟩ : Vl) = (ask k).v := by rw [← HCC.out]
        rw [e2] at L2
        rw [fil_step] at L2
        rw [← e2] at L2
        refine ⟨⟨k + 1, hkn, rfl, hid fun j hj => ?_, hid L2⟩, by simp only [intOf]; omega⟩
        rcases Nat.lt_or_ge j k with h | h
        · exact HE.out j h
        · obtain rfl : j = k := by omega
          rw [← HCC.out]
      · have e1 : (ce == 0) = false := beq_false_of_ne he
        go_wp2_with (first
          | (go_at_call 65; (with_reducible refine HC.mono ?_); rintro e w1 ⟨rfl, o1⟩; have o2 := (Old.refl w1).alloc (.cells #[.int .u8 ck, .int .i64 cn, .string cs, .int .i64 ce] 73); have L1 := hid (HL.out.old (o1.trans o2)); have c0 := L1.out.b.c 0; have c1 := L1.out.b.c 1; have c2 := L1.out.b.c 2; have c3 := L1.out.b.c 3; have f0 := L1.out.b.f 0; have f1 := L1.out.b.f 1; have f2 := L1.out.b.f 2; have f3 := L1.out.b.f 3; clear o1 o2 n0 n1 n2))
        have Rr := L1.out.b.set4 rfl (.int .u8 ck) (.int .i64 cn) (.string cs) (.int .i64 ce)
        have eB : B = ⟨⟨ck, cn, cs⟩, ce⟩ := by rw [HB.out, left_err HE.out hkn (by rw [← HCC.out]; exact he), ← HCC.out]
        rw [eB]
        exact bodyPost_ret (v := anv ⟨⟨ck, cn, cs⟩, ce⟩) (by simp [results, Tryz.results66, go_sem, Rr.c 0, Rr.c 1, Rr.c 2, Rr.c 3]) rfl ⟨rfl, old4 L1.out.o (by omega) _ _ _ _⟩
    · obtain rfl : k = n := by omega
      have HF := HR.out wr HL.out.o _ _ (by rw [List.length_map, List.length_range]) (fun y hy => by
        rw [List.mem_map] at hy
        obtain ⟨j, hj, rfl⟩ := hy
        unfold fil
        rw [if_pos (by simpa using hj)]
        exact HGD.out j) (HL.out.r.rv (by omega))
      rw [← left_ok (R := R) HE.out, ← HB.out] at HF
      have HF := hid HF
      clear hmk
      obtain ⟨⟨bk, bn, bs⟩, be⟩ := B
      go_wp2_with (first
        | ((with_reducible refine HF.out.mono ?_); rintro e w1 ⟨rfl, o1⟩; have o2 := (Old.refl w1).alloc (.cells #[.int .u8 bk, .int .i64 bn, .string bs] 26); have L1 := hid (HL.out.old (o1.trans o2)); have c0 := L1.out.b.c 0; have c1 := L1.out.b.c 1; have c2 := L1.out.b.c 2; have c3 := L1.out.b.c 3; have f0 := L1.out.b.f 0; have f1 := L1.out.b.f 1; have f2 := L1.out.b.f 2; have f3 := L1.out.b.f 3; clear o1 o2))
      have Rr := L1.out.b.set4 rfl (.int .u8 bk) (.int .i64 bn) (.string bs) (.int .i64 be)
      exact bodyPost_ret (v := anv ⟨⟨bk, bn, bs⟩, be⟩) (by simp [results, Tryz.results66, go_sem, Rr.c 0, Rr.c 1, Rr.c 2, Rr.c 3]) rfl ⟨rfl, old4 L1.out.o (by omega) _ _ _ _⟩
end Go.Proofs.YtmkmafkkpigfpaaGreatDoor.V
