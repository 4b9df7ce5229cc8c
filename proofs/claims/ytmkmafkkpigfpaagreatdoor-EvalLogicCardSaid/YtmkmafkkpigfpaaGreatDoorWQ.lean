/- Layer eval: and, or, not, if. -/
import Derived.Test.YtmkmafkkpigfpaaGreatDoorWO
set_option maxHeartbeats 3200000
namespace Go.Proofs.YtmkmafkkpigfpaaGreatDoor.V
open Go.ChangeShapes Go.WideShapes Go.ChangeAt Go.RowKit Go.Lib
set_option linter.unusedVariables false
set_option linter.unusedSimpArgs false
set_option maxRecDepth 100000
def eqT (x : Vl) (c : Bool) : Bool := (x.k == 4) && (x.n == b01 c) && (x.s.toList == [])
def ifA (ask : Nat → An) : An := if ¬ (truA (ask 0)).e = 0 ∨ (truA (ask 0)).v.k = 0 then truA (ask 0) else if eqT (truA (ask 0)).v true = true then ask 1 else ask 2
def notA (ask : Nat → An) : An := if ¬ (truA (ask 0)).e = 0 then truA (ask 0) else an0 (ntT (truA (ask 0)).v.k (truA (ask 0)).v.n).1 (ntT (truA (ask 0)).v.k (truA (ask 0)).v.n).2 ⟨#[]⟩ 0
def unlA (st : Bool) (ask : Nat → An) : An :=
  if ¬ (truA (ask 0)).e = 0 ∨ eqT (truA (ask 0)).v st = true then truA (ask 0)
  else if ¬ (truA (ask 1)).e = 0 then truA (ask 1)
  else an0 (unT (b01 st) [(truA (ask 0)).v, (truA (ask 1)).v]).1 (unT (b01 st) [(truA (ask 0)).v, (truA (ask 1)).v]).2 ⟨#[]⟩ 0
theorem not_node (w : World) {vt va : Value} {T : List Na} {A : List An} {x : Na} (h : Nz w vt va T A x) : Calls Tryz.prog 37 #[nv vt A.length va] w fun e w' => e = .returned (anv (notA (askA A x.ks))) ∧ Old w w' := by
  have HP := hid (Pz.new w vt va A.length)
  have n0 := HP.out.a.c 0
  have n1 := HP.out.a.c 1
  have n2 := HP.out.a.c 2
  have HK := hid (fun W (k : Old w W) => show Calls Tryz.prog 61 #[nv vt A.length va, .int .i64 0] W fun e w' => e = .returned (anv (truA (askA A x.ks 0))) ∧ Old W w' from truth_ask W (h.t.old k) (h.a.old k) h.y 0)
  unfold notA
  obtain ⟨a, ha⟩ : ∃ a, a = truA (askA A x.ks 0) := ⟨_, rfl⟩
  obtain ⟨N, hN⟩ : ∃ N, N = A.length := ⟨_, rfl⟩
  rw [← ha] at HK ⊢
  rw [← hN] at HK HP n0 n1 n2 ⊢
  clear ha hN h
  obtain ⟨⟨k, n, s⟩, er⟩ := a
  by_cases he : er = 0
  · subst he
    rw [if_neg (by simp)]
    have HNT := hid (fun W => not_any k n s W)
    show Calls Tryz.prog 37 #[nv vt N va] w fun e w' => e = .returned (anv (an0 (ntT k n).1 (ntT k n).2 ⟨#[]⟩ 0)) ∧ Old w w'
    generalize ntT k n = R at *
    obtain ⟨r1, r2⟩ := R
    go_enter Tryz.func37, Tryz.ntmps37
    go_wp2_with (first
      | (go_at_call 61; (with_reducible refine (HK.out _ HP.out.o).mono ?_); rintro e w1 ⟨rfl, o1⟩; have o2 := (Old.refl w1).alloc (.cells #[.int .u8 k, .int .i64 n, .string s, .int .i64 0] 73); have OA := hid (HP.out.o.trans (o1.trans o2)); have BA := hid (Bk.new w1 #[.int .u8 k, .int .i64 n, .string s, .int .i64 0] 73); have OB := hid (o1.trans o2); clear o1 o2 n0 n1 n2)
      | (go_at_call 64; (with_reducible refine (HNT.out _).mono ?_); rintro e w2 ⟨rfl, o2⟩; have OC := hid (OA.out.trans o2); have T := hid ((HP.out.b.old OB.out).old o2); clear o2; have c0 := T.out.c 0; have c1 := T.out.c 1; have c2 := T.out.c 2; have c3 := T.out.c 3; have f0 := T.out.f 0; have f1 := T.out.f 1; have f2 := T.out.f 2; have f3 := T.out.f 3))
    have R := T.out.set4 rfl (.int .u8 r1) (.int .i64 r2) (.string ⟨#[]⟩) (.int .i64 0)
    exact bodyPost_ret (v := anv (an0 r1 r2 ⟨#[]⟩ 0)) (by simp [results, Tryz.results37, go_sem, R.c 0, R.c 1, R.c 2, R.c 3]) rfl ⟨rfl, old4 OC.out (by omega) _ _ _ _⟩
  · rw [if_pos he]
    have e1 : (er == 0) = false := beq_false_of_ne he
    go_enter Tryz.func37, Tryz.ntmps37
    go_wp2_with (first
      | (go_at_call 61; (with_reducible refine (HK.out _ HP.out.o).mono ?_); rintro e w1 ⟨rfl, o1⟩; have o2 := (Old.refl w1).alloc (.cells #[.int .u8 k, .int .i64 n, .string s, .int .i64 er] 73); have OA := hid (HP.out.o.trans (o1.trans o2)); have BA := hid (Bk.new w1 #[.int .u8 k, .int .i64 n, .string s, .int .i64 er] 73); have OB := hid (o1.trans o2); clear o1 o2 n0 n1 n2; have T := hid (HP.out.b.old OB.out); have c0 := T.out.c 0; have c1 := T.out.c 1; have c2 := T.out.c 2; have c3 := T.out.c 3; have f0 := T.out.f 0; have f1 := T.out.f 1; have f2 := T.out.f 2; have f3 := T.out.f 3))
    have R := T.out.set4 rfl (.int .u8 k) (.int .i64 n) (.string s) (.int .i64 er)
    exact bodyPost_ret (v := anv ⟨⟨k, n, s⟩, er⟩) (by simp [results, Tryz.results37, go_sem, R.c 0, R.c 1, R.c 2, R.c 3]) rfl ⟨rfl, old4 OA.out (by omega) _ _ _ _⟩
theorem if_node (w : World) {vt va : Value} {T : List Na} {A : List An} {x : Na} (h : Nz w vt va T A x) : Calls Tryz.prog 38 #[nv vt A.length va] w fun e w' => e = .returned (anv (ifA (askA A x.ks))) ∧ Old w w' := by
  have HP := hid (Pz.new w vt va A.length)
  have n0 := HP.out.a.c 0
  have n1 := HP.out.a.c 1
  have n2 := HP.out.a.c 2
  have HK := hid (fun W (k : Old w W) => show Calls Tryz.prog 61 #[nv vt A.length va, .int .i64 0] W fun e w' => e = .returned (anv (truA (askA A x.ks 0))) ∧ Old W w' from truth_ask W (h.t.old k) (h.a.old k) h.y 0)
  have HK1 := hid (fun W (k : Old w W) => show Calls Tryz.prog 65 #[nv vt A.length va, .int .i64 1] W fun e w' => e = .returned (anv (askA A x.ks 1)) ∧ Old W w' from ask_any W (h.t.old k) (h.a.old k) h.y 1)
  have HK2 := hid (fun W (k : Old w W) => show Calls Tryz.prog 65 #[nv vt A.length va, .int .i64 2] W fun e w' => e = .returned (anv (askA A x.ks 2)) ∧ Old W w' from ask_any W (h.t.old k) (h.a.old k) h.y 2)
  unfold ifA
  obtain ⟨a, ha⟩ : ∃ a, a = truA (askA A x.ks 0) := ⟨_, rfl⟩
  obtain ⟨N, hN⟩ : ∃ N, N = A.length := ⟨_, rfl⟩
  rw [← ha] at HK ⊢
  rw [← hN] at HK HK1 HK2 HP n0 n1 n2 ⊢
  generalize askA A x.ks 1 = Z1 at *
  generalize askA A x.ks 2 = Z2 at *
  clear ha hN h
  obtain ⟨⟨k, n, s⟩, er⟩ := a
  have HTR := hid (fun W => show Calls Tryz.prog 62 #[.bool true] W fun e W' => e = r1 4 1 ∧ Old W W' from truth_any true W)
  by_cases he : er = 0
  · subst he
    by_cases hk : k = 0
    · subst hk
      rw [if_pos (Or.inr rfl)]
      go_enter Tryz.func38, Tryz.ntmps38
      go_wp2_with (first
        | (go_at_call 61; (with_reducible refine (HK.out _ HP.out.o).mono ?_); rintro e w1 ⟨rfl, o1⟩; have o2 := (Old.refl w1).alloc (.cells #[.int .u8 0, .int .i64 n, .string s, .int .i64 0] 73); have OA := hid (HP.out.o.trans (o1.trans o2)); have BA := hid (Bk.new w1 #[.int .u8 0, .int .i64 n, .string s, .int .i64 0] 73); have OB := hid (o1.trans o2); clear o1 o2 n0 n1 n2; have T := hid (HP.out.b.old OB.out); have c0 := T.out.c 0; have c1 := T.out.c 1; have c2 := T.out.c 2; have c3 := T.out.c 3; have f0 := T.out.f 0; have f1 := T.out.f 1; have f2 := T.out.f 2; have f3 := T.out.f 3))
      have R := T.out.set4 rfl (.int .u8 0) (.int .i64 n) (.string s) (.int .i64 0)
      exact bodyPost_ret (v := anv ⟨⟨0, n, s⟩, 0⟩) (by simp [results, Tryz.results38, go_sem, R.c 0, R.c 1, R.c 2, R.c 3]) rfl ⟨rfl, old4 OA.out (by omega) _ _ _ _⟩
    · rw [if_neg (by simp [hk])]
      have e1 : (k == 0) = false := beq_false_of_ne hk
      obtain ⟨B, hB⟩ : ∃ B, B = eqT ⟨k, n, s⟩ true := ⟨_, rfl⟩
      show Calls Tryz.prog 38 #[nv vt N va] w fun e w' => e = .returned (anv (if eqT ⟨k, n, s⟩ true = true then Z1 else Z2)) ∧ Old w w'
      rw [← hB]
      have hB' : B = ((k == 4) && (n == 1) && (s.toList == [])) := hB
      clear hB
      have HBB := hid hB'
      clear hB'
      cases e2 : (k == 4) <;> cases e3 : (n == 1) <;> cases e4 : (s.toList == [])
      all_goals
        rw [e2, e3, e4] at HBB
        have hb := HBB.out
        simp only [Bool.and_true, Bool.and_false, Bool.true_and, Bool.false_and] at hb
        subst hb
        clear HBB
        go_enter Tryz.func38, Tryz.ntmps38
        go_wp2_with (first
          | (go_at_call 61; (with_reducible refine (HK.out _ HP.out.o).mono ?_); rintro e w1 ⟨rfl, o1⟩; have o2 := (Old.refl w1).alloc (.cells #[.int .u8 k, .int .i64 n, .string s, .int .i64 0] 73); have OA := hid (HP.out.o.trans (o1.trans o2)); have BA := hid (Bk.new w1 #[.int .u8 k, .int .i64 n, .string s, .int .i64 0] 73); have OB := hid (o1.trans o2); clear o1 o2 n0 n1 n2))
        generalize w1.alloc (.cells #[.int .u8 k, .int .i64 n, .string s, .int .i64 0] 73) = W1 at *
        have b0 := BA.out.c 0; have b1 := BA.out.c 1; have b2 := BA.out.c 2; have b3 := BA.out.c 3
        have hO1 := (Old.refl W1).drew
        have HKP := hid (show ∀ W', Old W1 W' → (W'.cell? ⟨w1.heap.size, 0, none⟩ = some (.int .u8 k) ∧ W'.cell? ⟨w1.heap.size, 1, none⟩ = some (.int .i64 n) ∧ W'.cell? ⟨w1.heap.size, 2, none⟩ = some (.string s) ∧ W'.cell? ⟨w1.heap.size, 3, none⟩ = some (.int .i64 0)) from fun W' h => ⟨h.keeps b0, h.keeps b1, h.keeps b2, h.keeps b3⟩)
        go_region_held3 (fun w' => w'.cell? ⟨w1.heap.size, 0, none⟩ = some (.int .u8 k) ∧ w'.cell? ⟨w1.heap.size, 1, none⟩ = some (.int .i64 n) ∧ w'.cell? ⟨w1.heap.size, 2, none⟩ = some (.string s) ∧ w'.cell? ⟨w1.heap.size, 3, none⟩ = some (.int .i64 0))
          (first | exact HKP.out _ (by assumption) | exact HKP.out _ (Old.alloc (by assumption) _))
          (first
            | (go_at_call 62; (with_reducible refine (HTR.out _).mono ?_); rintro e w3 ⟨rfl, o3⟩; have hO3 := hO1.trans o3))
        all_goals
          have n0 := (HP.out.a.old (OB.out.trans hO3)).c 0; have n1 := (HP.out.a.old (OB.out.trans hO3)).c 1; have n2 := (HP.out.a.old (OB.out.trans hO3)).c 2
          first
          | (go_wp2_with (first
              | (go_at_call 65; (with_reducible refine (HK1.out _ (OA.out.trans hO3)).mono ?_); rintro e w5 ⟨rfl, o5⟩; have OC := hid ((OA.out.trans hO3).trans o5); have T := hid (HP.out.b.old ((OB.out.trans hO3).trans o5)); clear o5 n0 n1 n2; have c0 := T.out.c 0; have c1 := T.out.c 1; have c2 := T.out.c 2; have c3 := T.out.c 3; have f0 := T.out.f 0; have f1 := T.out.f 1; have f2 := T.out.f 2; have f3 := T.out.f 3))
             have R := T.out.set4 rfl (.int .u8 Z1.v.k) (.int .i64 Z1.v.n) (.string Z1.v.s) (.int .i64 Z1.e)
             exact bodyPost_ret (v := anv Z1) (by simp [results, Tryz.results38, go_sem, R.c 0, R.c 1, R.c 2, R.c 3]) rfl ⟨rfl, old4 OC.out (by omega) _ _ _ _⟩)
          | (go_wp2_with (first
              | (go_at_call 65; (with_reducible refine (HK2.out _ (OA.out.trans hO3)).mono ?_); rintro e w5 ⟨rfl, o5⟩; have OC := hid ((OA.out.trans hO3).trans o5); have T := hid (HP.out.b.old ((OB.out.trans hO3).trans o5)); clear o5 n0 n1 n2; have c0 := T.out.c 0; have c1 := T.out.c 1; have c2 := T.out.c 2; have c3 := T.out.c 3; have f0 := T.out.f 0; have f1 := T.out.f 1; have f2 := T.out.f 2; have f3 := T.out.f 3))
             have R := T.out.set4 rfl (.int .u8 Z2.v.k) (.int .i64 Z2.v.n) (.string Z2.v.s) (.int .i64 Z2.e)
             exact bodyPost_ret (v := anv Z2) (by simp [results, Tryz.results38, go_sem, R.c 0, R.c 1, R.c 2, R.c 3]) rfl ⟨rfl, old4 OC.out (by omega) _ _ _ _⟩)
  · rw [if_pos (Or.inl he)]
    have e1 : (er == 0) = false := beq_false_of_ne he
    go_enter Tryz.func38, Tryz.ntmps38
    go_wp2_with (first
      | (go_at_call 61; (with_reducible refine (HK.out _ HP.out.o).mono ?_); rintro e w1 ⟨rfl, o1⟩; have o2 := (Old.refl w1).alloc (.cells #[.int .u8 k, .int .i64 n, .string s, .int .i64 er] 73); have OA := hid (HP.out.o.trans (o1.trans o2)); have BA := hid (Bk.new w1 #[.int .u8 k, .int .i64 n, .string s, .int .i64 er] 73); have OB := hid (o1.trans o2); clear o1 o2 n0 n1 n2; have T := hid (HP.out.b.old OB.out); have c0 := T.out.c 0; have c1 := T.out.c 1; have c2 := T.out.c 2; have c3 := T.out.c 3; have f0 := T.out.f 0; have f1 := T.out.f 1; have f2 := T.out.f 2; have f3 := T.out.f 3))
    have R := T.out.set4 rfl (.int .u8 k) (.int .i64 n) (.string s) (.int .i64 er)
    exact bodyPost_ret (v := anv ⟨⟨k, n, s⟩, er⟩) (by simp [results, Tryz.results38, go_sem, R.c 0, R.c 1, R.c 2, R.c 3]) rfl ⟨rfl, old4 OA.out (by omega) _ _ _ _⟩
theorem unl_node (st : Bool) (cf : Nat) (hcf : (st = false ∧ cf = 35) ∨ (st = true ∧ cf = 36)) (w : World) {vt va : Value} {T : List Na} {A : List An} {x : Na} (h : Nz w vt va T A x) : Calls Tryz.prog 34 #[nv vt A.length va, .bool st, .func (.func cf) #[] #[]] w fun e w' => e = .returned (anv (unlA st (askA A x.ks))) ∧ Old w w' := by
  have hen : ∀ args W, (callFunc cf args).run Tryz.prog W = .ok (.enter cf args) W := by rcases hcf with ⟨rfl, rfl⟩ | ⟨rfl, rfl⟩ <;> exact fun _ _ => rfl
  have HF := hid (show ∀ (W W0 : World) (p q : Vl), Old (W0.alloc (.cells #[.int .u8 p.k, .int .i64 p.n, .string p.s, .int .u8 q.k, .int .i64 q.n, .string q.s] 26)) W → Calls Tryz.prog cf #[.slice (some ⟨W0.heap.size, 0, none⟩) 2 2] W fun e W' => e = .returned (vl (unT (b01 st) [p, q]).1 (unT (b01 st) [p, q]).2 ⟨#[]⟩) ∧ Old W W' from by
    intro W W0 p q ho
    rcases hcf with ⟨rfl, rfl⟩ | ⟨rfl, rfl⟩
    · exact all_any _ _ _ ((RV.two W0 p q).old ho) (by simp)
    · exact any_any _ _ _ ((RV.two W0 p q).old ho) (by simp))
  have HP := hid (Pz.new w vt va A.length)
  have n0 := HP.out.a.c 0
  have n1 := HP.out.a.c 1
  have n2 := HP.out.a.c 2
  have HK := hid (fun W (k : Old w W) => show Calls Tryz.prog 61 #[nv vt A.length va, .int .i64 0] W fun e w' => e = .returned (anv (truA (askA A x.ks 0))) ∧ Old W w' from truth_ask W (h.t.old k) (h.a.old k) h.y 0)
  have HK1 := hid (fun W (k : Old w W) => show Calls Tryz.prog 61 #[nv vt A.length va, .int .i64 1] W fun e w' => e = .returned (anv (truA (askA A x.ks 1))) ∧ Old W w' from truth_ask W (h.t.old k) (h.a.old k) h.y 1)
  unfold unlA
  obtain ⟨a, ha⟩ : ∃ a, a = truA (askA A x.ks 0) := ⟨_, rfl⟩
  obtain ⟨b, hb⟩ : ∃ b, b = truA (askA A x.ks 1) := ⟨_, rfl⟩
  obtain ⟨N, hN⟩ : ∃ N, N = A.length := ⟨_, rfl⟩
  rw [← ha] at HK ⊢
  rw [← hb] at HK1 ⊢
  rw [← hN] at HK HK1 HP n0 n1 n2 ⊢
  clear ha hN h hb hcf
  obtain ⟨⟨k, n, s⟩, er⟩ := a
  obtain ⟨⟨k', n', s'⟩, er'⟩ := b
  have HTR := hid (fun W => truth_any st W)
  by_cases he : er = 0
  · subst he
    obtain ⟨B, hB⟩ : ∃ B, B = eqT ⟨k, n, s⟩ st := ⟨_, rfl⟩
    show Calls Tryz.prog 34 #[nv vt N va, .bool st, .func (.func cf) #[] #[]] w fun e w' => e = .returned (anv (if ¬ (0 : Int) = 0 ∨ eqT ⟨k, n, s⟩ st = true then ⟨⟨k, n, s⟩, 0⟩ else if ¬ er' = 0 then ⟨⟨k', n', s'⟩, er'⟩ else an0 (unT (b01 st) [⟨k, n, s⟩, ⟨k', n', s'⟩]).1 (unT (b01 st) [⟨k, n, s⟩, ⟨k', n', s'⟩]).2 ⟨#[]⟩ 0)) ∧ Old w w'
    rw [← hB]
    have hB' : B = ((k == 4) && (n == b01 st) && (s.toList == [])) := hB
    clear hB
    have HBB := hid hB'
    clear hB'
    have HU := hid (show ∀ (W W0 : World), Old (W0.alloc (.cells #[.int .u8 k, .int .i64 n, .string s, .int .u8 k', .int .i64 n', .string s'] 26)) W → Calls Tryz.prog cf #[.slice (some ⟨W0.heap.size, 0, none⟩) 2 2] W fun e W' => e = .returned (vl (unT (b01 st) [⟨k, n, s⟩, ⟨k', n', s'⟩]).1 (unT (b01 st) [⟨k, n, s⟩, ⟨k', n', s'⟩]).2 ⟨#[]⟩) ∧ Old W W' from fun W W0 => HF.out W W0 ⟨k, n, s⟩ ⟨k', n', s'⟩)
    generalize (unT (b01 st) [⟨k, n, s⟩, ⟨k', n', s'⟩]) = U at *
    obtain ⟨u1, u2⟩ := U
    generalize hq : b01 st = q at *
    cases e2 : (k == 4) <;> cases e3 : (n == q) <;> cases e4 : (s.toList == [])
    all_goals
      rw [e2, e3, e4] at HBB
      have hb := HBB.out
      simp only [Bool.and_true, Bool.and_false, Bool.true_and, Bool.false_and] at hb
      subst hb
      clear HBB
      by_cases he' : er' = 0
      · subst he'
        go_enter Tryz.func34, Tryz.ntmps34
        go_wp2_with (first
          | (go_at_call 61; (with_reducible refine (HK.out _ HP.out.o).mono ?_); rintro e w1 ⟨rfl, o1⟩; have o2 := (Old.refl w1).alloc (.cells #[.int .u8 k, .int .i64 n, .string s, .int .i64 0] 73); have OA := hid (HP.out.o.trans (o1.trans o2)); have BA := hid (Bk.new w1 #[.int .u8 k, .int .i64 n, .string s, .int .i64 0] 73); have OB := hid (o1.trans o2); clear o1 o2 n0 n1 n2))
        generalize w1.alloc (.cells #[.int .u8 k, .int .i64 n, .string s, .int .i64 0] 73) = W1 at *
        have b0 := BA.out.c 0; have b1 := BA.out.c 1; have b2 := BA.out.c 2; have b3 := BA.out.c 3
        have hO1 := (Old.refl W1).drew
        have HKP := hid (show ∀ W', Old W1 W' → (W'.cell? ⟨w1.heap.size, 0, none⟩ = some (.int .u8 k) ∧ W'.cell? ⟨w1.heap.size, 1, none⟩ = some (.int .i64 n) ∧ W'.cell? ⟨w1.heap.size, 2, none⟩ = some (.string s) ∧ W'.cell? ⟨w1.heap.size, 3, none⟩ = some (.int .i64 0)) from fun W' h => ⟨h.keeps b0, h.keeps b1, h.keeps b2, h.keeps b3⟩)
        go_region_held3 (fun w' => w'.cell? ⟨w1.heap.size, 0, none⟩ = some (.int .u8 k) ∧ w'.cell? ⟨w1.heap.size, 1, none⟩ = some (.int .i64 n) ∧ w'.cell? ⟨w1.heap.size, 2, none⟩ = some (.string s) ∧ w'.cell? ⟨w1.heap.size, 3, none⟩ = some (.int .i64 0))
          (first | exact HKP.out _ (by assumption) | exact HKP.out _ (Old.alloc (by assumption) _))
          (first
            | (go_at_call 62; (with_reducible refine (HTR.out _).mono ?_); rintro e w3 ⟨rfl, o3⟩; have hO3 := hO1.trans o3))
        all_goals
          have HO3 := hid hO3
          have HOA := hid (OA.out.trans hO3)
          have HT := hid (HP.out.b.old (OB.out.trans hO3))
          have HN := hid (HP.out.a.old (OB.out.trans hO3))
          clear hO3 hO1 o3 b0 b1 b2 b3
          first
          | (obtain ⟨x0, x1, x2, x3⟩ := HKP.out _ HO3.out
             have T := HT; have c0 := T.out.c 0; have c1 := T.out.c 1; have c2 := T.out.c 2; have c3 := T.out.c 3; have f0 := T.out.f 0; have f1 := T.out.f 1; have f2 := T.out.f 2; have f3 := T.out.f 3
             go_wp2
             have R := T.out.set4 rfl (.int .u8 k) (.int .i64 n) (.string s) (.int .i64 0)
             exact bodyPost_ret (v := anv ⟨⟨k, n, s⟩, 0⟩) (by simp [results, Tryz.results34, go_sem, R.c 0, R.c 1, R.c 2, R.c 3]) rfl ⟨by simp, old4 HOA.out (by omega) _ _ _ _⟩)
          | (have n0 := HN.out.c 0; have n1 := HN.out.c 1; have n2 := HN.out.c 2
             go_wp2_with (first
               | (go_at_call 61; (with_reducible refine (HK1.out _ HOA.out).mono ?_); rintro e w5 ⟨rfl, o1⟩; have o2 := (Old.refl w5).alloc (.cells #[.int .u8 k', .int .i64 n', .string s', .int .i64 0] 73); have OC := hid (o1.trans o2); have B2 := hid (Bk.new w5 #[.int .u8 k', .int .i64 n', .string s', .int .i64 0] 73); clear o1 o2 n0 n1 n2; have y0 := B2.out.c 0; have y1 := B2.out.c 1; have y2 := B2.out.c 2; have y3 := B2.out.c 3; obtain ⟨x0, x1, x2, x3⟩ := HKP.out _ (HO3.out.trans OC.out); have HU5 := HU.out _ (w5.alloc (.cells #[.int .u8 k', .int .i64 n', .string s', .int .i64 0] 73)) (Old.refl _); rw [sz_alloc] at HU5; have o6 := ((Old.refl (w5.alloc (.cells #[.int .u8 k', .int .i64 n', .string s', .int .i64 0] 73))).alloc (.cells #[.int .u8 k, .int .i64 n, .string s, .int .u8 k', .int .i64 n', .string s'] 26)); have O6 := hid (OC.out.trans o6); clear o6)
               | ((with_reducible refine HU5.mono ?_); rintro e w7 ⟨rfl, o7⟩; have O7 := hid (O6.out.trans o7); have T := hid (HT.out.old O7.out); clear o7 x0 x1 x2 x3 y0 y1 y2 y3; have c0 := T.out.c 0; have c1 := T.out.c 1; have c2 := T.out.c 2; have c3 := T.out.c 3; have f0 := T.out.f 0; have f1 := T.out.f 1; have f2 := T.out.f 2; have f3 := T.out.f 3))
             have R := T.out.set4 rfl (.int .u8 u1) (.int .i64 u2) (.string ⟨#[]⟩) (.int .i64 0)
             exact bodyPost_ret (v := anv (an0 u1 u2 ⟨#[]⟩ 0)) (by simp [results, Tryz.results34, go_sem, R.c 0, R.c 1, R.c 2, R.c 3]) rfl ⟨by simp, old4 (HOA.out.trans O7.out) (by omega) _ _ _ _⟩)
      · have ee : (er' == 0) = false := beq_false_of_ne he'
        go_enter Tryz.func34, Tryz.ntmps34
        go_wp2_with (first
          | (go_at_call 61; (with_reducible refine (HK.out _ HP.out.o).mono ?_); rintro e w1 ⟨rfl, o1⟩; have o2 := (Old.refl w1).alloc (.cells #[.int .u8 k, .int .i64 n, .string s, .int .i64 0] 73); have OA := hid (HP.out.o.trans (o1.trans o2)); have BA := hid (Bk.new w1 #[.int .u8 k, .int .i64 n, .string s, .int .i64 0] 73); have OB := hid (o1.trans o2); clear o1 o2 n0 n1 n2))
        generalize w1.alloc (.cells #[.int .u8 k, .int .i64 n, .string s, .int .i64 0] 73) = W1 at *
        have b0 := BA.out.c 0; have b1 := BA.out.c 1; have b2 := BA.out.c 2; have b3 := BA.out.c 3
        have hO1 := (Old.refl W1).drew
        have HKP := hid (show ∀ W', Old W1 W' → (W'.cell? ⟨w1.heap.size, 0, none⟩ = some (.int .u8 k) ∧ W'.cell? ⟨w1.heap.size, 1, none⟩ = some (.int .i64 n) ∧ W'.cell? ⟨w1.heap.size, 2, none⟩ = some (.string s) ∧ W'.cell? ⟨w1.heap.size, 3, none⟩ = some (.int .i64 0)) from fun W' h => ⟨h.keeps b0, h.keeps b1, h.keeps b2, h.keeps b3⟩)
        go_region_held3 (fun w' => w'.cell? ⟨w1.heap.size, 0, none⟩ = some (.int .u8 k) ∧ w'.cell? ⟨w1.heap.size, 1, none⟩ = some (.int .i64 n) ∧ w'.cell? ⟨w1.heap.size, 2, none⟩ = some (.string s) ∧ w'.cell? ⟨w1.heap.size, 3, none⟩ = some (.int .i64 0))
          (first | exact HKP.out _ (by assumption) | exact HKP.out _ (Old.alloc (by assumption) _))
          (first
            | (go_at_call 62; (with_reducible refine (HTR.out _).mono ?_); rintro e w3 ⟨rfl, o3⟩; have hO3 := hO1.trans o3))
        all_goals
          have HO3 := hid hO3
          have HOA := hid (OA.out.trans hO3)
          have HT := hid (HP.out.b.old (OB.out.trans hO3))
          have HN := hid (HP.out.a.old (OB.out.trans hO3))
          clear hO3 hO1 o3 b0 b1 b2 b3
          first
          | (obtain ⟨x0, x1, x2, x3⟩ := HKP.out _ HO3.out
             have T := HT; have c0 := T.out.c 0; have c1 := T.out.c 1; have c2 := T.out.c 2; have c3 := T.out.c 3; have f0 := T.out.f 0; have f1 := T.out.f 1; have f2 := T.out.f 2; have f3 := T.out.f 3
             go_wp2
             have R := T.out.set4 rfl (.int .u8 k) (.int .i64 n) (.string s) (.int .i64 0)
             exact bodyPost_ret (v := anv ⟨⟨k, n, s⟩, 0⟩) (by simp [results, Tryz.results34, go_sem, R.c 0, R.c 1, R.c 2, R.c 3]) rfl ⟨by simp, old4 HOA.out (by omega) _ _ _ _⟩)
          | (have n0 := HN.out.c 0; have n1 := HN.out.c 1; have n2 := HN.out.c 2
             go_wp2_with (first
               | (go_at_call 61; (with_reducible refine (HK1.out _ HOA.out).mono ?_); rintro e w5 ⟨rfl, o1⟩; have o2 := (Old.refl w5).alloc (.cells #[.int .u8 k', .int .i64 n', .string s', .int .i64 er'] 73); have OC := hid (o1.trans o2); have B2 := hid (Bk.new w5 #[.int .u8 k', .int .i64 n', .string s', .int .i64 er'] 73); clear o1 o2 n0 n1 n2; have T := hid (HT.out.old OC.out); have c0 := T.out.c 0; have c1 := T.out.c 1; have c2 := T.out.c 2; have c3 := T.out.c 3; have f0 := T.out.f 0; have f1 := T.out.f 1; have f2 := T.out.f 2; have f3 := T.out.f 3))
             have R := T.out.set4 rfl (.int .u8 k') (.int .i64 n') (.string s') (.int .i64 er')
             exact bodyPost_ret (v := anv ⟨⟨k', n', s'⟩, er'⟩) (by simp [results, Tryz.results34, go_sem, R.c 0, R.c 1, R.c 2, R.c 3]) rfl ⟨by simp [he'], old4 (HOA.out.trans OC.out) (by omega) _ _ _ _⟩)
  · rw [if_pos (Or.inl he)]
    have e1 : (er == 0) = false := beq_false_of_ne he
    go_enter Tryz.func34, Tryz.ntmps34
    go_wp2_with (first
      | (go_at_call 61; (with_reducible refine (HK.out _ HP.out.o).mono ?_); rintro e w1 ⟨rfl, o1⟩; have o2 := (Old.refl w1).alloc (.cells #[.int .u8 k, .int .i64 n, .string s, .int .i64 er] 73); have OA := hid (HP.out.o.trans (o1.trans o2)); have BA := hid (Bk.new w1 #[.int .u8 k, .int .i64 n, .string s, .int .i64 er] 73); have OB := hid (o1.trans o2); clear o1 o2 n0 n1 n2))
    generalize w1.alloc (.cells #[.int .u8 k, .int .i64 n, .string s, .int .i64 er] 73) = W1 at *
    have b0 := BA.out.c 0; have b1 := BA.out.c 1; have b2 := BA.out.c 2; have b3 := BA.out.c 3
    have T := hid (HP.out.b.old OB.out); have c0 := T.out.c 0; have c1 := T.out.c 1; have c2 := T.out.c 2; have c3 := T.out.c 3; have f0 := T.out.f 0; have f1 := T.out.f 1; have f2 := T.out.f 2; have f3 := T.out.f 3
    go_quiet (fail)
    go_wp2
    have R := (T.out.drewN nq).set4 rfl (.int .u8 k) (.int .i64 n) (.string s) (.int .i64 er)
    exact bodyPost_ret (v := anv ⟨⟨k, n, s⟩, er⟩) (by simp [results, Tryz.results34, go_sem, R.c 0, R.c 1, R.c 2, R.c 3]) rfl ⟨rfl, old4 (OA.out.drewN nq) (by omega) _ _ _ _⟩
end Go.Proofs.YtmkmafkkpigfpaaGreatDoor.V
