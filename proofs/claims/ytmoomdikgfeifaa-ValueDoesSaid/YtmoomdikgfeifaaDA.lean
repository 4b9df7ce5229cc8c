/- The document's own answers of layer value: Do. -/
import Derived.Test.YtmoomdikgfeifaaID
namespace Go.Proofs.Ytmoomdikgfeifaa
open Go.ChangeShapes Go.WideShapes Go.ChangeAt Go.RowKit
set_option linter.unusedVariables false

theorem even_mul (a b : Int) : sgn (a * b) 10000 (rnd (a * b).natAbs (10000 : Int).natAbs) = sgn a b (rnd (a.natAbs * b.natAbs) 10000) := by
  rw [Int.natAbs_mul, show (10000 : Int).natAbs = 10000 from rfl]
  have e := sgn_mul a b
  by_cases h : (a < 0 ↔ b < 0)
  · rw [sgn_same _ h] at e
    rw [sgn_same _ h, sgn_same _ (by omega)]
  · rw [sgn_other _ h] at e
    rw [sgn_other _ h]
    by_cases h0 : a.natAbs * b.natAbs = 0
    · rw [h0] at e ⊢
      have e2 : rnd 0 10000 = 0 := by decide
      rw [e2, sgn_same _ (by omega)]
      rfl
    · rw [sgn_other _ (by omega)]
theorem even_div (a b : Int) : sgn (a * 10000) b (rnd (a * 10000).natAbs b.natAbs) = sgn a b (rnd (a.natAbs * 10000) b.natAbs) := by
  rw [abs_scale]
  unfold sgn
  have e : a * 10000 < 0 ↔ a < 0 := by omega
  simp only [e]
theorem p19 : p10 19 = 10000000000000000000000000000000000000000000000000000000000000000000000000000 := by decide
theorem lo_of {n : Int} (h : n.natAbs ≤ 100000000000000000000000000000000000000000000000000) : Lo n := by
  unfold Lo
  rw [p19]
  omega
theorem lo_sgn (a b : Int) (k : Nat) (h : k ≤ 100000000000000000000000000000000000000000000000000) : Lo (sgn a b k) := by
  refine lo_of ?_
  unfold sgn
  split <;> omega
theorem abs_prod {a b : Int} (ha : I64 a) (hb : I64 b) : a.natAbs * b.natAbs ≤ 85070591730234615865843651857942052864 := by
  have h1 := abs_lt ha
  have h2 := abs_lt hb
  exact Nat.le_trans (Nat.mul_le_mul h1 h2) (by decide)
theorem lo_prod {a b : Int} (ha : I64 a) (hb : I64 b) : Lo (a * b) := lo_of (by rw [Int.natAbs_mul]; have := abs_prod ha hb; omega)
theorem lo_mul4 {a b : Int} (ha : I64 a) (hb : I64 b) : Lo (sgn (a * b) 10000 (rnd (a * b).natAbs 10000)) := by
  have e := even_mul a b
  rw [show (10000 : Int).natAbs = 10000 from rfl] at e
  rw [e]
  refine lo_sgn _ _ _ ?_
  have := rnd_le (a.natAbs * b.natAbs) 10000
  have := Nat.div_le_self (a.natAbs * b.natAbs) 10000
  have := abs_prod ha hb
  omega
theorem lo_quo {a b : Int} (ha : I64 a) (hb : I64 b) : Lo (a.tdiv b) := by
  have := abs_lt ha
  refine lo_of ?_
  have eq : (a.tdiv b).natAbs = a.natAbs / b.natAbs := Int.natAbs_tdiv a b
  rw [eq]
  have := Nat.div_le_self a.natAbs b.natAbs
  omega
theorem lo_div4 {a b : Int} (ha : I64 a) (hb : I64 b) : Lo (sgn (a * 10000) b (rnd (a * 10000).natAbs b.natAbs)) := by
  rw [even_div]
  refine lo_sgn _ _ _ ?_
  have := rnd_le (a.natAbs * 10000) b.natAbs
  have := Nat.div_le_self (a.natAbs * 10000) b.natAbs
  have := abs_lt ha
  omega
/-- Which operations lay, which fill boxes. -/
def al12 (i : Nat) : Bool := i == 7 || i == 8 || i == 9
def st12 (i : Nat) : Option Nat := if i = 10 then some 7 else if i = 11 then some 8 else if i = 12 then some 9 else none
theorem al12_st (i : Nat) (h : al12 i = true) : st12 i = none := by
  unfold al12 at h
  simp at h
  rcases h with (rfl | rfl) | rfl <;> rfl
theorem st12_some {i j : Nat} (h : st12 i = some j) : (i = 10 ∧ j = 7) ∨ (i = 11 ∧ j = 8) ∨ (i = 12 ∧ j = 9) := by
  unfold st12 at h
  split at h
  · left; simp at h; omega
  · split at h
    · simp at h; omega
    · split at h
      · simp at h; omega
      · cases h
theorem st12_inj (i i' j : Nat) (h : st12 i = some j) (h' : st12 i' = some j) : i = i' := by
  rcases st12_some h with ⟨_, _⟩ | ⟨_, _⟩ | ⟨_, _⟩ <;> rcases st12_some h' with ⟨_, _⟩ | ⟨_, _⟩ | ⟨_, _⟩ <;> omega
theorem st12_al (i j : Nat) (h : st12 i = some j) : al12 j = true := by
  rcases st12_some h with ⟨_, rfl⟩ | ⟨_, rfl⟩ | ⟨_, rfl⟩ <;> rfl
theorem any12 {a b c d e f g : SpN} (i : Nat) (v : Value) (w : World) (h : al12 i = true ∨ (st12 i).isSome = true) : spN [a, b, c, d, e, f, g, .any, .any, .any, .any, .any, .any] i v w := by
  have hi : i = 7 ∨ i = 8 ∨ i = 9 ∨ i = 10 ∨ i = 11 ∨ i = 12 := by
    rcases h with h | h
    · unfold al12 at h; simp at h; omega
    · obtain ⟨j, hj⟩ := Option.isSome_iff_exists.1 h
      have := st12_some hj
      omega
  rcases hi with rfl | rfl | rfl | rfl | rfl | rfl <;> trivial

set_option maxHeartbeats 1600000 in
set_option maxRecDepth 100000 in
theorem do_walk (op k n : Int) (s : ByteArray) (k' n' : Int) (s' : ByteArray) (w : World) (K X Y R : Int)
    (hk : ∀ W v, RV W v [⟨k, n, s⟩, ⟨k', n', s'⟩] → Calls Try.prog 39 #[v] W fun e w' => e = .returned (.int .u8 K) ∧ Old W w') (hK9 : (K == 9) = false) (hK0 : (K == 0) = false)
    (hX : ∀ W, Calls Try.prog 40 #[vl k n s, .int .u8 K] W fun e w' => e = rv K X 0 ∧ Old W w')
    (hY : ∀ W, Calls Try.prog 40 #[vl k' n' s', .int .u8 K] W fun e w' => e = rv K Y 0 ∧ Old W w') (hXi : I64 X) (hYi : I64 Y)
    (hop : (op = 43 ∧ R = X + Y) ∨ (op = 45 ∧ R = X - Y) ∨ (op = 42 ∧ K = 1 ∧ R = X * Y) ∨ (op = 42 ∧ K = 2 ∧ R = sgn (X * Y) 10000 (rnd (X * Y).natAbs 10000)) ∨ (op = 47 ∧ ¬ Y = 0 ∧ K = 1 ∧ R = X.tdiv Y) ∨ (op = 47 ∧ ¬ Y = 0 ∧ K = 2 ∧ R = sgn (X * 10000) Y (rnd (X * 10000).natAbs Y.natAbs))) :
    Calls Try.prog 12 #[.int .u8 op, vl k n s, vl k' n' s'] w fun e w' => e = rv (nmK K (fitE R)) (nmN (fitV R) (fitE R)) (fitE R) ∧ Old w w' := by
  have H := Lib.hid (Hs.three w k n s k' n' s' 0 0 ⟨#[]⟩)
  have O := Lib.hid ((((Old.refl w).alloc (.cells #[.int .u8 k, .int .i64 n, .string s] 23)).alloc (.cells #[.int .u8 k', .int .i64 n', .string s'] 23)).alloc (.cells #[.int .u8 0, .int .i64 0, .string ⟨#[]⟩] 23))
  go_enter Try.func12, Try.ntmps12
  go_upto_region 1 with (fail)
  have HC : Hid (w.heap.size ≤ w.heap.size + 1 + 1) := Lib.hid (by omega)
  generalize ((w.alloc (.cells #[.int .u8 k, .int .i64 n, .string s] 23)).alloc (.cells #[.int .u8 k', .int .i64 n', .string s'] 23)).alloc (.cells #[.int .u8 0, .int .i64 0, .string ⟨#[]⟩] 23) = W0 at *
  generalize w.heap.size + 1 + 1 = pC at *
  generalize w.heap.size + 1 = pB at *
  generalize hpA : w.heap.size = pA at *
  have HW := Lib.hid hpA
  clear hpA
  have x00 := H.out.1.c0
  have x01 := H.out.1.c1
  have x02 := H.out.1.c2
  have x10 := H.out.2.1.c0
  have x11 := H.out.2.1.c1
  have x12 := H.out.2.1.c2
  go_upto_region 6 with (first
    | (go_at_call 39; ((with_reducible refine (hk _ _ (RV.new2 _ _ _ _ _ _ _)).mono ?_); rintro e w1 ⟨rfl, o1⟩; replace H := Lib.hid (H.out.old (((Old.refl _).alloc _).trans o1)); replace O := Lib.hid (O.out.trans (((Old.refl _).alloc _).trans o1)); clear o1 x00 x01 x02 x10 x11 x12; have x00 := H.out.1.c0; have x01 := H.out.1.c1; have x02 := H.out.1.c2)))
  clear hk hK9 hK0
  go_upto_region 9 with (first
    | (go_at_call 40; ((with_reducible refine (hX _).mono ?_); rintro e w2 ⟨rfl, o2⟩; replace H := Lib.hid (H.out.old o2); replace O := Lib.hid (O.out.trans o2); clear o2 x00 x01 x02)))
  clear hX
  replace O := Lib.hid (O.out.alloc (.cells #[.int .u8 K, .int .i64 X, .string ⟨#[]⟩] 23))
  replace H := Lib.hid (Hs.add H.out K X ⟨#[]⟩)
  generalize w2.alloc (.cells #[.int .u8 K, .int .i64 X, .string ⟨#[]⟩] 23) = W1 at *
  generalize w2.heap.size = pD at *
  have x10 := H.out.2.2.1.c0
  have x11 := H.out.2.2.1.c1
  have x12 := H.out.2.2.1.c2
  go_upto_region 12 with (first
    | (go_at_call 40; ((with_reducible refine (hY _).mono ?_); rintro e w3 ⟨rfl, o3⟩; replace H := Lib.hid (H.out.old o3); replace O := Lib.hid (O.out.trans o3); clear o3 x10 x11 x12)))
  clear hY
  replace O := Lib.hid (O.out.alloc (.cells #[.int .u8 K, .int .i64 Y, .string ⟨#[]⟩] 23))
  replace H := Lib.hid (Hs.add H.out K Y ⟨#[]⟩)
  generalize w3.alloc (.cells #[.int .u8 K, .int .i64 Y, .string ⟨#[]⟩] 23) = W2 at *
  generalize w3.heap.size = pE at *
  have HP : Hid (pC < W2.heap.size) := Lib.hid H.out.2.2.2.2.1.lt
  go_cut [12, 13, 14] from 12 to 53 (fun p q u wx => ∃ (b1 b2 b3 : Nat) (v1 v2 v3 : Bool) (o1 o2 o3 : Option Addr) (l1 l2 l3 c1 c2 c3 : Nat), p = .pointer (some ⟨b1, 0, none⟩) ∧ q = .pointer (some ⟨b2, 0, none⟩) ∧ u = .pointer (some ⟨b3, 0, none⟩) ∧ Hid (Two wx b1 (.bool v1) (.slice o1 l1 c1)) ∧ Hid (Two wx b2 (.bool v2) (.slice o2 l2 c2)) ∧ Hid (Two wx b3 (.bool v3) (.slice o3 l3 c3)) ∧ Hid (RN wx (.agg #[.bool v1, .slice o1 l1 c1]) X) ∧ Hid (RN wx (.agg #[.bool v2, .slice o2 l2 c2]) Y) ∧ Hid (RN wx (.agg #[.bool v3, .slice o3 l3 c3]) 10000) ∧ Hid (Hs wx [(pE, K, Y, ⟨#[]⟩), (pD, K, X, ⟨#[]⟩), (pA, k, n, s), (pB, k', n', s'), (pC, 0, 0, ⟨#[]⟩)]) ∧ Hid (Old w wx) ∧ Hid (pC < b1 ∧ pC < b2 ∧ pC < b3))
  case first =>
    as_aux_lemma =>
    clear hop
    refine wp_region_inv2 (spN [.eq (.pointer (some ⟨pD, 1, none⟩)), .eq (.int .i64 X), .rn X, .eq (.pointer (some ⟨pE, 1, none⟩)), .eq (.int .i64 Y), .rn Y, .rn 10000, .any, .any, .any, .any, .any, .any]) (inN [0, 0, 0, 0, 0, 0, 0, 0, 0, 0, X, Y, 10000]) al12 st12 #[.bool false, .slice none 0 0] 47 isNum (by kernel_rfl) (by kernel_rfl) (spN_mono _) (inN_mono _) any12 ⟨_, _, _, _, rfl⟩ al12_st st12_inj st12_al ?_ ?_
    · refine ⟨?_, ?_, ?_, ?_, ?_, ?_, ?_, ?_, ?_, ?_, ?_, ?_, ?_, trivial⟩
      · exact ⟨by simp, step_plain rfl fun ρ wr ho hr hd => does_field1 rfl ((hr.1 9 rfl).trans rfl) ⟨in_eq rfl, Old.refl _⟩⟩
      · refine ⟨by simp, step_plain rfl fun ρ wr ho hr hd => ?_⟩
        obtain ⟨d0, _⟩ := hd
        have d0 : ρ (.tmp 47) = .pointer (some ⟨pD, 1, none⟩) := spN_eq (d0 rfl) rfl
        exact does_load2 rfl d0 ((H.out.2.1).old ho).c1 ⟨in_eq rfl, Old.refl _⟩
      · refine ⟨by simp, step_plain rfl fun ρ wr ho hr hd => ?_⟩
        obtain ⟨d1, _⟩ := hd
        have d1 : ρ (.tmp 48) = .int .i64 X := spN_eq (d1 rfl) rfl
        refine does_call1 rfl (hr.2.2.2 41) d1 rfl ((ofI X wr hXi).mono fun e w' h => ?_)
        obtain ⟨x, h1, h2, h3⟩ := h
        exact ⟨x, h1, in_rn rfl h2, h3⟩
      · exact ⟨by simp, step_plain rfl fun ρ wr ho hr hd => does_field1 rfl ((hr.1 11 rfl).trans rfl) ⟨in_eq rfl, Old.refl _⟩⟩
      · refine ⟨by simp, step_plain rfl fun ρ wr ho hr hd => ?_⟩
        obtain ⟨d0, _⟩ := hd
        have d0 : ρ (.tmp 50) = .pointer (some ⟨pE, 1, none⟩) := spN_eq (d0 rfl) rfl
        exact does_load2 rfl d0 ((H.out.1).old ho).c1 ⟨in_eq rfl, Old.refl _⟩
      · refine ⟨by simp, step_plain rfl fun ρ wr ho hr hd => ?_⟩
        obtain ⟨d1, _⟩ := hd
        have d1 : ρ (.tmp 51) = .int .i64 Y := spN_eq (d1 rfl) rfl
        refine does_call1 rfl (hr.2.2.2 41) d1 rfl ((ofI Y wr hYi).mono fun e w' h => ?_)
        obtain ⟨x, h1, h2, h3⟩ := h
        exact ⟨x, h1, in_rn rfl h2, h3⟩
      · refine ⟨by simp, step_plain rfl fun ρ wr ho hr hd => ?_⟩
        refine does_call1 rfl (hr.2.2.2 41) (hr.2.1 _) rfl ((ofI 10000 wr (by decide)).mono fun e w' h => ?_)
        obtain ⟨x, h1, h2, h3⟩ := h
        exact ⟨x, h1, in_rn rfl h2, h3⟩
      · exact stepA_num rfl rfl rfl
      · exact stepA_num rfl rfl rfl
      · exact stepA_num rfl rfl rfl
      · refine stepS_num (n := X) rfl rfl rfl rfl ⟨_, List.mem_cons_self, rfl, rfl⟩ (fun ρ wr hd => ?_) rfl
        obtain ⟨_, d2, _⟩ := hd
        exact spN_rn (d2 rfl) rfl
      · refine stepS_num (n := Y) rfl rfl rfl rfl ⟨_, List.mem_cons_self, rfl, rfl⟩ (fun ρ wr hd => ?_) rfl
        obtain ⟨_, d2, _⟩ := hd
        exact spN_rn (d2 rfl) rfl
      · refine stepS_num (n := 10000) rfl rfl rfl rfl ⟨_, List.mem_cons_self, rfl, rfl⟩ (fun ρ wr hd => ?_) rfl
        obtain ⟨_, d2, _⟩ := hd
        exact spN_rn (d2 rfl) rfl
    · intro a' w' β ho hst hl hB
      obtain ⟨e1, p1, cc1, q1, ⟨v1, o1, l1, c1, rfl⟩, _, r1⟩ := hB.ptr 7 _ rfl rfl rfl
      obtain ⟨e2, p2, cc2, q2, ⟨v2, o2, l2, c2, rfl⟩, _, r2⟩ := hB.ptr 8 _ rfl rfl rfl
      obtain ⟨e3, p3, cc3, q3, ⟨v3, o3, l3, c3, rfl⟩, _, r3⟩ := hB.ptr 9 _ rfl rfl rfl
      have g1 : RN w' (.agg #[.bool v1, .slice o1 l1 c1]) X := r1 10 (by decide) rfl rfl X rfl
      have g2 : RN w' (.agg #[.bool v2, .slice o2 l2 c2]) Y := r2 11 (by decide) rfl rfl Y rfl
      have g3 : RN w' (.agg #[.bool v3, .slice o3 l3 c3]) 10000 := r3 12 (by decide) rfl rfl 10000 rfl
      have e1 : a'.eval (.tmp 12) = .pointer (some ⟨β 7, 0, none⟩) := e1
      have e2 : a'.eval (.tmp 13) = .pointer (some ⟨β 8, 0, none⟩) := e2
      have e3 : a'.eval (.tmp 14) = .pointer (some ⟨β 9, 0, none⟩) := e3
      rw [act_fresh hst [false, false, false, false, false, false, false, false, false, false, false, false, true, true, true, false, false, false, false, false, false, false, false, false, false, false, false, false, false, false, false, false, false, false, false, false, false, false, false, false, false, false, false, false, false, false, false, true, true, true, true, true, true, true, false, false, false, false, false, false, false, false, false, false, false, false, false, false, false, false, false, false, false, false, false, false, false, false, false, false, false, false, false, false, false, false, false, false, false, false, false, false, false, false, false, false, false, false, false, false, false, false, false, false, false, false, false, false, false, false, false, false, false, false, false, false] (by kernel_rfl) (by kernel_rfl)]
      simp only [fresh, e1, e2, e3]
      have hp := HP.out
      have HP2 : Hid (pC < β 7 ∧ pC < β 8 ∧ pC < β 9) := Lib.hid ⟨by omega, by omega, by omega⟩
      replace H := Lib.hid (H.out.old ho)
      replace O := Lib.hid (O.out.trans ho)
      go_wp2_with fail
      go_meet
      exact ⟨β 7, β 8, β 9, v1, v2, v3, o1, o2, o3, l1, l2, l3, c1, c2, c3, rfl, rfl, rfl, Lib.hid q1, Lib.hid q2, Lib.hid q3, Lib.hid g1, Lib.hid g2, Lib.hid g3, H, O, HP2⟩
  case rest =>
  clear H O HP
  obtain ⟨b1, b2, b3, v1, v2, v3, o1, o2, o3, l1, l2, l3, c1, c2, c3, rfl, rfl, rfl, T1, T2, T3, R1, R2, R3, H, O, HP⟩ := hcut
  have la := i64_lo hXi
  have lb := i64_lo hYi
  have lu : Lo 10000 := i64_lo (by decide)
  have aa := abs_lt hXi
  have ab := abs_lt hYi
  have l3 : Lo (X * Y) := lo_prod hXi hYi
  have l4 : Lo (X * 10000) := lo_of (by omega)
  have l5 := lo_mul4 hXi hYi
  have l7 := lo_quo hXi hYi
  have l8 := lo_div4 hXi hYi
  have T1L := Lib.hid T1.out.lt
  have T2L := Lib.hid T2.out.lt
  have T3L := Lib.hid T3.out.lt
  rcases hop with ⟨rfl, hR⟩ | ⟨rfl, hR⟩ | ⟨rfl, rfl, hR⟩ | ⟨rfl, rfl, hR⟩ | ⟨rfl, hY0, rfl, hR⟩ | ⟨rfl, hY0, rfl, hR⟩
  · as_aux_lemma =>
    have hc : ∀ W x y, RN W x X → RN W y Y → Calls Try.prog 42 #[x, y] W (RetI W R) := by subst hR; exact fun W x y h1 h2 => addI X Y x y W h1 h2 la.sm lb.sm
    have lR : Lo R := by subst hR; exact lo_of (by omega)
    have hI := fun W x h => intI R x W h lR
    clear hR l3 l4 l5 l7 l8 la lb lu aa ab lR
    by_cases hi : I64 R
    · have E1 := Lib.hid (fitE_in hi)
      have E2 : Hid (nmK K (fitE R) = K) := Lib.hid (by rw [E1.out]; rfl)
      have E3 : Hid (nmN (fitV R) (fitE R) = fitV R) := Lib.hid (by rw [E1.out]; rfl)
      have hI2 : ∀ W x, RN W x R → Calls Try.prog 47 #[x] W fun e w' => e = pr (fitV R) 0 ∧ Old W w' := by rw [← E1.out]; exact hI
      clear hI hi
      have OB := Lib.hid ((Old.refl wc).alloc (.cells #[.bool false, .slice none 0 0] 47))
      have Z1 := Lib.hid (T1.out.old OB.out)
      have Z2 := Lib.hid (T2.out.old OB.out)
      have Z3 := Lib.hid (T3.out.old OB.out)
      have RA := Lib.hid (R1.out.old OB.out)
      have RB := Lib.hid (R2.out.old OB.out)
      have RC := Lib.hid (R3.out.old OB.out)
      have Z4 := Lib.hid (Two.new wc (.bool false) (.slice none 0 0))
      have hy0 := (H.out.old OB.out).1.c1
      clear T1 T2 T3 R1 R2 R3
      have c10 := Z1.out.c0
      have c11 := Z1.out.c1
      have c20 := Z2.out.c0
      have c21 := Z2.out.c1
      have c30 := Z3.out.c0
      have c31 := Z3.out.c1
      go_wp2_with (first
        | (go_at_call 42; ((with_reducible refine (hc _ _ _ RA.out RB.out).mono ?_); clear c10 c11 c20 c21 c30 c31 hy0; rintro e w4 ⟨x, rfl, hx, o4⟩; obtain ⟨nz, oz, lz, cz, rfl⟩ := hx.form; have Z5 := Lib.hid (Z4.out.old o4); have f0 := Z5.out.f 0; have f1 := Z5.out.f 1; have c0 := Z5.out.c0; have c1 := Z5.out.c1; have Z6 := Lib.hid (Z5.out.set (.bool nz) (.slice oz lz cz)); have d0 := Z6.out.c0; have d1 := Z6.out.c1; have hx2 := Lib.hid (RN.two Z5.out hx (.bool nz) (.slice oz lz cz)); have O5 := Lib.hid ((((OB.out.trans o4).setCell (p := ⟨wc.heap.size, 0, none⟩) (Nat.le_refl _) (.bool nz)).setCell (p := ⟨wc.heap.size, 1, none⟩) (Nat.le_refl _) (.slice oz lz cz))); replace H := Lib.hid (H.out.old O5.out); replace O := Lib.hid (O.out.trans O5.out)))
        | (go_at_call 47; ((with_reducible refine (hI2 _ _ hx2.out).mono ?_); rintro e w6 ⟨rfl, o6⟩; clear c0 c1 f0 f1 d0 d1; replace H := Lib.hid (H.out.old o6); replace O := Lib.hid (O.out.trans o6); have P := Lib.hid H.out.2.2.2.2.1; have c0 := P.out.c0; have c1 := P.out.c1; have c2 := P.out.c2; have f0 := P.out.f 0; have f1 := P.out.f 1; have f2 := P.out.f 2)))
      have RR := P.out.set (.int .u8 K) (.int .i64 (fitV R)) (.string ⟨#[]⟩)
      exact bodyPost_ret (v := .tuple #[vl K (fitV R) ⟨#[]⟩, .int .i64 0]) (by simp [results, Try.results12, go_sem, RR.c0, RR.c1, RR.c2]) rfl ⟨by rw [E2.out, E3.out, E1.out], old3 O.out (by have := HC.out; have := HW.out; omega) _ _ _⟩
    · have E1 := Lib.hid (fitE_out hi)
      have E2 : Hid (nmK K (fitE R) = 0) := Lib.hid (by rw [E1.out]; rfl)
      have E3 : Hid (nmN (fitV R) (fitE R) = 0) := Lib.hid (by rw [E1.out]; rfl)
      have hI2 : ∀ W x, RN W x R → Calls Try.prog 47 #[x] W fun e w' => e = pr (fitV R) 9 ∧ Old W w' := by rw [← E1.out]; exact hI
      clear hI hi
      have OB := Lib.hid ((Old.refl wc).alloc (.cells #[.bool false, .slice none 0 0] 47))
      have Z1 := Lib.hid (T1.out.old OB.out)
      have Z2 := Lib.hid (T2.out.old OB.out)
      have Z3 := Lib.hid (T3.out.old OB.out)
      have RA := Lib.hid (R1.out.old OB.out)
      have RB := Lib.hid (R2.out.old OB.out)
      have RC := Lib.hid (R3.out.old OB.out)
      have Z4 := Lib.hid (Two.new wc (.bool false) (.slice none 0 0))
      have hy0 := (H.out.old OB.out).1.c1
      clear T1 T2 T3 R1 R2 R3
      have c10 := Z1.out.c0
      have c11 := Z1.out.c1
      have c20 := Z2.out.c0
      have c21 := Z2.out.c1
      have c30 := Z3.out.c0
      have c31 := Z3.out.c1
      go_wp2_with (first
        | (go_at_call 42; ((with_reducible refine (hc _ _ _ RA.out RB.out).mono ?_); clear c10 c11 c20 c21 c30 c31 hy0; rintro e w4 ⟨x, rfl, hx, o4⟩; obtain ⟨nz, oz, lz, cz, rfl⟩ := hx.form; have Z5 := Lib.hid (Z4.out.old o4); have f0 := Z5.out.f 0; have f1 := Z5.out.f 1; have c0 := Z5.out.c0; have c1 := Z5.out.c1; have Z6 := Lib.hid (Z5.out.set (.bool nz) (.slice oz lz cz)); have d0 := Z6.out.c0; have d1 := Z6.out.c1; have hx2 := Lib.hid (RN.two Z5.out hx (.bool nz) (.slice oz lz cz)); have O5 := Lib.hid ((((OB.out.trans o4).setCell (p := ⟨wc.heap.size, 0, none⟩) (Nat.le_refl _) (.bool nz)).setCell (p := ⟨wc.heap.size, 1, none⟩) (Nat.le_refl _) (.slice oz lz cz))); replace H := Lib.hid (H.out.old O5.out); replace O := Lib.hid (O.out.trans O5.out)))
        | (go_at_call 47; ((with_reducible refine (hI2 _ _ hx2.out).mono ?_); rintro e w6 ⟨rfl, o6⟩; clear c0 c1 f0 f1 d0 d1; replace H := Lib.hid (H.out.old o6); replace O := Lib.hid (O.out.trans o6); have P := Lib.hid H.out.2.2.2.2.1; have c0 := P.out.c0; have c1 := P.out.c1; have c2 := P.out.c2; have f0 := P.out.f 0; have f1 := P.out.f 1; have f2 := P.out.f 2)))
      have RR := P.out.set (.int .u8 0) (.int .i64 0) (.string ⟨#[]⟩)
      exact bodyPost_ret (v := .tuple #[vl 0 0 ⟨#[]⟩, .int .i64 9]) (by simp [results, Try.results12, go_sem, RR.c0, RR.c1, RR.c2]) rfl ⟨by rw [E2.out, E3.out, E1.out], old3 O.out (by have := HC.out; have := HW.out; omega) _ _ _⟩
  · as_aux_lemma =>
    have hc : ∀ W x y, RN W x X → RN W y Y → Calls Try.prog 43 #[x, y] W (RetI W R) := by subst hR; exact fun W x y h1 h2 => subI X Y x y W h1 h2 la.sm lb.sm
    have lR : Lo R := by subst hR; exact lo_of (by omega)
    have hI := fun W x h => intI R x W h lR
    clear hR l3 l4 l5 l7 l8 la lb lu aa ab lR
    by_cases hi : I64 R
    · have E1 := Lib.hid (fitE_in hi)
      have E2 : Hid (nmK K (fitE R) = K) := Lib.hid (by rw [E1.out]; rfl)
      have E3 : Hid (nmN (fitV R) (fitE R) = fitV R) := Lib.hid (by rw [E1.out]; rfl)
      have hI2 : ∀ W x, RN W x R → Calls Try.prog 47 #[x] W fun e w' => e = pr (fitV R) 0 ∧ Old W w' := by rw [← E1.out]; exact hI
      clear hI hi
      have OB := Lib.hid ((Old.refl wc).alloc (.cells #[.bool false, .slice none 0 0] 47))
      have Z1 := Lib.hid (T1.out.old OB.out)
      have Z2 := Lib.hid (T2.out.old OB.out)
      have Z3 := Lib.hid (T3.out.old OB.out)
      have RA := Lib.hid (R1.out.old OB.out)
      have RB := Lib.hid (R2.out.old OB.out)
      have RC := Lib.hid (R3.out.old OB.out)
      have Z4 := Lib.hid (Two.new wc (.bool false) (.slice none 0 0))
      have hy0 := (H.out.old OB.out).1.c1
      clear T1 T2 T3 R1 R2 R3
      have c10 := Z1.out.c0
      have c11 := Z1.out.c1
      have c20 := Z2.out.c0
      have c21 := Z2.out.c1
      have c30 := Z3.out.c0
      have c31 := Z3.out.c1
      go_wp2_with (first
        | (go_at_call 43; ((with_reducible refine (hc _ _ _ RA.out RB.out).mono ?_); clear c10 c11 c20 c21 c30 c31 hy0; rintro e w4 ⟨x, rfl, hx, o4⟩; obtain ⟨nz, oz, lz, cz, rfl⟩ := hx.form; have Z5 := Lib.hid (Z4.out.old o4); have f0 := Z5.out.f 0; have f1 := Z5.out.f 1; have c0 := Z5.out.c0; have c1 := Z5.out.c1; have Z6 := Lib.hid (Z5.out.set (.bool nz) (.slice oz lz cz)); have d0 := Z6.out.c0; have d1 := Z6.out.c1; have hx2 := Lib.hid (RN.two Z5.out hx (.bool nz) (.slice oz lz cz)); have O5 := Lib.hid ((((OB.out.trans o4).setCell (p := ⟨wc.heap.size, 0, none⟩) (Nat.le_refl _) (.bool nz)).setCell (p := ⟨wc.heap.size, 1, none⟩) (Nat.le_refl _) (.slice oz lz cz))); replace H := Lib.hid (H.out.old O5.out); replace O := Lib.hid (O.out.trans O5.out)))
        | (go_at_call 47; ((with_reducible refine (hI2 _ _ hx2.out).mono ?_); rintro e w6 ⟨rfl, o6⟩; clear c0 c1 f0 f1 d0 d1; replace H := Lib.hid (H.out.old o6); replace O := Lib.hid (O.out.trans o6); have P := Lib.hid H.out.2.2.2.2.1; have c0 := P.out.c0; have c1 := P.out.c1; have c2 := P.out.c2; have f0 := P.out.f 0; have f1 := P.out.f 1; have f2 := P.out.f 2)))
      have RR := P.out.set (.int .u8 K) (.int .i64 (fitV R)) (.string ⟨#[]⟩)
      exact bodyPost_ret (v := .tuple #[vl K (fitV R) ⟨#[]⟩, .int .i64 0]) (by simp [results, Try.results12, go_sem, RR.c0, RR.c1, RR.c2]) rfl ⟨by rw [E2.out, E3.out, E1.out], old3 O.out (by have := HC.out; have := HW.out; omega) _ _ _⟩
    · have E1 := Lib.hid (fitE_out hi)
      have E2 : Hid (nmK K (fitE R) = 0) := Lib.hid (by rw [E1.out]; rfl)
      have E3 : Hid (nmN (fitV R) (fitE R) = 0) := Lib.hid (by rw [E1.out]; rfl)
      have hI2 : ∀ W x, RN W x R → Calls Try.prog 47 #[x] W fun e w' => e = pr (fitV R) 9 ∧ Old W w' := by rw [← E1.out]; exact hI
      clear hI hi
      have OB := Lib.hid ((Old.refl wc).alloc (.cells #[.bool false, .slice none 0 0] 47))
      have Z1 := Lib.hid (T1.out.old OB.out)
      have Z2 := Lib.hid (T2.out.old OB.out)
      have Z3 := Lib.hid (T3.out.old OB.out)
      have RA := Lib.hid (R1.out.old OB.out)
      have RB := Lib.hid (R2.out.old OB.out)
      have RC := Lib.hid (R3.out.old OB.out)
      have Z4 := Lib.hid (Two.new wc (.bool false) (.slice none 0 0))
      have hy0 := (H.out.old OB.out).1.c1
      clear T1 T2 T3 R1 R2 R3
      have c10 := Z1.out.c0
      have c11 := Z1.out.c1
      have c20 := Z2.out.c0
      have c21 := Z2.out.c1
      have c30 := Z3.out.c0
      have c31 := Z3.out.c1
      go_wp2_with (first
        | (go_at_call 43; ((with_reducible refine (hc _ _ _ RA.out RB.out).mono ?_); clear c10 c11 c20 c21 c30 c31 hy0; rintro e w4 ⟨x, rfl, hx, o4⟩; obtain ⟨nz, oz, lz, cz, rfl⟩ := hx.form; have Z5 := Lib.hid (Z4.out.old o4); have f0 := Z5.out.f 0; have f1 := Z5.out.f 1; have c0 := Z5.out.c0; have c1 := Z5.out.c1; have Z6 := Lib.hid (Z5.out.set (.bool nz) (.slice oz lz cz)); have d0 := Z6.out.c0; have d1 := Z6.out.c1; have hx2 := Lib.hid (RN.two Z5.out hx (.bool nz) (.slice oz lz cz)); have O5 := Lib.hid ((((OB.out.trans o4).setCell (p := ⟨wc.heap.size, 0, none⟩) (Nat.le_refl _) (.bool nz)).setCell (p := ⟨wc.heap.size, 1, none⟩) (Nat.le_refl _) (.slice oz lz cz))); replace H := Lib.hid (H.out.old O5.out); replace O := Lib.hid (O.out.trans O5.out)))
        | (go_at_call 47; ((with_reducible refine (hI2 _ _ hx2.out).mono ?_); rintro e w6 ⟨rfl, o6⟩; clear c0 c1 f0 f1 d0 d1; replace H := Lib.hid (H.out.old o6); replace O := Lib.hid (O.out.trans o6); have P := Lib.hid H.out.2.2.2.2.1; have c0 := P.out.c0; have c1 := P.out.c1; have c2 := P.out.c2; have f0 := P.out.f 0; have f1 := P.out.f 1; have f2 := P.out.f 2)))
      have RR := P.out.set (.int .u8 0) (.int .i64 0) (.string ⟨#[]⟩)
      exact bodyPost_ret (v := .tuple #[vl 0 0 ⟨#[]⟩, .int .i64 9]) (by simp [results, Try.results12, go_sem, RR.c0, RR.c1, RR.c2]) rfl ⟨by rw [E2.out, E3.out, E1.out], old3 O.out (by have := HC.out; have := HW.out; omega) _ _ _⟩
  · as_aux_lemma =>
    have hc : ∀ W x y, RN W x X → RN W y Y → Calls Try.prog 44 #[x, y] W (RetI W R) := by subst hR; exact fun W x y h1 h2 => mulI X Y x y W h1 h2 la lb
    have lR : Lo R := by subst hR; exact l3
    have hI := fun W x h => intI R x W h lR
    clear hR l3 l4 l5 l7 l8 la lb lu aa ab lR
    by_cases hi : I64 R
    · have E1 := Lib.hid (fitE_in hi)
      have E2 : Hid (nmK 1 (fitE R) = 1) := Lib.hid (by rw [E1.out]; rfl)
      have E3 : Hid (nmN (fitV R) (fitE R) = fitV R) := Lib.hid (by rw [E1.out]; rfl)
      have hI2 : ∀ W x, RN W x R → Calls Try.prog 47 #[x] W fun e w' => e = pr (fitV R) 0 ∧ Old W w' := by rw [← E1.out]; exact hI
      clear hI hi
      have OB := Lib.hid ((Old.refl wc).alloc (.cells #[.bool false, .slice none 0 0] 47))
      have Z1 := Lib.hid (T1.out.old OB.out)
      have Z2 := Lib.hid (T2.out.old OB.out)
      have Z3 := Lib.hid (T3.out.old OB.out)
      have RA := Lib.hid (R1.out.old OB.out)
      have RB := Lib.hid (R2.out.old OB.out)
      have RC := Lib.hid (R3.out.old OB.out)
      have Z4 := Lib.hid (Two.new wc (.bool false) (.slice none 0 0))
      have hy0 := (H.out.old OB.out).1.c1
      clear T1 T2 T3 R1 R2 R3
      have c10 := Z1.out.c0
      have c11 := Z1.out.c1
      have c20 := Z2.out.c0
      have c21 := Z2.out.c1
      have c30 := Z3.out.c0
      have c31 := Z3.out.c1
      go_wp2_with (first
        | (go_at_call 44; ((with_reducible refine (hc _ _ _ RA.out RB.out).mono ?_); clear c10 c11 c20 c21 c30 c31 hy0; rintro e w4 ⟨x, rfl, hx, o4⟩; obtain ⟨nz, oz, lz, cz, rfl⟩ := hx.form; have Z5 := Lib.hid (Z4.out.old o4); have f0 := Z5.out.f 0; have f1 := Z5.out.f 1; have c0 := Z5.out.c0; have c1 := Z5.out.c1; have Z6 := Lib.hid (Z5.out.set (.bool nz) (.slice oz lz cz)); have d0 := Z6.out.c0; have d1 := Z6.out.c1; have hx2 := Lib.hid (RN.two Z5.out hx (.bool nz) (.slice oz lz cz)); have O5 := Lib.hid ((((OB.out.trans o4).setCell (p := ⟨wc.heap.size, 0, none⟩) (Nat.le_refl _) (.bool nz)).setCell (p := ⟨wc.heap.size, 1, none⟩) (Nat.le_refl _) (.slice oz lz cz))); replace H := Lib.hid (H.out.old O5.out); replace O := Lib.hid (O.out.trans O5.out)))
        | (go_at_call 47; ((with_reducible refine (hI2 _ _ hx2.out).mono ?_); rintro e w6 ⟨rfl, o6⟩; clear c0 c1 f0 f1 d0 d1; replace H := Lib.hid (H.out.old o6); replace O := Lib.hid (O.out.trans o6); have P := Lib.hid H.out.2.2.2.2.1; have c0 := P.out.c0; have c1 := P.out.c1; have c2 := P.out.c2; have f0 := P.out.f 0; have f1 := P.out.f 1; have f2 := P.out.f 2)))
      have RR := P.out.set (.int .u8 1) (.int .i64 (fitV R)) (.string ⟨#[]⟩)
      exact bodyPost_ret (v := .tuple #[vl 1 (fitV R) ⟨#[]⟩, .int .i64 0]) (by simp [results, Try.results12, go_sem, RR.c0, RR.c1, RR.c2]) rfl ⟨by rw [E2.out, E3.out, E1.out], old3 O.out (by have := HC.out; have := HW.out; omega) _ _ _⟩
    · have E1 := Lib.hid (fitE_out hi)
      have E2 : Hid (nmK 1 (fitE R) = 0) := Lib.hid (by rw [E1.out]; rfl)
      have E3 : Hid (nmN (fitV R) (fitE R) = 0) := Lib.hid (by rw [E1.out]; rfl)
      have hI2 : ∀ W x, RN W x R → Calls Try.prog 47 #[x] W fun e w' => e = pr (fitV R) 9 ∧ Old W w' := by rw [← E1.out]; exact hI
      clear hI hi
      have OB := Lib.hid ((Old.refl wc).alloc (.cells #[.bool false, .slice none 0 0] 47))
      have Z1 := Lib.hid (T1.out.old OB.out)
      have Z2 := Lib.hid (T2.out.old OB.out)
      have Z3 := Lib.hid (T3.out.old OB.out)
      have RA := Lib.hid (R1.out.old OB.out)
      have RB := Lib.hid (R2.out.old OB.out)
      have RC := Lib.hid (R3.out.old OB.out)
      have Z4 := Lib.hid (Two.new wc (.bool false) (.slice none 0 0))
      have hy0 := (H.out.old OB.out).1.c1
      clear T1 T2 T3 R1 R2 R3
      have c10 := Z1.out.c0
      have c11 := Z1.out.c1
      have c20 := Z2.out.c0
      have c21 := Z2.out.c1
      have c30 := Z3.out.c0
      have c31 := Z3.out.c1
      go_wp2_with (first
        | (go_at_call 44; ((with_reducible refine (hc _ _ _ RA.out RB.out).mono ?_); clear c10 c11 c20 c21 c30 c31 hy0; rintro e w4 ⟨x, rfl, hx, o4⟩; obtain ⟨nz, oz, lz, cz, rfl⟩ := hx.form; have Z5 := Lib.hid (Z4.out.old o4); have f0 := Z5.out.f 0; have f1 := Z5.out.f 1; have c0 := Z5.out.c0; have c1 := Z5.out.c1; have Z6 := Lib.hid (Z5.out.set (.bool nz) (.slice oz lz cz)); have d0 := Z6.out.c0; have d1 := Z6.out.c1; have hx2 := Lib.hid (RN.two Z5.out hx (.bool nz) (.slice oz lz cz)); have O5 := Lib.hid ((((OB.out.trans o4).setCell (p := ⟨wc.heap.size, 0, none⟩) (Nat.le_refl _) (.bool nz)).setCell (p := ⟨wc.heap.size, 1, none⟩) (Nat.le_refl _) (.slice oz lz cz))); replace H := Lib.hid (H.out.old O5.out); replace O := Lib.hid (O.out.trans O5.out)))
        | (go_at_call 47; ((with_reducible refine (hI2 _ _ hx2.out).mono ?_); rintro e w6 ⟨rfl, o6⟩; clear c0 c1 f0 f1 d0 d1; replace H := Lib.hid (H.out.old o6); replace O := Lib.hid (O.out.trans o6); have P := Lib.hid H.out.2.2.2.2.1; have c0 := P.out.c0; have c1 := P.out.c1; have c2 := P.out.c2; have f0 := P.out.f 0; have f1 := P.out.f 1; have f2 := P.out.f 2)))
      have RR := P.out.set (.int .u8 0) (.int .i64 0) (.string ⟨#[]⟩)
      exact bodyPost_ret (v := .tuple #[vl 0 0 ⟨#[]⟩, .int .i64 9]) (by simp [results, Try.results12, go_sem, RR.c0, RR.c1, RR.c2]) rfl ⟨by rw [E2.out, E3.out, E1.out], old3 O.out (by have := HC.out; have := HW.out; omega) _ _ _⟩
  · as_aux_lemma =>
    have hc : ∀ W x y, RN W x (X * Y) → RN W y 10000 → Calls Try.prog 45 #[x, y] W (RetI W R) := by subst hR; exact fun W x y h1 h2 => evenI (X * Y) 10000 x y W h1 h2 l3 lu (by decide)
    have hm : ∀ W x y, RN W x X → RN W y Y → Calls Try.prog 44 #[x, y] W (RetI W (X * Y)) := fun W x y h1 h2 => mulI X Y x y W h1 h2 la lb
    have lR : Lo R := by subst hR; exact l5
    have hI := fun W x h => intI R x W h lR
    clear hR l3 l4 l5 l7 l8 la lb lu aa ab lR
    by_cases hi : I64 R
    · have E1 := Lib.hid (fitE_in hi)
      have E2 : Hid (nmK 2 (fitE R) = 2) := Lib.hid (by rw [E1.out]; rfl)
      have E3 : Hid (nmN (fitV R) (fitE R) = fitV R) := Lib.hid (by rw [E1.out]; rfl)
      have hI2 : ∀ W x, RN W x R → Calls Try.prog 47 #[x] W fun e w' => e = pr (fitV R) 0 ∧ Old W w' := by rw [← E1.out]; exact hI
      clear hI hi
      have OB := Lib.hid ((Old.refl wc).alloc (.cells #[.bool false, .slice none 0 0] 47))
      have Z1 := Lib.hid (T1.out.old OB.out)
      have Z2 := Lib.hid (T2.out.old OB.out)
      have Z3 := Lib.hid (T3.out.old OB.out)
      have RA := Lib.hid (R1.out.old OB.out)
      have RB := Lib.hid (R2.out.old OB.out)
      have RC := Lib.hid (R3.out.old OB.out)
      have Z4 := Lib.hid (Two.new wc (.bool false) (.slice none 0 0))
      have hy0 := (H.out.old OB.out).1.c1
      clear T1 T2 T3 R1 R2 R3
      have c10 := Z1.out.c0
      have c11 := Z1.out.c1
      have c20 := Z2.out.c0
      have c21 := Z2.out.c1
      have c30 := Z3.out.c0
      have c31 := Z3.out.c1
      go_upto_region 22 with (fail)
      clear hy0
      have N1 := Lib.hid (Nat.ne_of_lt T1L.out)
      have N2 := Lib.hid (Nat.ne_of_lt T2L.out)
      have N3 := Lib.hid (Nat.ne_of_lt T3L.out)
      go_region_held3 (fun w' => w'.cell? ⟨b1, 0, none⟩ = some (.bool v1) ∧ w'.cell? ⟨b1, 1, none⟩ = some (.slice o1 l1 c1) ∧ w'.cell? ⟨b2, 0, none⟩ = some (.bool v2) ∧ w'.cell? ⟨b2, 1, none⟩ = some (.slice o2 l2 c2) ∧ w'.cell? ⟨b3, 0, none⟩ = some (.bool v3) ∧ w'.cell? ⟨b3, 1, none⟩ = some (.slice o3 l3 c3))
        (first | exact ⟨c10, c11, c20, c21, c30, c31⟩ | exact ⟨Y1.out.c0, Y1.out.c1, Y2.out.c0, Y2.out.c1, Y3.out.c0, Y3.out.c1⟩ | exact ⟨X1.out.c0, X1.out.c1, X2.out.c0, X2.out.c1, X3.out.c0, X3.out.c1⟩ | exact ⟨((X1.out.far (p := ⟨wc.heap.size, 0, none⟩) N1.out (.bool nz)).far (p := ⟨wc.heap.size, 1, none⟩) N1.out (.slice oz lz cz)).c0, ((X1.out.far (p := ⟨wc.heap.size, 0, none⟩) N1.out (.bool nz)).far (p := ⟨wc.heap.size, 1, none⟩) N1.out (.slice oz lz cz)).c1, ((X2.out.far (p := ⟨wc.heap.size, 0, none⟩) N2.out (.bool nz)).far (p := ⟨wc.heap.size, 1, none⟩) N2.out (.slice oz lz cz)).c0, ((X2.out.far (p := ⟨wc.heap.size, 0, none⟩) N2.out (.bool nz)).far (p := ⟨wc.heap.size, 1, none⟩) N2.out (.slice oz lz cz)).c1, ((X3.out.far (p := ⟨wc.heap.size, 0, none⟩) N3.out (.bool nz)).far (p := ⟨wc.heap.size, 1, none⟩) N3.out (.slice oz lz cz)).c0, ((X3.out.far (p := ⟨wc.heap.size, 0, none⟩) N3.out (.bool nz)).far (p := ⟨wc.heap.size, 1, none⟩) N3.out (.slice oz lz cz)).c1⟩ | go_keep)
        (first
          | (go_at_call 44; ((with_reducible refine (hm _ _ _ (RA.out.old (Old.refl _).drew) (RB.out.old (Old.refl _).drew)).mono ?_); clear c10 c11 c20 c21 c30 c31; rintro e w3 ⟨xm, rfl, hxm, o3'⟩; obtain ⟨nm, om, lm, cm, rfl⟩ := hxm.form; have o3' : Old (wc.alloc (.cells #[.bool false, .slice none 0 0] 47)) w3 := ((Old.refl _).drew).trans o3'; have HXM := Lib.hid hxm; have O3 := Lib.hid o3'; have Y1 := Lib.hid (Z1.out.old o3'); have Y2 := Lib.hid (Z2.out.old o3'); have Y3 := Lib.hid (Z3.out.old o3'); have Rt := Lib.hid (RC.out.old o3'); clear hxm o3'))
          | (go_at_call 45; ((with_reducible refine (hc _ _ _ HXM.out Rt.out).mono ?_); rintro e w4 ⟨x, rfl, hx, o4⟩; have X1 := Lib.hid (Y1.out.old o4); have X2 := Lib.hid (Y2.out.old o4); have X3 := Lib.hid (Y3.out.old o4); obtain ⟨nz, oz, lz, cz, rfl⟩ := hx.form; have Z5 := Lib.hid (Z4.out.old (O3.out.trans o4)); have f0 := Z5.out.f 0; have f1 := Z5.out.f 1; have c0 := Z5.out.c0; have c1 := Z5.out.c1; have Z6 := Lib.hid (Z5.out.set (.bool nz) (.slice oz lz cz)); have d0 := Z6.out.c0; have d1 := Z6.out.c1; have hx2 := Lib.hid (RN.two Z5.out hx (.bool nz) (.slice oz lz cz)); have O5 := Lib.hid ((((OB.out.trans (O3.out.trans o4)).setCell (p := ⟨wc.heap.size, 0, none⟩) (Nat.le_refl _) (.bool nz)).setCell (p := ⟨wc.heap.size, 1, none⟩) (Nat.le_refl _) (.slice oz lz cz))); replace H := Lib.hid (H.out.old O5.out); replace O := Lib.hid (O.out.trans O5.out))))
      go_wp2_with (first
        | (go_at_call 47; ((with_reducible refine (hI2 _ _ hx2.out).mono ?_); rintro e w6 ⟨rfl, o6⟩; clear c0 c1 f0 f1 d0 d1; replace H := Lib.hid (H.out.old o6); replace O := Lib.hid (O.out.trans o6); have P := Lib.hid H.out.2.2.2.2.1; have c0 := P.out.c0; have c1 := P.out.c1; have c2 := P.out.c2; have f0 := P.out.f 0; have f1 := P.out.f 1; have f2 := P.out.f 2)))
      have RR := P.out.set (.int .u8 2) (.int .i64 (fitV R)) (.string ⟨#[]⟩)
      exact bodyPost_ret (v := .tuple #[vl 2 (fitV R) ⟨#[]⟩, .int .i64 0]) (by simp [results, Try.results12, go_sem, RR.c0, RR.c1, RR.c2]) rfl ⟨by rw [E2.out, E3.out, E1.out], old3 O.out (by have := HC.out; have := HW.out; omega) _ _ _⟩
    · have E1 := Lib.hid (fitE_out hi)
      have E2 : Hid (nmK 2 (fitE R) = 0) := Lib.hid (by rw [E1.out]; rfl)
      have E3 : Hid (nmN (fitV R) (fitE R) = 0) := Lib.hid (by rw [E1.out]; rfl)
      have hI2 : ∀ W x, RN W x R → Calls Try.prog 47 #[x] W fun e w' => e = pr (fitV R) 9 ∧ Old W w' := by rw [← E1.out]; exact hI
      clear hI hi
      have OB := Lib.hid ((Old.refl wc).alloc (.cells #[.bool false, .slice none 0 0] 47))
      have Z1 := Lib.hid (T1.out.old OB.out)
      have Z2 := Lib.hid (T2.out.old OB.out)
      have Z3 := Lib.hid (T3.out.old OB.out)
      have RA := Lib.hid (R1.out.old OB.out)
      have RB := Lib.hid (R2.out.old OB.out)
      have RC := Lib.hid (R3.out.old OB.out)
      have Z4 := Lib.hid (Two.new wc (.bool false) (.slice none 0 0))
      have hy0 := (H.out.old OB.out).1.c1
      clear T1 T2 T3 R1 R2 R3
      have c10 := Z1.out.c0
      have c11 := Z1.out.c1
      have c20 := Z2.out.c0
      have c21 := Z2.out.c1
      have c30 := Z3.out.c0
      have c31 := Z3.out.c1
      go_upto_region 22 with (fail)
      clear hy0
      have N1 := Lib.hid (Nat.ne_of_lt T1L.out)
      have N2 := Lib.hid (Nat.ne_of_lt T2L.out)
      have N3 := Lib.hid (Nat.ne_of_lt T3L.out)
      go_region_held3 (fun w' => w'.cell? ⟨b1, 0, none⟩ = some (.bool v1) ∧ w'.cell? ⟨b1, 1, none⟩ = some (.slice o1 l1 c1) ∧ w'.cell? ⟨b2, 0, none⟩ = some (.bool v2) ∧ w'.cell? ⟨b2, 1, none⟩ = some (.slice o2 l2 c2) ∧ w'.cell? ⟨b3, 0, none⟩ = some (.bool v3) ∧ w'.cell? ⟨b3, 1, none⟩ = some (.slice o3 l3 c3))
        (first | exact ⟨c10, c11, c20, c21, c30, c31⟩ | exact ⟨Y1.out.c0, Y1.out.c1, Y2.out.c0, Y2.out.c1, Y3.out.c0, Y3.out.c1⟩ | exact ⟨X1.out.c0, X1.out.c1, X2.out.c0, X2.out.c1, X3.out.c0, X3.out.c1⟩ | exact ⟨((X1.out.far (p := ⟨wc.heap.size, 0, none⟩) N1.out (.bool nz)).far (p := ⟨wc.heap.size, 1, none⟩) N1.out (.slice oz lz cz)).c0, ((X1.out.far (p := ⟨wc.heap.size, 0, none⟩) N1.out (.bool nz)).far (p := ⟨wc.heap.size, 1, none⟩) N1.out (.slice oz lz cz)).c1, ((X2.out.far (p := ⟨wc.heap.size, 0, none⟩) N2.out (.bool nz)).far (p := ⟨wc.heap.size, 1, none⟩) N2.out (.slice oz lz cz)).c0, ((X2.out.far (p := ⟨wc.heap.size, 0, none⟩) N2.out (.bool nz)).far (p := ⟨wc.heap.size, 1, none⟩) N2.out (.slice oz lz cz)).c1, ((X3.out.far (p := ⟨wc.heap.size, 0, none⟩) N3.out (.bool nz)).far (p := ⟨wc.heap.size, 1, none⟩) N3.out (.slice oz lz cz)).c0, ((X3.out.far (p := ⟨wc.heap.size, 0, none⟩) N3.out (.bool nz)).far (p := ⟨wc.heap.size, 1, none⟩) N3.out (.slice oz lz cz)).c1⟩ | go_keep)
        (first
          | (go_at_call 44; ((with_reducible refine (hm _ _ _ (RA.out.old (Old.refl _).drew) (RB.out.old (Old.refl _).drew)).mono ?_); clear c10 c11 c20 c21 c30 c31; rintro e w3 ⟨xm, rfl, hxm, o3'⟩; obtain ⟨nm, om, lm, cm, rfl⟩ := hxm.form; have o3' : Old (wc.alloc (.cells #[.bool false, .slice none 0 0] 47)) w3 := ((Old.refl _).drew).trans o3'; have HXM := Lib.hid hxm; have O3 := Lib.hid o3'; have Y1 := Lib.hid (Z1.out.old o3'); have Y2 := Lib.hid (Z2.out.old o3'); have Y3 := Lib.hid (Z3.out.old o3'); have Rt := Lib.hid (RC.out.old o3'); clear hxm o3'))
          | (go_at_call 45; ((with_reducible refine (hc _ _ _ HXM.out Rt.out).mono ?_); rintro e w4 ⟨x, rfl, hx, o4⟩; have X1 := Lib.hid (Y1.out.old o4); have X2 := Lib.hid (Y2.out.old o4); have X3 := Lib.hid (Y3.out.old o4); obtain ⟨nz, oz, lz, cz, rfl⟩ := hx.form; have Z5 := Lib.hid (Z4.out.old (O3.out.trans o4)); have f0 := Z5.out.f 0; have f1 := Z5.out.f 1; have c0 := Z5.out.c0; have c1 := Z5.out.c1; have Z6 := Lib.hid (Z5.out.set (.bool nz) (.slice oz lz cz)); have d0 := Z6.out.c0; have d1 := Z6.out.c1; have hx2 := Lib.hid (RN.two Z5.out hx (.bool nz) (.slice oz lz cz)); have O5 := Lib.hid ((((OB.out.trans (O3.out.trans o4)).setCell (p := ⟨wc.heap.size, 0, none⟩) (Nat.le_refl _) (.bool nz)).setCell (p := ⟨wc.heap.size, 1, none⟩) (Nat.le_refl _) (.slice oz lz cz))); replace H := Lib.hid (H.out.old O5.out); replace O := Lib.hid (O.out.trans O5.out))))
      go_wp2_with (first
        | (go_at_call 47; ((with_reducible refine (hI2 _ _ hx2.out).mono ?_); rintro e w6 ⟨rfl, o6⟩; clear c0 c1 f0 f1 d0 d1; replace H := Lib.hid (H.out.old o6); replace O := Lib.hid (O.out.trans o6); have P := Lib.hid H.out.2.2.2.2.1; have c0 := P.out.c0; have c1 := P.out.c1; have c2 := P.out.c2; have f0 := P.out.f 0; have f1 := P.out.f 1; have f2 := P.out.f 2)))
      have RR := P.out.set (.int .u8 0) (.int .i64 0) (.string ⟨#[]⟩)
      exact bodyPost_ret (v := .tuple #[vl 0 0 ⟨#[]⟩, .int .i64 9]) (by simp [results, Try.results12, go_sem, RR.c0, RR.c1, RR.c2]) rfl ⟨by rw [E2.out, E3.out, E1.out], old3 O.out (by have := HC.out; have := HW.out; omega) _ _ _⟩
  · as_aux_lemma =>
    have hc : ∀ W x y, RN W x X → RN W y Y → Calls Try.prog 46 #[x, y] W (RetQI W R (X.tmod Y)) := by subst hR; exact fun W x y h1 h2 => quoI X Y x y W h1 h2 la lb hY0
    have hYf : (Y == 0) = false := by simpa using hY0
    have lR : Lo R := by subst hR; exact l7
    have hI := fun W x h => intI R x W h lR
    clear hR l3 l4 l5 l7 l8 la lb lu aa ab lR
    clear hY0
    by_cases hi : I64 R
    · have E1 := Lib.hid (fitE_in hi)
      have E2 : Hid (nmK 1 (fitE R) = 1) := Lib.hid (by rw [E1.out]; rfl)
      have E3 : Hid (nmN (fitV R) (fitE R) = fitV R) := Lib.hid (by rw [E1.out]; rfl)
      have hI2 : ∀ W x, RN W x R → Calls Try.prog 47 #[x] W fun e w' => e = pr (fitV R) 0 ∧ Old W w' := by rw [← E1.out]; exact hI
      clear hI hi
      have OB := Lib.hid ((Old.refl wc).alloc (.cells #[.bool false, .slice none 0 0] 47))
      have Z1 := Lib.hid (T1.out.old OB.out)
      have Z2 := Lib.hid (T2.out.old OB.out)
      have Z3 := Lib.hid (T3.out.old OB.out)
      have RA := Lib.hid (R1.out.old OB.out)
      have RB := Lib.hid (R2.out.old OB.out)
      have RC := Lib.hid (R3.out.old OB.out)
      have Z4 := Lib.hid (Two.new wc (.bool false) (.slice none 0 0))
      have hy0 := (H.out.old OB.out).1.c1
      clear T1 T2 T3 R1 R2 R3
      have c10 := Z1.out.c0
      have c11 := Z1.out.c1
      have c20 := Z2.out.c0
      have c21 := Z2.out.c1
      have c30 := Z3.out.c0
      have c31 := Z3.out.c1
      go_wp2_with (first
        | (go_at_call 46; ((with_reducible refine (hc _ _ _ RA.out RB.out).mono ?_); clear c10 c11 c20 c21 c30 c31 hy0; rintro e w4 ⟨x, y, rfl, hx, hy, o4⟩; obtain ⟨ny, oy, ly, cy, rfl⟩ := hy.form; obtain ⟨nz, oz, lz, cz, rfl⟩ := hx.form; have Z5 := Lib.hid (Z4.out.old o4); have f0 := Z5.out.f 0; have f1 := Z5.out.f 1; have c0 := Z5.out.c0; have c1 := Z5.out.c1; have Z6 := Lib.hid (Z5.out.set (.bool nz) (.slice oz lz cz)); have d0 := Z6.out.c0; have d1 := Z6.out.c1; have hx2 := Lib.hid (RN.two Z5.out hx (.bool nz) (.slice oz lz cz)); have O5 := Lib.hid ((((OB.out.trans o4).setCell (p := ⟨wc.heap.size, 0, none⟩) (Nat.le_refl _) (.bool nz)).setCell (p := ⟨wc.heap.size, 1, none⟩) (Nat.le_refl _) (.slice oz lz cz))); replace H := Lib.hid (H.out.old O5.out); replace O := Lib.hid (O.out.trans O5.out)))
        | (go_at_call 47; ((with_reducible refine (hI2 _ _ hx2.out).mono ?_); rintro e w6 ⟨rfl, o6⟩; clear c0 c1 f0 f1 d0 d1; replace H := Lib.hid (H.out.old o6); replace O := Lib.hid (O.out.trans o6); have P := Lib.hid H.out.2.2.2.2.1; have c0 := P.out.c0; have c1 := P.out.c1; have c2 := P.out.c2; have f0 := P.out.f 0; have f1 := P.out.f 1; have f2 := P.out.f 2)))
      have RR := P.out.set (.int .u8 1) (.int .i64 (fitV R)) (.string ⟨#[]⟩)
      exact bodyPost_ret (v := .tuple #[vl 1 (fitV R) ⟨#[]⟩, .int .i64 0]) (by simp [results, Try.results12, go_sem, RR.c0, RR.c1, RR.c2]) rfl ⟨by rw [E2.out, E3.out, E1.out], old3 O.out (by have := HC.out; have := HW.out; omega) _ _ _⟩
    · have E1 := Lib.hid (fitE_out hi)
      have E2 : Hid (nmK 1 (fitE R) = 0) := Lib.hid (by rw [E1.out]; rfl)
      have E3 : Hid (nmN (fitV R) (fitE R) = 0) := Lib.hid (by rw [E1.out]; rfl)
      have hI2 : ∀ W x, RN W x R → Calls Try.prog 47 #[x] W fun e w' => e = pr (fitV R) 9 ∧ Old W w' := by rw [← E1.out]; exact hI
      clear hI hi
      have OB := Lib.hid ((Old.refl wc).alloc (.cells #[.bool false, .slice none 0 0] 47))
      have Z1 := Lib.hid (T1.out.old OB.out)
      have Z2 := Lib.hid (T2.out.old OB.out)
      have Z3 := Lib.hid (T3.out.old OB.out)
      have RA := Lib.hid (R1.out.old OB.out)
      have RB := Lib.hid (R2.out.old OB.out)
      have RC := Lib.hid (R3.out.old OB.out)
      have Z4 := Lib.hid (Two.new wc (.bool false) (.slice none 0 0))
      have hy0 := (H.out.old OB.out).1.c1
      clear T1 T2 T3 R1 R2 R3
      have c10 := Z1.out.c0
      have c11 := Z1.out.c1
      have c20 := Z2.out.c0
      have c21 := Z2.out.c1
      have c30 := Z3.out.c0
      have c31 := Z3.out.c1
      go_wp2_with (first
        | (go_at_call 46; ((with_reducible refine (hc _ _ _ RA.out RB.out).mono ?_); clear c10 c11 c20 c21 c30 c31 hy0; rintro e w4 ⟨x, y, rfl, hx, hy, o4⟩; obtain ⟨ny, oy, ly, cy, rfl⟩ := hy.form; obtain ⟨nz, oz, lz, cz, rfl⟩ := hx.form; have Z5 := Lib.hid (Z4.out.old o4); have f0 := Z5.out.f 0; have f1 := Z5.out.f 1; have c0 := Z5.out.c0; have c1 := Z5.out.c1; have Z6 := Lib.hid (Z5.out.set (.bool nz) (.slice oz lz cz)); have d0 := Z6.out.c0; have d1 := Z6.out.c1; have hx2 := Lib.hid (RN.two Z5.out hx (.bool nz) (.slice oz lz cz)); have O5 := Lib.hid ((((OB.out.trans o4).setCell (p := ⟨wc.heap.size, 0, none⟩) (Nat.le_refl _) (.bool nz)).setCell (p := ⟨wc.heap.size, 1, none⟩) (Nat.le_refl _) (.slice oz lz cz))); replace H := Lib.hid (H.out.old O5.out); replace O := Lib.hid (O.out.trans O5.out)))
        | (go_at_call 47; ((with_reducible refine (hI2 _ _ hx2.out).mono ?_); rintro e w6 ⟨rfl, o6⟩; clear c0 c1 f0 f1 d0 d1; replace H := Lib.hid (H.out.old o6); replace O := Lib.hid (O.out.trans o6); have P := Lib.hid H.out.2.2.2.2.1; have c0 := P.out.c0; have c1 := P.out.c1; have c2 := P.out.c2; have f0 := P.out.f 0; have f1 := P.out.f 1; have f2 := P.out.f 2)))
      have RR := P.out.set (.int .u8 0) (.int .i64 0) (.string ⟨#[]⟩)
      exact bodyPost_ret (v := .tuple #[vl 0 0 ⟨#[]⟩, .int .i64 9]) (by simp [results, Try.results12, go_sem, RR.c0, RR.c1, RR.c2]) rfl ⟨by rw [E2.out, E3.out, E1.out], old3 O.out (by have := HC.out; have := HW.out; omega) _ _ _⟩
  · as_aux_lemma =>
    have hc : ∀ W x y, RN W x (X * 10000) → RN W y Y → Calls Try.prog 45 #[x, y] W (RetI W R) := by subst hR; exact fun W x y h1 h2 => evenI (X * 10000) Y x y W h1 h2 l4 lb hY0
    have hm : ∀ W x y, RN W x X → RN W y 10000 → Calls Try.prog 44 #[x, y] W (RetI W (X * 10000)) := fun W x y h1 h2 => mulI X 10000 x y W h1 h2 la lu
    have hYf : (Y == 0) = false := by simpa using hY0
    have lR : Lo R := by subst hR; exact l8
    have hI := fun W x h => intI R x W h lR
    clear hR l3 l4 l5 l7 l8 la lb lu aa ab lR
    clear hY0
    by_cases hi : I64 R
    · have E1 := Lib.hid (fitE_in hi)
      have E2 : Hid (nmK 2 (fitE R) = 2) := Lib.hid (by rw [E1.out]; rfl)
      have E3 : Hid (nmN (fitV R) (fitE R) = fitV R) := Lib.hid (by rw [E1.out]; rfl)
      have hI2 : ∀ W x, RN W x R → Calls Try.prog 47 #[x] W fun e w' => e = pr (fitV R) 0 ∧ Old W w' := by rw [← E1.out]; exact hI
      clear hI hi
      have OB := Lib.hid ((Old.refl wc).alloc (.cells #[.bool false, .slice none 0 0] 47))
      have Z1 := Lib.hid (T1.out.old OB.out)
      have Z2 := Lib.hid (T2.out.old OB.out)
      have Z3 := Lib.hid (T3.out.old OB.out)
      have RA := Lib.hid (R1.out.old OB.out)
      have RB := Lib.hid (R2.out.old OB.out)
      have RC := Lib.hid (R3.out.old OB.out)
      have Z4 := Lib.hid (Two.new wc (.bool false) (.slice none 0 0))
      have hy0 := (H.out.old OB.out).1.c1
      clear T1 T2 T3 R1 R2 R3
      have c10 := Z1.out.c0
      have c11 := Z1.out.c1
      have c20 := Z2.out.c0
      have c21 := Z2.out.c1
      have c30 := Z3.out.c0
      have c31 := Z3.out.c1
      go_upto_region 14 with (fail)
      clear hy0
      have N1 := Lib.hid (Nat.ne_of_lt T1L.out)
      have N2 := Lib.hid (Nat.ne_of_lt T2L.out)
      have N3 := Lib.hid (Nat.ne_of_lt T3L.out)
      go_region_held3 (fun w' => w'.cell? ⟨b1, 0, none⟩ = some (.bool v1) ∧ w'.cell? ⟨b1, 1, none⟩ = some (.slice o1 l1 c1) ∧ w'.cell? ⟨b2, 0, none⟩ = some (.bool v2) ∧ w'.cell? ⟨b2, 1, none⟩ = some (.slice o2 l2 c2) ∧ w'.cell? ⟨b3, 0, none⟩ = some (.bool v3) ∧ w'.cell? ⟨b3, 1, none⟩ = some (.slice o3 l3 c3))
        (first | exact ⟨c10, c11, c20, c21, c30, c31⟩ | exact ⟨Y1.out.c0, Y1.out.c1, Y2.out.c0, Y2.out.c1, Y3.out.c0, Y3.out.c1⟩ | exact ⟨X1.out.c0, X1.out.c1, X2.out.c0, X2.out.c1, X3.out.c0, X3.out.c1⟩ | exact ⟨((X1.out.far (p := ⟨wc.heap.size, 0, none⟩) N1.out (.bool nz)).far (p := ⟨wc.heap.size, 1, none⟩) N1.out (.slice oz lz cz)).c0, ((X1.out.far (p := ⟨wc.heap.size, 0, none⟩) N1.out (.bool nz)).far (p := ⟨wc.heap.size, 1, none⟩) N1.out (.slice oz lz cz)).c1, ((X2.out.far (p := ⟨wc.heap.size, 0, none⟩) N2.out (.bool nz)).far (p := ⟨wc.heap.size, 1, none⟩) N2.out (.slice oz lz cz)).c0, ((X2.out.far (p := ⟨wc.heap.size, 0, none⟩) N2.out (.bool nz)).far (p := ⟨wc.heap.size, 1, none⟩) N2.out (.slice oz lz cz)).c1, ((X3.out.far (p := ⟨wc.heap.size, 0, none⟩) N3.out (.bool nz)).far (p := ⟨wc.heap.size, 1, none⟩) N3.out (.slice oz lz cz)).c0, ((X3.out.far (p := ⟨wc.heap.size, 0, none⟩) N3.out (.bool nz)).far (p := ⟨wc.heap.size, 1, none⟩) N3.out (.slice oz lz cz)).c1⟩ | go_keep)
        (first
          | (go_at_call 44; ((with_reducible refine (hm _ _ _ (RA.out.old (Old.refl _).drew) (RC.out.old (Old.refl _).drew)).mono ?_); clear c10 c11 c20 c21 c30 c31; rintro e w3 ⟨xm, rfl, hxm, o3'⟩; obtain ⟨nm, om, lm, cm, rfl⟩ := hxm.form; have o3' : Old (wc.alloc (.cells #[.bool false, .slice none 0 0] 47)) w3 := ((Old.refl _).drew).trans o3'; have HXM := Lib.hid hxm; have O3 := Lib.hid o3'; have Y1 := Lib.hid (Z1.out.old o3'); have Y2 := Lib.hid (Z2.out.old o3'); have Y3 := Lib.hid (Z3.out.old o3'); have Rt := Lib.hid (RB.out.old o3'); clear hxm o3'))
          | (go_at_call 45; ((with_reducible refine (hc _ _ _ HXM.out Rt.out).mono ?_); rintro e w4 ⟨x, rfl, hx, o4⟩; have X1 := Lib.hid (Y1.out.old o4); have X2 := Lib.hid (Y2.out.old o4); have X3 := Lib.hid (Y3.out.old o4); obtain ⟨nz, oz, lz, cz, rfl⟩ := hx.form; have Z5 := Lib.hid (Z4.out.old (O3.out.trans o4)); have f0 := Z5.out.f 0; have f1 := Z5.out.f 1; have c0 := Z5.out.c0; have c1 := Z5.out.c1; have Z6 := Lib.hid (Z5.out.set (.bool nz) (.slice oz lz cz)); have d0 := Z6.out.c0; have d1 := Z6.out.c1; have hx2 := Lib.hid (RN.two Z5.out hx (.bool nz) (.slice oz lz cz)); have O5 := Lib.hid ((((OB.out.trans (O3.out.trans o4)).setCell (p := ⟨wc.heap.size, 0, none⟩) (Nat.le_refl _) (.bool nz)).setCell (p := ⟨wc.heap.size, 1, none⟩) (Nat.le_refl _) (.slice oz lz cz))); replace H := Lib.hid (H.out.old O5.out); replace O := Lib.hid (O.out.trans O5.out))))
      go_wp2_with (first
        | (go_at_call 47; ((with_reducible refine (hI2 _ _ hx2.out).mono ?_); rintro e w6 ⟨rfl, o6⟩; clear c0 c1 f0 f1 d0 d1; replace H := Lib.hid (H.out.old o6); replace O := Lib.hid (O.out.trans o6); have P := Lib.hid H.out.2.2.2.2.1; have c0 := P.out.c0; have c1 := P.out.c1; have c2 := P.out.c2; have f0 := P.out.f 0; have f1 := P.out.f 1; have f2 := P.out.f 2)))
      have RR := P.out.set (.int .u8 2) (.int .i64 (fitV R)) (.string ⟨#[]⟩)
      exact bodyPost_ret (v := .tuple #[vl 2 (fitV R) ⟨#[]⟩, .int .i64 0]) (by simp [results, Try.results12, go_sem, RR.c0, RR.c1, RR.c2]) rfl ⟨by rw [E2.out, E3.out, E1.out], old3 O.out (by have := HC.out; have := HW.out; omega) _ _ _⟩
    · have E1 := Lib.hid (fitE_out hi)
      have E2 : Hid (nmK 2 (fitE R) = 0) := Lib.hid (by rw [E1.out]; rfl)
      have E3 : Hid (nmN (fitV R) (fitE R) = 0) := Lib.hid (by rw [E1.out]; rfl)
      have hI2 : ∀ W x, RN W x R → Calls Try.prog 47 #[x] W fun e w' => e = pr (fitV R) 9 ∧ Old W w' := by rw [← E1.out]; exact hI
      clear hI hi
      have OB := Lib.hid ((Old.refl wc).alloc (.cells #[.bool false, .slice none 0 0] 47))
      have Z1 := Lib.hid (T1.out.old OB.out)
      have Z2 := Lib.hid (T2.out.old OB.out)
      have Z3 := Lib.hid (T3.out.old OB.out)
      have RA := Lib.hid (R1.out.old OB.out)
      have RB := Lib.hid (R2.out.old OB.out)
      have RC := Lib.hid (R3.out.old OB.out)
      have Z4 := Lib.hid (Two.new wc (.bool false) (.slice none 0 0))
      have hy0 := (H.out.old OB.out).1.c1
      clear T1 T2 T3 R1 R2 R3
      have c10 := Z1.out.c0
      have c11 := Z1.out.c1
      have c20 := Z2.out.c0
      have c21 := Z2.out.c1
      have c30 := Z3.out.c0
      have c31 := Z3.out.c1
      go_upto_region 14 with (fail)
      clear hy0
      have N1 := Lib.hid (Nat.ne_of_lt T1L.out)
      have N2 := Lib.hid (Nat.ne_of_lt T2L.out)
      have N3 := Lib.hid (Nat.ne_of_lt T3L.out)
      go_region_held3 (fun w' => w'.cell? ⟨b1, 0, none⟩ = some (.bool v1) ∧ w'.cell? ⟨b1, 1, none⟩ = some (.slice o1 l1 c1) ∧ w'.cell? ⟨b2, 0, none⟩ = some (.bool v2) ∧ w'.cell? ⟨b2, 1, none⟩ = some (.slice o2 l2 c2) ∧ w'.cell? ⟨b3, 0, none⟩ = some (.bool v3) ∧ w'.cell? ⟨b3, 1, none⟩ = some (.slice o3 l3 c3))
        (first | exact ⟨c10, c11, c20, c21, c30, c31⟩ | exact ⟨Y1.out.c0, Y1.out.c1, Y2.out.c0, Y2.out.c1, Y3.out.c0, Y3.out.c1⟩ | exact ⟨X1.out.c0, X1.out.c1, X2.out.c0, X2.out.c1, X3.out.c0, X3.out.c1⟩ | exact ⟨((X1.out.far (p := ⟨wc.heap.size, 0, none⟩) N1.out (.bool nz)).far (p := ⟨wc.heap.size, 1, none⟩) N1.out (.slice oz lz cz)).c0, ((X1.out.far (p := ⟨wc.heap.size, 0, none⟩) N1.out (.bool nz)).far (p := ⟨wc.heap.size, 1, none⟩) N1.out (.slice oz lz cz)).c1, ((X2.out.far (p := ⟨wc.heap.size, 0, none⟩) N2.out (.bool nz)).far (p := ⟨wc.heap.size, 1, none⟩) N2.out (.slice oz lz cz)).c0, ((X2.out.far (p := ⟨wc.heap.size, 0, none⟩) N2.out (.bool nz)).far (p := ⟨wc.heap.size, 1, none⟩) N2.out (.slice oz lz cz)).c1, ((X3.out.far (p := ⟨wc.heap.size, 0, none⟩) N3.out (.bool nz)).far (p := ⟨wc.heap.size, 1, none⟩) N3.out (.slice oz lz cz)).c0, ((X3.out.far (p := ⟨wc.heap.size, 0, none⟩) N3.out (.bool nz)).far (p := ⟨wc.heap.size, 1, none⟩) N3.out (.slice oz lz cz)).c1⟩ | go_keep)
        (first
          | (go_at_call 44; ((with_reducible refine (hm _ _ _ (RA.out.old (Old.refl _).drew) (RC.out.old (Old.refl _).drew)).mono ?_); clear c10 c11 c20 c21 c30 c31; rintro e w3 ⟨xm, rfl, hxm, o3'⟩; obtain ⟨nm, om, lm, cm, rfl⟩ := hxm.form; have o3' : Old (wc.alloc (.cells #[.bool false, .slice none 0 0] 47)) w3 := ((Old.refl _).drew).trans o3'; have HXM := Lib.hid hxm; have O3 := Lib.hid o3'; have Y1 := Lib.hid (Z1.out.old o3'); have Y2 := Lib.hid (Z2.out.old o3'); have Y3 := Lib.hid (Z3.out.old o3'); have Rt := Lib.hid (RB.out.old o3'); clear hxm o3'))
          | (go_at_call 45; ((with_reducible refine (hc _ _ _ HXM.out Rt.out).mono ?_); rintro e w4 ⟨x, rfl, hx, o4⟩; have X1 := Lib.hid (Y1.out.old o4); have X2 := Lib.hid (Y2.out.old o4); have X3 := Lib.hid (Y3.out.old o4); obtain ⟨nz, oz, lz, cz, rfl⟩ := hx.form; have Z5 := Lib.hid (Z4.out.old (O3.out.trans o4)); have f0 := Z5.out.f 0; have f1 := Z5.out.f 1; have c0 := Z5.out.c0; have c1 := Z5.out.c1; have Z6 := Lib.hid (Z5.out.set (.bool nz) (.slice oz lz cz)); have d0 := Z6.out.c0; have d1 := Z6.out.c1; have hx2 := Lib.hid (RN.two Z5.out hx (.bool nz) (.slice oz lz cz)); have O5 := Lib.hid ((((OB.out.trans (O3.out.trans o4)).setCell (p := ⟨wc.heap.size, 0, none⟩) (Nat.le_refl _) (.bool nz)).setCell (p := ⟨wc.heap.size, 1, none⟩) (Nat.le_refl _) (.slice oz lz cz))); replace H := Lib.hid (H.out.old O5.out); replace O := Lib.hid (O.out.trans O5.out))))
      go_wp2_with (first
        | (go_at_call 47; ((with_reducible refine (hI2 _ _ hx2.out).mono ?_); rintro e w6 ⟨rfl, o6⟩; clear c0 c1 f0 f1 d0 d1; replace H := Lib.hid (H.out.old o6); replace O := Lib.hid (O.out.trans o6); have P := Lib.hid H.out.2.2.2.2.1; have c0 := P.out.c0; have c1 := P.out.c1; have c2 := P.out.c2; have f0 := P.out.f 0; have f1 := P.out.f 1; have f2 := P.out.f 2)))
      have RR := P.out.set (.int .u8 0) (.int .i64 0) (.string ⟨#[]⟩)
      exact bodyPost_ret (v := .tuple #[vl 0 0 ⟨#[]⟩, .int .i64 9]) (by simp [results, Try.results12, go_sem, RR.c0, RR.c1, RR.c2]) rfl ⟨by rw [E2.out, E3.out, E1.out], old3 O.out (by have := HC.out; have := HW.out; omega) _ _ _⟩

end Go.Proofs.Ytmoomdikgfeifaa
