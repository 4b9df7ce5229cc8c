/- Layer eval: the law EvalIfs: its walk, where it does not go on. the law EvalIfs: its walk, where it goes on. -/
import Derived.Test.YtmkmafkkpigfpaaGreatDoorNB
set_option maxHeartbeats 6400000
namespace Go.Proofs.YtmkmafkkpigfpaaGreatDoor.V
open Go.ChangeShapes Go.WideShapes Go.ChangeAt Go.RowKit Go.Lib
set_option linter.unusedVariables false
set_option linter.unusedSimpArgs false
set_option maxRecDepth 100000
structure Iz (w W : World) (sf : Vl) : Prop where
  o : Old w W
  a : Bk W w.heap.size #[.int .u8 sf.k, .int .i64 sf.n, .string sf.s] 26
theorem Iz.old {w W W' : World} {sf : Vl} (h : Iz w W sf) (ho : Old W W') : Iz w W' sf := ⟨h.o.trans ho, h.a.old ho⟩
theorem Iz.new (w : World) (sf : Vl) : Iz w (w.alloc (.cells #[.int .u8 sf.k, .int .i64 sf.n, .string sf.s] 26)) sf := ⟨(Old.refl w).alloc _, Bk.new w _ _⟩
theorem ifs_long (s t : ByteArray) (self : Vl) (vars : List Bd) (vv : Value) (w : World) (hen : En w) (hv : BR w vv vars) (h : 200 < s.size ∨ 200 < t.size ∨ 40 < vars.length ∨ 300 < self.s.size) :
    Calls Tryz.prog 6 #[.string s, .string t, self.v, vv] w fun e w' => e = .returned (.bool true) ∧ Old w w' := by
  have HKN := hid (fun W (h : Old w W) => known_any W (hen.old h))
  have HE := hid (Iz.new w self)
  obtain ⟨oa, cap, rfl, v1, v2, _⟩ := hv
  obtain ⟨n, hn⟩ : ∃ n, n = vars.length := ⟨_, rfl⟩
  rw [← hn] at h v1 ⊢
  clear hen hn
  by_cases h0 : 200 < s.size
  · have h0' : (200 : Int) < (s.size : Int) := by omega
    clear h
    go_enter Tryz.func6, Tryz.ntmps6
    go_wp2_with (go_at_call 8; (with_reducible refine (HKN.out _ HE.out.o).mono ?_); rintro e w8 ⟨rfl, o8⟩; have O8 := hid ((HE.out.o).trans o8); clear o8)
    go_ret
    exact ⟨rfl, O8.out⟩
  · have h0' : ¬ (200 : Int) < (s.size : Int) := by omega
    by_cases h1 : 200 < t.size
    · have h1' : (200 : Int) < (t.size : Int) := by omega
      clear h
      go_enter Tryz.func6, Tryz.ntmps6
      go_wp2_with (go_at_call 8; (with_reducible refine (HKN.out _ HE.out.o).mono ?_); rintro e w8 ⟨rfl, o8⟩; have O8 := hid ((HE.out.o).trans o8); clear o8)
      go_ret
      exact ⟨rfl, O8.out⟩
    · have h1' : ¬ (200 : Int) < (t.size : Int) := by omega
      by_cases h2 : 40 < n
      · have h2' : (40 : Int) < (n : Int) := by omega
        clear h
        go_enter Tryz.func6, Tryz.ntmps6
        go_wp2_with (go_at_call 8; (with_reducible refine (HKN.out _ HE.out.o).mono ?_); rintro e w8 ⟨rfl, o8⟩; have O8 := hid ((HE.out.o).trans o8); clear o8)
        go_ret
        exact ⟨rfl, O8.out⟩
      · have h2' : ¬ (40 : Int) < (n : Int) := by omega
        have h3' : (300 : Int) < (self.s.size : Int) := by omega
        clear h
        go_enter Tryz.func6, Tryz.ntmps6
        go_wp2_with (go_at_call 8; (with_reducible refine (HKN.out _ HE.out.o).mono ?_); rintro e w8 ⟨rfl, o8⟩; have O8 := hid ((HE.out.o).trans o8); clear o8)
        go_ret
        exact ⟨rfl, O8.out⟩
theorem ifs_none (s t : ByteArray) (self : Vl) (vars : List Bd) (vv : Value) (w : World) (hen : En w) (hv : BR w vv vars) (h1 : s.size ≤ 200) (h2 : t.size ≤ 200) (h3 : vars.length ≤ 40) (h4 : self.s.size ≤ 300) {T1 T2 : List Nd} {ln1 cl1 E1 ln2 cl2 E2 : Int} (hR1 : readP s.data.toList = (T1, ln1, cl1, E1)) (hR2 : readP t.data.toList = (T2, ln2, cl2, E2)) (hE : ¬ E1 = 0 ∨ ¬ E2 = 0) :
    Calls Tryz.prog 6 #[.string s, .string t, self.v, vv] w fun e w' => e = .returned (.bool true) ∧ Old w w' := by
  have HKN := hid (fun W (h : Old w W) => known_any W (hen.old h))
  have HE := hid (Iz.new w self)
  have HR1 := hid (fun W => qread_tw s W (by omega) ⟨trivial⟩ hR1)
  have HR2 := hid (fun W => qread_tw t W (by omega) ⟨trivial⟩ hR2)
  obtain ⟨oa, cap, rfl, v1, v2, HVA0⟩ := hv
  obtain ⟨n, hn⟩ : ∃ n, n = vars.length := ⟨_, rfl⟩
  obtain ⟨m1, hm1⟩ : ∃ m, m = T1.length := ⟨_, rfl⟩
  obtain ⟨m2, hm2⟩ : ∃ m, m = T2.length := ⟨_, rfl⟩
  have HNN := hid hn
  have HVA := hid HVA0
  rw [← hn] at h3 v1 ⊢
  rw [← hm1] at HR1
  rw [← hm2] at HR2
  have h1' : ¬ (200 : Int) < (s.size : Int) := by omega
  have h2' : ¬ (200 : Int) < (t.size : Int) := by omega
  have h3' : ¬ (40 : Int) < (n : Int) := by omega
  have h4' : ¬ (300 : Int) < (self.s.size : Int) := by omega
  clear hen hn hm1 hm2 hR1 hR2 HVA0
  go_enter Tryz.func6, Tryz.ntmps6
  go_wp2
  go_loopw [48] (fun i wr => ∃ k : Nat, k ≤ n ∧ i = .int .i64 (k : Int) ∧ Hid (Iz w wr self)) (fun i _ => (n - intOf i).toNat)
  case atStart => exact ⟨0, Nat.zero_le _, rfl, HE⟩
  case round =>
    clear HE
    obtain ⟨k, hk, rfl, HE⟩ := hrel
    by_cases hkn : k < n
    · obtain ⟨b, hb⟩ : ∃ b, vars[k]? = some b := ⟨_, List.getElem?_eq_getElem (by rw [← HNN.out]; exact hkn)⟩
      obtain ⟨gb, go, rfl, hgb, x0, x1, x2, x3⟩ := HVA.out k b hb
      have y3 := (HE.out.o.cell hgb).trans x3
      obtain ⟨bnm, ⟨bk, bn, bs⟩⟩ := b
      simp only at y3
      clear x0 x1 x2 x3 hb
      by_cases hbs : 300 < bs.size
      · have hbs' : (300 : Int) < (bs.size : Int) := by omega
        go_wp2_with (go_at_call 8; (with_reducible refine (HKN.out _ HE.out.o).mono ?_); rintro e w8 ⟨rfl, o8⟩; have O8 := hid ((HE.out.o).trans o8); clear o8)
        go_ret
        exact ⟨rfl, O8.out⟩
      · have hbs' : ¬ (300 : Int) < (bs.size : Int) := by omega
        go_wp2
        refine ⟨⟨k + 1, hkn, rfl, hid (HE.out.old (Old.refl _))⟩, by simp only [intOf]; omega⟩
    · obtain rfl : k = n := by omega
      by_cases hE1 : E1 = 0
      · subst hE1
        have hE2' : (E2 == 0) = false := beq_false_of_ne (by omega)
        clear hE
        go_wp2_with (first
          | (go_at_call 7; (with_reducible refine (HR1.out _).mono ?_); rintro e w1 ⟨oa1, ca1, rfl, t1, o1⟩; have O1 := hid (HE.out.o.trans (o1.trans ((Old.refl w1).alloc (.cells #[.int .i64 ln1, .int .i64 cl1] 31)))); clear o1 t1)
          | (go_at_call 7; (with_reducible refine (HR2.out _).mono ?_); rintro e w2 ⟨oa2, ca2, rfl, t2, o2⟩; have O2 := hid (O1.out.trans (o2.trans ((Old.refl w2).alloc (.cells #[.int .i64 ln2, .int .i64 cl2] 31)))); clear o2 t2)
          | (go_at_call 8; (with_reducible refine (HKN.out _ O2.out).mono ?_); rintro e w8 ⟨rfl, o8⟩; have O8 := hid ((O2.out).trans o8); clear o8))
        go_ret
        exact ⟨rfl, O8.out⟩
      · have hE1' : (E1 == 0) = false := beq_false_of_ne hE1
        clear hE
        go_wp2_with (first
          | (go_at_call 7; (with_reducible refine (HR1.out _).mono ?_); rintro e w1 ⟨oa1, ca1, rfl, t1, o1⟩; have O1 := hid (HE.out.o.trans (o1.trans ((Old.refl w1).alloc (.cells #[.int .i64 ln1, .int .i64 cl1] 31)))); clear o1 t1)
          | (go_at_call 7; (with_reducible refine (HR2.out _).mono ?_); rintro e w2 ⟨oa2, ca2, rfl, t2, o2⟩; have O2 := hid (O1.out.trans (o2.trans ((Old.refl w2).alloc (.cells #[.int .i64 ln2, .int .i64 cl2] 31)))); clear o2 t2)
          | (go_at_call 8; (with_reducible refine (HKN.out _ O2.out).mono ?_); rintro e w8 ⟨rfl, o8⟩; have O8 := hid ((O2.out).trans o8); clear o8))
        go_ret
        exact ⟨rfl, O8.out⟩
def Qe (self : Vl) (vars : List Bd) (b : ByteArray) (a : An) : Prop := b.size ≤ 60000 ∧ ∃ T ln cl E, readP b.data.toList = (T, ln, cl, E) ∧ (E = 0 → valA (absT T) self vars = a)
theorem few_k {l : List UInt8} (hl : l.length ≤ 60000) {T : List Nd} {ln cl E : Int} (hR : readP l = (T, ln, cl, E)) (hE : E = 0) : ∀ x ∈ absT T, x.ks.length ≤ 100000 := fun y hy => by
  subst hE
  obtain ⟨_, _, _, _, hok, _⟩ := readP_good hl hR
  obtain ⟨x, hx, _, e⟩ := abs_mem hy
  have hk := (hok x hx).many
  have : (kidN x.op).2 ≤ 100000 := by
    unfold kidN
    repeat' split
    all_goals simp
  omega
abbrev ifB (p s t : ByteArray) : ByteArray := p ++ (⟨#[44, 32, 40]⟩ ++ s ++ ⟨#[10, 41, 44, 32, 40]⟩ ++ t ++ ⟨#[10, 41, 41]⟩)
theorem if_bytes (p s t : ByteArray) : (ifB p s t).data.toList = p.data.toList ++ 44 :: 32 :: 40 :: (s.data.toList ++ 10 :: 41 :: 44 :: 32 :: 40 :: (t.data.toList ++ [10, 41, 41])) := by
  unfold ifB
  simp only [ByteArray.data_append, Array.toList_append, List.append_assoc, List.cons_append, List.nil_append]
theorem if_size (p s t : ByteArray) : (ifB p s t).size = p.size + s.size + t.size + 11 := by
  have h : (ifB p s t).data.toList.length = (p.data.toList ++ 44 :: 32 :: 40 :: (s.data.toList ++ 10 :: 41 :: 44 :: 32 :: 40 :: (t.data.toList ++ [10, 41, 41]))).length := by rw [if_bytes]
  have h1 : (ifB p s t).data.toList.length = (ifB p s t).size := Array.length_toList
  have h2 : s.data.toList.length = s.size := Array.length_toList
  have h3 : t.data.toList.length = t.size := Array.length_toList
  have h4 : p.data.toList.length = p.size := Array.length_toList
  simp only [List.length_append, List.length_cons, List.length_nil] at h
  omega
theorem if_qe {c : List UInt8} {kc : Tk} {n : Nd} (hc : Cst c kc n) (hn : n.op = 1) (p s t : ByteArray) (self : Vl) (vars : List Bd) (hp : p.data.toList = 105 :: 102 :: 40 :: c) (hps : p.size ≤ 100) (hs : s.size ≤ 200) (ht : t.size ≤ 200) {T1 T2 : List Nd} (h1 : readP s.data.toList = (T1, 0, 0, 0)) (h2 : readP t.data.toList = (T2, 0, 0, 0)) {a : An}
    (ha : (ifA fun i => if i = 0 then properA ⟨n.vk, n.vn, st n.vs⟩ else if i = 1 then valA (absT T1) self vars else if i = 2 then valA (absT T2) self vars else anE 0) = a) : Qe self vars (ifB p s t) a := by
  have l1 : s.data.toList.length = s.size := Array.length_toList
  have l2 : t.data.toList.length = t.size := Array.length_toList
  have hb : (ifB p s t).data.toList = ifO c s.data.toList t.data.toList := by
    rw [if_bytes, hp]
    rfl
  refine ⟨by rw [if_size]; omega, ?_⟩
  rw [hb]
  rcases if_read hc (by omega) (by omega) h1 h2 with ⟨ln, cl, E, hE, hr⟩ | ⟨lit, ns1, ns2, nd, hr, e1, e2, e3, e4, e5⟩
  · exact ⟨_, _, _, _, hr, fun h => absurd h hE⟩
  · refine ⟨_, _, _, _, hr, fun _ => ?_⟩
    rw [if_value self vars e1 hn e2 e3 ((readP_good (by omega) h1).2.2.2.1) ((readP_good (by omega) h2).2.2.2.1) e4 e5]
    exact ha
def Qs (w : World) (g : Nat) (l : List (ByteArray × An)) : Prop := g < w.heap.size ∧ ∀ k b a, l[k]? = some (b, a) → w.cell? ⟨g, k * 5, none⟩ = some (.string b) ∧ w.cell? ⟨g, k * 5 + 1, none⟩ = some (.int .u8 a.v.k) ∧ w.cell? ⟨g, k * 5 + 2, none⟩ = some (.int .i64 a.v.n) ∧ w.cell? ⟨g, k * 5 + 3, none⟩ = some (.string a.v.s) ∧ w.cell? ⟨g, k * 5 + 4, none⟩ = some (.int .i64 a.e)
theorem Qs.new (w : World) (b0 b1 b2 b3 : ByteArray) (a0 a1 a2 a3 : An) : Qs (w.alloc (.cells #[.string b0, .int .u8 a0.v.k, .int .i64 a0.v.n, .string a0.v.s, .int .i64 a0.e, .string b1, .int .u8 a1.v.k, .int .i64 a1.v.n, .string a1.v.s, .int .i64 a1.e, .string b2, .int .u8 a2.v.k, .int .i64 a2.v.n, .string a2.v.s, .int .i64 a2.e, .string b3, .int .u8 a3.v.k, .int .i64 a3.v.n, .string a3.v.s, .int .i64 a3.e] 56)) w.heap.size [(b0, a0), (b1, a1), (b2, a2), (b3, a3)] := by
  have h := Bk.new w #[.string b0, .int .u8 a0.v.k, .int .i64 a0.v.n, .string a0.v.s, .int .i64 a0.e, .string b1, .int .u8 a1.v.k, .int .i64 a1.v.n, .string a1.v.s, .int .i64 a1.e, .string b2, .int .u8 a2.v.k, .int .i64 a2.v.n, .string a2.v.s, .int .i64 a2.e, .string b3, .int .u8 a3.v.k, .int .i64 a3.v.n, .string a3.v.s, .int .i64 a3.e] 56
  refine ⟨h.lt, fun k b a hk => ?_⟩
  match k, hk with
  | 0, hk => injection hk with hk; injection hk with e1 e2; subst e1 e2; exact ⟨h.c 0, h.c 1, h.c 2, h.c 3, h.c 4⟩
  | 1, hk => injection hk with hk; injection hk with e1 e2; subst e1 e2; exact ⟨h.c 5, h.c 6, h.c 7, h.c 8, h.c 9⟩
  | 2, hk => injection hk with hk; injection hk with e1 e2; subst e1 e2; exact ⟨h.c 10, h.c 11, h.c 12, h.c 13, h.c 14⟩
  | 3, hk => injection hk with hk; injection hk with e1 e2; subst e1 e2; exact ⟨h.c 15, h.c 16, h.c 17, h.c 18, h.c 19⟩
  | k + 4, hk => cases hk
theorem Qs.old {w w' : World} {g : Nat} {l : List (ByteArray × An)} (h : Qs w g l) (ho : Old w w') : Qs w' g l :=
  ⟨Nat.lt_of_lt_of_le h.1 ho.size, fun k b a hk => by
    obtain ⟨a0, a1, a2, a3, a4⟩ := h.2 k b a hk
    exact ⟨(ho.cell (p := ⟨g, k * 5, none⟩) h.1).trans a0, (ho.cell (p := ⟨g, k * 5 + 1, none⟩) h.1).trans a1, (ho.cell (p := ⟨g, k * 5 + 2, none⟩) h.1).trans a2, (ho.cell (p := ⟨g, k * 5 + 3, none⟩) h.1).trans a3, (ho.cell (p := ⟨g, k * 5 + 4, none⟩) h.1).trans a4⟩⟩
theorem ifs_main (s t : ByteArray) (self : Vl) (vars : List Bd) (vv : Value) (w : World) (hen : En w) (hv : BR w vv vars) (h1 : s.size ≤ 200) (h2 : t.size ≤ 200) (h3 : vars.length ≤ 40) (h4 : self.s.size ≤ 300) (hs : I64 self.n) (hvn : ∀ b ∈ vars, I64 b.v.n) {T1 T2 : List Nd} (hR1 : readP s.data.toList = (T1, 0, 0, 0)) (hR2 : readP t.data.toList = (T2, 0, 0, 0)) :
    Calls Tryz.prog 6 #[.string s, .string t, self.v, vv] w fun e w' => e = .returned (.bool true) ∧ Old w w' := by
  have hz1 : s.data.toList.length = s.size := Array.length_toList
  have hz2 : t.data.toList.length = t.size := Array.length_toList
  have HKN := hid (fun W (h : Old w W) => known_any W (hen.old h))
  have HE := hid (Iz.new w self)
  have HR1 := hid (fun W => qread_tw s W (by omega) ⟨trivial⟩ hR1)
  have HR2 := hid (fun W => qread_tw t W (by omega) ⟨trivial⟩ hR2)
  have HV := hid hv
  have HVL := hid (fun (l : List UInt8) (hl : l.length ≤ 60000) (T : List Nd) (ln cl : Int) (hR : readP l = (T, ln, cl, 0)) (W : World) (vt : Value) (hW : Old w W) (ht : Tw W vt T) =>
    tree_value W self vars ht (hv.old hW) (hen.old hW) (readP_small hl hR).1 (readP_small hl hR).2 (few_k hl hR rfl) (read_vn hl hR) hs hvn)
  have HV1 := hid (HVL.out _ (by omega) T1 0 0 hR1)
  have HV2 := hid (HVL.out _ (by omega) T2 0 0 hR2)
  have HQ0 := hid (if_qe cst_true rfl ⟨#[105, 102, 40, 116, 114, 117, 101]⟩ s t self vars rfl (by decide) h1 h2 hR1 hR2 (ifv_true _ _))
  have HQ1 := hid (if_qe cst_false rfl ⟨#[105, 102, 40, 102, 97, 108, 115, 101]⟩ s t self vars rfl (by decide) h1 h2 hR1 hR2 (ifv_false _ _))
  have HQ2 := hid (if_qe cst_null rfl ⟨#[105, 102, 40, 110, 117, 108, 108]⟩ s t self vars rfl (by decide) h1 h2 hR1 hR2 (ifv_null _ _))
  have HQ3 := hid (if_qe cst_one rfl ⟨#[105, 102, 40, 49]⟩ s t self vars rfl (by decide) h1 h2 hR1 hR2 (ifv_one _ _))
  generalize valA (absT T1) self vars = Z1 at *
  generalize valA (absT T2) self vars = Z2 at *
  obtain ⟨oa, cap, rfl, v1, v2, HVA0⟩ := hv
  obtain ⟨n, hn⟩ : ∃ n, n = vars.length := ⟨_, rfl⟩
  obtain ⟨m1, hm1⟩ : ∃ m, m = T1.length := ⟨_, rfl⟩
  obtain ⟨m2, hm2⟩ : ∃ m, m = T2.length := ⟨_, rfl⟩
  have HNN := hid hn
  have HVA := hid HVA0
  rw [← hn] at h3 v1 HVL HV HV1 HV2 ⊢
  rw [← hm1] at HR1
  rw [← hm2] at HR2
  have h1' : ¬ (200 : Int) < (s.size : Int) := by omega
  have h2' : ¬ (200 : Int) < (t.size : Int) := by omega
  have h3' : ¬ (40 : Int) < (n : Int) := by omega
  have h4' : ¬ (300 : Int) < (self.s.size : Int) := by omega
  clear hen hn hm1 hm2 hR1 hR2 HVA0 hs hvn hz1 hz2
  go_enter Tryz.func6, Tryz.ntmps6
  go_wp2
  go_loopw [48] (fun i wr => ∃ k : Nat, k ≤ n ∧ i = .int .i64 (k : Int) ∧ Hid (Iz w wr self)) (fun i _ => (n - intOf i).toNat)
  case atStart => exact ⟨0, Nat.zero_le _, rfl, HE⟩
  case round =>
    clear HE
    obtain ⟨k, hk, rfl, HE⟩ := hrel
    by_cases hkn : k < n
    · obtain ⟨b, hb⟩ : ∃ b, vars[k]? = some b := ⟨_, List.getElem?_eq_getElem (by rw [← HNN.out]; exact hkn)⟩
      obtain ⟨gb, go, rfl, hgb, x0, x1, x2, x3⟩ := HVA.out k b hb
      have y3 := (HE.out.o.cell hgb).trans x3
      obtain ⟨bnm, ⟨bk, bn, bs⟩⟩ := b
      simp only at y3
      clear x0 x1 x2 x3 hb
      by_cases hbs : 300 < bs.size
      · have hbs' : (300 : Int) < (bs.size : Int) := by omega
        go_wp2_with (go_at_call 8; (with_reducible refine (HKN.out _ HE.out.o).mono ?_); rintro e w8 ⟨rfl, o8⟩; have O8 := hid ((HE.out.o).trans o8); clear o8)
        go_ret
        exact ⟨rfl, O8.out⟩
      · have hbs' : ¬ (300 : Int) < (bs.size : Int) := by omega
        go_wp2
        refine ⟨⟨k + 1, hkn, rfl, hid (HE.out.old (Old.refl _))⟩, by simp only [intOf]; omega⟩
    · obtain rfl : k = n := by omega
      obtain ⟨⟨z1k, z1n, z1s⟩, z1e⟩ := Z1
      obtain ⟨⟨z2k, z2n, z2s⟩, z2e⟩ := Z2
      clear HVA
      go_upto_region 15 with (first
        | (go_at_call 7; (with_reducible refine (HR1.out _).mono ?_); rintro e w1 ⟨oa1, ca1, rfl, t1, o1⟩; have q1 := (Old.refl w1).alloc (.cells #[.int .i64 0, .int .i64 0] 31); have I1 := hid (HE.out.old (o1.trans q1)); have T1' := hid (t1.out.old q1); clear o1 t1 q1)
        | (go_at_call 7; (with_reducible refine (HR2.out _).mono ?_); rintro e w2 ⟨oa2, ca2, rfl, t2, o2⟩; have q2 := (Old.refl w2).alloc (.cells #[.int .i64 0, .int .i64 0] 31); have I2 := hid (I1.out.old (o2.trans q2)); have T2' := hid (t2.out.old q2); have T1'' := hid (T1'.out.old (o2.trans q2)); clear o2 t2 q2; have s0 := I2.out.a.c 0; have s1 := I2.out.a.c 1; have s2 := I2.out.a.c 2)
        | (go_at_call 11; (with_reducible refine (HV1.out _ _ I2.out.o T1''.out).mono ?_); rintro e w3 ⟨rfl, o3⟩; have q3 := o3.alloc (.cells #[.int .u8 z1k, .int .i64 z1n, .string z1s] 26); have I3 := hid (I2.out.old q3); have B1 := hid (Three.new w3 (.int .u8 z1k) (.int .i64 z1n) (.string z1s)); have T2'' := hid (T2'.out.old q3); clear o3 q3 s0 s1 s2; have s0 := I3.out.a.c 0; have s1 := I3.out.a.c 1; have s2 := I3.out.a.c 2)
        | (go_at_call 11; (with_reducible refine (HV2.out _ _ I3.out.o T2''.out).mono ?_); rintro e w4 ⟨rfl, o4⟩; have q4 := o4.alloc (.cells #[.int .u8 z2k, .int .i64 z2n, .string z2s] 26); have I4 := hid (I3.out.old q4); have B1' := hid (B1.out.old q4); have B2 := hid (Three.new w4 (.int .u8 z2k) (.int .i64 z2n) (.string z2s)); clear o4 q4 s0 s1 s2))
      generalize w4.alloc (.cells #[.int .u8 z2k, .int .i64 z2n, .string z2s] 26) = W4 at *
      have c0 := B1'.out.c0; have c1 := B1'.out.c1; have c2 := B1'.out.c2
      have d0 := B2.out.c0; have d1 := B2.out.c1; have d2 := B2.out.c2
      clear HR1 HR2 HV1 HV2 HE I1 I2 I3 T1' T2' T1'' T2'' B1
      obtain ⟨L, hL⟩ : ∃ L : List (ByteArray × An), L = [(ifB ⟨#[105, 102, 40, 116, 114, 117, 101]⟩ s t, an0 z1k z1n z1s z1e), (ifB ⟨#[105, 102, 40, 102, 97, 108, 115, 101]⟩ s t, an0 z2k z2n z2s z2e), (ifB ⟨#[105, 102, 40, 110, 117, 108, 108]⟩ s t, anE 0), (ifB ⟨#[105, 102, 40, 49]⟩ s t, anE 8)] := ⟨_, rfl⟩
      have HQS := hid (Qs.new W4 (ifB ⟨#[105, 102, 40, 116, 114, 117, 101]⟩ s t) (ifB ⟨#[105, 102, 40, 102, 97, 108, 115, 101]⟩ s t) (ifB ⟨#[105, 102, 40, 110, 117, 108, 108]⟩ s t) (ifB ⟨#[105, 102, 40, 49]⟩ s t) (an0 z1k z1n z1s z1e) (an0 z2k z2n z2s z2e) (anE 0) (anE 8))
      rw [← hL] at HQS
      have HQA := hid (show ∀ k < 4, ∃ b a, L[k]? = some (b, a) ∧ Qe self vars b a from fun k hk => by
        rw [hL]
        match k, hk with
        | 0, _ => exact ⟨_, _, rfl, HQ0.out⟩
        | 1, _ => exact ⟨_, _, rfl, HQ1.out⟩
        | 2, _ => exact ⟨_, _, rfl, HQ2.out⟩
        | 3, _ => exact ⟨_, _, rfl, HQ3.out⟩)
      have I5 := hid (I4.out.old ((Old.refl W4).alloc (.cells #[.string (ifB ⟨#[105, 102, 40, 116, 114, 117, 101]⟩ s t), .int .u8 z1k, .int .i64 z1n, .string z1s, .int .i64 z1e, .string (ifB ⟨#[105, 102, 40, 102, 97, 108, 115, 101]⟩ s t), .int .u8 z2k, .int .i64 z2n, .string z2s, .int .i64 z2e, .string (ifB ⟨#[105, 102, 40, 110, 117, 108, 108]⟩ s t), .int .u8 0, .int .i64 0, .string ⟨#[]⟩, .int .i64 0, .string (ifB ⟨#[105, 102, 40, 49]⟩ s t), .int .u8 0, .int .i64 0, .string ⟨#[]⟩, .int .i64 8] 56)))
      clear hL HQ0 HQ1 HQ2 HQ3 B1' B2 I4
      go_wp2
      clear c0 c1 c2 d0 d1 d2
      go_loopw [120] (fun i wr => ∃ k : Nat, k ≤ 4 ∧ i = .int .i64 (k : Int) ∧ Hid (Iz w wr self) ∧ Hid (Qs wr W4.heap.size L)) (fun i _ => (4 - intOf i).toNat)
      case atStart => exact ⟨0, Nat.zero_le _, rfl, I5, HQS⟩
      case round =>
        clear I5 HQS
        obtain ⟨k2, hk2, rfl, HI, HS⟩ := hrel
        by_cases hkn2 : k2 < 4
        · obtain ⟨b, a, hb, hbs, T, ln, cl, E, hr, hval⟩ := HQA.out k2 hkn2
          obtain ⟨x0, x1, x2, x3, x4⟩ := HS.out.2 k2 b a hb
          have hgl := HS.out.1
          have lb : b.data.toList.length = b.size := Array.length_toList
          obtain ⟨⟨yk, yn, ys⟩, ye⟩ := a
          simp only at x1 x2 x3 x4
          have HRQ := hid (fun W => qread_tw b W (by omega) ⟨trivial⟩ hr)
          have HVQ := hid (fun (h : E = 0) => by
            subst h
            have h := HVL.out _ (by omega) T ln cl hr
            rw [hval rfl] at h
            exact h)
          obtain ⟨m, hm⟩ : ∃ m, m = T.length := ⟨_, rfl⟩
          rw [← hm] at HRQ
          clear hb lb hbs hr hval hm HQA
          go_upto_region 19 with (fail)
          have HI2 := hid (HI.out.old ((Old.refl wr).alloc (.cells #[.string b, .int .u8 yk, .int .i64 yn, .string ys, .int .i64 ye] 56)))
          have HS2 := hid (HS.out.old ((Old.refl wr).alloc (.cells #[.string b, .int .u8 yk, .int .i64 yn, .string ys, .int .i64 ye] 56)))
          have BB := hid (Bk.new wr #[.string b, .int .u8 yk, .int .i64 yn, .string ys, .int .i64 ye] 56)
          generalize wr.alloc (.cells #[.string b, .int .u8 yk, .int .i64 yn, .string ys, .int .i64 ye] 56) = W5 at *
          have c0 := BB.out.c 0
          clear x0 x1 x2 x3 x4 HS HI
          by_cases hE : E = 0
          · have HVQ' := hid (HVQ.out hE)
            subst hE
            have f1 : (yk == yk) = true := beq_self_eq_true _
            have f2 : (yn == yn) = true := beq_self_eq_true _
            have f3 : (ys.toList == ys.toList) = true := beq_self_eq_true _
            have f4 : (ye == ye) = true := beq_self_eq_true _
            clear HVQ
            go_wp2_with (first
              | (go_at_call 7; (with_reducible refine (HRQ.out _).mono ?_); rintro e w1 ⟨oa1, ca1, rfl, t1, o1⟩; have q1 := (Old.refl w1).alloc (.cells #[.int .i64 ln, .int .i64 cl] 31); have J1 := hid (HI2.out.old (o1.trans q1)); have S1 := hid (HS2.out.old (o1.trans q1)); have BB1 := hid (BB.out.old (o1.trans q1)); have T1' := hid (t1.out.old q1); clear o1 t1 q1 c0; have s0 := J1.out.a.c 0; have s1 := J1.out.a.c 1; have s2 := J1.out.a.c 2)
              | (go_at_call 11; (with_reducible refine (HVQ'.out _ _ J1.out.o T1'.out).mono ?_); rintro e w2 ⟨rfl, o2⟩; have q2 := o2.alloc (.cells #[.int .u8 yk, .int .i64 yn, .string ys] 26); have J2 := hid (J1.out.old q2); have S2 := hid (S1.out.old q2); have B2 := hid (Three.new w2 (.int .u8 yk) (.int .i64 yn) (.string ys)); have BB2 := hid (BB1.out.old q2); clear o2 q2 s0 s1 s2; have c1 := BB2.out.c 1; have c2 := BB2.out.c 2; have c3 := BB2.out.c 3; have c4 := BB2.out.c 4))
            refine ⟨⟨k2 + 1, hkn2, rfl, J2, S2⟩, by simp only [intOf]; omega⟩
          · have hE' : (E == 0) = false := beq_false_of_ne hE
            clear HVQ
            go_wp2_with (go_at_call 7; (with_reducible refine (HRQ.out _).mono ?_); rintro e w1 ⟨oa1, ca1, rfl, t1, o1⟩; have q1 := (Old.refl w1).alloc (.cells #[.int .i64 ln, .int .i64 cl] 31); have J1 := hid (HI2.out.old (o1.trans q1)); have S1 := hid (HS2.out.old (o1.trans q1)); clear o1 t1 q1 c0)
            refine ⟨⟨k2 + 1, hkn2, rfl, J1, S1⟩, by simp only [intOf]; omega⟩
        · obtain rfl : k2 = 4 := by omega
          go_wp2_with (go_at_call 8; (with_reducible refine (HKN.out _ HI.out.o).mono ?_); rintro e w8 ⟨rfl, o8⟩; have O8 := hid ((HI.out.o).trans o8); clear o8)
          go_ret
          exact ⟨rfl, O8.out⟩
theorem ifs_any (s t : ByteArray) (self : Vl) (vars : List Bd) (vv : Value) (w : World) (hen : En w) (hv : BR w vv vars) (hs : I64 self.n) (hvn : ∀ b ∈ vars, I64 b.v.n) :
    Calls Tryz.prog 6 #[.string s, .string t, self.v, vv] w fun e w' => e = .returned (.bool true) ∧ Old w w' := by
  by_cases h : 200 < s.size ∨ 200 < t.size ∨ 40 < vars.length ∨ 300 < self.s.size
  · exact ifs_long s t self vars vv w hen hv h
  · obtain ⟨⟨T1, ln1, cl1, E1⟩, hR1⟩ : ∃ x, readP s.data.toList = x := ⟨_, rfl⟩
    obtain ⟨⟨T2, ln2, cl2, E2⟩, hR2⟩ : ∃ x, readP t.data.toList = x := ⟨_, rfl⟩
    by_cases hE : E1 = 0 ∧ E2 = 0
    · obtain ⟨rfl, rfl⟩ := hE
      have l1 : s.data.toList.length = s.size := Array.length_toList
      have l2 : t.data.toList.length = t.size := Array.length_toList
      obtain ⟨rfl, rfl, _⟩ := readP_good (by omega) hR1
      obtain ⟨rfl, rfl, _⟩ := readP_good (by omega) hR2
      exact ifs_main s t self vars vv w hen hv (by omega) (by omega) (by omega) (by omega) hs hvn hR1 hR2
    · exact ifs_none s t self vars vv w hen hv (by omega) (by omega) (by omega) (by omega) hR1 hR2 (by omega)
end Go.Proofs.YtmkmafkkpigfpaaGreatDoor.V
