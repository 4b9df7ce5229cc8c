/- Layer eval: the law EvalLogic: what it asks, its walk where it does not go on. the law EvalLogic: its walk, where it goes on. -/
import Derived.Test.YtmkmafkkpigfpaaGreatDoorNB
set_option maxHeartbeats 6400000
namespace Go.Proofs.YtmkmafkkpigfpaaGreatDoor.V
open Go.ChangeShapes Go.WideShapes Go.ChangeAt Go.RowKit Go.Lib
set_option linter.unusedVariables false
set_option linter.unusedSimpArgs false
set_option maxRecDepth 100000
structure Iy (w W : World) (sf : Vl) (vv : Value) : Prop where
  o : Old w W
  a : Bk W w.heap.size #[.int .u8 sf.k, .int .i64 sf.n, .string sf.s] 26
  b : Bk W (w.heap.size + 1) #[vv] 39
theorem Iy.old {w W W' : World} {sf : Vl} {vv : Value} (h : Iy w W sf vv) (ho : Old W W') : Iy w W' sf vv := ⟨h.o.trans ho, h.a.old ho, h.b.old ho⟩
theorem Iy.new (w : World) (sf : Vl) (vv : Value) : Iy w ((w.alloc (.cells #[.int .u8 sf.k, .int .i64 sf.n, .string sf.s] 26)).alloc (.cells #[vv] 39)) sf vv := by
  refine ⟨((Old.refl w).alloc _).alloc _, (Bk.new w _ _).alloc _, ?_⟩
  have h := Bk.new (w.alloc (.cells #[.int .u8 sf.k, .int .i64 sf.n, .string sf.s] 26)) #[vv] 39
  rw [sz_alloc] at h
  exact h
def Qf (self : Vl) (vars : List Bd) (b : ByteArray) (a : An) : Prop := b.size ≤ 60000 ∧ ∃ T ln cl E, readP b.data.toList = (T, ln, cl, E) ∧ (E = 0 → valA (absT T) self vars = a)
theorem few_any {l : List UInt8} (hl : l.length ≤ 60000) {T : List Nd} {ln cl E : Int} (hR : readP l = (T, ln, cl, E)) : (∀ x ∈ absT T, x.ks.length ≤ 100000) ∧ Vo T := by
  by_cases hE : E = 0
  · subst hE
    obtain ⟨_, _, _, _, hok, _⟩ := readP_good hl hR
    refine ⟨fun y hy => ?_, ?_⟩
    · obtain ⟨x, hx, _, e⟩ := abs_mem hy
      have hk := (hok x hx).many
      have : (kidN x.op).2 ≤ 100000 := by
        unfold kidN
        repeat' split
        all_goals simp
      omega
    · obtain ⟨rfl, rfl, _⟩ := readP_good hl hR
      exact read_vn hl hR
  · obtain rfl := readP_err hR hE
    exact ⟨(fun x hx => by cases hx), (fun x hx => by cases hx)⟩
theorem ask_logic {b : ByteArray} {self : Vl} {vars : List Bd} {vv : Value} {a : An} (hq : Qf self vars b a) (w : World) {p q : Nat} (hen : En w) (h6 : Bk w p #[.int .u8 self.k, .int .i64 self.n, .string self.s] 26) (h7 : Bk w q #[vv] 39) (hv : BR w vv vars) (hs : I64 self.n) (hvn : ∀ b ∈ vars, I64 b.v.n) :
    Calls Tryz.prog 12 #[.string b, .pointer (some ⟨p, 0, none⟩), .pointer (some ⟨q, 0, none⟩)] w fun e w' => ∃ zk zn zs ze E, e = .returned (.tuple #[.agg #[.int .u8 zk, .int .i64 zn, .string zs], .int .i64 ze, .bool (E == (0 : Int))]) ∧ (E = 0 → an0 zk zn zs ze = a) ∧ Old w w' := by
  obtain ⟨hb, T, ln, cl, E, hR, hval⟩ := hq
  have hz : b.data.toList.length = b.size := Array.length_toList
  obtain ⟨t1, t2⟩ := readP_small (by omega) hR
  obtain ⟨k1, k2⟩ := few_any (by omega) hR
  have HO := hid ((Old.refl w).alloc (.cells #[.int .u8 0, .int .i64 0, .string ⟨#[]⟩] 26))
  have HT := hid (Three.new w (.int .u8 0) (.int .i64 0) (.string ⟨#[]⟩))
  have HR := hid (fun W => qread_tw b W (by omega) ⟨trivial⟩ hR)
  have HV := hid (fun (W : World) (vt : Value) (hW : Old w W) (ht : Tw W vt T) => tree_value W self vars ht (hv.old hW) (hen.old hW) t1 t2 k1 k2 hs hvn)
  have H6 := hid h6
  have H7 := hid h7
  have HVAL := hid hval
  obtain ⟨Z, hZ⟩ : ∃ Z, Z = valA (absT T) self vars := ⟨_, rfl⟩
  rw [← hZ] at HV HVAL
  obtain ⟨⟨zk, zn, zs⟩, ze⟩ := Z
  obtain ⟨n, hn⟩ : ∃ n, n = T.length := ⟨_, rfl⟩
  rw [← hn] at HR
  clear hR t1 t2 k1 k2 hz hb hs hvn hn hen h6 h7 hv hval hZ
  go_enter Tryz.func12, Tryz.ntmps12
  go_wp2_with (first
    | (go_at_call 7; (with_reducible refine (HR.out _).mono ?_); rintro e w1 ⟨oa, ca, rfl, t1, o1⟩; have o1' := (Old.refl w1).alloc (.cells #[.int .i64 ln, .int .i64 cl] 31); have T1 := hid (t1.old o1'); have O1 := hid (HO.out.trans (o1.trans o1')); have TT1 := hid (HT.out.old (o1.trans o1')); have P1 := H6.out.old O1.out; have Q1 := H7.out.old O1.out; have s0 := P1.c 0; have s1 := P1.c 1; have s2 := P1.c 2; have y0 := Q1.c 0; clear o1 t1 o1' P1 Q1)
    | (go_at_call 11; (with_reducible refine (HV.out _ _ O1.out T1.out).mono ?_); rintro e w2 ⟨rfl, o2⟩; have q2 := o2.alloc (.cells #[.int .u8 zk, .int .i64 zn, .string zs] 26); have O2 := hid (O1.out.trans q2); have TT2 := hid (TT1.out.old q2); have B2 := hid (Three.new w2 (.int .u8 zk) (.int .i64 zn) (.string zs)); clear o2 q2 s0 s1 s2 y0; have c0 := TT2.out.c0; have c1 := TT2.out.c1; have c2 := TT2.out.c2; have f0 := TT2.out.f 0; have f1 := TT2.out.f 1; have f2 := TT2.out.f 2; have d0 := B2.out.c0; have d1 := B2.out.c1; have d2 := B2.out.c2))
  have R := TT2.out.set (.int .u8 zk) (.int .i64 zn) (.string zs)
  exact bodyPost_ret (v := .tuple #[.agg #[.int .u8 zk, .int .i64 zn, .string zs], .int .i64 ze, .bool (E == (0 : Int))]) (by simp [results, Tryz.results12, go_sem, R.c0, R.c1, R.c2]) rfl ⟨zk, zn, zs, ze, E, rfl, HVAL.out, old3 O2.out (Nat.le_refl _) _ _ _⟩
theorem logic_long (s t : ByteArray) (self : Vl) (vars : List Bd) (vv : Value) (w : World) (hen : En w) (hv : BR w vv vars) (h : 200 < s.size ∨ 200 < t.size ∨ 40 < vars.length ∨ 300 < self.s.size) :
    Calls Tryz.prog 4 #[.string s, .string t, self.v, vv] w fun e w' => e = .returned (.bool true) ∧ Old w w' := by
  have HKN := hid (fun W (h : Old w W) => known_any W (hen.old h))
  have HE := hid (Iy.new w self vv)
  obtain ⟨oa, cap, rfl, v1, v2, _⟩ := hv
  obtain ⟨n, hn⟩ : ∃ n, n = vars.length := ⟨_, rfl⟩
  rw [← hn] at h v1 HE ⊢
  clear hen hn
  by_cases h0 : 200 < s.size
  · have h0' : (200 : Int) < (s.size : Int) := by omega
    clear h
    go_enter Tryz.func4, Tryz.ntmps4
    go_wp2_with (go_at_call 8; (with_reducible refine (HKN.out _ HE.out.o).mono ?_); rintro e w8 ⟨rfl, o8⟩; have O8 := hid ((HE.out.o).trans o8); clear o8)
    go_ret
    exact ⟨rfl, O8.out⟩
  · have h0' : ¬ (200 : Int) < (s.size : Int) := by omega
    by_cases h1 : 200 < t.size
    · have h1' : (200 : Int) < (t.size : Int) := by omega
      clear h
      go_enter Tryz.func4, Tryz.ntmps4
      go_wp2_with (go_at_call 8; (with_reducible refine (HKN.out _ HE.out.o).mono ?_); rintro e w8 ⟨rfl, o8⟩; have O8 := hid ((HE.out.o).trans o8); clear o8)
      go_ret
      exact ⟨rfl, O8.out⟩
    · have h1' : ¬ (200 : Int) < (t.size : Int) := by omega
      by_cases h2 : 40 < n
      · have h2' : (40 : Int) < (n : Int) := by omega
        clear h
        go_enter Tryz.func4, Tryz.ntmps4
        go_wp2_with (go_at_call 8; (with_reducible refine (HKN.out _ HE.out.o).mono ?_); rintro e w8 ⟨rfl, o8⟩; have O8 := hid ((HE.out.o).trans o8); clear o8)
        go_ret
        exact ⟨rfl, O8.out⟩
      · have h2' : ¬ (40 : Int) < (n : Int) := by omega
        have h3' : (300 : Int) < (self.s.size : Int) := by omega
        clear h
        go_enter Tryz.func4, Tryz.ntmps4
        go_wp2_with (go_at_call 8; (with_reducible refine (HKN.out _ HE.out.o).mono ?_); rintro e w8 ⟨rfl, o8⟩; have O8 := hid ((HE.out.o).trans o8); clear o8)
        go_ret
        exact ⟨rfl, O8.out⟩
theorem logic_none (s t : ByteArray) (self : Vl) (vars : List Bd) (vv : Value) (w : World) (hen : En w) (hv : BR w vv vars) (h1 : s.size ≤ 200) (h2 : t.size ≤ 200) (h3 : vars.length ≤ 40) (h4 : self.s.size ≤ 300) {T1 T2 : List Nd} {ln1 cl1 E1 ln2 cl2 E2 : Int} (hR1 : readP s.data.toList = (T1, ln1, cl1, E1)) (hR2 : readP t.data.toList = (T2, ln2, cl2, E2)) (hE : ¬ E1 = 0 ∨ ¬ E2 = 0) :
    Calls Tryz.prog 4 #[.string s, .string t, self.v, vv] w fun e w' => e = .returned (.bool true) ∧ Old w w' := by
  have HKN := hid (fun W (h : Old w W) => known_any W (hen.old h))
  have HE := hid (Iy.new w self vv)
  have HR1 := hid (fun W => qread_tw s W (by omega) ⟨trivial⟩ hR1)
  have HR2 := hid (fun W => qread_tw t W (by omega) ⟨trivial⟩ hR2)
  obtain ⟨oa, cap, rfl, v1, v2, HVA0⟩ := hv
  obtain ⟨n, hn⟩ : ∃ n, n = vars.length := ⟨_, rfl⟩
  obtain ⟨m1, hm1⟩ : ∃ m, m = T1.length := ⟨_, rfl⟩
  obtain ⟨m2, hm2⟩ : ∃ m, m = T2.length := ⟨_, rfl⟩
  have HNN := hid hn
  have HVA := hid HVA0
  rw [← hn] at h3 v1 HE ⊢
  rw [← hm1] at HR1
  rw [← hm2] at HR2
  have h1' : ¬ (200 : Int) < (s.size : Int) := by omega
  have h2' : ¬ (200 : Int) < (t.size : Int) := by omega
  have h3' : ¬ (40 : Int) < (n : Int) := by omega
  have h4' : ¬ (300 : Int) < (self.s.size : Int) := by omega
  clear hen hn hm1 hm2 hR1 hR2 HVA0
  go_enter Tryz.func4, Tryz.ntmps4
  go_wp2
  go_loopw [49] (fun i wr => ∃ k : Nat, k ≤ n ∧ i = .int .i64 (k : Int) ∧ Hid (Iy w wr self (.slice oa n cap))) (fun i _ => (n - intOf i).toNat)
  case atStart => exact ⟨0, Nat.zero_le _, rfl, HE⟩
  case round =>
    clear HE
    obtain ⟨k, hk, rfl, HE⟩ := hrel
    by_cases hkn : k < n
    · obtain ⟨b, hb⟩ : ∃ b, vars[k]? = some b := ⟨_, List.getElem?_eq_getElem (by rw [← HNN.out]; exact hkn)⟩
      obtain ⟨gb, go, rfl, hgb, x0, x1, x2, x3⟩ := HVA.out k b hb
      have y3 := (HE.out.o.cell hgb).trans x3
      have y0 := HE.out.b.c 0
      obtain ⟨bnm, ⟨bk, bn, bs⟩⟩ := b
      simp only at y3
      clear x0 x1 x2 x3 hb
      by_cases hbs : 300 < bs.size
      · have hbs' : (300 : Int) < (bs.size : Int) := by omega
        go_wp2_with (go_at_call 8; (with_reducible refine (HKN.out _ HE.out.o).mono ?_); rintro e w8 ⟨rfl, o8⟩; have O8 := hid ((HE.out.o).trans o8); clear o8)
        go_ret
        exact ⟨rfl, O8.out⟩
      · have hbs' : ¬ (300 : Int) < (bs.size : Int) := by omega
        go_wp2
        refine ⟨⟨k + 1, hkn, rfl, hid (HE.out.old (Old.refl _))⟩, by simp only [intOf]; omega⟩
    · obtain rfl : k = n := by omega
      have y0 := HE.out.b.c 0
      by_cases hE1 : E1 = 0
      · subst hE1
        have hE2' : (E2 == 0) = false := beq_false_of_ne (by omega)
        clear hE
        go_wp2_with (first
          | (go_at_call 7; (with_reducible refine (HR1.out _).mono ?_); rintro e w1 ⟨oa1, ca1, rfl, t1, o1⟩; have O1 := hid (HE.out.o.trans (o1.trans ((Old.refl w1).alloc (.cells #[.int .i64 ln1, .int .i64 cl1] 31)))); clear o1 t1)
          | (go_at_call 7; (with_reducible refine (HR2.out _).mono ?_); rintro e w2 ⟨oa2, ca2, rfl, t2, o2⟩; have O2 := hid (O1.out.trans (o2.trans ((Old.refl w2).alloc (.cells #[.int .i64 ln2, .int .i64 cl2] 31)))); clear o2 t2)
          | (go_at_call 8; (with_reducible refine (HKN.out _ O2.out).mono ?_); rintro e w8 ⟨rfl, o8⟩; have O8 := hid ((O2.out).trans o8); clear o8))
        go_ret
        exact ⟨rfl, O8.out⟩
      · have hE1' : (E1 == 0) = false := beq_false_of_ne hE1
        clear hE
        go_wp2_with (first
          | (go_at_call 7; (with_reducible refine (HR1.out _).mono ?_); rintro e w1 ⟨oa1, ca1, rfl, t1, o1⟩; have O1 := hid (HE.out.o.trans (o1.trans ((Old.refl w1).alloc (.cells #[.int .i64 ln1, .int .i64 cl1] 31)))); clear o1 t1)
          | (go_at_call 7; (with_reducible refine (HR2.out _).mono ?_); rintro e w2 ⟨oa2, ca2, rfl, t2, o2⟩; have O2 := hid (O1.out.trans (o2.trans ((Old.refl w2).alloc (.cells #[.int .i64 ln2, .int .i64 cl2] 31)))); clear o2 t2)
          | (go_at_call 8; (with_reducible refine (HKN.out _ O2.out).mono ?_); rintro e w8 ⟨rfl, o8⟩; have O8 := hid ((O2.out).trans o8); clear o8))
        go_ret
        exact ⟨rfl, O8.out⟩
abbrev xB (s : ByteArray) : ByteArray := ⟨#[40]⟩ ++ s ++ ⟨#[10, 41]⟩
abbrev ntB (u s t : ByteArray) : ByteArray := ⟨#[110, 111, 116, 32, 40]⟩ ++ xB s ++ u ++ xB t ++ ⟨#[41]⟩
abbrev orB (s t : ByteArray) : ByteArray := ⟨#[40, 110, 111, 116, 32]⟩ ++ xB s ++ ⟨#[32, 111, 114, 32, 110, 111, 116, 32]⟩ ++ xB t ++ ⟨#[41]⟩
abbrev jnB (u s t : ByteArray) : ByteArray := xB s ++ u ++ xB t
theorem nt_bytes (u : List UInt8) (s t : ByteArray) (v : ByteArray) (hv : v.data.toList = 32 :: (u ++ [32])) : (ntB v s t).data.toList = notO u s.data.toList t.data.toList := by
  simp only [ByteArray.data_append, Array.toList_append, hv]
  unfold notO
  simp [List.append_assoc]
theorem or_bytes (s t : ByteArray) : (orB s t).data.toList = orN s.data.toList t.data.toList := by
  simp only [ByteArray.data_append, Array.toList_append]
  unfold orN
  simp [List.append_assoc]
theorem ix0 : ∀ (a b c d e f : Value) W, (Instr.index 49 (.agg #[a, b, c, d, e, f]) (.int .i64 0)).run Tryz.prog W = .ok (.agg #[a, b]) W := fun a b c d e f W => by
  simp [Instr.index, run_underlying Tryz.underlying49, asIntOf, go_sem]
theorem ix1 : ∀ (a b c d e f : Value) W, (Instr.index 49 (.agg #[a, b, c, d, e, f]) (.int .i64 1)).run Tryz.prog W = .ok (.agg #[c, d]) W := fun a b c d e f W => by
  simp [Instr.index, run_underlying Tryz.underlying49, asIntOf, go_sem]
theorem ix2 : ∀ (a b c d e f : Value) W, (Instr.index 49 (.agg #[a, b, c, d, e, f]) (.int .i64 2)).run Tryz.prog W = .ok (.agg #[e, f]) W := fun a b c d e f W => by
  simp [Instr.index, run_underlying Tryz.underlying49, asIntOf, go_sem]
theorem bytes_len (b : ByteArray) : b.data.toList.length = b.size := Array.length_toList
theorem in_app {A B : List Nd} (h : In (A ++ B)) (ha : 1 ≤ A.length) : In A := ⟨ha, fun k x hx => h.2 k x (by
  rw [List.getElem?_append_left (List.getElem?_eq_some_iff.1 hx).1]
  exact hx)⟩
theorem in_not {ns T : List Nd} {nt : Nd} (t : In T) (h : ns.map Nd.bare = T.map Nd.bare) (hk : nt.ks = [1]) : In (ns ++ [nt]) := by
  have hl := len_bare h
  have l1 := t.1
  refine ⟨by rw [List.length_append]; simp, fun k x hx => ?_⟩
  by_cases hkl : k < ns.length
  · rw [List.getElem?_append_left hkl] at hx
    have e := congrArg (·[k]?) h
    simp only [List.getElem?_map, hx] at e
    cases hT : T[k]? with
    | none => rw [hT] at e; cases e
    | some y =>
      rw [hT] at e
      injection e with e
      have e2 : x.ks = y.ks := by have e3 := congrArg Nd.ks e; exact e3
      rw [e2]
      exact t.2 k y hT
  · have hlt := (List.getElem?_eq_some_iff.1 hx).1
    rw [List.length_append] at hlt
    simp only [List.length_cons, List.length_nil] at hlt
    have : k = ns.length := by omega
    subst this
    rw [List.getElem?_append_right (Nat.le_refl _), Nat.sub_self] at hx
    injection hx with hx
    rw [← hx, hk]
    intro d hd
    simp only [List.mem_cons, List.not_mem_nil, or_false] at hd
    omega
section
variable {s t : ByteArray} (self : Vl) (vars : List Bd) (hs : s.size ≤ 200) (ht : t.size ≤ 200) {T1 T2 : List Nd} (h1 : readP s.data.toList = (T1, 0, 0, 0)) (h2 : readP t.data.toList = (T2, 0, 0, 0))
include hs ht h1 h2
theorem qf_not {u : List UInt8} (hu : u ∈ opB) {v : ByteArray} (hv : v.data.toList = 32 :: (u ++ [32])) (hul : u.length ≤ 10) {op : Int} (hop : (((inOp u).1 : Nat) : Int) = op) (ho : op = 4 ∨ op = 5 ∨ (7 ≤ op ∧ op ≤ 16)) :
    Qf self vars (ntB v s t) (notA (ask1 (opA op (nlT T1) (nlT T2) (valA (absT T1) self vars) (valA (absT T2) self vars)))) := by
  have l1 := bytes_len s
  have l2 := bytes_len t
  have hb := nt_bytes u s t v hv
  have hlen : (notO u s.data.toList t.data.toList).length ≤ 1000 := by
    unfold notO
    simp only [List.length_append, List.length_cons, List.length_nil]
    omega
  refine ⟨by rw [← bytes_len, hb]; omega, ?_⟩
  rw [hb]
  rcases not_read (by omega) (by omega) h1 h2 hu with ⟨ln, cl, E, hE, hr⟩ | ⟨ns1, ns2, nd, nt, hr, e1, e2, e3, e4, e5, e6⟩
  · exact ⟨_, _, _, _, hr, fun h => absurd h hE⟩
  · refine ⟨_, _, _, _, hr, fun _ => ?_⟩
    have hIn := in_app (in_tr (readP_good (by omega) hr).2.2.2.1) (by simp; omega)
    have i1 := in_tr (readP_good (by omega) h1).2.2.2.1
    have i2 := in_tr (readP_good (by omega) h2).2.2.2.1
    rw [not_val self vars (T := ns1 ++ ns2 ++ [nd]) rfl hIn e5 e6, pair_val self vars e1 e2 i1 i2 (by rw [e3, hop]; exact ho) e4, e3, hop]
theorem qf_join {u : List UInt8} (hu : u ∈ opB) {v : ByteArray} (hv : v.data.toList = 32 :: (u ++ [32])) (hul : u.length ≤ 10) {op : Int} (hop : (((inOp u).1 : Nat) : Int) = op) (ho : op = 4 ∨ op = 5 ∨ (7 ≤ op ∧ op ≤ 16)) :
    Qf self vars (jnB v s t) (opA op (nlT T1) (nlT T2) (valA (absT T1) self vars) (valA (absT T2) self vars)) := by
  have l1 := bytes_len s
  have l2 := bytes_len t
  have hb : (jnB v s t).data.toList = joinO s.data.toList u t.data.toList := by
    simp only [ByteArray.data_append, Array.toList_append, hv]
    unfold joinO wrapB
    simp [List.append_assoc]
  have hlen : (joinO s.data.toList u t.data.toList).length ≤ 1000 := by
    unfold joinO wrapB
    simp only [List.length_append, List.length_cons, List.length_nil]
    omega
  refine ⟨by rw [← bytes_len, hb]; omega, ?_⟩
  rw [hb]
  rcases join_read (by omega) (by omega) h1 h2 hu with ⟨ln, cl, hr⟩ | ⟨_, ln, cl, hr⟩ | ⟨_, ns1, ns2, nd, hr, e1, e2, e3, e4⟩
  · exact ⟨_, _, _, _, hr, fun h => absurd h (by decide)⟩
  · exact ⟨_, _, _, _, hr, fun h => absurd h (by decide)⟩
  · refine ⟨_, _, _, _, hr, fun _ => ?_⟩
    have i1 := in_tr (readP_good (by omega) h1).2.2.2.1
    have i2 := in_tr (readP_good (by omega) h2).2.2.2.1
    rw [pair_val self vars e1 e2 i1 i2 (by rw [e3, hop]; exact ho) e4, e3, hop]
theorem qf_or : Qf self vars (orB s t) (unlA true (ask2 (notA (ask1 (valA (absT T1) self vars))) (notA (ask1 (valA (absT T2) self vars))))) := by
  have l1 := bytes_len s
  have l2 := bytes_len t
  have hb := or_bytes s t
  have hlen : (orN s.data.toList t.data.toList).length ≤ 1000 := by
    unfold orN
    simp only [List.length_append, List.length_cons, List.length_nil]
    omega
  refine ⟨by rw [← bytes_len, hb]; omega, ?_⟩
  rw [hb]
  rcases or_read (by omega) (by omega) h1 h2 with ⟨ln, cl, E, hE, hr⟩ | ⟨ns1, ns2, n1, n2, nd, hr, e1, e2, e3, e4, e5, e6, e7, e8⟩
  · exact ⟨_, _, _, _, hr, fun h => absurd h hE⟩
  · refine ⟨_, _, _, _, hr, fun _ => ?_⟩
    have i1 := in_tr (readP_good (by omega) h1).2.2.2.1
    have i2 := in_tr (readP_good (by omega) h2).2.2.2.1
    rw [pair_val self vars (ns1 := ns1 ++ [n1]) (ns2 := ns2 ++ [n2]) (T1 := ns1 ++ [n1]) (T2 := ns2 ++ [n2]) rfl rfl (in_not i1 e1 e4) (in_not i2 e2 e6) (Or.inl e7) (by rw [e8, List.length_append]; rfl), not_val self vars e1 i1 e3 e4, not_val self vars e2 i2 e5 e6, e7]
    rfl
end
theorem logic_main (s t : ByteArray) (self : Vl) (vars : List Bd) (vv : Value) (w : World) (hen : En w) (hv : BR w vv vars) (h1 : s.size ≤ 200) (h2 : t.size ≤ 200) (h3 : vars.length ≤ 40) (h4 : self.s.size ≤ 300) (hs : I64 self.n) (hvn : ∀ b ∈ vars, I64 b.v.n) {T1 T2 : List Nd} (hR1 : readP s.data.toList = (T1, 0, 0, 0)) (hR2 : readP t.data.toList = (T2, 0, 0, 0)) :
    Calls Tryz.prog 4 #[.string s, .string t, self.v, vv] w fun e w' => e = .returned (.bool true) ∧ Old w w' := by
  have HKN := hid (fun W (h : Old w W) => known_any W (hen.old h))
  have HE := hid (Iy.new w self vv)
  have HR1 := hid (fun W => qread_tw s W (by omega) ⟨trivial⟩ hR1)
  have HR2 := hid (fun W => qread_tw t W (by omega) ⟨trivial⟩ hR2)
  have HASK := hid (fun (b : ByteArray) (a : An) (hq : Qf self vars b a) (W : World) (hW : Iy w W self vv) => ask_logic hq W (hen.old hW.o) hW.a hW.b (hv.old hW.o) hs hvn)
  have HQ0a := hid (qf_not self vars h1 h2 hR1 hR2 (u := [97, 110, 100]) (by decide) (v := ⟨#[32, 97, 110, 100, 32]⟩) rfl (by decide) (op := 5) rfl (by omega))
  have HQ0b := hid (qf_or self vars h1 h2 hR1 hR2)
  have HQ1a := hid (qf_join self vars h1 h2 hR1 hR2 (u := [61]) (by decide) (v := ⟨#[32, 61, 32]⟩) rfl (by decide) (op := 7) rfl (by omega))
  have HQ1b := hid (qf_not self vars h1 h2 hR1 hR2 (u := [60, 62]) (by decide) (v := ⟨#[32, 60, 62, 32]⟩) rfl (by decide) (op := 8) rfl (by omega))
  have HQ2a := hid (qf_join self vars h1 h2 hR1 hR2 (u := [60]) (by decide) (v := ⟨#[32, 60, 32]⟩) rfl (by decide) (op := 9) rfl (by omega))
  have HQ2b := hid (qf_not self vars h1 h2 hR1 hR2 (u := [62, 61]) (by decide) (v := ⟨#[32, 62, 61, 32]⟩) rfl (by decide) (op := 12) rfl (by omega))
  rw [show notA (ask1 (opA 5 (nlT T1) (nlT T2) (valA (absT T1) self vars) (valA (absT T2) self vars))) = unlA true (ask2 (notA (ask1 (valA (absT T1) self vars))) (notA (ask1 (valA (absT T2) self vars)))) from morgan (gs_val _ _ _) (gs_val _ _ _)] at HQ0a
  rw [← op_eq] at HQ1b
  rw [← op_ord] at HQ2b
  generalize unlA true (ask2 (notA (ask1 (valA (absT T1) self vars))) (notA (ask1 (valA (absT T2) self vars)))) = A0 at *
  generalize opA 7 (nlT T1) (nlT T2) (valA (absT T1) self vars) (valA (absT T2) self vars) = A1 at *
  generalize opA 9 (nlT T1) (nlT T2) (valA (absT T1) self vars) (valA (absT T2) self vars) = A2 at *
  obtain ⟨oa, cap, rfl, v1, v2, HVA0⟩ := hv
  obtain ⟨n, hn⟩ : ∃ n, n = vars.length := ⟨_, rfl⟩
  obtain ⟨m1, hm1⟩ : ∃ m, m = T1.length := ⟨_, rfl⟩
  obtain ⟨m2, hm2⟩ : ∃ m, m = T2.length := ⟨_, rfl⟩
  have HNN := hid hn
  have HVA := hid HVA0
  rw [← hn] at h3 v1 HE HASK ⊢
  rw [← hm1] at HR1
  rw [← hm2] at HR2
  have h1' : ¬ (200 : Int) < (s.size : Int) := by omega
  have h2' : ¬ (200 : Int) < (t.size : Int) := by omega
  have h3' : ¬ (40 : Int) < (n : Int) := by omega
  have h4' : ¬ (300 : Int) < (self.s.size : Int) := by omega
  clear hen hn hm1 hm2 hR1 hR2 HVA0 hs hvn
  go_enter Tryz.func4, Tryz.ntmps4
  go_wp2
  go_loopw [49] (fun i wr => ∃ k : Nat, k ≤ n ∧ i = .int .i64 (k : Int) ∧ Hid (Iy w wr self (.slice oa n cap))) (fun i _ => (n - intOf i).toNat)
  case atStart => exact ⟨0, Nat.zero_le _, rfl, HE⟩
  case round =>
    clear HE
    obtain ⟨k, hk, rfl, HE⟩ := hrel
    by_cases hkn : k < n
    · obtain ⟨b, hb⟩ : ∃ b, vars[k]? = some b := ⟨_, List.getElem?_eq_getElem (by rw [← HNN.out]; exact hkn)⟩
      obtain ⟨gb, go, rfl, hgb, x0, x1, x2, x3⟩ := HVA.out k b hb
      have y3 := (HE.out.o.cell hgb).trans x3
      have y0 := HE.out.b.c 0
      obtain ⟨bnm, ⟨bk, bn, bs⟩⟩ := b
      simp only at y3
      clear x0 x1 x2 x3 hb
      by_cases hbs : 300 < bs.size
      · have hbs' : (300 : Int) < (bs.size : Int) := by omega
        go_wp2_with (go_at_call 8; (with_reducible refine (HKN.out _ HE.out.o).mono ?_); rintro e w8 ⟨rfl, o8⟩; have O8 := hid ((HE.out.o).trans o8); clear o8)
        go_ret
        exact ⟨rfl, O8.out⟩
      · have hbs' : ¬ (300 : Int) < (bs.size : Int) := by omega
        go_wp2
        refine ⟨⟨k + 1, hkn, rfl, hid (HE.out.old (Old.refl _))⟩, by simp only [intOf]; omega⟩
    · obtain rfl : k = n := by omega
      have y0 := HE.out.b.c 0
      clear HVA
      go_upto_region 15 with (first
        | (go_at_call 7; (with_reducible refine (HR1.out _).mono ?_); rintro e w1 ⟨oa1, ca1, rfl, t1, o1⟩; have q1 := (Old.refl w1).alloc (.cells #[.int .i64 0, .int .i64 0] 31); have I1 := hid (HE.out.old (o1.trans q1)); clear o1 t1 q1)
        | (go_at_call 7; (with_reducible refine (HR2.out _).mono ?_); rintro e w2 ⟨oa2, ca2, rfl, t2, o2⟩; have q2 := (Old.refl w2).alloc (.cells #[.int .i64 0, .int .i64 0] 31); have I2 := hid (I1.out.old (o2.trans q2)); clear o2 t2 q2))
      generalize w2.alloc (.cells #[.int .i64 0, .int .i64 0] 31) = W4 at *
      clear HR1 HR2 HE I1 y0
      go_wp2
      go_loopw [124] (fun i wr => ∃ j : Int, (j = 0 ∨ j = 1 ∨ j = 2 ∨ j = 3) ∧ i = .int .i64 j ∧ Hid (Iy w wr self (.slice oa k cap))) (fun i _ => (3 - intOf i).toNat)
      case atStart => exact ⟨0, Or.inl rfl, rfl, I2⟩
      case round =>
        clear I2
        obtain ⟨j, hj, rfl, HI⟩ := hrel
        rcases hj with rfl | rfl | rfl | rfl
        · have hx := ix0
          go_upto_region 18 with (fail)
          clear hx
          have HI2 := hid (HI.out.old ((Old.refl wr).alloc (.cells #[.string (ntB ⟨#[32, 97, 110, 100, 32]⟩ s t), .string (orB s t)] 48)))
          have BK := hid (Bk.new wr #[.string (ntB ⟨#[32, 97, 110, 100, 32]⟩ s t), .string (orB s t)] 48)
          generalize wr.alloc (.cells #[.string (ntB ⟨#[32, 97, 110, 100, 32]⟩ s t), .string (orB s t)] 48) = W5 at *
          have k0 := BK.out.c 0
          have HA := hid (HASK.out _ _ HQ0a.out W5 HI2.out)
          have HB := hid (fun W h => HASK.out _ _ HQ0b.out W h)
          go_upto_region 20 with (first
            | (go_at_call 12; (with_reducible refine HA.out.mono ?_); rintro e w1 ⟨p1, p2, p3, p4, E1, rfl, z1, o1⟩; have q1 := o1.alloc (.cells #[.int .u8 p1, .int .i64 p2, .string p3] 26); have J1 := hid (HI2.out.old q1); have B1 := hid (Three.new w1 (.int .u8 p1) (.int .i64 p2) (.string p3)); have Z1 := hid z1; have BK1 := BK.out.old q1; clear k0; have k1 := BK1.c 1; clear o1 q1 z1 BK1)
            | (go_at_call 12; (with_reducible refine (HB.out _ J1.out).mono ?_); rintro e w2 ⟨r1, r2, r3, r4, E2, rfl, z2, o2⟩; have q2 := o2.alloc (.cells #[.int .u8 r1, .int .i64 r2, .string r3] 26); have J2 := hid (J1.out.old q2); have B2 := hid (Three.new w2 (.int .u8 r1) (.int .i64 r2) (.string r3)); have B1' := hid (B1.out.old q2); have Z2 := hid z2; clear o2 q2 z2 k1))
          generalize w2.alloc (.cells #[.int .u8 r1, .int .i64 r2, .string r3] 26) = W6 at *
          clear HA HB HI HI2 BK J1 B1
          by_cases hE1 : E1 = 0
          · by_cases hE2 : E2 = 0
            · have g1 := (Z1.out hE1).trans (Z2.out hE2).symm
              injection g1 with g1 g4
              injection g1 with g1 g2 g3
              subst g1 g2 g3 g4
              have hE1' : (E1 == 0) = true := beq_iff_eq.2 hE1
              have hE2' : (E2 == 0) = true := beq_iff_eq.2 hE2
              have f1 : (p1 == p1) = true := beq_self_eq_true _
              have f2 : (p2 == p2) = true := beq_self_eq_true _
              have f3 : (p3.toList == p3.toList) = true := beq_self_eq_true _
              have f4 : (p4 == p4) = true := beq_self_eq_true _
              have c0 := B1'.out.c0; have c1 := B1'.out.c1; have c2 := B1'.out.c2
              have d0 := B2.out.c0; have d1 := B2.out.c1; have d2 := B2.out.c2
              clear Z1 Z2 hE1 hE2
              go_wp2
              refine ⟨⟨1, by omega, rfl, J2⟩, by simp only [intOf]; omega⟩
            · have hE1' : (E1 == 0) = true := beq_iff_eq.2 hE1
              have hE2' : (E2 == 0) = false := beq_false_of_ne hE2
              clear Z1 Z2 hE1 hE2
              go_wp2
              refine ⟨⟨1, by omega, rfl, J2⟩, by simp only [intOf]; omega⟩
          · have hE1' : (E1 == 0) = false := beq_false_of_ne hE1
            clear Z1 Z2 hE1
            go_wp2
            refine ⟨⟨1, by omega, rfl, J2⟩, by simp only [intOf]; omega⟩
        · have hx := ix1
          go_upto_region 18 with (fail)
          clear hx
          have HI2 := hid (HI.out.old ((Old.refl wr).alloc (.cells #[.string (jnB ⟨#[32, 61, 32]⟩ s t), .string (ntB ⟨#[32, 60, 62, 32]⟩ s t)] 48)))
          have BK := hid (Bk.new wr #[.string (jnB ⟨#[32, 61, 32]⟩ s t), .string (ntB ⟨#[32, 60, 62, 32]⟩ s t)] 48)
          generalize wr.alloc (.cells #[.string (jnB ⟨#[32, 61, 32]⟩ s t), .string (ntB ⟨#[32, 60, 62, 32]⟩ s t)] 48) = W5 at *
          have k0 := BK.out.c 0
          have HA := hid (HASK.out _ _ HQ1a.out W5 HI2.out)
          have HB := hid (fun W h => HASK.out _ _ HQ1b.out W h)
          go_upto_region 20 with (first
            | (go_at_call 12; (with_reducible refine HA.out.mono ?_); rintro e w1 ⟨p1, p2, p3, p4, E1, rfl, z1, o1⟩; have q1 := o1.alloc (.cells #[.int .u8 p1, .int .i64 p2, .string p3] 26); have J1 := hid (HI2.out.old q1); have B1 := hid (Three.new w1 (.int .u8 p1) (.int .i64 p2) (.string p3)); have Z1 := hid z1; have BK1 := BK.out.old q1; clear k0; have k1 := BK1.c 1; clear o1 q1 z1 BK1)
            | (go_at_call 12; (with_reducible refine (HB.out _ J1.out).mono ?_); rintro e w2 ⟨r1, r2, r3, r4, E2, rfl, z2, o2⟩; have q2 := o2.alloc (.cells #[.int .u8 r1, .int .i64 r2, .string r3] 26); have J2 := hid (J1.out.old q2); have B2 := hid (Three.new w2 (.int .u8 r1) (.int .i64 r2) (.string r3)); have B1' := hid (B1.out.old q2); have Z2 := hid z2; clear o2 q2 z2 k1))
          generalize w2.alloc (.cells #[.int .u8 r1, .int .i64 r2, .string r3] 26) = W6 at *
          clear HA HB HI HI2 BK J1 B1
          by_cases hE1 : E1 = 0
          · by_cases hE2 : E2 = 0
            · have g1 := (Z1.out hE1).trans (Z2.out hE2).symm
              injection g1 with g1 g4
              injection g1 with g1 g2 g3
              subst g1 g2 g3 g4
              have hE1' : (E1 == 0) = true := beq_iff_eq.2 hE1
              have hE2' : (E2 == 0) = true := beq_iff_eq.2 hE2
              have f1 : (p1 == p1) = true := beq_self_eq_true _
              have f2 : (p2 == p2) = true := beq_self_eq_true _
              have f3 : (p3.toList == p3.toList) = true := beq_self_eq_true _
              have f4 : (p4 == p4) = true := beq_self_eq_true _
              have c0 := B1'.out.c0; have c1 := B1'.out.c1; have c2 := B1'.out.c2
              have d0 := B2.out.c0; have d1 := B2.out.c1; have d2 := B2.out.c2
              clear Z1 Z2 hE1 hE2
              go_wp2
              refine ⟨⟨2, by omega, rfl, J2⟩, by simp only [intOf]; omega⟩
            · have hE1' : (E1 == 0) = true := beq_iff_eq.2 hE1
              have hE2' : (E2 == 0) = false := beq_false_of_ne hE2
              clear Z1 Z2 hE1 hE2
              go_wp2
              refine ⟨⟨2, by omega, rfl, J2⟩, by simp only [intOf]; omega⟩
          · have hE1' : (E1 == 0) = false := beq_false_of_ne hE1
            clear Z1 Z2 hE1
            go_wp2
            refine ⟨⟨2, by omega, rfl, J2⟩, by simp only [intOf]; omega⟩
        · have hx := ix2
          go_upto_region 18 with (fail)
          clear hx
          have HI2 := hid (HI.out.old ((Old.refl wr).alloc (.cells #[.string (jnB ⟨#[32, 60, 32]⟩ s t), .string (ntB ⟨#[32, 62, 61, 32]⟩ s t)] 48)))
          have BK := hid (Bk.new wr #[.string (jnB ⟨#[32, 60, 32]⟩ s t), .string (ntB ⟨#[32, 62, 61, 32]⟩ s t)] 48)
          generalize wr.alloc (.cells #[.string (jnB ⟨#[32, 60, 32]⟩ s t), .string (ntB ⟨#[32, 62, 61, 32]⟩ s t)] 48) = W5 at *
          have k0 := BK.out.c 0
          have HA := hid (HASK.out _ _ HQ2a.out W5 HI2.out)
          have HB := hid (fun W h => HASK.out _ _ HQ2b.out W h)
          go_upto_region 20 with (first
            | (go_at_call 12; (with_reducible refine HA.out.mono ?_); rintro e w1 ⟨p1, p2, p3, p4, E1, rfl, z1, o1⟩; have q1 := o1.alloc (.cells #[.int .u8 p1, .int .i64 p2, .string p3] 26); have J1 := hid (HI2.out.old q1); have B1 := hid (Three.new w1 (.int .u8 p1) (.int .i64 p2) (.string p3)); have Z1 := hid z1; have BK1 := BK.out.old q1; clear k0; have k1 := BK1.c 1; clear o1 q1 z1 BK1)
            | (go_at_call 12; (with_reducible refine (HB.out _ J1.out).mono ?_); rintro e w2 ⟨r1, r2, r3, r4, E2, rfl, z2, o2⟩; have q2 := o2.alloc (.cells #[.int .u8 r1, .int .i64 r2, .string r3] 26); have J2 := hid (J1.out.old q2); have B2 := hid (Three.new w2 (.int .u8 r1) (.int .i64 r2) (.string r3)); have B1' := hid (B1.out.old q2); have Z2 := hid z2; clear o2 q2 z2 k1))
          generalize w2.alloc (.cells #[.int .u8 r1, .int .i64 r2, .string r3] 26) = W6 at *
          clear HA HB HI HI2 BK J1 B1
          by_cases hE1 : E1 = 0
          · by_cases hE2 : E2 = 0
            · have g1 := (Z1.out hE1).trans (Z2.out hE2).symm
              injection g1 with g1 g4
              injection g1 with g1 g2 g3
              subst g1 g2 g3 g4
              have hE1' : (E1 == 0) = true := beq_iff_eq.2 hE1
              have hE2' : (E2 == 0) = true := beq_iff_eq.2 hE2
              have f1 : (p1 == p1) = true := beq_self_eq_true _
              have f2 : (p2 == p2) = true := beq_self_eq_true _
              have f3 : (p3.toList == p3.toList) = true := beq_self_eq_true _
              have f4 : (p4 == p4) = true := beq_self_eq_true _
              have c0 := B1'.out.c0; have c1 := B1'.out.c1; have c2 := B1'.out.c2
              have d0 := B2.out.c0; have d1 := B2.out.c1; have d2 := B2.out.c2
              clear Z1 Z2 hE1 hE2
              go_wp2
              refine ⟨⟨3, by omega, rfl, J2⟩, by simp only [intOf]; omega⟩
            · have hE1' : (E1 == 0) = true := beq_iff_eq.2 hE1
              have hE2' : (E2 == 0) = false := beq_false_of_ne hE2
              clear Z1 Z2 hE1 hE2
              go_wp2
              refine ⟨⟨3, by omega, rfl, J2⟩, by simp only [intOf]; omega⟩
          · have hE1' : (E1 == 0) = false := beq_false_of_ne hE1
            clear Z1 Z2 hE1
            go_wp2
            refine ⟨⟨3, by omega, rfl, J2⟩, by simp only [intOf]; omega⟩
        · go_wp2_with (go_at_call 8; (with_reducible refine (HKN.out _ HI.out.o).mono ?_); rintro e w8 ⟨rfl, o8⟩; have O8 := hid ((HI.out.o).trans o8); clear o8)
          go_ret
          exact ⟨rfl, O8.out⟩
theorem logic_any (s t : ByteArray) (self : Vl) (vars : List Bd) (vv : Value) (w : World) (hen : En w) (hv : BR w vv vars) (hs : I64 self.n) (hvn : ∀ b ∈ vars, I64 b.v.n) :
    Calls Tryz.prog 4 #[.string s, .string t, self.v, vv] w fun e w' => e = .returned (.bool true) ∧ Old w w' := by
  by_cases h : 200 < s.size ∨ 200 < t.size ∨ 40 < vars.length ∨ 300 < self.s.size
  · exact logic_long s t self vars vv w hen hv h
  · obtain ⟨⟨T1, ln1, cl1, E1⟩, hR1⟩ : ∃ x, readP s.data.toList = x := ⟨_, rfl⟩
    obtain ⟨⟨T2, ln2, cl2, E2⟩, hR2⟩ : ∃ x, readP t.data.toList = x := ⟨_, rfl⟩
    by_cases hE : E1 = 0 ∧ E2 = 0
    · obtain ⟨rfl, rfl⟩ := hE
      have l1 := bytes_len s
      have l2 := bytes_len t
      obtain ⟨rfl, rfl, _⟩ := readP_good (by omega) hR1
      obtain ⟨rfl, rfl, _⟩ := readP_good (by omega) hR2
      exact logic_main s t self vars vv w hen hv (by omega) (by omega) (by omega) (by omega) hs hvn hR1 hR2
    · exact logic_none s t self vars vv w hen hv (by omega) (by omega) (by omega) (by omega) hR1 hR2 (by omega)
end Go.Proofs.YtmkmafkkpigfpaaGreatDoor.V
