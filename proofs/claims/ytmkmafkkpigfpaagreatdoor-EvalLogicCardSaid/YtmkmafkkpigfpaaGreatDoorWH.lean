/- Layer eval: letters made great ones; how two values compare. function values that reckon with values. a node, its expressions' answers. an expression's answer; a truth asked; the word null. -/
import Derived.StillTailTactics
import Derived.Test.YtmkmafkkpigfpaaGreatDoorWD
set_option maxHeartbeats 1600000
namespace Go.Proofs.YtmkmafkkpigfpaaGreatDoor.V
open Go.ChangeShapes Go.WideShapes Go.ChangeAt Go.RowKit Go.Lib
set_option linter.unusedVariables false
set_option linter.unusedSimpArgs false
set_option maxRecDepth 100000
structure En (w : World) : Prop where
  u8 : Lib.Utf8Tabs 3 4 w
  len : ∃ m, w.cell? ⟨0, 0, none⟩ = some (.int .i64 m)
theorem En.old {w w' : World} (h : En w) (ho : Old w w') : En w' := by
  obtain ⟨⟨h1, h2⟩, m, h3⟩ := h
  exact ⟨⟨fun c hc => ho.keeps (h1 c hc), fun i hi => ⟨ho.keeps (h2 i hi).1, ho.keeps (h2 i hi).2⟩⟩, m, ho.keeps h3⟩
theorem up_any (c : Int) (hc : 0 ≤ c ∧ c ≤ 1114111) (w : World) : Calls Tryz.prog 131 #[.int .i32 c] w fun e w' => e = .returned (.int .i32 (upI c)) ∧ w' = w := by
  unfold upI
  by_cases h1 : 97 ≤ c
  · by_cases h2 : c ≤ 122
    · rw [if_pos ⟨h1, h2⟩]
      have e1 : wrap32 (c - 97) = c - 97 := by unfold wrap32; omega
      have e2 : wrap32 (c - 97 + 65) = c - 97 + 65 := by unfold wrap32; omega
      go_enter Tryz.func131, Tryz.ntmps131
      go_wp2
      go_ret
      exact ⟨by simp [e1, e2], rfl⟩
    · rw [if_neg (by omega)]
      go_enter Tryz.func131, Tryz.ntmps131
      go_wp2
      go_ret
      exact ⟨rfl, rfl⟩
  · rw [if_neg (by omega)]
    go_enter Tryz.func131, Tryz.ntmps131
    go_wp2
    go_ret
    exact ⟨rfl, rfl⟩
theorem up_map (w : World) : MapAtRunes Tryz.prog 131 #[] upI w := fun W x hx _ =>
  (up_any (x : Int) (by omega) W).mono fun e w' ⟨h1, h2⟩ => ⟨h1, 0, h2⟩
theorem upper_ev (k n : Int) (s : ByteArray) (w : World) (he : En w) (hs : s.size ≤ 1000000) : Calls Tryz.prog 87 #[vl k n s] w fun e w' => e = tl (upA ⟨k, n, s⟩) ∧ Old w w' := by
  have HO := hid (((Old.refl w).alloc (.cells #[.int .u8 k, .int .i64 n, .string s] 26)).alloc (.cells #[.int .u8 0, .int .i64 0, .string ⟨#[]⟩] 26))
  have HT := hid (Three.new (w.alloc (.cells #[.int .u8 k, .int .i64 n, .string s] 26)) (.int .u8 0) (.int .i64 0) (.string ⟨#[]⟩))
  rw [sz_alloc] at HT
  have HM := hid (fun W (h : Old w W) => Tryz.strings_Map_runes 131 #[] (fun _ _ => rfl) upI s W (by omega) (up_map W) (fun x hx => by unfold upI; split <;> omega) (he.old h).u8)
  unfold upA
  show Calls Tryz.prog 87 #[vl k n s] w fun e w' => e = tl (an0 3 0 ⟨(Lib.mapD upI s.data.toList).toArray⟩ 0) ∧ Old w w'
  obtain ⟨R, hR⟩ : ∃ R, R = (⟨(Lib.mapD upI s.data.toList).toArray⟩ : ByteArray) := ⟨_, rfl⟩
  rw [← hR]
  have HR := hid hR
  clear hR he
  go_enter Tryz.func87, Tryz.ntmps87
  go_wp2_with (first
    | (go_at_call 132; (with_reducible refine (HM.out _ HO.out).mono ?_); rintro e w1 ⟨rfl, hb⟩; have ho1 := Old.ofBelow hb (Nat.le_refl _); have T := hid (HT.out.old ho1); have O1 := hid (HO.out.trans ho1); clear hb ho1; have c0 := T.out.c0; have c1 := T.out.c1; have c2 := T.out.c2; have f0 := T.out.f 0; have f1 := T.out.f 1; have f2 := T.out.f 2))
  have Rr := T.out.set (.int .u8 3) (.int .i64 0) (.string ⟨(Lib.mapD upI s.data.toList).toArray⟩)
  rw [HR.out]
  exact bodyPost_ret (v := .tuple #[vl 3 0 ⟨(Lib.mapD upI s.data.toList).toArray⟩, .int .i64 0]) (by simp [results, Tryz.results87, go_sem, Rr.c0, Rr.c1, Rr.c2]) rfl ⟨rfl, old3 O1.out (by omega) _ _ _⟩
def Pc (cf : Nat) (cb : Array Value) (p : Int → Bool) (w : World) : Prop := ∀ W, Old w W → ∀ c : Int, Calls Tryz.prog cf (#[.int .i64 c] ++ cb) W fun e W' => e = .returned (.bool (p c)) ∧ Old W W'
theorem Pc.old {cf : Nat} {cb : Array Value} {p : Int → Bool} {w w' : World} (h : Pc cf cb p w) (ho : Old w w') : Pc cf cb p w' := fun W hW => h W (ho.trans hW)
theorem pc_lt (w : World) : Pc 69 #[] (fun c => decide (c < 0)) w := fun W _ c => by
  go_enter Tryz.func69, Tryz.ntmps69
  go_wp2
  go_ret
  exact ⟨rfl, Old.refl W⟩
theorem pc_le (w : World) : Pc 70 #[] (fun c => decide (c ≤ 0)) w := fun W _ c => by
  go_enter Tryz.func70, Tryz.ntmps70
  go_wp2
  go_ret
  exact ⟨rfl, Old.refl W⟩
theorem pc_gt (w : World) : Pc 71 #[] (fun c => decide (0 < c)) w := fun W _ c => by
  go_enter Tryz.func71, Tryz.ntmps71
  go_wp2
  go_ret
  exact ⟨rfl, Old.refl W⟩
theorem pc_ge (w : World) : Pc 72 #[] (fun c => decide (0 ≤ c)) w := fun W _ c => by
  go_enter Tryz.func72, Tryz.ntmps72
  go_wp2
  go_ret
  exact ⟨rfl, Old.refl W⟩
theorem pc_eq (wanted : Bool) (g : Nat) (w : World) (hg : w.cell? ⟨g, 0, none⟩ = some (.bool wanted)) (hgl : g < w.heap.size) : Pc 110 #[.pointer (some ⟨g, 0, none⟩)] (fun c => (c == 0) == wanted) w := fun W h c => by
  have hq := (h.cell (p := ⟨g, 0, none⟩) hgl).trans hg
  clear hg
  show Calls Tryz.prog 110 #[.int .i64 c, .pointer (some ⟨g, 0, none⟩)] W _
  go_enter Tryz.func110, Tryz.ntmps110
  go_wp2
  go_ret
  exact ⟨rfl, Old.refl W⟩
theorem RV.two (w : World) (a b : Vl) : RV (w.alloc (.cells #[.int .u8 a.k, .int .i64 a.n, .string a.s, .int .u8 b.k, .int .i64 b.n, .string b.s] 26)) (.slice (some ⟨w.heap.size, 0, none⟩) 2 2) [a, b] := RV.new2 w a.k a.n a.s b.k b.n b.s
theorem compared_any (cf : Nat) (cb : Array Value) (p : Int → Bool) (hen : ∀ args W, (callFunc cf args).run Tryz.prog W = .ok (.enter cf args) W) (k n : Int) (s : ByteArray) (k' n' : Int) (s' : ByteArray) (w : World) (hp : Pc cf cb p w) (hn : I64 n) (hn' : I64 n') :
    Calls Tryz.prog 109 #[vl k n s, vl k' n' s', .func (.func cf) #[] cb] w fun e w' => e = tl (cmpA p ⟨k, n, s⟩ ⟨k', n', s'⟩) ∧ Old w w' := by
  obtain ⟨wz, hwz⟩ : ∃ wz, wz = ((w.alloc (.cells #[.int .u8 k, .int .i64 n, .string s] 26)).alloc (.cells #[.int .u8 k', .int .i64 n', .string s'] 26)).alloc (.cells #[.int .u8 0, .int .i64 0, .string ⟨#[]⟩] 26) := ⟨_, rfl⟩
  have HO := hid ((((Old.refl w).alloc (.cells #[.int .u8 k, .int .i64 n, .string s] 26)).alloc (.cells #[.int .u8 k', .int .i64 n', .string s'] 26)).alloc (.cells #[.int .u8 0, .int .i64 0, .string ⟨#[]⟩] 26))
  have HT := hid (Three.new ((w.alloc (.cells #[.int .u8 k, .int .i64 n, .string s] 26)).alloc (.cells #[.int .u8 k', .int .i64 n', .string s'] 26)) (.int .u8 0) (.int .i64 0) (.string ⟨#[]⟩))
  rw [sz_alloc, sz_alloc] at HT
  have HA := hid (((Three.new w (.int .u8 k) (.int .i64 n) (.string s)).alloc (.cells #[.int .u8 k', .int .i64 n', .string s'] 26)).alloc (.cells #[.int .u8 0, .int .i64 0, .string ⟨#[]⟩] 26))
  have HB := hid ((Three.new (w.alloc (.cells #[.int .u8 k, .int .i64 n, .string s] 26)) (.int .u8 k') (.int .i64 n') (.string s')).alloc (.cells #[.int .u8 0, .int .i64 0, .string ⟨#[]⟩] 26))
  rw [sz_alloc] at HB
  rw [← hwz] at HO HT HA HB
  have HAL := hid (allp_any 128 #[] thereB (fun _ _ => rfl) [⟨k, n, s⟩, ⟨k', n', s'⟩] _ _ (RV.two wz ⟨k, n, s⟩ ⟨k', n', s'⟩) (by simp) (there_pr _))
  have HOO := hid (HO.out.alloc (.cells #[.int .u8 k, .int .i64 n, .string s, .int .u8 k', .int .i64 n', .string s'] 26))
  have HTT := hid (HT.out.alloc (.cells #[.int .u8 k, .int .i64 n, .string s, .int .u8 k', .int .i64 n', .string s'] 26))
  have HAA := hid (HA.out.alloc (.cells #[.int .u8 k, .int .i64 n, .string s, .int .u8 k', .int .i64 n', .string s'] 26))
  have HBB := hid (HB.out.alloc (.cells #[.int .u8 k, .int .i64 n, .string s, .int .u8 k', .int .i64 n', .string s'] 26))
  have HLE := hid (show w.heap.size ≤ w.heap.size + 1 + 1 by omega)
  have a0 := HA.out.c0; have a1 := HA.out.c1; have a2 := HA.out.c2; have b0 := HB.out.c0; have b1 := HB.out.c1; have b2 := HB.out.c2
  have HC := hid (fun W => compare_any k n s k' n' s' W hn hn')
  have HP := hid (fun W (h : Old w W) c => hp W h c)
  obtain ⟨L, hL⟩ : ∃ L, L = [(⟨k, n, s⟩ : Vl), ⟨k', n', s'⟩].all thereB := ⟨_, rfl⟩
  rw [← hL] at HAL
  have hL' : L = (thereB ⟨k, n, s⟩ && thereB ⟨k', n', s'⟩) := by rw [hL]; simp
  clear hL hp hn hn'
  cases L with
  | false =>
    have e : cmpA p ⟨k, n, s⟩ ⟨k', n', s'⟩ = anE 0 := by
      unfold cmpA
      rw [if_pos]
      cases h1 : thereB ⟨k, n, s⟩ with
      | false => exact Or.inl rfl
      | true => rw [h1] at hL'; exact Or.inr (by simpa using hL'.symm)
    rw [e]
    clear e hL'
    go_enter Tryz.func109, Tryz.ntmps109
    go_wp2_with (first
      | (rw [← hwz]; clear hwz; go_wp2_with (go_at_call 104; (with_reducible refine HAL.out.mono ?_); rintro e w1 ⟨rfl, ho1⟩; have T := hid (HTT.out.old ho1); have O1 := hid (HOO.out.trans ho1); clear ho1; have c0 := T.out.c0; have c1 := T.out.c1; have c2 := T.out.c2; have f0 := T.out.f 0; have f1 := T.out.f 1; have f2 := T.out.f 2)))
    have R := T.out.set (.int .u8 0) (.int .i64 0) (.string ⟨#[]⟩)
    exact bodyPost_ret (v := .tuple #[vl 0 0 ⟨#[]⟩, .int .i64 0]) (by simp [results, Tryz.results109, go_sem, R.c0, R.c1, R.c2]) rfl ⟨rfl, old3 O1.out HLE.out _ _ _⟩
  | true =>
    have e : cmpA p ⟨k, n, s⟩ ⟨k', n', s'⟩ = if cpB k k' = true then anT (p (cpV k n s k' n' s')) else anE 8 := by
      unfold cmpA
      rw [if_neg]
      have h := hL'.symm
      rw [Bool.and_eq_true] at h
      rintro (h1 | h1)
      · rw [h.1] at h1; cases h1
      · rw [h.2] at h1; cases h1
    rw [e]
    clear e hL'
    cases hB : cpB k k' with
    | false =>
      rw [hB] at HC
      show Calls Tryz.prog 109 #[vl k n s, vl k' n' s', .func (.func cf) #[] cb] w fun e w' => e = tl (anE 8) ∧ Old w w'
      go_enter Tryz.func109, Tryz.ntmps109
      go_wp2_with (first
        | (rw [← hwz]; clear hwz; go_wp2_with (first
            | (go_at_call 104; (with_reducible refine HAL.out.mono ?_); rintro e w1 ⟨rfl, ho1⟩; have T := hid (HTT.out.old ho1); have A1 := hid (HAA.out.old ho1); have B1 := hid (HBB.out.old ho1); have O1 := hid (HOO.out.trans ho1); clear ho1 a0 a1 a2 b0 b1 b2; have a0 := A1.out.c0; have a1 := A1.out.c1; have a2 := A1.out.c2; have b0 := B1.out.c0; have b1 := B1.out.c1; have b2 := B1.out.c2)
            | (go_at_call 144; (with_reducible refine (HC.out _).mono ?_); rintro e w2 ⟨rfl, ho2⟩; have T2 := hid (T.out.old ho2); have O2 := hid (O1.out.trans ho2); clear ho2; have c0 := T2.out.c0; have c1 := T2.out.c1; have c2 := T2.out.c2; have f0 := T2.out.f 0; have f1 := T2.out.f 1; have f2 := T2.out.f 2))))
      have R := T2.out.set (.int .u8 0) (.int .i64 0) (.string ⟨#[]⟩)
      exact bodyPost_ret (v := .tuple #[vl 0 0 ⟨#[]⟩, .int .i64 8]) (by simp [results, Tryz.results109, go_sem, R.c0, R.c1, R.c2]) rfl ⟨rfl, old3 O2.out HLE.out _ _ _⟩
    | true =>
      rw [hB] at HC
      obtain ⟨V, hV⟩ : ∃ V, V = cpV k n s k' n' s' := ⟨_, rfl⟩
      show Calls Tryz.prog 109 #[vl k n s, vl k' n' s', .func (.func cf) #[] cb] w fun e w' => e = tl (anT (p (cpV k n s k' n' s'))) ∧ Old w w'
      rw [← hV] at HC ⊢
      clear hV hB
      obtain ⟨Q, hQ⟩ : ∃ Q, Q = p V := ⟨_, rfl⟩
      rw [← hQ]
      have HPV := hid (fun W (h : Old w W) => HP.out W h V)
      rw [← hQ] at HPV
      clear hQ
      have HTR := hid (fun W => truth_any Q W)
      go_enter Tryz.func109, Tryz.ntmps109
      go_wp2_with (first
        | (rw [← hwz]; clear hwz; go_wp2_with (first
            | (go_at_call 104; (with_reducible refine HAL.out.mono ?_); rintro e w1 ⟨rfl, ho1⟩; have T := hid (HTT.out.old ho1); have A1 := hid (HAA.out.old ho1); have B1 := hid (HBB.out.old ho1); have O1 := hid (HOO.out.trans ho1); clear ho1 a0 a1 a2 b0 b1 b2; have a0 := A1.out.c0; have a1 := A1.out.c1; have a2 := A1.out.c2; have b0 := B1.out.c0; have b1 := B1.out.c1; have b2 := B1.out.c2)
            | (go_at_call 144; (with_reducible refine (HC.out _).mono ?_); rintro e w2 ⟨rfl, ho2⟩; have T2 := hid (T.out.old ho2); have O2 := hid (O1.out.trans ho2); clear ho2)
            | (go_at_call 62; (with_reducible refine (HTR.out _).mono ?_); rintro e w4 ⟨rfl, ho4⟩; have T4 := hid (T3.out.old ho4); have O4 := hid (O3.out.trans ho4); clear ho4; have c0 := T4.out.c0; have c1 := T4.out.c1; have c2 := T4.out.c2; have f0 := T4.out.f 0; have f1 := T4.out.f 1; have f2 := T4.out.f 2)
            | ((with_reducible refine (HPV.out _ O2.out).mono ?_); rintro e w3 ⟨rfl, ho3⟩; have T3 := hid (T2.out.old ho3); have O3 := hid (O2.out.trans ho3); clear ho3))))
      have R := T4.out.set (.int .u8 4) (.int .i64 (b01 Q)) (.string ⟨#[]⟩)
      exact bodyPost_ret (v := .tuple #[vl 4 (b01 Q) ⟨#[]⟩, .int .i64 0]) (by simp [results, Tryz.results109, go_sem, R.c0, R.c1, R.c2]) rfl ⟨rfl, old3 O4.out HLE.out _ _ _⟩
structure Gd (x : Vl) : Prop where
  n : I64 x.n
  s : x.s.size ≤ 1000000
def Rk (cf : Nat) (cb : Array Value) (n : Nat) (R : List Vl → An) (w : World) : Prop :=
  ∀ W, Old w W → ∀ (l : List Vl) (v : Value), l.length = n → (∀ x ∈ l, Gd x) → RV W v l → Calls Tryz.prog cf (#[v] ++ cb) W fun e W' => e = tl (R l) ∧ Old W W'
theorem Rk.old {cf n : Nat} {cb : Array Value} {R : List Vl → An} {w w' : World} (h : Rk cf cb n R w) (ho : Old w w') : Rk cf cb n R w' := fun W hW => h W (ho.trans hW)
def C2 (cf : Nat) (f : Vl → Vl → An) : Prop := ∀ (W : World) (a b : Vl), Gd a → Gd b → Calls Tryz.prog cf #[a.v, b.v] W fun e W' => e = tl (f a b) ∧ Old W W'
def C1 (cf : Nat) (f : Vl → An) (w : World) : Prop := ∀ (W : World), Old w W → ∀ (a : Vl), Gd a → Calls Tryz.prog cf #[a.v] W fun e W' => e = tl (f a) ∧ Old W W'
theorem two_rk (cf : Nat) (hen : ∀ args W, (callFunc cf args).run Tryz.prog W = .ok (.enter cf args) W) {f : Vl → Vl → An} (hf : C2 cf f) (g : Nat) (w : World) (hg : w.cell? ⟨g, 0, none⟩ = some (.func (.func cf) #[] #[])) (hgl : g < w.heap.size) :
    Rk 113 #[.pointer (some ⟨g, 0, none⟩)] 2 (twoR f) w := by
  intro W hW l v hl hd hv
  obtain ⟨a, b, rfl⟩ : ∃ a b, l = [a, b] := by
    match l, hl with
    | [a, b], _ => exact ⟨a, b, rfl⟩
  have hA := hd a (by simp)
  have hB := hd b (by simp)
  have HF := hid (fun W' => hf W' a b hA hB)
  show Calls Tryz.prog 113 #[v, .pointer (some ⟨g, 0, none⟩)] W fun e W' => e = tl (f a b) ∧ Old W W'
  obtain ⟨A, hAA⟩ : ∃ A, A = f a b := ⟨_, rfl⟩
  rw [← hAA] at HF ⊢
  clear hAA hd hA hB
  have HO := hid ((Old.refl W).alloc (.cells #[.int .u8 0, .int .i64 0, .string ⟨#[]⟩] 26))
  have HT := hid (Three.new W (.int .u8 0) (.int .i64 0) (.string ⟨#[]⟩))
  have hgW := Nat.lt_of_lt_of_le hgl hW.size
  have hq := (HO.out.cell (p := ⟨g, 0, none⟩) hgW).trans ((hW.cell (p := ⟨g, 0, none⟩) hgl).trans hg)
  obtain ⟨oa, c, rfl, a1, a2, a3⟩ := hv
  obtain ⟨ga, rfl, l1, z0, z1, z2⟩ := a3 0 a rfl
  obtain ⟨gb, e2, l2, t0, t1, t2⟩ := a3 1 b rfl
  injection e2 with e2
  injection e2 with e2
  subst e2
  have x0 := (HO.out.cell l1).trans z0
  have x1 := (HO.out.cell l1).trans z1
  have x2 := (HO.out.cell l1).trans z2
  have y0 := (HO.out.cell l1).trans t0
  have y1 := (HO.out.cell l1).trans t1
  have y2 := (HO.out.cell l1).trans t2
  have G1 := hid (show ¬ g = W.heap.size from Nat.ne_of_lt hgW)
  have G2 := hid (show ¬ ga = W.heap.size from Nat.ne_of_lt l1)
  have Z0 := hid hgW
  have Z1 := hid l1
  simp only [Nat.zero_mul, Nat.one_mul, Nat.zero_add] at x0 x1 x2 y0 y1 y2
  obtain ⟨ak, aN, aS⟩ := a
  obtain ⟨bk, bN, bS⟩ := b
  simp only at x0 x1 x2 y0 y1 y2
  have hc2 : (2 : Nat) ≤ c := a1
  have Q := hid (show W.heap.size ≤ (W.alloc (.cells #[.int .u8 0, .int .i64 0, .string ⟨#[]⟩] 26)).heap.size from HO.out.size)
  clear a3 hf hg hl a1 hgW l1 l2 z0 z1 z2 t0 t1 t2 hW hgl
  have ZW : W.heap.size < (W.alloc (.cells #[.int .u8 0, .int .i64 0, .string ⟨#[]⟩] 26)).heap.size := by rw [sz_alloc]; omega
  go_enter Tryz.func113, Tryz.ntmps113
  go_wp2
  generalize W.alloc (.cells #[.int .u8 0, .int .i64 0, .string ⟨#[]⟩] 26) = W0 at *
  have HK := hid (show ∀ W', Old W0 W' → (W'.cell? ⟨g, 0, none⟩ = some (.func (.func cf) #[] #[]) ∧ W'.cell? ⟨ga, 0, none⟩ = some (.int .u8 ak) ∧ W'.cell? ⟨ga, 1, none⟩ = some (.int .i64 aN) ∧ W'.cell? ⟨ga, 2, none⟩ = some (.string aS) ∧ W'.cell? ⟨ga, 3, none⟩ = some (.int .u8 bk) ∧ W'.cell? ⟨ga, 3 + 1, none⟩ = some (.int .i64 bN) ∧ W'.cell? ⟨ga, 3 + 2, none⟩ = some (.string bS)) from fun W' h => ⟨h.keeps hq, h.keeps x0, h.keeps x1, h.keeps x2, h.keeps y0, h.keeps y1, h.keeps y2⟩)
  have HK2 := hid (show ∀ W' u0 u1 u2, Old W0 W' → ((((W'.setCell ⟨W.heap.size, 0, none⟩ u0).setCell ⟨W.heap.size, 1, none⟩ u1).setCell ⟨W.heap.size, 2, none⟩ u2).cell? ⟨g, 0, none⟩ = some (.func (.func cf) #[] #[]) ∧ (((W'.setCell ⟨W.heap.size, 0, none⟩ u0).setCell ⟨W.heap.size, 1, none⟩ u1).setCell ⟨W.heap.size, 2, none⟩ u2).cell? ⟨ga, 0, none⟩ = some (.int .u8 ak) ∧ (((W'.setCell ⟨W.heap.size, 0, none⟩ u0).setCell ⟨W.heap.size, 1, none⟩ u1).setCell ⟨W.heap.size, 2, none⟩ u2).cell? ⟨ga, 1, none⟩ = some (.int .i64 aN) ∧ (((W'.setCell ⟨W.heap.size, 0, none⟩ u0).setCell ⟨W.heap.size, 1, none⟩ u1).setCell ⟨W.heap.size, 2, none⟩ u2).cell? ⟨ga, 2, none⟩ = some (.string aS) ∧ (((W'.setCell ⟨W.heap.size, 0, none⟩ u0).setCell ⟨W.heap.size, 1, none⟩ u1).setCell ⟨W.heap.size, 2, none⟩ u2).cell? ⟨ga, 3, none⟩ = some (.int .u8 bk) ∧ (((W'.setCell ⟨W.heap.size, 0, none⟩ u0).setCell ⟨W.heap.size, 1, none⟩ u1).setCell ⟨W.heap.size, 2, none⟩ u2).cell? ⟨ga, 3 + 1, none⟩ = some (.int .i64 bN) ∧ (((W'.setCell ⟨W.heap.size, 0, none⟩ u0).setCell ⟨W.heap.size, 1, none⟩ u1).setCell ⟨W.heap.size, 2, none⟩ u2).cell? ⟨ga, 3 + 2, none⟩ = some (.string bS)) from fun W' u0 u1 u2 h => by
    obtain ⟨k0, k1, k2, k3, k4, k5, k6⟩ := HK.out W' h
    exact ⟨far3 k0 G1.out _ _ _, far3 k1 G2.out _ _ _, far3 k2 G2.out _ _ _, far3 k3 G2.out _ _ _, far3 k4 G2.out _ _ _, far3 k5 G2.out _ _ _, far3 k6 G2.out _ _ _⟩)
  have hO0 := (Old.refl W0).drew
  go_region_held3 (fun w' => w'.cell? ⟨g, 0, none⟩ = some (.func (.func cf) #[] #[]) ∧ w'.cell? ⟨ga, 0, none⟩ = some (.int .u8 ak) ∧ w'.cell? ⟨ga, 1, none⟩ = some (.int .i64 aN) ∧ w'.cell? ⟨ga, 2, none⟩ = some (.string aS) ∧ w'.cell? ⟨ga, 3, none⟩ = some (.int .u8 bk) ∧ w'.cell? ⟨ga, 3 + 1, none⟩ = some (.int .i64 bN) ∧ w'.cell? ⟨ga, 3 + 2, none⟩ = some (.string bS))
    (first | exact HK.out _ (by assumption) | exact HK2.out _ _ _ _ (by assumption))
    (first
    | ((with_reducible refine (HF.out _).mono ?_); rintro e w1 ⟨rfl, o1⟩; have T := hid (HT.out.drew.old o1); have O1 := hid (HO.out.drew.trans o1); have hO1 := hO0.trans o1; clear o1; have c0 := T.out.c0; have c1 := T.out.c1; have c2 := T.out.c2; have f0 := T.out.f 0; have f1 := T.out.f 1; have f2 := T.out.f 2))
  all_goals
    go_wp2
    have R := T.out.set (.int .u8 A.v.k) (.int .i64 A.v.n) (.string A.v.s)
    exact bodyPost_ret (v := .tuple #[A.v.v, .int .i64 A.e]) (by simp [results, Tryz.results113, go_sem, R.c0, R.c1, R.c2]) rfl ⟨rfl, old3 O1.out (Nat.le_refl _) _ _ _⟩
theorem one_rk (cf : Nat) (hen : ∀ args W, (callFunc cf args).run Tryz.prog W = .ok (.enter cf args) W) {f : Vl → An} (g : Nat) (w : World) (hf : C1 cf f w) (hg : w.cell? ⟨g, 0, none⟩ = some (.func (.func cf) #[] #[])) (hgl : g < w.heap.size) :
    Rk 123 #[.pointer (some ⟨g, 0, none⟩)] 1 (oneR f) w := by
  intro W hW l v hl hd hv
  obtain ⟨a, rfl⟩ : ∃ a, l = [a] := by
    match l, hl with
    | [a], _ => exact ⟨a, rfl⟩
  have hA := hd a (by simp)
  have HF := hid (fun W' (h : Old W W') => hf W' (hW.trans h) a hA)
  show Calls Tryz.prog 123 #[v, .pointer (some ⟨g, 0, none⟩)] W fun e W' => e = tl (f a) ∧ Old W W'
  obtain ⟨A, hAA⟩ : ∃ A, A = f a := ⟨_, rfl⟩
  rw [← hAA] at HF ⊢
  clear hAA hd hA
  have HO := hid ((Old.refl W).alloc (.cells #[.int .u8 0, .int .i64 0, .string ⟨#[]⟩] 26))
  have HT := hid (Three.new W (.int .u8 0) (.int .i64 0) (.string ⟨#[]⟩))
  have hgW := Nat.lt_of_lt_of_le hgl hW.size
  have hq := (HO.out.cell (p := ⟨g, 0, none⟩) hgW).trans ((hW.cell (p := ⟨g, 0, none⟩) hgl).trans hg)
  obtain ⟨oa, c, rfl, a1, a2, a3⟩ := hv
  obtain ⟨ga, rfl, l1, z0, z1, z2⟩ := a3 0 a rfl
  have x0 := (HO.out.cell l1).trans z0
  have x1 := (HO.out.cell l1).trans z1
  have x2 := (HO.out.cell l1).trans z2
  have G1 := hid (show ¬ g = W.heap.size from Nat.ne_of_lt hgW)
  have G2 := hid (show ¬ ga = W.heap.size from Nat.ne_of_lt l1)
  have Z0 := hid hgW
  have Z1 := hid l1
  simp only [Nat.zero_mul, Nat.one_mul, Nat.zero_add] at x0 x1 x2
  obtain ⟨ak, aN, aS⟩ := a
  simp only at x0 x1 x2
  have hc2 : (1 : Nat) ≤ c := a1
  have Q := hid (show W.heap.size ≤ (W.alloc (.cells #[.int .u8 0, .int .i64 0, .string ⟨#[]⟩] 26)).heap.size from HO.out.size)
  clear a3 hf hg hl a1 hgW l1 z0 z1 z2 hW hgl
  have ZW : W.heap.size < (W.alloc (.cells #[.int .u8 0, .int .i64 0, .string ⟨#[]⟩] 26)).heap.size := by rw [sz_alloc]; omega
  go_enter Tryz.func123, Tryz.ntmps123
  go_wp2
  generalize W.alloc (.cells #[.int .u8 0, .int .i64 0, .string ⟨#[]⟩] 26) = W0 at *
  have HK := hid (show ∀ W', Old W0 W' → (W'.cell? ⟨g, 0, none⟩ = some (.func (.func cf) #[] #[]) ∧ W'.cell? ⟨ga, 0, none⟩ = some (.int .u8 ak) ∧ W'.cell? ⟨ga, 1, none⟩ = some (.int .i64 aN) ∧ W'.cell? ⟨ga, 2, none⟩ = some (.string aS)) from fun W' h => ⟨h.keeps hq, h.keeps x0, h.keeps x1, h.keeps x2⟩)
  have HK2 := hid (show ∀ W' u0 u1 u2, Old W0 W' → ((((W'.setCell ⟨W.heap.size, 0, none⟩ u0).setCell ⟨W.heap.size, 1, none⟩ u1).setCell ⟨W.heap.size, 2, none⟩ u2).cell? ⟨g, 0, none⟩ = some (.func (.func cf) #[] #[]) ∧ (((W'.setCell ⟨W.heap.size, 0, none⟩ u0).setCell ⟨W.heap.size, 1, none⟩ u1).setCell ⟨W.heap.size, 2, none⟩ u2).cell? ⟨ga, 0, none⟩ = some (.int .u8 ak) ∧ (((W'.setCell ⟨W.heap.size, 0, none⟩ u0).setCell ⟨W.heap.size, 1, none⟩ u1).setCell ⟨W.heap.size, 2, none⟩ u2).cell? ⟨ga, 1, none⟩ = some (.int .i64 aN) ∧ (((W'.setCell ⟨W.heap.size, 0, none⟩ u0).setCell ⟨W.heap.size, 1, none⟩ u1).setCell ⟨W.heap.size, 2, none⟩ u2).cell? ⟨ga, 2, none⟩ = some (.string aS)) from fun W' u0 u1 u2 h => by
    obtain ⟨k0, k1, k2, k3⟩ := HK.out W' h
    exact ⟨far3 k0 G1.out _ _ _, far3 k1 G2.out _ _ _, far3 k2 G2.out _ _ _, far3 k3 G2.out _ _ _⟩)
  have hO0 := (Old.refl W0).drew
  go_region_held3 (fun w' => w'.cell? ⟨g, 0, none⟩ = some (.func (.func cf) #[] #[]) ∧ w'.cell? ⟨ga, 0, none⟩ = some (.int .u8 ak) ∧ w'.cell? ⟨ga, 1, none⟩ = some (.int .i64 aN) ∧ w'.cell? ⟨ga, 2, none⟩ = some (.string aS))
    (first | exact HK.out _ (by assumption) | exact HK2.out _ _ _ _ (by assumption))
    (first
    | ((with_reducible refine (HF.out _ HO.out.drew).mono ?_); rintro e w1 ⟨rfl, o1⟩; have T := hid (HT.out.drew.old o1); have O1 := hid (HO.out.drew.trans o1); have hO1 := hO0.trans o1; clear o1; have c0 := T.out.c0; have c1 := T.out.c1; have c2 := T.out.c2; have f0 := T.out.f 0; have f1 := T.out.f 1; have f2 := T.out.f 2))
  all_goals
    go_wp2
    have R := T.out.set (.int .u8 A.v.k) (.int .i64 A.v.n) (.string A.v.s)
    exact bodyPost_ret (v := .tuple #[A.v.v, .int .i64 A.e]) (by simp [results, Tryz.results123, go_sem, R.c0, R.c1, R.c2]) rfl ⟨rfl, old3 O1.out (Nat.le_refl _) _ _ _⟩
def AR (w : World) (v : Value) (A : List An) : Prop :=
  ∃ oa cap, v = .slice oa A.length cap ∧ A.length ≤ cap ∧ cap ≤ maxLen ∧ ∀ j x, A[j]? = some x → ∃ g, oa = some ⟨g, 0, none⟩ ∧ g < w.heap.size ∧ w.cell? ⟨g, j * 4, none⟩ = some (.int .u8 x.v.k) ∧ w.cell? ⟨g, j * 4 + 1, none⟩ = some (.int .i64 x.v.n) ∧ w.cell? ⟨g, j * 4 + 2, none⟩ = some (.string x.v.s) ∧ w.cell? ⟨g, j * 4 + 3, none⟩ = some (.int .i64 x.e)
theorem AR.old {w w' : World} {v : Value} {A : List An} (h : AR w v A) (ho : Old w w') : AR w' v A := by
  obtain ⟨oa, cap, rfl, h1, h2, h3⟩ := h
  refine ⟨oa, cap, rfl, h1, h2, fun j x hj => ?_⟩
  obtain ⟨g, rfl, hg, c0, c1, c2, c3⟩ := h3 j x hj
  exact ⟨g, rfl, Nat.lt_of_lt_of_le hg ho.size, (ho.cell hg).trans c0, (ho.cell hg).trans c1, (ho.cell hg).trans c2, (ho.cell hg).trans c3⟩
abbrev nv (vt : Value) (i : Nat) (va : Value) : Value := .agg #[vt, .int .i64 (i : Int), va]
def kidI (ks : List Int) (at_ : Nat) (i : Nat) : Int :=
  match kidA ks at_ i with
  | some k => (k : Int)
  | none => -1
theorem kid_none {ks : List Int} {at_ i : Nat} (h : ks.length ≤ i) : kidA ks at_ i = none := by
  unfold kidA; rw [List.getElem?_eq_none h]
theorem kid_out {ks : List Int} {at_ i : Nat} {k : Int} (h : ks[i]? = some k) (hk : ¬ (0 ≤ k ∧ k < at_)) : kidA ks at_ i = none := by
  unfold kidA; rw [h]; exact if_neg hk
theorem kid_in {ks : List Int} {at_ i : Nat} {k : Int} (h : ks[i]? = some k) (hk : 0 ≤ k ∧ k < at_) : kidA ks at_ i = some k.toNat := by
  unfold kidA; rw [h]; exact if_pos hk
theorem kid_lt {ks : List Int} {at_ i k : Nat} (h : kidA ks at_ i = some k) : k < at_ := by
  unfold kidA at h
  split at h
  · split at h
    · injection h with h; omega
    · cases h
  · cases h
theorem count_any (w : World) {vt va : Value} {T : List Na} {i : Nat} {x : Na} (hT : Tz w vt T) (hx : T[i]? = some x) : Calls Tryz.prog 81 #[nv vt i va] w fun e w' => e = .returned (.int .i64 (x.ks.length : Int)) ∧ Old w w' := by
  have HO := hid ((Old.refl w).alloc (.cells #[vt, .int .i64 (i : Int), va] 77))
  have hT' := hT.old HO.out
  obtain ⟨oa, cap, rfl, h1, h2, h4⟩ := hT'
  obtain ⟨g, kv, rfl, hg, hs, a0, a1, a2, a3, a4, a5, a6, a7, hk⟩ := h4 i x hx
  obtain ⟨ok, ck, rfl, k1, k2, k4⟩ := hk
  have hi : i < T.length := (List.getElem?_eq_some_iff.1 hx).1
  clear h4 hT hs a0 a1 a2 a3 a4 a6 a7 k4
  go_enter Tryz.func81, Tryz.ntmps81
  go_wp2
  go_ret
  exact ⟨rfl, HO.out⟩
theorem kid_any (w : World) {vt va : Value} {T : List Na} {i : Nat} {x : Na} (hT : Tz w vt T) (hx : T[i]? = some x) (j : Nat) : Calls Tryz.prog 106 #[nv vt i va, .int .i64 (j : Int)] w fun e w' => e = .returned (.int .i64 (kidI x.ks i j)) ∧ Old w w' := by
  have HO := hid ((Old.refl w).alloc (.cells #[vt, .int .i64 (i : Int), va] 77))
  have HN := Bk.new w #[vt, .int .i64 (i : Int), va] 77
  have hT' := hT.old HO.out
  obtain ⟨oa, cap, rfl, h1, h2, h4⟩ := hT'
  obtain ⟨g, kv, rfl, hg, hs, a0, a1, a2, a3, a4, a5, a6, a7, hk⟩ := h4 i x hx
  obtain ⟨ok, ck, rfl, k1, k2, k4⟩ := hk
  have hi : i < T.length := (List.getElem?_eq_some_iff.1 hx).1
  have n1 := HN.c 1
  obtain ⟨K, hK⟩ : ∃ K, K = x.ks.length := ⟨_, rfl⟩
  obtain ⟨L, hL⟩ : ∃ L, L = T.length := ⟨_, rfl⟩
  have hLL := hL.symm
  have HKZ := hid hK
  rw [← hK] at k1 a5
  rw [← hL] at hi h1 a5 n1 HO ⊢
  clear h4 hT hs a0 a1 a2 a3 a4 a6 a7 hK hL HN
  by_cases hlen : K ≤ j
  · have e : kidI x.ks i j = -1 := by unfold kidI; rw [kid_none (by rw [← HKZ.out]; exact hlen)]
    rw [e]
    have e1 : ((K : Int) ≤ (j : Int)) := by omega
    clear e k4
    go_enter Tryz.func106, Tryz.ntmps106
    go_wp2
    go_quiet (fail)
    go_wp2
    go_ret
    exact ⟨rfl, HO.out.drewN _⟩
  · obtain ⟨k, hk⟩ : ∃ k, x.ks[j]? = some k := ⟨_, List.getElem?_eq_getElem (by rw [← HKZ.out]; omega)⟩
    obtain ⟨gk, rfl, hgk, _, b0⟩ := k4 j k hk
    rw [hLL] at b0
    have HKK := hid hk
    have e1 : ¬ ((K : Int) ≤ (j : Int)) := by omega
    clear k4 hk
    by_cases hk0 : k < 0
    · have e : kidI x.ks i j = -1 := by unfold kidI; rw [kid_out HKK.out (by omega)]
      rw [e]
      clear e
      go_enter Tryz.func106, Tryz.ntmps106
      go_wp2
      go_quiet (fail)
      go_wp2
      go_ret
      exact ⟨rfl, HO.out.drewN _⟩
    · by_cases hk1 : (i : Int) ≤ k
      · have e : kidI x.ks i j = -1 := by unfold kidI; rw [kid_out HKK.out (by omega)]
        rw [e]
        clear e
        go_enter Tryz.func106, Tryz.ntmps106
        go_wp2
        go_quiet (fail)
        go_wp2
        go_ret
        exact ⟨rfl, HO.out.drewN _⟩
      · have e : kidI x.ks i j = k := by unfold kidI; rw [kid_in HKK.out (by omega)]; simp only; omega
        rw [e]
        clear e
        go_enter Tryz.func106, Tryz.ntmps106
        go_wp2
        go_quiet (fail)
        go_wp2
        go_ret
        exact ⟨rfl, HO.out.drewN _⟩
theorem ask_any (w : World) {vt va : Value} {T : List Na} {A : List An} {x : Na} (hT : Tz w vt T) (hA : AR w va A) (hx : T[A.length]? = some x) (j : Nat) : Calls Tryz.prog 65 #[nv vt A.length va, .int .i64 (j : Int)] w fun e w' => e = .returned (anv (askA A x.ks j)) ∧ Old w w' := by
  have HO := hid (((Old.refl w).alloc (.cells #[vt, .int .i64 (A.length : Int), va] 77)).alloc (.cells zA 73))
  have HN := hid ((Bk.new w #[vt, .int .i64 (A.length : Int), va] 77).alloc (.cells zA 73))
  have HT := hid (Bk.new (w.alloc (.cells #[vt, .int .i64 (A.length : Int), va] 77)) zA 73)
  rw [sz_alloc] at HT
  have HK := hid (fun W (h : Old w W) => kid_any W (va := va) (hT.old h) hx j)
  have n0 := HN.out.c 0
  have n1 := HN.out.c 1
  have n2 := HN.out.c 2
  have HW : ∀ W, Old w W → ∀ k y, A[k]? = some y → ∃ g cap, va = .slice (some ⟨g, 0, none⟩) A.length cap ∧ A.length ≤ cap ∧ g < w.heap.size ∧ W.cell? ⟨g, k * 4, none⟩ = some (.int .u8 y.v.k) ∧ W.cell? ⟨g, k * 4 + 1, none⟩ = some (.int .i64 y.v.n) ∧ W.cell? ⟨g, k * 4 + 2, none⟩ = some (.string y.v.s) ∧ W.cell? ⟨g, k * 4 + 3, none⟩ = some (.int .i64 y.e) := by
    intro W h k y hy
    obtain ⟨oa, cap, rfl, h1, h2, h3⟩ := hA
    obtain ⟨g, rfl, hg, c0, c1, c2, c3⟩ := h3 k y hy
    exact ⟨g, cap, rfl, h1, hg, (h.cell hg).trans c0, (h.cell hg).trans c1, (h.cell hg).trans c2, (h.cell hg).trans c3⟩
  unfold askA
  cases hk : kidA x.ks A.length j with
  | none =>
    have e1 : kidI x.ks A.length j = -1 := by unfold kidI; rw [hk]
    rw [e1] at HK
    show Calls Tryz.prog 65 #[nv vt A.length va, .int .i64 (j : Int)] w fun e w' => e = .returned (anv (anE 0)) ∧ Old w w'
    clear hk e1 hT hA hx HW
    go_enter Tryz.func65, Tryz.ntmps65
    go_wp2_with (first
      | (go_at_call 106; (with_reducible refine (HK.out _ HO.out).mono ?_); rintro e w1 ⟨rfl, o1⟩; have T1 := hid (HT.out.old o1); have O1 := hid (HO.out.trans o1); clear o1; have c0 := T1.out.c 0; have c1 := T1.out.c 1; have c2 := T1.out.c 2; have c3 := T1.out.c 3; have f0 := T1.out.f 0; have f1 := T1.out.f 1; have f2 := T1.out.f 2; have f3 := T1.out.f 3))
    have R := T1.out.set4 rfl (.int .u8 0) (.int .i64 0) (.string ⟨#[]⟩) (.int .i64 0)
    exact bodyPost_ret (v := anv (anE 0)) (by simp [results, Tryz.results65, go_sem, R.c 0, R.c 1, R.c 2, R.c 3]) rfl ⟨rfl, old4 O1.out (by omega) _ _ _ _⟩
  | some k =>
    have e1 : kidI x.ks A.length j = (k : Int) := by unfold kidI; rw [hk]
    have hkl := kid_lt hk
    rw [e1] at HK
    obtain ⟨y, hy⟩ : ∃ y, A[k]? = some y := ⟨_, List.getElem?_eq_getElem hkl⟩
    have e2 : A.getD k (anE 0) = y := by rw [List.getD_eq_getElem?_getD, hy]; rfl
    show Calls Tryz.prog 65 #[nv vt A.length va, .int .i64 (j : Int)] w fun e w' => e = .returned (anv (A.getD k (anE 0))) ∧ Old w w'
    rw [e2]
    obtain ⟨g, cap, rfl, h1, hg, x0, x1, x2, x3⟩ := HW w (Old.refl w) k y hy
    have HX := hid (fun W (h : Old w W) => (show W.cell? ⟨g, k * 4, none⟩ = some (.int .u8 y.v.k) ∧ W.cell? ⟨g, k * 4 + 1, none⟩ = some (.int .i64 y.v.n) ∧ W.cell? ⟨g, k * 4 + 2, none⟩ = some (.string y.v.s) ∧ W.cell? ⟨g, k * 4 + 3, none⟩ = some (.int .i64 y.e) from ⟨(h.cell hg).trans x0, (h.cell hg).trans x1, (h.cell hg).trans x2, (h.cell hg).trans x3⟩))
    obtain ⟨N, hN⟩ : ∃ N, N = A.length := ⟨_, rfl⟩
    rw [← hN] at HK HO HN HT n0 n1 n2 hkl h1 ⊢
    clear hk e1 e2 hT hA hx HW x0 x1 x2 x3 hN hy
    go_enter Tryz.func65, Tryz.ntmps65
    go_wp2_with (first
      | (go_at_call 106; (with_reducible refine (HK.out _ HO.out).mono ?_); rintro e w1 ⟨rfl, o1⟩; have T1 := hid (HT.out.old o1); have N1 := hid (HN.out.old o1); have O1 := hid (HO.out.trans o1); clear o1 n0 n1 n2; have n2 := N1.out.c 2; obtain ⟨x0, x1, x2, x3⟩ := HX.out _ O1.out; have c0 := T1.out.c 0; have c1 := T1.out.c 1; have c2 := T1.out.c 2; have c3 := T1.out.c 3; have f0 := T1.out.f 0; have f1 := T1.out.f 1; have f2 := T1.out.f 2; have f3 := T1.out.f 3))
    have R := T1.out.set4 rfl (.int .u8 y.v.k) (.int .i64 y.v.n) (.string y.v.s) (.int .i64 y.e)
    exact bodyPost_ret (v := anv y) (by simp [results, Tryz.results65, go_sem, R.c 0, R.c 1, R.c 2, R.c 3]) rfl ⟨rfl, old4 O1.out (by omega) _ _ _ _⟩
theorem null_any (w : World) {vt va : Value} {T : List Na} {i : Nat} {x : Na} (hT : Tz w vt T) (hx : T[i]? = some x) (j : Nat) : Calls Tryz.prog 108 #[nv vt i va, .int .i64 (j : Int)] w fun e w' => e = .returned (.bool (nullA T i x.ks j)) ∧ Old w w' := by
  have HO := hid ((Old.refl w).alloc (.cells #[vt, .int .i64 (i : Int), va] 77))
  have HN := hid (Bk.new w #[vt, .int .i64 (i : Int), va] 77)
  have HK := hid (fun W (h : Old w W) => kid_any W (va := va) (hT.old h) hx j)
  have n0 := HN.out.c 0
  have n1 := HN.out.c 1
  have n2 := HN.out.c 2
  have hi : i < T.length := (List.getElem?_eq_some_iff.1 hx).1
  unfold nullA
  cases hk : kidA x.ks i j with
  | none =>
    have e1 : kidI x.ks i j = -1 := by unfold kidI; rw [hk]
    rw [e1] at HK
    show Calls Tryz.prog 108 #[nv vt i va, .int .i64 (j : Int)] w fun e w' => e = .returned (.bool false) ∧ Old w w'
    clear hk e1 hT hx
    go_enter Tryz.func108, Tryz.ntmps108
    go_wp2_with (first
      | (go_at_call 106; (with_reducible refine (HK.out _ HO.out).mono ?_); rintro e w1 ⟨rfl, o1⟩; have O1 := hid (HO.out.trans o1); clear o1))
    go_ret
    exact ⟨rfl, O1.out⟩
  | some k =>
    have e1 : kidI x.ks i j = (k : Int) := by unfold kidI; rw [hk]
    have hkl := kid_lt hk
    rw [e1] at HK
    obtain ⟨y, hy⟩ : ∃ y, T[k]? = some y := ⟨_, List.getElem?_eq_getElem (by omega)⟩
    show Calls Tryz.prog 108 #[nv vt i va, .int .i64 (j : Int)] w fun e w' => e = .returned (.bool (match T[k]? with | some x => x.op == 1 && x.vk == 0 | none => false)) ∧ Old w w'
    rw [hy]
    show Calls Tryz.prog 108 #[nv vt i va, .int .i64 (j : Int)] w fun e w' => e = .returned (.bool (y.op == 1 && y.vk == 0)) ∧ Old w w'
    obtain ⟨oa, cap, rfl, h1, h2, h4⟩ := hT
    obtain ⟨g, kv, rfl, hg, hs, a0, a1, a2, a3, a4, a5, a6, a7, hk'⟩ := h4 k y hy
    have HX := hid (fun W (h : Old w W) => (show W.cell? ⟨g, k * 8, none⟩ = some (.int .u8 y.op) ∧ W.cell? ⟨g, k * 8 + 1, none⟩ = some (.int .u8 y.vk) from ⟨(h.cell hg).trans a0, (h.cell hg).trans a1⟩))
    obtain ⟨L, hL⟩ : ∃ L, L = T.length := ⟨_, rfl⟩
    rw [← hL] at HK HO HN n0 n1 n2 hi h1 ⊢
    clear hk e1 h4 hx a0 a1 a2 a3 a4 a5 a6 a7 hk' hs hL hy
    obtain ⟨op, vk, vn, vs, nm, ks, ln, cl⟩ := y
    simp only at HX ⊢
    by_cases h01 : op = 1
    · subst h01
      by_cases h02 : vk = 0
      · subst h02
        go_enter Tryz.func108, Tryz.ntmps108
        go_wp2_with (first
          | (go_at_call 106; (with_reducible refine (HK.out _ HO.out).mono ?_); rintro e w1 ⟨rfl, o1⟩; have N1 := hid (HN.out.old o1); have O1 := hid (HO.out.trans o1); clear o1 n0 n1 n2; have n0 := N1.out.c 0; obtain ⟨x0, x1⟩ := HX.out _ O1.out))
        go_ret
        exact ⟨rfl, O1.out⟩
      · have e2 : (vk == 0) = false := beq_false_of_ne h02
        go_enter Tryz.func108, Tryz.ntmps108
        go_wp2_with (first
          | (go_at_call 106; (with_reducible refine (HK.out _ HO.out).mono ?_); rintro e w1 ⟨rfl, o1⟩; have N1 := hid (HN.out.old o1); have O1 := hid (HO.out.trans o1); clear o1 n0 n1 n2; have n0 := N1.out.c 0; obtain ⟨x0, x1⟩ := HX.out _ O1.out))
        go_ret
        refine ⟨?_, O1.out⟩
        simp [e2]
    · have e2 : (op == 1) = false := beq_false_of_ne h01
      go_enter Tryz.func108, Tryz.ntmps108
      go_wp2_with (first
        | (go_at_call 106; (with_reducible refine (HK.out _ HO.out).mono ?_); rintro e w1 ⟨rfl, o1⟩; have N1 := hid (HN.out.old o1); have O1 := hid (HO.out.trans o1); clear o1 n0 n1 n2; have n0 := N1.out.c 0; obtain ⟨x0, x1⟩ := HX.out _ O1.out))
      go_ret
      refine ⟨?_, O1.out⟩
      simp [e2]
end Go.Proofs.YtmkmafkkpigfpaaGreatDoor.V
