/- Layer eval: a truth asked; what is asked of kinds. bindings; and, or, not, if. function values that reckon: of kinds, of texts, of what compares. -/
import Derived.Test.YtmkmafkkpigfpaaGreatDoorWH
set_option maxHeartbeats 1600000
namespace Go.Proofs.YtmkmafkkpigfpaaGreatDoor.V
open Go.ChangeShapes Go.WideShapes Go.ChangeAt Go.RowKit Go.Lib
set_option linter.unusedVariables false
set_option linter.unusedSimpArgs false
set_option maxRecDepth 100000
theorem Bk.drewN {w : World} {b t : Nat} {cs : Array Value} (h : Bk w b cs t) (n : Nat) : Bk (w.drewN n) b cs t := h
theorem Bk.drew {w : World} {b t : Nat} {cs : Array Value} (h : Bk w b cs t) : Bk w.drew b cs t := h
theorem RV.one (w : World) (x : Vl) : RV (w.alloc (.cells #[.int .u8 x.k, .int .i64 x.n, .string x.s] 26)) (.slice (some ⟨w.heap.size, 0, none⟩) 1 1) [x] := by
  have h := Bk.new w #[.int .u8 x.k, .int .i64 x.n, .string x.s] 26
  refine ⟨_, 1, rfl, Nat.le_refl _, by decide, fun j y hj => ?_⟩
  match j, hj with
  | 0, hj =>
    injection hj with hj
    subst hj
    exact ⟨_, rfl, h.lt, h.c 0, h.c 1, h.c 2⟩
theorem kind_cell (w : World) (k : Int) : (w.alloc (.cells #[.int .u8 k] 5)).cell? ⟨w.heap.size, 0, none⟩ = some (.int .u8 k) := (Bk.new w #[.int .u8 k] 5).c 0
theorem goesFor_k (kind : Int) (w : World) : Calls Tryz.prog 105 #[.int .u8 kind] w fun e w' => e = .returned (.func (.func 143) #[] #[.pointer (some ⟨w.heap.size, 0, none⟩)]) ∧ w'.cell? ⟨w.heap.size, 0, none⟩ = some (.int .u8 kind) ∧ w.heap.size < w'.heap.size ∧ Old w w' :=
  (goesFor_any kind w).mono fun e w' ⟨h1, h2⟩ => by
    subst h2
    exact ⟨h1, kind_cell w kind, by rw [sz_alloc]; omega, (Old.refl w).alloc _⟩
theorem truth_ask (w : World) {vt va : Value} {T : List Na} {A : List An} {x : Na} (hT : Tz w vt T) (hA : AR w va A) (hx : T[A.length]? = some x) (j : Nat) : Calls Tryz.prog 61 #[nv vt A.length va, .int .i64 (j : Int)] w fun e w' => e = .returned (anv (truA (askA A x.ks j))) ∧ Old w w' := by
  have HO := hid (((Old.refl w).alloc (.cells #[vt, .int .i64 (A.length : Int), va] 77)).alloc (.cells zA 73))
  have HT := hid (Bk.new (w.alloc (.cells #[vt, .int .i64 (A.length : Int), va] 77)) zA 73)
  have HN := hid ((Bk.new w #[vt, .int .i64 (A.length : Int), va] 77).alloc (.cells zA 73))
  rw [sz_alloc] at HT
  have n0 := HN.out.c 0
  have n1 := HN.out.c 1
  have n2 := HN.out.c 2
  have HK := hid (fun W (h : Old w W) => ask_any W (hT.old h) (hA.old h) hx j)
  obtain ⟨a, ha⟩ : ∃ a, a = askA A x.ks j := ⟨_, rfl⟩
  obtain ⟨N, hN⟩ : ∃ N, N = A.length := ⟨_, rfl⟩
  rw [← ha] at HK ⊢
  rw [← hN] at HK HO HT HN n0 n1 n2 ⊢
  clear ha hT hA hx hN
  obtain ⟨⟨k, n, s⟩, er⟩ := a
  unfold truA
  by_cases he : er = 0
  · subst he
    obtain ⟨B, hB⟩ : ∃ B, B = goesB 4 ⟨k, n, s⟩ := ⟨_, rfl⟩
    have HG := hid (fun (W : World) (g gs : Nat) (h1 : W.cell? ⟨g, 0, none⟩ = some (.int .u8 4)) (h2 : g < W.heap.size) (h3 : RV W (.slice (some ⟨gs, 0, none⟩) 1 1) [⟨k, n, s⟩]) => show Calls Tryz.prog 104 #[.func (.func 143) #[] #[.pointer (some ⟨g, 0, none⟩)], .slice (some ⟨gs, 0, none⟩) 1 1] W fun e W' => e = .returned (.bool B) ∧ Old W W' from by
      have h := allp_any 143 #[.pointer (some ⟨g, 0, none⟩)] (goesB 4) (fun _ _ => rfl) [⟨k, n, s⟩] _ W h3 (by simp) (goesFor_pr 4 g W h1 h2)
      rw [List.all_cons, List.all_nil, Bool.and_true, ← hB] at h
      exact h)
    rw [← hB]
    clear hB
    have HGA := hid (fun (W2 : World) (g : Nat) (h1 : W2.cell? ⟨g, 0, none⟩ = some (.int .u8 4)) (h2 : g < W2.heap.size) => show Calls Tryz.prog 104 #[.func (.func 143) #[] #[.pointer (some ⟨g, 0, none⟩)], .slice (some ⟨W2.heap.size, 0, none⟩) 1 1] (W2.alloc (.cells #[.int .u8 k, .int .i64 n, .string s] 26)) fun e W' => e = .returned (.bool B) ∧ Old (W2.alloc (.cells #[.int .u8 k, .int .i64 n, .string s] 26)) W' from
      HG.out _ g _ (((Old.refl W2).alloc _).keeps h1) (Nat.lt_of_lt_of_le h2 ((Old.refl W2).alloc _).size) (RV.one W2 ⟨k, n, s⟩))
    have HGB := hid (fun (W0 W2 : World) (g : Nat) (h0 : Old (W0.alloc (.cells #[.int .u8 k, .int .i64 n, .string s] 26)) W2) (h1 : W2.cell? ⟨g, 0, none⟩ = some (.int .u8 4)) (h2 : g < W2.heap.size) => show Calls Tryz.prog 104 #[.func (.func 143) #[] #[.pointer (some ⟨g, 0, none⟩)], .slice (some ⟨W0.heap.size, 0, none⟩) 1 1] W2 fun e W' => e = .returned (.bool B) ∧ Old W2 W' from
      HG.out _ g _ h1 h2 ((RV.one W0 ⟨k, n, s⟩).old h0))
    go_enter Tryz.func61, Tryz.ntmps61
    go_wp2_with (first
      | (go_at_call 65; (with_reducible refine (HK.out _ HO.out).mono ?_); rintro e w1 ⟨rfl, o1⟩; have o2 := (Old.refl w1).alloc (.cells #[.int .u8 k, .int .i64 n, .string s, .int .i64 0] 73); have T1 := hid (HT.out.old (o1.trans o2)); have B1 := hid (Bk.new w1 #[.int .u8 k, .int .i64 n, .string s, .int .i64 0] 73); have O1 := hid (HO.out.trans (o1.trans o2)); clear o1 o2))
    generalize w1.alloc (.cells #[.int .u8 k, .int .i64 n, .string s, .int .i64 0] 73) = W1 at *
    have b0 := B1.out.c 0; have b1 := B1.out.c 1; have b2 := B1.out.c 2; have b3 := B1.out.c 3
    clear n0 n1 n2
    have hO1 := (Old.refl W1).drew
    have HKP := hid (show ∀ W', Old W1 W' → (W'.cell? ⟨w1.heap.size, 0, none⟩ = some (.int .u8 k) ∧ W'.cell? ⟨w1.heap.size, 1, none⟩ = some (.int .i64 n) ∧ W'.cell? ⟨w1.heap.size, 2, none⟩ = some (.string s) ∧ W'.cell? ⟨w1.heap.size, 3, none⟩ = some (.int .i64 0)) from fun W' h => ⟨h.keeps b0, h.keeps b1, h.keeps b2, h.keeps b3⟩)
    go_region_held3 (fun w' => w'.cell? ⟨w1.heap.size, 0, none⟩ = some (.int .u8 k) ∧ w'.cell? ⟨w1.heap.size, 1, none⟩ = some (.int .i64 n) ∧ w'.cell? ⟨w1.heap.size, 2, none⟩ = some (.string s) ∧ w'.cell? ⟨w1.heap.size, 3, none⟩ = some (.int .i64 0))
      (first | exact HKP.out _ (by assumption) | exact HKP.out _ (Old.alloc (by assumption) _))
      (first
        | (go_at_call 105; (with_reducible refine (goesFor_k _ _).mono ?_); rintro e w2 ⟨rfl, kc, kl, o2⟩; (first | (have hO2 : Old W1 w2 := hO1.trans o2; replace kc : w2.cell? ⟨W1.heap.size, 0, none⟩ = some (.int .u8 4) := kc; replace kl : W1.heap.size < w2.heap.size := kl) | (have hO2 : Old W1 w2 := ((Old.refl W1).alloc _).drew.trans o2; replace o2 : Old (W1.alloc (.cells #[.int .u8 k, .int .i64 n, .string s] 26)) w2 := ((Old.refl _).drew).trans o2; replace kl : (W1.alloc (.cells #[.int .u8 k, .int .i64 n, .string s] 26)).heap.size < w2.heap.size := kl; replace kc : w2.cell? ⟨(W1.alloc (.cells #[.int .u8 k, .int .i64 n, .string s] 26)).heap.size, 0, none⟩ = some (.int .u8 4) := kc; rw [sz_alloc] at kc kl)))
        | (go_at_call 104; (first
            | (with_reducible refine (HGA.out _ _ kc kl).mono ?_)
            | (refine (HGB.out W1 _ _ o2 kc kl).mono ?_)); rintro e w3 ⟨rfl, o3⟩; (first | have hO3 : Old W1 w3 := hO2.trans o3 | have hO3 : Old W1 w3 := (hO2.alloc _).trans o3)))
    all_goals
      have T3 := hid (T1.out.old hO3)
      have O3 := hid (O1.out.trans hO3)
      obtain ⟨x0, x1, x2, x3⟩ := HKP.out _ hO3
      have c0 := T3.out.c 0; have c1 := T3.out.c 1; have c2 := T3.out.c 2; have c3 := T3.out.c 3; have f0 := T3.out.f 0; have f1 := T3.out.f 1; have f2 := T3.out.f 2; have f3 := T3.out.f 3
      cases B
      · go_wp2
        have R := T3.out.set4 rfl (.int .u8 0) (.int .i64 0) (.string ⟨#[]⟩) (.int .i64 8)
        exact bodyPost_ret (v := anv (anE 8)) (by simp [results, Tryz.results61, go_sem, R.c 0, R.c 1, R.c 2, R.c 3]) rfl ⟨by simp, old4 O3.out (by omega) _ _ _ _⟩
      · go_wp2
        have R := T3.out.set4 rfl (.int .u8 k) (.int .i64 n) (.string s) (.int .i64 0)
        exact bodyPost_ret (v := anv ⟨⟨k, n, s⟩, 0⟩) (by simp [results, Tryz.results61, go_sem, R.c 0, R.c 1, R.c 2, R.c 3]) rfl ⟨by simp, old4 O3.out (by omega) _ _ _ _⟩
  · rw [if_neg (fun h => he h.1)]
    have e1 : (er == 0) = false := beq_false_of_ne he
    go_enter Tryz.func61, Tryz.ntmps61
    go_wp2_with (first
      | (go_at_call 65; (with_reducible refine (HK.out _ HO.out).mono ?_); rintro e w1 ⟨rfl, o1⟩; have o2 := (Old.refl w1).alloc (.cells #[.int .u8 k, .int .i64 n, .string s, .int .i64 er] 73); have T1 := hid (HT.out.old (o1.trans o2)); have B1 := hid (Bk.new w1 #[.int .u8 k, .int .i64 n, .string s, .int .i64 er] 73); have O1 := hid (HO.out.trans (o1.trans o2)); clear o1 o2))
    generalize w1.alloc (.cells #[.int .u8 k, .int .i64 n, .string s, .int .i64 er] 73) = W1 at *
    have b0 := B1.out.c 0; have b1 := B1.out.c 1; have b2 := B1.out.c 2; have b3 := B1.out.c 3
    have c0 := T1.out.c 0; have c1 := T1.out.c 1; have c2 := T1.out.c 2; have c3 := T1.out.c 3; have f0 := T1.out.f 0; have f1 := T1.out.f 1; have f2 := T1.out.f 2; have f3 := T1.out.f 3
    go_quiet (fail)
    go_wp2
    have R := (T1.out.drewN nq).set4 rfl (.int .u8 k) (.int .i64 n) (.string s) (.int .i64 er)
    exact bodyPost_ret (v := anv ⟨⟨k, n, s⟩, er⟩) (by simp [results, Tryz.results61, go_sem, R.c 0, R.c 1, R.c 2, R.c 3]) rfl ⟨rfl, old4 (O1.out.drewN nq) (by omega) _ _ _ _⟩
structure Bd where
  nm : ByteArray
  v : Vl
def BR (w : World) (v : Value) (l : List Bd) : Prop :=
  ∃ oa cap, v = .slice oa l.length cap ∧ l.length ≤ cap ∧ cap ≤ maxLen ∧ ∀ j x, l[j]? = some x → ∃ g o, oa = some ⟨g, o, none⟩ ∧ g < w.heap.size ∧ w.cell? ⟨g, o + j * 4, none⟩ = some (.string x.nm) ∧ w.cell? ⟨g, o + j * 4 + 1, none⟩ = some (.int .u8 x.v.k) ∧ w.cell? ⟨g, o + j * 4 + 2, none⟩ = some (.int .i64 x.v.n) ∧ w.cell? ⟨g, o + j * 4 + 3, none⟩ = some (.string x.v.s)
theorem BR.old {w w' : World} {v : Value} {l : List Bd} (h : BR w v l) (ho : Old w w') : BR w' v l := by
  obtain ⟨oa, cap, rfl, h1, h2, h3⟩ := h
  refine ⟨oa, cap, rfl, h1, h2, fun j x hj => ?_⟩
  obtain ⟨g, o, rfl, hg, c0, c1, c2, c3⟩ := h3 j x hj
  exact ⟨g, o, rfl, Nat.lt_of_lt_of_le hg ho.size, (ho.cell hg).trans c0, (ho.cell hg).trans c1, (ho.cell hg).trans c2, (ho.cell hg).trans c3⟩
def boundA (nm : ByteArray) (l : List Bd) : An :=
  match l.findIdx? (fun b => b.nm.toList == nm.toList) with
  | some i => match l[i]? with
    | some b => properA b.v
    | none => anE 11
  | none => anE 11
theorem asks_any (nm a : ByteArray) (k n : Int) (s : ByteArray) (g : Nat) (w : World) (hg : w.cell? ⟨g, 0, none⟩ = some (.string nm)) (hgl : g < w.heap.size) : Calls Tryz.prog 60 #[.agg #[.string a, .int .u8 k, .int .i64 n, .string s], .pointer (some ⟨g, 0, none⟩)] w fun e w' => e = .returned (.bool (a.toList == nm.toList)) ∧ Old w w' := by
  have HO := hid ((Old.refl w).alloc (.cells #[.string a, .int .u8 k, .int .i64 n, .string s] 43))
  have hq := (HO.out.cell (p := ⟨g, 0, none⟩) hgl).trans hg
  clear hg
  go_enter Tryz.func60, Tryz.ntmps60
  go_wp2
  go_ret
  exact ⟨rfl, HO.out⟩
def fiI (nm : ByteArray) (l : List Bd) : Int :=
  match l.findIdx? (fun b => b.nm.toList == nm.toList) with
  | some i => (i : Int)
  | none => -1
theorem findIdx_at {α : Type} {p : α → Bool} {l : List α} {k : Nat} {x : α} (h : ∀ j, j < k → ∀ y, l[j]? = some y → p y = false) (hx : l[k]? = some x) (hp : p x = true) : l.findIdx? p = some k := by
  have hk := (List.getElem?_eq_some_iff.1 hx).1
  have e := (List.getElem?_eq_some_iff.1 hx).2
  rw [List.findIdx?_eq_some_iff_getElem]
  refine ⟨hk, by rw [e]; exact hp, fun j hj => ?_⟩
  have := h j hj (l[j]'(by omega)) (List.getElem?_eq_getElem _)
  simpa using this
theorem findIdx_no {α : Type} {p : α → Bool} {l : List α} (h : ∀ (j : Nat) (y : α), l[j]? = some y → p y = false) : l.findIdx? p = none := by
  rw [List.findIdx?_eq_none_iff]
  intro y hy
  obtain ⟨j, hj⟩ := List.getElem?_of_mem hy
  exact h j y hj
theorem index_any (nm : ByteArray) (g : Nat) (l : List Bd) (v : Value) (w : World) (hl : BR w v l) (hg : w.cell? ⟨g, 0, none⟩ = some (.string nm)) (hgl : g < w.heap.size) : Calls Tryz.prog 59 #[v, .func (.func 60) #[] #[.pointer (some ⟨g, 0, none⟩)]] w fun e w' => e = .returned (.int .i64 (fiI nm l)) ∧ Old w w' := by
  obtain ⟨oa, c, rfl, a1, a2, a3⟩ := hl
  obtain ⟨n, hn⟩ : ∃ n, n = l.length := ⟨_, rfl⟩
  rw [← hn] at a1 ⊢
  have HN := hid hn
  have HA := hid a3
  have HC := hid (fun W (h : Old w W) a k m s => asks_any nm a k m s g W ((h.cell (p := ⟨g, 0, none⟩) hgl).trans hg) (Nat.lt_of_lt_of_le hgl h.size))
  obtain ⟨R, hR⟩ : ∃ R, R = fiI nm l := ⟨_, rfl⟩
  rw [← hR]
  have HR := hid hR
  clear hn a3 hg hR
  unfold maxLen at a2
  go_enter Tryz.func59, Tryz.ntmps59
  go_wp2
  go_loopw [8] (fun i wr => ∃ k : Nat, k ≤ n ∧ i = .int .i64 (k : Int) ∧ Hid (∀ j, j < k → ∀ y, l[j]? = some y → (y.nm.toList == nm.toList) = false) ∧ Hid (Old w wr)) (fun i _ => (n - intOf i).toNat)
  case atStart => exact ⟨0, Nat.zero_le _, rfl, hid (fun j h => by omega), hid (Old.refl w)⟩
  case round =>
    obtain ⟨k, hk, rfl, HE, HO⟩ := hrel
    by_cases hkn : k < n
    · obtain ⟨x, hx⟩ : ∃ x, l[k]? = some x := ⟨_, List.getElem?_eq_getElem (by rw [← HN.out]; exact hkn)⟩
      obtain ⟨ga, go, rfl, hga, c0, c1, c2, c3⟩ := HA.out k x hx
      have d0 := (HO.out.cell hga).trans c0
      have d1 := (HO.out.cell hga).trans c1
      have d2 := (HO.out.cell hga).trans c2
      have d3 := (HO.out.cell hga).trans c3
      obtain ⟨xm, xk, xn, xs⟩ := x
      have HX := hid hx
      have h1 := HC.out wr HO.out xm xk xn xs
      clear hx c0 c1 c2 c3
      cases hq : (xm.toList == nm.toList) with
      | true =>
        rw [hq] at h1
        have HQ := hid hq
        clear hq
        go_wp2_with (first
          | (go_at_call 60; (with_reducible refine h1.mono ?_); rintro e w1 ⟨rfl, o1⟩; have O1 := hid (HO.out.trans o1); clear o1))
        go_ret
        refine ⟨?_, O1.out⟩
        rw [HR.out]
        unfold fiI
        rw [findIdx_at HE.out HX.out HQ.out]
        rfl
      | false =>
        rw [hq] at h1
        have HQ := hid hq
        clear hq
        go_wp2_with (first
          | (go_at_call 60; (with_reducible refine h1.mono ?_); rintro e w1 ⟨rfl, o1⟩; have O1 := hid (HO.out.trans o1); clear o1))
        refine ⟨⟨k + 1, hkn, rfl, hid fun j hj y hy => ?_, O1⟩, by simp only [intOf]; omega⟩
        rcases Nat.lt_or_ge j k with h | h
        · exact HE.out j h y hy
        · obtain rfl : j = k := by omega
          rw [HX.out] at hy
          injection hy with hy
          rw [← hy]
          exact HQ.out
    · obtain rfl : k = n := by omega
      go_wp2
      go_ret
      refine ⟨?_, HO.out⟩
      rw [HR.out]
      unfold fiI
      rw [findIdx_no (fun j y hy => HE.out j (by have := (List.getElem?_eq_some_iff.1 hy).1; rw [HN.out]; exact this) y hy)]
      rfl
theorem bound_any (nm : ByteArray) (l : List Bd) (v : Value) (w : World) (hl : BR w v l) : Calls Tryz.prog 33 #[.string nm, v] w fun e w' => e = .returned (anv (boundA nm l)) ∧ Old w w' := by
  have HO := hid (((Old.refl w).alloc (.cells #[.string nm] 9)).alloc (.cells zA 73))
  have HQ := (Bk.new w #[.string nm] 9).alloc (.cells zA 73)
  have HT := hid (Bk.new (w.alloc (.cells #[.string nm] 9)) zA 73)
  rw [sz_alloc] at HT
  have HI := hid (index_any nm w.heap.size l v _ (hl.old HO.out) (HQ.c 0) HQ.lt)
  have HL := hid hl
  unfold fiI at HI
  unfold boundA
  clear HQ hl
  cases hf : l.findIdx? (fun b => b.nm.toList == nm.toList) with
  | none =>
    rw [hf] at HI
    show Calls Tryz.prog 33 #[.string nm, v] w fun e w' => e = .returned (anv (anE 11)) ∧ Old w w'
    replace HI : Hid (Calls Tryz.prog 59 #[v, .func (.func 60) #[] #[.pointer (some ⟨w.heap.size, 0, none⟩)]] ((w.alloc (.cells #[.string nm] 9)).alloc (.cells zA 73)) fun e w' => e = .returned (.int .i64 (-1)) ∧ Old ((w.alloc (.cells #[.string nm] 9)).alloc (.cells zA 73)) w') := HI
    go_enter Tryz.func33, Tryz.ntmps33
    go_wp2_with (first
      | (go_at_call 59; (with_reducible refine HI.out.mono ?_); rintro e w1 ⟨rfl, o1⟩; have T1 := hid (HT.out.old o1); have O1 := hid (HO.out.trans o1); clear o1; have c0 := T1.out.c 0; have c1 := T1.out.c 1; have c2 := T1.out.c 2; have c3 := T1.out.c 3; have f0 := T1.out.f 0; have f1 := T1.out.f 1; have f2 := T1.out.f 2; have f3 := T1.out.f 3))
    have R := T1.out.set4 rfl (.int .u8 0) (.int .i64 0) (.string ⟨#[]⟩) (.int .i64 11)
    exact bodyPost_ret (v := anv (anE 11)) (by simp [results, Tryz.results33, go_sem, R.c 0, R.c 1, R.c 2, R.c 3]) rfl ⟨rfl, old4 O1.out (by omega) _ _ _ _⟩
  | some k =>
    rw [hf] at HI
    have hk : k < l.length := by
      have := List.findIdx?_eq_some_iff_getElem.1 hf
      exact this.1
    obtain ⟨x, hx⟩ : ∃ x, l[k]? = some x := ⟨_, List.getElem?_eq_getElem hk⟩
    show Calls Tryz.prog 33 #[.string nm, v] w fun e w' => e = .returned (anv (match l[k]? with | some b => properA b.v | none => anE 11)) ∧ Old w w'
    rw [hx]
    show Calls Tryz.prog 33 #[.string nm, v] w fun e w' => e = .returned (anv (properA x.v)) ∧ Old w w'
    replace HI : Hid (Calls Tryz.prog 59 #[v, .func (.func 60) #[] #[.pointer (some ⟨w.heap.size, 0, none⟩)]] ((w.alloc (.cells #[.string nm] 9)).alloc (.cells zA 73)) fun e w' => e = .returned (.int .i64 (k : Int)) ∧ Old ((w.alloc (.cells #[.string nm] 9)).alloc (.cells zA 73)) w') := HI
    obtain ⟨oa, c, rfl, a1, a2, a3⟩ := HL.out
    obtain ⟨ga, go, rfl, hga, x0, x1, x2, x3⟩ := a3 k x hx
    obtain ⟨n, hn⟩ : ∃ n, n = l.length := ⟨_, rfl⟩
    rw [← hn] at hk a1 HI ⊢
    have HX := hid (fun W (h : Old w W) => (show W.cell? ⟨ga, go + k * 4 + 1, none⟩ = some (.int .u8 x.v.k) ∧ W.cell? ⟨ga, go + k * 4 + 2, none⟩ = some (.int .i64 x.v.n) ∧ W.cell? ⟨ga, go + k * 4 + 3, none⟩ = some (.string x.v.s) from ⟨(h.cell hga).trans x1, (h.cell hga).trans x2, (h.cell hga).trans x3⟩))
    have HPR := hid (fun W => proper_any x.v.k x.v.n x.v.s W)
    obtain ⟨Z, hZ⟩ : ∃ Z, Z = properA x.v := ⟨_, rfl⟩
    have hZ' : properA ⟨x.v.k, x.v.n, x.v.s⟩ = Z := hZ.symm
    rw [← hZ]
    rw [hZ'] at HPR
    clear a3 hf hx HL x0 x1 x2 x3 hn hZ hZ'
    go_enter Tryz.func33, Tryz.ntmps33
    go_wp2_with (first
      | (go_at_call 59; (with_reducible refine HI.out.mono ?_); rintro e w1 ⟨rfl, o1⟩; have T1 := hid (HT.out.old o1); have O1 := hid (HO.out.trans o1); obtain ⟨x1, x2, x3⟩ := HX.out _ O1.out; clear o1)
      | (go_at_call 32; (with_reducible refine (HPR.out _).mono ?_); rintro e w2 ⟨rfl, o2⟩; have T2 := hid (T1.out.old o2); have O2 := hid (O1.out.trans o2); clear o2; have c0 := T2.out.c 0; have c1 := T2.out.c 1; have c2 := T2.out.c 2; have c3 := T2.out.c 3; have f0 := T2.out.f 0; have f1 := T2.out.f 1; have f2 := T2.out.f 2; have f3 := T2.out.f 3))
    have R := T2.out.set4 rfl (.int .u8 Z.v.k) (.int .i64 Z.v.n) (.string Z.v.s) (.int .i64 Z.e)
    exact bodyPost_ret (v := anv Z) (by simp [results, Tryz.results33, go_sem, R.c 0, R.c 1, R.c 2, R.c 3]) rfl ⟨rfl, old4 O2.out (by omega) _ _ _ _⟩
theorem kind_rk (kind : Int) (cf n : Nat) (hen : ∀ args W, (callFunc cf args).run Tryz.prog W = .ok (.enter cf args) W) (cb : Array Value) (R : List Vl → An) (kg fg : Nat) (w : World) (hR : Rk cf cb n R w) (hn : n ≤ 100000) (h1 : w.cell? ⟨kg, 0, none⟩ = some (.int .u8 kind)) (h2 : w.cell? ⟨fg, 0, none⟩ = some (.func (.func cf) #[] cb)) :
    Rk 127 #[.pointer (some ⟨kg, 0, none⟩), .pointer (some ⟨fg, 0, none⟩)] n (kindR kind R) w := by
  intro W hW l v hl hd hv
  have HO := hid ((Old.refl W).alloc (.cells #[.int .u8 0, .int .i64 0, .string ⟨#[]⟩] 26))
  have HT := hid (Three.new W (.int .u8 0) (.int .i64 0) (.string ⟨#[]⟩))
  have q1 := (HO.out.keeps (hW.keeps h1))
  have q2 := (HO.out.keeps (hW.keeps h2))
  have HQ2 := hid q2
  have HG1 := hid (fun (W' : World) (h : Old W W') (g : Nat) (k1 : W'.cell? ⟨g, 0, none⟩ = some (.int .u8 kind)) (k2 : g < W'.heap.size) => show Calls Tryz.prog 104 #[.func (.func 143) #[] #[.pointer (some ⟨g, 0, none⟩)], v] W' fun e W'' => e = .returned (.bool (l.all (goesB kind))) ∧ Old W' W'' from
    allp_any 143 #[.pointer (some ⟨g, 0, none⟩)] (goesB kind) (fun _ _ => rfl) l v W' (hv.old h) (by omega) (goesFor_pr kind g W' k1 k2))
  have HG2 := hid (fun (W' : World) (h : Old W W') => show Calls Tryz.prog 104 #[.func (.func 128) #[] #[], v] W' fun e W'' => e = .returned (.bool (l.all thereB)) ∧ Old W' W'' from
    allp_any 128 #[] thereB (fun _ _ => rfl) l v W' (hv.old h) (by omega) (there_pr W'))
  have HR := hid (fun (W' : World) (h : Old W W') => hR W' (hW.trans h) l v hl hd (hv.old h))
  show Calls Tryz.prog 127 #[v, .pointer (some ⟨kg, 0, none⟩), .pointer (some ⟨fg, 0, none⟩)] W fun e W' => e = tl (if l.all (goesB kind) = false then anE 8 else if l.all thereB = false then anE 0 else R l) ∧ Old W W'
  generalize l.all (goesB kind) = B1 at *
  generalize l.all thereB = B2 at *
  generalize R l = A at *
  clear hR h1 h2 hW hd hv hl hn q2
  cases B1 with
  | false =>
    rw [if_pos rfl]
    go_enter Tryz.func127, Tryz.ntmps127
    go_wp2_with (first
      | (go_at_call 105; (with_reducible refine (goesFor_k _ _).mono ?_); rintro e w2 ⟨rfl, kc, kl, o2⟩; rw [sz_alloc] at kc kl; have O2 := hid (HO.out.trans o2); have T2 := hid (HT.out.old o2); clear o2)
      | (go_at_call 104; (with_reducible refine (HG1.out _ O2.out _ kc kl).mono ?_); rintro e w3 ⟨rfl, o3⟩; have O3 := hid (O2.out.trans o3); have T3 := hid (T2.out.old o3); clear o3; have c0 := T3.out.c0; have c1 := T3.out.c1; have c2 := T3.out.c2; have f0 := T3.out.f 0; have f1 := T3.out.f 1; have f2 := T3.out.f 2))
    have Rr := T3.out.set (.int .u8 0) (.int .i64 0) (.string ⟨#[]⟩)
    exact bodyPost_ret (v := .tuple #[vl 0 0 ⟨#[]⟩, .int .i64 8]) (by simp [results, Tryz.results127, go_sem, Rr.c0, Rr.c1, Rr.c2]) rfl ⟨rfl, old3 O3.out (Nat.le_refl _) _ _ _⟩
  | true =>
    rw [if_neg (by decide)]
    cases B2 with
    | false =>
      rw [if_pos rfl]
      go_enter Tryz.func127, Tryz.ntmps127
      go_wp2_with (first
        | (go_at_call 105; (with_reducible refine (goesFor_k _ _).mono ?_); rintro e w2 ⟨rfl, kc, kl, o2⟩; rw [sz_alloc] at kc kl; have O2 := hid (HO.out.trans o2); have T2 := hid (HT.out.old o2); clear o2)
        | (go_at_call 104; (with_reducible refine (HG1.out _ O2.out _ kc kl).mono ?_); rintro e w3 ⟨rfl, o3⟩; have O3 := hid (O2.out.trans o3); have T3 := hid (T2.out.old o3); clear o3 kc kl)
        | (go_at_call 104; (with_reducible refine (HG2.out _ O3.out).mono ?_); rintro e w4 ⟨rfl, o4⟩; have O4 := hid (O3.out.trans o4); have T4 := hid (T3.out.old o4); clear o4; have c0 := T4.out.c0; have c1 := T4.out.c1; have c2 := T4.out.c2; have f0 := T4.out.f 0; have f1 := T4.out.f 1; have f2 := T4.out.f 2))
      have Rr := T4.out.set (.int .u8 0) (.int .i64 0) (.string ⟨#[]⟩)
      exact bodyPost_ret (v := .tuple #[vl 0 0 ⟨#[]⟩, .int .i64 0]) (by simp [results, Tryz.results127, go_sem, Rr.c0, Rr.c1, Rr.c2]) rfl ⟨rfl, old3 O4.out (Nat.le_refl _) _ _ _⟩
    | true =>
      rw [if_neg (by decide)]
      go_enter Tryz.func127, Tryz.ntmps127
      go_wp2_with (first
        | (go_at_call 105; (with_reducible refine (goesFor_k _ _).mono ?_); rintro e w2 ⟨rfl, kc, kl, o2⟩; rw [sz_alloc] at kc kl; have O2 := hid (HO.out.trans o2); have T2 := hid (HT.out.old o2); have Q2 := hid (o2.keeps HQ2.out); clear o2)
        | (go_at_call 104; (with_reducible refine (HG1.out _ O2.out _ kc kl).mono ?_); rintro e w3 ⟨rfl, o3⟩; have O3 := hid (O2.out.trans o3); have T3 := hid (T2.out.old o3); have Q3 := hid (o3.keeps Q2.out); clear o3 kc kl)
        | (go_at_call 104; (with_reducible refine (HG2.out _ O3.out).mono ?_); rintro e w4 ⟨rfl, o4⟩; have O4 := hid (O3.out.trans o4); have T4 := hid (T3.out.old o4); have q4 := o4.keeps Q3.out; clear o4)
        | ((with_reducible refine (HR.out _ O4.out).mono ?_); rintro e w5 ⟨rfl, o5⟩; have O5 := hid (O4.out.trans o5); have T5 := hid (T4.out.old o5); clear o5 q4; have c0 := T5.out.c0; have c1 := T5.out.c1; have c2 := T5.out.c2; have f0 := T5.out.f 0; have f1 := T5.out.f 1; have f2 := T5.out.f 2))
      have Rr := T5.out.set (.int .u8 A.v.k) (.int .i64 A.v.n) (.string A.v.s)
      exact bodyPost_ret (v := .tuple #[A.v.v, .int .i64 A.e]) (by simp [results, Tryz.results127, go_sem, Rr.c0, Rr.c1, Rr.c2]) rfl ⟨rfl, old3 O5.out (Nat.le_refl _) _ _ _⟩
theorem text_rk (cf : Nat) (hen : ∀ args W, (callFunc cf args).run Tryz.prog W = .ok (.enter cf args) W) (p : ByteArray → ByteArray → Bool) (g : Nat) (w : World) (hf : ∀ W, Old w W → ∀ a b : ByteArray, a.size ≤ 1000000 → b.size ≤ 1000000 → Calls Tryz.prog cf #[.string a, .string b] W fun e W' => e = .returned (.bool (p a b)) ∧ Old W W') (hg : w.cell? ⟨g, 0, none⟩ = some (.func (.func cf) #[] #[])) :
    Rk 133 #[.pointer (some ⟨g, 0, none⟩)] 2 (twoR fun a b => anT (p a.s b.s)) w := by
  intro W hW l v hl hd hv
  obtain ⟨a, b, rfl⟩ : ∃ a b, l = [a, b] := by
    match l, hl with
    | [a, b], _ => exact ⟨a, b, rfl⟩
  have hA := hd a (by simp)
  have hB := hd b (by simp)
  have HO := hid ((Old.refl W).alloc (.cells #[.int .u8 0, .int .i64 0, .string ⟨#[]⟩] 26))
  have HT := hid (Three.new W (.int .u8 0) (.int .i64 0) (.string ⟨#[]⟩))
  have HV := hid hv
  obtain ⟨oa, c, rfl, a1, a2, a3⟩ := hv
  obtain ⟨ga, rfl, l1, z0, z1, z2⟩ := a3 0 a rfl
  obtain ⟨gb, e2, l2, t0, t1, t2⟩ := a3 1 b rfl
  injection e2 with e2
  injection e2 with e2
  subst e2
  have x0 := HO.out.keeps z0
  have x1 := HO.out.keeps z1
  have x2 := HO.out.keeps z2
  have y0 := HO.out.keeps t0
  have y1 := HO.out.keeps t1
  have y2 := HO.out.keeps t2
  have G2 := hid (show ¬ ga = W.heap.size from Nat.ne_of_lt l1)
  simp only [Nat.zero_mul, Nat.one_mul, Nat.zero_add] at x0 x1 x2 y0 y1 y2
  obtain ⟨ak, aN, aS⟩ := a
  obtain ⟨bk, bN, bS⟩ := b
  simp only at x0 x1 x2 y0 y1 y2
  have hc2 : (2 : Nat) ≤ c := a1
  have hgl := lt_of_cell hg
  have hgW := Nat.lt_of_lt_of_le hgl hW.size
  have G1 := hid (show ¬ g = W.heap.size from Nat.ne_of_lt hgW)
  have hq := HO.out.keeps (hW.keeps hg)
  have HF := hid (fun W' (h : Old W W') => hf W' (hW.trans h) aS bS hA.s hB.s)
  show Calls Tryz.prog 133 #[.slice (some ⟨ga, 0, none⟩) 2 c, .pointer (some ⟨g, 0, none⟩)] W fun e W' => e = tl (anT (p aS bS)) ∧ Old W W'
  generalize p aS bS = B at *
  have HTR := hid (fun W' => truth_any B W')
  clear a3 hf hg hl a1 hgW l1 l2 z0 z1 z2 t0 t1 t2 hW hgl hd hA hB
  go_enter Tryz.func133, Tryz.ntmps133
  go_wp2
  generalize W.alloc (.cells #[.int .u8 0, .int .i64 0, .string ⟨#[]⟩] 26) = W0 at *
  have HK := hid (show ∀ W', Old W0 W' → (W'.cell? ⟨g, 0, none⟩ = some (.func (.func cf) #[] #[]) ∧ W'.cell? ⟨ga, 2, none⟩ = some (.string aS) ∧ W'.cell? ⟨ga, 3 + 2, none⟩ = some (.string bS)) from fun W' h => ⟨h.keeps hq, h.keeps x2, h.keeps y2⟩)
  have HK2 := hid (show ∀ W' u0 u1 u2, Old W0 W' → ((((W'.setCell ⟨W.heap.size, 0, none⟩ u0).setCell ⟨W.heap.size, 1, none⟩ u1).setCell ⟨W.heap.size, 2, none⟩ u2).cell? ⟨g, 0, none⟩ = some (.func (.func cf) #[] #[]) ∧ (((W'.setCell ⟨W.heap.size, 0, none⟩ u0).setCell ⟨W.heap.size, 1, none⟩ u1).setCell ⟨W.heap.size, 2, none⟩ u2).cell? ⟨ga, 2, none⟩ = some (.string aS) ∧ (((W'.setCell ⟨W.heap.size, 0, none⟩ u0).setCell ⟨W.heap.size, 1, none⟩ u1).setCell ⟨W.heap.size, 2, none⟩ u2).cell? ⟨ga, 3 + 2, none⟩ = some (.string bS)) from fun W' u0 u1 u2 h => by
    obtain ⟨k0, k1, k2⟩ := HK.out W' h
    exact ⟨far3 k0 G1.out _ _ _, far3 k1 G2.out _ _ _, far3 k2 G2.out _ _ _⟩)
  have hO0 := (Old.refl W0).drew
  go_region_held3 (fun w' => w'.cell? ⟨g, 0, none⟩ = some (.func (.func cf) #[] #[]) ∧ w'.cell? ⟨ga, 2, none⟩ = some (.string aS) ∧ w'.cell? ⟨ga, 3 + 2, none⟩ = some (.string bS))
    (first | exact HK.out _ (by assumption) | exact HK2.out _ _ _ _ (by assumption))
    (first
    | (go_at_call 62; (with_reducible refine (HTR.out _).mono ?_); rintro e w2 ⟨rfl, o2⟩; have T2 := hid (T.out.old o2); have O2 := hid (O1.out.trans o2); have hO2 := hO1.trans o2; clear o2; have c0 := T2.out.c0; have c1 := T2.out.c1; have c2 := T2.out.c2; have f0 := T2.out.f 0; have f1 := T2.out.f 1; have f2 := T2.out.f 2)
    | ((with_reducible refine (HF.out _ HO.out.drew).mono ?_); rintro e w1 ⟨rfl, o1⟩; have T := hid (HT.out.drew.old o1); have O1 := hid (HO.out.drew.trans o1); have hO1 := hO0.trans o1; clear o1))
  all_goals
    go_wp2
    have R := T2.out.set (.int .u8 4) (.int .i64 (b01 B)) (.string ⟨#[]⟩)
    exact bodyPost_ret (v := .tuple #[vl 4 (b01 B) ⟨#[]⟩, .int .i64 0]) (by simp [results, Tryz.results133, go_sem, R.c0, R.c1, R.c2]) rfl ⟨rfl, old3 O2.out (Nat.le_refl _) _ _ _⟩
end Go.Proofs.YtmkmafkkpigfpaaGreatDoor.V
