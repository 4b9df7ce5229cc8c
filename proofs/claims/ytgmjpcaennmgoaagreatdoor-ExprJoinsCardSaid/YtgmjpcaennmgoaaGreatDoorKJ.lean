/- Layer expr, plain: two texts in parentheses with an operator between, as they are read. Layer expr: two texts in parentheses (the law's walk where they are not joined). Layer expr: nodes copied, one after another, with their expressions' places shifted. Layer expr: two texts in parentheses that are joined (the law's walk). -/
import Derived.Test.YtgmjpcaennmgoaaGreatDoorKI
import Derived.Test.YtgmjpcaennmgoaaGreatDoorVZ
namespace Go.Proofs.YtgmjpcaennmgoaaGreatDoor
open Go.ChangeShapes Go.WideShapes Go.ChangeAt Go.RowKit Go.Lib
set_option linter.unusedVariables false
set_option linter.unusedSimpArgs false
set_option maxRecDepth 100000

theorem op_level : ∀ u ∈ opB, (inOp u).2 = 0 ∨ (inOp u).2 = 1 ∨ (inOp u).2 = 3 ∨ (inOp u).2 = 4 ∨ (inOp u).2 = 5 := by
  intro u hu
  simp only [opB, List.mem_cons, List.not_mem_nil, or_false] at hu
  rcases hu with rfl | rfl | rfl | rfl | rfl | rfl | rfl | rfl | rfl | rfl | rfl | rfl
  all_goals decide
theorem map_cons3 {r : List Tk} {a b c : Tk} {l : List Tk} (h : r.map Tk.bare = a :: b :: c :: l) : ∃ x y z r', r = x :: y :: z :: r' ∧ x.bare = a ∧ y.bare = b ∧ z.bare = c ∧ r'.map Tk.bare = l := by
  cases r with
  | nil => cases h
  | cons x r =>
    cases r with
    | nil => simp at h
    | cons y r =>
      cases r with
      | nil => simp at h
      | cons z r =>
        simp only [List.map_cons, List.cons.injEq] at h
        exact ⟨x, y, z, r, rfl, h.1, h.2.1, h.2.2.1, h.2.2.2⟩
/-- What Read tells of words that are read so. -/
def tell (A : List Tk) : Rz → List Nd × Int × Int × Int
  | .out => ([], 0, 0, 0)
  | .no e r => ([], (placeL A (A.length - r.length)).1, (placeL A (A.length - r.length)).2, e)
  | .ok ns r => if 60 < ns.length then ([], (placeL A 0).1, (placeL A 0).2, 7)
    else if r ≠ [] then ([], (placeL A (A.length - r.length)).1, (placeL A (A.length - r.length)).2, 4) else (ns, 0, 0, 0)
theorem read_at {l : List UInt8} {A : List Tk} {a b : Int} (h : Wds l 1 1 A 0 a b) {X : Rz} (hX : parseX A = X) : readP l = tell A X := by
  rw [← hX]
  unfold readP
  rw [lexR_of h]
  simp only [ne_eq, not_true_eq_false, if_false]
  cases parseX A <;> rfl
theorem join_read {s t : List UInt8} (hs : s.length ≤ 10000) (ht : t.length ≤ 10000) {T1 T2 : List Nd} (h1 : readP s = (T1, 0, 0, 0)) (h2 : readP t = (T2, 0, 0, 0)) {u : List UInt8} (hu : u ∈ opB) :
    (∃ ln cl, readP (joinO s u t) = ([], ln, cl, 12)) ∨ (60 < T1.length + T2.length + 1 ∧ ∃ ln cl, readP (joinO s u t) = ([], ln, cl, 7)) ∨
    (T1.length + T2.length + 1 ≤ 60 ∧ ∃ ns1 ns2 nd, readP (joinO s u t) = (ns1 ++ ns2 ++ [nd], 0, 0, 0) ∧ ns1.map Nd.bare = T1.map Nd.bare ∧ ns2.map Nd.bare = T2.map Nd.bare ∧ nd.op = ((inOp u).1 : Nat) ∧ nd.ks = [ns2.length + 1, 1]) := by
  obtain ⟨_, _, h60, _, _, hE1, hP1⟩ := readP_good (by omega) h1
  obtain ⟨_, _, h60', _, _, hE2, hP2⟩ := readP_good (by omega) h2
  obtain ⟨A, B, hw, hA, hB⟩ := join_words hu (lexR_wds hE1) (lexR_wds hE2)
  obtain ⟨o1, o2, o3, o4, o5, o6⟩ := op_good u hu
  have hL := op_level u hu
  have hq : Bq (B.map Tk.bare) (lexR s).1 (A ++ B) := by
    unfold Bq
    rw [List.map_append, hA]
  obtain ⟨Y1, hY1, hh1⟩ := grp (T2 := B) (F := fuelOf (lexR s).1) (p := sgT 40 1 1) hP1 ⟨_, _, hB, rfl, rfl⟩ hq ⟨rfl, rfl⟩
  have deep : ∀ {r : List Tk}, parseX (sgT 40 1 1 :: (A ++ B)) = .no 12 r → ∃ ln cl, readP (joinO s u t) = ([], ln, cl, 12) := fun {r} h => ⟨_, _, read_at hw h⟩
  rcases hh1 with ⟨ns1, r1, rfl, k1, k2⟩ | ⟨r1, rfl⟩
  · rw [hB] at k2
    obtain ⟨x, y, z, r2, rfl, q1, q2, q3, q4⟩ := map_cons3 k2
    rw [List.tail_cons] at hY1
    obtain ⟨L0, hL0⟩ : ∃ L0, L0 = (inOp u).2 := ⟨_, rfl⟩
    have hin : ∀ L, inL L (y :: z :: r2) = if L0 = L then (inOp u).1 else 0 := fun L => by
      show inT L y = _
      rw [inT_bare q2]
      unfold inT
      rw [o4, o5, ← hL0]
      simp
    have hz : Opn z := ⟨by have e := bare_k (y := sgT 40 0 0) q3; exact e, by have e := bare_t (y := sgT 40 0 0) q3; exact e⟩
    have hq2 : Bq [sgT 41 0 0] (lexR t).1 r2 := q4
    obtain ⟨Y2, hY2, hh2⟩ := grp (T2 := B) (F := fuelOf (lexR t).1) (p := z) hP2 ⟨_, _, rfl, rfl, rfl⟩ hq2 hz
    rw [← hL0] at hL
    have hA1 := rise_ok ⟨rfl, rfl⟩ (L0 + 1) (6 - L0) (by omega) (Nat.le_refl _) hY1 (fun L a b => Or.inr (by rw [hin, if_neg (by omega)]))
    have hi : inL L0 (y :: z :: r2) ≠ 0 := by rw [hin, if_pos rfl]; exact o6
    rcases hh2 with ⟨ns2, r3, rfl, m1, m2⟩ | ⟨r3, rfl⟩
    · have ht3 : r3.tail = [] := by
        have := congrArg List.length m2
        simp at this
        exact List.eq_nil_of_length_eq_zero (by rw [List.length_tail]; omega)
      rw [ht3] at hY2
      have hA2 := rise_ok hz (L0 + 1) (6 - L0) (by omega) (Nat.le_refl _) hY2 (fun L a b => Or.inr (inL_nil L))
      have hev := Ev.infix hL hA1 hi hA2 (fun n r e => by injection e with e1 e2; rw [← e2]; exact inL_nil L0)
      have hev0 := (rise_ok ⟨rfl, rfl⟩ 0 L0 (by omega) (by omega) hev (fun L a b => Or.inr (inL_nil L))).whole
      have l1 := len_bare k1
      have l2 := len_bare m1
      have hr := read_at hw hev0
      unfold tell at hr
      simp only at hr
      by_cases h6 : 60 < T1.length + T2.length + 1
      · rw [if_pos (by simp; omega)] at hr
        exact Or.inr (Or.inl ⟨h6, _, _, hr⟩)
      · rw [if_neg (by simp; omega), if_neg (by simp)] at hr
        refine Or.inr (Or.inr ⟨by omega, ns1, ns2, _, hr, k1, m1, ?_, rfl⟩)
        show ((inL L0 (y :: z :: r2) : Nat) : Int) = _
        rw [hin, if_pos rfl]
    · have hA2 := rise_no hz (L0 + 1) (6 - L0) (by omega) (Nat.le_refl _) hY2
      have hev := Ev.infix hL hA1 hi hA2 (fun n r e => by cases e)
      exact Or.inl (deep (rise_no ⟨rfl, rfl⟩ 0 L0 (by omega) (by omega) hev).whole)
  · exact Or.inl (deep (rise_no ⟨rfl, rfl⟩ 0 7 rfl (Nat.le_refl _) hY1).whole)
end Go.Proofs.YtgmjpcaennmgoaaGreatDoor
namespace Go.Proofs.YtgmjpcaennmgoaaGreatDoor
open Go.ChangeShapes Go.WideShapes Go.ChangeAt Go.RowKit Go.Lib
set_option linter.unusedVariables false
set_option linter.unusedSimpArgs false
set_option maxRecDepth 100000

theorem joino_long (s t : ByteArray) (o : Int) (w : World) (he : Env w) (hs : 300 < s.size ∨ 300 < t.size) : Calls Tryz.prog 6 #[.string s, .string t, .int .u8 o] w fun e w' => e = .returned (.bool true) ∧ Old w w' := by
  have hk := known_ok w he
  by_cases h1 : 300 < s.size
  · have h : (300 : Int) < (s.size : Int) := by omega
    clear he hs
    go_enter Tryz.func6, Tryz.ntmps6
    go_wp2_with (go_at_call 7; (with_reducible refine hk.mono ?_); rintro e w4 ⟨rfl, o4⟩; have HO := Lib.hid o4; clear o4)
    go_ret
    exact ⟨rfl, HO.out⟩
  · have h : ¬ (300 : Int) < (s.size : Int) := by omega
    have h' : (300 : Int) < (t.size : Int) := by omega
    clear he hs
    go_enter Tryz.func6, Tryz.ntmps6
    go_wp2_with (go_at_call 7; (with_reducible refine hk.mono ?_); rintro e w4 ⟨rfl, o4⟩; have HO := Lib.hid o4; clear o4)
    go_ret
    exact ⟨rfl, HO.out⟩
theorem joino_none (s t : ByteArray) (o : Int) (w : World) (he : Env w) (hs : s.size ≤ 300) (ht : t.size ≤ 300) {T U : List Nd} {ln cl E l2 c2 E2 : Int} (hR : readP s.data.toList = (T, ln, cl, E)) (hR2 : readP t.data.toList = (U, l2, c2, E2)) (hE : ¬ E = 0 ∨ ¬ E2 = 0) : Calls Tryz.prog 6 #[.string s, .string t, .int .u8 o] w fun e w' => e = .returned (.bool true) ∧ Old w w' := by
  have HK1 := Lib.hid (show ∀ W, Old w W → Calls Tryz.prog 8 #[.string s] W fun e w' => ∃ v, e = .returned (.tuple #[v, .agg #[.int .i64 ln, .int .i64 cl], .int .i64 E]) ∧ Old W w' from fun W h => (read_tw s W (by omega) (he.old h) hR).mono (by rintro e w' ⟨oa, ca, h1, h2, h3⟩; exact ⟨_, h1, h3⟩))
  have HK2 := Lib.hid (show ∀ W, Old w W → Calls Tryz.prog 8 #[.string t] W fun e w' => ∃ v, e = .returned (.tuple #[v, .agg #[.int .i64 l2, .int .i64 c2], .int .i64 E2]) ∧ Old W w' from fun W h => (read_tw t W (by omega) (he.old h) hR2).mono (by rintro e w' ⟨oa, ca, h1, h2, h3⟩; exact ⟨_, h1, h3⟩))
  have HKN := Lib.hid (fun W (h : Old w W) => known_ok W (he.old h))
  have HO := Lib.hid (Old.refl w)
  have h : ¬ (300 : Int) < (s.size : Int) := by omega
  have h' : ¬ (300 : Int) < (t.size : Int) := by omega
  clear he hs ht hR hR2
  by_cases hE1 : E = 0
  · subst hE1
    have hE2 : ¬ E2 = 0 := hE.resolve_left (fun h => h rfl)
    clear hE
    go_enter Tryz.func6, Tryz.ntmps6
    go_wp2_with (first
      | (go_at_call 8; (with_reducible refine (HK1.out _ HO.out).mono ?_); rintro e w1 ⟨v1, rfl, o1⟩; have HO1 := Lib.hid (o1.trans ((Old.refl w1).alloc (.cells #[.int .i64 ln, .int .i64 cl] 26))); clear o1)
      | (go_at_call 8; (with_reducible refine (HK2.out _ HO1.out).mono ?_); rintro e w2 ⟨v2, rfl, o2⟩; have HO2 := Lib.hid ((HO1.out.trans o2).trans ((Old.refl w2).alloc (.cells #[.int .i64 l2, .int .i64 c2] 26))); clear o2)
      | (go_at_call 7; (with_reducible refine (HKN.out _ HO2.out).mono ?_); rintro e w4 ⟨rfl, o4⟩; have HO4 := Lib.hid (HO2.out.trans o4); clear o4))
    go_ret
    exact ⟨rfl, HO4.out⟩
  · clear hE
    go_enter Tryz.func6, Tryz.ntmps6
    go_wp2_with (first
      | (go_at_call 8; (with_reducible refine (HK1.out _ HO.out).mono ?_); rintro e w1 ⟨v1, rfl, o1⟩; have HO1 := Lib.hid (o1.trans ((Old.refl w1).alloc (.cells #[.int .i64 ln, .int .i64 cl] 26))); clear o1)
      | (go_at_call 8; (with_reducible refine (HK2.out _ HO1.out).mono ?_); rintro e w2 ⟨v2, rfl, o2⟩; have HO2 := Lib.hid ((HO1.out.trans o2).trans ((Old.refl w2).alloc (.cells #[.int .i64 l2, .int .i64 c2] 26))); clear o2)
      | (go_at_call 7; (with_reducible refine (HKN.out _ HO2.out).mono ?_); rintro e w4 ⟨rfl, o4⟩; have HO4 := Lib.hid (HO2.out.trans o4); clear o4))
    go_ret
    exact ⟨rfl, HO4.out⟩
abbrev sgnA : Array Value := #[.string ⟨#[111, 114]⟩, .string ⟨#[97, 110, 100]⟩, .string ⟨#[61]⟩, .string ⟨#[60, 62]⟩, .string ⟨#[60]⟩, .string ⟨#[60, 61]⟩, .string ⟨#[62]⟩, .string ⟨#[62, 61]⟩, .string ⟨#[43]⟩, .string ⟨#[45]⟩, .string ⟨#[42]⟩, .string ⟨#[47]⟩]
abbrev opsA : Array Value := #[.int .u8 4, .int .u8 5, .int .u8 7, .int .u8 8, .int .u8 9, .int .u8 10, .int .u8 11, .int .u8 12, .int .u8 13, .int .u8 14, .int .u8 15, .int .u8 16]
abbrev sumB (s : ByteArray) (u : List UInt8) (t : ByteArray) : ByteArray := ⟨#[40]⟩ ++ s ++ ⟨#[10, 41, 32]⟩ ++ st u ++ ⟨#[32, 40]⟩ ++ t ++ ⟨#[10, 41]⟩
theorem sum_bytes (s : ByteArray) (u : List UInt8) (t : ByteArray) : (sumB s u t).data.toList = joinO s.data.toList u t.data.toList := by
  unfold sumB
  repeat rw [ByteArray.data_append]
  repeat rw [Array.toList_append]
  unfold joinO wrapB
  show [40] ++ s.data.toList ++ [10, 41, 32] ++ u ++ [32, 40] ++ t.data.toList ++ [10, 41] = _
  simp
theorem sum_size (s : ByteArray) (u : List UInt8) (t : ByteArray) : (sumB s u t).size = s.size + u.length + t.size + 8 := by
  have h1 : (sumB s u t).data.toList.length = s.data.toList.length + u.length + t.data.toList.length + 8 := by
    rw [sum_bytes]
    simp [joinO, wrapB]
    omega
  have h2 : (sumB s u t).data.toList.length = (sumB s u t).size := Array.length_toList
  have h3 : s.data.toList.length = s.size := Array.length_toList
  have h4 : t.data.toList.length = t.size := Array.length_toList
  omega
theorem sgn_pick : ∀ k, k < 12 → ∃ u, u ∈ opB ∧ u.length ≤ 3 ∧ sgnA[k]? = some (.string (st u)) ∧ opsA[k]? = some (.int .u8 ((inOp u).1 : Nat)) := by
  intro k hk
  have : k = 0 ∨ k = 1 ∨ k = 2 ∨ k = 3 ∨ k = 4 ∨ k = 5 ∨ k = 6 ∨ k = 7 ∨ k = 8 ∨ k = 9 ∨ k = 10 ∨ k = 11 := by omega
  rcases this with rfl | rfl | rfl | rfl | rfl | rfl | rfl | rfl | rfl | rfl | rfl | rfl
  · exact ⟨[111, 114], by decide, by decide, rfl, rfl⟩
  · exact ⟨[97, 110, 100], by decide, by decide, rfl, rfl⟩
  · exact ⟨[61], by decide, by decide, rfl, rfl⟩
  · exact ⟨[60, 62], by decide, by decide, rfl, rfl⟩
  · exact ⟨[60], by decide, by decide, rfl, rfl⟩
  · exact ⟨[60, 61], by decide, by decide, rfl, rfl⟩
  · exact ⟨[62], by decide, by decide, rfl, rfl⟩
  · exact ⟨[62, 61], by decide, by decide, rfl, rfl⟩
  · exact ⟨[43], by decide, by decide, rfl, rfl⟩
  · exact ⟨[45], by decide, by decide, rfl, rfl⟩
  · exact ⟨[42], by decide, by decide, rfl, rfl⟩
  · exact ⟨[47], by decide, by decide, rfl, rfl⟩
set_option maxHeartbeats 1600000 in
theorem joino_bad (s t : ByteArray) (o : Nat) (ho : o < 256) (w : World) (he : Env w) (hs : s.size ≤ 300) (ht : t.size ≤ 300) {T U : List Nd} (hR : readP s.data.toList = (T, 0, 0, 0)) (hR2 : readP t.data.toList = (U, 0, 0, 0)) {u : List UInt8} (hu3 : u.length ≤ 3) {k : Nat} (hk : k = o % 12) (hsg : sgnA[k]? = some (.string (st u)))
    {ln cl E : Int} (hR3 : readP (joinO s.data.toList u t.data.toList) = ([], ln, cl, E)) (hE : E = 12 ∨ (E = 7 ∧ 60 < T.length + U.length + 1)) : Calls Tryz.prog 6 #[.string s, .string t, .int .u8 (o : Int)] w fun e w' => e = .returned (.bool true) ∧ Old w w' := by
  obtain ⟨n1, hn1⟩ : ∃ n, n = T.length := ⟨_, rfl⟩
  obtain ⟨n2, hn2⟩ : ∃ n, n = U.length := ⟨_, rfl⟩
  obtain ⟨_, _, hT60, _⟩ := readP_good (by rw [Array.length_toList]; have : s.data.size = s.size := rfl; omega) hR
  obtain ⟨_, _, hU60, _⟩ := readP_good (by rw [Array.length_toList]; have : t.data.size = t.size := rfl; omega) hR2
  have HK1 := Lib.hid (show ∀ W, Old w W → Calls Tryz.prog 8 #[.string s] W fun e w' => ∃ oa ca, e = .returned (.tuple #[.slice oa n1 ca, .agg #[.int .i64 0, .int .i64 0], .int .i64 0]) ∧ Old W w' from fun W h => (read_tw s W (by omega) (he.old h) hR).mono (by rintro e w' ⟨oa, ca, h1, h2, h3⟩; rw [← hn1] at h1; exact ⟨_, _, h1, h3⟩))
  have HK2 := Lib.hid (show ∀ W, Old w W → Calls Tryz.prog 8 #[.string t] W fun e w' => ∃ oa ca, e = .returned (.tuple #[.slice oa n2 ca, .agg #[.int .i64 0, .int .i64 0], .int .i64 0]) ∧ Old W w' from fun W h => (read_tw t W (by omega) (he.old h) hR2).mono (by rintro e w' ⟨oa, ca, h1, h2, h3⟩; rw [← hn2] at h1; exact ⟨_, _, h1, h3⟩))
  have HK3 := Lib.hid (show ∀ W, Old w W → Calls Tryz.prog 8 #[.string (sumB s u t)] W fun e w' => ∃ oa ca, e = .returned (.tuple #[.slice oa 0 ca, .agg #[.int .i64 ln, .int .i64 cl], .int .i64 E]) ∧ Old W w' from fun W h => (read_tw (sumB s u t) W (by have := sum_size s u t; omega) (he.old h) (T := []) (ln := ln) (cl := cl) (E := E) (by rw [sum_bytes]; exact hR3)).mono (by rintro e w' ⟨oa, ca, h1, h2, h3⟩; exact ⟨_, _, h1, h3⟩))
  have HKN := Lib.hid (fun W (h : Old w W) => known_ok W (he.old h))
  have HO := Lib.hid (Old.refl w)
  have h : ¬ (300 : Int) < (s.size : Int) := by omega
  have h' : ¬ (300 : Int) < (t.size : Int) := by omega
  rw [← hn1, ← hn2] at hE
  rw [← hn1] at hT60
  rw [← hn2] at hU60
  have hrem : (o : Int).tmod 12 = (k : Int) := by rw [hk]; rfl
  have hk12 : (k : Int) < 12 := by omega
  clear he hs ht hR hR2 hR3 hk hn1 hn2
  rcases hE with rfl | ⟨rfl, h60⟩
  · go_enter Tryz.func6, Tryz.ntmps6
    go_wp2_with (first
      | (go_at_call 8; (with_reducible refine (HK1.out _ HO.out).mono ?_); rintro e w1 ⟨oa, ca, rfl, o1⟩; have HO1 := Lib.hid (o1.trans ((Old.refl w1).alloc (.cells #[.int .i64 0, .int .i64 0] 26))); clear o1)
      | (go_at_call 8; (with_reducible refine (HK2.out _ HO1.out).mono ?_); rintro e w2 ⟨ob, cb, rfl, o2⟩; have HO2 := Lib.hid ((((HO1.out.trans o2).trans ((Old.refl w2).alloc (.cells #[.int .i64 0, .int .i64 0] 26))).alloc (.cells sgnA 9)).alloc (.cells opsA 5)); clear o2)
      | (go_at_call 8; (with_reducible refine (HK3.out _ HO2.out).mono ?_); rintro e w3 ⟨oc, cc, rfl, o3⟩; have HO3 := Lib.hid ((HO2.out.trans o3).trans ((Old.refl w3).alloc (.cells #[.int .i64 ln, .int .i64 cl] 26))); clear o3)
      | (go_at_call 7; (with_reducible refine (HKN.out _ HO3.out).mono ?_); rintro e w4 ⟨rfl, o4⟩; have HO4 := Lib.hid (HO3.out.trans o4); clear o4))
    go_ret
    exact ⟨rfl, HO4.out⟩
  · have h60' : (60 : Int) < (n1 : Int) + (n2 : Int) + 1 := by omega
    go_enter Tryz.func6, Tryz.ntmps6
    go_wp2_with (first
      | (go_at_call 8; (with_reducible refine (HK1.out _ HO.out).mono ?_); rintro e w1 ⟨oa, ca, rfl, o1⟩; have HO1 := Lib.hid (o1.trans ((Old.refl w1).alloc (.cells #[.int .i64 0, .int .i64 0] 26))); clear o1)
      | (go_at_call 8; (with_reducible refine (HK2.out _ HO1.out).mono ?_); rintro e w2 ⟨ob, cb, rfl, o2⟩; have HO2 := Lib.hid ((((HO1.out.trans o2).trans ((Old.refl w2).alloc (.cells #[.int .i64 0, .int .i64 0] 26))).alloc (.cells sgnA 9)).alloc (.cells opsA 5)); clear o2)
      | (go_at_call 8; (with_reducible refine (HK3.out _ HO2.out).mono ?_); rintro e w3 ⟨oc, cc, rfl, o3⟩; have HO3 := Lib.hid ((HO2.out.trans o3).trans ((Old.refl w3).alloc (.cells #[.int .i64 ln, .int .i64 cl] 26))); clear o3)
      | (go_at_call 7; (with_reducible refine (HKN.out _ HO3.out).mono ?_); rintro e w4 ⟨rfl, o4⟩; have HO4 := Lib.hid (HO3.out.trans o4); clear o4))
    go_ret
    exact ⟨rfl, HO4.out⟩
end Go.Proofs.YtgmjpcaennmgoaaGreatDoor
namespace Go.Proofs.YtgmjpcaennmgoaaGreatDoor
open Go.ChangeShapes Go.WideShapes Go.ChangeAt Go.RowKit Go.Lib
set_option linter.unusedVariables false
set_option linter.unusedSimpArgs false
set_option maxRecDepth 100000

theorem own_blk {w : World} {base size n k : Nat} {e : TypeId} {v : Value} {cs : List Value} (h : w.ownsRow base e size v n cs) (hk : v.ownBlock = some k) : base ≤ k ∧ ∃ cur, w.heap[k]? = some (.cells cur e (0, 0)) := by
  rcases h.2 with ⟨rfl, _⟩ | ⟨g, cap, cur, rfl, h1, h2, _⟩
  · simp [Value.ownBlock] at hk
  · have e1 : g = k := by simpa [Value.ownBlock] using hk
    subst e1
    exact ⟨h1, cur, h2⟩
theorem own_types {w : World} {b1 b2 s1 s2 n1 n2 k : Nat} {e1 e2 : TypeId} {v1 v2 : Value} {c1 c2 : List Value} (h1 : w.ownsRow b1 e1 s1 v1 n1 c1) (h2 : w.ownsRow b2 e2 s2 v2 n2 c2) (k1 : v1.ownBlock = some k) (k2 : v2.ownBlock = some k) (hne : e1 ≠ e2) : False := by
  obtain ⟨_, cur1, h3⟩ := own_blk h1 k1
  obtain ⟨_, cur2, h4⟩ := own_blk h2 k2
  rw [h3] at h4
  injection h4 with h4
  injection h4 with _ h5
  exact hne h5
theorem own_kept {w w5 : World} {base size n : Nat} {o : Option Nat} {e : TypeId} {v : Value} {cs : List Value} (h : w.ownsRow base e size v n cs) (hgr : w.grownBy w5 o) (hne : ∀ k, v.ownBlock = some k → o ≠ some k) : w5.ownsRow base e size v n cs := by
  refine ⟨h.1, ?_⟩
  rcases h.2 with h' | ⟨g, cap, cur, rfl, hb', hg, hc⟩
  · exact Or.inl h'
  · exact Or.inr ⟨g, cap, cur, rfl, hb', (hgr.block g (blk_lt hg) (fun e => hne g rfl e.symm)).trans hg, hc⟩
theorem TreeR.grownK {w w5 : World} {base j : Nat} {v vt : Value} {cs : List Value} {T : List Nd} (h : TreeR (fun k => v.ownBlock = some k) w base vt T) (hrow : w.ownsRow base 3 1 v j cs) (hgr : w.grownBy w5 v.ownBlock) {g n c : Nat} (hlie : v.ownBlock = some g ∨ g = w.heap.size) :
    TreeR (fun k => (Value.slice (some ⟨g, 0, none⟩) n c).ownBlock = some k) w5 base vt T := by
  obtain ⟨kvs, t1, t2, t3⟩ := h
  refine ⟨kvs, t1, own_kept t2 hgr (fun k e1 e2 => own_types t2 hrow e1 e2 (by decide)), fun i x u hx hu => ⟨own_kept (t3 i x u hx hu).1 hgr (fun k e1 e2 => (t3 i x u hx hu).2 k e1 e2), fun k e hk => ?_⟩⟩
  have hk' : g = k := by simpa [Value.ownBlock] using hk
  subst hk'
  rcases hlie with h1 | h1
  · exact (t3 i x u hx hu).2 _ e h1
  · have := (t3 i x u hx hu).1.lt e
    omega
/-- Between two expressions of a node that is copied. -/
structure Jn (W0 : World) (vt : Value) (T : List Nd) (p : Nat) (x : Nd) (kv : Value) (i j : Nat) (v : Value) (wr : World) : Prop where
  old : Old W0 wr
  tree : TreeR (fun k => v.ownBlock = some k) wr W0.heap.size vt T
  row : wr.ownsRow W0.heap.size 3 1 v j (((x.ks.map (i - ·)).take j).map fun k : Nat => Value.int .i64 (k : Int))
  nb : Nb wr p x kv
  ne : vt.ownBlock ≠ some p
  lo : W0.heap.size ≤ p
theorem jn_step {W0 wr w5 : World} {vt kv v : Value} {T : List Nd} {p i j m g cap : Nat} {x : Nd} (h : Jn W0 vt T p x kv i j v wr) (hm : (x.ks.map (i - ·))[j]? = some m)
    (hown : w5.ownsRow W0.heap.size 3 1 (.slice (some ⟨g, 0, none⟩) (j + 1) cap) (j + 1) ((((x.ks.map (i - ·)).take j).map fun k : Nat => Value.int .i64 (k : Int)) ++ [.int .i64 (m : Int)])) (hgr : (wr.alloc (.cells #[.int .i64 (m : Int)] 3)).grownBy w5 v.ownBlock)
    (hlie : v.ownBlock = some g ∨ g = (wr.alloc (.cells #[.int .i64 (m : Int)] 3)).heap.size) : Jn W0 vt T p x kv i (j + 1) (.slice (some ⟨g, 0, none⟩) (j + 1) cap) w5 := by
  have ho := (Old.refl wr).alloc (.cells #[.int .i64 (m : Int)] 3)
  have hrow := own_old h.row ho
  have hnb := h.nb.old ho
  refine ⟨(h.old.trans ho).grown hgr (fun k hk => (own_blk hrow hk).1), (h.tree.old ho).grownK hrow hgr hlie, ?_, (hgr.block p (blk_lt hnb) (fun e => ?_)).trans hnb, h.ne, h.lo⟩
  · rw [List.take_add_one, hm, List.map_append]
    exact hown
  · obtain ⟨_, cur, h1⟩ := own_blk hrow e.symm
    unfold Nb at hnb
    rw [h1] at hnb
    injection hnb with hnb
    injection hnb with _ h2
    cases h2
theorem tree_push {w w5 : World} {base N : Nat} {vt v5 v : Value} {T : List Nd} {kvs : List Value} {x : Nd} (t1 : kvs.length = T.length) (hN : N = T.length) (t2 : w.ownsRow base 37 8 vt N (ncells T kvs))
    (t3 : ∀ (i : Nat) (y : Nd) (u : Value), T[i]? = some y → kvs[i]? = some u → KR w base u (y.ks.map (i - ·))) (hk : KR w base v (x.ks.map (T.length - ·))) (hown : w5.ownsRow base 37 8 v5 (N + 1) (ncells T kvs ++ x.cells v)) (hgr : w.grownBy w5 vt.ownBlock) :
    TreeR (fun _ => False) w5 base v5 (T ++ [x]) := by
  subst hN
  refine ⟨kvs ++ [v], by simp [t1], ?_, fun i y u hy hu => ⟨?_, fun _ _ h => h⟩⟩
  · rw [ncells_snoc x v T kvs t1, List.length_append]
    exact hown
  · rcases Nat.lt_or_ge i T.length with hlt | hge
    · rw [List.getElem?_append_left hlt] at hy
      rw [List.getElem?_append_left (by omega)] at hu
      exact KR.grown (t3 i y u hy hu) hgr t2
    · rw [List.getElem?_append_right hge] at hy
      rw [List.getElem?_append_right (by omega)] at hu
      have hi : i - T.length = 0 := by
        have := (List.getElem?_eq_some_iff.1 hy).1
        simp at this
        omega
      have hi2 : i - kvs.length = 0 := by omega
      rw [hi] at hy
      rw [hi2] at hu
      simp only [List.getElem?_cons_zero, Option.some.injEq] at hy hu
      subst hy hu
      have : i = T.length := by omega
      subst this
      exact KR.grown hk hgr t2
/-- Behind a node's expressions: the row is stored in the node. -/
theorem jn_store {W0 wr : World} {vt kv v : Value} {T : List Nd} {p i : Nat} {x : Nd} {K : Nat} (hK : K = x.ks.length) (h : Jn W0 vt T p x kv i K v wr) (cs : Array Value) :
    ∃ kvs, kvs.length = T.length ∧ ((wr.setCell ⟨p, 5, none⟩ v).alloc (.cells cs 37)).ownsRow W0.heap.size 37 8 vt T.length (ncells T kvs) ∧
      (∀ (j : Nat) (y : Nd) (u : Value), T[j]? = some y → kvs[j]? = some u → KR ((wr.setCell ⟨p, 5, none⟩ v).alloc (.cells cs 37)) W0.heap.size u (y.ks.map (j - ·))) ∧
      KR ((wr.setCell ⟨p, 5, none⟩ v).alloc (.cells cs 37)) W0.heap.size v (x.ks.map (i - ·)) ∧ Old W0 ((wr.setCell ⟨p, 5, none⟩ v).alloc (.cells cs 37)) ∧ Nb (wr.setCell ⟨p, 5, none⟩ v) p x v := by
  obtain ⟨kvs, t1, t2, t3⟩ := h.tree
  have c : Chx (· = p) wr (wr.setCell ⟨p, 5, none⟩ v) := Chx.ofSet wr ⟨p, 5, none⟩ v
  have ho := (Old.refl (wr.setCell ⟨p, 5, none⟩ v)).alloc (.cells cs 37)
  have hnb := h.nb
  refine ⟨kvs, t1, own_old ?_ ho, fun j y u hy hu => own_old (own_side (t3 j y u hy hu).1 hnb (by decide) c) ho, ?_, (c.old h.old (fun k hk => by subst hk; exact h.lo)).trans ho, ?_⟩
  · refine ⟨t2.1, ?_⟩
    rcases t2.2 with h' | ⟨g, cap, cur, rfl, hb', hg, hc⟩
    · exact Or.inl h'
    · exact Or.inr ⟨g, cap, cur, rfl, hb', (c.block g (blk_lt hg) (fun e => h.ne (by rw [e]; rfl))).trans hg, hc⟩
  · have hr := h.row
    rw [List.take_of_length_le (l := x.ks.map (i - ·)) (by rw [List.length_map, hK]; exact Nat.le_refl _)] at hr
    have := own_old (own_side hr hnb (by decide) c) ho
    unfold KR
    rw [List.length_map, ← hK]
    exact this
  · unfold Nb at hnb ⊢
    show (wr.heap.modify p _)[p]? = _
    rw [Array.getElem?_modify, if_pos rfl, hnb]
    simp
theorem Tw.pre {w : World} {oc : Option Addr} {n n1 cc : Nat} {A B : List Nd} (h : Tw w (.slice oc n cc) (A ++ B)) (hn : n1 = A.length) : Tw w (.slice oc n1 cc) A := by
  obtain ⟨oa, cap, e, h1, h2, h3⟩ := h
  injection e with e1 e2 e3
  subst e1 e3 hn
  rw [List.length_append] at h1
  exact ⟨_, _, rfl, by omega, h2, fun i x hx => h3 i x (by rw [List.getElem?_append_left (List.getElem?_eq_some_iff.1 hx).1]; exact hx)⟩
end Go.Proofs.YtgmjpcaennmgoaaGreatDoor
namespace Go.Proofs.YtgmjpcaennmgoaaGreatDoor
open Go.ChangeShapes Go.WideShapes Go.ChangeAt Go.RowKit Go.Lib
set_option linter.unusedVariables false
set_option linter.unusedSimpArgs false
set_option maxRecDepth 100000

theorem tw_some {w : World} {oa : Option Addr} {n cap : Nat} {T : List Nd} (h : Tw w (.slice oa n cap) T) (hp : 1 ≤ T.length) : ∃ g, oa = some ⟨g, 0, none⟩ ∧ g < w.heap.size ∧ n ≤ cap ∧ cap ≤ maxLen := by
  obtain ⟨oa', cap', e, h1, h2, h3⟩ := h
  injection e with e1 e2 e3
  subst e1 e3
  obtain ⟨g, kv, rfl, hg, _⟩ := h3 0 _ (List.getElem?_eq_getElem (by omega))
  exact ⟨g, rfl, hg, by rw [e2]; exact h1, h2⟩
structure Fz (W : World) (p go k gk kc opn n1 : Nat) (e : Int) : Prop where
  x0 : W.cell? ⟨p, 0, none⟩ = some (.int .u8 (opn : Int))
  x5 : W.cell? ⟨p, 5, none⟩ = some (.slice (some ⟨gk, 0, none⟩) 2 kc)
  xo : W.cell? ⟨go, k, none⟩ = some (.int .u8 (opn : Int))
  d0 : W.cell? ⟨gk, 0, none⟩ = some (.int .i64 (n1 : Int))
  d1 : W.cell? ⟨gk, 1, none⟩ = some (.int .i64 e)
  lp : p < W.heap.size
  lo : go < W.heap.size
  lk : gk < W.heap.size
theorem Fz.old {W W' : World} {p go k gk kc opn n1 : Nat} {e : Int} (h : Fz W p go k gk kc opn n1 e) (ho : Old W W') : Fz W' p go k gk kc opn n1 e :=
  ⟨ho.c h.lp h.x0, ho.c h.lp h.x5, ho.c h.lo h.xo, ho.c h.lk h.d0, ho.c h.lk h.d1, Nat.lt_of_lt_of_le h.lp ho.size, Nat.lt_of_lt_of_le h.lo ho.size, Nat.lt_of_lt_of_le h.lk ho.size⟩
theorem ops_at (w : World) : (((w.alloc (.cells #[.int .i64 0, .int .i64 0] 26)).alloc (.cells sgnA 9)).alloc (.cells opsA 5)).heap[w.heap.size + 1 + 1]? = some (.cells opsA 5 (0, 0)) := by
  have h1 : ((w.alloc (.cells #[.int .i64 0, .int .i64 0] 26)).alloc (.cells sgnA 9)).heap.size = w.heap.size + 1 + 1 := by rw [sz_alloc, sz_alloc]
  rw [← h1]
  exact (MapKept.heap_alloc _ _).1
set_option maxHeartbeats 6400000 in
theorem joino_good (s t : ByteArray) (o : Nat) (ho : o < 256) (w : World) (he : Env w) (hs : s.size ≤ 300) (ht : t.size ≤ 300) {T U : List Nd} (hR : readP s.data.toList = (T, 0, 0, 0)) (hR2 : readP t.data.toList = (U, 0, 0, 0)) {u : List UInt8} (hu3 : u.length ≤ 3) {k opn : Nat} (hk : k = o % 12) (hsg : sgnA[k]? = some (.string (st u))) (hop : opsA[k]? = some (.int .u8 (opn : Int)))
    {A B : List Nd} {nd : Nd} (hR3 : readP (joinO s.data.toList u t.data.toList) = (A ++ B ++ [nd], 0, 0, 0)) (h60 : T.length + U.length + 1 ≤ 60) (hA : A.map Nd.bare = T.map Nd.bare) (hB : B.map Nd.bare = U.map Nd.bare) (hno : nd.op = (opn : Int)) (hnk : nd.ks = [B.length + 1, 1]) :
    Calls Tryz.prog 6 #[.string s, .string t, .int .u8 (o : Int)] w fun e w' => e = .returned (.bool true) ∧ Old w w' := by
  have z1 : s.data.toList.length = s.size := Array.length_toList
  have z2 : t.data.toList.length = t.size := Array.length_toList
  obtain ⟨_, _, _, hT, hTA, _⟩ := readP_good (by omega) hR
  obtain ⟨_, _, _, hU, hUA, _⟩ := readP_good (by omega) hR2
  obtain ⟨n1, hn1⟩ : ∃ n, T.length = n + 1 := ⟨T.length - 1, by have := hT.pos; omega⟩
  obtain ⟨n2, hn2⟩ : ∃ n, U.length = n + 1 := ⟨U.length - 1, by have := hU.pos; omega⟩
  have lA := len_bare hA
  have lB := len_bare hB
  obtain ⟨F, hFl, hF0, hF⟩ := tree_firsts hU
  have HK1 := Lib.hid (show ∀ W, Old w W → Calls Tryz.prog 8 #[.string s] W fun e w' => ∃ ga ca, e = .returned (.tuple #[.slice (some ⟨ga, 0, none⟩) (n1 + 1) ca, .agg #[.int .i64 0, .int .i64 0], .int .i64 0]) ∧ Hid (Tw w' (.slice (some ⟨ga, 0, none⟩) (n1 + 1) ca) T) ∧ Old W w' from fun W h => (read_tw s W (by omega) (he.old h) hR).mono (by
    rintro e w' ⟨oa, ca, h1, h2, h3⟩
    rw [hn1] at h1 h2
    obtain ⟨g, rfl, _⟩ := tw_some h2.out hT.pos
    exact ⟨_, _, h1, h2, h3⟩))
  have HK2 := Lib.hid (show ∀ W, Old w W → Calls Tryz.prog 8 #[.string t] W fun e w' => ∃ gb cb, e = .returned (.tuple #[.slice (some ⟨gb, 0, none⟩) (n2 + 1) cb, .agg #[.int .i64 0, .int .i64 0], .int .i64 0]) ∧ Hid (Tw w' (.slice (some ⟨gb, 0, none⟩) (n2 + 1) cb) U) ∧ Old W w' from fun W h => (read_tw t W (by omega) (he.old h) hR2).mono (by
    rintro e w' ⟨oa, ca, h1, h2, h3⟩
    rw [hn2] at h1 h2
    obtain ⟨g, rfl, _⟩ := tw_some h2.out hU.pos
    exact ⟨_, _, h1, h2, h3⟩))
  obtain ⟨M, hM⟩ : ∃ M, M = n1 + n2 + 2 := ⟨_, rfl⟩
  have hC : (A ++ B ++ [nd]).length = M + 1 := by simp; omega
  have HK3 := Lib.hid (show ∀ W, Old w W → Calls Tryz.prog 8 #[.string (sumB s u t)] W fun e w' => ∃ gc cc, e = .returned (.tuple #[.slice (some ⟨gc, 0, none⟩) (M + 1) cc, .agg #[.int .i64 0, .int .i64 0], .int .i64 0]) ∧ Hid (Tw w' (.slice (some ⟨gc, 0, none⟩) (M + 1) cc) (A ++ B ++ [nd])) ∧ Hid (M + 1 ≤ cc ∧ cc ≤ maxLen) ∧ Old W w' from fun W h => (read_tw (sumB s u t) W (by have := sum_size s u t; omega) (he.old h) (T := A ++ B ++ [nd]) (ln := 0) (cl := 0) (E := 0) (by rw [sum_bytes]; exact hR3)).mono (by
    rintro e w' ⟨oa, ca, h1, h2, h3⟩
    rw [hC] at h1 h2
    obtain ⟨g, rfl, _, q1, q2⟩ := tw_some h2.out (by rw [hC]; omega)
    exact ⟨_, _, h1, h2, Lib.hid ⟨q1, q2⟩, h3⟩))
  have HSA := Lib.hid (fun (gc cc : Nat) (va : Value) (W : World) (h1 : Tw W (.slice (some ⟨gc, 0, none⟩) (M + 1) cc) (A ++ B ++ [nd])) (h2 : Tw W va T) => esame_true W (va := .slice (some ⟨gc, 0, none⟩) (n1 + 1) cc) (by rw [List.append_assoc] at h1; exact h1.pre (by omega)) h2 (by omega) (fun x hx => by
    obtain ⟨i, hi, rfl⟩ := List.mem_iff_getElem.1 hx
    have h3 : (A.map Nd.bare)[i]? = (T.map Nd.bare)[i]? := by rw [hA]
    rw [List.getElem?_map, List.getElem?_map, List.getElem?_eq_getElem hi, List.getElem?_eq_getElem (by omega)] at h3
    injection h3 with h3
    have h4 := (bare_eq h3).2.2.2.2.2
    rw [h4]
    exact few_ok hTA _ (List.getElem_mem _)) hA)
  have HKN := Lib.hid (fun W (h : Old w W) => known_ok W (he.old h))
  have HLA := Lib.hid (lA.trans hn1)
  have HLB := Lib.hid (lB.trans hn2)
  have HB' := Lib.hid hB
  have HF := Lib.hid hF
  have HFB := Lib.hid (show Few B from fun x hx => by
    obtain ⟨i, hi, rfl⟩ := List.mem_iff_getElem.1 hx
    have h3 : (B.map Nd.bare)[i]? = (U.map Nd.bare)[i]? := by rw [hB]
    rw [List.getElem?_map, List.getElem?_map, List.getElem?_eq_getElem hi, List.getElem?_eq_getElem (by omega)] at h3
    injection h3 with h3
    rw [(bare_eq h3).2.2.2.2.2]
    exact few_ok hUA _ (List.getElem_mem _))
  have HO := Lib.hid (Old.refl w)
  have h : ¬ (300 : Int) < (s.size : Int) := by omega
  have h' : ¬ (300 : Int) < (t.size : Int) := by omega
  have hrem : (o : Int).tmod 12 = (k : Int) := by rw [hk]; rfl
  have hk12 : (k : Int) < 12 := by omega
  have hn60 : M + 1 ≤ 60 := by omega
  have hM1 : n1 + 1 ≤ M := by omega
  have hM2 : n2 + 1 ≤ M := by omega
  have HM := Lib.hid hM
  have e1 : (n1 : Int) + 1 + ((n2 : Int) + 1) + 1 = (M : Int) + 1 := by omega
  have q60 : ¬ (60 : Int) < (M : Int) + 1 := by omega
  clear hM he hs ht hR hR2 hR3 hk hn1 hn2 lA lB hFl hF0 hC z1 z2 h60
  go_enter Tryz.func6, Tryz.ntmps6
  go_wp2_with (first
    | (go_at_call 8; (with_reducible refine (HK1.out _ HO.out).mono ?_); rintro e w1 ⟨ga, ca, rfl, t1, o1⟩; have o1' := (Old.refl w1).alloc (.cells #[.int .i64 0, .int .i64 0] 26); have T1 := Lib.hid (t1.out.old o1'); have O1 := Lib.hid (o1.trans o1'); clear t1 o1 o1')
    | (go_at_call 8; (with_reducible refine (HK2.out _ O1.out).mono ?_); rintro e w2 ⟨gb, cb, rfl, t2, o2⟩; have o2' := (((Old.refl w2).alloc (.cells #[.int .i64 0, .int .i64 0] 26)).alloc (.cells sgnA 9)).alloc (.cells opsA 5); have T2 := Lib.hid (t2.out.old o2'); have OPS := Lib.hid (ops_at w2); replace T1 := Lib.hid (T1.out.old (o2.trans o2')); have O2 := Lib.hid ((O1.out.trans o2).trans o2'); clear t2 o2 o2')
    | (go_at_call 8; (with_reducible refine (HK3.out _ O2.out).mono ?_); rintro e w3 ⟨gc, cc, rfl, t3, hcc, o3⟩; have o3' := (Old.refl w3).alloc (.cells #[.int .i64 0, .int .i64 0] 26); have T3 := Lib.hid (t3.out.old o3'); replace T1 := Lib.hid (T1.out.old (o3.trans o3')); replace T2 := Lib.hid (T2.out.old (o3.trans o3')); replace OPS := Lib.hid (((o3.trans o3').block _ (blk_lt OPS.out)).trans OPS.out); have O3 := Lib.hid ((O2.out.trans o3).trans o3'); have hc1 := hcc.out.1; have hc2 := hcc.out.2; clear t3 o3 o3')
    | (go_at_call 11; (with_reducible refine (HSA.out _ _ _ _ T3.out T1.out).mono ?_); rintro e W0 ⟨rfl, o4⟩; replace T3 := Lib.hid (T3.out.old o4); replace T2 := Lib.hid (T2.out.old o4); replace OPS := Lib.hid ((o4.block _ (blk_lt OPS.out)).trans OPS.out); have O4 := Lib.hid (O3.out.trans o4); clear o4))
  have g1 : M - (n1 + 1) = n2 + 1 := by have := HM.out; omega
  rw [g1]
  clear g1
  go_loopw [20, 129] (fun v i wr => ∃ (j : Nat) (ob : Option Addr) (cb : Nat), j ≤ n2 + 1 ∧ i = .int .i64 (j : Int) ∧ v = .slice ob j cb ∧ Hid (Old W0 wr ∧ TreeR (fun _ => False) wr W0.heap.size (.slice ob j cb) (B.take j))) (fun v i _ => (n2 + 1 - RowKit.intOf i).toNat)
  case atStart => exact ⟨0, none, 0, Nat.zero_le _, rfl, rfl, Lib.hid ⟨Old.refl W0, by rw [List.take_zero]; exact TreeR.nil _ _ _⟩⟩
  case round =>
    obtain ⟨j, ob, co, hj, rfl, rfl, HB0⟩ := hrel
    rcases Nat.lt_or_ge j (n2 + 1) with hjn | hjn
    · obtain ⟨x, hx⟩ : ∃ x, B[j]? = some x := ⟨_, List.getElem?_eq_getElem (by rw [HLB.out]; exact hjn)⟩
      have hcx : (A ++ B ++ [nd])[n1 + 1 + j]? = some x := by
        rw [List.append_assoc, List.getElem?_append_right (by rw [HLA.out]; omega), HLA.out, show n1 + 1 + j - (n1 + 1) = j by omega, List.getElem?_append_left (by rw [HLB.out]; exact hjn)]
        exact hx
      obtain ⟨oc', cc', q1, _, _, h4⟩ := T3.out
      injection q1 with q1 q2 q3
      subst q1 q3
      obtain ⟨gx, kv, q4, hgt, _, a0, a1, a2, a3, a4, a5, a6, a7, hkw⟩ := h4 _ x hcx
      injection q4 with q4
      injection q4 with q4 _ _
      subst q4
      have ho := HB0.out.1
      rw [show (n1 + 1 + j) * 8 = (n1 + 1) * 8 + j * 8 by omega] at a0 a1 a2 a3 a4 a5 a6 a7
      replace a0 := ho.c hgt a0
      replace a1 := ho.c hgt a1
      replace a2 := ho.c hgt a2
      replace a3 := ho.c hgt a3
      replace a4 := ho.c hgt a4
      replace a5 := ho.c hgt a5
      replace a6 := ho.c hgt a6
      replace a7 := ho.c hgt a7
      obtain ⟨okk, kc, rfl, hk1, hk2, hkk⟩ := hkw
      have hmem : ∀ d ∈ x.ks, 1 ≤ d ∧ d ≤ j := by
        have hub : (B.map Nd.bare)[j]? = (U.map Nd.bare)[j]? := by rw [HB'.out]
        rw [List.getElem?_map, List.getElem?_map, hx] at hub
        cases hy : U[j]? with
        | none => rw [hy] at hub; cases hub
        | some y =>
          rw [hy] at hub
          injection hub with hub
          obtain ⟨e, _, hwk⟩ := HF.out j y hy
          rw [(bare_eq hub).2.2.2.2.2]
          exact fun d hd => wlk_mem _ _ _ hwk (Nat.le_refl _) d (List.mem_reverse.2 hd)
      have hfx : x.ks.length ≤ 1000 := HFB.out x (List.mem_iff_getElem?.2 ⟨j, hx⟩)
      rw [List.length_map] at a5 hk1
      have HX := Lib.hid hx
      obtain ⟨op, vk, vn, vs, nm, ks, ln, cl⟩ := x
      simp only at a0 a1 a2 a3 a4 a5 a6 a7 hkk hk1 hfx hmem
      obtain ⟨K, hK⟩ : ∃ K, K = ks.length := ⟨_, rfl⟩
      rw [← hK] at a5 hk1 hfx
      have HKE := Lib.hid hK
      have HKK := Lib.hid hkk
      have HMEM := Lib.hid hmem
      have hOA := (Old.refl wr).alloc (.cells #[.int .u8 op, .int .u8 vk, .int .i64 vn, .string (st vs), .string (st nm), .slice okk K kc, .int .i64 ln, .int .i64 cl] 37)
      have J0 := Lib.hid (show Jn W0 (.slice ob j co) (B.take j) wr.heap.size ⟨op, vk, vn, vs, nm, ks, ln, cl⟩ (.slice okk K kc) j 0 (.slice none 0 0) (wr.alloc (.cells #[.int .u8 op, .int .u8 vk, .int .i64 vn, .string (st vs), .string (st nm), .slice okk K kc, .int .i64 ln, .int .i64 cl] 37)) from ⟨ho.trans hOA, by
          obtain ⟨kvs, t1, t2, t3⟩ := HB0.out.2
          exact ⟨kvs, t1, own_old t2 hOA, fun i y v hy hv => ⟨own_old (t3 i y v hy hv).1 hOA, fun g e hk => by simp [Value.ownBlock] at hk⟩⟩, World.ownsRow_nil _ _ _ _, (MapKept.heap_alloc wr _).1, fun e => by
          obtain ⟨kvs, t1, t2, t3⟩ := HB0.out.2
          obtain ⟨_, cur, hb⟩ := own_blk t2 e
          exact Nat.lt_irrefl _ (blk_lt hb), ho.size⟩)
      have HP := Lib.hid ho.size
      clear h4 ho hOA hk1 hk2 hkk hK hgt hx hcx hmem
      go_wp2
      generalize wr.heap.size = p at J0 HP ⊢
      go_loopw [23, 136] (fun v i wr2 => ∃ (c : Nat) (ol : Option Addr) (cl2 : Nat), c ≤ K ∧ i = .int .i64 (c : Int) ∧ v = .slice ol c cl2 ∧ Hid (Jn W0 (.slice ob j co) (B.take j) p ⟨op, vk, vn, vs, nm, ks, ln, cl⟩ (.slice okk K kc) j c (.slice ol c cl2) wr2)) (fun v i _ => (K - RowKit.intOf i).toNat)
      case atStart => exact ⟨0, none, 0, Nat.zero_le _, rfl, rfl, J0⟩
      case round =>
        clear J0
        obtain ⟨c, ol, cl2, hc, rfl, rfl, H1⟩ := hrel
        rcases Nat.lt_or_ge c K with hcK | hcK
        · obtain ⟨d, hd⟩ : ∃ d, ks[c]? = some d := ⟨_, List.getElem?_eq_getElem (by rw [← HKE.out]; exact hcK)⟩
          obtain ⟨b1, b2⟩ := HMEM.out d (List.mem_iff_getElem?.2 ⟨c, hd⟩)
          obtain ⟨m, hm2⟩ : ∃ m, m = j - d := ⟨_, rfl⟩
          have hm : (ks.map (n1 + 1 + j - ·))[c]? = some (n1 + 1 + m) := by
            rw [List.getElem?_map, hd]
            show some (n1 + 1 + j - d) = some (n1 + 1 + m)
            congr 1
            omega
          have hm3 : (ks.map (j - ·))[c]? = some m := by rw [List.getElem?_map, hd, hm2]; rfl
          obtain ⟨gk, rfl, hgk, _, d0⟩ := HKK.out c _ hm
          replace d0 := H1.out.old.c hgk d0
          have d0' : wr.cell? ⟨gk, c, none⟩ = some (.int .i64 ((n1 : Int) + 1 + (m : Int))) := by rw [d0]; rfl
          have hmb : m ≤ 60 := by omega
          have HM3 := Lib.hid hm3
          obtain ⟨ti, hti, hz, hsz, hby⟩ := info_parts info3
          have L1 := Lib.hid (show (c + 1) * 8 ≤ 140737488355328 by omega)
          have L2 := Lib.hid (show c + 1 ≤ maxLen by unfold maxLen; omega)
          have OWN := Lib.hid (own_old H1.out.row ((Old.refl wr).alloc (.cells #[.int .i64 (m : Int)] 3)))
          have BS := Lib.hid (show W0.heap.size ≤ (wr.alloc (.cells #[.int .i64 (m : Int)] 3)).heap.size from (H1.out.old.alloc _).size)
          have hsub : (n1 : Int) + 1 + (m : Int) - ((n1 : Int) + 1) = (m : Int) := by omega
          clear hd hm hm3 hgk b1 b2 hm2 d0
          go_wp2_with (first
            | (at_builtin; go_loud (refine wpList_append_lies _ rfl _ _ 33 rfl W0.heap.size 3 ti _ 1 8 Tryz.underlying33 hti hz hsz hby rfl (Nat.zero_lt_succ 0) (.slice ol c cl2) c _ rfl OWN.out ⟨wr.heap.size, 0, none⟩ 1 1 [.int .i64 (m : Int)] rfl rfl (ce_news m wr) (ce_one m) (Nat.zero_lt_succ 0) L2.out L1.out BS.out _ rfl ?_); intro g' cap' w8 hown hgr hlie hlt; have H8 := Lib.hid (jn_step H1.out HM3.out hown hgr hlie); clear hown hgr hlie hlt))
          exact ⟨⟨c + 1, _, _, hcK, by simp, rfl, H8⟩, by simp only [RowKit.intOf]; omega⟩
        · obtain rfl : c = K := by omega
          have hlj : (B.take j).length = j := by rw [List.length_take, HLB.out]; omega
          obtain ⟨kvs, t1, t2, t3, t4, t5, t6⟩ := jn_store HKE.out H1.out #[.int .u8 op, .int .u8 vk, .int .i64 vn, .string (st vs), .string (st nm), .slice ol c cl2, .int .i64 ln, .int .i64 cl]
          have f5 : wr.frozen? ⟨p, 5, none⟩ = false := by
            have := H1.out.nb
            unfold Nb at this
            simp [World.frozen?, this]
          have c5 := H1.out.nb.c5
          have r0 := t6.c 0
          have r1 := t6.c 1
          have r2 := t6.c 2
          have r3 := t6.c 3
          have r4 := t6.c 4
          have r5 := t6.c 5
          have r6 := t6.c 6
          have r7 := t6.c 7
          rw [hlj] at t2
          have OWN := Lib.hid t2
          have TP := Lib.hid (fun (w5 : World) (v5 : Value) hown hgr => tree_push (w5 := w5) (v5 := v5) t1 hlj.symm t2 t3 (x := ⟨op, vk, vn, vs, nm, ks, ln, cl⟩) (v := .slice ol c cl2) (by rw [hlj]; exact t4) hown hgr)
          have TB := Lib.hid (show B.take (j + 1) = B.take j ++ [⟨op, vk, vn, vs, nm, ks, ln, cl⟩] by rw [List.take_add_one, HX.out]; rfl)
          have hsz5 : (wr.setCell ⟨p, 5, none⟩ (.slice ol c cl2)).heap.size = wr.heap.size := by simp [World.setCell]
          have hblk : ((wr.setCell ⟨p, 5, none⟩ (.slice ol c cl2)).alloc (.cells #[.int .u8 op, .int .u8 vk, .int .i64 vn, .string (st vs), .string (st nm), .slice ol c cl2, .int .i64 ln, .int .i64 cl] 37)).heap[wr.heap.size]? = some (.cells #[.int .u8 op, .int .u8 vk, .int .i64 vn, .string (st vs), .string (st nm), .slice ol c cl2, .int .i64 ln, .int .i64 cl] 37 (0, 0)) := by
            rw [← hsz5]; exact (MapKept.heap_alloc _ _).1
          have NEWS := Lib.hid (World.news_of_block hblk)
          have ONE := Lib.hid (show ∀ u ∈ (#[.int .u8 op, .int .u8 vk, .int .i64 vn, .string (st vs), .string (st nm), .slice ol c cl2, .int .i64 ln, .int .i64 cl] : Array Value).toList, u.oneCell' = true from fun u hu => by
            simp only [List.mem_cons, List.not_mem_nil, or_false] at hu
            rcases hu with rfl | rfl | rfl | rfl | rfl | rfl | rfl | rfl
            all_goals rfl)
          obtain ⟨tj, htj, hz2, hsz2, hby2⟩ := info_parts info37
          have L1 := Lib.hid (show (j + 1) * 96 ≤ 140737488355328 by omega)
          have L2 := Lib.hid (show j + 1 ≤ maxLen by unfold maxLen; omega)
          have BS := Lib.hid t5.size
          have O5 := Lib.hid t5
          clear t1 t2 t3 t4 t5 t6 hlj hblk
          go_wp2_with (first
            | (at_builtin; go_loud (refine wpList_append_lies _ rfl _ _ 24 rfl W0.heap.size 37 tj _ 8 96 Tryz.underlying24 htj hz2 hsz2 hby2 rfl (Nat.zero_lt_succ 7) (.slice ob j co) j (ncells (B.take j) kvs) rfl OWN.out ⟨wr.heap.size, 0, none⟩ 1 1 _ rfl rfl NEWS.out ONE.out (Nat.zero_lt_succ 0) L2.out L1.out BS.out _ rfl ?_); intro g' cap' w8 hown hgr hlie hlt; have H8 := Lib.hid (TP.out _ _ hown hgr); have O8 := Lib.hid (O5.out.grown hgr (fun k hk => (own_blk OWN.out hk).1)); clear hown hgr hlie hlt))
          have H9 := Lib.hid (show TreeR (fun _ => False) w8 W0.heap.size (.slice (some ⟨g', 0, none⟩) (j + 1) cap') (B.take (j + 1)) by rw [TB.out]; exact H8.out)
          exact ⟨⟨_, _, _, _, .int .i64 ((j : Int) + 1), ⟨j + 1, hjn, by simp, _, _, rfl, Lib.hid ⟨O8.out, H9.out⟩⟩, rfl, rfl, rfl, rfl, rfl⟩, by simp only [RowKit.intOf]; omega⟩
    · obtain rfl : j = n2 + 1 := by omega
      have ho := HB0.out.1
      have TO := Lib.hid (show Tw wr (.slice ob (n2 + 1) co) B from by
        have := HB0.out.2.tw
        rw [List.take_of_length_le (by rw [HLB.out]; exact Nat.le_refl _)] at this
        exact this)
      have hcx : (A ++ B ++ [nd])[M]? = some nd := by
        have hl : (A ++ B).length = M := by rw [List.length_append, HLA.out, HLB.out, HM.out]; omega
        rw [List.getElem?_append_right (by omega), hl, Nat.sub_self]
        rfl
      obtain ⟨oc', cc', q1, _, _, h4⟩ := T3.out
      injection q1 with q1 q2 q3
      subst q1 q3
      clear q2
      obtain ⟨gx, kv, q4, hgt, _, a0, a1, a2, a3, a4, a5, a6, a7, hkw⟩ := h4 _ nd hcx
      injection q4 with q4
      injection q4 with q4 _ _
      subst q4
      replace a0 := ho.c hgt a0
      replace a1 := ho.c hgt a1
      replace a2 := ho.c hgt a2
      replace a3 := ho.c hgt a3
      replace a4 := ho.c hgt a4
      replace a5 := ho.c hgt a5
      replace a6 := ho.c hgt a6
      replace a7 := ho.c hgt a7
      have T2' := Lib.hid (T2.out.old ho)
      have hops : wr.heap[w2.heap.size + 1 + 1]? = some (.cells opsA 5 (0, 0)) := (ho.block _ (blk_lt OPS.out)).trans OPS.out
      have O5 := Lib.hid (O4.out.trans ho)
      obtain ⟨okk, kc, rfl, hk1, hk2, hkk⟩ := hkw
      obtain ⟨op, vk, vn, vs, nm, ks, ln, cl⟩ := nd
      simp only at hno hnk
      subst hno hnk
      obtain ⟨gk, rfl, hgk, _, d0⟩ := hkk 0 _ rfl
      obtain ⟨gk', q5, _, _, d1⟩ := hkk 1 _ rfl
      injection q5 with q5
      injection q5 with q5 _ _
      subst q5
      have e3 : M - (B.length + 1) = n1 := by rw [HLB.out, HM.out]; omega
      replace d0 : W0.cell? ⟨gk, 0, none⟩ = some (.int .i64 ((M - (B.length + 1) : Nat) : Int)) := d0
      rw [e3] at d0
      have e4 : ((M - 1 : Nat) : Int) = (M : Int) - 1 := by have := HM.out; omega
      replace d1 : W0.cell? ⟨gk, 1, none⟩ = some (.int .i64 ((M - 1 : Nat) : Int)) := d1
      rw [e4] at d1
      replace d0 := ho.c hgk d0
      replace d1 := ho.c hgk d1
      simp only [List.length_map, List.length_cons, List.length_nil] at a5
      have a5' : wr.cell? ⟨gc, M * 8 + 5, none⟩ = some (.slice (some ⟨gk, 0, none⟩) 2 kc) := a5
      clear a5 h4 hgt hcx hk1 hk2 hkk hgk e3 e4 ho
      have HSB := Lib.hid (fun (W : World) (h : Old wr W) => esame_true W (TO.out.old h) (T2'.out.old h) (by rw [HLB.out]; omega) HFB.out HB'.out)
      have hFz : Fz (wr.alloc (.cells #[.int .u8 (opn : Int), .int .u8 vk, .int .i64 vn, .string (st vs), .string (st nm), .slice (some ⟨gk, 0, none⟩) 2 kc, .int .i64 ln, .int .i64 cl] 37)) wr.heap.size (w2.heap.size + 1 + 1) k gk kc opn n1 ((M : Int) - 1) := by
        have hOA := (Old.refl wr).alloc (.cells #[.int .u8 (opn : Int), .int .u8 vk, .int .i64 vn, .string (st vs), .string (st nm), .slice (some ⟨gk, 0, none⟩) 2 kc, .int .i64 ln, .int .i64 cl] 37)
        have hb := (MapKept.heap_alloc wr (.cells #[.int .u8 (opn : Int), .int .u8 vk, .int .i64 vn, .string (st vs), .string (st nm), .slice (some ⟨gk, 0, none⟩) 2 kc, .int .i64 ln, .int .i64 cl] 37)).1
        have hgk : gk < wr.heap.size := Nat.lt_of_lt_of_le (by assumption) HB0.out.1.size
        have hnb : Nb (wr.alloc (.cells #[.int .u8 (opn : Int), .int .u8 vk, .int .i64 vn, .string (st vs), .string (st nm), .slice (some ⟨gk, 0, none⟩) 2 kc, .int .i64 ln, .int .i64 cl] 37)) wr.heap.size ⟨(opn : Int), vk, vn, vs, nm, [], ln, cl⟩ (.slice (some ⟨gk, 0, none⟩) 2 kc) := hb
        exact ⟨hnb.c 0, hnb.c 5, hOA.c (blk_lt hops) (by simp only [World.cell?, hops]; exact hop), hOA.c hgk d0, hOA.c hgk d1, blk_lt hb, Nat.lt_of_lt_of_le (blk_lt hops) hOA.size, Nat.lt_of_lt_of_le hgk hOA.size⟩
      have O6 := Lib.hid ((Old.refl wr).alloc (.cells #[.int .u8 (opn : Int), .int .u8 vk, .int .i64 vn, .string (st vs), .string (st nm), .slice (some ⟨gk, 0, none⟩) 2 kc, .int .i64 ln, .int .i64 cl] 37))
      go_wp2
      clear hops d0 d1 a0 a1 a2 a3 a4 a5' a6 a7
      generalize wr.alloc (.cells #[.int .u8 (opn : Int), .int .u8 vk, .int .i64 vn, .string (st vs), .string (st nm), .slice (some ⟨gk, 0, none⟩) 2 kc, .int .i64 ln, .int .i64 cl] 37) = W5 at hFz O6 ⊢
      have FZ := Lib.hid hFz
      have x0 := hFz.x0
      have x5 := hFz.x5
      have xo := hFz.xo
      have d0 := hFz.d0
      have d1 := hFz.d1
      have y7 : ((M : Int) - 1 == (M : Int) + 1 - 2) = true := by
        rw [show (M : Int) + 1 - 2 = (M : Int) - 1 by omega]
        exact beq_self_eq_true _
      have hwa : IntKind.i64.wrap ((n1 : Int) + 1 - 1) = (n1 : Int) := by rw [IntKind.wrap_i64]; omega
      have hwb : IntKind.i64.wrap (n1 : Int) = (n1 : Int) := by rw [IntKind.wrap_i64]; omega
      have hwc : IntKind.i64.wrap ((M : Int) + 1 - 2) = (M : Int) - 1 := by rw [IntKind.wrap_i64]; omega
      clear hFz y7
      generalize wr.heap.size = p at FZ x0 x5 ⊢
      generalize w2.heap.size + 1 + 1 = go at FZ xo ⊢
      go_region_held3 (fun w' => w'.cell? ⟨p, 0, none⟩ = some (.int .u8 (opn : Int)) ∧ w'.cell? ⟨p, 5, none⟩ = some (.slice (some ⟨gk, 0, none⟩) 2 kc) ∧ w'.cell? ⟨go, k, none⟩ = some (.int .u8 (opn : Int)) ∧ w'.cell? ⟨gk, 0, none⟩ = some (.int .i64 (n1 : Int)) ∧ w'.cell? ⟨gk, 1, none⟩ = some (.int .i64 ((M : Int) - 1)))
        (first | exact ⟨x0, x5, xo, d0, d1⟩ | exact ⟨FZ7.out.x0, FZ7.out.x5, FZ7.out.xo, FZ7.out.d0, FZ7.out.d1⟩ | exact ⟨FZ6.out.x0, FZ6.out.x5, FZ6.out.xo, FZ6.out.d0, FZ6.out.d1⟩ | go_keep)
        (first
          | (go_at_call 11; refine (HSB.out _ (by first | exact O6.out.drew | exact O6.out)).mono ?_; rintro e w6 ⟨rfl, o6⟩; replace o6 : Old W5 w6 := ⟨o6.os, o6.output, o6.size, o6.block⟩; have FZ6 := Lib.hid (FZ.out.old o6); have OO6 := Lib.hid ((O5.out.trans O6.out).trans o6); clear o6)
          | (go_at_call 7; refine (HKN.out _ (by first | exact OO6.out | exact OO6.out.drew)).mono ?_; rintro e w7 ⟨rfl, o7⟩; replace o7 : Old w6 w7 := ⟨o7.os, o7.output, o7.size, o7.block⟩; have FZ7 := Lib.hid (FZ6.out.old o7); have OO7 := Lib.hid (OO6.out.trans o7); clear o7))
      all_goals
        go_wp2
        go_ret
        exact ⟨rfl, OO7.out.os, OO7.out.output, OO7.out.size, OO7.out.block⟩
theorem joino_nat (s t : ByteArray) (o : Nat) (ho : o < 256) (w : World) (he : Env w) : Calls Tryz.prog 6 #[.string s, .string t, .int .u8 (o : Int)] w fun e w' => e = .returned (.bool true) ∧ Old w w' := by
  by_cases hs : s.size ≤ 300
  case neg => exact joino_long s t _ w he (Or.inl (by omega))
  by_cases ht : t.size ≤ 300
  case neg => exact joino_long s t _ w he (Or.inr (by omega))
  have z1 : s.data.toList.length = s.size := Array.length_toList
  have z2 : t.data.toList.length = t.size := Array.length_toList
  obtain ⟨⟨T, ln, cl, E⟩, hR⟩ : ∃ x, readP s.data.toList = x := ⟨_, rfl⟩
  obtain ⟨⟨U, l2, c2, E2⟩, hR2⟩ : ∃ x, readP t.data.toList = x := ⟨_, rfl⟩
  by_cases hE : ¬ E = 0 ∨ ¬ E2 = 0
  · exact joino_none s t _ w he hs ht hR hR2 hE
  have h1 : E = 0 := Classical.byContradiction (fun h => hE (Or.inl h))
  have h2 : E2 = 0 := Classical.byContradiction (fun h => hE (Or.inr h))
  subst h1 h2
  obtain ⟨rfl, rfl, _⟩ := readP_good (by omega) hR
  obtain ⟨rfl, rfl, _⟩ := readP_good (by omega) hR2
  obtain ⟨u, hu, hu3, hsg, hop⟩ := sgn_pick (o % 12) (by omega)
  rcases join_read (by omega) (by omega) hR hR2 hu with ⟨l3, c3, h3⟩ | ⟨h60, l3, c3, h3⟩ | ⟨h60, A, B, nd, h3, hA, hB, hno, hnk⟩
  · exact joino_bad s t o ho w he hs ht hR hR2 hu3 rfl hsg h3 (Or.inl rfl)
  · exact joino_bad s t o ho w he hs ht hR hR2 hu3 rfl hsg h3 (Or.inr ⟨rfl, h60⟩)
  · exact joino_good s t o ho w he hs ht hR hR2 hu3 rfl hsg hop h3 h60 hA hB hno hnk
theorem joino_any (s t : ByteArray) (n : Int) (hn : (Lit.int .u8 n).wf = true) (w : World) (he : Env w) : Calls Tryz.prog 6 #[.string s, .string t, .int .u8 n] w fun e w' => e = .returned (.bool true) ∧ Old w w' := by
  obtain ⟨h1, h2⟩ := wf_u8 hn
  obtain ⟨o, rfl⟩ : ∃ o : Nat, n = (o : Int) := ⟨n.toNat, by omega⟩
  exact joino_nat s t o (by omega) w he
end Go.Proofs.YtgmjpcaennmgoaaGreatDoor
