/- Layer template: the law TemplateNames. -/
import Derived.Test.YtcedcfkjoppjdaaNL
namespace Go.Proofs.Ytcedcfkjoppjdaa
open Go.ChangeShapes Go.WideShapes Go.ChangeAt Go.RowKit Go.Lib
set_option linter.unusedVariables false
set_option linter.unusedSimpArgs false
set_option maxRecDepth 100000

theorem u64_nn (k : Int) : 0 ≤ IntKind.u64.wrap k := by
  rw [IntKind.wrap_u64]; omega
/-- A number's rest by d, d no less than 1 and not great. -/
theorem rest_at (k d : Int) (h0 : 0 < d) (h1 : d ≤ 1000000) : ∃ m : Nat, (m : Int) < d ∧ wrap64 ((IntKind.u64.wrap k).tmod d) = (m : Int) := by
  have hu := u64_nn k
  generalize IntKind.u64.wrap k = u at hu ⊢
  have e : u.tmod d = u % d := Int.tmod_eq_emod_of_nonneg hu
  have h2 := Int.emod_nonneg u (show d ≠ 0 by omega)
  have h3 := Int.emod_lt_of_pos u h0
  refine ⟨(u % d).toNat, by omega, ?_⟩
  rw [e]
  generalize u % d = z at h2 h3 ⊢
  simp only [wrap64]
  omega
theorem slTo_at {l : List Sl} {j : Nat} {x : Sl} (hx : l[j]? = some x) : ∀ n, j < n → slTo l n = true → sAt l j x = true
  | 0, h, _ => absurd h (Nat.not_lt_zero _)
  | n + 1, h, ht => by
    rw [slTo, Bool.and_eq_true] at ht
    rcases Nat.lt_or_eq_of_le (Nat.le_of_lt_succ h) with h | h
    · exact slTo_at hx n h ht.1
    · subst h
      have := ht.2
      rw [hx] at this
      exact this
theorem tTo_at {l : List Tp} {j : Nat} {x : Tp} (hx : l[j]? = some x) : ∀ n, j < n → tTo l n = true → tAt l j x = true
  | 0, h, _ => absurd h (Nat.not_lt_zero _)
  | n + 1, h, ht => by
    rw [tTo, Bool.and_eq_true] at ht
    rcases Nat.lt_or_eq_of_le (Nat.le_of_lt_succ h) with h | h
    · exact tTo_at hx n h ht.1
    · subst h
      have := ht.2
      rw [hx] at this
      exact this
theorem ixFrom_conv {s : ByteArray} : ∀ {l : List ByteArray} {i : Int} {k : Nat}, ixFrom s l i = i + k → 0 ≤ i → noX l s k ∧ ∃ x, l[k]? = some x ∧ (x.toList == s.toList) = true
  | [], i, k, h, h0 => by unfold ixFrom at h; omega
  | y :: l, i, k, h, h0 => by
    rw [ixFrom] at h
    cases e : (y.toList == s.toList)
    · rw [e, if_neg (by decide)] at h
      have hk : 1 ≤ k := by
        rcases Nat.eq_zero_or_pos k with hk | hk
        · subst hk
          exfalso
          have hge : ∀ (l : List ByteArray) (i : Int), ixFrom s l i = -1 ∨ i ≤ ixFrom s l i := by
            intro l
            induction l with
            | nil => intro i; left; rfl
            | cons z l ih =>
              intro i
              rw [ixFrom]
              split
              · right; omega
              · rcases ih (i + 1) with h | h
                · left; exact h
                · right; omega
          rcases hge l (i + 1) with h' | h' <;> omega
        · exact hk
      obtain ⟨k', rfl⟩ : ∃ k', k = k' + 1 := ⟨k - 1, by omega⟩
      obtain ⟨h1, x, h2, h3⟩ := ixFrom_conv (s := s) (l := l) (i := i + 1) (k := k') (by omega) (by omega)
      refine ⟨fun j z hj hz => ?_, x, h2, h3⟩
      rcases j with _ | j
      · cases hz; exact e
      · exact h1 j z (by omega) hz
    · rw [e, if_pos rfl] at h
      obtain rfl : k = 0 := by omega
      exact ⟨fun j z hj _ => by omega, y, rfl, e⟩
theorem ix_take {l : List ByteArray} {s : ByteArray} {k m : Nat} (h : ix l s = k) (hk : k < m) : ix (l.take m) s = k := by
  obtain ⟨h1, x, h2, h3⟩ := ixFrom_conv (l := l) (s := s) (i := 0) (k := k) (by unfold ix at h; omega) (by omega)
  refine ix_hit (x := x) (fun j z hj hz => h1 j z hj ?_) ?_ h3
  · rw [List.getElem?_take] at hz
    split at hz
    · exact hz
    · cases hz
  · rw [List.getElem?_take, if_pos hk]; exact h2
/-- What may be has first ones that may be. -/
theorem may_take {l : List Tp} (h : mayT l = true) (m : Nat) : mayT (l.take m) = true := by
  unfold mayT at h ⊢
  rw [Bool.and_eq_true, decide_eq_true_eq] at h
  obtain ⟨hl, ht⟩ := h
  rw [decide_eq_true (by rw [List.length_take]; omega), Bool.true_and]
  have key : ∀ n, n ≤ (l.take m).length → tTo (l.take m) n = true := by
    intro n
    induction n with
    | zero => intro _; rfl
    | succ n ih =>
      intro hn
      rw [List.length_take] at hn
      have hx : ∃ x, l[n]? = some x := ⟨l[n]'(by omega), List.getElem?_eq_getElem _⟩
      obtain ⟨x, hx⟩ := hx
      have hx' : (l.take m)[n]? = some x := by rw [List.getElem?_take, if_pos (by omega)]; exact hx
      refine tTo_next (ih (by rw [List.length_take]; omega)) hx' ?_
      have := tTo_at hx _ (by omega) ht
      unfold tAt at this ⊢
      rw [Bool.and_eq_true] at this
      rw [this.1, Bool.true_and]
      have e : ix (tnames l) x.n = (n : Int) := by simpa using this.2
      have : tnames (l.take m) = (tnames l).take m := by unfold tnames; rw [List.map_take]
      rw [this, ix_take e (by omega)]
      simp
  exact key _ (Nat.le_refl _)
theorem TR.take {w : World} {oa : Option Addr} {N c m : Nat} {l : List Tp} (hl : TR w (.slice oa N c) l) (hN : N = l.length) (hm : m ≤ N) : TR w (.slice oa m c) (l.take m) := by
  obtain ⟨oa', c', e, h1, h2, h3⟩ := hl
  cases e
  refine ⟨oa, c, by rw [List.length_take, Nat.min_eq_left (by omega)], by rw [List.length_take]; omega, h2, fun j x hj => ?_⟩
  rw [List.getElem?_take] at hj
  split at hj
  · exact h3 j x hj
  · cases hj
/-- What the slots of a template that may be are. -/
theorem slot_is {l : List Sl} {j : Nat} {y : Sl} (h : slB l = true) (hy : l[j]? = some y) : nmB y.n = true ∧ kB y.k = true ∧ ix (snames l) y.n = (j : Int) := by
  have := slTo_at hy _ (List.getElem?_eq_some_iff.1 hy).1 h
  unfold sAt at this
  simp only [Bool.and_eq_true, beq_iff_eq] at this
  exact ⟨this.1.1, this.1.2, this.2⟩
theorem temp_is {l : List Tp} {j : Nat} {x : Tp} (h : mayT l = true) (hx : l[j]? = some x) : nmB x.n = true ∧ 1 ≤ x.l.length ∧ x.l.length ≤ 8 ∧ slB x.l = true ∧ ix (tnames l) x.n = (j : Int) := by
  unfold mayT at h
  rw [Bool.and_eq_true] at h
  have := tTo_at hx _ (List.getElem?_eq_some_iff.1 hx).1 h.2
  unfold tAt tB at this
  simp only [Bool.and_eq_true, beq_iff_eq, decide_eq_true_eq] at this
  exact ⟨this.1.1.1, this.1.1.2.1, this.1.1.2.2, this.1.2, this.2⟩

theorem names_no (l : List Tp) (v : Value) (k : Int) (w : World) (hl : TR w v l) (hm : mayT l = false) : Calls Try.prog 5 #[v, .int .i64 k] w fun e w' => e = .returned (.bool true) ∧ Old w w' := by
  have hg := fun W hW => great_any l v W hW
  have hk := fun W => known_any W
  have c14 := fun W hW => mayT_any l v W hW
  rw [hm] at c14
  have HL := Lib.hid hl
  have HO := Lib.hid (Old.refl w)
  clear hl hm
  go_enter Try.func5, Try.ntmps5
  go_wp2_with (first
    | (go_at_call 8; (with_reducible refine (hg _ HL.out).mono ?_); rintro e0 w0 ⟨b, rfl, hb, rfl⟩; clear hb; cases b)
    | (go_at_call 14; (with_reducible refine (c14 _ HL.out).mono ?_); rintro e6 w6 ⟨rfl, o6⟩; replace HO := Lib.hid (HO.out.trans o6); clear o6)
    | (go_at_call 9; (with_reducible refine (hk _).mono ?_); rintro e1 w1 ⟨rfl, o1⟩; replace HO := Lib.hid (HO.out.trans o1); clear o1))
  all_goals (go_ret; exact ⟨rfl, HO.out⟩)

set_option maxHeartbeats 3200000 in
theorem names_yes (l : List Tp) (v : Value) (k : Int) (w : World) (hl : TR w v l) (hm : mayT l = true) : Calls Try.prog 5 #[v, .int .i64 k] w fun e w' => e = .returned (.bool true) ∧ Old w w' := by
  have hg := fun W hW => great_any l v W hW
  have hk := fun W => known_any W
  have c14 := fun W hW => mayT_any l v W hW
  rw [hm] at c14
  have HL := Lib.hid hl
  have HL0 := Lib.hid hl
  have HO := Lib.hid (Old.refl w)
  have HM := Lib.hid hm
  have h16 : l.length ≤ 16 := by
    unfold mayT at hm
    rw [Bool.and_eq_true, decide_eq_true_eq] at hm
    exact hm.1
  obtain ⟨oa, c, rfl, a1, a2, a3⟩ := hl
  obtain ⟨N, hN⟩ : ∃ n, n = l.length := ⟨_, rfl⟩
  rw [← hN] at a1 HL HL0 hg c14 h16 ⊢
  unfold maxLen at a2
  have HN := Lib.hid hN
  have HA := Lib.hid a3
  obtain ⟨m, hm1, hm2⟩ := rest_at k ((N : Int) + 1) (by omega) (by omega)
  have hmN : m ≤ N := by omega
  have HT := Lib.hid ((HL.out.take hN hmN))
  have c14' := fun W hW => mayT_any (l.take m) (.slice oa m c) W hW
  rw [may_take hm m] at c14'
  have hmc : (m : Int) ≤ (c : Int) := by omega
  clear hN a3 hm
  go_enter Try.func5, Try.ntmps5
  go_wp2_with (first
    | (go_at_call 8; (with_reducible refine (hg _ HL.out).mono ?_); rintro e0 w0 ⟨b, rfl, hb, rfl⟩; clear hb; cases b)
    | (go_at_call 14; (with_reducible refine (c14 _ HL.out).mono ?_); rintro e6 w6 ⟨rfl, o6⟩; replace HO := Lib.hid (HO.out.trans o6); replace HT := Lib.hid (HT.out.old o6); clear o6 c14)
    | (go_at_call 14; (with_reducible refine (c14' _ HT.out).mono ?_); rintro e7 w7 ⟨rfl, o7⟩; replace HO := Lib.hid (HO.out.trans o7); clear o7 c14')
    | (go_at_call 9; (with_reducible refine (hk _).mono ?_); rintro e1 w1 ⟨rfl, o1⟩; replace HO := Lib.hid (HO.out.trans o1); clear o1))
  · clear hg hm1 hm2 hmc HT hmN
    obtain ⟨wl, hwl⟩ : ∃ wl : World, wl = w7 := ⟨_, rfl⟩
    rw [← hwl] at HO
    subst hwl
    go_loopw [36] (fun i wr => ∃ k : Nat, k ≤ N ∧ i = .int .i64 (k : Int) ∧ Hid (Old w wr)) (fun i _ => (N - intOf i).toNat)
    case atStart => exact ⟨0, Nat.zero_le _, rfl, HO⟩
    case round =>
      clear HO
      obtain ⟨k, hkk, rfl, HW⟩ := hrel
      by_cases hkn : k < N
      · obtain ⟨x, hx⟩ : ∃ x, l[k]? = some x := ⟨l[k]'(by rw [← HN.out]; exact hkn), List.getElem?_eq_getElem _⟩
        obtain ⟨t1, t2, t3, t4, t5⟩ := temp_is HM.out hx
        obtain ⟨xn, xv, xl⟩ := x
        obtain ⟨g, o, rfl, hgl, c0, c1, hss, hsr⟩ := HA.out k _ hx
        obtain ⟨sa, sc, hv, b1, b2, b3⟩ := id hsr
        obtain ⟨M, hM⟩ : ∃ M, M = xl.length := ⟨_, rfl⟩
        simp only at hv hsr c0 c1 b1 b2 b3 t1 t2 t3 t4 t5
        rw [← hM] at hv b1 t2 t3
        unfold maxLen at b2
        subst hv
        have HMX := Lib.hid hM
        have HB := Lib.hid b3
        have HSB := Lib.hid t4
        have HK := Lib.hid hk
        have d0 := (HW.out.cell hgl).trans c0
        have d1 := (HW.out.cell hgl).trans c1
        have HP := Lib.hid ((Old.refl wr).alloc (.cells #[.string xn, .slice sa M sc] 33))
        have HT := Lib.hid (Two.new wr (.string xn) (.slice sa M sc) 33)
        have HL2 := Lib.hid (HL0.out.old (HW.out.trans HP.out))
        have HSR := Lib.hid (hsr.old (HW.out.trans HP.out))
        have HWP := Lib.hid (HW.out.trans HP.out)
        have c12 := fun W => nm_any xn W
        rw [t1] at c12
        have c16 := fun W hW => find_any l (.slice (some ⟨g, o, none⟩) N c) xn W hW
        rw [t5] at c16
        clear hM b3 hx hss hsr c0 c1 hgl t1 t4 t5
        go_wp2_with (first
          | (go_at_call 12; (with_reducible refine (c12 _).mono ?_); rintro e1 w1 ⟨rfl, o1⟩; replace HWP := Lib.hid (HWP.out.trans o1); replace HT := Lib.hid (HT.out.old o1); replace HL2 := Lib.hid (HL2.out.old o1); replace HSR := Lib.hid (HSR.out.old o1); have q0 := HT.out.c0; have q1 := HT.out.c1; clear o1)
          | (go_at_call 16; (with_reducible refine (c16 _ HL2.out).mono ?_); rintro e2 w2 ⟨rfl, o2⟩; replace HWP := Lib.hid (HWP.out.trans o2); replace HT := Lib.hid (HT.out.old o2); replace HSR := Lib.hid (HSR.out.old o2); have r0 := HT.out.c0; have r1 := HT.out.c1; clear o2))
        clear d0 d1 q0 q1 r0 r1 c12 c16
        obtain ⟨wo, hwo⟩ : ∃ wo : World, wo = wr := ⟨_, rfl⟩
        have HBX : Hid (wr.heap.size = wo.heap.size) := Lib.hid (by rw [hwo])
        clear hwo
        obtain ⟨bx, hbx⟩ : ∃ bx : Nat, bx = wr.heap.size := ⟨_, rfl⟩
        rw [← hbx] at HT ⊢
        clear hbx HBX HP
        go_loopw [68] (fun i wi => ∃ j : Nat, j ≤ M ∧ i = .int .i64 (j : Int) ∧ Hid (Old w2 wi)) (fun i _ => (M - intOf i).toNat)
        case atStart => exact ⟨0, Nat.zero_le _, rfl, Lib.hid (Old.refl _)⟩
        case round =>
          obtain ⟨j, hjm, rfl, HI⟩ := hrel
          have T := Lib.hid (HT.out.old HI.out)
          have q0 := T.out.c0
          have q1 := T.out.c1
          by_cases hj : j < M
          · obtain ⟨y, hy⟩ : ∃ y, xl[j]? = some y := ⟨xl[j]'(by rw [← HMX.out]; exact hj), List.getElem?_eq_getElem _⟩
            obtain ⟨u1, u2, u3⟩ := slot_is HSB.out hy
            obtain ⟨yn, yk⟩ := y
            obtain ⟨sg, so, rfl, hsg, s0, s1, hs⟩ := HB.out j _ hy
            simp only at s0 s1 hs u1 u2 u3
            have HWI := Lib.hid (HWP.out.trans HI.out)
            have p0 := (HWI.out.cell hsg).trans s0
            have p1 := (HWI.out.cell hsg).trans s1
            have HP := Lib.hid ((Old.refl wr).alloc (.cells #[.string yn, .int .u8 yk] 41))
            have HU := Lib.hid (Two.new wr (.string yn) (.int .u8 yk) 41)
            have T2 := Lib.hid (T.out.old HP.out)
            have S2 := Lib.hid ((HSR.out.old HI.out).old HP.out)
            have HWJ := Lib.hid (HI.out.trans HP.out)
            have c12 := fun W => nm_any yn W
            rw [u1] at c12
            have c20 := fun W hW => slot_any xl xn (.slice (some ⟨sg, so, none⟩) M sc) yn W hW
            rw [u3] at c20
            have c18 := fun W => kn_any yk W
            obtain ⟨S, hS⟩ : ∃ S, S = kn yk := ⟨_, rfl⟩
            have e1 : S.toList.isEmpty = false := by
              rw [kB_kn, ← hS] at u2
              simpa using u2
            have e2 : ¬ S.toList = [] := by
              intro e
              rw [e] at e1
              cases e1
            rw [← hS] at c18
            clear hS hy hsg s0 s1 hs u1 u2 u3
            go_wp2_with (first
              | (go_at_call 12; (with_reducible refine (c12 _).mono ?_); rintro e1 w3 ⟨rfl, o1⟩; replace HWJ := Lib.hid (HWJ.out.trans o1); replace HU := Lib.hid (HU.out.old o1); replace T2 := Lib.hid (T2.out.old o1); replace S2 := Lib.hid (S2.out.old o1); have v0 := HU.out.c0; have v1 := HU.out.c1; have t0 := T2.out.c0; have t1 := T2.out.c1; clear o1)
              | (go_at_call 20; (with_reducible refine (c20 _ S2.out).mono ?_); rintro e2 w4 ⟨rfl, o2⟩; replace HWJ := Lib.hid (HWJ.out.trans o2); replace HU := Lib.hid (HU.out.old o2); have v2 := HU.out.c0; have v3 := HU.out.c1; clear o2)
              | (go_at_call 18; (with_reducible refine (c18 _).mono ?_); rintro e3 w5 ⟨rfl, rfl⟩))
            first
              | refine ⟨⟨j + 1, hj, rfl, HWJ⟩, by simp only [intOf]; omega⟩
              | refine ⟨⟨j + 1, hj, by omega⟩, by simp only [intOf]; omega⟩
          · have hj' : j = M := by omega
            subst hj'
            have HQ := Lib.hid (HWP.out.trans HI.out)
            go_wp2_with fail
            first
              | refine ⟨⟨k + 1, hkn, rfl, HQ⟩, by simp only [intOf]; omega⟩
              | refine ⟨⟨k + 1, hkn, by omega⟩, by simp only [intOf]; omega⟩
      · have hkn' : k = N := by omega
        subst hkn'
        go_wp2_with (go_at_call 9; (with_reducible refine (hk _).mono ?_); rintro e1 w1 ⟨rfl, o1⟩)
        go_ret
        exact ⟨rfl, HW.out.trans o1⟩
  · go_ret
    exact ⟨rfl, HO.out⟩
theorem names_all (l : List Tp) (v : Value) (k : Int) (w : World) (hl : TR w v l) : Calls Try.prog 5 #[v, .int .i64 k] w fun e w' => e = .returned (.bool true) ∧ Old w w' := by
  cases hm : mayT l
  · exact names_no l v k w hl hm
  · exact names_yes l v k w hl hm
end Go.Proofs.Ytcedcfkjoppjdaa
