/- Layer template: which template may be. -/
import Derived.Test.YtcedcfkjoppjdaaNF
namespace Go.Proofs.Ytcedcfkjoppjdaa
open Go.ChangeShapes Go.WideShapes Go.ChangeAt Go.RowKit
set_option linter.unusedVariables false
set_option linter.unusedSimpArgs false
set_option maxRecDepth 100000

/-- The slot at k is one that may be. -/
def sAt (l : List Sl) (k : Nat) (x : Sl) : Bool := nmB x.n && kB x.k && (ix (snames l) x.n == (k : Int))
def slTo (l : List Sl) : Nat → Bool
  | 0 => true
  | k + 1 => slTo l k && (match l[k]? with | some x => sAt l k x | none => false)
def slB (l : List Sl) : Bool := slTo l l.length
theorem slTo_next {l : List Sl} {k : Nat} {x : Sl} (h : slTo l k = true) (hx : l[k]? = some x) (hs : sAt l k x = true) : slTo l (k + 1) = true := by
  rw [slTo, h, hx]; exact hs
theorem slTo_no {l : List Sl} {k : Nat} {x : Sl} (hx : l[k]? = some x) (hs : sAt l k x = false) : ∀ n, k < n → slTo l n = false
  | 0, h => absurd h (Nat.not_lt_zero _)
  | n + 1, h => by
    rw [slTo]
    rcases Nat.lt_or_eq_of_le (Nat.le_of_lt_succ h) with h | h
    · rw [slTo_no hx hs n h]; rfl
    · subst h; rw [hx]; simp only [hs, Bool.and_false]
def tB (n : ByteArray) (l : List Sl) : Bool := nmB n && (decide (1 ≤ l.length) && decide (l.length ≤ 8)) && slB l
theorem u8_ne {a b : Int} (h : ¬ a = b) : (a != b) = true := by simpa using h

set_option maxHeartbeats 1600000 in
theorem tmay_loop (n : ByteArray) (v : Value) (l : List Sl) (b : Nat) (N : Nat) (hN : N = l.length) (h1 : 1 ≤ N) (h8 : N ≤ 8) (hn : nmB n = true) (w : World) (hl : SR w v l) (hb : AskIn w b) : Calls Try.prog 28 #[tv n v, askV b] w fun e w' => e = .returned (.bool (slB l)) ∧ Old w w' := by
  have HO := Lib.hid ((Old.refl w).alloc (.cells #[.string n, v] 33))
  have hl' := Lib.hid (hl.old HO.out)
  have HT := Lib.hid (Two.new w (.string n) v 33)
  have HB := Lib.hid (hb.old HO.out)
  have ha := fun b W hW => ask_any n b W hW
  rw [hn] at ha
  obtain ⟨oa, c, rfl, a1, a2, a3⟩ := hl
  rw [← hN] at a1 HT HO hl' HB ⊢
  unfold maxLen at a2
  have HN := Lib.hid hN
  have HA := Lib.hid a3
  clear hN a3 hb hn
  go_enter Try.func28, Try.ntmps28
  go_wp2_with (go_at_call 36; (with_reducible refine (ha _ _ HB.out).mono ?_); rintro e w0 ⟨rfl, o0⟩; replace HT := Lib.hid (HT.out.old o0); replace HB := Lib.hid (HB.out.old o0); replace HO := Lib.hid (HO.out.trans o0); replace hl' := Lib.hid (hl'.out.old o0); have c0 := HT.out.c0; have c1 := HT.out.c1; clear o0)
  clear ha
  go_loopw [27] (fun i wr => ∃ k : Nat, k ≤ N ∧ i = .int .i64 (k : Int) ∧ Hid (slTo l k = true) ∧ Hid (Old w0 wr)) (fun i _ => (N - intOf i).toNat)
  case atStart => exact ⟨0, Nat.zero_le _, rfl, Lib.hid rfl, Lib.hid (Old.refl w0)⟩
  case round =>
    clear c0 c1
    obtain ⟨k, hk, rfl, HS, HW⟩ := hrel
    by_cases hkn : k < N
    · obtain ⟨x, hx⟩ : ∃ x, l[k]? = some x := ⟨l[k]'(by rw [← HN.out]; exact hkn), List.getElem?_eq_getElem _⟩
      obtain ⟨g, o, rfl, hgl, c0, c1, hs⟩ := HA.out k x hx
      have HWW := Lib.hid (HO.out.trans HW.out)
      have d0 := (HWW.out.cell hgl).trans c0
      have d1 := (HWW.out.cell hgl).trans c1
      have HX := Lib.hid hx
      clear c0 c1 hs hx hgl
      have HT1 := Lib.hid (HT.out.old HW.out)
      have HB1 := Lib.hid (HB.out.old HW.out)
      have hl1 := Lib.hid (hl'.out.old HW.out)
      have HP := Lib.hid ((Old.refl wr).alloc (.cells #[.string x.n, .int .u8 x.k] 41))
      have HB2 := Lib.hid (HB1.out.old HP.out)
      have HT2 := Lib.hid (HT1.out.old HP.out)
      have hl2 := Lib.hid (hl1.out.old HP.out)
      have HU := Lib.hid (Two.new wr (.string x.n) (.int .u8 x.k) 41)
      have ha := fun b W hW => ask_any x.n b W hW
      have hq := fun W => isK_any x.k W
      have hp := fun W hW => slot_any l n (.slice (some ⟨g, o, none⟩) N c) x.n W hW
      obtain ⟨r, hr⟩ : ∃ r, r = ix (snames l) x.n := ⟨_, rfl⟩
      rw [← hr] at hp
      have HR := Lib.hid hr
      clear hr
      cases hE : nmB x.n
      · have HE := Lib.hid hE
        rw [hE] at ha
        clear hE
        have e : slB l = false := slTo_no HX.out (by unfold sAt; rw [HE.out]; rfl) _ (by rw [← HN.out]; exact hkn)
        have HF := Lib.hid e
        clear e
        go_wp2_with (go_at_call 36; (with_reducible refine (ha _ _ HB2.out).mono ?_); rintro e w1 ⟨rfl, o1⟩; have HO1 := Lib.hid o1; have U := Lib.hid (HU.out.old o1); have T := Lib.hid (HT2.out.old o1); clear o1; have u0 := U.out.c0; have u1 := U.out.c1; have t0 := T.out.c0; have t1 := T.out.c1)
        go_ret
        exact ⟨rb _ _ HF.out.symm, (HWW.out.trans HP.out).trans HO1.out⟩
      · rw [hE] at ha
        have HE := Lib.hid hE
        clear hE
        cases hK : kB x.k
        · have HK := Lib.hid hK
          rw [hK] at hq
          clear hK
          have e : slB l = false := slTo_no HX.out (by unfold sAt; rw [HE.out, HK.out]; rfl) _ (by rw [← HN.out]; exact hkn)
          have HF := Lib.hid e
          clear e
          go_wp2_with (first
            | (go_at_call 36; (with_reducible refine (ha _ _ HB2.out).mono ?_); rintro e w1 ⟨rfl, o1⟩; have HO1 := Lib.hid o1; have U := Lib.hid (HU.out.old o1); have T := Lib.hid (HT2.out.old o1); clear o1; have u0 := U.out.c0; have u1 := U.out.c1; have t0 := T.out.c0; have t1 := T.out.c1)
            | (go_at_call 38; (with_reducible refine (hq _).mono ?_); rintro e w2 ⟨rfl, rfl⟩))
          go_ret
          exact ⟨rb _ _ HF.out.symm, (HWW.out.trans HP.out).trans HO1.out⟩
        · rw [hK] at hq
          have HK := Lib.hid hK
          clear hK
          by_cases hri : r = (k : Int)
          · subst hri
            go_wp2_with (first
              | (go_at_call 36; (with_reducible refine (ha _ _ HB2.out).mono ?_); rintro e w1 ⟨rfl, o1⟩; have HO1 := Lib.hid o1; have U := Lib.hid (HU.out.old o1); have T := Lib.hid (HT2.out.old o1); have hl3 := Lib.hid (hl2.out.old o1); clear o1; have u0 := U.out.c0; have u1 := U.out.c1; have t0 := T.out.c0; have t1 := T.out.c1)
              | (go_at_call 38; (with_reducible refine (hq _).mono ?_); rintro e w2 ⟨rfl, rfl⟩)
              | (go_at_call 20; (with_reducible refine (hp _ hl3.out).mono ?_); rintro e w3 ⟨rfl, o3⟩; have HO3 := Lib.hid o3; clear o3))
            refine ⟨⟨k + 1, hkn, rfl, Lib.hid (slTo_next HS.out HX.out (by unfold sAt; rw [HE.out, HK.out, ← HR.out]; simp)), Lib.hid (((HW.out.trans HP.out).trans HO1.out).trans HO3.out)⟩, by simp only [intOf]; omega⟩
          · have hne := u8_ne hri
            have e : slB l = false := slTo_no HX.out (by unfold sAt; rw [HE.out, HK.out, ← HR.out]; simpa using hri) _ (by rw [← HN.out]; exact hkn)
            have HF := Lib.hid e
            clear e hri
            go_wp2_with (first
              | (go_at_call 36; (with_reducible refine (ha _ _ HB2.out).mono ?_); rintro e w1 ⟨rfl, o1⟩; have HO1 := Lib.hid o1; have U := Lib.hid (HU.out.old o1); have T := Lib.hid (HT2.out.old o1); have hl3 := Lib.hid (hl2.out.old o1); clear o1; have u0 := U.out.c0; have u1 := U.out.c1; have t0 := T.out.c0; have t1 := T.out.c1)
              | (go_at_call 38; (with_reducible refine (hq _).mono ?_); rintro e w2 ⟨rfl, rfl⟩)
              | (go_at_call 20; (with_reducible refine (hp _ hl3.out).mono ?_); rintro e w3 ⟨rfl, o3⟩; have HO3 := Lib.hid o3; clear o3))
            go_ret
            exact ⟨rb _ _ HF.out.symm, ((HWW.out.trans HP.out).trans HO1.out).trans HO3.out⟩
    · have hkn' : k = N := by omega
      subst hkn'
      go_wp2_with fail
      go_ret
      exact ⟨rb _ _ (by unfold slB; rw [← HN.out]; exact HS.out.symm), HO.out.trans HW.out⟩

theorem tmay_any (n : ByteArray) (v : Value) (l : List Sl) (b : Nat) (w : World) (hl : SR w v l) (hb : AskIn w b) : Calls Try.prog 28 #[tv n v, askV b] w fun e w' => e = .returned (.bool (tB n l)) ∧ Old w w' := by
  unfold tB
  cases hn : nmB n
  · rw [Bool.false_and, Bool.false_and]
    have HO := Lib.hid ((Old.refl w).alloc (.cells #[.string n, v] 33))
    have HT := Lib.hid (Two.new w (.string n) v 33)
    have HB := Lib.hid (hb.old HO.out)
    have ha := fun b W hW => ask_any n b W hW
    rw [hn] at ha
    clear hn hb hl
    go_enter Try.func28, Try.ntmps28
    go_wp2_with (go_at_call 36; (with_reducible refine (ha _ _ HB.out).mono ?_); rintro e w0 ⟨rfl, o0⟩; replace HO := Lib.hid (HO.out.trans o0); clear o0)
    go_ret
    exact ⟨rfl, HO.out⟩
  · rw [Bool.true_and]
    obtain ⟨N, hN⟩ : ∃ N, N = l.length := ⟨_, rfl⟩
    by_cases hb8 : 1 ≤ N ∧ N ≤ 8
    · rw [← hN, decide_eq_true hb8.1, decide_eq_true hb8.2, Bool.true_and, Bool.true_and]
      exact tmay_loop n v l b N hN hb8.1 hb8.2 hn w hl hb
    · have e : (decide (1 ≤ l.length) && decide (l.length ≤ 8)) = false := by
        rw [← hN]
        by_cases h : 1 ≤ N
        · rw [decide_eq_false (p := N ≤ 8) (by omega), Bool.and_false]
        · rw [decide_eq_false h]; rfl
      rw [e, Bool.false_and]
      clear e
      obtain ⟨oa, c, rfl, a1, a2, a3⟩ := hl
      rw [← hN]
      rw [← hN] at a1
      unfold maxLen at a2
      have HO := Lib.hid ((Old.refl w).alloc (.cells #[.string n, .slice oa N c] 33))
      have HT := Lib.hid (Two.new w (.string n) (.slice oa N c) 33)
      have HB := Lib.hid (hb.old HO.out)
      have ha := fun b W hW => ask_any n b W hW
      rw [hn] at ha
      clear hn hb a3 hN
      have hc : N = 0 ∨ 8 < N := by omega
      clear hb8
      rcases hc with h | h
      · subst h
        go_enter Try.func28, Try.ntmps28
        go_wp2_with (go_at_call 36; (with_reducible refine (ha _ _ HB.out).mono ?_); rintro e w0 ⟨rfl, o0⟩; replace HT := Lib.hid (HT.out.old o0); replace HO := Lib.hid (HO.out.trans o0); have c0 := HT.out.c0; have c1 := HT.out.c1; clear o0)
        go_ret
        exact ⟨rfl, HO.out⟩
      · go_enter Try.func28, Try.ntmps28
        go_wp2_with (go_at_call 36; (with_reducible refine (ha _ _ HB.out).mono ?_); rintro e w0 ⟨rfl, o0⟩; replace HT := Lib.hid (HT.out.old o0); replace HO := Lib.hid (HO.out.trans o0); have c0 := HT.out.c0; have c1 := HT.out.c1; clear o0)
        go_ret
        exact ⟨rfl, HO.out⟩
end Go.Proofs.Ytcedcfkjoppjdaa
