/- Layer template: which templates may be. -/
import Derived.Test.YtcedcfkjoppjdaaNG
namespace Go.Proofs.Ytcedcfkjoppjdaa
open Go.ChangeShapes Go.WideShapes Go.ChangeAt Go.RowKit
set_option linter.unusedVariables false
set_option linter.unusedSimpArgs false
set_option maxRecDepth 100000

/-- The template at k is one that may be there. -/
def tAt (l : List Tp) (k : Nat) (x : Tp) : Bool := tB x.n x.l && (ix (tnames l) x.n == (k : Int))
def tTo (l : List Tp) : Nat → Bool
  | 0 => true
  | k + 1 => tTo l k && (match l[k]? with | some x => tAt l k x | none => false)
theorem tTo_next {l : List Tp} {k : Nat} {x : Tp} (h : tTo l k = true) (hx : l[k]? = some x) (hs : tAt l k x = true) : tTo l (k + 1) = true := by
  rw [tTo, h, hx]; exact hs
theorem tTo_no {l : List Tp} {k : Nat} {x : Tp} (hx : l[k]? = some x) (hs : tAt l k x = false) : ∀ n, k < n → tTo l n = false
  | 0, h => absurd h (Nat.not_lt_zero _)
  | n + 1, h => by
    rw [tTo]
    rcases Nat.lt_or_eq_of_le (Nat.le_of_lt_succ h) with h | h
    · rw [tTo_no hx hs n h]; rfl
    · subst h; rw [hx]; simp only [hs, Bool.and_false]
def mayT (l : List Tp) : Bool := decide (l.length ≤ 16) && tTo l l.length

set_option maxHeartbeats 1600000 in
theorem mayT_any (l : List Tp) (v : Value) (w : World) (hl : TR w v l) : Calls Try.prog 14 #[v] w fun e w' => e = .returned (.bool (mayT l)) ∧ Old w w' := by
  have hl' := Lib.hid hl
  obtain ⟨oa, c, rfl, a1, a2, a3⟩ := hl
  obtain ⟨N, hN⟩ : ∃ n, n = l.length := ⟨_, rfl⟩
  unfold mayT
  rw [← hN] at a1 hl' ⊢
  unfold maxLen at a2
  have HN := Lib.hid hN
  have HA := Lib.hid a3
  clear hN a3
  by_cases h16 : N ≤ 16
  · rw [decide_eq_true h16, Bool.true_and]
    have hk := fun W => asker_any W
    go_enter Try.func14, Try.ntmps14
    go_wp2_with (go_at_call 25; (with_reducible refine (hk _).mono ?_); rintro e w0 ⟨b, rfl, hB, o0⟩; have HB := Lib.hid hB; have HO := Lib.hid o0; clear hB o0 hk)
    go_loopw [12] (fun i wr => ∃ k : Nat, k ≤ N ∧ i = .int .i64 (k : Int) ∧ Hid (tTo l k = true) ∧ Hid (Old w0 wr)) (fun i _ => (N - intOf i).toNat)
    case atStart => exact ⟨0, Nat.zero_le _, rfl, Lib.hid rfl, Lib.hid (Old.refl w0)⟩
    case round =>
      obtain ⟨k, hk, rfl, HS, HW⟩ := hrel
      by_cases hkn : k < N
      · obtain ⟨x, hx⟩ : ∃ x, l[k]? = some x := ⟨l[k]'(by rw [← HN.out]; exact hkn), List.getElem?_eq_getElem _⟩
        obtain ⟨xn, xv, xl⟩ := x
        obtain ⟨g, o, rfl, hgl, c0, c1, hs, hsr⟩ := HA.out k _ hx
        obtain ⟨sa, sc, hv, _⟩ := id hsr
        obtain ⟨M, hM⟩ : ∃ M, M = xl.length := ⟨_, rfl⟩
        simp only at hv hsr c0 c1 hs
        rw [← hM] at hv
        subst hv
        clear hM
        have HWW := Lib.hid (HO.out.trans HW.out)
        have d0 := (HWW.out.cell hgl).trans c0
        have d1 := (HWW.out.cell hgl).trans c1
        have HX := Lib.hid hx
        have HP := Lib.hid ((Old.refl wr).alloc (.cells #[.string xn, (.slice sa M sc)] 33))
        have HB2 := Lib.hid ((HB.out.old HW.out).old HP.out)
        have hl2 := Lib.hid ((hl'.out.old HWW.out).old HP.out)
        have hs2 := Lib.hid ((hsr.old HWW.out).old HP.out)
        clear c0 c1 hs hx hgl hsr
        have HU := Lib.hid (Two.new wr (.string xn) (.slice sa M sc) 33)
        have hm := fun b W h1 h2 => tmay_any xn (.slice sa M sc) xl b W h1 h2
        have hf := fun W hW => find_any l (.slice (some ⟨g, o, none⟩) N c) xn W hW
        obtain ⟨r, hr⟩ : ∃ r, r = ix (tnames l) xn := ⟨_, rfl⟩
        rw [← hr] at hf
        have HR := Lib.hid hr
        clear hr
        cases hE : tB xn xl
        · have HE := Lib.hid hE
          rw [hE] at hm
          clear hE
          have HF := Lib.hid (show tTo l N = false from tTo_no HX.out (by unfold tAt; rw [HE.out]; rfl) _ hkn)
          go_wp2_with (go_at_call 28; (with_reducible refine (hm _ _ hs2.out HB2.out).mono ?_); rintro e w1 ⟨rfl, o1⟩; have HO1 := Lib.hid o1; clear o1)
          go_ret
          exact ⟨rb _ _ HF.out.symm, (HWW.out.trans HP.out).trans HO1.out⟩
        · have HE := Lib.hid hE
          rw [hE] at hm
          clear hE
          by_cases hri : r = (k : Int)
          · subst hri
            go_wp2_with (first
              | (go_at_call 28; (with_reducible refine (hm _ _ hs2.out HB2.out).mono ?_); rintro e w1 ⟨rfl, o1⟩; have HO1 := Lib.hid o1; have U := Lib.hid (HU.out.old o1); have hl3 := Lib.hid (hl2.out.old o1); clear o1; have u0 := U.out.c0; have u1 := U.out.c1)
              | (go_at_call 16; (with_reducible refine (hf _ hl3.out).mono ?_); rintro e w3 ⟨rfl, o3⟩; have HO3 := Lib.hid o3; clear o3))
            refine ⟨⟨k + 1, hkn, rfl, Lib.hid (tTo_next HS.out HX.out (by unfold tAt; rw [HE.out, ← HR.out]; simp)), Lib.hid (((HW.out.trans HP.out).trans HO1.out).trans HO3.out)⟩, by simp only [intOf]; omega⟩
          · have hne := u8_ne hri
            have HF := Lib.hid (show tTo l N = false from tTo_no HX.out (by unfold tAt; rw [HE.out, ← HR.out]; simpa using hri) _ hkn)
            clear hri
            go_wp2_with (first
              | (go_at_call 28; (with_reducible refine (hm _ _ hs2.out HB2.out).mono ?_); rintro e w1 ⟨rfl, o1⟩; have HO1 := Lib.hid o1; have U := Lib.hid (HU.out.old o1); have hl3 := Lib.hid (hl2.out.old o1); clear o1; have u0 := U.out.c0; have u1 := U.out.c1)
              | (go_at_call 16; (with_reducible refine (hf _ hl3.out).mono ?_); rintro e w3 ⟨rfl, o3⟩; have HO3 := Lib.hid o3; clear o3))
            go_ret
            exact ⟨rb _ _ HF.out.symm, ((HWW.out.trans HP.out).trans HO1.out).trans HO3.out⟩
      · have hkn' : k = N := by omega
        subst hkn'
        go_wp2_with fail
        go_ret
        exact ⟨rb _ _ HS.out.symm, HO.out.trans HW.out⟩
  · rw [decide_eq_false h16, Bool.false_and]
    go_enter Try.func14, Try.ntmps14
    go_wp2_with fail
    go_ret
    exact ⟨rfl, Old.refl w⟩
end Go.Proofs.Ytcedcfkjoppjdaa
