/- The document's own numbers: digits compared, and taken away. -/
import Derived.Test.YtcedcfkjoppjdaaGreatDoorRA
namespace Go.Proofs.YtcedcfkjoppjdaaGreatDoor
open Go.ChangeShapes Go.WideShapes Go.ChangeAt Go.RowKit
set_option linter.unusedVariables false

/-- It returns a number on that side of 0 on which x less y is. -/
def RetC (w : World) (x y : Int) (e : Ending) (w' : World) : Prop := ∃ r : Int, e = .returned (.int .i64 r) ∧ (r < 0 ↔ x < y) ∧ (0 < r ↔ y < x) ∧ Old w w'
theorem retC {w w1 : World} {x y r : Int} (h1 : r < 0 ↔ x < y) (h2 : 0 < r ↔ y < x) (ho : Old w w1) : RetC w x y (.returned (.int .i64 r)) w1 := ⟨r, rfl, h1, h2, ho⟩

theorem drop_eq {a b : List Int} {k : Nat} (ha : k < a.length) (hb : k < b.length) (h : a.drop (k + 1) = b.drop (k + 1)) (hk : a.getD k 0 = b.getD k 0) : a.drop k = b.drop k := by
  rw [List.drop_eq_getElem_cons ha, List.drop_eq_getElem_cons hb, h]
  congr 1
  rw [List.getD_eq_getElem?_getD, List.getD_eq_getElem?_getD, List.getElem?_eq_getElem ha, List.getElem?_eq_getElem hb] at hk
  exact hk

set_option maxHeartbeats 1600000 in
set_option maxRecDepth 100000 in
theorem by_any (a b : List Int) (va vb : Value) (w : World) (ha : Rd w va a) (hb : Rd w vb b) (da : Dg a) (db : Dg b) (ca : Can a) (cb : Can b) (la : a.length ≤ 2000) (lb : b.length ≤ 2000) :
    Calls Tryz.prog 94 #[va, vb] w (RetC w (val a) (val b)) := by
  obtain ⟨oa, c1, rfl, a1, a2, a3⟩ := ha
  obtain ⟨ob, c2, rfl, b1, b2, b3⟩ := hb
  by_cases hne : a.length = b.length
  · obtain ⟨n, hn⟩ : ∃ n, n = a.length := ⟨_, rfl⟩
    rw [← hne, ← hn]
    rw [← hn] at la hne a1 a3
    rw [← hne] at lb b1 b3
    have HN := Lib.hid hn
    have HN' := Lib.hid hne
    clear hn hne
    go_enter Tryz.func94, Tryz.ntmps94
    go_wp2
    go_loopw [5] (fun i wr => ∃ k : Nat, k ≤ n ∧ i = .int .i64 ((k : Int) - 1) ∧ Hid (a.drop k = b.drop k) ∧ Hid (∃ q, wr = w.drewN q)) (fun i _ => (intOf i + 1).toNat)
    case atStart => exact ⟨n, Nat.le_refl _, rfl, by show a.drop n = b.drop n; rw [List.drop_eq_nil_of_le (by rw [HN.out]; exact Nat.le_refl _), List.drop_eq_nil_of_le (by rw [HN'.out]; exact Nat.le_refl _)], ⟨0, rfl⟩⟩
    case round =>
      obtain ⟨k, hk, rfl, HE, HQ⟩ := hrel
      obtain ⟨q0, rfl⟩ := HQ.out
      rcases k with _ | k
      · have e : a = b := by have := HE.out; rw [List.drop_zero, List.drop_zero] at this; exact this
        have E := Lib.hid e
        clear e
        go_wp2
        go_ret
        exact retC (by rw [E.out]; omega) (by rw [E.out]; omega) ((Old.refl _).drewN _)
      · obtain ⟨g, rfl, hgl, hcell⟩ := a3 k (by omega)
        obtain ⟨g', rfl, hgl', hcell'⟩ := b3 k (by omega)
        obtain ⟨x, hx⟩ : ∃ x, x = a.getD k 0 := ⟨_, rfl⟩
        obtain ⟨y, hy⟩ : ∃ y, y = b.getD k 0 := ⟨_, rfl⟩
        rw [← hx] at hcell
        rw [← hy] at hcell'
        have HX := Lib.hid hx
        have HY := Lib.hid hy
        clear hx hy a3 b3
        by_cases hxy : x = y
        · subst hxy
          go_wp2
          go_quiet (fail)
          go_wp2
          have HE' := Lib.hid (drop_eq (k := k) (by have := HN.out; omega) (by have := HN'.out; omega) HE.out (HX.out.symm.trans HY.out))
          exact ⟨⟨k, by omega, rfl, HE', ⟨_, rfl⟩⟩, by simp [intOf]⟩
        · have hxy1 : (x == y) = false := by simpa using hxy
          have dx := dg_getD da k
          have dy := dg_getD db k
          rw [← HX.out] at dx
          rw [← HY.out] at dy
          have HL := Lib.hid (fun h : x < y => digit_lt da db HE.out (by rw [← HX.out, ← HY.out]; exact h))
          have HG := Lib.hid (fun h : y < x => digit_lt db da HE.out.symm (by rw [← HX.out, ← HY.out]; exact h))
          go_wp2
          go_quiet (fail)
          go_wp2
          go_quiet (fail)
          go_wp2
          go_ret
          refine retC ?_ ?_ ((((Old.refl _).drewN _).drewN _).drewN _)
          · constructor
            · intro h; exact HL.out (by omega)
            · intro h
              rcases Int.lt_or_gt_of_ne hxy with h1 | h1
              · omega
              · have := HG.out h1; omega
          · constructor
            · intro h; exact HG.out (by omega)
            · intro h
              rcases Int.lt_or_gt_of_ne hxy with h1 | h1
              · have := HL.out h1; omega
              · omega
  · have HL := Lib.hid (fun h : a.length < b.length => len_lt da db cb h)
    have HG := Lib.hid (fun h : b.length < a.length => len_lt db da ca h)
    clear a3 b3
    have hne' : ((a.length : Int) == b.length) = false := by
      have : ¬ (a.length : Int) = b.length := by omega
      simpa using this
    go_enter Tryz.func94, Tryz.ntmps94
    go_wp2
    go_ret
    refine retC ?_ ?_ (Old.refl _)
    · constructor
      · intro h; exact HL.out (by omega)
      · intro h
        rcases Nat.lt_or_gt_of_ne hne with h1 | h1
        · omega
        · have := HG.out h1; omega
    · constructor
      · intro h; exact HG.out (by omega)
      · intro h
        rcases Nat.lt_or_gt_of_ne hne with h1 | h1
        · have := HL.out h1; omega
        · omega

end Go.Proofs.YtcedcfkjoppjdaaGreatDoor
