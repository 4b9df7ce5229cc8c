/- Layer value: May. -/
import Derived.Test.YtgmjpcaennmgoaaGreatDoorVO
namespace Go.Proofs.YtgmjpcaennmgoaaGreatDoor
open Go.ChangeShapes Go.WideShapes Go.ChangeAt Go.RowKit
set_option linter.unusedVariables false
set_option maxRecDepth 100000

def mayB (k n : Int) (s : ByteArray) : Bool :=
  if k = 0 then n == 0 && s.toList.isEmpty
  else if k = 1 ∨ k = 2 then s.toList.isEmpty
  else if k = 3 then n == 0 && textB s
  else if k = 4 then (n == 0 || n == 1) && s.toList.isEmpty
  else if k = 5 then n == 0 && nameB s
  else false

theorem may_any (k n : Int) (s : ByteArray) (w : World) : Calls Tryz.prog 132 #[vl k n s] w fun e w' => e = .returned (.bool (mayB k n s)) ∧ Old w w' := by
  unfold mayB
  by_cases h0 : k = 0
  · subst h0
    rw [if_pos rfl]
    by_cases hn : n = 0
    · subst hn
      go_enter Tryz.func132, Tryz.ntmps132
      go_wp2
      go_ret
      exact ⟨rfl, (Old.refl w).alloc _⟩
    · have e : (n == 0) = false := by simpa using hn
      rw [e]
      go_enter Tryz.func132, Tryz.ntmps132
      go_wp2
      go_ret
      exact ⟨rfl, (Old.refl w).alloc _⟩
  rw [if_neg h0]
  by_cases h1 : k = 1 ∨ k = 2
  · rw [if_pos h1]
    rcases h1 with rfl | rfl
    · clear h0
      go_enter Tryz.func132, Tryz.ntmps132
      go_wp2
      go_ret
      exact ⟨rfl, (Old.refl w).alloc _⟩
    · clear h0
      go_enter Tryz.func132, Tryz.ntmps132
      go_wp2
      go_ret
      exact ⟨rfl, (Old.refl w).alloc _⟩
  rw [if_neg h1]
  by_cases h3 : k = 3
  · subst h3
    rw [if_pos rfl]
    clear h0 h1
    by_cases hn : n = 0
    · subst hn
      go_enter Tryz.func132, Tryz.ntmps132
      go_wp2_with (first
        | (go_at_call 146; (with_reducible refine (text_any _ _).mono ?_); rintro e w1 ⟨rfl, ho⟩))
      go_ret
      exact ⟨rfl, ((Old.refl w).alloc _).trans ho⟩
    · have e : (n == 0) = false := by simpa using hn
      rw [e]
      go_enter Tryz.func132, Tryz.ntmps132
      go_wp2
      go_ret
      exact ⟨rfl, (Old.refl w).alloc _⟩
  rw [if_neg h3]
  by_cases h4 : k = 4
  · subst h4
    rw [if_pos rfl]
    clear h0 h1 h3
    by_cases hn : n = 0
    · subst hn
      go_enter Tryz.func132, Tryz.ntmps132
      go_wp2
      go_ret
      exact ⟨rfl, (Old.refl w).alloc _⟩
    · by_cases hn1 : n = 1
      · subst hn1
        go_enter Tryz.func132, Tryz.ntmps132
        go_wp2
        go_ret
        exact ⟨rfl, (Old.refl w).alloc _⟩
      · have e : (n == 0) = false := by simpa using hn
        have e' : (n == 1) = false := by simpa using hn1
        rw [e, e']
        go_enter Tryz.func132, Tryz.ntmps132
        go_wp2
        go_ret
        exact ⟨rfl, (Old.refl w).alloc _⟩
  rw [if_neg h4]
  by_cases h5 : k = 5
  · subst h5
    rw [if_pos rfl]
    clear h0 h1 h3 h4
    by_cases hn : n = 0
    · subst hn
      go_enter Tryz.func132, Tryz.ntmps132
      go_wp2_with (first
        | (go_at_call 147; (with_reducible refine (name_any _ _).mono ?_); rintro e w1 ⟨rfl, ho⟩))
      go_ret
      exact ⟨rfl, ((Old.refl w).alloc _).trans ho⟩
    · have e : (n == 0) = false := by simpa using hn
      rw [e]
      go_enter Tryz.func132, Tryz.ntmps132
      go_wp2
      go_ret
      exact ⟨rfl, (Old.refl w).alloc _⟩
  rw [if_neg h5]
  have h2 : ¬ k = 2 := fun h => h1 (Or.inr h)
  have h1' : ¬ k = 1 := fun h => h1 (Or.inl h)
  clear h1
  go_enter Tryz.func132, Tryz.ntmps132
  go_wp2
  go_ret
  exact ⟨rfl, (Old.refl w).alloc _⟩

end Go.Proofs.YtgmjpcaennmgoaaGreatDoor
