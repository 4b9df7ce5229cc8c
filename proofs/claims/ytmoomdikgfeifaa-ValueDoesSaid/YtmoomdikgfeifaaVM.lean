/- Plain facts on the order of values: texts byte by byte, kinds, numbers. -/
import Derived.Test.YtmoomdikgfeifaaVB
namespace Go.Proofs.Ytmoomdikgfeifaa
set_option linter.unusedVariables false

theorem bl_irr : ∀ x : List UInt8, Op.bytesLess x x = false
  | [] => rfl
  | a :: x => by
    rw [Op.bytesLess, bl_irr x]
    simp
theorem bl_trans : ∀ x y z : List UInt8, Op.bytesLess x y = true → Op.bytesLess y z = true → Op.bytesLess x z = true
  | _, _, [], _, h => by
    rename_i y _
    cases y <;> simp [Op.bytesLess] at h
  | [], _, _ :: _, _, _ => by simp [Op.bytesLess]
  | _ :: _, [], _ :: _, h, _ => by simp [Op.bytesLess] at h
  | a :: x, b :: y, c :: z, h, k => by
    rw [Op.bytesLess] at h k ⊢
    simp only [Bool.or_eq_true, Bool.and_eq_true, decide_eq_true_eq, beq_iff_eq] at h k ⊢
    rcases h with h | ⟨rfl, h⟩
    · rcases k with k | ⟨rfl, k⟩
      · exact Or.inl (UInt8.lt_trans h k)
      · exact Or.inl h
    · rcases k with k | ⟨rfl, k⟩
      · exact Or.inl k
      · exact Or.inr ⟨rfl, bl_trans x y z h k⟩
theorem bl_tot : ∀ x y : List UInt8, Op.bytesLess x y = false → Op.bytesLess y x = false → x = y
  | [], [], _, _ => rfl
  | [], _ :: _, h, _ => by simp [Op.bytesLess] at h
  | _ :: _, [], _, h => by simp [Op.bytesLess] at h
  | a :: x, b :: y, h, k => by
    rw [Op.bytesLess] at h k
    simp only [Bool.or_eq_false_iff, Bool.and_eq_false_iff, decide_eq_false_iff_not, beq_eq_false_iff_ne] at h k
    have hab : a = b := by
      apply UInt8.le_antisymm
      · exact UInt8.not_lt.1 k.1
      · exact UInt8.not_lt.1 h.1
    subst hab
    rcases h.2 with h' | h'
    · exact absurd rfl h'
    rcases k.2 with k' | k'
    · exact absurd rfl k'
    rw [bl_tot x y h' k']

theorem cs_in (s t : ByteArray) : cs s t = -1 ∨ cs s t = 0 ∨ cs s t = 1 := by
  unfold cs
  split
  · exact Or.inl rfl
  · split
    · exact Or.inr (Or.inl rfl)
    · exact Or.inr (Or.inr rfl)
theorem cs_self (s : ByteArray) : cs s s = 0 := by
  unfold cs
  rw [bl_irr, if_neg (by decide), if_pos rfl]
theorem cs_zero {s t : ByteArray} (h : cs s t = 0) : s = t := by
  unfold cs at h
  split at h
  · omega
  · split at h
    · assumption
    · omega
theorem cs_turn (s t : ByteArray) : cs t s = -cs s t := by
  by_cases e : s = t
  · subst e; rw [cs_self]; rfl
  · cases h : Op.bytesLess s.toList t.toList
    · cases k : Op.bytesLess t.toList s.toList
      · exact absurd (ba_ext (bl_tot _ _ h k)) e
      · unfold cs; rw [if_pos k, if_neg (by rw [h]; decide), if_neg e]
    · have k : Op.bytesLess t.toList s.toList = false := by
        cases k : Op.bytesLess t.toList s.toList
        · rfl
        · have := bl_trans _ _ _ h k; rw [bl_irr] at this; cases this
      unfold cs
      rw [if_pos h, if_neg (by rw [k]; decide), if_neg (fun h => e h.symm)]
      rfl
theorem cs_lt_iff {s t : ByteArray} : cs s t < 0 ↔ Op.bytesLess s.toList t.toList = true := by
  unfold cs
  constructor
  · intro h
    split at h
    · assumption
    · split at h <;> omega
  · intro h
    rw [if_pos h]; omega
theorem cs_trans {s t u : ByteArray} (h : cs s t ≤ 0) (k : cs t u ≤ 0) : cs s u ≤ 0 := by
  rcases Int.lt_or_eq_of_le h with h | h
  · rcases Int.lt_or_eq_of_le k with k | k
    · exact Int.le_of_lt (cs_lt_iff.2 (bl_trans _ _ _ (cs_lt_iff.1 h) (cs_lt_iff.1 k)))
    · rw [← cs_zero k]; exact Int.le_of_lt h
  · rw [cs_zero h]; exact k

/-- Order's number. -/
def od (k n : Int) (s : ByteArray) (k' n' : Int) (s' : ByteArray) : Int := fz [cz k k', cz n n', cs s s']
theorem od_eq (k n : Int) (s : ByteArray) (k' n' : Int) (s' : ByteArray) : od k n s k' n' s' = if cz k k' = 0 then (if cz n n' = 0 then cs s s' else cz n n') else cz k k' := by
  unfold od fz fz fz fz
  split
  · split
    · split <;> simp_all
    · rfl
  · rfl
theorem cz_facts (a b : Int) : (cz a b < 0 ↔ a < b) ∧ (0 < cz a b ↔ b < a) ∧ (cz a b = 0 ↔ a = b) := by
  unfold cz
  split
  · omega
  · split <;> omega
theorem od_turn (k n : Int) (s : ByteArray) (k' n' : Int) (s' : ByteArray) : od k' n' s' k n s = -od k n s k' n' s' := by
  rw [od_eq, od_eq, ← cz_turn k k', ← cz_turn n n', cs_turn s s']
  split <;> split <;> (try split) <;> (try split) <;> omega
theorem od_self (k n : Int) (s : ByteArray) : od k n s k n s = 0 := by
  rw [od_eq, cs_self]
  have := (cz_facts k k).2.2.2 rfl
  have := (cz_facts n n).2.2.2 rfl
  simp [*]
theorem od_zero {k n : Int} {s : ByteArray} {k' n' : Int} {s' : ByteArray} (h : od k n s k' n' s' = 0) : k = k' ∧ n = n' ∧ s = s' := by
  rw [od_eq] at h
  have a := cz_facts k k'
  have b := cz_facts n n'
  split at h
  · split at h
    · exact ⟨a.2.2.1 ‹_›, b.2.2.1 ‹_›, cs_zero h⟩
    · omega
  · omega
theorem od_trans {k n : Int} {s : ByteArray} {k' n' : Int} {s' : ByteArray} {k'' n'' : Int} {s'' : ByteArray} (h : od k n s k' n' s' ≤ 0) (g : od k' n' s' k'' n'' s'' ≤ 0) : od k n s k'' n'' s'' ≤ 0 := by
  rw [od_eq] at *
  have a1 := cz_facts k k'
  have a2 := cz_facts k' k''
  have a3 := cz_facts k k''
  have b1 := cz_facts n n'
  have b2 := cz_facts n' n''
  have b3 := cz_facts n n''
  have c := @cs_trans s s' s''
  split at h <;> split at g <;> split <;> (try split at h) <;> (try split at g) <;> (try split) <;> omega
theorem od_trans' {k n : Int} {s : ByteArray} {k' n' : Int} {s' : ByteArray} {k'' n'' : Int} {s'' : ByteArray} (h : 0 ≤ od k n s k' n' s') (g : 0 ≤ od k' n' s' k'' n'' s'') : 0 ≤ od k n s k'' n'' s'' := by
  have e1 := od_turn k n s k' n' s'
  have e2 := od_turn k' n' s' k'' n'' s''
  have e3 := od_turn k n s k'' n'' s''
  have := od_trans (k := k'') (n := n'') (s := s'') (k' := k') (n' := n') (s' := s') (k'' := k) (n'' := n) (s'' := s) (by omega) (by omega)
  omega
theorem od_in (k n : Int) (s : ByteArray) (k' n' : Int) (s' : ByteArray) : -1 ≤ od k n s k' n' s' ∧ od k n s k' n' s' ≤ 1 := by
  rw [od_eq]
  have := cz_in k k'
  have := cz_in n n'
  have := cs_in s s'
  split
  · split <;> omega
  · omega

end Go.Proofs.Ytmoomdikgfeifaa
