/- Layer vtext: VtextOnly. -/
import Derived.Test.YtcedcfkjoppjdaaGreatDoorLM
namespace Go.Proofs.YtcedcfkjoppjdaaGreatDoor
open Go.ChangeShapes Go.WideShapes Go.ChangeAt Go.RowKit Go.Lib
set_option linter.unusedVariables false
set_option maxRecDepth 100000

theorem index_two {a b : UInt8} {r : List UInt8} (ha : a ≠ 46) (hb : b ≠ 46) : Lib.index (a :: b :: r) [46] = -1 ∨ 2 ≤ Lib.index (a :: b :: r) [46] := by
  have g := Lib.index_ge r [46]
  have ea : ((46 : UInt8) == a) = false := by simpa using fun e => ha e.symm
  have eb : ((46 : UInt8) == b) = false := by simpa using fun e => hb e.symm
  have e1 : Lib.index (b :: r) [46] = if Lib.index r [46] == -1 then -1 else Lib.index r [46] + 1 := by
    rw [Lib.index]; simp [List.isPrefixOf, eb]
  have e2 : Lib.index (a :: b :: r) [46] = if Lib.index (b :: r) [46] == -1 then -1 else Lib.index (b :: r) [46] + 1 := by
    rw [Lib.index]; simp [List.isPrefixOf, ea]
  rw [e2, e1]
  by_cases h : Lib.index r [46] = -1
  · left; simp [h]
  · right
    have h2 : (Lib.index r [46] == -1) = false := by simpa using h
    have h3 : (Lib.index r [46] + 1 == -1) = false := by simp; omega
    simp only [h2, Bool.false_eq_true, if_false, h3]
    omega
theorem cut_two {a b : UInt8} {r : List UInt8} (ha : a ≠ 46) (hb : b ≠ 46) : ∃ t, (Lib.cut (a :: b :: r) [46]).1 = a :: b :: t := by
  unfold Lib.cut
  rcases index_two (r := r) ha hb with h | h
  · rw [h]; exact ⟨r, rfl⟩
  · rw [if_pos (by omega)]
    obtain ⟨n, hn⟩ : ∃ n : Nat, (Lib.index (a :: b :: r) [46]).toNat = n + 2 := ⟨(Lib.index (a :: b :: r) [46]).toNat - 2, by omega⟩
    rw [hn]
    exact ⟨r.take n, rfl⟩
theorem whole_nought {c : UInt8} {t : List UInt8} : wholeL (48 :: c :: t) = false := by
  unfold wholeL
  simp
/-- With a nought ahead of what is no point, it is none. -/
theorem read_nought {c : UInt8} {r : List UInt8} (hc : c ≠ 46) : (readL (48 :: c :: r)).e = 4 := by
  obtain ⟨t, ht⟩ := cut_two (a := 48) (b := c) (r := r) (by decide) hc
  have e1 : readL (48 :: c :: r) = ⟨(readN (48 :: c :: r)).1, (readN (48 :: c :: r)).2.1, (readN (48 :: c :: r)).2.2, []⟩ := by
    rw [readL, if_neg (by decide), if_neg (by decide), if_neg (by decide), if_neg (by decide), if_neg (by decide), if_pos (by decide)]
  have e2 : readN (48 :: c :: r) = readC [] (Lib.cut (48 :: c :: r) [46]).1 (Lib.cut (48 :: c :: r) [46]).2.1 (Lib.cut (48 :: c :: r) [46]).2.2 := by
    rw [readN, if_neg (by decide)]
  rw [e1]
  show (readN (48 :: c :: r)).2.2 = 4
  rw [e2, ht, readC, if_pos whole_nought]
theorem parse_e {l : List UInt8} (h : (readL l).e ≠ 0) : (parseL l).e ≠ 0 := by
  unfold parseL
  split
  · decide
  · exact h
theorem parse_bad {l : List UInt8} (h : (parseL l).e ≠ 0) : parseL l = ⟨0, 0, (parseL l).e, []⟩ := by
  revert h
  unfold parseL
  split
  · intro _; rfl
  split
  · split
    · next h0 _ => intro h; exact absurd h0 h
    · intro _; rfl
  · intro _; rfl
theorem parse_good {l : List UInt8} (h : (parseL l).e = 0) : (readL l).e = 0 ∧ parseL l = readL l ∧ textL (parseL l).k (parseL l).n (st (parseL l).s) = l := by
  revert h
  unfold parseL
  split
  · intro h; cases h
  split
  · next h0 =>
    split
    · next ht => exact fun _ => ⟨h0, rfl, ht⟩
    · intro h; cases h
  · next h0 => intro h; exact absurd h h0
theorem blank_bad (l : List UInt8) : (parseL (32 :: l)).e ≠ 0 := by
  apply parse_e
  rw [readL, if_neg (by decide), if_neg (by decide), if_neg (by decide), if_neg (by decide), if_neg (by decide), if_neg (by decide)]
  decide
theorem nought_bad {l : List UInt8} (h : (parseL l).e = 0) : (parseL (48 :: l)).e ≠ 0 := by
  have h0 := (parse_good h).1
  apply parse_e
  cases l with
  | nil => rw [readL] at h0; exact absurd h0 (by decide)
  | cons c r =>
    by_cases hc : c = 46
    · subst hc
      rw [readL, if_neg (by decide), if_neg (by decide), if_neg (by decide), if_neg (by decide), if_neg (by decide), if_neg (by decide)] at h0
      exact absurd h0 (by decide)
    · rw [read_nought hc]; decide
theorem readL_may (l : List UInt8) : (0 ≤ (readL l).k ∧ (readL l).k ≤ 255) ∧ I64 (readL l).n := by
  cases l with
  | nil => rw [readL]; decide
  | cons c r =>
    rw [readL]
    have := readN_may (c :: r)
    split
    · decide
    split
    · decide
    split
    · decide
    split
    · exact ⟨⟨by show (0 : Int) ≤ 3; decide, by show (3 : Int) ≤ 255; decide⟩, by show I64 0; decide⟩
    split
    · exact ⟨⟨by show (0 : Int) ≤ 5; decide, by show (5 : Int) ≤ 255; decide⟩, by show I64 0; decide⟩
    split
    · exact this
    · decide

theorem st_app (b : UInt8) (l : List UInt8) : (⟨#[b]⟩ : ByteArray) ++ st l = st (b :: l) := app_st [b] l
end Go.Proofs.YtcedcfkjoppjdaaGreatDoor
