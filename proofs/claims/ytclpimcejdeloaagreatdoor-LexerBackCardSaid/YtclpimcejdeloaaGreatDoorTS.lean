/- Layer lexer, plain: how a word is spelled; no word has a line end; the words of a text as a relation. -/
import Derived.Test.YtclpimcejdeloaaGreatDoorTR
import Derived.Test.YtclpimcejdeloaaGreatDoorTN
namespace Go.Proofs.YtclpimcejdeloaaGreatDoor
set_option linter.unusedVariables false
set_option linter.unusedSimpArgs false
set_option maxRecDepth 100000

/-- A word as it is written. -/
def spellL (x : Tk) : List UInt8 :=
  if x.k = 2 ∨ x.k = 3 then 63 :: x.t else if x.k = 5 then 34 :: (x.t ++ [34]) else if x.k = 6 then 35 :: x.t else x.t
theorem named_ok {k : Int} {l : List UInt8} (h : (namedL k l).2 = 0) : isName l = true ∧ namedL k l = (⟨k, l, 0, 0, [], 0, 0⟩, 0) := by
  unfold namedL at h ⊢
  split at h
  · next h1 => exact ⟨h1, by rw [if_pos h1]⟩
  · cases h
theorem valued_ok {k : Int} {l : List UInt8} (h : (valuedL k l).2 = 0) : (valuedL k l).1 = ⟨k, if k = 5 then l.tail.take (l.length - 2) else l, (parseL l).k, (parseL l).n, (parseL l).s, 0, 0⟩ := by
  have he := valued_err k l h
  unfold valuedL
  rw [if_neg (by rw [he]; decide), if_neg (by rw [he]; decide)]
theorem mean_k (l : List UInt8) (k : Nat) (hk : kindL l = k) : meanW l = meanL k (l.take (wlen l)) := by
  unfold meanW
  rw [hk]
theorem kind_first {l : List UInt8} {k : Nat} (hk : kindL l = k) (h0 : k ≠ 0) : ∃ c r, l = c :: r ∧ (k = 2 ∨ k = 3 → c = 63) ∧ (k = 5 → c = 34) ∧ (k = 6 → c = 35) := by
  cases l with
  | nil => exact absurd hk.symm h0
  | cons c r =>
    refine ⟨c, r, rfl, ?_, ?_, ?_⟩
    · intro h
      rw [kind_cons] at hk
      by_cases h1 : c = 63
      · exact h1
      · rw [if_neg h1] at hk
        repeat' split at hk
        all_goals omega
    · intro h
      exact kind5 (hk.trans h)
    · intro h
      rw [kind_cons] at hk
      by_cases h1 : c = 35
      · exact h1
      · rw [if_neg h1] at hk
        repeat' split at hk
        all_goals omega
theorem tail_take {c : UInt8} {r : List UInt8} {n : Nat} (h : 1 ≤ n) : ((c :: r).take n).tail = r.take (n - 1) := by rw [take_cons h]; rfl
/-- A word, spelled, is what was read. -/
theorem spell_word {l : List UInt8} (h0 : (meanW l).2 = 0) : spellL (meanW l).1 = l.take (wlen l) := by
  obtain ⟨k, hk⟩ : ∃ k, kindL l = k := ⟨_, rfl⟩
  have hm := mean_k l k hk
  have hle := kindL_le l
  rw [hk] at hle
  have hk8 : k = 0 ∨ k = 1 ∨ k = 2 ∨ k = 3 ∨ k = 4 ∨ k = 5 ∨ k = 6 ∨ k = 7 := by omega
  rw [hm] at h0 ⊢
  rcases hk8 with rfl | rfl | rfl | rfl | rfl | rfl | rfl | rfl
  · exact absurd h0 (show ¬ (4 : Int) = 0 by decide)
  · have e : meanL 1 (l.take (wlen l)) = namedL 1 (l.take (wlen l)) := rfl
    rw [e] at h0 ⊢
    rw [(named_ok h0).2]
    rfl
  · have e : meanL 2 (l.take (wlen l)) = namedL 2 (l.take (wlen l)).tail := rfl
    rw [e] at h0 ⊢
    rw [(named_ok h0).2]
    obtain ⟨c, r, rfl, hc, _, _⟩ := kind_first hk (by decide)
    obtain rfl := hc (Or.inl rfl)
    rw [take_cons (wlen_pos _)]
    rfl
  · obtain ⟨c, r, rfl, hc, _, _⟩ := kind_first hk (by decide)
    obtain rfl := hc (Or.inr rfl)
    have : wlen (63 :: r) = 1 := by unfold wlen; rw [hk]; rfl
    rw [this]
    rfl
  · have e : meanL 4 (l.take (wlen l)) = valuedL 4 (l.take (wlen l)) := rfl
    rw [e] at h0 ⊢
    rw [valued_ok h0]
    rfl
  · obtain ⟨v, x, hv, _, hw⟩ := good_str hk (by rw [hm]; exact h0)
    have e : meanL 5 (l.take (wlen l)) = valuedL 5 (l.take (wlen l)) := rfl
    rw [e] at h0 ⊢
    rw [valued_ok h0]
    have hq : l.take (wlen l) = 34 :: (escL v ++ [34]) := by
      rw [hw, hv, List.take_succ_cons]
      congr 1
      rw [show escL v ++ 34 :: x = (escL v ++ [34]) ++ x by simp]
      exact List.take_left' (by simp)
    rw [hq]
    show 34 :: (((34 :: (escL v ++ [34])).tail.take ((34 :: (escL v ++ [34])).length - 2)) ++ [34]) = _
    rw [List.tail_cons]
    congr 2
    exact List.take_left' (by simp)
  · have e : meanL 6 (l.take (wlen l)) = if (namedL 6 (l.take (wlen l)).tail).2 = 0 then ({ (namedL 6 (l.take (wlen l)).tail).1 with vk := 5, vs := (l.take (wlen l)).tail }, 0) else namedL 6 (l.take (wlen l)).tail := rfl
    rw [e] at h0 ⊢
    by_cases h1 : (namedL 6 (l.take (wlen l)).tail).2 = 0
    · rw [if_pos h1, (named_ok h1).2]
      obtain ⟨c, r, rfl, _, _, hc⟩ := kind_first hk (by decide)
      obtain rfl := hc rfl
      rw [take_cons (wlen_pos _)]
      rfl
    · rw [if_neg h1] at h0
      exact absurd h0 h1
  · rfl

theorem goL_all {σ : Type} {step : σ → List UInt8 → Option σ} {P : UInt8 → Prop} (h : ∀ a c r b, step a (c :: r) = some b → P c) : ∀ (a : σ) (l : List UInt8), ∀ c ∈ l.take (goL step a l), P c
  | a, [], c, hc => by cases hc
  | a, d :: l, c, hc => by
    cases hs : step a (d :: l) with
    | none => rw [goL_stop hs] at hc; cases hc
    | some b =>
      rw [goL_go hs, List.take_succ_cons, List.mem_cons] at hc
      rcases hc with rfl | hc
      · exact h a c l b hs
      · exact goL_all h b l c hc
theorem run_all (p : UInt8 → Bool) (l : List UInt8) : ∀ c ∈ l.take (goL (runS p) () l), p c = true :=
  goL_all (fun a c r b h => by
    rw [show runS p a (c :: r) = if p c then some () else none from rfl] at h
    by_cases hp : p c = true
    · exact hp
    · rw [if_neg hp] at h; cases h) () l
theorem num_all (l : List UInt8) : ∀ c ∈ l.take (goL numS false l), c = 46 ∨ dgc c = true :=
  goL_all (P := fun c => c = 46 ∨ dgc c = true) (fun a c r b h => by
    rw [num_cons] at h
    split at h
    · next h1 =>
      rw [Bool.and_eq_true, Bool.and_eq_true] at h1
      exact Or.inl (by simpa using h1.1.2)
    · split at h
      · next h1 => exact Or.inr h1
      · cases h) false l
theorem nm_10 {c : UInt8} (h : nm c = true) : c ≠ 10 := by rintro rfl; exact absurd h (by decide)
theorem dgc_10 {c : UInt8} (h : dgc c = true) : c ≠ 10 := by rintro rfl; exact absurd h (by decide)
/-- No word has a line end. -/
theorem word_no10 {l : List UInt8} (h0 : (meanW l).2 = 0) : ∀ c ∈ l.take (wlen l), c ≠ 10 := by
  obtain ⟨k, hk⟩ : ∃ k, kindL l = k := ⟨_, rfl⟩
  have hm := mean_k l k hk
  have hle := kindL_le l
  rw [hk] at hle
  have hk8 : k = 0 ∨ k = 1 ∨ k = 2 ∨ k = 3 ∨ k = 4 ∨ k = 5 ∨ k = 6 ∨ k = 7 := by omega
  by_cases hk5 : k = 5
  · subst hk5
    obtain ⟨v, x, hv, hb, hw⟩ := good_str hk h0
    intro c hc
    have hq : l.take (wlen l) = quoteL v := by
      rw [hw, hv, List.take_succ_cons]
      unfold quoteL
      congr 1
      rw [show escL v ++ 34 :: x = (escL v ++ [34]) ++ x by simp]
      exact List.take_left' (by simp)
    rw [hq] at hc
    rintro rfl
    unfold quoteL at hc
    rw [List.mem_cons, List.mem_append] at hc
    rcases hc with hc | hc | hc
    · cases hc
    · unfold escL at hc
      rw [List.mem_flatMap] at hc
      obtain ⟨d, hd, hc⟩ := hc
      unfold escB at hc
      have := hb d hd
      split at hc
      · rw [List.mem_cons, List.mem_singleton] at hc
        rcases hc with hc | hc
        · cases hc
        · rw [← hc] at this
          exact absurd this.1 (by decide)
      · rw [List.mem_singleton] at hc
        rw [← hc] at this
        exact absurd this.1 (by decide)
    · rw [List.mem_singleton] at hc
      cases hc
  · by_cases hk0 : k = 0
    · subst hk0
      rw [hm] at h0
      exact absurd h0 (show ¬ (4 : Int) = 0 by decide)
    obtain ⟨c, r, rfl, g1, g2, g3⟩ := kind_first hk hk0
    intro d hd
    rw [take_cons (wlen_pos _), List.mem_cons] at hd
    rcases hd with rfl | hd
    · -- the first byte
      rintro rfl
      obtain ⟨c', r', e, _, h10, _⟩ := kind_pos (l := 10 :: r) (by rw [hk]; exact hk0)
      injection e with e1 e2
      exact h10 e1.symm
    · have hw : wlen (c :: r) - 1 = endL k (c :: r) := by unfold wlen; rw [hk]; omega
      rw [hw] at hd
      rcases hk8 with rfl | rfl | rfl | rfl | rfl | rfl | rfl | rfl
      · exact absurd rfl hk0
      · exact nm_10 (run_all nm r d hd)
      · exact nm_10 (run_all nm r d hd)
      · cases hd
      · rcases num_all r d hd with rfl | h
        · decide
        · exact dgc_10 h
      · exact absurd rfl hk5
      · exact nm_10 (run_all nm r d hd)
      · cases r with
        | nil => cases hd
        | cons e r =>
          rw [show endL 7 (c :: e :: r) = goL (sgnS (pair (c :: e :: r))) true (e :: r) from rfl, sgn_true] at hd
          by_cases hp : pair (c :: e :: r) = true
          · rw [if_pos hp, List.take_succ_cons, List.take_zero, List.mem_singleton] at hd
            subst hd
            rintro rfl
            unfold pair at hp
            simp (decide := true) at hp
          · rw [if_neg hp] at hd
            cases hd
end Go.Proofs.YtclpimcejdeloaaGreatDoor
