/- Layer lexer, plain: a word stands for itself, whatever is cut off behind it, or follows behind a blank. -/
import Derived.Test.YtclpimcejdeloaaGreatDoorTL
namespace Go.Proofs.YtclpimcejdeloaaGreatDoor
set_option linter.unusedVariables false
set_option linter.unusedSimpArgs false
set_option maxRecDepth 100000

theorem fst_all {p : Int → Bool} {s : ByteArray} : ∀ {k : Nat}, fst p s k = true → ∀ j, j < k → p (bt s j) = true
  | 0, _, j, h => absurd h (Nat.not_lt_zero _)
  | k + 1, hk, j, h => by
    rw [fst, Bool.and_eq_true] at hk
    rcases Nat.lt_or_eq_of_le (Nat.le_of_lt_succ h) with h | h
    · exact fst_all hk.1 j h
    · subst h; exact hk.2
theorem bytes_of {p : Int → Bool} {s : ByteArray} (h : fst p s s.size = true) : ∀ c ∈ s.data.toList, p (c.toNat : Int) = true := fun c hc => by
  obtain ⟨j, hj⟩ := List.mem_iff_getElem?.1 hc
  have hlt : j < s.size := by
    have := (List.getElem?_eq_some_iff.1 hj).1
    simpa using this
  have := fst_all h j hlt
  unfold bt at this
  rw [List.getD_eq_getElem?_getD, hj] at this
  exact this
theorem str_bytes {n : Int} {s : ByteArray} (h : mayB 3 n s = true) : ∀ c ∈ s.data.toList, 32 ≤ c.toNat ∧ c.toNat ≤ 126 := by
  have ht : fst tb s s.size = true := by
    unfold mayB textB at h
    simp at h
    exact h.2.2
  intro c hc
  have := bytes_of ht c hc
  unfold tb at this
  simp at this
  omega

theorem read34 (r : List UInt8) : readL (34 :: r) = ⟨3, 0, 0, unqL (Lib.trimSuffix r [34])⟩ := rfl
/-- A text in quotes that is read is a value's text. -/
theorem parse_ok34 (r : List UInt8) (h : (parseL (34 :: r)).e = 0) : ∃ v : List UInt8, 34 :: r = quoteL v ∧ ∀ c ∈ v, 32 ≤ c.toNat ∧ c.toNat ≤ 126 := by
  unfold parseL at h
  rw [read34] at h
  split at h
  · cases h
  · rw [if_pos (by rfl)] at h
    split at h
    · next h1 =>
      unfold textL at h1
      split at h1
      · cases h1
      · next h2 =>
        have h2' : mayB 3 0 (st (unqL (Lib.trimSuffix r [34]))) = true := by
          cases hm : mayB 3 0 (st (unqL (Lib.trimSuffix r [34]))) with
          | true => rfl
          | false => exact absurd hm h2
        rw [if_neg (show ¬ (3 : Int) = 1 by decide), if_neg (show ¬ (3 : Int) = 2 by decide), if_pos rfl] at h1
        exact ⟨_, h1.symm, str_bytes h2'⟩
    · cases h
theorem parse_no9 (r : List UInt8) : (parseL (34 :: r)).e ≠ 9 := by
  unfold parseL
  rw [read34]
  split
  · decide
  · rw [if_pos (by rfl)]
    split
    · show (0 : Int) ≠ 9
      decide
    · show (4 : Int) ≠ 9
      decide

/-- The step looks at the next byte alone. -/
def Local {σ : Type} (step : σ → List UInt8 → Option σ) : Prop := ∀ a c r r', step a (c :: r) = step a (c :: r')
theorem local_run (p : UInt8 → Bool) : Local (runS p) := fun _ _ _ _ => rfl
theorem local_str : Local strS := fun _ _ _ _ => rfl
theorem local_sgn (two : Bool) : Local (sgnS two) := fun _ _ _ _ => rfl
theorem goL_cut {σ : Type} {step : σ → List UInt8 → Option σ} (hl : Local step) : ∀ (a : σ) (p q : List UInt8), goL step a (p ++ q) ≤ p.length → goL step a p = goL step a (p ++ q)
  | a, [], q, h => by
    rw [List.length_nil] at h
    rw [goL_nil]
    omega
  | a, c :: p, q, h => by
    rw [List.cons_append] at h ⊢
    cases hs : step a (c :: (p ++ q)) with
    | none => rw [goL_stop hs, goL_stop ((hl a c p (p ++ q)).trans hs)]
    | some b =>
      rw [goL_go hs] at h ⊢
      rw [goL_go ((hl a c p (p ++ q)).trans hs), goL_cut hl b p q (by simp only [List.length_cons] at h; omega)]
theorem goL_ext {σ : Type} {step : σ → List UInt8 → Option σ} (hl : Local step) {c : UInt8} {t : List UInt8} (hc : ∀ a, step a (c :: t) = none) : ∀ (a : σ) (l : List UInt8), goL step a (l ++ c :: t) = goL step a l
  | a, [] => by rw [List.nil_append, goL_stop (hc a), goL_nil]
  | a, d :: l => by
    rw [List.cons_append]
    cases hs : step a (d :: l) with
    | none => rw [goL_stop hs, goL_stop ((hl a d (l ++ c :: t) l).trans hs)]
    | some b => rw [goL_go hs, goL_go ((hl a d (l ++ c :: t) l).trans hs), goL_ext hl hc b l]
theorem hd_app {p : UInt8 → Bool} {l : List UInt8} {c : UInt8} {t : List UInt8} (hc : p c = false) : hd p (l ++ c :: t) = hd p l := by
  cases l with
  | nil => exact hc
  | cons d l => rfl
theorem num_cons (pt : Bool) (c : UInt8) (r : List UInt8) : numS pt (c :: r) = if !pt && c == 46 && hd dgc r then some true else if dgc c then some pt else none := rfl
theorem num_cut : ∀ (pt : Bool) (p q : List UInt8), goL numS pt (p ++ q) ≤ p.length → goL numS pt p = goL numS pt (p ++ q)
  | pt, [], q, h => by
    rw [List.length_nil] at h
    rw [goL_nil]
    omega
  | pt, c :: p, q, h => by
    rw [List.cons_append] at h ⊢
    by_cases h1 : (!pt && c == 46 && hd dgc (p ++ q)) = true
    · have hs : numS pt (c :: (p ++ q)) = some true := by rw [num_cons, if_pos h1]
      rw [goL_go hs] at h ⊢
      simp only [List.length_cons] at h
      have hp : hd dgc p = true := by
        cases p with
        | cons d p =>
          rw [Bool.and_eq_true] at h1
          exact h1.2
        | nil =>
          rw [Bool.and_eq_true, List.nil_append] at h1
          rw [List.nil_append] at h
          cases q with
          | nil => cases h1.2
          | cons d q =>
            have hd1 : dgc d = true := h1.2
            have hs2 : numS true (d :: q) = some true := by
              rw [num_cons, if_neg (by simp), if_pos hd1]
            rw [goL_go hs2] at h
            simp only [List.length_nil] at h
            omega
      have h1' : (!pt && c == 46 && hd dgc p) = true := by
        rw [Bool.and_eq_true] at h1 ⊢
        exact ⟨h1.1, hp⟩
      have hs' : numS pt (c :: p) = some true := by rw [num_cons, if_pos h1']
      rw [goL_go hs', num_cut true p q (by omega)]
    · have h1' : ¬ (!pt && c == 46 && hd dgc p) = true := by
        intro e
        apply h1
        rw [Bool.and_eq_true] at e ⊢
        refine ⟨e.1, ?_⟩
        cases p with
        | nil => cases e.2
        | cons d p => exact e.2
      by_cases h2 : dgc c = true
      · have hs : numS pt (c :: (p ++ q)) = some pt := by rw [num_cons, if_neg h1, if_pos h2]
        have hs' : numS pt (c :: p) = some pt := by rw [num_cons, if_neg h1', if_pos h2]
        rw [goL_go hs] at h ⊢
        simp only [List.length_cons] at h
        rw [goL_go hs', num_cut pt p q (by omega)]
      · have hs : numS pt (c :: (p ++ q)) = none := by rw [num_cons, if_neg h1, if_neg h2]
        have hs' : numS pt (c :: p) = none := by rw [num_cons, if_neg h1', if_neg h2]
        rw [goL_stop hs, goL_stop hs']
theorem num_ext {c : UInt8} {t : List UInt8} (h46 : c ≠ 46) (hd : dgc c = false) : ∀ (pt : Bool) (l : List UInt8), goL numS pt (l ++ c :: t) = goL numS pt l
  | pt, [] => by
    rw [List.nil_append, goL_nil]
    have h : (c == 46) = false := by simpa using h46
    exact goL_stop (by rw [num_cons, h, hd]; simp)
  | pt, d :: l => by
    rw [List.cons_append]
    have e : numS pt (d :: (l ++ c :: t)) = numS pt (d :: l) := by rw [num_cons, num_cons, hd_app hd]
    cases hs : numS pt (d :: l) with
    | none => rw [goL_stop hs, goL_stop (e.trans hs)]
    | some b => rw [goL_go hs, goL_go (e.trans hs), num_ext h46 hd b l]

/-- A byte that ends any word but a text in quotes. -/
def Stop (c : UInt8) : Prop := c = 10 ∨ c = 32
theorem Stop.facts {c : UInt8} (h : Stop c) : nm c = false ∧ sm c = false ∧ dgc c = false ∧ c ≠ 46 ∧ c ≠ 61 ∧ c ≠ 62 := by
  rcases h with rfl | rfl <;> decide
theorem pair_ext {c : UInt8} {t l : List UInt8} (h : Stop c) (hl : l ≠ []) : pair (l ++ c :: t) = pair l := by
  match l, hl with
  | [x], _ =>
    obtain ⟨_, _, _, h1, h2, h3⟩ := h.facts
    have e1 : (c == 61) = false := by simpa using h2
    have e2 : (c == 62) = false := by simpa using h3
    have e3 : (c == 46) = false := by simpa using h1
    show ((x == 60 && c == 61) || (x == 62 && c == 61) || (x == 60 && c == 62) || (x == 46 && c == 46)) = false
    rw [e1, e2, e3]
    simp
  | x :: y :: r, _ => rfl
theorem kind_cons (c : UInt8) (r : List UInt8) : kindL (c :: r) = if sm c then 1 else if dgc c then 4 else if c = 34 then 5 else if c = 35 then 6
    else if c = 63 then (if hd sm r then 2 else 3) else if sgn c || pair (c :: r) then 7 else 0 := rfl
theorem kind_ext {c : UInt8} {t l : List UInt8} (h : Stop c) (hl : l ≠ []) : kindL (l ++ c :: t) = kindL l := by
  obtain ⟨d, r, rfl⟩ := List.exists_cons_of_ne_nil hl
  have hp := pair_ext (t := t) h hl
  rw [List.cons_append] at hp ⊢
  rw [kind_cons, kind_cons, hd_app h.facts.2.1, hp]
theorem kind_pos {l : List UInt8} (h : kindL l ≠ 0) : ∃ c r, l = c :: r ∧ c ≠ 32 ∧ c ≠ 10 ∧ c ≠ 59 := by
  cases l with
  | nil => exact absurd rfl h
  | cons c r =>
    refine ⟨c, r, rfl, ?_, ?_, ?_⟩
    · rintro rfl
      apply h
      rw [kind_cons]
      cases r <;> simp (decide := true) [pair]
    · rintro rfl
      apply h
      rw [kind_cons]
      cases r <;> simp (decide := true) [pair]
    · rintro rfl
      apply h
      rw [kind_cons]
      cases r <;> simp (decide := true) [pair]
theorem sgn_false (two : Bool) (l : List UInt8) : goL (sgnS two) false l = 0 := by
  cases l with
  | nil => rfl
  | cons c r => exact goL_stop rfl
theorem sgn_true (two : Bool) (c : UInt8) (r : List UInt8) : goL (sgnS two) true (c :: r) = if two then 1 else 0 := by
  cases two with
  | true => rw [goL_go (b := false) rfl, sgn_false]; rfl
  | false => exact goL_stop rfl
/-- What follows behind a blank changes no word but one in quotes. -/
theorem endL_ext {c : UInt8} {t l : List UInt8} (h : Stop c) (hl : l ≠ []) (k : Nat) (h5 : k ≠ 5) : endL k (l ++ c :: t) = endL k l := by
  obtain ⟨d, r, rfl⟩ := List.exists_cons_of_ne_nil hl
  obtain ⟨h1, h2, h3, h4, _⟩ := h.facts
  have hp := pair_ext (t := t) h hl
  unfold endL
  rw [hp]
  rw [List.cons_append, List.tail_cons, List.tail_cons]
  rw [goL_ext (local_run nm) (fun a => by rw [show runS nm a (c :: t) = if nm c then some () else none from rfl, h1]; rfl), num_ext h4 h3]
  rw [if_neg h5, if_neg h5]
  split
  · rfl
  split
  · rfl
  split
  · next h7 =>
    cases r with
    | cons e r => rw [List.cons_append, sgn_true, sgn_true]
    | nil =>
      rw [List.nil_append]
      rfl
  · rfl
theorem wlen_ext {c : UInt8} {t l : List UInt8} (h : Stop c) (hl : l ≠ []) (h5 : kindL l ≠ 5) : wlen (l ++ c :: t) = wlen l := by
  unfold wlen
  rw [kind_ext h hl, endL_ext h hl _ h5]
end Go.Proofs.YtclpimcejdeloaaGreatDoor
