/- Layer lexer, plain: a word stands for itself, whatever is cut off behind it, or follows behind a blank. Layer lexer, plain: words cut off, words told again, words without line ends. Layer lexer, plain: how a word is spelled; no word has a line end; the words of a text as a relation. Layer lexer, plain: two texts with a line end between; a text that is cut; places rise. Layer lexer, plain: a text that is cut; places rise; words told again; lines further down. -/
import Derived.Test.YtgmjpcaennmgoaaGreatDoorTL
import Derived.Test.YtgmjpcaennmgoaaGreatDoorTN
namespace Go.Proofs.YtgmjpcaennmgoaaGreatDoor
set_option linter.unusedVariables false
set_option linter.unusedSimpArgs false
set_option maxRecDepth 100000

theorem fst_all {p : Int → Bool} {s : ByteArray} : ∀ {k : Nat}, fst p s k = true → ∀ j, j < k → p (bt s j) = true
  | 0, _, j, h => absurd h (Nat.not_lt_zero _)
  | k + 1, hk, j, h => by
    rw [fst, Bool.and_eq_true] at hk
    rcases Nat.lt_or_eq_of_le (Nat.le_of_lt_succ h) with h | h
    · exact fst_all hk.1 j h
    · subst h; exact hk.2
theorem bytes_of {p : Int → Bool} {s : ByteArray} (h : fst p s s.size = true) : ∀ c ∈ s.data.toList, p (c.toNat : Int) = true := fun c hc => by
  obtain ⟨j, hj⟩ := List.mem_iff_getElem?.1 hc
  have hlt : j < s.size := by
    have := (List.getElem?_eq_some_iff.1 hj).1
    simpa using this
  have := fst_all h j hlt
  unfold bt at this
  rw [List.getD_eq_getElem?_getD, hj] at this
  exact this
theorem str_bytes {n : Int} {s : ByteArray} (h : mayB 3 n s = true) : ∀ c ∈ s.data.toList, 32 ≤ c.toNat ∧ c.toNat ≤ 126 := by
  have ht : fst tb s s.size = true := by
    unfold mayB textB at h
    simp at h
    exact h.2.2
  intro c hc
  have := bytes_of ht c hc
  unfold tb at this
  simp at this
  omega

theorem read34 (r : List UInt8) : readL (34 :: r) = ⟨3, 0, 0, unqL (Lib.trimSuffix r [34])⟩ := rfl
/-- A text in quotes that is read is a value's text. -/
theorem parse_ok34 (r : List UInt8) (h : (parseL (34 :: r)).e = 0) : ∃ v : List UInt8, 34 :: r = quoteL v ∧ ∀ c ∈ v, 32 ≤ c.toNat ∧ c.toNat ≤ 126 := by
  unfold parseL at h
  rw [read34] at h
  split at h
  · cases h
  · rw [if_pos (by rfl)] at h
    split at h
    · next h1 =>
      unfold textL at h1
      split at h1
      · cases h1
      · next h2 =>
        have h2' : mayB 3 0 (st (unqL (Lib.trimSuffix r [34]))) = true := by
          cases hm : mayB 3 0 (st (unqL (Lib.trimSuffix r [34]))) with
          | true => rfl
          | false => exact absurd hm h2
        rw [if_neg (show ¬ (3 : Int) = 1 by decide), if_neg (show ¬ (3 : Int) = 2 by decide), if_pos rfl] at h1
        exact ⟨_, h1.symm, str_bytes h2'⟩
    · cases h
theorem parse_no9 (r : List UInt8) : (parseL (34 :: r)).e ≠ 9 := by
  unfold parseL
  rw [read34]
  split
  · decide
  · rw [if_pos (by rfl)]
    split
    · show (0 : Int) ≠ 9
      decide
    · show (4 : Int) ≠ 9
      decide

/-- The step looks at the next byte alone. -/
def Local {σ : Type} (step : σ → List UInt8 → Option σ) : Prop := ∀ a c r r', step a (c :: r) = step a (c :: r')
theorem local_run (p : UInt8 → Bool) : Local (runS p) := fun _ _ _ _ => rfl
theorem local_str : Local strS := fun _ _ _ _ => rfl
theorem local_sgn (two : Bool) : Local (sgnS two) := fun _ _ _ _ => rfl
theorem goL_cut {σ : Type} {step : σ → List UInt8 → Option σ} (hl : Local step) : ∀ (a : σ) (p q : List UInt8), goL step a (p ++ q) ≤ p.length → goL step a p = goL step a (p ++ q)
  | a, [], q, h => by
    rw [List.length_nil] at h
    rw [goL_nil]
    omega
  | a, c :: p, q, h => by
    rw [List.cons_append] at h ⊢
    cases hs : step a (c :: (p ++ q)) with
    | none => rw [goL_stop hs, goL_stop ((hl a c p (p ++ q)).trans hs)]
    | some b =>
      rw [goL_go hs] at h ⊢
      rw [goL_go ((hl a c p (p ++ q)).trans hs), goL_cut hl b p q (by simp only [List.length_cons] at h; omega)]
theorem goL_ext {σ : Type} {step : σ → List UInt8 → Option σ} (hl : Local step) {c : UInt8} {t : List UInt8} (hc : ∀ a, step a (c :: t) = none) : ∀ (a : σ) (l : List UInt8), goL step a (l ++ c :: t) = goL step a l
  | a, [] => by rw [List.nil_append, goL_stop (hc a), goL_nil]
  | a, d :: l => by
    rw [List.cons_append]
    cases hs : step a (d :: l) with
    | none => rw [goL_stop hs, goL_stop ((hl a d (l ++ c :: t) l).trans hs)]
    | some b => rw [goL_go hs, goL_go ((hl a d (l ++ c :: t) l).trans hs), goL_ext hl hc b l]
theorem hd_app {p : UInt8 → Bool} {l : List UInt8} {c : UInt8} {t : List UInt8} (hc : p c = false) : hd p (l ++ c :: t) = hd p l := by
  cases l with
  | nil => exact hc
  | cons d l => rfl
theorem num_cons (pt : Bool) (c : UInt8) (r : List UInt8) : numS pt (c :: r) = if !pt && c == 46 && hd dgc r then some true else if dgc c then some pt else none := rfl
theorem num_cut : ∀ (pt : Bool) (p q : List UInt8), goL numS pt (p ++ q) ≤ p.length → goL numS pt p = goL numS pt (p ++ q)
  | pt, [], q, h => by
    rw [List.length_nil] at h
    rw [goL_nil]
    omega
  | pt, c :: p, q, h => by
    rw [List.cons_append] at h ⊢
    by_cases h1 : (!pt && c == 46 && hd dgc (p ++ q)) = true
    · have hs : numS pt (c :: (p ++ q)) = some true := by rw [num_cons, if_pos h1]
      rw [goL_go hs] at h ⊢
      simp only [List.length_cons] at h
      have hp : hd dgc p = true := by
        cases p with
        | cons d p =>
          rw [Bool.and_eq_true] at h1
          exact h1.2
        | nil =>
          rw [Bool.and_eq_true, List.nil_append] at h1
          rw [List.nil_append] at h
          cases q with
          | nil => cases h1.2
          | cons d q =>
            have hd1 : dgc d = true := h1.2
            have hs2 : numS true (d :: q) = some true := by
              rw [num_cons, if_neg (by simp), if_pos hd1]
            rw [goL_go hs2] at h
            simp only [List.length_nil] at h
            omega
      have h1' : (!pt && c == 46 && hd dgc p) = true := by
        rw [Bool.and_eq_true] at h1 ⊢
        exact ⟨h1.1, hp⟩
      have hs' : numS pt (c :: p) = some true := by rw [num_cons, if_pos h1']
      rw [goL_go hs', num_cut true p q (by omega)]
    · have h1' : ¬ (!pt && c == 46 && hd dgc p) = true := by
        intro e
        apply h1
        rw [Bool.and_eq_true] at e ⊢
        refine ⟨e.1, ?_⟩
        cases p with
        | nil => cases e.2
        | cons d p => exact e.2
      by_cases h2 : dgc c = true
      · have hs : numS pt (c :: (p ++ q)) = some pt := by rw [num_cons, if_neg h1, if_pos h2]
        have hs' : numS pt (c :: p) = some pt := by rw [num_cons, if_neg h1', if_pos h2]
        rw [goL_go hs] at h ⊢
        simp only [List.length_cons] at h
        rw [goL_go hs', num_cut pt p q (by omega)]
      · have hs : numS pt (c :: (p ++ q)) = none := by rw [num_cons, if_neg h1, if_neg h2]
        have hs' : numS pt (c :: p) = none := by rw [num_cons, if_neg h1', if_neg h2]
        rw [goL_stop hs, goL_stop hs']
theorem num_ext {c : UInt8} {t : List UInt8} (h46 : c ≠ 46) (hd : dgc c = false) : ∀ (pt : Bool) (l : List UInt8), goL numS pt (l ++ c :: t) = goL numS pt l
  | pt, [] => by
    rw [List.nil_append, goL_nil]
    have h : (c == 46) = false := by simpa using h46
    exact goL_stop (by rw [num_cons, h, hd]; simp)
  | pt, d :: l => by
    rw [List.cons_append]
    have e : numS pt (d :: (l ++ c :: t)) = numS pt (d :: l) := by rw [num_cons, num_cons, hd_app hd]
    cases hs : numS pt (d :: l) with
    | none => rw [goL_stop hs, goL_stop (e.trans hs)]
    | some b => rw [goL_go hs, goL_go (e.trans hs), num_ext h46 hd b l]

/-- A byte that ends any word but a text in quotes. -/
def Stop (c : UInt8) : Prop := c = 10 ∨ c = 32
theorem Stop.facts {c : UInt8} (h : Stop c) : nm c = false ∧ sm c = false ∧ dgc c = false ∧ c ≠ 46 ∧ c ≠ 61 ∧ c ≠ 62 := by
  rcases h with rfl | rfl <;> decide
theorem pair_ext {c : UInt8} {t l : List UInt8} (h : Stop c) (hl : l ≠ []) : pair (l ++ c :: t) = pair l := by
  match l, hl with
  | [x], _ =>
    obtain ⟨_, _, _, h1, h2, h3⟩ := h.facts
    have e1 : (c == 61) = false := by simpa using h2
    have e2 : (c == 62) = false := by simpa using h3
    have e3 : (c == 46) = false := by simpa using h1
    show ((x == 60 && c == 61) || (x == 62 && c == 61) || (x == 60 && c == 62) || (x == 46 && c == 46)) = false
    rw [e1, e2, e3]
    simp
  | x :: y :: r, _ => rfl
theorem kind_cons (c : UInt8) (r : List UInt8) : kindL (c :: r) = if sm c then 1 else if dgc c then 4 else if c = 34 then 5 else if c = 35 then 6
    else if c = 63 then (if hd sm r then 2 else 3) else if sgn c || pair (c :: r) then 7 else 0 := rfl
theorem kind_ext {c : UInt8} {t l : List UInt8} (h : Stop c) (hl : l ≠ []) : kindL (l ++ c :: t) = kindL l := by
  obtain ⟨d, r, rfl⟩ := List.exists_cons_of_ne_nil hl
  have hp := pair_ext (t := t) h hl
  rw [List.cons_append] at hp ⊢
  rw [kind_cons, kind_cons, hd_app h.facts.2.1, hp]
theorem kind_pos {l : List UInt8} (h : kindL l ≠ 0) : ∃ c r, l = c :: r ∧ c ≠ 32 ∧ c ≠ 10 ∧ c ≠ 59 := by
  cases l with
  | nil => exact absurd rfl h
  | cons c r =>
    refine ⟨c, r, rfl, ?_, ?_, ?_⟩
    · rintro rfl
      apply h
      rw [kind_cons]
      cases r <;> simp (decide := true) [pair]
    · rintro rfl
      apply h
      rw [kind_cons]
      cases r <;> simp (decide := true) [pair]
    · rintro rfl
      apply h
      rw [kind_cons]
      cases r <;> simp (decide := true) [pair]
theorem sgn_false (two : Bool) (l : List UInt8) : goL (sgnS two) false l = 0 := by
  cases l with
  | nil => rfl
  | cons c r => exact goL_stop rfl
theorem sgn_true (two : Bool) (c : UInt8) (r : List UInt8) : goL (sgnS two) true (c :: r) = if two then 1 else 0 := by
  cases two with
  | true => rw [goL_go (b := false) rfl, sgn_false]; rfl
  | false => exact goL_stop rfl
/-- What follows behind a blank changes no word but one in quotes. -/
theorem endL_ext {c : UInt8} {t l : List UInt8} (h : Stop c) (hl : l ≠ []) (k : Nat) (h5 : k ≠ 5) : endL k (l ++ c :: t) = endL k l := by
  obtain ⟨d, r, rfl⟩ := List.exists_cons_of_ne_nil hl
  obtain ⟨h1, h2, h3, h4, _⟩ := h.facts
  have hp := pair_ext (t := t) h hl
  unfold endL
  rw [hp]
  rw [List.cons_append, List.tail_cons, List.tail_cons]
  rw [goL_ext (local_run nm) (fun a => by rw [show runS nm a (c :: t) = if nm c then some () else none from rfl, h1]; rfl), num_ext h4 h3]
  rw [if_neg h5, if_neg h5]
  split
  · rfl
  split
  · rfl
  split
  · next h7 =>
    cases r with
    | cons e r => rw [List.cons_append, sgn_true, sgn_true]
    | nil =>
      rw [List.nil_append]
      rfl
  · rfl
theorem wlen_ext {c : UInt8} {t l : List UInt8} (h : Stop c) (hl : l ≠ []) (h5 : kindL l ≠ 5) : wlen (l ++ c :: t) = wlen l := by
  unfold wlen
  rw [kind_ext h hl, endL_ext h hl _ h5]
end Go.Proofs.YtgmjpcaennmgoaaGreatDoor
namespace Go.Proofs.YtgmjpcaennmgoaaGreatDoor
set_option linter.unusedVariables false
set_option linter.unusedSimpArgs false
set_option maxRecDepth 100000

/-- What the word that begins here means. -/
def meanW (l : List UInt8) : Tk × Int := meanL (kindL l) (l.take (wlen l))

theorem esc_cons (c : UInt8) (v : List UInt8) : escL (c :: v) = escB c ++ escL v := rfl
theorem str_cons (en es : Bool) (c : UInt8) (r : List UInt8) : strS (en, es) (c :: r) = if en then none else some (c == 34 && !es, c == 92 && !es) := rfl
theorem quo_len : ∀ (v x : List UInt8), goL strS (false, false) (escL v ++ 34 :: x) = (escL v).length + 1
  | [], x => by
    have h1 : strS (false, false) (34 :: x) = some (true, false) := rfl
    rw [show escL [] = [] from rfl, List.nil_append, goL_go h1]
    cases x with
    | nil => rfl
    | cons c x => rw [goL_stop (by rw [str_cons]; rfl)]; rfl
  | c :: v, x => by
    rw [esc_cons]
    unfold escB
    by_cases h : c = 34 ∨ c = 92
    · rw [if_pos h]
      have h1 : strS (false, false) (92 :: (c :: (escL v ++ 34 :: x))) = some (false, true) := rfl
      have h2 : strS (false, true) (c :: (escL v ++ 34 :: x)) = some (false, false) := by
        rw [str_cons]
        simp
      rw [List.append_assoc, List.cons_append, List.cons_append, List.nil_append, goL_go h1, goL_go h2, quo_len v x]
      simp only [List.length_append, List.length_cons, List.length_nil]
      omega
    · rw [if_neg h]
      rw [not_or] at h
      have h1 : strS (false, false) (c :: (escL v ++ 34 :: x)) = some (false, false) := by
        rw [str_cons, beq_false_of_ne h.1, beq_false_of_ne h.2]
        rfl
      rw [List.append_assoc, List.cons_append, List.nil_append, goL_go h1, quo_len v x]
      simp only [List.length_append, List.length_cons, List.length_nil]
      omega

theorem wlen_pos (l : List UInt8) : 1 ≤ wlen l := by unfold wlen; omega
theorem take_cons {c : UInt8} {r : List UInt8} {n : Nat} (h : 1 ≤ n) : (c :: r).take n = c :: r.take (n - 1) := by
  obtain ⟨m, rfl⟩ : ∃ m, n = m + 1 := ⟨n - 1, by omega⟩
  rfl
theorem valued_err (k : Int) (l : List UInt8) (h : (valuedL k l).2 = 0) : (parseL l).e = 0 := by
  unfold valuedL at h
  split at h
  · cases h
  · split at h
    · cases h
    · next h1 => simpa using h1
theorem mean5 {l : List UInt8} (h5 : kindL l = 5) : meanW l = valuedL 5 (l.take (wlen l)) := by
  unfold meanW
  rw [h5]
  rfl
/-- A word in quotes that is one. -/
theorem good_str {l : List UInt8} (h5 : kindL l = 5) (h0 : (meanW l).2 = 0) : ∃ v x, l = 34 :: (escL v ++ 34 :: x) ∧ (∀ c ∈ v, 32 ≤ c.toNat ∧ c.toNat ≤ 126) ∧ wlen l = (escL v).length + 2 := by
  cases l with
  | nil => cases h5
  | cons c r =>
    obtain rfl := kind5 h5
    rw [mean5 h5] at h0
    have hp := valued_err _ _ h0
    rw [take_cons (wlen_pos _)] at hp
    obtain ⟨v, hv, hb⟩ := parse_ok34 _ hp
    rw [← take_cons (wlen_pos _)] at hv
    have hl : 34 :: r = 34 :: (escL v ++ 34 :: (34 :: r).drop (wlen (34 :: r))) := by
      have := List.take_append_drop (wlen (34 :: r)) (34 :: r)
      rw [hv] at this
      exact this.symm.trans (by simp [quoteL])
    refine ⟨v, _, hl, hb, ?_⟩
    have hw : wlen (34 :: r) = goL strS (false, false) r + 1 := by unfold wlen; rw [h5]; rfl
    have hr : r = escL v ++ 34 :: (34 :: r).drop (wlen (34 :: r)) := by injection hl
    rw [hw]
    generalize (34 :: r).drop (wlen (34 :: r)) = x at hr
    rw [hr, quo_len]

/-- What is cut off behind a word changes it not. -/
theorem word_cut {p q : List UInt8} (hp : p ≠ []) (h : wlen (p ++ q) ≤ p.length) : kindL p = kindL (p ++ q) ∧ wlen p = wlen (p ++ q) := by
  match p, hp with
  | [c], _ =>
    rw [List.cons_append, List.nil_append] at h ⊢
    have he : endL (kindL (c :: q)) (c :: q) = 0 := by
      unfold wlen at h
      simp only [List.length_cons, List.length_nil] at h
      omega
    have hk : kindL [c] = kindL (c :: q) := by
      rw [kind_cons] at he ⊢
      rw [kind_cons]
      by_cases h1 : sm c = true
      · rw [if_pos h1, if_pos h1]
      rw [if_neg h1] at he
      rw [if_neg h1, if_neg h1]
      by_cases h2 : dgc c = true
      · rw [if_pos h2, if_pos h2]
      rw [if_neg h2] at he
      rw [if_neg h2, if_neg h2]
      by_cases h3 : c = 34
      · rw [if_pos h3, if_pos h3]
      rw [if_neg h3] at he
      rw [if_neg h3, if_neg h3]
      by_cases h4 : c = 35
      · rw [if_pos h4, if_pos h4]
      rw [if_neg h4] at he
      rw [if_neg h4, if_neg h4]
      by_cases h5 : c = 63
      · rw [if_pos h5] at he
        rw [if_pos h5, if_pos h5]
        cases q with
        | nil => rfl
        | cons d q =>
          by_cases h6 : sm d = true
          · exfalso
            rw [show hd sm (d :: q) = sm d from rfl, if_pos h6] at he
            have hs : runS nm () (d :: q) = some () := by
              rw [show runS nm () (d :: q) = if nm d then some () else none from rfl, if_pos (by unfold nm; rw [h6]; rfl)]
            rw [show endL 2 (c :: d :: q) = goL (runS nm) () (d :: q) from rfl, goL_go hs] at he
            cases he
          · rw [show hd sm (d :: q) = sm d from rfl, if_neg h6]
            rfl
      rw [if_neg h5] at he
      rw [if_neg h5, if_neg h5]
      by_cases h6 : sgn c = true
      · rw [h6]
        rfl
      · have h6' : sgn c = false := by simpa using h6
        rw [h6', Bool.false_or] at he ⊢
        rw [Bool.false_or]
        cases q with
        | nil => rfl
        | cons d q =>
          cases h7 : pair (c :: d :: q) with
          | false => rfl
          | true =>
            exfalso
            rw [h7, if_pos rfl, show endL 7 (c :: d :: q) = goL (sgnS (pair (c :: d :: q))) true (d :: q) from rfl, h7, sgn_true] at he
            cases he
    refine ⟨hk, ?_⟩
    unfold wlen
    rw [he, hk]
    unfold endL
    have g1 : goL (sgnS (pair [c])) true [c].tail = 0 := rfl
    have g2 : goL (runS nm) () [c].tail = 0 := rfl
    have g3 : goL numS false [c].tail = 0 := rfl
    have g4 : goL strS (false, false) [c].tail = 0 := rfl
    rw [g1, g2, g3, g4]
    repeat' split
    all_goals rfl
  | c :: d :: p, _ =>
    have hk : kindL (c :: d :: p) = kindL (c :: d :: p ++ q) := rfl
    refine ⟨hk, ?_⟩
    unfold wlen at h ⊢
    rw [← hk] at h ⊢
    have h' : endL (kindL (c :: d :: p)) (c :: d :: p ++ q) ≤ (d :: p).length := by
      rw [List.length_cons (a := c)] at h
      omega
    congr 1
    generalize kindL (c :: d :: p) = k at h'
    unfold endL at h' ⊢
    rw [show (c :: d :: p ++ q).tail = (d :: p) ++ q from rfl, show pair (c :: d :: p ++ q) = pair (c :: d :: p) from rfl] at h' ⊢
    rw [List.tail_cons]
    by_cases k1 : k = 1 ∨ k = 2 ∨ k = 6
    · rw [if_pos k1] at h' ⊢
      rw [if_pos k1]
      exact goL_cut (local_run nm) _ _ _ h'
    rw [if_neg k1] at h' ⊢
    rw [if_neg k1]
    by_cases k2 : k = 4
    · rw [if_pos k2] at h' ⊢
      rw [if_pos k2]
      exact num_cut _ _ _ h'
    rw [if_neg k2] at h' ⊢
    rw [if_neg k2]
    by_cases k3 : k = 5
    · rw [if_pos k3] at h' ⊢
      rw [if_pos k3]
      exact goL_cut local_str _ _ _ h'
    rw [if_neg k3] at h' ⊢
    rw [if_neg k3]
    by_cases k4 : k = 7
    · rw [if_pos k4] at h' ⊢
      rw [if_pos k4]
      exact goL_cut (local_sgn _) _ _ _ h'
    · rw [if_neg k4, if_neg k4]
theorem take_app {p q : List UInt8} {n : Nat} (h : n ≤ p.length) : (p ++ q).take n = p.take n := by
  rw [List.take_append_of_le_length h]
theorem mean_cut {p q : List UInt8} (hp : p ≠ []) (h : wlen (p ++ q) ≤ p.length) : meanW p = meanW (p ++ q) := by
  obtain ⟨h1, h2⟩ := word_cut hp h
  unfold meanW
  rw [h1, h2, take_app h]
/-- A word stays the same, whatever follows behind a blank. -/
theorem word_ext {l : List UInt8} (hl : l ≠ []) (h0 : (meanW l).2 = 0) {c : UInt8} (hc : Stop c) (t : List UInt8) : kindL (l ++ c :: t) = kindL l ∧ wlen (l ++ c :: t) = wlen l ∧ meanW (l ++ c :: t) = meanW l := by
  have hk := kind_ext (t := t) hc hl
  have hw : wlen (l ++ c :: t) = wlen l := by
    by_cases h5 : kindL l = 5
    · obtain ⟨v, x, hv, _, hw⟩ := good_str h5 h0
      rw [hw]
      unfold wlen
      rw [hk, h5, hv, List.cons_append, List.append_assoc, List.cons_append]
      show goL strS (false, false) (escL v ++ 34 :: (x ++ c :: t)) + 1 = _
      rw [quo_len]
    · exact wlen_ext hc hl h5
  refine ⟨hk, hw, ?_⟩
  unfold meanW
  rw [hk, hw, take_app (wlen_le hl)]
/-- What is none is none, whatever follows behind a line end. -/
theorem word_bad {l : List UInt8} (hl : l ≠ []) (h0 : (meanW l).2 ≠ 0) (t : List UInt8) : (meanW (l ++ 10 :: t)).2 = (meanW l).2 := by
  have hk := kind_ext (t := t) (Or.inl rfl : Stop 10) hl
  by_cases h5 : kindL l = 5
  · by_cases hc : wlen (l ++ 10 :: t) ≤ l.length
    · rw [mean_cut hl hc]
    · obtain ⟨c, r, rfl⟩ := List.exists_cons_of_ne_nil hl
      obtain rfl := kind5 h5
      have e4 : ∀ (x : List UInt8), (valuedL 5 (34 :: x)).2 ≠ 0 → (valuedL 5 (34 :: x)).2 = 4 := by
        intro x hx
        unfold valuedL at hx ⊢
        rw [if_neg (parse_no9 x)] at hx ⊢
        split
        · rfl
        · next h1 =>
          rw [if_neg h1] at hx
          exact absurd rfl hx
      rw [mean5 h5] at h0 ⊢
      rw [mean5 (hk.trans h5)]
      rw [take_cons (wlen_pos _)] at h0 ⊢
      rw [e4 _ h0, List.cons_append, take_cons (wlen_pos _)]
      refine e4 _ (fun he => ?_)
      have hp := valued_err _ _ he
      obtain ⟨v, hv, hb⟩ := parse_ok34 _ hp
      have hm : (10 : UInt8) ∈ quoteL v := by
        rw [← hv]
        refine List.mem_cons_of_mem _ ?_
        have hlt : r.length < wlen (34 :: (r ++ 10 :: t)) - 1 := by
          rw [List.cons_append, List.length_cons] at hc
          omega
        refine List.mem_iff_getElem?.2 ⟨r.length, ?_⟩
        rw [List.getElem?_take, if_pos hlt, List.getElem?_append_right (Nat.le_refl _), Nat.sub_self]
        rfl
      unfold quoteL at hm
      rw [List.mem_cons, List.mem_append] at hm
      rcases hm with hm | hm | hm
      · cases hm
      · unfold escL at hm
        rw [List.mem_flatMap] at hm
        obtain ⟨d, hd, hm⟩ := hm
        unfold escB at hm
        split at hm
        · rw [List.mem_cons, List.mem_singleton] at hm
          rcases hm with hm | hm
          · cases hm
          · have := hb d hd
            rw [← hm] at this
            exact absurd this.1 (by decide)
        · rw [List.mem_singleton] at hm
          have := hb d hd
          rw [← hm] at this
          exact absurd this.1 (by decide)
      · rw [List.mem_singleton] at hm
        cases hm
  · have hw := wlen_ext (t := t) (Or.inl rfl : Stop 10) hl h5
    unfold meanW
    rw [hk, hw, take_app (wlen_le hl)]
end Go.Proofs.YtgmjpcaennmgoaaGreatDoor
namespace Go.Proofs.YtgmjpcaennmgoaaGreatDoor
set_option linter.unusedVariables false
set_option linter.unusedSimpArgs false
set_option maxRecDepth 100000

/-- A word as it is written. -/
def spellL (x : Tk) : List UInt8 :=
  if x.k = 2 ∨ x.k = 3 then 63 :: x.t else if x.k = 5 then 34 :: (x.t ++ [34]) else if x.k = 6 then 35 :: x.t else x.t
theorem named_ok {k : Int} {l : List UInt8} (h : (namedL k l).2 = 0) : isName l = true ∧ namedL k l = (⟨k, l, 0, 0, [], 0, 0⟩, 0) := by
  unfold namedL at h ⊢
  split at h
  · next h1 => exact ⟨h1, by rw [if_pos h1]⟩
  · cases h
theorem valued_ok {k : Int} {l : List UInt8} (h : (valuedL k l).2 = 0) : (valuedL k l).1 = ⟨k, if k = 5 then l.tail.take (l.length - 2) else l, (parseL l).k, (parseL l).n, (parseL l).s, 0, 0⟩ := by
  have he := valued_err k l h
  unfold valuedL
  rw [if_neg (by rw [he]; decide), if_neg (by rw [he]; decide)]
theorem mean_k (l : List UInt8) (k : Nat) (hk : kindL l = k) : meanW l = meanL k (l.take (wlen l)) := by
  unfold meanW
  rw [hk]
theorem kind_first {l : List UInt8} {k : Nat} (hk : kindL l = k) (h0 : k ≠ 0) : ∃ c r, l = c :: r ∧ (k = 2 ∨ k = 3 → c = 63) ∧ (k = 5 → c = 34) ∧ (k = 6 → c = 35) := by
  cases l with
  | nil => exact absurd hk.symm h0
  | cons c r =>
    refine ⟨c, r, rfl, ?_, ?_, ?_⟩
    · intro h
      rw [kind_cons] at hk
      by_cases h1 : c = 63
      · exact h1
      · rw [if_neg h1] at hk
        repeat' split at hk
        all_goals omega
    · intro h
      exact kind5 (hk.trans h)
    · intro h
      rw [kind_cons] at hk
      by_cases h1 : c = 35
      · exact h1
      · rw [if_neg h1] at hk
        repeat' split at hk
        all_goals omega
theorem tail_take {c : UInt8} {r : List UInt8} {n : Nat} (h : 1 ≤ n) : ((c :: r).take n).tail = r.take (n - 1) := by rw [take_cons h]; rfl
/-- A word, spelled, is what was read. -/
theorem spell_word {l : List UInt8} (h0 : (meanW l).2 = 0) : spellL (meanW l).1 = l.take (wlen l) := by
  obtain ⟨k, hk⟩ : ∃ k, kindL l = k := ⟨_, rfl⟩
  have hm := mean_k l k hk
  have hle := kindL_le l
  rw [hk] at hle
  have hk8 : k = 0 ∨ k = 1 ∨ k = 2 ∨ k = 3 ∨ k = 4 ∨ k = 5 ∨ k = 6 ∨ k = 7 := by omega
  rw [hm] at h0 ⊢
  rcases hk8 with rfl | rfl | rfl | rfl | rfl | rfl | rfl | rfl
  · exact absurd h0 (show ¬ (4 : Int) = 0 by decide)
  · have e : meanL 1 (l.take (wlen l)) = namedL 1 (l.take (wlen l)) := rfl
    rw [e] at h0 ⊢
    rw [(named_ok h0).2]
    rfl
  · have e : meanL 2 (l.take (wlen l)) = namedL 2 (l.take (wlen l)).tail := rfl
    rw [e] at h0 ⊢
    rw [(named_ok h0).2]
    obtain ⟨c, r, rfl, hc, _, _⟩ := kind_first hk (by decide)
    obtain rfl := hc (Or.inl rfl)
    rw [take_cons (wlen_pos _)]
    rfl
  · obtain ⟨c, r, rfl, hc, _, _⟩ := kind_first hk (by decide)
    obtain rfl := hc (Or.inr rfl)
    have : wlen (63 :: r) = 1 := by unfold wlen; rw [hk]; rfl
    rw [this]
    rfl
  · have e : meanL 4 (l.take (wlen l)) = valuedL 4 (l.take (wlen l)) := rfl
    rw [e] at h0 ⊢
    rw [valued_ok h0]
    rfl
  · obtain ⟨v, x, hv, _, hw⟩ := good_str hk (by rw [hm]; exact h0)
    have e : meanL 5 (l.take (wlen l)) = valuedL 5 (l.take (wlen l)) := rfl
    rw [e] at h0 ⊢
    rw [valued_ok h0]
    have hq : l.take (wlen l) = 34 :: (escL v ++ [34]) := by
      rw [hw, hv, List.take_succ_cons]
      congr 1
      rw [show escL v ++ 34 :: x = (escL v ++ [34]) ++ x by simp]
      exact List.take_left' (by simp)
    rw [hq]
    show 34 :: (((34 :: (escL v ++ [34])).tail.take ((34 :: (escL v ++ [34])).length - 2)) ++ [34]) = _
    rw [List.tail_cons]
    congr 2
    exact List.take_left' (by simp)
  · have e : meanL 6 (l.take (wlen l)) = if (namedL 6 (l.take (wlen l)).tail).2 = 0 then ({ (namedL 6 (l.take (wlen l)).tail).1 with vk := 5, vs := (l.take (wlen l)).tail }, 0) else namedL 6 (l.take (wlen l)).tail := rfl
    rw [e] at h0 ⊢
    by_cases h1 : (namedL 6 (l.take (wlen l)).tail).2 = 0
    · rw [if_pos h1, (named_ok h1).2]
      obtain ⟨c, r, rfl, _, _, hc⟩ := kind_first hk (by decide)
      obtain rfl := hc rfl
      rw [take_cons (wlen_pos _)]
      rfl
    · rw [if_neg h1] at h0
      exact absurd h0 h1
  · rfl

theorem goL_all {σ : Type} {step : σ → List UInt8 → Option σ} {P : UInt8 → Prop} (h : ∀ a c r b, step a (c :: r) = some b → P c) : ∀ (a : σ) (l : List UInt8), ∀ c ∈ l.take (goL step a l), P c
  | a, [], c, hc => by cases hc
  | a, d :: l, c, hc => by
    cases hs : step a (d :: l) with
    | none => rw [goL_stop hs] at hc; cases hc
    | some b =>
      rw [goL_go hs, List.take_succ_cons, List.mem_cons] at hc
      rcases hc with rfl | hc
      · exact h a c l b hs
      · exact goL_all h b l c hc
theorem run_all (p : UInt8 → Bool) (l : List UInt8) : ∀ c ∈ l.take (goL (runS p) () l), p c = true :=
  goL_all (fun a c r b h => by
    rw [show runS p a (c :: r) = if p c then some () else none from rfl] at h
    by_cases hp : p c = true
    · exact hp
    · rw [if_neg hp] at h; cases h) () l
theorem num_all (l : List UInt8) : ∀ c ∈ l.take (goL numS false l), c = 46 ∨ dgc c = true :=
  goL_all (P := fun c => c = 46 ∨ dgc c = true) (fun a c r b h => by
    rw [num_cons] at h
    split at h
    · next h1 =>
      rw [Bool.and_eq_true, Bool.and_eq_true] at h1
      exact Or.inl (by simpa using h1.1.2)
    · split at h
      · next h1 => exact Or.inr h1
      · cases h) false l
theorem nm_10 {c : UInt8} (h : nm c = true) : c ≠ 10 := by rintro rfl; exact absurd h (by decide)
theorem dgc_10 {c : UInt8} (h : dgc c = true) : c ≠ 10 := by rintro rfl; exact absurd h (by decide)
/-- No word has a line end. -/
theorem word_no10 {l : List UInt8} (h0 : (meanW l).2 = 0) : ∀ c ∈ l.take (wlen l), c ≠ 10 := by
  obtain ⟨k, hk⟩ : ∃ k, kindL l = k := ⟨_, rfl⟩
  have hm := mean_k l k hk
  have hle := kindL_le l
  rw [hk] at hle
  have hk8 : k = 0 ∨ k = 1 ∨ k = 2 ∨ k = 3 ∨ k = 4 ∨ k = 5 ∨ k = 6 ∨ k = 7 := by omega
  by_cases hk5 : k = 5
  · subst hk5
    obtain ⟨v, x, hv, hb, hw⟩ := good_str hk h0
    intro c hc
    have hq : l.take (wlen l) = quoteL v := by
      rw [hw, hv, List.take_succ_cons]
      unfold quoteL
      congr 1
      rw [show escL v ++ 34 :: x = (escL v ++ [34]) ++ x by simp]
      exact List.take_left' (by simp)
    rw [hq] at hc
    rintro rfl
    unfold quoteL at hc
    rw [List.mem_cons, List.mem_append] at hc
    rcases hc with hc | hc | hc
    · cases hc
    · unfold escL at hc
      rw [List.mem_flatMap] at hc
      obtain ⟨d, hd, hc⟩ := hc
      unfold escB at hc
      have := hb d hd
      split at hc
      · rw [List.mem_cons, List.mem_singleton] at hc
        rcases hc with hc | hc
        · cases hc
        · rw [← hc] at this
          exact absurd this.1 (by decide)
      · rw [List.mem_singleton] at hc
        rw [← hc] at this
        exact absurd this.1 (by decide)
    · rw [List.mem_singleton] at hc
      cases hc
  · by_cases hk0 : k = 0
    · subst hk0
      rw [hm] at h0
      exact absurd h0 (show ¬ (4 : Int) = 0 by decide)
    obtain ⟨c, r, rfl, g1, g2, g3⟩ := kind_first hk hk0
    intro d hd
    rw [take_cons (wlen_pos _), List.mem_cons] at hd
    rcases hd with rfl | hd
    · -- the first byte
      rintro rfl
      obtain ⟨c', r', e, _, h10, _⟩ := kind_pos (l := 10 :: r) (by rw [hk]; exact hk0)
      injection e with e1 e2
      exact h10 e1.symm
    · have hw : wlen (c :: r) - 1 = endL k (c :: r) := by unfold wlen; rw [hk]; omega
      rw [hw] at hd
      rcases hk8 with rfl | rfl | rfl | rfl | rfl | rfl | rfl | rfl
      · exact absurd rfl hk0
      · exact nm_10 (run_all nm r d hd)
      · exact nm_10 (run_all nm r d hd)
      · cases hd
      · rcases num_all r d hd with rfl | h
        · decide
        · exact dgc_10 h
      · exact absurd rfl hk5
      · exact nm_10 (run_all nm r d hd)
      · cases r with
        | nil => cases hd
        | cons e r =>
          rw [show endL 7 (c :: e :: r) = goL (sgnS (pair (c :: e :: r))) true (e :: r) from rfl, sgn_true] at hd
          by_cases hp : pair (c :: e :: r) = true
          · rw [if_pos hp, List.take_succ_cons, List.take_zero, List.mem_singleton] at hd
            subst hd
            rintro rfl
            unfold pair at hp
            simp (decide := true) at hp
          · rw [if_neg hp] at hd
            cases hd
end Go.Proofs.YtgmjpcaennmgoaaGreatDoor
namespace Go.Proofs.YtgmjpcaennmgoaaGreatDoor
set_option linter.unusedVariables false
set_option linter.unusedSimpArgs false
set_option maxRecDepth 100000

/-- A word at its place. -/
def Tk.at (x : Tk) (L C : Nat) : Tk := { x with ln := L, cl := C }
/-- The words of a text that begins at that line, at that byte of it; error and place of what is none. -/
inductive Wds : List UInt8 → Nat → Nat → List Tk → Int → Int → Int → Prop
  | done {l L C L' C'} : skipL false l L C = ([], L', C') → Wds l L C [] 0 0 0
  | bad {l L C c r L' C'} : skipL false l L C = (c :: r, L', C') → (meanW (c :: r)).2 ≠ 0 → Wds l L C [] (meanW (c :: r)).2 L' C'
  | word {l L C c r L' C' T E ln cl} : skipL false l L C = (c :: r, L', C') → (meanW (c :: r)).2 = 0 → Wds ((c :: r).drop (wlen (c :: r))) L' (C' + wlen (c :: r)) T E ln cl →
      Wds l L C ((meanW (c :: r)).1.at L' C' :: T) E ln cl
theorem Wds.word' {l l' : List UInt8} {L C L' C' : Nat} {T : List Tk} {E ln cl : Int} (hs : skipL false l L C = (l', L', C')) (hne : l' ≠ []) (h0 : (meanW l').2 = 0) (h : Wds (l'.drop (wlen l')) L' (C' + wlen l') T E ln cl) :
    Wds l L C ((meanW l').1.at L' C' :: T) E ln cl := by
  obtain ⟨c, r, rfl⟩ := List.exists_cons_of_ne_nil hne
  exact .word hs h0 h
theorem Wds.bad' {l l' : List UInt8} {L C L' C' : Nat} (hs : skipL false l L C = (l', L', C')) (hne : l' ≠ []) (h0 : (meanW l').2 ≠ 0) : Wds l L C [] (meanW l').2 L' C' := by
  obtain ⟨c, r, rfl⟩ := List.exists_cons_of_ne_nil hne
  exact .bad hs h0
theorem skip_len : ∀ (m : Bool) (l : List UInt8) (L C : Nat), (skipL m l L C).1.length ≤ l.length
  | m, [], L, C => by cases m <;> exact Nat.le_refl _
  | true, c :: r, L, C => by
    rw [skipL]
    split
    · exact Nat.le_succ_of_le (skip_len false r _ _)
    · exact Nat.le_succ_of_le (skip_len true r _ _)
  | false, c :: r, L, C => by
    rw [skipL]
    split
    · exact Nat.le_succ_of_le (skip_len false r _ _)
    split
    · exact Nat.le_succ_of_le (skip_len false r _ _)
    split
    · exact Nat.le_succ_of_le (skip_len true r _ _)
    · exact Nat.le_refl _
theorem lexS_word (f : Nat) (c : UInt8) (r : List UInt8) (L C : Nat) : lexS (f + 1) (c :: r) L C = if (meanW (c :: r)).2 = 0 then
      ((meanW (c :: r)).1.at L C :: (lexS f (skipL false ((c :: r).drop (wlen (c :: r))) L (C + wlen (c :: r))).1 (skipL false ((c :: r).drop (wlen (c :: r))) L (C + wlen (c :: r))).2.1 (skipL false ((c :: r).drop (wlen (c :: r))) L (C + wlen (c :: r))).2.2).1,
        (lexS f (skipL false ((c :: r).drop (wlen (c :: r))) L (C + wlen (c :: r))).1 (skipL false ((c :: r).drop (wlen (c :: r))) L (C + wlen (c :: r))).2.1 (skipL false ((c :: r).drop (wlen (c :: r))) L (C + wlen (c :: r))).2.2).2)
    else ([], (meanW (c :: r)).2, (L : Int), (C : Int)) := rfl
/-- The function is the relation. -/
theorem wds_lexS : ∀ (f : Nat) (l : List UInt8) (L C : Nat), l.length < f → ∀ T E ln cl, lexS f (skipL false l L C).1 (skipL false l L C).2.1 (skipL false l L C).2.2 = (T, E, ln, cl) → Wds l L C T E ln cl
  | 0, l, L, C, h, _, _, _, _, _ => absurd h (Nat.not_lt_zero _)
  | f + 1, l, L, C, h, T, E, ln, cl, e => by
    have hle := skip_len false l L C
    obtain ⟨⟨l', L', C'⟩, hs⟩ : ∃ x, skipL false l L C = x := ⟨_, rfl⟩
    rw [hs] at e hle
    simp only at e hle
    cases l' with
    | nil =>
      rw [lexS_nil] at e
      injection e with e1 e2
      injection e2 with e2 e3
      injection e3 with e3 e4
      subst e1 e2 e3 e4
      exact .done hs
    | cons c r =>
      rw [lexS_word] at e
      by_cases h0 : (meanW (c :: r)).2 = 0
      · rw [if_pos h0] at e
        injection e with e1 e2
        subst e1
        refine .word hs h0 (wds_lexS f _ _ _ ?_ _ _ _ _ ?_)
        · have := wlen_pos (c :: r)
          rw [List.length_drop]
          simp only [List.length_cons] at *
          omega
        · rw [← e2]
      · rw [if_neg h0] at e
        injection e with e1 e2
        injection e2 with e2 e3
        injection e3 with e3 e4
        subst e1 e2 e3 e4
        exact .bad hs h0
theorem wds_of {l : List UInt8} {T : List Tk} {E ln cl : Int} (h : lexL l = (T, E, ln, cl)) : Wds l 1 1 T E ln cl := wds_lexS (l.length + 1) l 1 1 (Nat.lt_succ_self _) T E ln cl h
theorem Wds.det {l : List UInt8} {L C : Nat} {T T' : List Tk} {E ln cl E' ln' cl' : Int} (h : Wds l L C T E ln cl) (h' : Wds l L C T' E' ln' cl') : T = T' ∧ E = E' ∧ ln = ln' ∧ cl = cl' := by
  induction h generalizing T' E' ln' cl' with
  | done hs =>
    cases h' with
    | done hs' => exact ⟨rfl, rfl, rfl, rfl⟩
    | bad hs' _ => rw [hs] at hs'; cases hs'
    | word hs' _ _ => rw [hs] at hs'; cases hs'
  | bad hs h0 =>
    cases h' with
    | done hs' => rw [hs] at hs'; cases hs'
    | bad hs' _ => rw [hs] at hs'; cases hs'; exact ⟨rfl, rfl, rfl, rfl⟩
    | word hs' h0' _ => rw [hs] at hs'; cases hs'; exact absurd h0' h0
  | word hs h0 _ ih =>
    cases h' with
    | done hs' => rw [hs] at hs'; cases hs'
    | bad hs' h0' => rw [hs] at hs'; cases hs'; exact absurd h0 h0'
    | word hs' _ h2 =>
      rw [hs] at hs'
      cases hs'
      obtain ⟨a, b, c, d⟩ := ih h2
      exact ⟨by rw [a], b, c, d⟩
theorem lexL_of {l : List UInt8} {T : List Tk} {E ln cl : Int} (h : Wds l 1 1 T E ln cl) : lexL l = (T, E, ln, cl) := by
  obtain ⟨⟨T', E', ln', cl'⟩, e⟩ : ∃ x, lexL l = x := ⟨_, rfl⟩
  obtain ⟨a, b, c, d⟩ := h.det (wds_of e)
  rw [e, a, b, c, d]
theorem Wds.zero {l : List UInt8} {L C : Nat} {T : List Tk} {E ln cl : Int} (h : Wds l L C T E ln cl) (h0 : E = 0) : ln = 0 ∧ cl = 0 := by
  induction h with
  | done hs => exact ⟨rfl, rfl⟩
  | bad hs h1 => exact absurd h0 h1
  | word hs h1 _ ih => exact ih h0
theorem Wds.len {l : List UInt8} {L C : Nat} {T : List Tk} {E ln cl : Int} (h : Wds l L C T E ln cl) : T.length ≤ l.length := by
  induction h with
  | done hs => exact Nat.zero_le _
  | bad hs h1 => exact Nat.zero_le _
  | @word l L C c r L' C' T E ln cl hs h1 _ ih =>
    have hle := skip_len false l L C
    rw [hs] at hle
    have := wlen_pos (c :: r)
    rw [List.length_drop] at ih
    simp only [List.length_cons] at *
    omega
/-- The place behind a text. -/
def adv : List UInt8 → Nat → Nat → Nat × Nat
  | [], L, C => (L, C)
  | c :: r, L, C => if c = 10 then adv r (L + 1) 1 else adv r L (C + 1)
theorem adv_app : ∀ (u v : List UInt8) (L C : Nat), adv (u ++ v) L C = adv v (adv u L C).1 (adv u L C).2
  | [], v, L, C => rfl
  | c :: u, v, L, C => by
    rw [List.cons_append, adv, adv]
    split
    · exact adv_app u v _ _
    · exact adv_app u v _ _
theorem adv_word : ∀ (u : List UInt8) (L C : Nat), (∀ c ∈ u, c ≠ 10) → adv u L C = (L, C + u.length)
  | [], L, C, _ => rfl
  | c :: u, L, C, h => by
    rw [adv, if_neg (h c (List.mem_cons_self ..)), adv_word u L (C + 1) (fun d hd => h d (List.mem_cons_of_mem _ hd)), List.length_cons]
    congr 1
    omega
/-- What is passed over, and where it ends; whatever word stands there. -/
theorem skip_adv : ∀ (m : Bool) (l : List UInt8) (L C : Nat), ∃ u, l = u ++ (skipL m l L C).1 ∧ adv u L C = (skipL m l L C).2 ∧ skipL m u L C = ([], (skipL m l L C).2) ∧ ∀ c r r', (skipL m l L C).1 = c :: r → skipL m (u ++ c :: r') L C = (c :: r', (skipL m l L C).2)
  | m, [], L, C => ⟨[], by cases m <;> rfl, by cases m <;> rfl, by cases m <;> rfl, fun c r r' h => by cases m <;> cases h⟩
  | true, c :: r, L, C => by
    rw [skipL]
    by_cases h : c = 10
    · rw [if_pos h]
      obtain ⟨u, h1, h2, h3, h4⟩ := skip_adv false r (L + 1) 1
      refine ⟨c :: u, by rw [List.cons_append, ← h1], by rw [adv, if_pos h, h2], by rw [skipL, if_pos h]; exact h3, fun d x y hx => by rw [List.cons_append, skipL, if_pos h]; exact h4 d x y hx⟩
    · rw [if_neg h]
      obtain ⟨u, h1, h2, h3, h4⟩ := skip_adv true r L (C + 1)
      refine ⟨c :: u, by rw [List.cons_append, ← h1], by rw [adv, if_neg h, h2], by rw [skipL, if_neg h]; exact h3, fun d x y hx => by rw [List.cons_append, skipL, if_neg h]; exact h4 d x y hx⟩
  | false, c :: r, L, C => by
    rw [skipL]
    by_cases h1 : c = 32
    · rw [if_pos h1]
      obtain ⟨u, g1, g2, g3, g4⟩ := skip_adv false r L (C + 1)
      refine ⟨c :: u, by rw [List.cons_append, ← g1], by rw [adv, if_neg (by rw [h1]; decide), g2], by rw [skipL, if_pos h1]; exact g3, fun d x y hx => by rw [List.cons_append, skipL, if_pos h1]; exact g4 d x y hx⟩
    rw [if_neg h1]
    by_cases h2 : c = 10
    · rw [if_pos h2]
      obtain ⟨u, g1, g2, g3, g4⟩ := skip_adv false r (L + 1) 1
      refine ⟨c :: u, by rw [List.cons_append, ← g1], by rw [adv, if_pos h2, g2], by rw [skipL, if_neg h1, if_pos h2]; exact g3, fun d x y hx => by rw [List.cons_append, skipL, if_neg h1, if_pos h2]; exact g4 d x y hx⟩
    rw [if_neg h2]
    by_cases h3 : c = 59
    · rw [if_pos h3]
      obtain ⟨u, g1, g2, g3, g4⟩ := skip_adv true r L (C + 1)
      refine ⟨c :: u, by rw [List.cons_append, ← g1], by rw [adv, if_neg h2, g2], by rw [skipL, if_neg h1, if_neg h2, if_pos h3]; exact g3, fun d x y hx => by rw [List.cons_append, skipL, if_neg h1, if_neg h2, if_pos h3]; exact g4 d x y hx⟩
    · rw [if_neg h3]
      refine ⟨[], rfl, rfl, rfl, fun d x y hx => ?_⟩
      injection hx with hx _
      subst hx
      rw [List.nil_append, skipL, if_neg h1, if_neg h2, if_neg h3]
/-- What begins with a word is left, whatever follows. -/
theorem skip_app : ∀ (m : Bool) (l : List UInt8) (L C : Nat) (c : UInt8) (r : List UInt8) (L' C' : Nat) (x : List UInt8), skipL m l L C = (c :: r, L', C') → skipL m (l ++ x) L C = (c :: r ++ x, L', C')
  | m, [], L, C, c, r, L', C', x, h => by cases m <;> cases h
  | true, d :: l, L, C, c, r, L', C', x, h => by
    rw [skipL] at h
    rw [List.cons_append, skipL]
    split at h
    · next h1 => rw [if_pos h1]; exact skip_app false l _ _ c r L' C' x h
    · next h1 => rw [if_neg h1]; exact skip_app true l _ _ c r L' C' x h
  | false, d :: l, L, C, c, r, L', C', x, h => by
    rw [skipL] at h
    rw [List.cons_append, skipL]
    split at h
    · next h1 => rw [if_pos h1]; exact skip_app false l _ _ c r L' C' x h
    · next h1 =>
      rw [if_neg h1]
      split at h
      · next h2 => rw [if_pos h2]; exact skip_app false l _ _ c r L' C' x h
      · next h2 =>
        rw [if_neg h2]
        split at h
        · next h3 => rw [if_pos h3]; exact skip_app true l _ _ c r L' C' x h
        · next h3 =>
          rw [if_neg h3]
          injection h with e1 e2
          injection e2 with e2 e3
          rw [← e1, e2, e3]
          rfl
/-- A text that has no word left, and a line end. -/
theorem skip_end : ∀ (m : Bool) (l : List UInt8) (L C L' C' : Nat) (t : List UInt8), skipL m l L C = ([], L', C') → skipL m (l ++ 10 :: t) L C = skipL false t (L' + 1) 1
  | m, [], L, C, L', C', t, h => by
    have e : skipL m [] L C = ([], L, C) := by cases m <;> rfl
    rw [e] at h
    injection h with e1 e2
    injection e2 with e2 e3
    rw [← e2]
    cases m <;> rfl
  | true, d :: l, L, C, L', C', t, h => by
    rw [skipL] at h
    rw [List.cons_append, skipL]
    split at h
    · next h1 => rw [if_pos h1]; exact skip_end false l _ _ L' C' t h
    · next h1 => rw [if_neg h1]; exact skip_end true l _ _ L' C' t h
  | false, d :: l, L, C, L', C', t, h => by
    rw [skipL] at h
    rw [List.cons_append, skipL]
    split at h
    · next h1 => rw [if_pos h1]; exact skip_end false l _ _ L' C' t h
    · next h1 =>
      rw [if_neg h1]
      split at h
      · next h2 => rw [if_pos h2]; exact skip_end false l _ _ L' C' t h
      · next h2 =>
        rw [if_neg h2]
        split at h
        · next h3 => rw [if_pos h3]; exact skip_end true l _ _ L' C' t h
        · cases h
theorem drop_app {p q : List UInt8} {n : Nat} (h : n ≤ p.length) : (p ++ q).drop n = p.drop n ++ q := by
  rw [List.drop_append_of_le_length h]

/-- What is none in the first text is none in both. -/
theorem Wds.join_bad {s : List UInt8} {L C : Nat} {T : List Tk} {E ln cl : Int} (h : Wds s L C T E ln cl) (h0 : E ≠ 0) (t : List UInt8) : ∃ T', Wds (s ++ 10 :: t) L C T' E ln cl := by
  induction h with
  | done hs => exact absurd rfl h0
  | @bad l L C c r L' C' hs h1 =>
    have hb := word_bad (l := c :: r) (by simp) h1 t
    have := Wds.bad' (skip_app _ _ _ _ _ _ _ _ (10 :: t) hs) (by simp) (by rw [hb]; exact h1)
    rw [hb] at this
    exact ⟨_, this⟩
  | @word l L C c r L' C' T E ln cl hs h1 _ ih =>
    obtain ⟨T', h2⟩ := ih h0
    obtain ⟨_, hw, hm⟩ := word_ext (l := c :: r) (by simp) h1 (Or.inl rfl : Stop 10) t
    refine ⟨_, Wds.word' (skip_app _ _ _ _ _ _ _ _ (10 :: t) hs) (by simp) (by rw [hm]; exact h1) (T := T') ?_⟩
    rw [hw, drop_app (wlen_le (by simp))]
    exact h2
/-- The line behind a text. -/
def lines (s : List UInt8) : Nat := s.count 10
theorem adv_line : ∀ (u : List UInt8) (L C : Nat), (adv u L C).1 = L + lines u
  | [], L, C => rfl
  | c :: u, L, C => by
    rw [adv]
    unfold lines
    split
    · next h => subst h; rw [adv_line u, List.count_cons_self]; unfold lines; omega
    · next h => rw [adv_line u, List.count_cons_of_ne h]; rfl
theorem lines_app (u v : List UInt8) : lines (u ++ v) = lines u + lines v := List.count_append
theorem lines_word {l : List UInt8} (h0 : (meanW l).2 = 0) : lines (l.take (wlen l)) = 0 :=
  List.count_eq_zero.2 (fun hm => word_no10 h0 10 hm rfl)
theorem skip_lines {l : List UInt8} {L C : Nat} {l' : List UInt8} {L' C' : Nat} (hs : skipL false l L C = (l', L', C')) : L' + lines l' = L + lines l := by
  obtain ⟨u, h1, h2, _, _⟩ := skip_adv false l L C
  rw [hs] at h1 h2
  have h3 := adv_line u L C
  rw [h2] at h3
  simp only at h3 h1
  rw [h1, lines_app, h3]
  omega
/-- The words of both. -/
theorem Wds.join {s : List UInt8} {L C : Nat} {T : List Tk} {E ln cl : Int} (h : Wds s L C T E ln cl) (h0 : E = 0) {t : List UInt8} {T2 : List Tk} {e2 l2 c2 : Int} (h2 : Wds t (L + lines s + 1) 1 T2 e2 l2 c2) :
    Wds (s ++ 10 :: t) L C (T ++ T2) e2 l2 c2 := by
  induction h with
  | @done l L C L' C' hs =>
    have hl := skip_lines hs
    have h3 := skip_end _ _ _ _ _ _ t hs
    rw [show L' + lines [] = L' from rfl] at hl
    rw [hl] at h3
    rw [List.nil_append]
    cases h2 with
    | done g => exact .done (h3.trans g)
    | bad g g0 => exact .bad (h3.trans g) g0
    | word g g0 g1 => exact .word (h3.trans g) g0 g1
  | bad hs h1 => exact absurd h0 h1
  | @word l L C c r L' C' T E ln cl hs h1 _ ih =>
    obtain ⟨_, hw, hm⟩ := word_ext (l := c :: r) (by simp) h1 (Or.inl rfl : Stop 10) t
    have hl := skip_lines hs
    have hl2 : lines ((c :: r).drop (wlen (c :: r))) = lines (c :: r) := by
      have := lines_app ((c :: r).take (wlen (c :: r))) ((c :: r).drop (wlen (c :: r)))
      rw [List.take_append_drop, lines_word h1] at this
      omega
    rw [← hl, ← hl2] at h2
    have h3 := ih h0 h2
    have := Wds.word' (skip_app _ _ _ _ _ _ _ _ (10 :: t) hs) (by simp) (by rw [hm]; exact h1) (T := T ++ T2) (E := e2) (ln := l2) (cl := c2) (by
      rw [hw, drop_app (wlen_le (by simp))]
      exact h3)
    rw [hm] at this
    exact this
end Go.Proofs.YtgmjpcaennmgoaaGreatDoor
namespace Go.Proofs.YtgmjpcaennmgoaaGreatDoor
set_option linter.unusedVariables false
set_option linter.unusedSimpArgs false
set_option maxRecDepth 100000

theorem take_len {l : List UInt8} (hl : l ≠ []) : (l.take (wlen l)).length = wlen l := by
  rw [List.length_take]
  have := wlen_le hl
  omega
/-- A text that is cut right ahead of a word has the words ahead of it. -/
theorem Wds.cut {s : List UInt8} {L C : Nat} {T : List Tk} {E ln cl : Int} (h : Wds s L C T E ln cl) : ∀ k x, T[k]? = some x →
    ∃ u v, s = u ++ v ∧ v ≠ [] ∧ x.ln = ((adv u L C).1 : Int) ∧ x.cl = ((adv u L C).2 : Int) ∧ Wds u L C (T.take k) 0 0 0 := by
  induction h with
  | done hs => intro k x hx; cases hx
  | bad hs h1 => intro k x hx; cases hx
  | @word l L C c r L' C' T E ln cl hs h1 _ ih =>
    intro k x hx
    obtain ⟨u0, g1, g2, g3, g4⟩ := skip_adv false l L C
    rw [hs] at g1 g2 g3 g4
    simp only at g1 g2 g3 g4
    cases k with
    | zero =>
      rw [List.getElem?_cons_zero] at hx
      injection hx with hx
      subst hx
      exact ⟨u0, c :: r, g1, by simp, by rw [g2]; rfl, by rw [g2]; rfl, .done g3⟩
    | succ k =>
      rw [List.getElem?_cons_succ] at hx
      obtain ⟨u1, v1, e1, e2, e3, e4, e5⟩ := ih k x hx
      have hn : (c :: r : List UInt8) ≠ [] := by simp
      obtain ⟨w, hw⟩ : ∃ w, w = (c :: r).take (wlen (c :: r)) := ⟨_, rfl⟩
      have hwl : w.length = wlen (c :: r) := by rw [hw, take_len hn]
      have hcr : c :: r = w ++ u1 ++ v1 := by
        rw [List.append_assoc, ← e1, hw, List.take_append_drop]
      have hwu : w ++ u1 ≠ [] := by
        intro e
        have := congrArg List.length e
        rw [List.length_append, hwl, List.length_nil] at this
        have := wlen_pos (c :: r)
        omega
      have hle : wlen (w ++ u1 ++ v1) ≤ (w ++ u1).length := by
        rw [← hcr, List.length_append, hwl]
        omega
      have hm := mean_cut hwu hle
      have hk := (word_cut hwu hle).2
      rw [← hcr] at hm hk
      obtain ⟨d, y, hdy⟩ := List.exists_cons_of_ne_nil hwu
      have hdc : d = c := by
        rw [hdy] at hcr
        injection hcr with hcr
        exact hcr.symm
      have hsk := g4 c r y rfl
      rw [← hdc, ← hdy] at hsk
      refine ⟨u0 ++ (w ++ u1), v1, by rw [g1, hcr]; simp only [List.append_assoc], e2, ?_, ?_, ?_⟩
      · rw [e3, adv_app, g2, adv_app, adv_word w _ _ (by rw [hw]; exact word_no10 h1), hwl]
      · rw [e4, adv_app, g2, adv_app, adv_word w _ _ (by rw [hw]; exact word_no10 h1), hwl]
      · rw [List.take_succ_cons, ← hm]
        refine Wds.word' hsk hwu (by rw [hm]; exact h1) ?_
        rw [hk, List.drop_left' hwl]
        exact e5

def lt2 (a b : Nat × Nat) : Prop := a.1 < b.1 ∨ (a.1 = b.1 ∧ a.2 < b.2)
def le2 (a b : Nat × Nat) : Prop := a.1 < b.1 ∨ (a.1 = b.1 ∧ a.2 ≤ b.2)
theorem adv_ge : ∀ (u : List UInt8) (L C : Nat), le2 (L, C) (adv u L C) ∧ (1 ≤ C → 1 ≤ (adv u L C).2)
  | [], L, C => ⟨Or.inr ⟨rfl, Nat.le_refl _⟩, fun h => h⟩
  | c :: u, L, C => by
    rw [adv]
    split
    · have := adv_ge u (L + 1) 1
      refine ⟨?_, fun _ => this.2 (Nat.le_refl _)⟩
      rcases this.1 with h | h
      · exact Or.inl (by simp only at h ⊢; omega)
      · exact Or.inl (by have := h.1; simp only at this ⊢; omega)
    · have := adv_ge u L (C + 1)
      refine ⟨?_, fun _ => this.2 (by omega)⟩
      rcases this.1 with h | h
      · exact Or.inl h
      · exact Or.inr ⟨h.1, by have := h.2; simp only at this ⊢; omega⟩
/-- Places rise. -/
def Lt (x y : Tk) : Prop := x.ln < y.ln ∨ (x.ln = y.ln ∧ x.cl < y.cl)
theorem Wds.rise {s : List UInt8} {L C : Nat} {T : List Tk} {E ln cl : Int} (h : Wds s L C T E ln cl) : (∀ x ∈ T, (L : Int) < x.ln ∨ ((L : Int) = x.ln ∧ (C : Int) ≤ x.cl)) ∧ T.Pairwise Lt := by
  induction h with
  | done hs => exact ⟨fun x hx => (by cases hx), List.Pairwise.nil⟩
  | bad hs h1 => exact ⟨fun x hx => (by cases hx), List.Pairwise.nil⟩
  | @word l L C c r L' C' T E ln cl hs h1 _ ih =>
    obtain ⟨u0, g1, g2, g3, g4⟩ := skip_adv false l L C
    rw [hs] at g2
    simp only at g2
    have hge := (adv_ge u0 L C).1
    rw [g2] at hge
    unfold le2 at hge
    simp only at hge
    have hn := wlen_pos (c :: r)
    refine ⟨fun x hx => ?_, List.pairwise_cons.2 ⟨fun y hy => ?_, ih.2⟩⟩
    · rcases List.mem_cons.1 hx with rfl | hx
      · show (L : Int) < (L' : Int) ∨ ((L : Int) = (L' : Int) ∧ (C : Int) ≤ (C' : Int))
        omega
      · have := ih.1 x hx
        omega
    · have := ih.1 y hy
      show (L' : Int) < y.ln ∨ ((L' : Int) = y.ln ∧ (C' : Int) < y.cl)
      omega
theorem Wds.place {s : List UInt8} {L C : Nat} {T : List Tk} {E ln cl : Int} (h : Wds s L C T E ln cl) (h0 : E ≠ 0) (hL : 1 ≤ L) (hC : 1 ≤ C) : 1 ≤ ln ∧ 1 ≤ cl := by
  induction h with
  | done hs => exact absurd rfl h0
  | @bad l L C c r L' C' hs h1 =>
    obtain ⟨u0, g1, g2, g3, g4⟩ := skip_adv false l L C
    rw [hs] at g2
    simp only at g2
    have hge := adv_ge u0 L C
    rw [g2] at hge
    unfold le2 at hge
    simp only at hge
    have := hge.2 hC
    omega
  | @word l L C c r L' C' T E ln cl hs h1 _ ih =>
    obtain ⟨u0, g1, g2, g3, g4⟩ := skip_adv false l L C
    rw [hs] at g2
    simp only at g2
    have hge := adv_ge u0 L C
    rw [g2] at hge
    unfold le2 at hge
    simp only at hge
    have := hge.2 hC
    exact ih h0 (by omega) (by omega)

/-- So many lines further down. -/
def Tk.down (d : Nat) (x : Tk) : Tk := { x with ln := x.ln + d }
theorem skip_shift (d : Nat) : ∀ (m : Bool) (l : List UInt8) (L C : Nat) (l' : List UInt8) (L' C' : Nat), skipL m l L C = (l', L', C') → skipL m l (L + d) C = (l', L' + d, C')
  | m, [], L, C, l', L', C', h => by
    have e : skipL m [] L C = ([], L, C) := by cases m <;> rfl
    have e' : skipL m [] (L + d) C = ([], L + d, C) := by cases m <;> rfl
    rw [e] at h
    rw [e']
    cases h
    rfl
  | true, c :: r, L, C, l', L', C', h => by
    rw [skipL] at h ⊢
    split at h
    · next h1 => rw [if_pos h1, show L + d + 1 = L + 1 + d by omega]; exact skip_shift d false r _ _ _ _ _ h
    · next h1 => rw [if_neg h1]; exact skip_shift d true r _ _ _ _ _ h
  | false, c :: r, L, C, l', L', C', h => by
    rw [skipL] at h ⊢
    split at h
    · next h1 => rw [if_pos h1]; exact skip_shift d false r _ _ _ _ _ h
    · next h1 =>
      rw [if_neg h1]
      split at h
      · next h2 => rw [if_pos h2, show L + d + 1 = L + 1 + d by omega]; exact skip_shift d false r _ _ _ _ _ h
      · next h2 =>
        rw [if_neg h2]
        split at h
        · next h3 => rw [if_pos h3]; exact skip_shift d true r _ _ _ _ _ h
        · next h3 =>
          rw [if_neg h3]
          cases h
          rfl
theorem Wds.shift {s : List UInt8} {L C : Nat} {T : List Tk} {E ln cl : Int} (d : Nat) (h : Wds s L C T E ln cl) : Wds s (L + d) C (T.map (Tk.down d)) E (if E = 0 then 0 else ln + d) cl := by
  induction h with
  | done hs => exact .done (skip_shift d _ _ _ _ _ _ _ hs)
  | @bad l L C c r L' C' hs h1 =>
    rw [if_neg h1]
    have := Wds.bad (skip_shift d _ _ _ _ _ _ _ hs) h1
    rw [Int.natCast_add] at this
    exact this
  | @word l L C c r L' C' T E ln cl hs h1 _ ih =>
    have := Wds.word (skip_shift d _ _ _ _ _ _ _ hs) h1 ih
    rw [List.map_cons]
    have e : ((meanW (c :: r)).1.at L' C').down d = (meanW (c :: r)).1.at (L' + d) C' := by
      unfold Tk.at Tk.down
      simp only [Int.natCast_add]
    rw [e]
    exact this

/-- A word but for its place. -/
def Tk.bare (x : Tk) : Tk := { x with ln := 0, cl := 0 }
/-- w is that word, spelled. -/
def Good (w : List UInt8) (x : Tk) : Prop := w ≠ [] ∧ wlen w = w.length ∧ (meanW w).2 = 0 ∧ (meanW w).1.bare = x.bare
theorem Wds.good {s : List UInt8} {L C : Nat} {T : List Tk} {E ln cl : Int} (h : Wds s L C T E ln cl) : (∀ x ∈ T, Good (spellL x) x) ∧ (T.map fun x => (spellL x).length).sum ≤ s.length := by
  induction h with
  | done hs => exact ⟨fun x hx => (by cases hx), Nat.zero_le _⟩
  | bad hs h1 => exact ⟨fun x hx => (by cases hx), Nat.zero_le _⟩
  | @word l L C c r L' C' T E ln cl hs h1 _ ih =>
    have hn : (c :: r : List UInt8) ≠ [] := by simp
    have hsp : spellL ((meanW (c :: r)).1.at L' C') = (c :: r).take (wlen (c :: r)) := (show spellL ((meanW (c :: r)).1.at L' C') = spellL (meanW (c :: r)).1 from rfl).trans (spell_word h1)
    have hl := take_len hn
    refine ⟨fun x hx => ?_, ?_⟩
    · rcases List.mem_cons.1 hx with rfl | hx
      · rw [hsp]
        have hne : (c :: r).take (wlen (c :: r)) ≠ [] := by rw [take_cons (wlen_pos _)]; simp
        have hle : wlen ((c :: r).take (wlen (c :: r)) ++ (c :: r).drop (wlen (c :: r))) ≤ ((c :: r).take (wlen (c :: r))).length := by rw [List.take_append_drop, hl]; exact Nat.le_refl _
        have hk := (word_cut hne hle).2
        have hm := mean_cut hne hle
        rw [List.take_append_drop] at hk hm
        exact ⟨hne, by rw [hk, hl], by rw [hm]; exact h1, by rw [hm]; rfl⟩
      · exact ih.1 x hx
    · rw [List.map_cons, List.sum_cons, hsp, hl]
      have h2 := ih.2
      rw [List.length_drop] at h2
      have h3 := skip_len false l L C
      rw [hs] at h3
      have h4 := wlen_le hn
      simp only at h3
      omega
theorem Wds.skip {l l' : List UInt8} {L C L' C' : Nat} {T : List Tk} {E ln cl : Int} (hs : skipL false l L C = skipL false l' L' C') (h : Wds l' L' C' T E ln cl) : Wds l L C T E ln cl := by
  cases h with
  | done g => exact .done (hs.trans g)
  | bad g g0 => exact .bad (hs.trans g) g0
  | word g g0 g1 => exact .word (hs.trans g) g0 g1
/-- Words with that between. -/
def joinB (b : List UInt8) : List (List UInt8) → List UInt8
  | [] => []
  | [w] => w
  | w :: v :: ws => w ++ (b ++ joinB b (v :: ws))
/-- What may stand between: it is passed over, and ends a word. -/
def Between (b : List UInt8) : Prop := (∃ c r, b = c :: r ∧ Stop c) ∧ ∀ rest L C, ∃ L' C', skipL false (b ++ rest) L C = skipL false rest L' C'
theorem between_sp : Between [32] := ⟨⟨32, [], rfl, Or.inr rfl⟩, fun rest L C => ⟨L, C + 1, rfl⟩⟩
theorem between_nl : Between [10] := ⟨⟨10, [], rfl, Or.inl rfl⟩, fun rest L C => ⟨L + 1, 1, rfl⟩⟩
theorem between_rem : Between [32, 59, 32, 97, 32, 114, 101, 109, 97, 114, 107, 10] := ⟨⟨32, _, rfl, Or.inr rfl⟩, fun rest L C => ⟨L + 1, 1, rfl⟩⟩
theorem skip_word {w : List UInt8} (h0 : (meanW w).2 = 0) (x : List UInt8) (L C : Nat) : skipL false (w ++ x) L C = (w ++ x, L, C) := by
  have hk : kindL w ≠ 0 := by
    intro e
    rw [mean_k w 0 e] at h0
    exact absurd h0 (show ¬ (4 : Int) = 0 by decide)
  obtain ⟨c, r, rfl, h1, h2, h3⟩ := kind_pos hk
  exact skip_no c (r ++ x) L C h1 h2 h3
theorem back {b : List UInt8} (hb : Between b) : ∀ (T : List Tk), (∀ x ∈ T, Good (spellL x) x) → ∀ L C, ∃ T', Wds (joinB b (T.map spellL)) L C T' 0 0 0 ∧ T'.map Tk.bare = T.map Tk.bare
  | [], _, L, C => ⟨[], .done rfl, rfl⟩
  | [x], h, L, C => by
    obtain ⟨h1, h2, h3, h4⟩ := h x (List.mem_cons_self ..)
    have hs := skip_word h3 [] L C
    rw [List.append_nil] at hs
    refine ⟨[(meanW (spellL x)).1.at L C], Wds.word' hs h1 h3 ?_, ?_⟩
    · rw [h2, List.drop_length]
      exact .done rfl
    · rw [List.map_cons, List.map_cons, ← h4]
      rfl
  | x :: y :: T, h, L, C => by
    obtain ⟨h1, h2, h3, h4⟩ := h x (List.mem_cons_self ..)
    obtain ⟨⟨c, r, hcr, hc⟩, hsk⟩ := hb
    obtain ⟨L', C', hsk⟩ := hsk (joinB b ((y :: T).map spellL)) L (C + (spellL x).length)
    obtain ⟨T', g1, g2⟩ := back ⟨⟨c, r, hcr, hc⟩, by assumption⟩ (y :: T) (fun z hz => h z (List.mem_cons_of_mem _ hz)) L' C'
    obtain ⟨_, hw, hm⟩ := word_ext h1 h3 hc (r ++ joinB b ((y :: T).map spellL))
    rw [← List.cons_append, ← hcr] at hw hm
    refine ⟨(meanW (spellL x)).1.at L C :: T', ?_, ?_⟩
    · have := Wds.word' (skip_word h3 (b ++ joinB b ((y :: T).map spellL)) L C) (by simp [h1]) (by rw [hm]; exact h3) (T := T') (E := 0) (ln := 0) (cl := 0) (by
        rw [hw, h2, List.drop_left' rfl]
        exact Wds.skip hsk g1)
      rw [hm] at this
      exact this
    · rw [List.map_cons, List.map_cons, g2, ← h4]
      rfl
theorem joinB_len (b : List UInt8) : ∀ (ws : List (List UInt8)), (joinB b ws).length ≤ (ws.map List.length).sum + ws.length * b.length
  | [] => Nat.zero_le _
  | [w] => by simp [joinB]
  | w :: v :: ws => by
    have := joinB_len b (v :: ws)
    rw [joinB, List.length_append, List.length_append, List.map_cons, List.sum_cons, List.length_cons]
    rw [Nat.add_mul]
    omega
end Go.Proofs.YtgmjpcaennmgoaaGreatDoor
