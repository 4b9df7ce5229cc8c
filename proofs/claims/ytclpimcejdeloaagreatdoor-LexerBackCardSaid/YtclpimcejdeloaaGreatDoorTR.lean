/- Layer lexer, plain: words cut off, words told again, words without line ends. -/
import Derived.Test.YtclpimcejdeloaaGreatDoorTQ
namespace Go.Proofs.YtclpimcejdeloaaGreatDoor
set_option linter.unusedVariables false
set_option linter.unusedSimpArgs false
set_option maxRecDepth 100000

/-- What the word that begins here means. -/
def meanW (l : List UInt8) : Tk × Int := meanL (kindL l) (l.take (wlen l))

theorem esc_cons (c : UInt8) (v : List UInt8) : escL (c :: v) = escB c ++ escL v := rfl
theorem str_cons (en es : Bool) (c : UInt8) (r : List UInt8) : strS (en, es) (c :: r) = if en then none else some (c == 34 && !es, c == 92 && !es) := rfl
theorem quo_len : ∀ (v x : List UInt8), goL strS (false, false) (escL v ++ 34 :: x) = (escL v).length + 1
  | [], x => by
    have h1 : strS (false, false) (34 :: x) = some (true, false) := rfl
    rw [show escL [] = [] from rfl, List.nil_append, goL_go h1]
    cases x with
    | nil => rfl
    | cons c x => rw [goL_stop (by rw [str_cons]; rfl)]; rfl
  | c :: v, x => by
    rw [esc_cons]
    unfold escB
    by_cases h : c = 34 ∨ c = 92
    · rw [if_pos h]
      have h1 : strS (false, false) (92 :: (c :: (escL v ++ 34 :: x))) = some (false, true) := rfl
      have h2 : strS (false, true) (c :: (escL v ++ 34 :: x)) = some (false, false) := by
        rw [str_cons]
        simp
      rw [List.append_assoc, List.cons_append, List.cons_append, List.nil_append, goL_go h1, goL_go h2, quo_len v x]
      simp only [List.length_append, List.length_cons, List.length_nil]
      omega
    · rw [if_neg h]
      rw [not_or] at h
      have h1 : strS (false, false) (c :: (escL v ++ 34 :: x)) = some (false, false) := by
        rw [str_cons, beq_false_of_ne h.1, beq_false_of_ne h.2]
        rfl
      rw [List.append_assoc, List.cons_append, List.nil_append, goL_go h1, quo_len v x]
      simp only [List.length_append, List.length_cons, List.length_nil]
      omega

theorem wlen_pos (l : List UInt8) : 1 ≤ wlen l := by unfold wlen; omega
theorem take_cons {c : UInt8} {r : List UInt8} {n : Nat} (h : 1 ≤ n) : (c :: r).take n = c :: r.take (n - 1) := by
  obtain ⟨m, rfl⟩ : ∃ m, n = m + 1 := ⟨n - 1, by omega⟩
  rfl
theorem valued_err (k : Int) (l : List UInt8) (h : (valuedL k l).2 = 0) : (parseL l).e = 0 := by
  unfold valuedL at h
  split at h
  · cases h
  · split at h
    · cases h
    · next h1 => simpa using h1
theorem mean5 {l : List UInt8} (h5 : kindL l = 5) : meanW l = valuedL 5 (l.take (wlen l)) := by
  unfold meanW
  rw [h5]
  rfl
/-- A word in quotes that is one. -/
theorem good_str {l : List UInt8} (h5 : kindL l = 5) (h0 : (meanW l).2 = 0) : ∃ v x, l = 34 :: (escL v ++ 34 :: x) ∧ (∀ c ∈ v, 32 ≤ c.toNat ∧ c.toNat ≤ 126) ∧ wlen l = (escL v).length + 2 := by
  cases l with
  | nil => cases h5
  | cons c r =>
    obtain rfl := kind5 h5
    rw [mean5 h5] at h0
    have hp := valued_err _ _ h0
    rw [take_cons (wlen_pos _)] at hp
    obtain ⟨v, hv, hb⟩ := parse_ok34 _ hp
    rw [← take_cons (wlen_pos _)] at hv
    have hl : 34 :: r = 34 :: (escL v ++ 34 :: (34 :: r).drop (wlen (34 :: r))) := by
      have := List.take_append_drop (wlen (34 :: r)) (34 :: r)
      rw [hv] at this
      exact this.symm.trans (by simp [quoteL])
    refine ⟨v, _, hl, hb, ?_⟩
    have hw : wlen (34 :: r) = goL strS (false, false) r + 1 := by unfold wlen; rw [h5]; rfl
    have hr : r = escL v ++ 34 :: (34 :: r).drop (wlen (34 :: r)) := by injection hl
    rw [hw]
    generalize (34 :: r).drop (wlen (34 :: r)) = x at hr
    rw [hr, quo_len]

/-- What is cut off behind a word changes it not. -/
theorem word_cut {p q : List UInt8} (hp : p ≠ []) (h : wlen (p ++ q) ≤ p.length) : kindL p = kindL (p ++ q) ∧ wlen p = wlen (p ++ q) := by
  match p, hp with
  | [c], _ =>
    rw [List.cons_append, List.nil_append] at h ⊢
    have he : endL (kindL (c :: q)) (c :: q) = 0 := by
      unfold wlen at h
      simp only [List.length_cons, List.length_nil] at h
      omega
    have hk : kindL [c] = kindL (c :: q) := by
      rw [kind_cons] at he ⊢
      rw [kind_cons]
      by_cases h1 : sm c = true
      · rw [if_pos h1, if_pos h1]
      rw [if_neg h1] at he
      rw [if_neg h1, if_neg h1]
      by_cases h2 : dgc c = true
      · rw [if_pos h2, if_pos h2]
      rw [if_neg h2] at he
      rw [if_neg h2, if_neg h2]
      by_cases h3 : c = 34
      · rw [if_pos h3, if_pos h3]
      rw [if_neg h3] at he
      rw [if_neg h3, if_neg h3]
      by_cases h4 : c = 35
      · rw [if_pos h4, if_pos h4]
      rw [if_neg h4] at he
      rw [if_neg h4, if_neg h4]
      by_cases h5 : c = 63
      · rw [if_pos h5] at he
        rw [if_pos h5, if_pos h5]
        cases q with
        | nil => rfl
        | cons d q =>
          by_cases h6 : sm d = true
          · exfalso
            rw [show hd sm (d :: q) = sm d from rfl, if_pos h6] at he
            have hs : runS nm () (d :: q) = some () := by
              rw [show runS nm () (d :: q) = if nm d then some () else none from rfl, if_pos (by unfold nm; rw [h6]; rfl)]
            rw [show endL 2 (c :: d :: q) = goL (runS nm) () (d :: q) from rfl, goL_go hs] at he
            cases he
          · rw [show hd sm (d :: q) = sm d from rfl, if_neg h6]
            rfl
      rw [if_neg h5] at he
      rw [if_neg h5, if_neg h5]
      by_cases h6 : sgn c = true
      · rw [h6]
        rfl
      · have h6' : sgn c = false := by simpa using h6
        rw [h6', Bool.false_or] at he ⊢
        rw [Bool.false_or]
        cases q with
        | nil => rfl
        | cons d q =>
          cases h7 : pair (c :: d :: q) with
          | false => rfl
          | true =>
            exfalso
            rw [h7, if_pos rfl, show endL 7 (c :: d :: q) = goL (sgnS (pair (c :: d :: q))) true (d :: q) from rfl, h7, sgn_true] at he
            cases he
    refine ⟨hk, ?_⟩
    unfold wlen
    rw [he, hk]
    unfold endL
    have g1 : goL (sgnS (pair [c])) true [c].tail = 0 := rfl
    have g2 : goL (runS nm) () [c].tail = 0 := rfl
    have g3 : goL numS false [c].tail = 0 := rfl
    have g4 : goL strS (false, false) [c].tail = 0 := rfl
    rw [g1, g2, g3, g4]
    repeat' split
    all_goals rfl
  | c :: d :: p, _ =>
    have hk : kindL (c :: d :: p) = kindL (c :: d :: p ++ q) := rfl
    refine ⟨hk, ?_⟩
    unfold wlen at h ⊢
    rw [← hk] at h ⊢
    have h' : endL (kindL (c :: d :: p)) (c :: d :: p ++ q) ≤ (d :: p).length := by
      rw [List.length_cons (a := c)] at h
      omega
    congr 1
    generalize kindL (c :: d :: p) = k at h'
    unfold endL at h' ⊢
    rw [show (c :: d :: p ++ q).tail = (d :: p) ++ q from rfl, show pair (c :: d :: p ++ q) = pair (c :: d :: p) from rfl] at h' ⊢
    rw [List.tail_cons]
    by_cases k1 : k = 1 ∨ k = 2 ∨ k = 6
    · rw [if_pos k1] at h' ⊢
      rw [if_pos k1]
      exact goL_cut (local_run nm) _ _ _ h'
    rw [if_neg k1] at h' ⊢
    rw [if_neg k1]
    by_cases k2 : k = 4
    · rw [if_pos k2] at h' ⊢
      rw [if_pos k2]
      exact num_cut _ _ _ h'
    rw [if_neg k2] at h' ⊢
    rw [if_neg k2]
    by_cases k3 : k = 5
    · rw [if_pos k3] at h' ⊢
      rw [if_pos k3]
      exact goL_cut local_str _ _ _ h'
    rw [if_neg k3] at h' ⊢
    rw [if_neg k3]
    by_cases k4 : k = 7
    · rw [if_pos k4] at h' ⊢
      rw [if_pos k4]
      exact goL_cut (local_sgn _) _ _ _ h'
    · rw [if_neg k4, if_neg k4]
theorem take_app {p q : List UInt8} {n : Nat} (h : n ≤ p.length) : (p ++ q).take n = p.take n := by
  rw [List.take_append_of_le_length h]
theorem mean_cut {p q : List UInt8} (hp : p ≠ []) (h : wlen (p ++ q) ≤ p.length) : meanW p = meanW (p ++ q) := by
  obtain ⟨h1, h2⟩ := word_cut hp h
  unfold meanW
  rw [h1, h2, take_app h]
/-- A word stays the same, whatever follows behind a blank. -/
theorem word_ext {l : List UInt8} (hl : l ≠ []) (h0 : (meanW l).2 = 0) {c : UInt8} (hc : Stop c) (t : List UInt8) : kindL (l ++ c :: t) = kindL l ∧ wlen (l ++ c :: t) = wlen l ∧ meanW (l ++ c :: t) = meanW l := by
  have hk := kind_ext (t := t) hc hl
  have hw : wlen (l ++ c :: t) = wlen l := by
    by_cases h5 : kindL l = 5
    · obtain ⟨v, x, hv, _, hw⟩ := good_str h5 h0
      rw [hw]
      unfold wlen
      rw [hk, h5, hv, List.cons_append, List.append_assoc, List.cons_append]
      show goL strS (false, false) (escL v ++ 34 :: (x ++ c :: t)) + 1 = _
      rw [quo_len]
    · exact wlen_ext hc hl h5
  refine ⟨hk, hw, ?_⟩
  unfold meanW
  rw [hk, hw, take_app (wlen_le hl)]
/-- What is none is none, whatever follows behind a line end. -/
theorem word_bad {l : List UInt8} (hl : l ≠ []) (h0 : (meanW l).2 ≠ 0) (t : List UInt8) : (meanW (l ++ 10 :: t)).2 = (meanW l).2 := by
  have hk := kind_ext (t := t) (Or.inl rfl : Stop 10) hl
  by_cases h5 : kindL l = 5
  · by_cases hc : wlen (l ++ 10 :: t) ≤ l.length
    · rw [mean_cut hl hc]
    · obtain ⟨c, r, rfl⟩ := List.exists_cons_of_ne_nil hl
      obtain rfl := kind5 h5
      have e4 : ∀ (x : List UInt8), (valuedL 5 (34 :: x)).2 ≠ 0 → (valuedL 5 (34 :: x)).2 = 4 := by
        intro x hx
        unfold valuedL at hx ⊢
        rw [if_neg (parse_no9 x)] at hx ⊢
        split
        · rfl
        · next h1 =>
          rw [if_neg h1] at hx
          exact absurd rfl hx
      rw [mean5 h5] at h0 ⊢
      rw [mean5 (hk.trans h5)]
      rw [take_cons (wlen_pos _)] at h0 ⊢
      rw [e4 _ h0, List.cons_append, take_cons (wlen_pos _)]
      refine e4 _ (fun he => ?_)
      have hp := valued_err _ _ he
      obtain ⟨v, hv, hb⟩ := parse_ok34 _ hp
      have hm : (10 : UInt8) ∈ quoteL v := by
        rw [← hv]
        refine List.mem_cons_of_mem _ ?_
        have hlt : r.length < wlen (34 :: (r ++ 10 :: t)) - 1 := by
          rw [List.cons_append, List.length_cons] at hc
          omega
        refine List.mem_iff_getElem?.2 ⟨r.length, ?_⟩
        rw [List.getElem?_take, if_pos hlt, List.getElem?_append_right (Nat.le_refl _), Nat.sub_self]
        rfl
      unfold quoteL at hm
      rw [List.mem_cons, List.mem_append] at hm
      rcases hm with hm | hm | hm
      · cases hm
      · unfold escL at hm
        rw [List.mem_flatMap] at hm
        obtain ⟨d, hd, hm⟩ := hm
        unfold escB at hm
        split at hm
        · rw [List.mem_cons, List.mem_singleton] at hm
          rcases hm with hm | hm
          · cases hm
          · have := hb d hd
            rw [← hm] at this
            exact absurd this.1 (by decide)
        · rw [List.mem_singleton] at hm
          have := hb d hd
          rw [← hm] at this
          exact absurd this.1 (by decide)
      · rw [List.mem_singleton] at hm
        cases hm
  · have hw := wlen_ext (t := t) (Or.inl rfl : Stop 10) hl h5
    unfold meanW
    rw [hk, hw, take_app (wlen_le hl)]
end Go.Proofs.YtclpimcejdeloaaGreatDoor
