/- Layer lexer, plain: two texts with a line end between; a text that is cut; places rise. -/
import Derived.Test.YtclpimcejdeloaaGreatDoorTS
namespace Go.Proofs.YtclpimcejdeloaaGreatDoor
set_option linter.unusedVariables false
set_option linter.unusedSimpArgs false
set_option maxRecDepth 100000

/-- A word at its place. -/
def Tk.at (x : Tk) (L C : Nat) : Tk := { x with ln := L, cl := C }
/-- The words of a text that begins at that line, at that byte of it; error and place of what is none. -/
inductive Wds : List UInt8 → Nat → Nat → List Tk → Int → Int → Int → Prop
  | done {l L C L' C'} : skipL false l L C = ([], L', C') → Wds l L C [] 0 0 0
  | bad {l L C c r L' C'} : skipL false l L C = (c :: r, L', C') → (meanW (c :: r)).2 ≠ 0 → Wds l L C [] (meanW (c :: r)).2 L' C'
  | word {l L C c r L' C' T E ln cl} : skipL false l L C = (c :: r, L', C') → (meanW (c :: r)).2 = 0 → Wds ((c :: r).drop (wlen (c :: r))) L' (C' + wlen (c :: r)) T E ln cl →
      Wds l L C ((meanW (c :: r)).1.at L' C' :: T) E ln cl
theorem Wds.word' {l l' : List UInt8} {L C L' C' : Nat} {T : List Tk} {E ln cl : Int} (hs : skipL false l L C = (l', L', C')) (hne : l' ≠ []) (h0 : (meanW l').2 = 0) (h : Wds (l'.drop (wlen l')) L' (C' + wlen l') T E ln cl) :
    Wds l L C ((meanW l').1.at L' C' :: T) E ln cl := by
  obtain ⟨c, r, rfl⟩ := List.exists_cons_of_ne_nil hne
  exact .word hs h0 h
theorem Wds.bad' {l l' : List UInt8} {L C L' C' : Nat} (hs : skipL false l L C = (l', L', C')) (hne : l' ≠ []) (h0 : (meanW l').2 ≠ 0) : Wds l L C [] (meanW l').2 L' C' := by
  obtain ⟨c, r, rfl⟩ := List.exists_cons_of_ne_nil hne
  exact .bad hs h0
theorem skip_len : ∀ (m : Bool) (l : List UInt8) (L C : Nat), (skipL m l L C).1.length ≤ l.length
  | m, [], L, C => by cases m <;> exact Nat.le_refl _
  | true, c :: r, L, C => by
    rw [skipL]
    split
    · exact Nat.le_succ_of_le (skip_len false r _ _)
    · exact Nat.le_succ_of_le (skip_len true r _ _)
  | false, c :: r, L, C => by
    rw [skipL]
    split
    · exact Nat.le_succ_of_le (skip_len false r _ _)
    split
    · exact Nat.le_succ_of_le (skip_len false r _ _)
    split
    · exact Nat.le_succ_of_le (skip_len true r _ _)
    · exact Nat.le_refl _
theorem lexS_word (f : Nat) (c : UInt8) (r : List UInt8) (L C : Nat) : lexS (f + 1) (c :: r) L C = if (meanW (c :: r)).2 = 0 then
      ((meanW (c :: r)).1.at L C :: (lexS f (skipL false ((c :: r).drop (wlen (c :: r))) L (C + wlen (c :: r))).1 (skipL false ((c :: r).drop (wlen (c :: r))) L (C + wlen (c :: r))).2.1 (skipL false ((c :: r).drop (wlen (c :: r))) L (C + wlen (c :: r))).2.2).1,
        (lexS f (skipL false ((c :: r).drop (wlen (c :: r))) L (C + wlen (c :: r))).1 (skipL false ((c :: r).drop (wlen (c :: r))) L (C + wlen (c :: r))).2.1 (skipL false ((c :: r).drop (wlen (c :: r))) L (C + wlen (c :: r))).2.2).2)
    else ([], (meanW (c :: r)).2, (L : Int), (C : Int)) := rfl
/-- The function is the relation. -/
theorem wds_lexS : ∀ (f : Nat) (l : List UInt8) (L C : Nat), l.length < f → ∀ T E ln cl, lexS f (skipL false l L C).1 (skipL false l L C).2.1 (skipL false l L C).2.2 = (T, E, ln, cl) → Wds l L C T E ln cl
  | 0, l, L, C, h, _, _, _, _, _ => absurd h (Nat.not_lt_zero _)
  | f + 1, l, L, C, h, T, E, ln, cl, e => by
    have hle := skip_len false l L C
    obtain ⟨⟨l', L', C'⟩, hs⟩ : ∃ x, skipL false l L C = x := ⟨_, rfl⟩
    rw [hs] at e hle
    simp only at e hle
    cases l' with
    | nil =>
      rw [lexS_nil] at e
      injection e with e1 e2
      injection e2 with e2 e3
      injection e3 with e3 e4
      subst e1 e2 e3 e4
      exact .done hs
    | cons c r =>
      rw [lexS_word] at e
      by_cases h0 : (meanW (c :: r)).2 = 0
      · rw [if_pos h0] at e
        injection e with e1 e2
        subst e1
        refine .word hs h0 (wds_lexS f _ _ _ ?_ _ _ _ _ ?_)
        · have := wlen_pos (c :: r)
          rw [List.length_drop]
          simp only [List.length_cons] at *
          omega
        · rw [← e2]
      · rw [if_neg h0] at e
        injection e with e1 e2
        injection e2 with e2 e3
        injection e3 with e3 e4
        subst e1 e2 e3 e4
        exact .bad hs h0
theorem wds_of {l : List UInt8} {T : List Tk} {E ln cl : Int} (h : lexL l = (T, E, ln, cl)) : Wds l 1 1 T E ln cl := wds_lexS (l.length + 1) l 1 1 (Nat.lt_succ_self _) T E ln cl h
theorem Wds.det {l : List UInt8} {L C : Nat} {T T' : List Tk} {E ln cl E' ln' cl' : Int} (h : Wds l L C T E ln cl) (h' : Wds l L C T' E' ln' cl') : T = T' ∧ E = E' ∧ ln = ln' ∧ cl = cl' := by
  induction h generalizing T' E' ln' cl' with
  | done hs =>
    cases h' with
    | done hs' => exact ⟨rfl, rfl, rfl, rfl⟩
    | bad hs' _ => rw [hs] at hs'; cases hs'
    | word hs' _ _ => rw [hs] at hs'; cases hs'
  | bad hs h0 =>
    cases h' with
    | done hs' => rw [hs] at hs'; cases hs'
    | bad hs' _ => rw [hs] at hs'; cases hs'; exact ⟨rfl, rfl, rfl, rfl⟩
    | word hs' h0' _ => rw [hs] at hs'; cases hs'; exact absurd h0' h0
  | word hs h0 _ ih =>
    cases h' with
    | done hs' => rw [hs] at hs'; cases hs'
    | bad hs' h0' => rw [hs] at hs'; cases hs'; exact absurd h0 h0'
    | word hs' _ h2 =>
      rw [hs] at hs'
      cases hs'
      obtain ⟨a, b, c, d⟩ := ih h2
      exact ⟨by rw [a], b, c, d⟩
theorem lexL_of {l : List UInt8} {T : List Tk} {E ln cl : Int} (h : Wds l 1 1 T E ln cl) : lexL l = (T, E, ln, cl) := by
  obtain ⟨⟨T', E', ln', cl'⟩, e⟩ : ∃ x, lexL l = x := ⟨_, rfl⟩
  obtain ⟨a, b, c, d⟩ := h.det (wds_of e)
  rw [e, a, b, c, d]
theorem Wds.zero {l : List UInt8} {L C : Nat} {T : List Tk} {E ln cl : Int} (h : Wds l L C T E ln cl) (h0 : E = 0) : ln = 0 ∧ cl = 0 := by
  induction h with
  | done hs => exact ⟨rfl, rfl⟩
  | bad hs h1 => exact absurd h0 h1
  | word hs h1 _ ih => exact ih h0
theorem Wds.len {l : List UInt8} {L C : Nat} {T : List Tk} {E ln cl : Int} (h : Wds l L C T E ln cl) : T.length ≤ l.length := by
  induction h with
  | done hs => exact Nat.zero_le _
  | bad hs h1 => exact Nat.zero_le _
  | @word l L C c r L' C' T E ln cl hs h1 _ ih =>
    have hle := skip_len false l L C
    rw [hs] at hle
    have := wlen_pos (c :: r)
    rw [List.length_drop] at ih
    simp only [List.length_cons] at *
    omega
/-- The place behind a text. -/
def adv : List UInt8 → Nat → Nat → Nat × Nat
  | [], L, C => (L, C)
  | c :: r, L, C => if c = 10 then adv r (L + 1) 1 else adv r L (C + 1)
theorem adv_app : ∀ (u v : List UInt8) (L C : Nat), adv (u ++ v) L C = adv v (adv u L C).1 (adv u L C).2
  | [], v, L, C => rfl
  | c :: u, v, L, C => by
    rw [List.cons_append, adv, adv]
    split
    · exact adv_app u v _ _
    · exact adv_app u v _ _
theorem adv_word : ∀ (u : List UInt8) (L C : Nat), (∀ c ∈ u, c ≠ 10) → adv u L C = (L, C + u.length)
  | [], L, C, _ => rfl
  | c :: u, L, C, h => by
    rw [adv, if_neg (h c (List.mem_cons_self ..)), adv_word u L (C + 1) (fun d hd => h d (List.mem_cons_of_mem _ hd)), List.length_cons]
    congr 1
    omega
/-- What is passed over, and where it ends; whatever word stands there. -/
theorem skip_adv : ∀ (m : Bool) (l : List UInt8) (L C : Nat), ∃ u, l = u ++ (skipL m l L C).1 ∧ adv u L C = (skipL m l L C).2 ∧ skipL m u L C = ([], (skipL m l L C).2) ∧ ∀ c r r', (skipL m l L C).1 = c :: r → skipL m (u ++ c :: r') L C = (c :: r', (skipL m l L C).2)
  | m, [], L, C => ⟨[], by cases m <;> rfl, by cases m <;> rfl, by cases m <;> rfl, fun c r r' h => by cases m <;> cases h⟩
  | true, c :: r, L, C => by
    rw [skipL]
    by_cases h : c = 10
    · rw [if_pos h]
      obtain ⟨u, h1, h2, h3, h4⟩ := skip_adv false r (L + 1) 1
      refine ⟨c :: u, by rw [List.cons_append, ← h1], by rw [adv, if_pos h, h2], by rw [skipL, if_pos h]; exact h3, fun d x y hx => by rw [List.cons_append, skipL, if_pos h]; exact h4 d x y hx⟩
    · rw [if_neg h]
      obtain ⟨u, h1, h2, h3, h4⟩ := skip_adv true r L (C + 1)
      refine ⟨c :: u, by rw [List.cons_append, ← h1], by rw [adv, if_neg h, h2], by rw [skipL, if_neg h]; exact h3, fun d x y hx => by rw [List.cons_append, skipL, if_neg h]; exact h4 d x y hx⟩
  | false, c :: r, L, C => by
    rw [skipL]
    by_cases h1 : c = 32
    · rw [if_pos h1]
      obtain ⟨u, g1, g2, g3, g4⟩ := skip_adv false r L (C + 1)
      refine ⟨c :: u, by rw [List.cons_append, ← g1], by rw [adv, if_neg (by rw [h1]; decide), g2], by rw [skipL, if_pos h1]; exact g3, fun d x y hx => by rw [List.cons_append, skipL, if_pos h1]; exact g4 d x y hx⟩
    rw [if_neg h1]
    by_cases h2 : c = 10
    · rw [if_pos h2]
      obtain ⟨u, g1, g2, g3, g4⟩ := skip_adv false r (L + 1) 1
      refine ⟨c :: u, by rw [List.cons_append, ← g1], by rw [adv, if_pos h2, g2], by rw [skipL, if_neg h1, if_pos h2]; exact g3, fun d x y hx => by rw [List.cons_append, skipL, if_neg h1, if_pos h2]; exact g4 d x y hx⟩
    rw [if_neg h2]
    by_cases h3 : c = 59
    · rw [if_pos h3]
      obtain ⟨u, g1, g2, g3, g4⟩ := skip_adv true r L (C + 1)
      refine ⟨c :: u, by rw [List.cons_append, ← g1], by rw [adv, if_neg h2, g2], by rw [skipL, if_neg h1, if_neg h2, if_pos h3]; exact g3, fun d x y hx => by rw [List.cons_append, skipL, if_neg h1, if_neg h2, if_pos h3]; exact g4 d x y hx⟩
    · rw [if_neg h3]
      refine ⟨[], rfl, rfl, rfl, fun d x y hx => ?_⟩
      injection hx with hx _
      subst hx
      rw [List.nil_append, skipL, if_neg h1, if_neg h2, if_neg h3]
/-- What begins with a word is left, whatever follows. -/
theorem skip_app : ∀ (m : Bool) (l : List UInt8) (L C : Nat) (c : UInt8) (r : List UInt8) (L' C' : Nat) (x : List UInt8), skipL m l L C = (c :: r, L', C') → skipL m (l ++ x) L C = (c :: r ++ x, L', C')
  | m, [], L, C, c, r, L', C', x, h => by cases m <;> cases h
  | true, d :: l, L, C, c, r, L', C', x, h => by
    rw [skipL] at h
    rw [List.cons_append, skipL]
    split at h
    · next h1 => rw [if_pos h1]; exact skip_app false l _ _ c r L' C' x h
    · next h1 => rw [if_neg h1]; exact skip_app true l _ _ c r L' C' x h
  | false, d :: l, L, C, c, r, L', C', x, h => by
    rw [skipL] at h
    rw [List.cons_append, skipL]
    split at h
    · next h1 => rw [if_pos h1]; exact skip_app false l _ _ c r L' C' x h
    · next h1 =>
      rw [if_neg h1]
      split at h
      · next h2 => rw [if_pos h2]; exact skip_app false l _ _ c r L' C' x h
      · next h2 =>
        rw [if_neg h2]
        split at h
        · next h3 => rw [if_pos h3]; exact skip_app true l _ _ c r L' C' x h
        · next h3 =>
          rw [if_neg h3]
          injection h with e1 e2
          injection e2 with e2 e3
          rw [← e1, e2, e3]
          rfl
/-- A text that has no word left, and a line end. -/
theorem skip_end : ∀ (m : Bool) (l : List UInt8) (L C L' C' : Nat) (t : List UInt8), skipL m l L C = ([], L', C') → skipL m (l ++ 10 :: t) L C = skipL false t (L' + 1) 1
  | m, [], L, C, L', C', t, h => by
    have e : skipL m [] L C = ([], L, C) := by cases m <;> rfl
    rw [e] at h
    injection h with e1 e2
    injection e2 with e2 e3
    rw [← e2]
    cases m <;> rfl
  | true, d :: l, L, C, L', C', t, h => by
    rw [skipL] at h
    rw [List.cons_append, skipL]
    split at h
    · next h1 => rw [if_pos h1]; exact skip_end false l _ _ L' C' t h
    · next h1 => rw [if_neg h1]; exact skip_end true l _ _ L' C' t h
  | false, d :: l, L, C, L', C', t, h => by
    rw [skipL] at h
    rw [List.cons_append, skipL]
    split at h
    · next h1 => rw [if_pos h1]; exact skip_end false l _ _ L' C' t h
    · next h1 =>
      rw [if_neg h1]
      split at h
      · next h2 => rw [if_pos h2]; exact skip_end false l _ _ L' C' t h
      · next h2 =>
        rw [if_neg h2]
        split at h
        · next h3 => rw [if_pos h3]; exact skip_end true l _ _ L' C' t h
        · cases h
theorem drop_app {p q : List UInt8} {n : Nat} (h : n ≤ p.length) : (p ++ q).drop n = p.drop n ++ q := by
  rw [List.drop_append_of_le_length h]

/-- What is none in the first text is none in both. -/
theorem Wds.join_bad {s : List UInt8} {L C : Nat} {T : List Tk} {E ln cl : Int} (h : Wds s L C T E ln cl) (h0 : E ≠ 0) (t : List UInt8) : ∃ T', Wds (s ++ 10 :: t) L C T' E ln cl := by
  induction h with
  | done hs => exact absurd rfl h0
  | @bad l L C c r L' C' hs h1 =>
    have hb := word_bad (l := c :: r) (by simp) h1 t
    have := Wds.bad' (skip_app _ _ _ _ _ _ _ _ (10 :: t) hs) (by simp) (by rw [hb]; exact h1)
    rw [hb] at this
    exact ⟨_, this⟩
  | @word l L C c r L' C' T E ln cl hs h1 _ ih =>
    obtain ⟨T', h2⟩ := ih h0
    obtain ⟨_, hw, hm⟩ := word_ext (l := c :: r) (by simp) h1 (Or.inl rfl : Stop 10) t
    refine ⟨_, Wds.word' (skip_app _ _ _ _ _ _ _ _ (10 :: t) hs) (by simp) (by rw [hm]; exact h1) (T := T') ?_⟩
    rw [hw, drop_app (wlen_le (by simp))]
    exact h2
/-- The line behind a text. -/
def lines (s : List UInt8) : Nat := s.count 10
theorem adv_line : ∀ (u : List UInt8) (L C : Nat), (adv u L C).1 = L + lines u
  | [], L, C => rfl
  | c :: u, L, C => by
    rw [adv]
    unfold lines
    split
    · next h => subst h; rw [adv_line u, List.count_cons_self]; unfold lines; omega
    · next h => rw [adv_line u, List.count_cons_of_ne h]; rfl
theorem lines_app (u v : List UInt8) : lines (u ++ v) = lines u + lines v := List.count_append
theorem lines_word {l : List UInt8} (h0 : (meanW l).2 = 0) : lines (l.take (wlen l)) = 0 :=
  List.count_eq_zero.2 (fun hm => word_no10 h0 10 hm rfl)
theorem skip_lines {l : List UInt8} {L C : Nat} {l' : List UInt8} {L' C' : Nat} (hs : skipL false l L C = (l', L', C')) : L' + lines l' = L + lines l := by
  obtain ⟨u, h1, h2, _, _⟩ := skip_adv false l L C
  rw [hs] at h1 h2
  have h3 := adv_line u L C
  rw [h2] at h3
  simp only at h3 h1
  rw [h1, lines_app, h3]
  omega
/-- The words of both. -/
theorem Wds.join {s : List UInt8} {L C : Nat} {T : List Tk} {E ln cl : Int} (h : Wds s L C T E ln cl) (h0 : E = 0) {t : List UInt8} {T2 : List Tk} {e2 l2 c2 : Int} (h2 : Wds t (L + lines s + 1) 1 T2 e2 l2 c2) :
    Wds (s ++ 10 :: t) L C (T ++ T2) e2 l2 c2 := by
  induction h with
  | @done l L C L' C' hs =>
    have hl := skip_lines hs
    have h3 := skip_end _ _ _ _ _ _ t hs
    rw [show L' + lines [] = L' from rfl] at hl
    rw [hl] at h3
    rw [List.nil_append]
    cases h2 with
    | done g => exact .done (h3.trans g)
    | bad g g0 => exact .bad (h3.trans g) g0
    | word g g0 g1 => exact .word (h3.trans g) g0 g1
  | bad hs h1 => exact absurd h0 h1
  | @word l L C c r L' C' T E ln cl hs h1 _ ih =>
    obtain ⟨_, hw, hm⟩ := word_ext (l := c :: r) (by simp) h1 (Or.inl rfl : Stop 10) t
    have hl := skip_lines hs
    have hl2 : lines ((c :: r).drop (wlen (c :: r))) = lines (c :: r) := by
      have := lines_app ((c :: r).take (wlen (c :: r))) ((c :: r).drop (wlen (c :: r)))
      rw [List.take_append_drop, lines_word h1] at this
      omega
    rw [← hl, ← hl2] at h2
    have h3 := ih h0 h2
    have := Wds.word' (skip_app _ _ _ _ _ _ _ _ (10 :: t) hs) (by simp) (by rw [hm]; exact h1) (T := T ++ T2) (E := e2) (ln := l2) (cl := c2) (by
      rw [hw, drop_app (wlen_le (by simp))]
      exact h3)
    rw [hm] at this
    exact this
end Go.Proofs.YtclpimcejdeloaaGreatDoor
