/- Layer expr, plain: texts in parentheses and joined, as they are read. if of two texts in parentheses, as it is read. the tree of if of two texts. Layer eval, plain: what a part of a tree answers; if of two texts. Layer expr, plain: not of two texts joined, and two texts, each behind a not, as they are. the trees of not of two texts joined, and of two texts, each behind a not. Layer eval, plain: and, or and not; '=' and '<>'; '<' and '>='. the law EvalLogic's equalities; what the trees answer. The rows of layer 10: what is laid gives what the library's calls ask; the arguments. -/
import Derived.Test.YtmkmafkkpigfpaaGreatDoorTie
import Derived.Test.YtmkmafkkpigfpaaGreatDoorCards
import Derived.LaidMore
import Derived.Lay
import Derived.SevenTiedAt
import Derived.Stop.Joined
import Derived.Lib.LaidU8T
import Derived.Shelf.Vars
import Derived.Deep.Slices
import Derived.Deep.Strs
import Derived.ChangeArms
import Derived.Test.YtmkmafkkpigfpaaGreatDoorWV
namespace Go.Proofs.YtmkmafkkpigfpaaGreatDoor
open Go.ChangeShapes Go.WideShapes Go.ChangeAt Go.RowKit Go.Lib
set_option linter.unusedVariables false
set_option linter.unusedSimpArgs false
set_option maxRecDepth 100000
theorem skip_no (c : UInt8) (r : List UInt8) (L C : Nat) (h1 : c ≠ 32) (h2 : c ≠ 10) (h3 : c ≠ 59) : skipL false (c :: r) L C = (c :: r, L, C) := by
  rw [skipL, if_neg h1, if_neg h2, if_neg h3]
theorem goL_ext {σ : Type} {step : σ → List UInt8 → Option σ} (hl : Local step) {c : UInt8} {t : List UInt8} (hc : ∀ a, step a (c :: t) = none) : ∀ (a : σ) (l : List UInt8), goL step a (l ++ c :: t) = goL step a l
  | a, [] => by rw [List.nil_append, goL_stop (hc a), goL_nil]
  | a, d :: l => by
    rw [List.cons_append]
    cases hs : step a (d :: l) with
    | none => rw [goL_stop hs, goL_stop ((hl a d (l ++ c :: t) l).trans hs)]
    | some b => rw [goL_go hs, goL_go ((hl a d (l ++ c :: t) l).trans hs), goL_ext hl hc b l]
theorem hd_app {p : UInt8 → Bool} {l : List UInt8} {c : UInt8} {t : List UInt8} (hc : p c = false) : hd p (l ++ c :: t) = hd p l := by
  cases l with
  | nil => exact hc
  | cons d l => rfl
theorem num_ext {c : UInt8} {t : List UInt8} (h46 : c ≠ 46) (hd : dgc c = false) : ∀ (pt : Bool) (l : List UInt8), goL numS pt (l ++ c :: t) = goL numS pt l
  | pt, [] => by
    rw [List.nil_append, goL_nil]
    have h : (c == 46) = false := by simpa using h46
    exact goL_stop (by rw [num_cons, h, hd]; simp)
  | pt, d :: l => by
    rw [List.cons_append]
    have e : numS pt (d :: (l ++ c :: t)) = numS pt (d :: l) := by rw [num_cons, num_cons, hd_app hd]
    cases hs : numS pt (d :: l) with
    | none => rw [goL_stop hs, goL_stop (e.trans hs)]
    | some b => rw [goL_go hs, goL_go (e.trans hs), num_ext h46 hd b l]
def Stop (c : UInt8) : Prop := c = 10 ∨ c = 32
theorem Stop.facts {c : UInt8} (h : Stop c) : nm c = false ∧ sm c = false ∧ dgc c = false ∧ c ≠ 46 ∧ c ≠ 61 ∧ c ≠ 62 := by
  rcases h with rfl | rfl <;> decide
theorem pair_ext {c : UInt8} {t l : List UInt8} (h : Stop c) (hl : l ≠ []) : pair (l ++ c :: t) = pair l := by
  match l, hl with
  | [x], _ =>
    obtain ⟨_, _, _, h1, h2, h3⟩ := h.facts
    have e1 : (c == 61) = false := by simpa using h2
    have e2 : (c == 62) = false := by simpa using h3
    have e3 : (c == 46) = false := by simpa using h1
    show ((x == 60 && c == 61) || (x == 62 && c == 61) || (x == 60 && c == 62) || (x == 46 && c == 46)) = false
    rw [e1, e2, e3]
    simp
  | x :: y :: r, _ => rfl
theorem kind_ext {c : UInt8} {t l : List UInt8} (h : Stop c) (hl : l ≠ []) : kindL (l ++ c :: t) = kindL l := by
  obtain ⟨d, r, rfl⟩ := List.exists_cons_of_ne_nil hl
  have hp := pair_ext (t := t) h hl
  rw [List.cons_append] at hp ⊢
  rw [kind_cons, kind_cons, hd_app h.facts.2.1, hp]
theorem endL_ext {c : UInt8} {t l : List UInt8} (h : Stop c) (hl : l ≠ []) (k : Nat) (h5 : k ≠ 5) : endL k (l ++ c :: t) = endL k l := by
  obtain ⟨d, r, rfl⟩ := List.exists_cons_of_ne_nil hl
  obtain ⟨h1, h2, h3, h4, _⟩ := h.facts
  have hp := pair_ext (t := t) h hl
  unfold endL
  rw [hp]
  rw [List.cons_append, List.tail_cons, List.tail_cons]
  rw [goL_ext (local_run nm) (fun a => by rw [show runS nm a (c :: t) = if nm c then some () else none from rfl, h1]; rfl), num_ext h4 h3]
  rw [if_neg h5, if_neg h5]
  split
  · rfl
  split
  · rfl
  split
  · next h7 =>
    cases r with
    | cons e r => rw [List.cons_append, sgn_true, sgn_true]
    | nil =>
      rw [List.nil_append]
      rfl
  · rfl
theorem wlen_ext {c : UInt8} {t l : List UInt8} (h : Stop c) (hl : l ≠ []) (h5 : kindL l ≠ 5) : wlen (l ++ c :: t) = wlen l := by
  unfold wlen
  rw [kind_ext h hl, endL_ext h hl _ h5]
theorem word_ext {l : List UInt8} (hl : l ≠ []) (h0 : (meanW l).2 = 0) {c : UInt8} (hc : Stop c) (t : List UInt8) : kindL (l ++ c :: t) = kindL l ∧ wlen (l ++ c :: t) = wlen l ∧ meanW (l ++ c :: t) = meanW l := by
  have hk := kind_ext (t := t) hc hl
  have hw : wlen (l ++ c :: t) = wlen l := by
    by_cases h5 : kindL l = 5
    · obtain ⟨v, x, hv, _, hw⟩ := good_str h5 h0
      rw [hw]
      unfold wlen
      rw [hk, h5, hv, List.cons_append, List.append_assoc, List.cons_append]
      show goL strS (false, false) (escL v ++ 34 :: (x ++ c :: t)) + 1 = _
      rw [quo_len]
    · exact wlen_ext hc hl h5
  refine ⟨hk, hw, ?_⟩
  unfold meanW
  rw [hk, hw, take_app (wlen_le hl)]
theorem Wds.det {l : List UInt8} {L C : Nat} {T T' : List Tk} {E ln cl E' ln' cl' : Int} (h : Wds l L C T E ln cl) (h' : Wds l L C T' E' ln' cl') : T = T' ∧ E = E' ∧ ln = ln' ∧ cl = cl' := by
  induction h generalizing T' E' ln' cl' with
  | done hs =>
    cases h' with
    | done hs' => exact ⟨rfl, rfl, rfl, rfl⟩
    | bad hs' _ => rw [hs] at hs'; cases hs'
    | word hs' _ _ => rw [hs] at hs'; cases hs'
  | bad hs h0 =>
    cases h' with
    | done hs' => rw [hs] at hs'; cases hs'
    | bad hs' _ => rw [hs] at hs'; cases hs'; exact ⟨rfl, rfl, rfl, rfl⟩
    | word hs' h0' _ => rw [hs] at hs'; cases hs'; exact absurd h0' h0
  | word hs h0 _ ih =>
    cases h' with
    | done hs' => rw [hs] at hs'; cases hs'
    | bad hs' h0' => rw [hs] at hs'; cases hs'; exact absurd h0 h0'
    | word hs' _ h2 =>
      rw [hs] at hs'
      cases hs'
      obtain ⟨a, b, c, d⟩ := ih h2
      exact ⟨by rw [a], b, c, d⟩
theorem skip_app : ∀ (m : Bool) (l : List UInt8) (L C : Nat) (c : UInt8) (r : List UInt8) (L' C' : Nat) (x : List UInt8), skipL m l L C = (c :: r, L', C') → skipL m (l ++ x) L C = (c :: r ++ x, L', C')
  | m, [], L, C, c, r, L', C', x, h => by cases m <;> cases h
  | true, d :: l, L, C, c, r, L', C', x, h => by
    rw [skipL] at h
    rw [List.cons_append, skipL]
    split at h
    · next h1 => rw [if_pos h1]; exact skip_app false l _ _ c r L' C' x h
    · next h1 => rw [if_neg h1]; exact skip_app true l _ _ c r L' C' x h
  | false, d :: l, L, C, c, r, L', C', x, h => by
    rw [skipL] at h
    rw [List.cons_append, skipL]
    split at h
    · next h1 => rw [if_pos h1]; exact skip_app false l _ _ c r L' C' x h
    · next h1 =>
      rw [if_neg h1]
      split at h
      · next h2 => rw [if_pos h2]; exact skip_app false l _ _ c r L' C' x h
      · next h2 =>
        rw [if_neg h2]
        split at h
        · next h3 => rw [if_pos h3]; exact skip_app true l _ _ c r L' C' x h
        · next h3 =>
          rw [if_neg h3]
          injection h with e1 e2
          injection e2 with e2 e3
          rw [← e1, e2, e3]
          rfl
theorem skip_end : ∀ (m : Bool) (l : List UInt8) (L C L' C' : Nat) (t : List UInt8), skipL m l L C = ([], L', C') → skipL m (l ++ 10 :: t) L C = skipL false t (L' + 1) 1
  | m, [], L, C, L', C', t, h => by
    have e : skipL m [] L C = ([], L, C) := by cases m <;> rfl
    rw [e] at h
    injection h with e1 e2
    injection e2 with e2 e3
    rw [← e2]
    cases m <;> rfl
  | true, d :: l, L, C, L', C', t, h => by
    rw [skipL] at h
    rw [List.cons_append, skipL]
    split at h
    · next h1 => rw [if_pos h1]; exact skip_end false l _ _ L' C' t h
    · next h1 => rw [if_neg h1]; exact skip_end true l _ _ L' C' t h
  | false, d :: l, L, C, L', C', t, h => by
    rw [skipL] at h
    rw [List.cons_append, skipL]
    split at h
    · next h1 => rw [if_pos h1]; exact skip_end false l _ _ L' C' t h
    · next h1 =>
      rw [if_neg h1]
      split at h
      · next h2 => rw [if_pos h2]; exact skip_end false l _ _ L' C' t h
      · next h2 =>
        rw [if_neg h2]
        split at h
        · next h3 => rw [if_pos h3]; exact skip_end true l _ _ L' C' t h
        · cases h
theorem drop_app {p q : List UInt8} {n : Nat} (h : n ≤ p.length) : (p ++ q).drop n = p.drop n ++ q := by
  rw [List.drop_append_of_le_length h]
def lines (s : List UInt8) : Nat := s.count 10
theorem adv_line : ∀ (u : List UInt8) (L C : Nat), (adv u L C).1 = L + lines u
  | [], L, C => rfl
  | c :: u, L, C => by
    rw [adv]
    unfold lines
    split
    · next h => subst h; rw [adv_line u, List.count_cons_self]; unfold lines; omega
    · next h => rw [adv_line u, List.count_cons_of_ne h]; rfl
theorem lines_app (u v : List UInt8) : lines (u ++ v) = lines u + lines v := List.count_append
theorem lines_word {l : List UInt8} (h0 : (meanW l).2 = 0) : lines (l.take (wlen l)) = 0 :=
  List.count_eq_zero.2 (fun hm => word_no10 h0 10 hm rfl)
theorem skip_lines {l : List UInt8} {L C : Nat} {l' : List UInt8} {L' C' : Nat} (hs : skipL false l L C = (l', L', C')) : L' + lines l' = L + lines l := by
  obtain ⟨u, h1, h2, _, _⟩ := skip_adv false l L C
  rw [hs] at h1 h2
  have h3 := adv_line u L C
  rw [h2] at h3
  simp only at h3 h1
  rw [h1, lines_app, h3]
  omega
theorem Wds.join {s : List UInt8} {L C : Nat} {T : List Tk} {E ln cl : Int} (h : Wds s L C T E ln cl) (h0 : E = 0) {t : List UInt8} {T2 : List Tk} {e2 l2 c2 : Int} (h2 : Wds t (L + lines s + 1) 1 T2 e2 l2 c2) :
    Wds (s ++ 10 :: t) L C (T ++ T2) e2 l2 c2 := by
  induction h with
  | @done l L C L' C' hs =>
    have hl := skip_lines hs
    have h3 := skip_end _ _ _ _ _ _ t hs
    rw [show L' + lines [] = L' from rfl] at hl
    rw [hl] at h3
    rw [List.nil_append]
    cases h2 with
    | done g => exact .done (h3.trans g)
    | bad g g0 => exact .bad (h3.trans g) g0
    | word g g0 g1 => exact .word (h3.trans g) g0 g1
  | bad hs h1 => exact absurd h0 h1
  | @word l L C c r L' C' T E ln cl hs h1 _ ih =>
    obtain ⟨_, hw, hm⟩ := word_ext (l := c :: r) (by simp) h1 (Or.inl rfl : Stop 10) t
    have hl := skip_lines hs
    have hl2 : lines ((c :: r).drop (wlen (c :: r))) = lines (c :: r) := by
      have := lines_app ((c :: r).take (wlen (c :: r))) ((c :: r).drop (wlen (c :: r)))
      rw [List.take_append_drop, lines_word h1] at this
      omega
    rw [← hl, ← hl2] at h2
    have h3 := ih h0 h2
    have := Wds.word' (skip_app _ _ _ _ _ _ _ _ (10 :: t) hs) (by simp) (by rw [hm]; exact h1) (T := T ++ T2) (E := e2) (ln := l2) (cl := c2) (by
      rw [hw, drop_app (wlen_le (by simp))]
      exact h3)
    rw [hm] at this
    exact this
def le2 (a b : Nat × Nat) : Prop := a.1 < b.1 ∨ (a.1 = b.1 ∧ a.2 ≤ b.2)
theorem adv_ge : ∀ (u : List UInt8) (L C : Nat), le2 (L, C) (adv u L C) ∧ (1 ≤ C → 1 ≤ (adv u L C).2)
  | [], L, C => ⟨Or.inr ⟨rfl, Nat.le_refl _⟩, fun h => h⟩
  | c :: u, L, C => by
    rw [adv]
    split
    · have := adv_ge u (L + 1) 1
      refine ⟨?_, fun _ => this.2 (Nat.le_refl _)⟩
      rcases this.1 with h | h
      · exact Or.inl (by simp only at h ⊢; omega)
      · exact Or.inl (by have := h.1; simp only at this ⊢; omega)
    · have := adv_ge u L (C + 1)
      refine ⟨?_, fun _ => this.2 (by omega)⟩
      rcases this.1 with h | h
      · exact Or.inl h
      · exact Or.inr ⟨h.1, by have := h.2; simp only at this ⊢; omega⟩
def Lt (x y : Tk) : Prop := x.ln < y.ln ∨ (x.ln = y.ln ∧ x.cl < y.cl)
theorem Wds.rise {s : List UInt8} {L C : Nat} {T : List Tk} {E ln cl : Int} (h : Wds s L C T E ln cl) : (∀ x ∈ T, (L : Int) < x.ln ∨ ((L : Int) = x.ln ∧ (C : Int) ≤ x.cl)) ∧ T.Pairwise Lt := by
  induction h with
  | done hs => exact ⟨fun x hx => (by cases hx), List.Pairwise.nil⟩
  | bad hs h1 => exact ⟨fun x hx => (by cases hx), List.Pairwise.nil⟩
  | @word l L C c r L' C' T E ln cl hs h1 _ ih =>
    obtain ⟨u0, g1, g2, g3, g4⟩ := skip_adv false l L C
    rw [hs] at g2
    simp only at g2
    have hge := (adv_ge u0 L C).1
    rw [g2] at hge
    unfold le2 at hge
    simp only at hge
    have hn := wlen_pos (c :: r)
    refine ⟨fun x hx => ?_, List.pairwise_cons.2 ⟨fun y hy => ?_, ih.2⟩⟩
    · rcases List.mem_cons.1 hx with rfl | hx
      · show (L : Int) < (L' : Int) ∨ ((L : Int) = (L' : Int) ∧ (C : Int) ≤ (C' : Int))
        omega
      · have := ih.1 x hx
        omega
    · have := ih.1 y hy
      show (L' : Int) < y.ln ∨ ((L' : Int) = y.ln ∧ (C' : Int) < y.cl)
      omega
theorem skip_word {w : List UInt8} (h0 : (meanW w).2 = 0) (x : List UInt8) (L C : Nat) : skipL false (w ++ x) L C = (w ++ x, L, C) := by
  have hk : kindL w ≠ 0 := by
    intro e
    rw [mean_k w 0 e] at h0
    exact absurd h0 (show ¬ (4 : Int) = 0 by decide)
  obtain ⟨c, r, rfl, h1, h2, h3⟩ := kind_pos hk
  exact skip_no c (r ++ x) L C h1 h2 h3
def Le (r1 r2 : Md → Nat → List Tk → Rz) : Prop := ∀ m o l, r1 m o l ≠ .out → r2 m o l = r1 m o l
theorem bnd_le {x y : Rz} {f g : List Nd → List Tk → Rz} (h : x ≠ .out → y = x) (hf : ∀ ns r, f ns r ≠ .out → g ns r = f ns r) (ho : x.bnd f ≠ .out) : y.bnd g = x.bnd f := by
  have hx := bnd_out ho
  rw [h hx]
  cases x with
  | out => rfl
  | no e r => rfl
  | ok ns r => exact hf ns r ho
theorem ite_le {c : Prop} [Decidable c] {a b a' b' : Rz} (ha : a ≠ .out → a' = a) (hb : b ≠ .out → b' = b) : (if c then a else b) ≠ .out → (if c then a' else b') = if c then a else b := by
  split <;> assumption
section
variable {r1 r2 : Md → Nat → List Tk → Rz}
theorem Le.pair (h : Le r1 r2) {L : Nat} {ns : List Nd} {o : Nat} {l : List Tk} (ho : pairP r1 L ns o l ≠ .out) : pairP r2 L ns o l = pairP r1 L ns o l := bnd_le (h _ _ _) (fun _ _ _ => rfl) ho
theorem Le.call (h : Le r1 r2) {c : Nat × Nat × Nat} {o : Nat} {l : List Tk} (ho : callP r1 c o l ≠ .out) : callP r2 c o l = callP r1 c o l :=
  ite_le (fun _ => rfl) (ite_le (fun _ => rfl) (bnd_le (h _ _ _) (fun _ _ => h _ _ _))) ho
theorem Le.name (h : Le r1 r2) {o : Nat} {l : List Tk} (ho : nameP r1 o l ≠ .out) : nameP r2 o l = nameP r1 o l := by
  revert ho
  unfold nameP
  refine ite_le (fun _ => rfl) (ite_le (fun _ => rfl) (ite_le (fun _ => rfl) ?_))
  cases callL (wordL l).t with
  | none => exact fun _ => rfl
  | some c => exact h.call
theorem Le.atom (h : Le r1 r2) {o : Nat} {l : List Tk} (ho : atomP r1 o l ≠ .out) : atomP r2 o l = atomP r1 o l :=
  ite_le (fun _ => rfl) (ite_le (fun _ => rfl) (ite_le (fun _ => rfl) (ite_le h.name (ite_le (ite_le (fun _ => rfl) (bnd_le (h _ _ _) (fun _ _ _ => rfl))) (fun _ => rfl))))) ho
theorem Le.pre (h : Le r1 r2) {L o : Nat} {l : List Tk} (ho : preP r1 L o l ≠ .out) : preP r2 L o l = preP r1 L o l :=
  ite_le (h _ _ _) (ite_le (fun _ => rfl) (bnd_le (h _ _ _) (fun _ _ _ => rfl))) ho
theorem Le.cmp (h : Le r1 r2) {o : Nat} {l : List Tk} (ho : cmpP r1 o l ≠ .out) : cmpP r2 o l = cmpP r1 o l :=
  bnd_le (h _ _ _) (fun _ _ => ite_le (fun _ => rfl) h.pair) ho
theorem Le.args (h : Le r1 r2) {op lo hi : Nat} {ln cl : Int} {ns : List Nd} {ks : List Nat} {o : Nat} {l : List Tk} (ho : argsP r1 op lo hi ln cl ns ks o l ≠ .out) : argsP r2 op lo hi ln cl ns ks o l = argsP r1 op lo hi ln cl ns ks o l :=
  ite_le (ite_le (fun _ => rfl) (bnd_le (h _ _ _) (fun _ _ => h _ _ _))) (ite_le (fun _ => rfl) (ite_le (fun _ => rfl) (fun _ => rfl))) ho
end
theorem P_more : ∀ F, Le (P F) (P (F + 1))
  | 0 => fun m o l h => absurd (by rw [P]) h
  | F + 1 => by
    have ih := P_more F
    intro m o l
    cases m with
    | lvl L =>
      rw [P_lvl F, P_lvl (F + 1)]
      exact ite_le ih.atom (ite_le ih.pre (ite_le ih.cmp (bnd_le (ih _ _ _) (fun _ _ => ih _ _ _))))
    | tail L ns =>
      rw [P_tail F, P_tail (F + 1)]
      exact ite_le (fun _ => rfl) (bnd_le ih.pair (fun _ _ => ih _ _ _))
    | args op lo hi ln cl ns ks =>
      rw [P_args F, P_args (F + 1)]
      exact ih.args
theorem P_le {F : Nat} : ∀ d, Le (P F) (P (F + d))
  | 0 => fun _ _ _ _ => rfl
  | d + 1 => fun m o l h => by
    have e := P_le (F := F) d m o l h
    rw [← Nat.add_assoc, P_more (F + d) m o l (by rw [e]; exact h), e]
def Ev (m : Md) (o : Nat) (l : List Tk) (X : Rz) : Prop := X ≠ .out ∧ ∃ F, P F m o l = X
theorem Ev.at {m : Md} {o : Nat} {l : List Tk} {X : Rz} (h : Ev m o l X) : ∃ F, ∀ d, P (F + d) m o l = X := by
  obtain ⟨hx, F, hF⟩ := h
  exact ⟨F, fun d => by rw [P_le d m o l (by rw [hF]; exact hx), hF]⟩
theorem Ev.det {m : Md} {o : Nat} {l : List Tk} {X Y : Rz} (h : Ev m o l X) (k : Ev m o l Y) : X = Y := by
  obtain ⟨F, h⟩ := h.at
  obtain ⟨G, k⟩ := k.at
  rw [← h G, ← k F, Nat.add_comm]
theorem Ev.whole {l : List Tk} {X : Rz} (h : Ev (.lvl 0) 0 l X) : parseX l = X := Ev.det ⟨parseX_in l, _, rfl⟩ h
theorem ok_in {ns : List Nd} {r : List Tk} : Rz.ok ns r ≠ .out := fun h => by cases h
theorem no_in {e : Int} {r : List Tk} : Rz.no e r ≠ .out := fun h => by cases h
section
variable {o : Nat} {l : List Tk}
theorem Ev.group {X : Rz} (hw : (wordL l).k = 7) (ht : (wordL l).t = [40]) (ho : o ≠ 12) (h : Ev (.lvl 0) (o + 1) l.tail X) (hX : (X.bnd fun ns r => if isL [41] r then .ok ns r.tail else .no 4 r) ≠ .out) :
    Ev (.lvl 7) o l (X.bnd fun ns r => if isL [41] r then .ok ns r.tail else .no 4 r) := by
  obtain ⟨_, F, hF⟩ := h
  refine ⟨hX, F + 1, ?_⟩
  rw [P_lvl, if_pos rfl]
  unfold atomP
  rw [if_neg (by omega), if_neg (by omega), if_neg (by omega), if_neg (by omega), if_pos ⟨hw, ht⟩]
  unfold groupP
  rw [if_neg ho, hF]
def Hands (L : Nat) (l : List Tk) : Rz → Prop
  | .out => False
  | .ok _ r => ((L = 2 ∨ L = 6) ∨ inL L r = 0) ∧ (L = 2 ∨ L = 6 → isL (preW L) l = false)
  | .no _ _ => L = 2 ∨ L = 6 → isL (preW L) l = false
theorem Ev.down {L : Nat} {X : Rz} (hL : L ≤ 6) (h : Ev (.lvl (L + 1)) o l X) (hh : Hands L l X) : Ev (.lvl L) o l X := by
  obtain ⟨F, hF⟩ := h.at
  refine ⟨h.1, F + 2, ?_⟩
  rw [P_lvl, if_neg (by omega)]
  have h1 := hF 1
  by_cases h26 : L = 2 ∨ L = 6
  · rw [if_pos h26]
    unfold preP
    cases X with
    | out => exact absurd rfl h.1
    | ok ns r => rw [if_pos (hh.2 h26)]; exact h1
    | no e r => rw [if_pos (hh h26)]; exact h1
  rw [if_neg h26]
  by_cases h3 : L = 3
  · subst h3
    rw [if_pos rfl]
    unfold cmpP
    rw [h1]
    cases X with
    | out => exact absurd rfl h.1
    | ok ns r =>
      show (if inL 3 r = 0 then Rz.ok ns r else _) = _
      rw [if_pos (hh.1.resolve_left h26)]
    | no e r => rfl
  rw [if_neg h3, h1]
  cases X with
  | out => exact absurd rfl h.1
  | ok ns r =>
    show P (F + 1) (.tail L ns) o r = _
    rw [P_tail, if_pos (hh.1.resolve_left h26)]
  | no e r => rfl
theorem Ev.rise {X : Rz} {K : Nat} : ∀ d, K + d ≤ 7 → Ev (.lvl (K + d)) o l X → (∀ L, K ≤ L → L < K + d → Hands L l X) → Ev (.lvl K) o l X
  | 0, _, h, _ => h
  | d + 1, hd, h, hh => Ev.rise d (by omega) (Ev.down (by omega) h (hh (K + d) (by omega) (by omega))) (fun L h1 h2 => hh L h1 (by omega))
theorem Ev.infix {L : Nat} {ns : List Nd} {r : List Tk} {X : Rz} (hL : L = 0 ∨ L = 1 ∨ L = 3 ∨ L = 4 ∨ L = 5) (h : Ev (.lvl (L + 1)) o l (.ok ns r)) (hi : inL L r ≠ 0) (k : Ev (.lvl (L + 1)) o r.tail X) (hr : ∀ ns2 r2, X = .ok ns2 r2 → inL L r2 = 0) :
    Ev (.lvl L) o l (X.bnd fun ns2 r2 => .ok (ns ++ ns2 ++ [ndOp (inL L r) [ns2.length + 1, 1] (wordL r)]) r2) := by
  obtain ⟨F, hF⟩ := h.at
  obtain ⟨G, hG⟩ := k.at
  have h1 : P (F + (G + 1) + 1) (.lvl (L + 1)) o l = .ok ns r := hF (G + 1 + 1)
  have h2 : P (F + (G + 1)) (.lvl (L + 1)) o r.tail = X := by rw [show F + (G + 1) = G + (F + 1) by omega]; exact hG (F + 1)
  have h2' : P (F + (G + 1) + 1) (.lvl (L + 1)) o r.tail = X := by rw [show F + (G + 1) + 1 = G + (F + 2) by omega]; exact hG (F + 2)
  refine ⟨?_, F + (G + 1) + 1 + 1, ?_⟩
  · cases X with
    | out => exact absurd rfl k.1
    | ok a b => exact ok_in
    | no a b => exact no_in
  rw [P_lvl, if_neg (by omega), if_neg (by omega)]
  by_cases h3 : L = 3
  · subst h3
    rw [if_pos rfl]
    unfold cmpP
    rw [h1]
    show (if inL 3 r = 0 then Rz.ok ns r else _) = _
    rw [if_neg hi]
    unfold pairP
    rw [h2']
  rw [if_neg h3, h1]
  show P (F + (G + 1) + 1) (.tail L ns) o r = _
  rw [P_tail, if_neg hi]
  unfold pairP
  rw [h2]
  cases X with
  | out => exact absurd rfl k.1
  | no a b => rfl
  | ok a b =>
    show P (F + (G + 1)) (.tail L _) o b = _
    rw [← Nat.add_assoc, P_tail, if_pos (hr a b rfl)]
    rfl
end
theorem sign_one {c : UInt8} (hc : c = 40 ∨ c = 41) (x : List UInt8) : wlen (c :: x) = 1 ∧ meanW (c :: x) = (⟨7, [c], 0, 0, [], 0, 0⟩, 0) := by
  have hk : kindL (c :: x) = 7 := by
    rcases hc with rfl | rfl <;> rfl
  have hp : pair (c :: x) = false := by
    cases x with
    | nil => rfl
    | cons d y => rcases hc with rfl | rfl <;> simp [pair]
  have hw : wlen (c :: x) = 1 := by
    unfold wlen
    rw [hk]
    show goL (sgnS (pair (c :: x))) true x + 1 = 1
    rw [hp]
    cases x with
    | nil => rfl
    | cons d y => rw [sgn_true]; rfl
  refine ⟨hw, ?_⟩
  unfold meanW
  rw [hk, hw]
  rfl
theorem skip_sign {c : UInt8} (hc : c = 40 ∨ c = 41) (x : List UInt8) (L C : Nat) : skipL false (c :: x) L C = (c :: x, L, C) := by
  rcases hc with rfl | rfl <;> rfl
abbrev sgT (c : UInt8) (L C : Nat) : Tk := ⟨7, [c], 0, 0, [], L, C⟩
theorem Wds.sign {c : UInt8} (hc : c = 40 ∨ c = 41) {x : List UInt8} {L C : Nat} {T : List Tk} {E ln cl : Int} (h : Wds x L (C + 1) T E ln cl) : Wds (c :: x) L C (sgT c L C :: T) E ln cl := by
  obtain ⟨hw, hm⟩ := sign_one hc x
  have := Wds.word (skip_sign hc x L C) (by rw [hm]) (T := T) (E := E) (ln := ln) (cl := cl) (by rw [hw]; exact h)
  rw [hm] at this
  exact this
def wrapB (s : List UInt8) : List UInt8 := 40 :: (s ++ [10, 41])
theorem wrap_words {s : List UInt8} {T : List Tk} {L0 C0 : Nat} {a b : Int} (h : Wds s L0 C0 T 0 a b) (L C : Nat) : ∃ (T2 : List Tk) (c : Tk), Wds (wrapB s) L C (sgT 40 L C :: (T2 ++ [c])) 0 0 0 ∧ T2.map Tk.bare = T.map Tk.bare ∧ c.bare = sgT 41 0 0 := by
  obtain ⟨T2, ln2, cl2, h2, h3⟩ := h.any L (C + 1)
  refine ⟨T2, sgT 41 (L + lines s + 1) 1, ?_, h3, rfl⟩
  exact Wds.sign (Or.inl rfl) (h2.join rfl (Wds.sign (Or.inr rfl) (Wds.nil _ _)))
def opB : List (List UInt8) := [[111, 114], [97, 110, 100], [61], [60, 62], [60], [60, 61], [62], [62, 61], [43], [45], [42], [47]]
theorem op_good : ∀ u ∈ opB, u ≠ [] ∧ (meanW u).2 = 0 ∧ wlen u = u.length ∧ (meanW u).1.t = u ∧ isT (meanW u).1 u = true ∧ (inOp u).1 ≠ 0 := by
  intro u hu
  simp only [opB, List.mem_cons, List.not_mem_nil, or_false] at hu
  rcases hu with rfl | rfl | rfl | rfl | rfl | rfl | rfl | rfl | rfl | rfl | rfl | rfl
  all_goals exact ⟨by decide, by rfl, by rfl, by rfl, by rfl, by decide⟩
theorem op_words {u : List UInt8} (hu : u ∈ opB) {t : List UInt8} {T : List Tk} (h : ∀ L C, ∃ T2 : List Tk, Wds t L C T2 0 0 0 ∧ T2.map Tk.bare = T) (L C : Nat) : ∃ T2 : List Tk, Wds (32 :: (u ++ 32 :: t)) L C T2 0 0 0 ∧ T2.map Tk.bare = (meanW u).1.bare :: T := by
  obtain ⟨h1, h2, h3, _⟩ := op_good u hu
  obtain ⟨_, hw, hm⟩ := word_ext h1 h2 (Or.inr rfl : Stop 32) t
  obtain ⟨T2, g1, g2⟩ := h L (C + 1 + wlen u + 1)
  have g3 : Wds (32 :: t) L (C + 1 + wlen u) T2 0 0 0 := Wds.skip (by rfl) g1
  have hs : skipL false (32 :: (u ++ 32 :: t)) L C = (u ++ 32 :: t, L, C + 1) := skip_word h2 (32 :: t) L (C + 1)
  refine ⟨_, Wds.word' hs (by simp) (by rw [hm]; exact h2) (T := T2) (E := 0) (ln := 0) (cl := 0) ?_, ?_⟩
  · rw [hw, drop_app (by rw [h3]; exact Nat.le_refl _), h3, List.drop_length]
    rw [h3] at g3
    exact g3
  · rw [List.map_cons, g2, hm]
    rfl
def joinO (s u t : List UInt8) : List UInt8 := wrapB s ++ 32 :: (u ++ 32 :: wrapB t)
theorem join_words {s t u : List UInt8} (hu : u ∈ opB) {T1 T2 : List Tk} {L1 C1 L2 C2 : Nat} {a b c d : Int} (h1 : Wds s L1 C1 T1 0 a b) (h2 : Wds t L2 C2 T2 0 c d) :
    ∃ (A B : List Tk), Wds (joinO s u t) 1 1 (sgT 40 1 1 :: (A ++ B)) 0 0 0 ∧ A.map Tk.bare = T1.map Tk.bare ∧ B.map Tk.bare = sgT 41 0 0 :: (meanW u).1.bare :: sgT 40 0 0 :: (T2.map Tk.bare ++ [sgT 41 0 0]) := by
  have hR : ∀ L C, ∃ T3 : List Tk, Wds (wrapB t) L C T3 0 0 0 ∧ T3.map Tk.bare = sgT 40 0 0 :: (T2.map Tk.bare ++ [sgT 41 0 0]) := fun L C => by
    obtain ⟨T3, c, g1, g2, g3⟩ := wrap_words h2 L C
    refine ⟨_, g1, ?_⟩
    rw [List.map_cons, List.map_append, List.map_cons, List.map_nil, g2, g3]
    rfl
  obtain ⟨A, ln2, cl2, k1, k2⟩ := h1.any 1 2
  obtain ⟨B, g1, g2⟩ := op_words hu hR (1 + lines s + 1) 2
  refine ⟨A, sgT 41 (1 + lines s + 1) 1 :: B, ?_, k2, ?_⟩
  · have := Wds.sign (Or.inl rfl : (40 : UInt8) = 40 ∨ (40 : UInt8) = 41) (k1.join rfl (Wds.sign (Or.inr rfl : (41 : UInt8) = 40 ∨ (41 : UInt8) = 41) g1))
    unfold joinO wrapB
    rw [List.cons_append, List.append_assoc]
    exact this
  · rw [List.map_cons, g2]
    rfl
theorem inL_nil (L : Nat) : inL L [] = 0 := by simp [inL, inT, wordL, Tk.zero, isT]
def Opn (p : Tk) : Prop := p.k = 7 ∧ p.t = [40]
theorem opn_pre {p : Tk} (h : Opn p) (l : List Tk) (L : Nat) : isL (preW L) (p :: l) = false := by
  unfold isL isT preW
  show ((p.k == 1 || p.k == 7) && p.t == _) = false
  rw [h.2]
  split <;> simp
theorem grp {F : Nat} {A T2 l e : List Tk} {T : List Nd} {p : Tk} (hP : P F (.lvl 0) 0 A = .ok T []) (he : Cl e) (hq : Bq e A l) (hp : Opn p) :
    ∃ Y, Ev (.lvl 7) 0 (p :: l) Y ∧ ((∃ (ns' : List Nd) (r' : List Tk), Y = .ok ns' r'.tail ∧ ns'.map Nd.bare = T.map Nd.bare ∧ r'.map Tk.bare = e) ∨ ∃ r', Y = .no 12 r') := by
  have h := ext he F _ _ 0 1 A l T [] (.lvl 0) (by omega) (by omega) hq hP
  rcases h with ⟨ns', r', h1, h2, h3⟩ | ⟨r', h1⟩
  · have hs : isL [41] r' = true := by
      obtain ⟨k1, k2⟩ := h3.nil he
      unfold isL isT
      rw [k1, k2]
      rfl
    have h3' : r'.map Tk.bare = e := by simpa [Bq] using h3
    have hX : ((Rz.ok ns' r').bnd fun ns r => if isL [41] r then .ok ns r.tail else .no 4 r) = .ok ns' r'.tail := if_pos hs
    have hev : Ev (.lvl 0) (0 + 1) (p :: l).tail (.ok ns' r') := ⟨ok_in, F, h1⟩
    have := Ev.group (o := 0) (l := p :: l) hp.1 hp.2 (by decide) hev (by rw [hX]; exact ok_in)
    rw [hX] at this
    exact ⟨_, this, Or.inl ⟨ns', r', rfl, h2, h3'⟩⟩
  · have hev : Ev (.lvl 0) (0 + 1) (p :: l).tail (.no 12 r') := ⟨no_in, F, h1⟩
    have := Ev.group (o := 0) (l := p :: l) hp.1 hp.2 (by decide) hev (by exact no_in)
    exact ⟨_, this, Or.inr ⟨r', rfl⟩⟩
theorem rise_ok {p : Tk} {l : List Tk} {ns : List Nd} {r : List Tk} {M : Nat} (hp : Opn p) (K d : Nat) (hd : K + d = M) (hM : M ≤ 7) (h : Ev (.lvl M) 0 (p :: l) (.ok ns r)) (hr : ∀ L, K ≤ L → L < M → (L = 2 ∨ L = 6) ∨ inL L r = 0) : Ev (.lvl K) 0 (p :: l) (.ok ns r) := by
  subst hd
  exact Ev.rise d hM h (fun L h1 h2 => ⟨hr L h1 h2, fun _ => opn_pre hp l L⟩)
theorem rise_no {p : Tk} {l : List Tk} {er : Int} {r : List Tk} {M : Nat} (hp : Opn p) (K d : Nat) (hd : K + d = M) (hM : M ≤ 7) (h : Ev (.lvl M) 0 (p :: l) (.no er r)) : Ev (.lvl K) 0 (p :: l) (.no er r) := by
  subst hd
  exact Ev.rise d hM h (fun L h1 h2 => fun _ => opn_pre hp l L)
theorem lexR_of {l : List UInt8} {T : List Tk} {a b : Int} (h : Wds l 1 1 T 0 a b) : lexR l = (T, 0, a, b) := by
  have e := wds_of (show lexL l = ((lexL l).1, (lexL l).2.1, (lexL l).2.2.1, (lexL l).2.2.2) from rfl)
  obtain ⟨h1, h2, h3, h4⟩ := h.det e
  have e2 : lexL l = (T, 0, a, b) := by
    rw [h1, h2, h3, h4]
  unfold lexR
  rw [e2]
  rfl
theorem lexR_wds {l : List UInt8} (h : (lexR l).2.1 = 0) : Wds l 1 1 (lexR l).1 0 (lexR l).2.2.1 (lexR l).2.2.2 := by
  have e : lexR l = lexL l := by
    unfold lexR at h ⊢
    split at h
    · rename_i h0
      rw [if_pos h0]
    · rename_i h0
      exact absurd h h0
  rw [e] at h ⊢
  rw [← h]
  exact wds_of rfl
theorem op_level : ∀ u ∈ opB, (inOp u).2 = 0 ∨ (inOp u).2 = 1 ∨ (inOp u).2 = 3 ∨ (inOp u).2 = 4 ∨ (inOp u).2 = 5 := by
  intro u hu
  simp only [opB, List.mem_cons, List.not_mem_nil, or_false] at hu
  rcases hu with rfl | rfl | rfl | rfl | rfl | rfl | rfl | rfl | rfl | rfl | rfl | rfl
  all_goals decide
theorem map_cons3 {r : List Tk} {a b c : Tk} {l : List Tk} (h : r.map Tk.bare = a :: b :: c :: l) : ∃ x y z r', r = x :: y :: z :: r' ∧ x.bare = a ∧ y.bare = b ∧ z.bare = c ∧ r'.map Tk.bare = l := by
  cases r with
  | nil => cases h
  | cons x r =>
    cases r with
    | nil => simp at h
    | cons y r =>
      cases r with
      | nil => simp at h
      | cons z r =>
        simp only [List.map_cons, List.cons.injEq] at h
        exact ⟨x, y, z, r, rfl, h.1, h.2.1, h.2.2.1, h.2.2.2⟩
def tell (A : List Tk) : Rz → List Nd × Int × Int × Int
  | .out => ([], 0, 0, 0)
  | .no e r => ([], (placeL A (A.length - r.length)).1, (placeL A (A.length - r.length)).2, e)
  | .ok ns r => if 60 < ns.length then ([], (placeL A 0).1, (placeL A 0).2, 7)
    else if r ≠ [] then ([], (placeL A (A.length - r.length)).1, (placeL A (A.length - r.length)).2, 4) else (ns, 0, 0, 0)
theorem read_at {l : List UInt8} {A : List Tk} {a b : Int} (h : Wds l 1 1 A 0 a b) {X : Rz} (hX : parseX A = X) : readP l = tell A X := by
  rw [← hX]
  unfold readP
  rw [lexR_of h]
  simp only [ne_eq, not_true_eq_false, if_false]
  cases parseX A <;> rfl
theorem join_read {s t : List UInt8} (hs : s.length ≤ 10000) (ht : t.length ≤ 10000) {T1 T2 : List Nd} (h1 : readP s = (T1, 0, 0, 0)) (h2 : readP t = (T2, 0, 0, 0)) {u : List UInt8} (hu : u ∈ opB) :
    (∃ ln cl, readP (joinO s u t) = ([], ln, cl, 12)) ∨ (60 < T1.length + T2.length + 1 ∧ ∃ ln cl, readP (joinO s u t) = ([], ln, cl, 7)) ∨
    (T1.length + T2.length + 1 ≤ 60 ∧ ∃ ns1 ns2 nd, readP (joinO s u t) = (ns1 ++ ns2 ++ [nd], 0, 0, 0) ∧ ns1.map Nd.bare = T1.map Nd.bare ∧ ns2.map Nd.bare = T2.map Nd.bare ∧ nd.op = ((inOp u).1 : Nat) ∧ nd.ks = [ns2.length + 1, 1]) := by
  obtain ⟨_, _, h60, _, _, hE1, hP1⟩ := readP_good (by omega) h1
  obtain ⟨_, _, h60', _, _, hE2, hP2⟩ := readP_good (by omega) h2
  obtain ⟨A, B, hw, hA, hB⟩ := join_words hu (lexR_wds hE1) (lexR_wds hE2)
  obtain ⟨o1, o2, o3, o4, o5, o6⟩ := op_good u hu
  have hL := op_level u hu
  have hq : Bq (B.map Tk.bare) (lexR s).1 (A ++ B) := by
    unfold Bq
    rw [List.map_append, hA]
  obtain ⟨Y1, hY1, hh1⟩ := grp (T2 := B) (F := fuelOf (lexR s).1) (p := sgT 40 1 1) hP1 ⟨_, _, hB, rfl, rfl⟩ hq ⟨rfl, rfl⟩
  have deep : ∀ {r : List Tk}, parseX (sgT 40 1 1 :: (A ++ B)) = .no 12 r → ∃ ln cl, readP (joinO s u t) = ([], ln, cl, 12) := fun {r} h => ⟨_, _, read_at hw h⟩
  rcases hh1 with ⟨ns1, r1, rfl, k1, k2⟩ | ⟨r1, rfl⟩
  · rw [hB] at k2
    obtain ⟨x, y, z, r2, rfl, q1, q2, q3, q4⟩ := map_cons3 k2
    rw [List.tail_cons] at hY1
    obtain ⟨L0, hL0⟩ : ∃ L0, L0 = (inOp u).2 := ⟨_, rfl⟩
    have hin : ∀ L, inL L (y :: z :: r2) = if L0 = L then (inOp u).1 else 0 := fun L => by
      show inT L y = _
      rw [inT_bare q2]
      unfold inT
      rw [o4, o5, ← hL0]
      simp
    have hz : Opn z := ⟨by have e := bare_k (y := sgT 40 0 0) q3; exact e, by have e := bare_t (y := sgT 40 0 0) q3; exact e⟩
    have hq2 : Bq [sgT 41 0 0] (lexR t).1 r2 := q4
    obtain ⟨Y2, hY2, hh2⟩ := grp (T2 := B) (F := fuelOf (lexR t).1) (p := z) hP2 ⟨_, _, rfl, rfl, rfl⟩ hq2 hz
    rw [← hL0] at hL
    have hA1 := rise_ok ⟨rfl, rfl⟩ (L0 + 1) (6 - L0) (by omega) (Nat.le_refl _) hY1 (fun L a b => Or.inr (by rw [hin, if_neg (by omega)]))
    have hi : inL L0 (y :: z :: r2) ≠ 0 := by rw [hin, if_pos rfl]; exact o6
    rcases hh2 with ⟨ns2, r3, rfl, m1, m2⟩ | ⟨r3, rfl⟩
    · have ht3 : r3.tail = [] := by
        have := congrArg List.length m2
        simp at this
        exact List.eq_nil_of_length_eq_zero (by rw [List.length_tail]; omega)
      rw [ht3] at hY2
      have hA2 := rise_ok hz (L0 + 1) (6 - L0) (by omega) (Nat.le_refl _) hY2 (fun L a b => Or.inr (inL_nil L))
      have hev := Ev.infix hL hA1 hi hA2 (fun n r e => by injection e with e1 e2; rw [← e2]; exact inL_nil L0)
      have hev0 := (rise_ok ⟨rfl, rfl⟩ 0 L0 (by omega) (by omega) hev (fun L a b => Or.inr (inL_nil L))).whole
      have l1 := len_bare k1
      have l2 := len_bare m1
      have hr := read_at hw hev0
      unfold tell at hr
      simp only at hr
      by_cases h6 : 60 < T1.length + T2.length + 1
      · rw [if_pos (by simp; omega)] at hr
        exact Or.inr (Or.inl ⟨h6, _, _, hr⟩)
      · rw [if_neg (by simp; omega), if_neg (by simp)] at hr
        refine Or.inr (Or.inr ⟨by omega, ns1, ns2, _, hr, k1, m1, ?_, rfl⟩)
        show ((inL L0 (y :: z :: r2) : Nat) : Int) = _
        rw [hin, if_pos rfl]
    · have hA2 := rise_no hz (L0 + 1) (6 - L0) (by omega) (Nat.le_refl _) hY2
      have hev := Ev.infix hL hA1 hi hA2 (fun n r e => by cases e)
      exact Or.inl (deep (rise_no ⟨rfl, rfl⟩ 0 L0 (by omega) (by omega) hev).whole)
  · exact Or.inl (deep (rise_no ⟨rfl, rfl⟩ 0 7 rfl (Nat.le_refl _) hY1).whole)
theorem Wds.wd {u x : List UInt8} {k : Tk} {L C : Nat} {T : List Tk} {E ln cl : Int} (hw : wlen (u ++ x) = u.length) (hm : meanW (u ++ x) = (k, 0)) (hs : skipL false (u ++ x) L C = (u ++ x, L, C)) (hne : u ≠ []) (h : Wds x L (C + u.length) T E ln cl) :
    Wds (u ++ x) L C (k.at L C :: T) E ln cl := by
  have := Wds.word' hs (by simp [hne]) (by rw [hm]) (T := T) (E := E) (ln := ln) (cl := cl) (by rw [hw, List.drop_left]; exact h)
  rw [hm] at this
  exact this
section
variable {o : Nat} {l : List Tk}
theorem Ev.call {w : List UInt8} {c : Nat × Nat × Nat} (hw : (wordL l).k = 1) (ht : (wordL l).t = w) (n1 : w ≠ [116, 114, 117, 101]) (n2 : w ≠ [102, 97, 108, 115, 101]) (n3 : w ≠ [110, 117, 108, 108]) (hc : callL w = some c) (hp : isL [40] l.tail = true) (ho : o ≠ 12) {X Y : Rz}
    (h : Ev (.lvl 0) (o + 1) l.tail.tail X) (k : ∀ ns r, X = .ok ns r → Ev (.args c.1 c.2.1 c.2.2 (wordL l).ln (wordL l).cl ns [ns.length - 1]) (o + 1) r Y) (hno : ∀ e r, X = .no e r → Y = .no e r) : Ev (.lvl 7) o l Y := by
  obtain ⟨F, hF⟩ := h.at
  have go : ∀ G, P (F + G + 1) (.lvl 7) o l = (P (F + G) (.lvl 0) (o + 1) l.tail.tail).bnd fun ns r => P (F + G) (.args c.1 c.2.1 c.2.2 (wordL l).ln (wordL l).cl ns [ns.length - 1]) (o + 1) r := fun G => by
    rw [P_lvl, if_pos rfl]
    unfold atomP
    rw [if_neg (by omega), if_neg (by omega), if_neg (by omega), if_pos hw]
    unfold nameP
    rw [ht, if_neg n1, if_neg n2, if_neg n3, hc]
    show callP (P (F + G)) c o l = _
    unfold callP
    rw [if_neg (by rw [hp]; decide), if_neg ho]
  cases X with
  | out => exact absurd rfl h.1
  | ok ns r =>
    have hk2 := k ns r rfl
    obtain ⟨G, hG⟩ := hk2.at
    refine ⟨hk2.1, F + G + 1, ?_⟩
    rw [go, hF G]
    show P (F + G) _ (o + 1) r = Y
    rw [Nat.add_comm]
    exact hG F
  | no e r =>
    rw [hno e r rfl]
    refine ⟨no_in, F + 0 + 1, ?_⟩
    exact (go 0).trans (by rw [hF 0]; rfl)
end
theorem grpO {o : Nat} (ho : o < 12) {F : Nat} {A T2 l e : List Tk} {T : List Nd} {p : Tk} (hP : P F (.lvl 0) 0 A = .ok T []) (he : Cl e) (hq : Bq e A l) (hp : Opn p) :
    ∃ Y, Ev (.lvl 7) o (p :: l) Y ∧ ((∃ (ns' : List Nd) (r' : List Tk), Y = .ok ns' r'.tail ∧ ns'.map Nd.bare = T.map Nd.bare ∧ r'.map Tk.bare = e) ∨ ∃ r', Y = .no 12 r') := by
  have h := ext he F _ _ 0 (o + 1) A l T [] (.lvl 0) (by omega) (by omega) hq hP
  rcases h with ⟨ns', r', h1, h2, h3⟩ | ⟨r', h1⟩
  · have hs : isL [41] r' = true := by
      obtain ⟨k1, k2⟩ := h3.nil he
      unfold isL isT
      rw [k1, k2]
      rfl
    have h3' : r'.map Tk.bare = e := by simpa [Bq] using h3
    have hX : ((Rz.ok ns' r').bnd fun ns r => if isL [41] r then .ok ns r.tail else .no 4 r) = .ok ns' r'.tail := if_pos hs
    have hev : Ev (.lvl 0) (o + 1) (p :: l).tail (.ok ns' r') := ⟨ok_in, F, h1⟩
    have := Ev.group (o := o) (l := p :: l) hp.1 hp.2 (by omega) hev (by rw [hX]; exact ok_in)
    rw [hX] at this
    exact ⟨_, this, Or.inl ⟨ns', r', rfl, h2, h3'⟩⟩
  · have hev : Ev (.lvl 0) (o + 1) (p :: l).tail (.no 12 r') := ⟨no_in, F, h1⟩
    have := Ev.group (o := o) (l := p :: l) hp.1 hp.2 (by omega) hev (by exact no_in)
    exact ⟨_, this, Or.inr ⟨r', rfl⟩⟩
theorem inL_sign {x : Tk} {c : UInt8} (hx : x.bare = sgT c 0 0) (hc : c = 40 ∨ c = 41 ∨ c = 44) (l : List Tk) (L : Nat) : inL L (x :: l) = 0 := by
  show inT L x = 0
  rw [inT_bare (y := sgT c 0 0) hx]
  unfold inT
  rcases hc with rfl | rfl | rfl
  all_goals
    show (if _ then (0 : Nat) else 0) = 0
    split <;> rfl
theorem isL_sign {x : Tk} {c : UInt8} (hx : x.bare = sgT c 0 0) (d : UInt8) (l : List Tk) : isL [d] (x :: l) = (c == d) := by
  show isT x [d] = _
  rw [isT_bare (y := sgT c 0 0) hx]
  unfold isT
  show ((false || true) && ([c] == [d])) = _
  simp
end Go.Proofs.YtmkmafkkpigfpaaGreatDoor
namespace Go.Proofs.YtmkmafkkpigfpaaGreatDoor.V
open Go.ChangeShapes Go.WideShapes Go.ChangeAt Go.RowKit Go.Lib
set_option linter.unusedVariables false
set_option linter.unusedSimpArgs false
set_option maxRecDepth 100000
theorem pops_in {i : Nat} : ∀ (ds : List Nat) (f : Nat) (s : List Nat) (f' : Nat) (s' : List Nat), pops i ds f s = some (f', s') → f ≤ i → (∀ g ∈ s, g ≤ i) → f' ≤ i ∧ (∀ g ∈ s', g ≤ i) ∧ ∀ d ∈ ds, 1 ≤ d ∧ d ≤ i
  | [], f, s, f', s', h, hf, hs => by
    unfold pops at h
    injection h with h
    injection h with h1 h2
    subst h1 h2
    exact ⟨hf, hs, fun d hd => by cases hd⟩
  | d :: ds, f, [], f', s', h, hf, hs => by
    unfold pops at h
    cases h
  | d :: ds, f, g :: s, f', s', h, hf, hs => by
    unfold pops at h
    split at h
    · rename_i hd
      obtain ⟨a, b, c⟩ := pops_in ds g s f' s' h (hs g (List.mem_cons_self ..)) (fun x hx => hs x (List.mem_cons_of_mem _ hx))
      refine ⟨a, b, fun e he => ?_⟩
      rcases List.mem_cons.1 he with rfl | he
      · omega
      · exact c e he
    · cases h
theorem exec_in : ∀ (l : List Nd) (i : Nat) (s t : List Nat), exec l i s = some t → (∀ g ∈ s, g ≤ i) → ∀ (j : Nat) (x : Nd), l[j]? = some x → ∀ d ∈ x.ks, 1 ≤ d ∧ d ≤ i + j
  | [], i, s, t, h, hs, j, x, hx => by cases hx
  | y :: l, i, s, t, h, hs, j, x, hx => by
    unfold exec at h
    cases hp : pops i y.ks.reverse i s with
    | none => rw [hp] at h; cases h
    | some q =>
      obtain ⟨f, s'⟩ := q
      rw [hp] at h
      simp only at h
      obtain ⟨a, b, c⟩ := pops_in _ _ _ _ _ hp (Nat.le_refl _) hs
      match j, hx with
      | 0, hx =>
        injection hx with hx
        subst hx
        exact fun d hd => c d (List.mem_reverse.2 hd)
      | j + 1, hx =>
        have ih := exec_in l (i + 1) (f :: s') t h (fun g hg => by
          rcases List.mem_cons.1 hg with rfl | hg
          · omega
          · have := b g hg; omega) j x hx
        intro d hd
        have := ih d hd
        omega
theorem tr_in {T : List Nd} (h : Tr T) {j : Nat} {x : Nd} (hx : T[j]? = some x) : ∀ d ∈ x.ks, 1 ≤ d ∧ d ≤ j := fun d hd => by
  have := exec_in T 0 [] _ (h.run 0 []) (fun g hg => by cases hg) j x hx d hd
  omega
theorem abs_get {T : List Nd} {i : Nat} {x : Nd} (h : T[i]? = some x) : (absT T)[i]? = some ⟨x.op, x.vk, x.vn, x.vs, x.nm, (x.ks.map (i - ·)).map fun k : Nat => (k : Int), x.ln, x.cl⟩ := by
  unfold absT
  rw [List.getElem?_mapIdx, h]
  rfl
theorem kid_at {ks : List Nat} {m : Nat} (h : ∀ d ∈ ks, 1 ≤ d ∧ d ≤ m) (i : Nat) : kidA ((ks.map (m - ·)).map fun k : Nat => (k : Int)) m i = ks[i]?.map (m - ·) := by
  unfold kidA
  rw [List.getElem?_map, List.getElem?_map]
  cases hd : ks[i]? with
  | none => rfl
  | some d =>
    have := h d (List.mem_of_getElem? hd)
    show (if 0 ≤ ((m - d : Nat) : Int) ∧ ((m - d : Nat) : Int) < (m : Int) then some ((m - d : Nat) : Int).toNat else none) = some (m - d)
    rw [if_pos (by omega), Int.toNat_natCast]
theorem ans_part {T' T : List Na} {A' A : List An} {y' y : Na} (self : Vl) (vars : List Bd) (e1 : y'.op = y.op) (e2 : y'.vk = y.vk) (e3 : y'.vn = y.vn) (e4 : y'.vs = y.vs) (e5 : y'.nm = y.nm) (e6 : y'.ks.length = y.ks.length) (h1 : ∀ i, askA A' y'.ks i = askA A y.ks i)
    (h2 : ∀ i, nullA T' A'.length y'.ks i = nullA T A.length y.ks i) : ansA T' A' y' self vars = ansA T A y self vars := by
  unfold ansA
  rw [e1, e2, e3, e4, e5, e6, funext h1, h2 0, h2 1]
theorem getD_app {A B : List An} {p k d : Nat} (hA : A.length = p) (h : 1 ≤ d ∧ d ≤ k) (z : An) : (A ++ B).getD (p + k - d) z = B.getD (k - d) z := by
  rw [List.getD_eq_getElem?_getD, List.getD_eq_getElem?_getD, List.getElem?_append_right (by omega), show p + k - d - A.length = k - d by omega]
theorem run_part {T' T : List Nd} {p : Nat} (self : Vl) (vars : List Bd) (hT : ∀ (k : Nat) (x : Nd), T[k]? = some x → ∀ d ∈ x.ks, 1 ≤ d ∧ d ≤ k) (H : ∀ (k : Nat) (x : Nd), T[k]? = some x → ∃ x', T'[p + k]? = some x' ∧ x'.bare = x.bare) :
    ∀ k, k ≤ T.length → runA (absT T') self vars (p + k) = runA (absT T') self vars p ++ runA (absT T) self vars k
  | 0, _ => by rw [Nat.add_zero, runA, List.append_nil]
  | k + 1, hk => by
    obtain ⟨x, hx⟩ : ∃ x, T[k]? = some x := ⟨_, List.getElem?_eq_getElem (by omega)⟩
    obtain ⟨x', hx', hb⟩ := H k x hx
    have ih := run_part self vars hT H k (by omega)
    have hin := hT k x hx
    have b1 : x'.op = x.op := by have e := congrArg Nd.op hb; exact e
    have b2 : x'.vk = x.vk := by have e := congrArg Nd.vk hb; exact e
    have b3 : x'.vn = x.vn := by have e := congrArg Nd.vn hb; exact e
    have b4 : x'.vs = x.vs := by have e := congrArg Nd.vs hb; exact e
    have b5 : x'.nm = x.nm := by have e := congrArg Nd.nm hb; exact e
    have b6 : x'.ks = x.ks := by have e := congrArg Nd.ks hb; exact e
    have hlen : (runA (absT T') self vars p ++ runA (absT T) self vars k).length = p + k := by rw [List.length_append, run_len, run_len]
    rw [← Nat.add_assoc, runA, runA, ih, abs_get hx', abs_get hx, List.append_assoc]
    show _ ++ (_ ++ [ansA (absT T') _ _ self vars]) = _ ++ (_ ++ [ansA (absT T) _ _ self vars])
    congr 3
    refine ans_part self vars b1 b2 b3 b4 b5 ?_ (fun i => ?_) (fun i => ?_)
    · show ((x'.ks.map _).map _).length = ((x.ks.map _).map _).length
      rw [b6]
      simp only [List.length_map]
    · unfold askA
      rw [hlen, run_len]
      show (match kidA ((x'.ks.map (p + k - ·)).map fun k : Nat => (k : Int)) (p + k) i with | some k => _ | none => _) = (match kidA ((x.ks.map (k - ·)).map fun k : Nat => (k : Int)) k i with | some k => _ | none => _)
      rw [b6, kid_at (fun d hd => ⟨(hin d hd).1, by have := (hin d hd).2; omega⟩), kid_at hin]
      cases hd : x.ks[i]? with
      | none => rfl
      | some d => exact getD_app (run_len ..) (hin d (List.mem_of_getElem? hd)) _
    · unfold nullA
      rw [hlen, run_len]
      show (match kidA ((x'.ks.map (p + k - ·)).map fun k : Nat => (k : Int)) (p + k) i with | some k => _ | none => _) = (match kidA ((x.ks.map (k - ·)).map fun k : Nat => (k : Int)) k i with | some k => _ | none => _)
      rw [b6, kid_at (fun d hd => ⟨(hin d hd).1, by have := (hin d hd).2; omega⟩), kid_at hin]
      cases hd : x.ks[i]? with
      | none => rfl
      | some d =>
        have hdd := hin d (List.mem_of_getElem? hd)
        obtain ⟨z, hz⟩ : ∃ z, T[k - d]? = some z := ⟨_, List.getElem?_eq_getElem (by omega)⟩
        obtain ⟨z', hz', hzb⟩ := H (k - d) z hz
        have c1 : z'.op = z.op := by have e := congrArg Nd.op hzb; exact e
        have c2 : z'.vk = z.vk := by have e := congrArg Nd.vk hzb; exact e
        show (match (absT T')[p + k - d]? with | some x => x.op == 1 && x.vk == 0 | none => false) = (match (absT T)[k - d]? with | some x => x.op == 1 && x.vk == 0 | none => false)
        rw [show p + k - d = p + (k - d) by omega, abs_get hz', abs_get hz]
        show (z'.op == 1 && z'.vk == 0) = (z.op == 1 && z.vk == 0)
        rw [c1, c2]
theorem part_of {pre ns post T : List Nd} (h : ns.map Nd.bare = T.map Nd.bare) : ∀ (k : Nat) (x : Nd), T[k]? = some x → ∃ x', (pre ++ ns ++ post)[pre.length + k]? = some x' ∧ x'.bare = x.bare := fun k x hx => by
  have hl := len_bare h
  have hk := (List.getElem?_eq_some_iff.1 hx).1
  have e := congrArg (·[k]?) h
  simp only [List.getElem?_map, hx] at e
  rw [List.append_assoc, List.getElem?_append_right (by omega), Nat.add_sub_cancel_left, List.getElem?_append_left (by omega)]
  cases hn : ns[k]? with
  | none => rw [hn] at e; cases e
  | some x' =>
    rw [hn] at e
    injection e with e
    exact ⟨x', rfl, e⟩
theorem val_get {T : List Nd} (h : 1 ≤ T.length) (self : Vl) (vars : List Bd) : (runA (absT T) self vars T.length).getD (T.length - 1) (anE 0) = valA (absT T) self vars := by
  unfold valA lastA
  rw [abs_len]
end Go.Proofs.YtmkmafkkpigfpaaGreatDoor.V
namespace Go.Proofs.YtmkmafkkpigfpaaGreatDoor
open Go.ChangeShapes Go.WideShapes Go.ChangeAt Go.RowKit Go.Lib
set_option linter.unusedVariables false
set_option linter.unusedSimpArgs false
set_option maxRecDepth 100000
abbrev ntT : Tk := ⟨1, [110, 111, 116], 0, 0, [], 0, 0⟩
theorem Ev.not {o : Nat} {l : List Tk} {X : Rz} (hp : isL [110, 111, 116] l = true) (ho : o ≠ 12) (h : Ev (.lvl 2) (o + 1) l.tail X) : Ev (.lvl 2) o l (X.bnd fun ns r => .ok (ns ++ [ndOp 6 [1] (wordL l)]) r) := by
  obtain ⟨hx, F, hF⟩ := h
  refine ⟨?_, F + 1, ?_⟩
  · cases X with
    | out => exact absurd rfl hx
    | ok a b => exact ok_in
    | no a b => exact no_in
  · rw [P_lvl, if_neg (by decide), if_pos (Or.inl rfl)]
    unfold preP
    rw [if_neg (by show ¬ isL [110, 111, 116] l = false; rw [hp]; decide), if_neg ho, hF]
    rfl
theorem riseK {o : Nat} {p : Tk} {l : List Tk} {X : Rz} {M : Nat} (K d : Nat) (hd : K + d = M) (hM : M ≤ 7) (hp : ∀ L, K ≤ L → L < M → isL (preW L) (p :: l) = false ∨ (L ≠ 2 ∧ L ≠ 6)) (h : Ev (.lvl M) o (p :: l) X) (hr : ∀ ns r, X = .ok ns r → ∀ L, K ≤ L → L < M → inL L r = 0) : Ev (.lvl K) o (p :: l) X := by
  subst hd
  exact Ev.rise d hM h (fun L h1 h2 => by
    have hq : L = 2 ∨ L = 6 → isL (preW L) (p :: l) = false := fun h26 => (hp L h1 h2).resolve_right (fun h => by omega)
    cases X with
    | out => exact absurd rfl h.1
    | ok ns r => exact ⟨Or.inr (hr ns r rfl L h1 h2), hq⟩
    | no e r => exact hq)
theorem opn_of {p : Tk} (h : p.bare = sgT 40 0 0) : Opn p := ⟨by have e := bare_k (y := sgT 40 0 0) h; exact e, by have e := bare_t (y := sgT 40 0 0) h; exact e⟩
def Quiet (e : List Tk) : Prop := ∀ r : List Tk, r.map Tk.bare = e → ∀ L, inL L r = 0
theorem quiet_cls (e : List Tk) : Quiet (sgT 41 0 0 :: e) := fun r h L => by
  cases r with
  | nil => cases h
  | cons a b => exact inL_sign (by injection h) (Or.inr (Or.inl rfl)) b L
theorem grpE {o : Nat} (ho : o < 12) {F : Nat} {A l e : List Tk} {T : List Nd} {p : Tk} (hP : P F (.lvl 0) 0 A = .ok T []) (hp : p.bare = sgT 40 0 0) (hl : l.map Tk.bare = A.map Tk.bare ++ sgT 41 0 0 :: e) :
    ∃ Y, Ev (.lvl 7) o (p :: l) Y ∧ ((∃ (ns : List Nd) (r : List Tk), Y = .ok ns r ∧ ns.map Nd.bare = T.map Nd.bare ∧ r.map Tk.bare = e) ∨ ∃ r, Y = .no 12 r) := by
  obtain ⟨Y, hY, hh⟩ := grpO ho (T2 := l) hP (e := sgT 41 0 0 :: e) ⟨_, _, rfl, rfl, rfl⟩ hl (opn_of hp)
  refine ⟨Y, hY, ?_⟩
  rcases hh with ⟨ns, r, rfl, h1, h2⟩ | h
  · exact Or.inl ⟨ns, r.tail, rfl, h1, by rw [List.map_tail, h2]; rfl⟩
  · exact Or.inr h
theorem joinE {o : Nat} (ho : o < 12) {F G : Nat} {A B l e : List Tk} {T1 T2 : List Nd} {p : Tk} (h1 : P F (.lvl 0) 0 A = .ok T1 []) (h2 : P G (.lvl 0) 0 B = .ok T2 []) (he : Quiet e) {u : List UInt8} (hu : u ∈ opB) (hp : p.bare = sgT 40 0 0)
    (hl : l.map Tk.bare = A.map Tk.bare ++ sgT 41 0 0 :: (meanW u).1.bare :: sgT 40 0 0 :: (B.map Tk.bare ++ sgT 41 0 0 :: e)) :
    ∃ Y, Ev (.lvl 0) o (p :: l) Y ∧ ((∃ (ns1 ns2 : List Nd) (nd : Nd) (r : List Tk), Y = .ok (ns1 ++ ns2 ++ [nd]) r ∧ ns1.map Nd.bare = T1.map Nd.bare ∧ ns2.map Nd.bare = T2.map Nd.bare ∧ nd.op = ((inOp u).1 : Nat) ∧ nd.ks = [ns2.length + 1, 1] ∧ r.map Tk.bare = e) ∨ ∃ r, Y = .no 12 r) := by
  obtain ⟨o1, o2, o3, o4, o5, o6⟩ := op_good u hu
  have hL := op_level u hu
  have hp' := opn_of hp
  obtain ⟨Y1, hY1, hh1⟩ := grpE (o := o) ho h1 hp hl
  rcases hh1 with ⟨ns1, r1, rfl, k1, k2⟩ | ⟨r1, rfl⟩
  · obtain ⟨y, z, r2, rfl, q2, q3, q4⟩ : ∃ y z r2, r1 = y :: z :: r2 ∧ y.bare = (meanW u).1.bare ∧ z.bare = sgT 40 0 0 ∧ r2.map Tk.bare = B.map Tk.bare ++ sgT 41 0 0 :: e := by
      cases r1 with
      | nil => cases k2
      | cons y r =>
        cases r with
        | nil => simp at k2
        | cons z r => simp only [List.map_cons, List.cons.injEq] at k2; exact ⟨y, z, r, rfl, k2.1, k2.2.1, k2.2.2⟩
    obtain ⟨L0, hL0⟩ : ∃ L0, L0 = (inOp u).2 := ⟨_, rfl⟩
    have hin : ∀ L, inL L (y :: z :: r2) = if L0 = L then (inOp u).1 else 0 := fun L => by
      show inT L y = _
      rw [inT_bare q2]
      unfold inT
      rw [o4, o5, ← hL0]
      simp
    rw [← hL0] at hL
    obtain ⟨Y2, hY2, hh2⟩ := grpE (o := o) ho h2 q3 q4
    have hA1 := riseK (L0 + 1) (6 - L0) (by omega) (Nat.le_refl _) (fun L _ _ => Or.inl (opn_pre hp' l L)) hY1 (fun ns r e L a b => by
      injection e with _ e
      rw [← e, hin, if_neg (by omega)])
    have hi : inL L0 (y :: z :: r2) ≠ 0 := by rw [hin, if_pos rfl]; exact o6
    have hz := opn_of q3
    rcases hh2 with ⟨ns2, r3, rfl, m1, m2⟩ | ⟨r3, rfl⟩
    · have hA2 := riseK (L0 + 1) (6 - L0) (by omega) (Nat.le_refl _) (fun L _ _ => Or.inl (opn_pre hz r2 L)) hY2 (fun ns r e L a b => by
        injection e with _ e
        rw [← e]
        exact he r3 m2 L)
      have hev := Ev.infix hL hA1 hi hA2 (fun n r e => by injection e with e1 e2; rw [← e2]; exact he r3 m2 L0)
      have hev0 := riseK 0 L0 (by omega) (by omega) (fun L _ _ => Or.inl (opn_pre hp' l L)) hev (fun ns r e L a b => by
        injection e with _ e
        rw [← e]
        exact he r3 m2 L)
      refine ⟨_, hev0, Or.inl ⟨ns1, ns2, _, r3, rfl, k1, m1, ?_, rfl, m2⟩⟩
      show ((inL L0 (y :: z :: r2) : Nat) : Int) = _
      rw [hin, if_pos rfl]
    · have hA2 := riseK (L0 + 1) (6 - L0) (by omega) (Nat.le_refl _) (fun L _ _ => Or.inl (opn_pre hz r2 L)) hY2 (fun ns r e L a b => by cases e)
      have hev := Ev.infix hL hA1 hi hA2 (fun n r e => by cases e)
      exact ⟨_, riseK 0 L0 (by omega) (by omega) (fun L _ _ => Or.inl (opn_pre hp' l L)) hev (fun ns r e L a b => by cases e), Or.inr ⟨r3, rfl⟩⟩
  · exact ⟨_, riseK 0 7 rfl (Nat.le_refl _) (fun L _ _ => Or.inl (opn_pre hp' l L)) hY1 (fun ns r e L a b => by cases e), Or.inr ⟨r1, rfl⟩⟩
theorem not_is {x : Tk} (h : x.bare = ntT) (l : List Tk) : isL [110, 111, 116] (x :: l) = true := by
  show isT x [110, 111, 116] = true
  rw [isT_bare (y := ntT) h]
  rfl
theorem notE {o : Nat} (ho : o < 11) {F : Nat} {A l e : List Tk} {T : List Nd} {n p : Tk} (h1 : P F (.lvl 0) 0 A = .ok T []) (hn : n.bare = ntT) (hp : p.bare = sgT 40 0 0) (hl : l.map Tk.bare = A.map Tk.bare ++ sgT 41 0 0 :: e) (he : ∀ r : List Tk, r.map Tk.bare = e → ∀ L, 1 ≤ L → inL L r = 0) :
    ∃ Y, Ev (.lvl 1) o (n :: p :: l) Y ∧ ((∃ (ns : List Nd) (nt : Nd) (r : List Tk), Y = .ok (ns ++ [nt]) r ∧ ns.map Nd.bare = T.map Nd.bare ∧ nt.op = 6 ∧ nt.ks = [1] ∧ r.map Tk.bare = e) ∨ ∃ r, Y = .no 12 r) := by
  obtain ⟨Y1, hY1, hh1⟩ := grpE (o := o + 1) (by omega) h1 hp hl
  have hp' := opn_of hp
  have hY2 := riseK 2 5 rfl (Nat.le_refl _) (fun L _ _ => Or.inl (opn_pre hp' l L)) hY1 (fun ns r ee L a b => by
    rcases hh1 with ⟨n2, r2, rfl, _, m2⟩ | ⟨_, rfl⟩
    · injection ee with _ ee
      rw [← ee]
      exact he r2 m2 L (by omega)
    · cases ee)
  have hn2 := Ev.not (o := o) (l := n :: p :: l) (not_is hn _) (by omega) hY2
  rcases hh1 with ⟨ns, r, rfl, k1, k2⟩ | ⟨r, rfl⟩
  · exact ⟨_, riseK 1 1 rfl (by omega) (fun L _ _ => Or.inr (by omega)) hn2 (fun n2 r2 ee L a b => by
      injection ee with _ ee
      rw [← ee]
      exact he r k2 L (by omega)), Or.inl ⟨ns, _, r, rfl, k1, rfl, rfl, k2⟩⟩
  · exact ⟨_, riseK 1 1 rfl (by omega) (fun L _ _ => Or.inr (by omega)) hn2 (fun n2 r2 ee L a b => by cases ee), Or.inr ⟨r, rfl⟩⟩
abbrev Wbs (X : List UInt8) (E : List Tk) : Prop := ∀ L C, ∃ R : List Tk, Wds X L C R 0 0 0 ∧ R.map Tk.bare = E
theorem wbs_nil : Wbs [] [] := fun L C => ⟨[], Wds.nil L C, rfl⟩
theorem wbs_sp {X : List UInt8} {E : List Tk} (h : Wbs X E) : Wbs (32 :: X) E := fun L C => by
  obtain ⟨R, h1, h2⟩ := h L (C + 1)
  exact ⟨R, Wds.skip (by rfl) h1, h2⟩
theorem wbs_sign {c : UInt8} (hc : c = 40 ∨ c = 41) {X : List UInt8} {E : List Tk} (h : Wbs X E) : Wbs (c :: X) (sgT c 0 0 :: E) := fun L C => by
  obtain ⟨R, h1, h2⟩ := h L (C + 1)
  exact ⟨_, Wds.sign hc h1, by rw [List.map_cons, h2]; rfl⟩
theorem wbs_word {u : List UInt8} (h1 : u ≠ []) (h2 : (meanW u).2 = 0) (h3 : wlen u = u.length) {X : List UInt8} {E : List Tk} (h : Wbs X E) : Wbs (u ++ 32 :: X) ((meanW u).1.bare :: E) := fun L C => by
  obtain ⟨_, hw, hm⟩ := word_ext h1 h2 (Or.inr rfl : Stop 32) X
  obtain ⟨R, k1, k2⟩ := wbs_sp h L (C + u.length)
  refine ⟨_, Wds.wd (k := (meanW u).1) (hw.trans h3) (hm.trans (by rw [← h2])) (skip_word h2 (32 :: X) L C) h1 k1, ?_⟩
  rw [List.map_cons, k2]
  rfl
theorem wbs_wrap {s : List UInt8} {T : List Tk} {L1 C1 : Nat} {a b : Int} (h1 : Wds s L1 C1 T 0 a b) {X : List UInt8} {E : List Tk} (h : Wbs X E) : Wbs (40 :: (s ++ 10 :: 41 :: X)) (sgT 40 0 0 :: (T.map Tk.bare ++ sgT 41 0 0 :: E)) := fun L C => by
  obtain ⟨A, l2, c2, b1, b2⟩ := h1.any L (C + 1)
  obtain ⟨R, k1, k2⟩ := wbs_sign (Or.inr rfl) h (L + lines s + 1) 1
  refine ⟨_, Wds.sign (Or.inl rfl) (b1.join rfl k1), ?_⟩
  rw [List.map_cons, List.map_append, b2, k2]
  rfl
def notO (u s t : List UInt8) : List UInt8 := [110, 111, 116] ++ 32 :: 40 :: 40 :: (s ++ 10 :: 41 :: 32 :: (u ++ 32 :: 40 :: (t ++ 10 :: 41 :: [41])))
def orN (s t : List UInt8) : List UInt8 := 40 :: ([110, 111, 116] ++ 32 :: 40 :: (s ++ 10 :: 41 :: 32 :: ([111, 114] ++ 32 :: ([110, 111, 116] ++ 32 :: 40 :: (t ++ 10 :: 41 :: [41])))))
theorem not_mean : meanW [110, 111, 116] = (ntT, 0) := by rfl
theorem wbs_not {X : List UInt8} {E : List Tk} (h : Wbs X E) : Wbs ([110, 111, 116] ++ 32 :: X) (ntT :: E) := by
  have := wbs_word (u := [110, 111, 116]) (by decide) (by rw [not_mean]) (by rfl) h
  rw [not_mean] at this
  exact this
theorem cls_group {o : Nat} {O : Tk} {l r : List Tk} {ns : List Nd} (hO : O.bare = sgT 40 0 0) (ho : o ≠ 12) (h : Ev (.lvl 0) (o + 1) l (.ok ns r)) {e : List Tk} (hr : r.map Tk.bare = sgT 41 0 0 :: e) : Ev (.lvl 7) o (O :: l) (.ok ns r.tail) := by
  have hs : isL [41] r = true := by
    cases r with
    | nil => cases hr
    | cons a b => rw [isL_sign (c := 41) (by injection hr)]; rfl
  have hX : ((Rz.ok ns r).bnd fun ns r => if isL [41] r then .ok ns r.tail else .no 4 r) = .ok ns r.tail := if_pos hs
  have := Ev.group (o := o) (l := O :: l) (opn_of hO).1 (opn_of hO).2 ho h (by rw [hX]; exact ok_in)
  rw [hX] at this
  exact this
theorem no_group {o : Nat} {O : Tk} {l r : List Tk} {x : Int} (hO : O.bare = sgT 40 0 0) (ho : o ≠ 12) (h : Ev (.lvl 0) (o + 1) l (.no x r)) : Ev (.lvl 7) o (O :: l) (.no x r) :=
  Ev.group (o := o) (l := O :: l) (opn_of hO).1 (opn_of hO).2 ho h (by exact no_in)
theorem ok_read {l : List UInt8} {A : List Tk} {a b : Int} (hw : Wds l 1 1 A 0 a b) {ns : List Nd} (h : Ev (.lvl 0) 0 A (.ok ns [])) : (∃ ln cl E, E ≠ 0 ∧ readP l = ([], ln, cl, E)) ∨ readP l = (ns, 0, 0, 0) := by
  have hr := read_at hw h.whole
  unfold tell at hr
  simp only at hr
  split at hr
  · exact Or.inl ⟨_, _, 7, by decide, hr⟩
  · rw [if_neg (by simp)] at hr
    exact Or.inr hr
theorem no_read {l : List UInt8} {A : List Tk} {a b : Int} (hw : Wds l 1 1 A 0 a b) {x : Int} {r : List Tk} (hx : x ≠ 0) (h : Ev (.lvl 0) 0 A (.no x r)) : ∃ ln cl E, E ≠ 0 ∧ readP l = ([], ln, cl, E) := ⟨_, _, x, hx, read_at hw h.whole⟩
section
variable {s t : List UInt8} {T1 T2 : List Nd}
theorem not_read (hs : s.length ≤ 10000) (ht : t.length ≤ 10000) (h1 : readP s = (T1, 0, 0, 0)) (h2 : readP t = (T2, 0, 0, 0)) {u : List UInt8} (hu : u ∈ opB) :
    (∃ ln cl E, E ≠ 0 ∧ readP (notO u s t) = ([], ln, cl, E)) ∨
    (∃ (ns1 ns2 : List Nd) (nd nt : Nd), readP (notO u s t) = (ns1 ++ ns2 ++ [nd] ++ [nt], 0, 0, 0) ∧ ns1.map Nd.bare = T1.map Nd.bare ∧ ns2.map Nd.bare = T2.map Nd.bare ∧ nd.op = ((inOp u).1 : Nat) ∧ nd.ks = [ns2.length + 1, 1] ∧ nt.op = 6 ∧ nt.ks = [1]) := by
  obtain ⟨_, _, h60, hTr1, _, hE1, hP1⟩ := readP_good (by omega) h1
  obtain ⟨_, _, h60', hTr2, _, hE2, hP2⟩ := readP_good (by omega) h2
  obtain ⟨o1, o2, o3, _⟩ := op_good u hu
  obtain ⟨R, hw, hR⟩ := wbs_not (wbs_sign (Or.inl rfl : (40 : UInt8) = 40 ∨ (40 : UInt8) = 41) (wbs_wrap (lexR_wds hE1) (wbs_sp (wbs_word o1 o2 o3 (wbs_wrap (lexR_wds hE2) (wbs_sign (Or.inr rfl : (41 : UInt8) = 40 ∨ (41 : UInt8) = 41) wbs_nil)))))) 1 1
  obtain ⟨n, O, p, l, rfl, q1, q2, q3, q4⟩ := map_cons3 hR
  obtain ⟨Y, hY, hh⟩ := joinE (o := 2) (by omega) (e := [sgT 41 0 0]) hP1 hP2 (quiet_cls []) hu q3 q4
  have lift : ∀ {Y : Rz}, Ev (.lvl 7) 1 (O :: p :: l) Y → (∀ ns r, Y = .ok ns r → r = []) → Ev (.lvl 0) 0 (n :: O :: p :: l) (Y.bnd fun ns r => .ok (ns ++ [ndOp 6 [1] n]) r) := fun {Y} h hr => by
    have h2 := riseK 2 5 rfl (Nat.le_refl _) (fun L _ _ => Or.inl (opn_pre (opn_of q2) (p :: l) L)) h (fun ns r e L _ _ => by rw [hr ns r e]; exact inL_nil L)
    have h3 := Ev.not (o := 0) (l := n :: O :: p :: l) (not_is q1 _) (by omega) h2
    refine riseK 0 2 rfl (by omega) (fun L _ _ => Or.inr (by omega)) h3 (fun ns r e L _ _ => ?_)
    cases Y with
    | out => exact absurd rfl h.1
    | ok a b =>
      injection e with _ e
      rw [← e, hr a b rfl]
      exact inL_nil L
    | no a b => cases e
  rcases hh with ⟨ns1, ns2, nd, r, rfl, k1, k2, k3, k4, k5⟩ | ⟨r, rfl⟩
  · have ht : r.tail = [] := by
      have := congrArg List.length k5
      simp at this
      exact List.eq_nil_of_length_eq_zero (by rw [List.length_tail]; omega)
    have h7 := cls_group q2 (by omega) hY k5
    rw [ht] at h7
    have hev := lift h7 (fun ns r e => by injection e with _ e; exact e.symm)
    rcases ok_read hw hev with h | h
    · exact Or.inl h
    · exact Or.inr ⟨ns1, ns2, nd, _, h, k1, k2, k3, k4, rfl, rfl⟩
  · exact Or.inl (no_read hw (by decide) (lift (no_group q2 (by omega) hY) (fun ns r e => by cases e)))
theorem or_read (hs : s.length ≤ 10000) (ht : t.length ≤ 10000) (h1 : readP s = (T1, 0, 0, 0)) (h2 : readP t = (T2, 0, 0, 0)) :
    (∃ ln cl E, E ≠ 0 ∧ readP (orN s t) = ([], ln, cl, E)) ∨
    (∃ (ns1 ns2 : List Nd) (n1 n2 nd : Nd), readP (orN s t) = (ns1 ++ [n1] ++ (ns2 ++ [n2]) ++ [nd], 0, 0, 0) ∧ ns1.map Nd.bare = T1.map Nd.bare ∧ ns2.map Nd.bare = T2.map Nd.bare ∧ n1.op = 6 ∧ n1.ks = [1] ∧ n2.op = 6 ∧ n2.ks = [1] ∧ nd.op = 4 ∧ nd.ks = [ns2.length + 1 + 1, 1]) := by
  obtain ⟨_, _, h60, hTr1, _, hE1, hP1⟩ := readP_good (by omega) h1
  obtain ⟨_, _, h60', hTr2, _, hE2, hP2⟩ := readP_good (by omega) h2
  have hou : ([111, 114] : List UInt8) ∈ opB := by decide
  obtain ⟨o1, o2, o3, o4, o5, o6⟩ := op_good _ hou
  obtain ⟨R, hw, hR⟩ := wbs_sign (Or.inl rfl : (40 : UInt8) = 40 ∨ (40 : UInt8) = 41) (wbs_not (wbs_wrap (lexR_wds hE1) (wbs_sp (wbs_word o1 o2 o3 (wbs_not (wbs_wrap (lexR_wds hE2) (wbs_sign (Or.inr rfl : (41 : UInt8) = 40 ∨ (41 : UInt8) = 41) wbs_nil))))))) 1 1
  obtain ⟨O, n, p, l, rfl, q1, q2, q3, q4⟩ := map_cons3 hR
  have hin : ∀ (y : Tk) (r : List Tk), y.bare = (meanW [111, 114]).1.bare → ∀ L, inL L (y :: r) = if 0 = L then 4 else 0 := fun y r hy L => by
    show inT L y = _
    rw [inT_bare hy]
    unfold inT
    rw [o4, o5]
    simp [inOp]
  obtain ⟨Y, hY, hh⟩ := notE (o := 1) (by omega) hP1 q2 q3 q4 (fun r hr L hL => by
    cases r with
    | nil => cases hr
    | cons y r =>
      rw [hin y r (by injection hr), if_neg (by omega)])
  have lift : ∀ {ns : List Nd} {r : List Tk}, Ev (.lvl 0) 1 (n :: p :: l) (.ok ns r) → r.map Tk.bare = [sgT 41 0 0] → Ev (.lvl 0) 0 (O :: n :: p :: l) (.ok ns []) := fun {ns r} h hr => by
    have ht : r.tail = [] := by
      have := congrArg List.length hr
      simp at this
      exact List.eq_nil_of_length_eq_zero (by rw [List.length_tail]; omega)
    have h7 := cls_group q1 (by omega) h hr
    rw [ht] at h7
    exact riseK 0 7 rfl (Nat.le_refl _) (fun L _ _ => Or.inl (opn_pre (opn_of q1) (n :: p :: l) L)) h7 (fun ns r e L _ _ => by
      injection e with _ e
      rw [← e]
      exact inL_nil L)
  have liftN : ∀ {x : Int} {r : List Tk}, x ≠ 0 → Ev (.lvl 0) 1 (n :: p :: l) (.no x r) → ∃ ln cl E, E ≠ 0 ∧ readP (orN s t) = ([], ln, cl, E) := fun {x r} hx h =>
    no_read hw hx (riseK 0 7 rfl (Nat.le_refl _) (fun L _ _ => Or.inl (opn_pre (opn_of q1) (n :: p :: l) L)) (no_group q1 (by omega) h) (fun ns r e L _ _ => by cases e))
  rcases hh with ⟨ns1, n1, r1, rfl, k1, k2, k3, k4⟩ | ⟨r, rfl⟩
  · obtain ⟨y, n2, z, r2, rfl, g1, g2, g3, g4⟩ := map_cons3 k4
    obtain ⟨Y2, hY2, hh2⟩ := notE (o := 1) (by omega) hP2 g2 g3 g4 (fun r hr L hL => quiet_cls [] r hr L)
    have hi : inL 0 (y :: n2 :: z :: r2) ≠ 0 := by rw [hin y _ g1, if_pos rfl]; decide
    rcases hh2 with ⟨ns2, m2, r3, rfl, j1, j2, j3, j4⟩ | ⟨r3, rfl⟩
    · have hev := Ev.infix (L := 0) (Or.inl rfl) hY hi hY2 (fun a b e => by injection e with _ e; rw [← e]; exact quiet_cls [] r3 j4 0)
      rcases ok_read hw (lift hev j4) with h | h
      · exact Or.inl h
      · refine Or.inr ⟨ns1, ns2, n1, m2, _, h, k1, j1, k2, k3, j2, j3, ?_, ?_⟩
        · show ((inL 0 (y :: n2 :: z :: r2) : Nat) : Int) = 4
          rw [hin y _ g1, if_pos rfl]
          rfl
        · show [(ns2 ++ [m2]).length + 1, 1] = _
          rw [List.length_append]
          rfl
    · have hev := Ev.infix (L := 0) (Or.inl rfl) hY hi hY2 (fun a b e => by cases e)
      exact Or.inl (liftN (by decide) hev)
  · exact Or.inl (liftN (by decide) (Ev.down (by omega) hY (by
      show (0 = 2 ∨ 0 = 6) → _
      intro h
      omega)))
end
end Go.Proofs.YtmkmafkkpigfpaaGreatDoor
namespace Go.Proofs.YtmkmafkkpigfpaaGreatDoor.V
open Go.ChangeShapes Go.WideShapes Go.ChangeAt Go.RowKit Go.Lib
set_option linter.unusedVariables false
set_option linter.unusedSimpArgs false
set_option maxRecDepth 100000
abbrev ask1 (Z : An) : Nat → An := fun i => if i = 0 then Z else anE 0
abbrev ask2 (Z Y : An) : Nat → An := fun i => if i = 0 then Z else if i = 1 then Y else anE 0
def Gs (a : An) : Prop := a.e = 0 → a.v.k = 4 → a.v.s.toList = []
theorem gs0 (k n e : Int) : Gs (an0 k n ⟨#[]⟩ e) := fun _ _ => by simp [ByteArray.toList_eq]
theorem gs_tru {a : An} (h : Gs a) : Gs (truA a) := by
  unfold truA
  split
  · exact gs0 _ _ _
  · exact h
theorem gs_proper (x : Vl) : Gs (properA x) := by
  unfold properA
  split
  · rename_i h
    intro _ hk
    have hk' : x.k = 4 := hk
    unfold mayB at h
    rw [if_neg (by omega), if_neg (by omega), if_neg (by omega), if_pos hk'] at h
    simp only [Bool.and_eq_true, List.isEmpty_iff] at h
    exact h.2
  · exact gs0 _ _ _
theorem gs_bound (nm : ByteArray) (l : List Bd) : Gs (boundA nm l) := by
  unfold boundA
  split
  · first
      | exact gs_proper _
      | (split <;> first | exact gs_proper _ | exact gs0 _ _ _)
  · first | exact gs0 _ _ _ | exact gs_proper _
theorem gs_ite {c : Prop} [Decidable c] {a b : An} (ha : Gs a) (hb : Gs b) : Gs (if c then a else b) := by split <;> assumption
theorem gs_left {ask : Nat → An} (h : ∀ i, Gs (ask i)) (n : Nat) {R : List Vl → An} (hR : ∀ l, Gs (R l)) : Gs (leftA ask n R) := by
  unfold leftA
  split
  · exact h _
  · exact hR _
theorem gs_cmp (p : Int → Bool) (a b : Vl) : Gs (cmpA p a b) := gs_ite (gs0 _ _ _) (gs_ite (gs0 _ _ _) (gs0 _ _ _))
theorem gs_eqR (nl w : Bool) (l : List Vl) : Gs (eqR nl w l) := gs_ite (gs0 _ _ _) (gs_cmp _ _ _)
theorem gs_ordR (p : Int → Bool) (l : List Vl) : Gs (ordR p l) := gs_ite (gs0 _ _ _) (gs_cmp _ _ _)
theorem gs_kind (kind : Int) {R : List Vl → An} (h : ∀ l, Gs (R l)) (l : List Vl) : Gs (kindR kind R l) := gs_ite (gs0 _ _ _) (gs_ite (gs0 _ _ _) (h l))
theorem gs_whole (n e : Int) : Gs (wholeA n e) := gs_ite (gs0 _ _ _) (gs0 _ _ _)
theorem gs_abs (a : Vl) : Gs (absA a) := by
  unfold absA
  split
  · exact gs0 _ _ _
  · rename_i hn
    split
    · exact gs0 _ _ _
    · intro _ hk
      have hk' : a.k = 4 := hk
      unfold numB at hn
      rw [hk'] at hn
      exact absurd rfl hn
theorem gs_reck {op : Int} {n0 n1 : Bool} {m : Option Nat} {R : List Vl → An} (h : reckR op n0 n1 = some (m, R)) (l : List Vl) : Gs (R l) := by
  unfold reckR at h
  by_cases h7 : op = 7
  · rw [if_pos h7] at h
    cases h
    exact gs_eqR _ _ _
  rw [if_neg h7] at h
  by_cases h8 : op = 8
  · rw [if_pos h8] at h
    cases h
    exact gs_eqR _ _ _
  rw [if_neg h8] at h
  by_cases h9 : op = 9
  · rw [if_pos h9] at h
    cases h
    exact gs_ordR _ _
  rw [if_neg h9] at h
  by_cases h10 : op = 10
  · rw [if_pos h10] at h
    cases h
    exact gs_ordR _ _
  rw [if_neg h10] at h
  by_cases h11 : op = 11
  · rw [if_pos h11] at h
    cases h
    exact gs_ordR _ _
  rw [if_neg h11] at h
  by_cases h12 : op = 12
  · rw [if_pos h12] at h
    cases h
    exact gs_ordR _ _
  rw [if_neg h12] at h
  by_cases h13 : op = 13
  · rw [if_pos h13] at h
    cases h
    exact gs0 _ _ _
  rw [if_neg h13] at h
  by_cases h14 : op = 14
  · rw [if_pos h14] at h
    cases h
    exact gs0 _ _ _
  rw [if_neg h14] at h
  by_cases h15 : op = 15
  · rw [if_pos h15] at h
    cases h
    exact gs0 _ _ _
  rw [if_neg h15] at h
  by_cases h16 : op = 16
  · rw [if_pos h16] at h
    cases h
    exact gs0 _ _ _
  rw [if_neg h16] at h
  by_cases h17 : op = 17
  · rw [if_pos h17] at h
    cases h
    exact gs0 _ _ _
  rw [if_neg h17] at h
  by_cases h18 : op = 18
  · rw [if_pos h18] at h
    cases h
    exact gs_abs _
  rw [if_neg h18] at h
  by_cases h19 : op = 19
  · rw [if_pos h19] at h
    cases h
    exact gs0 _ _ _
  rw [if_neg h19] at h
  by_cases h20 : op = 20
  · rw [if_pos h20] at h
    cases h
    exact gs0 _ _ _
  rw [if_neg h20] at h
  by_cases h21 : op = 21
  · rw [if_pos h21] at h
    cases h
    exact gs_kind 1 (fun l => by show Gs (modA _ _); unfold modA; exact gs_ite (gs_whole _ _) (gs_whole _ _)) l
  rw [if_neg h21] at h
  by_cases h22 : op = 22
  · rw [if_pos h22] at h
    cases h
    exact gs_kind 3 (fun l => by show Gs (lenA _); exact gs_whole _ _) l
  rw [if_neg h22] at h
  by_cases h23 : op = 23
  · rw [if_pos h23] at h
    cases h
    exact gs_kind 3 (fun l => fun _ hk => absurd (show (3 : Int) = 4 from hk) (by decide)) l
  rw [if_neg h23] at h
  by_cases h24 : op = 24
  · rw [if_pos h24] at h
    cases h
    exact gs_kind 3 (fun l => by show Gs (anT _); exact gs0 _ _ _) l
  rw [if_neg h24] at h
  by_cases h25 : op = 25
  · rw [if_pos h25] at h
    cases h
    exact gs_kind 3 (fun l => by show Gs (anT _); exact gs0 _ _ _) l
  rw [if_neg h25] at h
  cases h
theorem gs_ans {T : List Na} {A : List An} (hA : ∀ a ∈ A, Gs a) (x : Na) (self : Vl) (vars : List Bd) : Gs (ansA T A x self vars) := by
  have hk : ∀ i, Gs (askA A x.ks i) := fun i => by
    unfold askA
    cases kidA x.ks A.length i with
    | none => exact gs0 _ _ _
    | some k =>
      show Gs (A.getD k (anE 0))
      rw [List.getD_eq_getElem?_getD]
      cases h : A[k]? with
      | none => exact gs0 _ _ _
      | some a => exact hA a (List.mem_of_getElem? h)
  unfold ansA
  refine gs_ite (gs_proper _) (gs_ite (gs_bound _ _) (gs_ite (gs_proper _) (gs_ite ?_ (gs_ite ?_ (gs_ite ?_ (gs_ite ?_ ?_))))))
  · exact gs_ite (gs_tru (hk 0)) (gs_ite (gs_tru (hk 1)) (gs0 _ _ _))
  · exact gs_ite (gs_tru (hk 0)) (gs_ite (gs_tru (hk 1)) (gs0 _ _ _))
  · exact gs_ite (gs_tru (hk 0)) (gs0 _ _ _)
  · exact gs_ite (gs_tru (hk 0)) (gs_ite (hk 1) (hk 2))
  · unfold reckA
    split
    · rename_i h
      exact gs_left hk _ (gs_reck h)
    · rename_i h
      exact gs_left hk _ (gs_reck h)
    · exact gs0 _ _ _
theorem gs_run (T : List Na) (self : Vl) (vars : List Bd) : ∀ k, ∀ a ∈ runA T self vars k, Gs a
  | 0, a, h => by cases h
  | k + 1, a, h => by
    rw [runA] at h
    rcases List.mem_append.1 h with h | h
    · exact gs_run T self vars k a h
    · rcases List.mem_singleton.1 h with rfl
      split
      · exact gs_ans (gs_run T self vars k) _ _ _
      · exact gs0 _ _ _
theorem gs_val (T : List Na) (self : Vl) (vars : List Bd) : Gs (valA T self vars) := by
  unfold valA lastA
  rw [List.getD_eq_getElem?_getD]
  cases h : (runA T self vars T.length)[T.length - 1]? with
  | none => exact gs0 _ _ _
  | some a => exact gs_run T self vars _ a (List.mem_of_getElem? h)
theorem tru_err {a : An} (h : ¬ a.e = 0) : truA a = a := by
  unfold truA
  rw [if_neg (fun k => h k.1)]
theorem tru_class {a : An} (g : Gs a) : ¬ (truA a).e = 0 ∨ (truA a = a ∧ a.e = 0 ∧ a.v.k = 0) ∨ (truA a = a ∧ a.e = 0 ∧ a.v.k = 4 ∧ a.v.s.toList = []) := by
  unfold truA
  by_cases h : a.e = 0 ∧ goesB 4 a.v = false
  · rw [if_pos h]
    exact Or.inl (by decide)
  · rw [if_neg h]
    by_cases he : a.e = 0
    · have hg : goesB 4 a.v = true := by
        cases hb : goesB 4 a.v with
        | true => rfl
        | false => exact absurd ⟨he, hb⟩ h
      unfold goesB at hg
      rw [Bool.or_eq_true, beq_iff_eq, beq_iff_eq] at hg
      rcases hg with hg | hg
      · exact Or.inr (Or.inr ⟨rfl, he, hg, g he hg⟩)
      · exact Or.inr (Or.inl ⟨rfl, he, hg⟩)
    · exact Or.inl he
theorem tru_0 (n : Int) (s : ByteArray) : truA (an0 0 n s 0) = an0 0 n s 0 := if_neg (fun h => absurd h.2 (by show ¬ goesB 4 _ = false; unfold goesB; simp))
theorem tru_4 (n : Int) (s : ByteArray) : truA (an0 4 n s 0) = an0 4 n s 0 := if_neg (fun h => absurd h.2 (by show ¬ goesB 4 _ = false; unfold goesB; simp))
theorem not_err {a : An} (h : ¬ (truA a).e = 0) : notA (ask1 a) = truA a := if_pos h
theorem not_null {a : An} (h : truA a = a) (he : a.e = 0) (hk : a.v.k = 0) : notA (ask1 a) = an0 0 0 ⟨#[]⟩ 0 := by
  unfold notA
  show (if ¬ (truA a).e = 0 then truA a else an0 (ntT (truA a).v.k (truA a).v.n).1 (ntT (truA a).v.k (truA a).v.n).2 ⟨#[]⟩ 0) = _
  rw [h, if_neg (by omega), hk]
  rfl
theorem not_bool {a : An} (h : truA a = a) (he : a.e = 0) (hk : a.v.k = 4) : notA (ask1 a) = an0 4 (b01 (a.v.n == 0)) ⟨#[]⟩ 0 := by
  unfold notA
  show (if ¬ (truA a).e = 0 then truA a else an0 (ntT (truA a).v.k (truA a).v.n).1 (ntT (truA a).v.k (truA a).v.n).2 ⟨#[]⟩ 0) = _
  rw [h, if_neg (by omega), hk]
  rfl
theorem not_anT (b : Bool) : notA (ask1 (anT b)) = anT (!b) := by
  rw [not_bool (tru_4 _ _) rfl rfl]
  cases b <;> rfl
theorem not_anE0 : notA (ask1 (anE 0)) = anE 0 := not_null (tru_0 _ _) rfl rfl
theorem not_E {a : An} (h : ¬ a.e = 0) : notA (ask1 a) = a := by
  rw [not_err (by rw [tru_err h]; exact h), tru_err h]
theorem eqT_no {x : Vl} (h : x.k = 0) (st : Bool) : eqT x st = false := by
  unfold eqT
  rw [h]
  rfl
theorem eqT_at {x : Vl} (h : x.k = 4) (hs : x.s.toList = []) (st : Bool) : eqT x st = (x.n == b01 st) := by
  unfold eqT
  rw [h, hs]
  simp
theorem un_two (st : Int) (x y : Vl) (hx : x.k = 0 ∨ x.k = 4) (hy : y.k = 0 ∨ y.k = 4) : unT st [x, y] = if (x.k = 4 ∧ x.n = st) ∨ (y.k = 4 ∧ y.n = st) then (4, b01 (st == 1)) else if x.k = 4 ∧ y.k = 4 then (4, b01 (st == 0)) else (0, 0) := by
  unfold unT isS
  simp only [List.any_cons, List.any_nil, Bool.or_false, List.all_cons, List.all_nil, Bool.and_true, Bool.or_eq_true, Bool.and_eq_true, beq_iff_eq]
section
variable {st : Bool} {X Y : An}
theorem unl_hit (h : ¬ (truA X).e = 0 ∨ eqT (truA X).v st = true) : unlA st (ask2 X Y) = truA X := if_pos h
theorem unl_neg (h : (truA X).e = 0) (h' : eqT (truA X).v st = false) : ¬ (¬ (truA X).e = 0 ∨ eqT (truA X).v st = true) := fun k => k.elim (fun k => k h) (fun k => by rw [h'] at k; cases k)
theorem unl_snd (h : (truA X).e = 0) (h' : eqT (truA X).v st = false) (k : ¬ (truA Y).e = 0) : unlA st (ask2 X Y) = truA Y := (if_neg (unl_neg h h')).trans (if_pos k)
theorem unl_end (h : (truA X).e = 0) (h' : eqT (truA X).v st = false) (k : (truA Y).e = 0) : unlA st (ask2 X Y) = an0 (unT (b01 st) [(truA X).v, (truA Y).v]).1 (unT (b01 st) [(truA X).v, (truA Y).v]).2 ⟨#[]⟩ 0 := (if_neg (unl_neg h h')).trans (if_neg (fun n => n k))
end
theorem b01_list : (⟨#[]⟩ : ByteArray).toList = [] := by simp [ByteArray.toList_eq]
theorem morgan {X Y : An} (gx : Gs X) (gy : Gs Y) : notA (ask1 (unlA false (ask2 X Y))) = unlA true (ask2 (notA (ask1 X)) (notA (ask1 Y))) := by
  rcases tru_class gx with hx | ⟨hx, ex, kx⟩ | ⟨hx, ex, kx, sx⟩
  · rw [unl_hit (Or.inl hx), not_E hx, not_err hx, unl_hit (Or.inl (by rw [tru_err hx]; exact hx)), tru_err hx]
  · have hA : (truA X).e = 0 := by rw [hx]; exact ex
    have hA' : eqT (truA X).v false = false := by rw [hx]; exact eqT_no kx _
    have hB : (truA (an0 0 0 ⟨#[]⟩ 0)).e = 0 := by rw [tru_0]
    have hB' : eqT (truA (an0 0 0 ⟨#[]⟩ 0)).v true = false := by rw [tru_0]; exact eqT_no rfl _
    rw [not_null hx ex kx]
    rcases tru_class gy with hy | ⟨hy, ey, ky⟩ | ⟨hy, ey, ky, sy⟩
    · rw [unl_snd hA hA' hy, not_E hy, not_err hy, unl_snd hB hB' (by rw [tru_err hy]; exact hy), tru_err hy]
    · rw [unl_end hA hA' (by rw [hy]; exact ey), not_null hy ey ky, unl_end hB hB' hB, hx, hy, tru_0, un_two _ _ _ (Or.inl kx) (Or.inl ky), un_two _ _ _ (Or.inl rfl) (Or.inl rfl), if_neg (by omega), if_neg (by omega), if_neg (by simp [an0]), if_neg (by simp [an0])]
      exact not_null (tru_0 _ _) rfl rfl
    · rw [unl_end hA hA' (by rw [hy]; exact ey), not_bool hy ey ky, unl_end hB hB' (by rw [tru_4]), hx, hy, tru_0, tru_4, un_two _ _ _ (Or.inl kx) (Or.inr ky), un_two _ _ _ (Or.inl rfl) (Or.inr rfl)]
      by_cases hn : Y.v.n = 0
      · rw [if_pos (Or.inr ⟨ky, hn⟩), if_pos (Or.inr ⟨rfl, by rw [hn]; rfl⟩)]
        exact not_anT false
      · have q1 : ¬ ((X.v.k = 4 ∧ X.v.n = b01 false) ∨ (Y.v.k = 4 ∧ Y.v.n = b01 false)) := by
          rintro (⟨h, _⟩ | ⟨_, h⟩)
          · omega
          · exact hn h
        rw [if_neg q1, if_neg (by omega), if_neg (by simp [an0, b01, hn]), if_neg (by simp [an0])]
        exact not_null (tru_0 _ _) rfl rfl
  · have hA : (truA X).e = 0 := by rw [hx]; exact ex
    by_cases hn : X.v.n = 0
    · rw [unl_hit (Or.inr (by rw [hx, eqT_at kx sx, hn]; rfl)), hx, not_bool hx ex kx, unl_hit (Or.inr (by rw [tru_4, hn]; exact (eqT_at rfl b01_list true).trans rfl)), tru_4]
    · have hA' : eqT (truA X).v false = false := by rw [hx, eqT_at kx sx]; exact beq_false_of_ne hn
      have hB : (truA (an0 4 (b01 (X.v.n == 0)) ⟨#[]⟩ 0)).e = 0 := by rw [tru_4]
      have hB' : eqT (truA (an0 4 (b01 (X.v.n == 0)) ⟨#[]⟩ 0)).v true = false := by
        rw [tru_4, beq_false_of_ne hn]
        exact (eqT_at rfl b01_list true).trans rfl
      rw [not_bool hx ex kx]
      rcases tru_class gy with hy | ⟨hy, ey, ky⟩ | ⟨hy, ey, ky, sy⟩
      · rw [unl_snd hA hA' hy, not_E hy, not_err hy, unl_snd hB hB' (by rw [tru_err hy]; exact hy), tru_err hy]
      · rw [unl_end hA hA' (by rw [hy]; exact ey), not_null hy ey ky, unl_end hB hB' (by rw [tru_0]), hx, hy, tru_0, tru_4, un_two _ _ _ (Or.inr kx) (Or.inl ky), un_two _ _ _ (Or.inr rfl) (Or.inl rfl)]
        have q1 : ¬ ((X.v.k = 4 ∧ X.v.n = b01 false) ∨ (Y.v.k = 4 ∧ Y.v.n = b01 false)) := by
          rintro (⟨_, h⟩ | ⟨h, _⟩)
          · exact hn h
          · omega
        rw [if_neg q1, if_neg (by omega), if_neg (by simp [an0, b01, hn]), if_neg (by simp [an0])]
        exact not_null (tru_0 _ _) rfl rfl
      · rw [unl_end hA hA' (by rw [hy]; exact ey), not_bool hy ey ky, unl_end hB hB' (by rw [tru_4]), hx, hy, tru_4, tru_4, un_two _ _ _ (Or.inr kx) (Or.inr ky), un_two _ _ _ (Or.inr rfl) (Or.inr rfl)]
        by_cases hm : Y.v.n = 0
        · rw [if_pos (Or.inr ⟨ky, hm⟩), if_pos (Or.inr ⟨rfl, by rw [hm]; rfl⟩)]
          exact not_anT false
        · have q1 : ¬ ((X.v.k = 4 ∧ X.v.n = b01 false) ∨ (Y.v.k = 4 ∧ Y.v.n = b01 false)) := by
            rintro (⟨_, h⟩ | ⟨_, h⟩)
            · exact hn h
            · exact hm h
          rw [if_neg q1, if_pos ⟨kx, ky⟩, if_neg (by simp [an0, b01, hn, hm]), if_pos ⟨rfl, rfl⟩]
          exact not_anT true
theorem not_left (ask : Nat → An) {R S : List Vl → An} (h : ∀ l, notA (ask1 (S l)) = R l) : notA (ask1 (leftA ask 2 S)) = leftA ask 2 R := by
  unfold leftA
  cases hf : (List.range 2).find? (fun i => decide (¬ (ask i).e = 0)) with
  | none => exact h _
  | some i =>
    have := List.find?_some hf
    exact not_E (of_decide_eq_true this)
theorem not_cmp {p q : Int → Bool} (h : ∀ c, (!q c) = p c) (a b : Vl) : notA (ask1 (cmpA q a b)) = cmpA p a b := by
  unfold cmpA
  by_cases h1 : thereB a = false ∨ thereB b = false
  · rw [if_pos h1, if_pos h1]
    exact not_anE0
  · rw [if_neg h1, if_neg h1]
    by_cases h2 : cpB a.k b.k = true
    · rw [if_pos h2, if_pos h2, not_anT, h]
    · rw [if_neg h2, if_neg h2]
      exact not_E (by decide)
theorem not_eq (nl : Bool) (l : List Vl) : notA (ask1 (eqR nl false l)) = eqR nl true l := by
  unfold eqR
  by_cases h : nl = true
  · rw [if_pos h, if_pos h, not_anT]
    cases ((hd l 0).k == (hd l 1).k) <;> rfl
  · rw [if_neg h, if_neg h]
    exact not_cmp (fun c => by cases (c == 0) <;> rfl) _ _
theorem not_ord (l : List Vl) : notA (ask1 (ordR (fun c => decide (0 ≤ c)) l)) = ordR (fun c => decide (c < 0)) l := by
  unfold ordR
  by_cases h : l.all numB = false ∧ l.all (goesB 3) = false
  · rw [if_pos h, if_pos h]
    exact not_E (by decide)
  · rw [if_neg h, if_neg h]
    refine not_cmp (fun c => ?_) _ _
    by_cases hc : c < 0
    · rw [decide_eq_true hc, decide_eq_false (by omega)]; rfl
    · rw [decide_eq_false hc, decide_eq_true (by omega)]; rfl
def opA (op : Int) (n0 n1 : Bool) (X Y : An) : An := if op = 5 then unlA false (ask2 X Y) else if op = 4 then unlA true (ask2 X Y) else reckA op n0 n1 (ask2 X Y) 2
theorem op_eq (n0 n1 : Bool) (X Y : An) : opA 7 n0 n1 X Y = notA (ask1 (opA 8 n0 n1 X Y)) := (not_left (ask2 X Y) (not_eq (n0 || n1))).symm
theorem op_ord (n0 n1 : Bool) (X Y : An) : opA 9 n0 n1 X Y = notA (ask1 (opA 12 n0 n1 X Y)) := (not_left (ask2 X Y) not_ord).symm
def nlT (T : List Nd) : Bool := match T[T.length - 1]? with
  | some x => x.op == 1 && x.vk == 0
  | none => false
abbrev In (T : List Nd) : Prop := 1 ≤ T.length ∧ ∀ (k : Nat) (x : Nd), T[k]? = some x → ∀ d ∈ x.ks, 1 ≤ d ∧ d ≤ k
theorem in_tr {T : List Nd} (h : Tr T) : In T := ⟨h.pos, fun k x hx => tr_in h hx⟩
theorem nl_at {pre ns post T : List Nd} (h : ns.map Nd.bare = T.map Nd.bare) (hT : 1 ≤ T.length) {m i d : Nat} {ks : List Nat} (hd : ks[i]? = some d) (hin : ∀ d ∈ ks, 1 ≤ d ∧ d ≤ m) (hm : m - d = pre.length + (T.length - 1)) : nullA (absT (pre ++ ns ++ post)) m ((ks.map (m - ·)).map fun k : Nat => (k : Int)) i = nlT T := by
  unfold nullA nlT
  rw [kid_at hin, hd]
  obtain ⟨z, hz⟩ : ∃ z, T[T.length - 1]? = some z := ⟨_, List.getElem?_eq_getElem (by omega)⟩
  obtain ⟨z', hz', hb⟩ := part_of (pre := pre) (post := post) h (T.length - 1) z hz
  have c1 : z'.op = z.op := by have e := congrArg Nd.op hb; exact e
  have c2 : z'.vk = z.vk := by have e := congrArg Nd.vk hb; exact e
  show (match (absT (pre ++ ns ++ post))[m - d]? with | some x => x.op == 1 && x.vk == 0 | none => false) = _
  rw [hm, abs_get hz', hz]
  show (z'.op == 1 && z'.vk == 0) = (z.op == 1 && z.vk == 0)
  rw [c1, c2]
theorem pair_val {nd : Nd} {ns1 ns2 T1 T2 : List Nd} (self : Vl) (vars : List Bd) (h1 : ns1.map Nd.bare = T1.map Nd.bare) (h2 : ns2.map Nd.bare = T2.map Nd.bare) (t1 : In T1) (t2 : In T2) (ho : nd.op = 4 ∨ nd.op = 5 ∨ (7 ≤ nd.op ∧ nd.op ≤ 16)) (hk : nd.ks = [ns2.length + 1, 1]) :
    valA (absT (ns1 ++ ns2 ++ [nd])) self vars = opA nd.op (nlT T1) (nlT T2) (valA (absT T1) self vars) (valA (absT T2) self vars) := by
  have n0 := nl_at (pre := []) (post := ns2 ++ [nd]) h1 t1.1 (m := T1.length + T2.length) (i := 0) (d := T2.length + 1) (ks := [T2.length + 1, 1]) rfl (by
    intro d hd
    have a := t1.1
    have b := t2.1
    simp only [List.mem_cons, List.not_mem_nil, or_false] at hd
    omega) (by have a := t1.1; simp only [List.length_nil]; omega)
  have n1 := nl_at (pre := ns1) (post := [nd]) h2 t2.1 (m := T1.length + T2.length) (i := 1) (d := 1) (ks := [T2.length + 1, 1]) rfl (by
    intro d hd
    have a := t1.1
    have b := t2.1
    simp only [List.mem_cons, List.not_mem_nil, or_false] at hd
    omega) (by have a := t1.1; have b := t2.1; rw [len_bare h1]; omega)
  rw [List.nil_append, ← List.append_assoc] at n0
  obtain ⟨T', hT'⟩ : ∃ T', T' = ns1 ++ ns2 ++ [nd] := ⟨_, rfl⟩
  rw [← hT'] at n0 n1 ⊢
  have e1 := len_bare h1
  have e2 := len_bare h2
  have l1 := t1.1
  have l2 := t2.1
  have r1 := run_part (T' := T') (T := T1) (p := 0) self vars t1.2 (by rw [hT', List.append_assoc]; exact part_of (pre := []) h1) T1.length (Nat.le_refl _)
  have r2 := run_part (T' := T') (T := T2) (p := T1.length) self vars t2.2 (by
    rw [hT', ← e1]
    exact part_of (pre := ns1) (post := [nd]) h2) T2.length (Nat.le_refl _)
  rw [Nat.zero_add, show runA (absT T') self vars 0 = [] from rfl, List.nil_append] at r1
  rw [r1] at r2
  have hlen : T'.length = T1.length + T2.length + 1 := by
    rw [hT']
    simp only [List.length_append, List.length_cons, List.length_nil, e1, e2]
  have hnd : T'[T1.length + T2.length]? = some nd := by
    rw [hT', List.getElem?_append_right (by simp only [List.length_append]; omega)]
    simp only [List.length_append, e1, e2, Nat.sub_self]
    rfl
  have hv : valA (absT T') self vars = lastA (absT T') self vars (T1.length + T2.length + 1) := by
    unfold valA
    rw [abs_len, hlen]
  rw [hv, last_step (abs_get hnd), r2]
  have hL : (runA (absT T1) self vars T1.length ++ runA (absT T2) self vars T2.length).length = T1.length + T2.length := by
    simp only [List.length_append, run_len]
  have hask : askA (runA (absT T1) self vars T1.length ++ runA (absT T2) self vars T2.length) ((nd.ks.map (T1.length + T2.length - ·)).map fun k : Nat => (k : Int)) = ask2 (valA (absT T1) self vars) (valA (absT T2) self vars) := by
    funext i
    unfold askA
    rw [hL, hk, e2, kid_at (by
      intro d hd
      simp only [List.mem_cons, List.not_mem_nil, or_false] at hd
      omega)]
    match i with
    | 0 =>
      show List.getD _ (T1.length + T2.length - (T2.length + 1)) _ = _
      rw [← val_get l1 self vars, List.getD_eq_getElem?_getD, List.getElem?_append_left (by rw [run_len]; omega)]
      show _ = (runA (absT T1) self vars T1.length).getD (T1.length - 1) (anE 0)
      rw [List.getD_eq_getElem?_getD]
      congr 2
      omega
    | 1 =>
      show List.getD _ (T1.length + T2.length - 1) _ = _
      rw [← val_get l2 self vars, List.getD_eq_getElem?_getD, List.getElem?_append_right (by rw [run_len]; omega)]
      show _ = (runA (absT T2) self vars T2.length).getD (T2.length - 1) (anE 0)
      rw [List.getD_eq_getElem?_getD, run_len]
      congr 2
      omega
    | i + 2 => rfl
  unfold ansA
  show (if nd.op = 1 then _ else if nd.op = 2 then _ else if nd.op = 3 then _ else if nd.op = 5 then unlA false (askA _ _) else if nd.op = 4 then unlA true (askA _ _) else if nd.op = 6 then _ else if nd.op = 26 then _ else reckA nd.op (nullA _ _ _ 0) (nullA _ _ _ 1) (askA _ _) _) = _
  rw [if_neg (by omega), if_neg (by omega), if_neg (by omega), hask]
  unfold opA
  by_cases h5 : nd.op = 5
  · rw [if_pos h5, if_pos h5]
  rw [if_neg h5, if_neg h5]
  by_cases h4 : nd.op = 4
  · rw [if_pos h4, if_pos h4]
  rw [if_neg h4, if_neg h4, if_neg (by omega), if_neg (by omega), hL, hk, e2, n0, n1]
  rfl
theorem not_val {nt : Nd} {ns T : List Nd} (self : Vl) (vars : List Bd) (h : ns.map Nd.bare = T.map Nd.bare) (t : In T) (ho : nt.op = 6) (hk : nt.ks = [1]) : valA (absT (ns ++ [nt])) self vars = notA (ask1 (valA (absT T) self vars)) := by
  obtain ⟨T', hT'⟩ : ∃ T', T' = ns ++ [nt] := ⟨_, rfl⟩
  rw [← hT']
  have e1 := len_bare h
  have l1 := t.1
  have r1 := run_part (T' := T') (T := T) (p := 0) self vars t.2 (by rw [hT']; exact part_of (pre := []) h) T.length (Nat.le_refl _)
  rw [Nat.zero_add, show runA (absT T') self vars 0 = [] from rfl, List.nil_append] at r1
  have hlen : T'.length = T.length + 1 := by
    rw [hT']
    simp only [List.length_append, List.length_cons, List.length_nil, e1]
  have hnd : T'[T.length]? = some nt := by
    rw [hT', List.getElem?_append_right (by omega), e1, Nat.sub_self]
    rfl
  have hv : valA (absT T') self vars = lastA (absT T') self vars (T.length + 1) := by
    unfold valA
    rw [abs_len, hlen]
  rw [hv, last_step (abs_get hnd), r1]
  have hask : askA (runA (absT T) self vars T.length) ((nt.ks.map (T.length - ·)).map fun k : Nat => (k : Int)) = ask1 (valA (absT T) self vars) := by
    funext i
    unfold askA
    rw [run_len, hk, kid_at (by
      intro d hd
      simp only [List.mem_cons, List.not_mem_nil, or_false] at hd
      omega)]
    match i with
    | 0 => exact val_get l1 self vars
    | i + 1 => rfl
  unfold ansA
  show (if nt.op = 1 then _ else if nt.op = 2 then _ else if nt.op = 3 then _ else if nt.op = 5 then _ else if nt.op = 4 then _ else if nt.op = 6 then notA (askA _ _) else _) = _
  rw [if_neg (by omega), if_neg (by omega), if_neg (by omega), if_neg (by omega), if_neg (by omega), if_pos ho, hask]
end Go.Proofs.YtmkmafkkpigfpaaGreatDoor.V
namespace Go.Proofs.YtmkmafkkpigfpaaGreatDoor.V
open Go.ChangeShapes Go.WideShapes Go.ChangeAt Go.RowKit Go.Lib Go.Joins Go.Deep
set_option linter.unusedVariables false
set_option maxRecDepth 100000
theorem change_laid {H : Type} {enc : TypeId × Value → H} {a : Assume} {C : Checked} {os : Os} {f : FuncId} {fn : Func} {s : ChangeSpec} {conds : List PathCond} {apart fresh handsOn again : Bool} {X : World → Array Value → Prop}
    (hX : ∀ (w w' : World) (args : Array Value), w.heap = w'.heap → X w args → X w' args)
    (own : ownKnob C.prog.godebug = none) (started : os.Started) (noInit : C.prog.inits.idxOf? f = none) (hfn : C.prog.funcs[f]? = some fn)
    (witness : ∃ (w : World) (tape : Tape) (i : Input), w.os = os ∧ (w.forCall tape i).Shaped C.prog ∧ i.vars = [] ∧ Input.okWide C.prog (w.forCall tape i) .any w.heap.size f i ∧
      ((s.pre enc C.prog fn conds apart (w.forCall tape i).memory i.args ∧ X (w.forCall tape i).memory i.args) ∧ sizedMet enc C.prog fn (OpenSpec.ofChange s) apart (w.forCall tape i).memory i.args) ∧ a.holds C.prog (lone (Frame.enter C.prog f i.args .normal) [] (w.forCall tape i)))
    (contract : ∀ (W : World) (base : Nat) (args : Array Value) (ds gs : List (DataW H)) (before : List MemPlace),
      (∀ (j : Nat) t v, fn.params[j]? = some t → args[j]? = some v → Value.okWide C.prog W .any base t v) →
      DataW.Whole enc C.prog fn.params.toList s.vars apart W args.toList ds gs before → X W args → W.ShapedOpen C.prog →
      Calls C.prog f args W fun e W' => ∃ v, e = .returned v ∧ s.post enc C.prog fn apart fresh handsOn again W args v W') :
    ReturnsInHanded a C os f .any (fun w args => (s.pre enc C.prog fn conds apart w args ∧ X w args) ∧ sizedMet enc C.prog fn (OpenSpec.ofChange s) apart w args) (s.post enc C.prog fn apart fresh handsOn again) := by
  refine returnsInHanded_of_calls own started noInit witness ?_
  intro w tape i _ hsh _ hok hpre _
  obtain ⟨_, _, _, g, hg, _, _, _, _, hval⟩ := hok
  obtain rfl : g = fn := Option.some.inj (hg.symm.trans hfn)
  obtain ⟨⟨⟨ds, gs, before, hw, _⟩, hx⟩, _⟩ := hpre
  refine (contract (w.forCall tape i) w.heap.size i.args ds gs before hval (DataW.Whole.of_heap (w' := w.forCall tape i) (by rfl) hw) (hX _ _ _ (by rfl) hx) hsh).mono fun e W' ⟨v, he, hp⟩ => ?_
  subst he
  exact ChangeSpec.post_blind hp
theorem env_of {W : World} (h : laidMetH Tryz.prog Rows.evalNamesRow.laid W) (hsh : W.ShapedOpen Tryz.prog) : En W := by
  rw [MakeChecks.laidMetH_plain _ _ _ (by kernel_rfl)] at h
  refine ⟨?_, ?_⟩
  · refine utf8Tabs_of_readsT (P := Tryz.prog) (ρ := Tryz.lays230_ren) ⟨by kernel_rfl, by kernel_rfl, by kernel_rfl, by kernel_rfl⟩ ⟨by kernel_rfl, by kernel_rfl, by kernel_rfl, by kernel_rfl, by kernel_rfl, by kernel_rfl, by kernel_rfl⟩ ?_ ?_
    · have h1 := Lib.laidMet.reads h (.tail _ (.head _))
      rw [show Rows.laid_unicode_utf8_first = firstData by kernel_rfl] at h1
      exact h1
    · have h1 := Lib.laidMet.reads h (.head _)
      rw [show Rows.laid_unicode_utf8_acceptRanges = acceptData by kernel_rfl] at h1
      exact h1
  · exact cell_of_shapedOpen_int (g := 0) (t := 3) (zero := #[.int .i64 0]) hsh (of_decide_eq_true (by kernel_rfl)) (by kernel_rfl) rfl (by kernel_rfl) (by kernel_rfl) (by kernel_rfl)
theorem ex_list {α : Type} {Q : Nat → α → Prop} : ∀ n, (∀ i, i < n → ∃ x, Q i x) → ∃ l : List α, l.length = n ∧ ∀ (i : Nat) (x : α), l[i]? = some x → Q i x
  | 0, _ => ⟨[], rfl, fun i x h => by simp at h⟩
  | n + 1, h => by
    obtain ⟨l, hl, hq⟩ := ex_list n (fun i hi => h i (by omega))
    obtain ⟨x, hx⟩ := h n (by omega)
    refine ⟨l ++ [x], by simp [hl], fun i y hi => ?_⟩
    by_cases e : i < n
    · rw [List.getElem?_append_left (by omega)] at hi
      exact hq i y hi
    · have hlt : i < (l ++ [x]).length := (List.getElem?_eq_some_iff.1 hi).1
      have : i = n := by simp [hl] at hlt; omega
      subst this
      rw [List.getElem?_append_right (by omega), hl, Nat.sub_self] at hi
      simp at hi
      subst hi
      exact hx
theorem add_none (b o n : Nat) : (⟨b, o, none⟩ : Addr).add n = ⟨b, o + n, none⟩ := by
  unfold Addr.add
  split
  · subst_vars; rfl
  · rfl
theorem cell_lt {w : World} {a : Addr} {v : Value} (h : w.cell? a = some v) : a.block < w.heap.size := by
  unfold World.cell? at h
  split at h
  · rename_i hb
    exact blk_lt hb
  · cases h
theorem cells26 : Tryz.prog.cellsOf 26 = 3 := by kernel_rfl
theorem cells43 : Tryz.prog.cellsOf 43 = 4 := by kernel_rfl
theorem cells9 : Tryz.prog.cellsOf 9 = 1 := by kernel_rfl
theorem cells5 : Tryz.prog.cellsOf 5 = 1 := by kernel_rfl
theorem cells2 : Tryz.prog.cellsOf 2 = 1 := by kernel_rfl
abbrev dvl {H : Type} (k n : Int) (s : ByteArray) : DataW H := .agg [.lit (.int .u8 k), .lit (.int .i64 n), .lit (.string s.data.toList)]
theorem open_vl {H : Type} {enc : TypeId × Value → H} {W : World} {r : Reach} {b0 base : Nat} {spare : Nat → Bool} {held : Bool} {v : Value} {d : DataW H} {p : List MemPlace}
    (hv : Value.okWide Tryz.prog W r b0 26 v) (h : DataW.Trod enc Tryz.prog W base spare held 26 v d p) :
    ∃ (k n : Int) (s : ByteArray), v = .agg #[.int .u8 k, .int .i64 n, .string s] ∧ d = dvl k n s ∧ p = [] ∧ (Lit.int .u8 k).wf = true ∧ (Lit.int .i64 n).wf = true ∧ s.size ≤ maxLen := by
  obtain ⟨c0, c1, c2, y0, y1, y2, m, rfl, rfl, rfl, hy0, hy1, hy2⟩ := open_agg3 Tryz.underlying26 (by kernel_rfl) cells26 hv h
  obtain ⟨k, e0, rfl, wk⟩ := DataW.trod_int Tryz.underlying5 hy0
  obtain ⟨n, e1, rfl, wn⟩ := DataW.trod_int Tryz.underlying2 hy1
  obtain ⟨s, e2, rfl, ws⟩ := DataW.trod_string Tryz.underlying9 hy2
  simp at e0 e1 e2
  subst e0 e1 e2
  exact ⟨k, n, s, rfl, rfl, rfl, wk, wn, ws⟩
section
variable {H : Type} {enc : TypeId × Value → H} {w : World} {base : Nat} {sp : Nat → Bool} {held : Bool}
theorem bd_cells {fuel : Nat} {cs : List Value} {x : DataW H × List MemPlace} (h : DataW.trod enc Tryz.prog w base sp held fuel 43 cs = some x) : ∃ (b : Bd), cs = [.string b.nm, .int .u8 b.v.k, .int .i64 b.v.n, .string b.v.s] ∧ (Lit.int .i64 b.v.n).wf = true := by
  obtain ⟨y0, y1, m, _, hl, h0, h1⟩ := trod_struct2 Tryz.underlying43 h
  rw [cells43] at hl
  match cs, hl with
  | [c0, c1, c2, c3], _ =>
    have g0 : DataW.trod enc Tryz.prog w base sp held m 9 (([c0, c1, c2, c3].drop 0).take (Tryz.prog.cellsOf 9)) = some y0 := h0
    have g1 : DataW.trod enc Tryz.prog w base sp held m 26 (([c0, c1, c2, c3].drop 1).take (Tryz.prog.cellsOf 26)) = some y1 := h1
    rw [cells9] at g0
    rw [cells26] at g1
    obtain ⟨z0, z1, z2, m', _, _, k0, k1, k2⟩ := trod_struct3 Tryz.underlying26 g1
    have j0 : DataW.trod enc Tryz.prog w base sp held m' 5 ((([c1, c2, c3] : List Value).drop 0).take (Tryz.prog.cellsOf 5)) = some z0 := k0
    have j1 : DataW.trod enc Tryz.prog w base sp held m' 2 ((([c1, c2, c3] : List Value).drop 1).take (Tryz.prog.cellsOf 2)) = some z1 := k1
    have j2 : DataW.trod enc Tryz.prog w base sp held m' 9 ((([c1, c2, c3] : List Value).drop 2).take (Tryz.prog.cellsOf 9)) = some z2 := k2
    rw [cells5] at j0
    rw [cells2] at j1
    rw [cells9] at j2
    obtain ⟨nm, e0, _, _⟩ := DataW.trod_string Tryz.underlying9 g0
    obtain ⟨k, e1, _, _⟩ := DataW.trod_int Tryz.underlying5 j0
    obtain ⟨n, e2, _, wn⟩ := DataW.trod_int Tryz.underlying2 j1
    obtain ⟨s, e3, _, _⟩ := DataW.trod_string Tryz.underlying9 j2
    simp at e0 e1 e2 e3
    subst e0 e1 e2 e3
    exact ⟨⟨nm, ⟨k, n, s⟩⟩, rfl, wn⟩
theorem open_bs {fuel : Nat} {cs : List Value} {x : DataW H × List MemPlace} (h : DataW.trod enc Tryz.prog w base (fun _ => true) held fuel 39 cs = some x) : ∃ v l, cs = [v] ∧ BR w v l ∧ ∀ b ∈ l, (Lit.int .i64 b.v.n).wf = true := by
  rcases open_slice Tryz.underlying39 h with ⟨rfl, _⟩ | ⟨a, len, cap, m, n, D, Pl, rfl, _, hl, hm, hmm, _, hi⟩
  · exact ⟨_, [], rfl, ⟨none, 0, rfl, Nat.le_refl _, Nat.zero_le _, fun j x hj => by simp at hj⟩, fun b hb => by cases hb⟩
  · simp only [if_true] at hmm
    subst hmm
    rw [cells43] at hi
    have key : ∀ i, i < len → ∃ b : Bd, w.cell? (a.add (i * 4)) = some (.string b.nm) ∧ w.cell? ((a.add (i * 4)).add 1) = some (.int .u8 b.v.k) ∧ w.cell? ((a.add (i * 4)).add 2) = some (.int .i64 b.v.n) ∧ w.cell? ((a.add (i * 4)).add 3) = some (.string b.v.s) ∧ (Lit.int .i64 b.v.n).wf = true := fun i hlt => by
      obtain ⟨cs', hc, ht⟩ := hi i (by omega)
      obtain ⟨b, rfl, wn⟩ := bd_cells ht
      obtain ⟨_, _, hat⟩ := World.cells?_some hc
      have c0 := hat 0 (by omega)
      have c1 := hat 1 (by omega)
      have c2 := hat 2 (by omega)
      have c3 := hat 3 (by omega)
      refine ⟨b, ?_, c1, c2, c3, wn⟩
      have : (a.add (i * 4)).add 0 = a.add (i * 4) := by obtain ⟨bl, o, p⟩ := a; unfold Addr.add; first | rfl | (split <;> rfl) | (split <;> simp_all)
      rw [this] at c0
      exact c0
    obtain ⟨l, hll, hlq⟩ := ex_list len key
    subst hll
    refine ⟨_, l, rfl, ⟨some a, m, rfl, hl, hm, fun j x hj => ?_⟩, fun b hb => ?_⟩
    · obtain ⟨c0, c1, c2, c3, r⟩ := hlq j x hj
      have h0 : 0 < l.length := Nat.lt_of_le_of_lt (Nat.zero_le _) (List.getElem?_eq_some_iff.1 hj).1
      obtain ⟨y, hy⟩ : ∃ y, l[0]? = some y := ⟨l[0], List.getElem?_eq_getElem h0⟩
      have hsp := World.cell?_spot (hlq 0 y hy).1
      obtain ⟨b, o, spt⟩ := a
      have hsp' : spt = none := by simpa [Addr.add] using hsp
      subst hsp'
      rw [add_none] at c0 c1 c2 c3
      rw [add_none] at c1 c2 c3
      exact ⟨b, o, rfl, cell_lt c0, c0, c1, c2, c3⟩
    · obtain ⟨j, hj⟩ := List.mem_iff_getElem?.1 hb
      exact (hlq j b hj).2.2.2.2
end
theorem arg_bs {H : Type} {enc : TypeId × Value → H} {w : World} {base b0 : Nat} {r : Reach} {held : Bool} {v : Value} {d : DataW H} {p : List MemPlace} (hv : Value.okWide Tryz.prog w r b0 39 v) (h : DataW.Trod enc Tryz.prog w base (fun _ => true) held 39 v d p) : ∃ l, BR w v l ∧ ∀ b ∈ l, (Lit.int .i64 b.v.n).wf = true := by
  obtain ⟨a, len, cap, rfl⟩ := okWide_slice Tryz.underlying39 hv
  obtain ⟨fuel, hf⟩ := h
  obtain ⟨v', l, e, hl⟩ := open_bs hf
  simp [Value.cells] at e
  subst e
  exact ⟨l, hl⟩
theorem types_ok {f : Func} (h : (f.params.toList.all fun t => decide (t < Tryz.prog.types.size)) = true) : ∀ t ∈ f.params.toList, t < Tryz.prog.types.size := fun t ht => by
  have := List.all_eq_true.1 h t ht
  simpa using this
theorem kids : Kids Tryz.prog (· < Tryz.prog.types.size) := kids_rows (by kernel_rfl) (by kernel_rfl)
theorem full : ∀ t e, t < Tryz.prog.types.size → Tryz.prog.underlying t = some (.slice e) → 0 < Tryz.prog.cellsOf e := slices_full_of Tryz.prog (by kernel_rfl)
end Go.Proofs.YtmkmafkkpigfpaaGreatDoor.V
