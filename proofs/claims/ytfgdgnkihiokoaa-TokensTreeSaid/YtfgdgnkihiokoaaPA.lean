/- Tokens, said plainly: no program is named here. -/
import Derived.Lib.Hide
namespace Go.Proofs.Ytfgdgnkihiokoaa
set_option linter.unusedVariables false
set_option linter.unusedSimpArgs false

/-- A token. -/
structure Tk where
  id : Int
  par : Int
  node : Int
  fact : Int
  deriving DecidableEq
def rootT : Tk := ⟨0, -1, 0, 0⟩
def noTk : Tk := ⟨0, 0, 0, 0⟩

/-- Numbers by a number that they have in common. -/
abbrev Prs := List (Int × Int)
def sel (P : Prs) (k : Int) : List Int := (P.filter fun x => decide (x.1 = k)).map (·.2)
def pk (L : List Tk) : Prs := L.map fun t => (t.par, t.id)
def pn (L : List Tk) : Prs := L.map fun t => (t.node, t.id)
def pf (L : List Tk) : Prs := (L.filter fun t => decide (t.fact ≠ 0)).map fun t => (t.fact, t.id)
def getT (L : List Tk) (i : Int) : Option Tk := L.find? fun t => decide (t.id = i)

theorem sel_app (P Q : Prs) (k : Int) : sel (P ++ Q) k = sel P k ++ sel Q k := by simp [sel]
theorem mem_sel {P : Prs} {k i : Int} : i ∈ sel P k ↔ (k, i) ∈ P := by
  unfold sel
  constructor
  · intro h
    obtain ⟨⟨a, b⟩, h1, rfl⟩ := List.mem_map.1 h
    obtain ⟨h2, h3⟩ := List.mem_filter.1 h1
    obtain rfl : a = k := by simpa using h3
    exact h2
  · intro h
    exact List.mem_map.2 ⟨(k, i), List.mem_filter.2 ⟨h, by simp⟩, rfl⟩
theorem mem_kids {L : List Tk} {k i : Int} : i ∈ sel (pk L) k ↔ ∃ t ∈ L, t.par = k ∧ t.id = i := by
  rw [mem_sel]; unfold pk; simp [List.mem_map, Prod.ext_iff]
theorem mem_at {L : List Tk} {k i : Int} : i ∈ sel (pn L) k ↔ ∃ t ∈ L, t.node = k ∧ t.id = i := by
  rw [mem_sel]; unfold pn; simp [List.mem_map, Prod.ext_iff]
theorem mem_with {L : List Tk} {k i : Int} : i ∈ sel (pf L) k ↔ ∃ t ∈ L, t.fact ≠ 0 ∧ t.fact = k ∧ t.id = i := by
  rw [mem_sel]; unfold pf
  simp only [List.mem_map, List.mem_filter, Prod.ext_iff, decide_eq_true_eq]
  constructor
  · rintro ⟨t, ⟨h1, h2⟩, h3, h4⟩; exact ⟨t, h1, h2, h3, h4⟩
  · rintro ⟨t, h1, h2, h3, h4⟩; exact ⟨t, ⟨h1, h2⟩, h3, h4⟩

/-- What an arena's tokens always are. -/
structure Good (L : List Tk) (last : Nat) : Prop where
  up : L.Pairwise (fun x y => x.id < y.id)
  root : ∃ r, L = rootT :: r
  low : ∀ t ∈ L, 0 ≤ t.id ∧ t.id ≤ (last : Int)
  par : ∀ t ∈ L, t.id ≠ 0 → t.par < t.id ∧ ∃ p ∈ L, p.id = t.par
  pos : ∀ t ∈ L, (0 ≤ t.node ∧ t.node ≤ 9223372036854775807) ∧ 0 ≤ t.fact ∧ t.fact ≤ 9223372036854775807

theorem id_inj {L : List Tk} (h : L.Pairwise (fun x y => x.id < y.id)) {x y : Tk} (hx : x ∈ L) (hy : y ∈ L) (e : x.id = y.id) : x = y := by
  induction L with
  | nil => cases hx
  | cons a r ih =>
    obtain ⟨h1, h2⟩ := List.pairwise_cons.1 h
    rcases List.mem_cons.1 hx with ex | hx' <;> rcases List.mem_cons.1 hy with ey | hy'
    · rw [ex, ey]
    · have := h1 _ hy'; rw [ex] at e; omega
    · have := h1 _ hx'; rw [ey] at e; omega
    · exact ih h2 hx' hy'
theorem getT_mem {L : List Tk} (h : L.Pairwise (fun x y => x.id < y.id)) {t : Tk} (ht : t ∈ L) : getT L t.id = some t := by
  unfold getT
  rcases hf : L.find? (fun x => decide (x.id = t.id)) with _ | y
  · rw [List.find?_eq_none] at hf
    have := hf t ht
    simp at this
  · have h1 := List.mem_of_find?_eq_some hf
    have h2 : y.id = t.id := by simpa using List.find?_some hf
    rw [hf, id_inj h h1 ht h2]
theorem getT_some {L : List Tk} {i : Int} {t : Tk} (h : getT L i = some t) : t ∈ L ∧ t.id = i := by
  unfold getT at h
  exact ⟨List.mem_of_find?_eq_some h, by simpa using List.find?_some h⟩
theorem getT_none {L : List Tk} {i : Int} (h : getT L i = none) : ∀ t ∈ L, t.id ≠ i := by
  unfold getT at h
  rw [List.find?_eq_none] at h
  intro t ht e
  have := h t ht
  simp [e] at this
theorem getT_no {L : List Tk} {i : Int} (h : ∀ t ∈ L, t.id ≠ i) : getT L i = none := by
  unfold getT
  rw [List.find?_eq_none]
  intro t ht
  simpa using h t ht
theorem getT_none_iff {L : List Tk} {i : Int} : getT L i = none ↔ ∀ t ∈ L, t.id ≠ i := ⟨getT_none, getT_no⟩

namespace Good
variable {L : List Tk} {last : Nat}
theorem rootIn (h : Good L last) : rootT ∈ L := by obtain ⟨r, rfl⟩ := h.root; simp
theorem isRoot (h : Good L last) {t : Tk} (ht : t ∈ L) (e : t.id = 0) : t = rootT := id_inj h.up ht h.rootIn e
theorem first : Good [rootT] 0 where
  up := by simp
  root := ⟨[], rfl⟩
  low := by intro t ht; rw [List.mem_singleton] at ht; subst ht; simp [rootT]
  par := by intro t ht; rw [List.mem_singleton] at ht; subst ht; simp [rootT]
  pos := by intro t ht; rw [List.mem_singleton] at ht; subst ht; simp [rootT]
theorem add (h : Good L last) {p n f : Int} (hp : getT L p ≠ none) (hn : 0 ≤ n ∧ n ≤ 9223372036854775807) (hf : 0 ≤ f ∧ f ≤ 9223372036854775807) : Good (L ++ [⟨(last : Int) + 1, p, n, f⟩]) (last + 1) where
  up := by
    rw [List.pairwise_append]
    refine ⟨h.up, by simp, fun x hx y hy => ?_⟩
    rw [List.mem_singleton] at hy; subst hy
    have := (h.low x hx).2
    show x.id < (last : Int) + 1
    omega
  root := by obtain ⟨r, rfl⟩ := h.root; exact ⟨r ++ _, rfl⟩
  low := by
    intro t ht
    rcases List.mem_append.1 ht with ht | ht
    · have := h.low t ht; omega
    · rw [List.mem_singleton] at ht; subst ht; simp; omega
  par := by
    intro t ht h0
    rcases List.mem_append.1 ht with ht | ht
    · obtain ⟨h1, q, hq, e⟩ := h.par t ht h0
      exact ⟨h1, q, List.mem_append_left _ hq, e⟩
    · rw [List.mem_singleton] at ht; subst ht
      rcases hg : getT L p with _ | q
      · exact absurd hg hp
      · obtain ⟨h1, h2⟩ := getT_some hg
        have := (h.low q h1).2
        exact ⟨by show p < (last : Int) + 1; omega, q, List.mem_append_left _ h1, h2⟩
  pos := by
    intro t ht
    rcases List.mem_append.1 ht with ht | ht
    · exact h.pos t ht
    · rw [List.mem_singleton] at ht; subst ht; exact ⟨hn, hf⟩
end Good

/-! ## what is below -/
def bstep (r : Int) (acc : List Int) (t : Tk) : List Int := if t.id = r ∨ t.par ∈ acc then acc ++ [t.id] else acc
def bel (r : Int) (L : List Tk) : List Int := L.foldl (bstep r) []
theorem bel_snoc (r : Int) (L : List Tk) (t : Tk) : bel r (L ++ [t]) = bstep r (bel r L) t := by simp [bel]
theorem bel_sub (r : Int) (L : List Tk) : ∀ x ∈ bel r L, ∃ t ∈ L, t.id = x := by
  suffices H : ∀ M : List Tk, ∀ x ∈ bel r M.reverse, ∃ t ∈ M.reverse, t.id = x by
    have := H L.reverse; rwa [List.reverse_reverse] at this
  intro M
  induction M with
  | nil => intro x hx; simp [bel] at hx
  | cons a M ih =>
    intro x hx
    rw [List.reverse_cons, bel_snoc] at hx
    rw [List.reverse_cons]
    unfold bstep at hx
    split at hx
    · rcases List.mem_append.1 hx with hx | hx
      · obtain ⟨t, ht, e⟩ := ih x hx
        exact ⟨t, List.mem_append_left _ ht, e⟩
      · rw [List.mem_singleton] at hx
        exact ⟨a, by simp, hx.symm⟩
    · obtain ⟨t, ht, e⟩ := ih x hx
      exact ⟨t, List.mem_append_left _ ht, e⟩
/-- What is told of any beginning, and of the whole. -/
theorem bel_iff (r : Int) (L : List Tk) (hu : L.Pairwise (fun x y => x.id < y.id)) (hp : ∀ t ∈ L, t.id ≠ r → t.par < t.id) : ∀ t ∈ L, (t.id ∈ bel r L ↔ t.id = r ∨ t.par ∈ bel r L) := by
  suffices H : ∀ M : List Tk, M.reverse.Pairwise (fun x y => x.id < y.id) → (∀ t ∈ M.reverse, t.id ≠ r → t.par < t.id) → ∀ t ∈ M.reverse, (t.id ∈ bel r M.reverse ↔ t.id = r ∨ t.par ∈ bel r M.reverse) by
    have := H L.reverse; rw [List.reverse_reverse] at this; exact this hu hp
  intro M
  induction M with
  | nil => intro _ _ t ht; simp at ht
  | cons a M ih =>
    rw [List.reverse_cons]
    intro hu hp t ht
    obtain ⟨hu1, _, hu2⟩ := List.pairwise_append.1 hu
    have ih := ih hu1 (fun t ht => hp t (List.mem_append_left _ ht))
    have hfresh : ∀ x ∈ bel r M.reverse, x < a.id := fun x hx => by
      obtain ⟨s, hs, e⟩ := bel_sub r _ x hx
      have := hu2 s hs a (by simp)
      omega
    rw [bel_snoc]
    rcases List.mem_append.1 ht with ht | ht
    · have hlt := hu2 t ht a (by simp)
      have h1 := ih t ht
      by_cases he : t.id = r
      · have : t.id ∈ bel r M.reverse := h1.2 (Or.inl he)
        unfold bstep
        split
        · exact ⟨fun _ => Or.inl he, fun _ => List.mem_append_left _ this⟩
        · exact ⟨fun _ => Or.inl he, fun _ => this⟩
      · have hpar := hp t (List.mem_append_left _ ht) he
        unfold bstep
        split
        · rw [List.mem_append, List.mem_append, List.mem_singleton, List.mem_singleton, h1]
          constructor
          · rintro (h | h)
            · rcases h with h | h
              · exact absurd h he
              · exact Or.inr (Or.inl h)
            · omega
          · rintro (h | h | h)
            · exact absurd h he
            · exact Or.inl (Or.inr h)
            · omega
        · exact h1
    · rw [List.mem_singleton] at ht
      subst ht
      unfold bstep
      split
      · rename_i hc
        constructor
        · intro _
          rcases hc with hc | hc
          · exact Or.inl hc
          · exact Or.inr (List.mem_append_left _ hc)
        · intro _; simp
      · rename_i hc
        constructor
        · intro h
          have := hfresh _ h
          omega
        · intro h; exact absurd h hc
/-- A set that has r, and with each one its kids, has all below r. -/
theorem bel_least (r : Int) (L : List Tk) (S : Int → Prop) (h0 : S r) (hS : ∀ t ∈ L, S t.par → S t.id) : ∀ x ∈ bel r L, S x := by
  suffices H : ∀ M : List Tk, (∀ t ∈ M.reverse, S t.par → S t.id) → ∀ x ∈ bel r M.reverse, S x by
    have := H L.reverse; rw [List.reverse_reverse] at this; exact this hS
  intro M
  induction M with
  | nil => intro _ x hx; simp [bel] at hx
  | cons a M ih =>
    rw [List.reverse_cons]
    intro hS x hx
    have ih := ih (fun t ht => hS t (List.mem_append_left _ ht))
    rw [bel_snoc] at hx
    unfold bstep at hx
    split at hx
    · rename_i hc
      rcases List.mem_append.1 hx with hx | hx
      · exact ih x hx
      · rw [List.mem_singleton] at hx
        subst hx
        rcases hc with hc | hc
        · rw [hc]; exact h0
        · exact hS a (by simp) (ih _ hc)
    · exact ih x hx

/-- What a Remove takes, and what it leaves. -/
def gone (r : Int) (L : List Tk) : List Tk := L.filter fun t => decide (t.id ∈ bel r L)
def rest (r : Int) (L : List Tk) : List Tk := L.filter fun t => !decide (t.id ∈ bel r L)
theorem gone_rest (r : Int) (L : List Tk) : (gone r L).length + (rest r L).length = L.length := by
  unfold gone rest
  generalize bel r L = B
  induction L with
  | nil => rfl
  | cons a M ih =>
    by_cases h : a.id ∈ B
    · rw [List.filter_cons, if_pos (by simpa using h), List.filter_cons, if_neg (by simpa using h), List.length_cons, List.length_cons]; omega
    · rw [List.filter_cons, if_neg (by simpa using h), List.filter_cons, if_pos (by simpa using h), List.length_cons, List.length_cons]; omega

namespace Good
variable {L : List Tk} {last : Nat}
theorem parLt (h : Good L last) {t : Tk} (ht : t ∈ L) : t.par < t.id := by
  by_cases e : t.id = 0
  · rw [h.isRoot ht e]; decide
  · exact (h.par t ht e).1
theorem bel_iff (h : Good L last) (r : Int) {t : Tk} (ht : t ∈ L) : t.id ∈ bel r L ↔ t.id = r ∨ t.par ∈ bel r L :=
  Ytfgdgnkihiokoaa.bel_iff r L h.up (fun t ht _ => h.parLt ht) t ht
theorem bel_low (h : Good L last) (r : Int) : ∀ x ∈ bel r L, r ≤ x :=
  bel_least r L (fun x => r ≤ x) (Int.le_refl r) (fun t ht e => by have := h.parLt ht; omega)
theorem rest (h : Good L last) {r : Int} (hr : r ≠ 0) (h0 : 0 ≤ r) : Good (rest r L) last where
  up := h.up.filter _
  root := by
    obtain ⟨l, hl⟩ := h.root
    have hn : rootT.id ∉ bel r L := fun hc => by have := h.bel_low r _ hc; simp [rootT] at this; omega
    unfold Ytfgdgnkihiokoaa.rest
    refine ⟨l.filter fun t => !decide (t.id ∈ bel r L), ?_⟩
    conv => lhs; arg 2; rw [hl]
    rw [List.filter_cons, if_pos (by simpa using hn)]
  low := fun t ht => h.low t (List.mem_filter.1 ht).1
  par := by
    intro t ht h1
    obtain ⟨ht, hc⟩ := List.mem_filter.1 ht
    obtain ⟨h2, p, hp, e⟩ := h.par t ht h1
    refine ⟨h2, p, List.mem_filter.2 ⟨hp, ?_⟩, e⟩
    simp only [Bool.not_eq_true', decide_eq_false_iff_not] at hc ⊢
    intro hc2
    exact hc ((h.bel_iff r ht).2 (Or.inr (e ▸ hc2)))
  pos := fun t ht => h.pos t (List.mem_filter.1 ht).1
end Good

/-! ## the way from 0 -/
def up : List Tk → Int → List Int
  | [], _ => []
  | t :: r, i => if t.id = i then (if i = 0 then [] else up r t.par ++ (if t.fact = 0 then [] else [t.fact])) else up r i
def tuple (L : List Tk) (i : Int) : List Int := up L.reverse i
theorem tuple_snoc (L : List Tk) (t : Tk) (i : Int) : tuple (L ++ [t]) i = if t.id = i then (if i = 0 then [] else tuple L t.par ++ (if t.fact = 0 then [] else [t.fact])) else tuple L i := by
  unfold tuple; rw [List.reverse_append]; rfl
theorem tuple_no {L : List Tk} {i : Int} (h : ∀ t ∈ L, t.id ≠ i) : tuple L i = [] := by
  suffices H : ∀ M : List Tk, (∀ t ∈ M, t.id ≠ i) → up M i = [] from H _ (fun t ht => h t (by simpa using ht))
  intro M
  induction M with
  | nil => intro _; rfl
  | cons a M ih => intro h; unfold up; rw [if_neg (h a (by simp))]; exact ih (fun t ht => h t (by simp [ht]))
theorem tuple_zero {L : List Tk} : tuple L 0 = [] := by
  suffices H : ∀ M : List Tk, up M 0 = [] from H _
  intro M
  induction M with
  | nil => rfl
  | cons a M ih => unfold up; split <;> simp [ih]
/-- The way of a token is that of its parent, and its fact. -/
theorem tuple_step {L : List Tk} (hu : L.Pairwise (fun x y => x.id < y.id)) (hp : ∀ t ∈ L, t.par < t.id) : ∀ t ∈ L, t.id ≠ 0 → tuple L t.id = tuple L t.par ++ (if t.fact = 0 then [] else [t.fact]) := by
  suffices H : ∀ M : List Tk, M.reverse.Pairwise (fun x y => x.id < y.id) → (∀ t ∈ M.reverse, t.par < t.id) → ∀ t ∈ M.reverse, t.id ≠ 0 → tuple M.reverse t.id = tuple M.reverse t.par ++ (if t.fact = 0 then [] else [t.fact]) by
    have := H L.reverse; rw [List.reverse_reverse] at this; exact this hu hp
  intro M
  induction M with
  | nil => intro _ _ t ht; simp at ht
  | cons a M ih =>
    rw [List.reverse_cons]
    intro hu hp t ht h0
    obtain ⟨hu1, _, hu2⟩ := List.pairwise_append.1 hu
    have hpt := hp t ht
    rcases List.mem_append.1 ht with ht | ht
    · have hlt := hu2 t ht a (by simp)
      rw [tuple_snoc, tuple_snoc, if_neg (by omega), if_neg (by omega)]
      exact ih hu1 (fun t ht => hp t (List.mem_append_left _ ht)) t ht h0
    · rw [List.mem_singleton] at ht; subst ht
      rw [tuple_snoc, tuple_snoc, if_pos rfl, if_neg h0, if_neg (show ¬ t.id = t.par by omega)]
/-- What is left keeps its way. -/
theorem tuple_rest {L : List Tk} {last : Nat} (h : Good L last) (r : Int) (n : Nat) : ∀ t ∈ L, t.id.toNat ≤ n → t.id ∉ bel r L → tuple (rest r L) t.id = tuple L t.id := by
  have hpl : ∀ t ∈ L, t.par < t.id := fun t ht => h.parLt ht
  induction n with
  | zero =>
    intro t ht hn _
    have := (h.low t ht).1
    have e : t.id = 0 := by omega
    rw [e, tuple_zero, tuple_zero]
  | succ n ih =>
    intro t ht hn hb
    by_cases e : t.id = 0
    · rw [e, tuple_zero, tuple_zero]
    · have hin : t ∈ rest r L := List.mem_filter.2 ⟨ht, by simpa using hb⟩
      obtain ⟨h1, p, hp, e1⟩ := h.par t ht e
      have h3 : tuple (rest r L) t.id = tuple (rest r L) t.par ++ (if t.fact = 0 then [] else [t.fact]) := tuple_step (h.up.filter _) (fun t ht => hpl t (List.mem_filter.1 ht).1) t hin e
      rw [tuple_step h.up hpl t ht e, h3, ← e1, ih p hp (by have := (h.low p hp).1; omega) (fun hc => hb ((h.bel_iff r ht).2 (Or.inr (e1 ▸ hc))))]
theorem tuple_bound {L : List Tk} {last : Nat} (h : Good L last) : ∀ i, (tuple L i).length ≤ L.length := by
  intro i
  suffices H : ∀ M : List Tk, ∀ i, (up M i).length ≤ M.length by have := H L.reverse i; rwa [List.length_reverse] at this
  intro M
  induction M with
  | nil => intro i; simp [up]
  | cons a M ih =>
    intro i
    unfold up
    have h1 := ih a.par
    have h2 := ih i
    split
    · split
      · simp
      · split
        · simp; omega
        · simp; omega
    · simp; omega
end Go.Proofs.Ytfgdgnkihiokoaa
