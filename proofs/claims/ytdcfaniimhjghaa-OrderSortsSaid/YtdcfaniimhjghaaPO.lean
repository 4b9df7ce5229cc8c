/- Activations and their order, said plainly: no program is named here. -/
import Derived.Lib.Hide
import Derived.Shelf.SlicesG.Cmp
namespace Go.Proofs.Ytdcfaniimhjghaa
set_option linter.unusedVariables false
set_option linter.unusedSimpArgs false

/-- An activation. -/
structure Ac where
  rule : Int
  tup : List Int
  sal : Int
  deriving DecidableEq
def noAc : Ac := ⟨0, [], 0⟩
instance : Inhabited Ac := ⟨noAc⟩

/-- What tells of two which is ahead. -/
structure Cp {α : Type} (f : α → α → Int) : Prop where
  rng : ∀ x y, f x y = -1 ∨ f x y = 0 ∨ f x y = 1
  anti : ∀ x y, f y x = - f x y
  trans : ∀ x y z, f x y ≤ 0 → f y z ≤ 0 → f x z ≤ 0
theorem Cp.self {α : Type} {f : α → α → Int} (h : Cp f) (x : α) : f x x = 0 := by
  have := h.anti x x
  omega
theorem Cp.zero {α : Type} {f : α → α → Int} (h : Cp f) {x y z : α} (h1 : f x y ≤ 0) (h2 : f y z ≤ 0) (h3 : f x z = 0) : f x y = 0 ∧ f y z = 0 := by
  have h4 := h.anti x z
  have h5 := h.anti x y
  have h6 := h.anti y z
  have h7 := h.trans y z x h2 (by omega)
  have h8 := h.trans z x y (by omega) h1
  omega
theorem Cp.comap {α β : Type} {f : β → β → Int} (h : Cp f) (g : α → β) : Cp (fun x y => f (g x) (g y)) := ⟨fun x y => h.rng _ _, fun x y => h.anti _ _, fun x y z => h.trans _ _ _⟩
theorem Cp.flip {α : Type} {f : α → α → Int} (h : Cp f) : Cp (fun x y => f y x) := ⟨fun x y => h.rng _ _, fun x y => h.anti _ _, fun x y z h1 h2 => h.trans _ _ _ h2 h1⟩
/-- The first that tells a difference. -/
def thn (a b : Int) : Int := if a = 0 then b else a
theorem Cp.lex {α : Type} {f g : α → α → Int} (hf : Cp f) (hg : Cp g) : Cp (fun x y => thn (f x y) (g x y)) where
  rng x y := by
    show thn (f x y) (g x y) = -1 ∨ thn (f x y) (g x y) = 0 ∨ thn (f x y) (g x y) = 1
    unfold thn
    split
    · exact hg.rng _ _
    · exact hf.rng _ _
  anti x y := by
    show thn (f y x) (g y x) = - thn (f x y) (g x y)
    unfold thn
    rw [hf.anti x y, hg.anti x y]
    by_cases h : f x y = 0
    · rw [if_pos h, if_pos (by omega)]
    · rw [if_neg h, if_neg (by omega)]
  trans x y z h1 h2 := by
    have h1' : thn (f x y) (g x y) ≤ 0 := h1
    have h2' : thn (f y z) (g y z) ≤ 0 := h2
    show thn (f x z) (g x z) ≤ 0
    unfold thn at h1' h2' ⊢
    have a1 : f x y ≤ 0 := by by_cases h : f x y = 0 <;> simp [h] at h1' <;> omega
    have a2 : f y z ≤ 0 := by by_cases h : f y z = 0 <;> simp [h] at h2' <;> omega
    by_cases h : f x z = 0
    · obtain ⟨e1, e2⟩ := hf.zero a1 a2 h
      rw [if_pos e1] at h1'
      rw [if_pos e2] at h2'
      rw [if_pos h]
      exact hg.trans _ _ _ h1' h2'
    · rw [if_neg h]
      exact hf.trans _ _ _ a1 a2
abbrev cI := Lib.compareInt
theorem cI_cases (x y : Int) : (x < y ∧ cI x y = -1) ∨ (x = y ∧ cI x y = 0) ∨ (y < x ∧ cI x y = 1) := by
  show (x < y ∧ Lib.compareInt x y = -1) ∨ (x = y ∧ Lib.compareInt x y = 0) ∨ (y < x ∧ Lib.compareInt x y = 1)
  unfold Lib.compareInt
  by_cases h1 : x < y
  · left; simp [h1]
  · by_cases h2 : y < x
    · right; right; simp [h1, h2]
    · right; left; simp [h1, h2]; omega
theorem cp_cI : Cp cI where
  rng x y := by rcases cI_cases x y with ⟨_, h⟩ | ⟨_, h⟩ | ⟨_, h⟩ <;> simp [h]
  anti x y := by rcases cI_cases x y with ⟨_, h⟩ | ⟨_, h⟩ | ⟨_, h⟩ <;> rcases cI_cases y x with ⟨_, k⟩ | ⟨_, k⟩ | ⟨_, k⟩ <;> omega
  trans x y z := by rcases cI_cases x y with ⟨_, h⟩ | ⟨_, h⟩ | ⟨_, h⟩ <;> rcases cI_cases y z with ⟨_, k⟩ | ⟨_, k⟩ | ⟨_, k⟩ <;> rcases cI_cases x z with ⟨_, l⟩ | ⟨_, l⟩ | ⟨_, l⟩ <;> omega
/-- Two rows, place by place; one that is the other's beginning is the less. -/
def rowC : List Int → List Int → Int
  | [], [] => 0
  | [], _ :: _ => -1
  | _ :: _, [] => 1
  | x :: a, y :: b => thn (cI x y) (rowC a b)
theorem rowC_anti : ∀ a b, rowC b a = - rowC a b
  | [], [] => rfl
  | [], _ :: _ => rfl
  | _ :: _, [] => rfl
  | x :: a, y :: b => by
    unfold rowC thn
    rw [cp_cI.anti x y, rowC_anti a b]
    by_cases h : cI x y = 0
    · rw [if_pos h, if_pos (by omega)]
    · rw [if_neg h, if_neg (by omega)]
theorem rowC_rng : ∀ a b, rowC a b = -1 ∨ rowC a b = 0 ∨ rowC a b = 1
  | [], [] => by simp [rowC]
  | [], _ :: _ => by simp [rowC]
  | _ :: _, [] => by simp [rowC]
  | x :: a, y :: b => by
    unfold rowC thn
    split
    · exact rowC_rng a b
    · exact cp_cI.rng x y
theorem rowC_zero : ∀ a b, rowC a b = 0 → a = b
  | [], [] => fun _ => rfl
  | [], _ :: _ => fun h => by simp [rowC] at h
  | _ :: _, [] => fun h => by simp [rowC] at h
  | x :: a, y :: b => fun h => by
    unfold rowC thn at h
    by_cases hc : cI x y = 0
    · rw [if_pos hc] at h
      rcases cI_cases x y with ⟨_, k⟩ | ⟨e, k⟩ | ⟨_, k⟩
      · omega
      · rw [e, rowC_zero a b h]
      · omega
    · rw [if_neg hc] at h
      exact absurd h hc
theorem rowC_trans : ∀ a b c, rowC a b ≤ 0 → rowC b c ≤ 0 → rowC a c ≤ 0
  | [], _, [] => fun _ _ => by simp [rowC]
  | [], _, _ :: _ => fun _ _ => by simp [rowC]
  | _ :: _, [], _ => fun h _ => by simp [rowC] at h
  | _ :: _, _ :: _, [] => fun _ h => by simp [rowC] at h
  | x :: a, y :: b, z :: c => fun h1 h2 => by
    unfold rowC thn at h1 h2 ⊢
    have a1 : cI x y ≤ 0 := by by_cases h : cI x y = 0 <;> simp [h] at h1 <;> omega
    have a2 : cI y z ≤ 0 := by by_cases h : cI y z = 0 <;> simp [h] at h2 <;> omega
    by_cases h : cI x z = 0
    · obtain ⟨e1, e2⟩ := cp_cI.zero a1 a2 h
      rw [if_pos e1] at h1
      rw [if_pos e2] at h2
      rw [if_pos h]
      exact rowC_trans a b c h1 h2
    · rw [if_neg h]
      exact cp_cI.trans _ _ _ a1 a2
theorem cp_row : Cp rowC := ⟨rowC_rng, rowC_anti, rowC_trans⟩
/-- Step by step: what is told behind the first k places. -/
theorem rowC_drop {a b : List Int} {k : Nat} (h : ∀ j, j < k → a[j]? = b[j]?) (ha : k ≤ a.length) (hb : k ≤ b.length) : rowC a b = rowC (a.drop k) (b.drop k) := by
  induction k generalizing a b with
  | zero => simp
  | succ k ih =>
    cases a with
    | nil => simp at ha
    | cons x a =>
      cases b with
      | nil => simp at hb
      | cons y b =>
        have h0 := h 0 (by omega)
        simp at h0
        subst h0
        have e : cI x x = 0 := cp_cI.self x
        show rowC (x :: a) (x :: b) = _
        rw [show rowC (x :: a) (x :: b) = thn (cI x x) (rowC a b) from rfl, e]
        simp only [thn, if_true, List.drop_succ_cons]
        exact ih (fun j hj => by have := h (j + 1) (by omega); simpa using this) (by simpa using ha) (by simpa using hb)
theorem rowC_at {a b : List Int} {k : Nat} {x y : Int} (h : ∀ j, j < k → a[j]? = b[j]?) (ha : a[k]? = some x) (hb : b[k]? = some y) (hne : cI x y ≠ 0) : rowC a b = cI x y := by
  have h1 := (List.getElem?_eq_some_iff.1 ha).1
  have h2 := (List.getElem?_eq_some_iff.1 hb).1
  rw [rowC_drop h (by omega) (by omega), List.drop_eq_getElem_cons h1, List.drop_eq_getElem_cons h2, (List.getElem?_eq_some_iff.1 ha).2, (List.getElem?_eq_some_iff.1 hb).2]
  show thn (cI x y) _ = _
  unfold thn
  rw [if_neg hne]
/-- The one is at its end. -/
theorem rowC_end {a b : List Int} (h : ∀ j, j < a.length → a[j]? = b[j]?) (hl : a.length ≤ b.length) : rowC a b = if a.length < b.length then -1 else 0 := by
  rw [rowC_drop h (Nat.le_refl _) hl, List.drop_length]
  by_cases h1 : a.length < b.length
  · rw [if_pos h1, List.drop_eq_getElem_cons h1]
    rfl
  · rw [if_neg h1, List.drop_eq_nil_of_le (by omega)]
    rfl
theorem rowC_end' {a b : List Int} (h : ∀ j, j < b.length → a[j]? = b[j]?) (hl : b.length < a.length) : rowC a b = 1 := by
  rw [rowC_drop h (by omega) (Nat.le_refl _), List.drop_length, List.drop_eq_getElem_cons hl]
  rfl

/-- The ids from the greatest down. -/
def srt (t : List Int) : List Int := t.mergeSort fun x y => decide (y ≤ x)
theorem srt_perm (t : List Int) : (srt t).Perm t := List.mergeSort_perm _ _
theorem srt_sorted (t : List Int) : (srt t).Pairwise (fun x y => y ≤ x) := by
  have := List.pairwise_mergeSort (le := fun x y : Int => decide (y ≤ x)) (fun a b c h1 h2 => by simp at *; omega) (fun a b => by simp; omega) t
  exact this.imp (fun h => by simpa using h)
theorem srt_only {t l : List Int} (h1 : l.Perm t) (h2 : l.Pairwise (fun x y => y ≤ x)) : l = srt t :=
  List.Perm.eq_of_pairwise (le := fun x y => y ≤ x) (fun a b _ _ h3 h4 => by omega) h2 (srt_sorted t) (h1.trans (srt_perm t).symm)
theorem srt_len (t : List Int) : (srt t).length = t.length := (srt_perm t).length_eq
/-- By what a strategy compares. -/
def vec (s : Int) (t : List Int) : List Int := if s = 3 then srt t else [(srt t).headD 0]
/-- Which of two is ahead: -1 the first one. -/
def cmpA (s : Int) (a b : Ac) : Int :=
  thn (cI b.sal a.sal) (thn (if s = 2 then rowC (vec s a.tup) (vec s b.tup) else rowC (vec s b.tup) (vec s a.tup)) (thn (cI a.rule b.rule) (rowC a.tup b.tup)))
theorem cp_cmpA (s : Int) : Cp (cmpA s) := by
  have h1 : Cp (fun a b : Ac => cI b.sal a.sal) := (cp_cI.flip).comap (fun a : Ac => a.sal)
  have h2 : Cp (fun a b : Ac => if s = 2 then rowC (vec s a.tup) (vec s b.tup) else rowC (vec s b.tup) (vec s a.tup)) := by
    by_cases h : s = 2
    · simp only [h, if_true]
      exact cp_row.comap (fun a : Ac => vec 2 a.tup)
    · simp only [h, if_false]
      exact (cp_row.flip).comap (fun a : Ac => vec s a.tup)
  exact h1.lex (h2.lex ((cp_cI.comap (fun a : Ac => a.rule)).lex (cp_row.comap (fun a : Ac => a.tup))))
theorem thn_zero {a b : Int} (h : thn a b = 0) : a = 0 ∧ b = 0 := by
  unfold thn at h
  split at h
  · exact ⟨by assumption, h⟩
  · exact absurd h (by assumption)
theorem cI_zero {x y : Int} (h : cI x y = 0) : x = y := by
  rcases cI_cases x y with ⟨_, k⟩ | ⟨e, _⟩ | ⟨_, k⟩
  · omega
  · exact e
  · omega
theorem cmpA_zero {s : Int} {a b : Ac} (h : cmpA s a b = 0) : a = b := by
  obtain ⟨h1, h2⟩ := thn_zero h
  obtain ⟨_, h3⟩ := thn_zero h2
  obtain ⟨h4, h5⟩ := thn_zero h3
  obtain ⟨ar, at', a3⟩ := a
  obtain ⟨br, bt, b3⟩ := b
  have e1 := cI_zero h1
  have e2 := cI_zero h4
  have e3 := rowC_zero _ _ h5
  simp only at e1 e2 e3
  subst e1 e2 e3
  rfl
theorem cmpA_self (s : Int) (a : Ac) : cmpA s a a = 0 := (cp_cmpA s).self a
theorem cmpA_iff (s : Int) (a b : Ac) : cmpA s a b = 0 ↔ a = b := ⟨cmpA_zero, fun h => by subst h; exact cmpA_self s a⟩
/-- The document's own word. -/
def aheadD (s : Int) (a b : Ac) : Bool :=
  if a.sal ≠ b.sal then decide (b.sal < a.sal)
  else if rowC (vec s a.tup) (vec s b.tup) ≠ 0 then decide (rowC (vec s a.tup) (vec s b.tup) < 0) == decide (s = 2)
  else if a.rule ≠ b.rule then decide (a.rule < b.rule)
  else decide (rowC a.tup b.tup < 0)
theorem aheadD_eq (s : Int) (a b : Ac) : aheadD s a b = decide (cmpA s a b < 0) := by
  unfold aheadD cmpA
  rcases cI_cases b.sal a.sal with ⟨h, k⟩ | ⟨h, k⟩ | ⟨h, k⟩
  · rw [if_pos (by omega), k]
    simp [thn, h]
  · rw [if_neg (by omega), k]
    have hv := rowC_rng (vec s a.tup) (vec s b.tup)
    rw [rowC_anti (vec s a.tup) (vec s b.tup)]
    generalize rowC (vec s a.tup) (vec s b.tup) = v at hv
    rcases hv with rfl | rfl | rfl
    · by_cases h2 : s = 2 <;> simp [thn, h2]
    · rcases cI_cases a.rule b.rule with ⟨h3, k3⟩ | ⟨h3, k3⟩ | ⟨h3, k3⟩
      · simp [thn, k3, h3]; omega
      · simp [thn, k3]
        intro h9
        exact absurd h3 h9
      · have : ¬ a.rule < b.rule := by omega
        simp [thn, k3, this]; omega
    · by_cases h2 : s = 2 <;> simp [thn, h2]
  · rw [if_pos (by omega), k]
    have : ¬ b.sal < a.sal := by omega
    simp [thn, this]
/-- The activations in their order. -/
def ord (s : Int) (L : List Ac) : List Ac := L.mergeSort fun x y => decide (cmpA s x y ≤ 0)
theorem ord_perm (s : Int) (L : List Ac) : (ord s L).Perm L := List.mergeSort_perm _ _
theorem ord_sorted (s : Int) (L : List Ac) : (ord s L).Pairwise (fun x y => cmpA s x y ≤ 0) := by
  have := List.pairwise_mergeSort (le := fun x y : Ac => decide (cmpA s x y ≤ 0)) (fun a b c h1 h2 => by simp at *; exact (cp_cmpA s).trans _ _ _ h1 h2) (fun a b => by
    have h1 := (cp_cmpA s).anti a b
    simp; omega) L
  exact this.imp (fun h => by simpa using h)
theorem ord_only {s : Int} {L l : List Ac} (h1 : l.Perm L) (h2 : l.Pairwise (fun x y => cmpA s x y ≤ 0)) : l = ord s L :=
  List.Perm.eq_of_pairwise (le := fun x y => cmpA s x y ≤ 0) (fun a b _ _ h3 h4 => by
    have h5 := (cp_cmpA s).anti a b
    have h6 : cmpA s a b = 0 := by omega
    exact cmpA_zero h6) h2 (ord_sorted s L) (h1.trans (ord_perm s L).symm)
theorem ord_len (s : Int) (L : List Ac) : (ord s L).length = L.length := (ord_perm s L).length_eq
theorem ord_of_perm {s : Int} {L M : List Ac} (h : L.Perm M) : ord s L = ord s M := ord_only ((ord_perm s L).trans h) (ord_sorted s L)
theorem ord_ord (s : Int) (L : List Ac) : ord s (ord s L) = ord s L := ord_of_perm (ord_perm s L)
theorem ord_rev (s : Int) (L : List Ac) : ord s L.reverse = ord s L := ord_of_perm (List.reverse_perm L)
/-- One more is put in its place. -/
theorem put_in {α : Type} {f : α → α → Int} (hf : Cp f) {l : List α} {x : α} {k : Nat} (hs : l.Pairwise (fun x y => f x y ≤ 0)) (hk : k ≤ l.length) (h1 : ∀ (j : Nat) y, j < k → l[j]? = some y → f y x ≤ 0) (h2 : ∀ (j : Nat) y, k ≤ j → l[j]? = some y → f x y ≤ 0) :
    (l.take k ++ x :: l.drop k).Pairwise (fun x y => f x y ≤ 0) := by
  have hm : ∀ y, y ∈ l.take k → f y x ≤ 0 := fun y hy => by
    obtain ⟨j, hj⟩ := List.mem_iff_getElem?.1 hy
    have hlt : j < k := by
      have := (List.getElem?_eq_some_iff.1 hj).1
      rw [List.length_take] at this
      omega
    rw [List.getElem?_take_of_lt hlt] at hj
    exact h1 j y hlt hj
  have hn : ∀ y, y ∈ l.drop k → f x y ≤ 0 := fun y hy => by
    obtain ⟨j, hj⟩ := List.mem_iff_getElem?.1 hy
    rw [List.getElem?_drop] at hj
    exact h2 (k + j) y (by omega) hj
  rw [List.pairwise_append, List.pairwise_cons]
  refine ⟨hs.sublist (List.take_sublist k l), ⟨hn, hs.sublist (List.drop_sublist k l)⟩, fun a ha b hb => ?_⟩
  rcases List.mem_cons.1 hb with rfl | hb
  · exact hm a ha
  · exact hf.trans _ _ _ (hm a ha) (hn b hb)
theorem put_perm {α : Type} {l t : List α} {x : α} (k : Nat) (h : l.Perm t) : (l.take k ++ x :: l.drop k).Perm (t ++ [x]) := by
  refine List.perm_middle.trans ?_
  rw [List.take_append_drop]
  exact (h.cons x).trans (List.perm_append_singleton x t).symm
end Go.Proofs.Ytdcfaniimhjghaa
