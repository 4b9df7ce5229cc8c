/- Layer vtext: the bytes of a text, plain. -/
import Derived.Test.YtcedcfkjoppjdaaGreatDoorLR
import Derived.Lib.ItoaLen
namespace Go.Proofs.YtcedcfkjoppjdaaGreatDoor
open Go.ChangeShapes Go.WideShapes Go.ChangeAt Go.RowKit Go.Lib
set_option linter.unusedVariables false
set_option linter.unusedSimpArgs false
set_option maxRecDepth 100000

/-- A byte that a text may have. -/
def pb (c : UInt8) : Bool := decide (32 ≤ c.toNat) && decide (c.toNat ≤ 126)
theorem dg_pb {c : UInt8} (h : dg8 c = true) : pb c = true := by
  unfold dg8 at h
  unfold pb
  simp at h ⊢
  omega
theorem all_pb {l : List UInt8} (h : l.all dg8 = true) : l.all pb = true := by
  rw [List.all_eq_true] at h ⊢
  exact fun c hc => dg_pb (h c hc)
theorem dg_not {l : List UInt8} (h : l.all dg8 = true) : ∀ c ∈ l, ¬ c = 46 := fun c hc e => by
  have := (List.all_eq_true.1 h) c hc
  subst e
  exact absurd this (by decide)
theorem has_none : ∀ (l : List UInt8), (∀ c ∈ l, ¬ c = 46) → Lib.index l [46] = -1
  | [], _ => by rw [Lib.index]; rfl
  | c :: l, h => by
    have hc : ((46 : UInt8) == c) = false := by
      have := h c (List.mem_cons_self ..)
      simpa using fun e => this e.symm
    rw [Lib.index, has_none l (fun x hx => h x (List.mem_cons_of_mem _ hx))]
    simp [List.isPrefixOf, hc]
theorem has_dot : ∀ (a b : List UInt8), (∀ c ∈ a, ¬ c = 46) → Lib.index (a ++ 46 :: b) [46] = a.length
  | [], b, _ => by rw [List.nil_append, Lib.index]; simp [List.isPrefixOf]
  | c :: a, b, h => by
    have hc : ((46 : UInt8) == c) = false := by
      have := h c (List.mem_cons_self ..)
      simpa using fun e => this e.symm
    rw [List.cons_append, Lib.index, has_dot a b (fun x hx => h x (List.mem_cons_of_mem _ hx))]
    have e2 : ((a.length : Int) == -1) = false := by simp
    simp only [List.isPrefixOf, hc, Bool.false_and, Bool.false_eq_true, if_false, e2, List.length_cons]
    omega
theorem cont_no {l : List UInt8} (h : ∀ c ∈ l, ¬ c = 46) : Lib.contains l [46] = false := by
  unfold Lib.contains
  rw [has_none l h]
  rfl
theorem cont_yes {a b : List UInt8} (h : ∀ c ∈ a, ¬ c = 46) : Lib.contains (a ++ 46 :: b) [46] = true := by
  unfold Lib.contains
  rw [has_dot a b h]
  simp

/-- The text of a number. -/
theorem itoa_say (n : Int) (hn : I64 n) : (Lib.itoa n).all pb = true ∧ 1 ≤ (Lib.itoa n).length ∧ (Lib.itoa n).length ≤ 402 ∧ Lib.contains (Lib.itoa n) [46] = false := by
  have hl := Lib.itoa_length_le n hn.1 hn.2
  rcases itoa_form n with ⟨u, _, e⟩ | ⟨u, _, _, e⟩
  · rw [e] at hl ⊢
    have h1 : 1 ≤ (Lib.decDigits u).length := List.length_pos_iff.2 (dd_ne u)
    exact ⟨all_pb (dd_all u), h1, by omega, cont_no (dg_not (dd_all u))⟩
  · rw [e] at hl ⊢
    refine ⟨?_, by simp, by omega, cont_no ?_⟩
    · rw [List.all_cons, all_pb (dd_all u)]; rfl
    · intro c hc
      rcases List.mem_cons.1 hc with rfl | hc
      · decide
      · exact dg_not (dd_all u) c hc
theorem digs_all {rs : List UInt8} (h : digsL rs = true) : rs.all dg8 = true := by
  unfold digsL at h
  rw [Bool.and_eq_true] at h
  first | exact h.1 | exact h.2
theorem decU_say (u : Nat) (hu : u < 18446744073709551616) : (decU u).all pb = true ∧ 1 ≤ (decU u).length ∧ (decU u).length ≤ 100 ∧ Lib.contains (decU u) [46] = true := by
  obtain ⟨rs, e, hd, hl, _⟩ := frac u
  have h1 : 1 ≤ (Lib.decDigits (u / 10000)).length := List.length_pos_iff.2 (dd_ne _)
  have h2 : (Lib.decDigits (u / 10000)).length ≤ 21 := by
    have := Lib.itoa_length_le ((u / 10000 : Nat) : Int) (by omega) (by omega)
    unfold Lib.itoa at this
    rw [if_neg (by omega), Int.toNat_natCast] at this
    exact this
  rw [e]
  refine ⟨?_, by simp; omega, by simp; omega, cont_yes (dg_not (dd_all _))⟩
  rw [List.all_append, List.all_cons, all_pb (dd_all _), all_pb (digs_all hd)]
  rfl
theorem decL_say (n : Int) (hn : I64 n) : (decL n).all pb = true ∧ 1 ≤ (decL n).length ∧ (decL n).length ≤ 402 ∧ Lib.contains (decL n) [46] = true := by
  rcases dec_form n with ⟨u, hu, e⟩ | ⟨u, _, hu, e⟩
  · obtain ⟨a, b, c, d⟩ := decU_say u (by have := hn.2; omega)
    rw [e]
    exact ⟨a, b, by omega, d⟩
  · obtain ⟨rs, e2, hd, hl, _⟩ := frac u
    obtain ⟨a, b, c, d⟩ := decU_say u (by have := hn.1; omega)
    rw [e]
    refine ⟨by rw [List.all_cons, a]; rfl, by simp, by simp; omega, ?_⟩
    rw [e2, ← List.cons_append]
    refine cont_yes (fun c hc => ?_)
    rcases List.mem_cons.1 hc with rfl | hc
    · decide
    · exact dg_not (dd_all _) c hc
theorem esc_all : ∀ {l : List UInt8}, l.all pb = true → (escL l).all pb = true
  | [], _ => rfl
  | c :: l, h => by
    rw [List.all_cons, Bool.and_eq_true] at h
    have e : escL (c :: l) = escB c ++ escL l := rfl
    rw [e, List.all_append, esc_all h.2, Bool.and_true]
    unfold escB
    split
    · rw [List.all_cons, List.all_cons, h.1]; rfl
    · rw [List.all_cons, h.1]; rfl
theorem fst_all {p : Int → Bool} {s : ByteArray} : ∀ {k : Nat}, fst p s k = true → ∀ j, j < k → p (bt s j) = true
  | 0, _, j, h => absurd h (Nat.not_lt_zero _)
  | k + 1, hk, j, h => by
    rw [fst, Bool.and_eq_true] at hk
    rcases Nat.lt_or_eq_of_le (Nat.le_of_lt_succ h) with h | h
    · exact fst_all hk.1 j h
    · subst h; exact hk.2
theorem bytes_of {p : Int → Bool} {s : ByteArray} (h : fst p s s.size = true) : ∀ c ∈ s.data.toList, p (c.toNat : Int) = true := fun c hc => by
  obtain ⟨j, hj⟩ := List.mem_iff_getElem?.1 hc
  have hlt : j < s.size := by
    have := (List.getElem?_eq_some_iff.1 hj).1
    simpa using this
  have := fst_all h j hlt
  unfold bt at this
  rw [List.getD_eq_getElem?_getD, hj] at this
  exact this
theorem str_pb {n : Int} {s : ByteArray} (h : mayB 3 n s = true) : s.data.toList.all pb = true := by
  have ht : fst tb s s.size = true := by
    unfold mayB textB at h
    simp at h
    exact h.2.2
  rw [List.all_eq_true]
  intro c hc
  have := bytes_of ht c hc
  unfold tb at this
  unfold pb
  simp at this ⊢
  omega
theorem sym_pb {n : Int} {s : ByteArray} (h : mayB 5 n s = true) : s.data.toList.all pb = true := by
  have ht : fst nb s s.size = true := by
    unfold mayB nameB at h
    simp at h
    exact h.2.2
  rw [List.all_eq_true]
  intro c hc
  have := bytes_of ht c hc
  unfold nb sl dg at this
  unfold pb
  simp at this ⊢
  omega
/-- What a text begins with, and what it has, by its kind. -/
def Cls (k : Int) (t : List UInt8) : Prop :=
  (k = 3 ∧ ∃ r, t = 34 :: r) ∨ (k = 5 ∧ ∃ r, t = 35 :: r) ∨ (k = 0 ∧ t = [110, 117, 108, 108]) ∨ (k = 4 ∧ t = [116, 114, 117, 101]) ∨ (k = 4 ∧ t = [102, 97, 108, 115, 101]) ∨
  ((k = 1 ∨ k = 2) ∧ Lib.contains t [46] = (k == 2) ∧ ∃ c r, t = c :: r ∧ (c = 45 ∨ dg8 c = true))
theorem text_say {k n : Int} {s : ByteArray} (hm : mayB k n s = true) (hn : I64 n) : (textL k n s).all pb = true ∧ 1 ≤ (textL k n s).length ∧ (textL k n s).length ≤ 402 ∧ Cls k (textL k n s) := by
  have hk : k = 0 ∨ k = 1 ∨ k = 2 ∨ k = 3 ∨ k = 4 ∨ k = 5 := by
    unfold mayB at hm
    by_cases h0 : k = 0
    · exact Or.inl h0
    rw [if_neg h0] at hm
    by_cases h1 : k = 1 ∨ k = 2
    · omega
    rw [if_neg h1] at hm
    by_cases h3 : k = 3
    · omega
    rw [if_neg h3] at hm
    by_cases h4 : k = 4
    · omega
    rw [if_neg h4] at hm
    by_cases h5 : k = 5
    · omega
    rw [if_neg h5] at hm
    cases hm
  rcases hk with rfl | rfl | rfl | rfl | rfl | rfl
  · have e : textL 0 n s = [110, 117, 108, 108] := by unfold textL; rw [hm]; rfl
    rw [e]
    exact ⟨rfl, by decide, by decide, Or.inr (Or.inr (Or.inl ⟨rfl, rfl⟩))⟩
  · have e : textL 1 n s = Lib.itoa n := by unfold textL; rw [hm]; rfl
    rw [e]
    obtain ⟨a, b, c, d⟩ := itoa_say n hn
    exact ⟨a, b, c, Or.inr (Or.inr (Or.inr (Or.inr (Or.inr ⟨Or.inl rfl, d, itoa_begin n⟩))))⟩
  · have e : textL 2 n s = decL n := by unfold textL; rw [hm]; rfl
    rw [e]
    obtain ⟨a, b, c, d⟩ := decL_say n hn
    exact ⟨a, b, c, Or.inr (Or.inr (Or.inr (Or.inr (Or.inr ⟨Or.inr rfl, d, dec_begin n⟩))))⟩
  · have e : textL 3 n s = 34 :: (escL s.data.toList ++ [34]) := by unfold textL; rw [hm]; rfl
    rw [e]
    have h1 := str_pb hm
    have h2 := may_str hm
    have h3 := escL_len s.data.toList
    have h4 : s.data.toList.length = s.size := Array.length_toList
    refine ⟨?_, ?_, ?_, Or.inl ⟨rfl, _, rfl⟩⟩
    · rw [List.all_cons, List.all_append, esc_all h1]; rfl
    · rw [List.length_cons]; omega
    · rw [List.length_cons, List.length_append, List.length_singleton]; omega
  · have hb : n = 0 ∨ n = 1 := by
      unfold mayB at hm
      simp at hm
      omega
    rcases hb with rfl | rfl
    · have e : textL 4 0 s = [102, 97, 108, 115, 101] := by unfold textL; rw [hm]; rfl
      rw [e]
      exact ⟨rfl, by decide, by decide, Or.inr (Or.inr (Or.inr (Or.inr (Or.inl ⟨rfl, rfl⟩))))⟩
    · have e : textL 4 1 s = [116, 114, 117, 101] := by unfold textL; rw [hm]; rfl
      rw [e]
      exact ⟨rfl, by decide, by decide, Or.inr (Or.inr (Or.inr (Or.inl ⟨rfl, rfl⟩)))⟩
  · have e : textL 5 n s = 35 :: s.data.toList := by unfold textL; rw [hm]; rfl
    rw [e]
    have h1 := sym_pb hm
    have h2 := may_sym hm
    have h4 : s.data.toList.length = s.size := Array.length_toList
    refine ⟨?_, ?_, ?_, Or.inr (Or.inl ⟨rfl, _, rfl⟩)⟩
    · rw [List.all_cons, h1]; rfl
    · rw [List.length_cons]; omega
    · rw [List.length_cons]; omega
end Go.Proofs.YtcedcfkjoppjdaaGreatDoor
