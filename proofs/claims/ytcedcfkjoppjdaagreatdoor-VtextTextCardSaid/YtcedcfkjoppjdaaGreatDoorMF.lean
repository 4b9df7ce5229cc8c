/- Small operations in a statement that draws its order; trimming noughts. -/
import Derived.Test.YtcedcfkjoppjdaaGreatDoorLR
import Derived.Test.YtcedcfkjoppjdaaGreatDoorIB
namespace Go.Proofs.YtcedcfkjoppjdaaGreatDoor
open Go.Lib
set_option linter.unusedVariables false
set_option linter.unusedSimpArgs false
set_option maxRecDepth 100000

/-- The last k digits of u. -/
def low : Nat → Nat → List UInt8
  | 0, _ => []
  | k + 1, u => dgt (u / 10 ^ k % 10) :: low k u
theorem low_len : ∀ k u, (low k u).length = k
  | 0, _ => rfl
  | k + 1, u => by rw [low, List.length_cons, low_len k u]
theorem low_app (a b u : Nat) : low (a + b) u = low a (u / 10 ^ b) ++ low b u := by
  induction a with
  | zero => rw [Nat.zero_add]; rfl
  | succ a ih =>
    rw [show a + 1 + b = (a + b) + 1 by omega, low, ih, low, List.cons_append, Nat.div_div_eq_div_mul, ← Nat.pow_add, Nat.add_comm b a]
theorem low_snoc (k u : Nat) : low (k + 1) u = low k (u / 10) ++ [dgt (u % 10)] := by
  rw [low_app k 1 u]
  show low k (u / 10 ^ 1) ++ [dgt (u / 10 ^ 0 % 10)] = _
  rw [Nat.pow_one, Nat.pow_zero, Nat.div_one]
/-- As many digits as there are, and one at least. -/
def Fit (k u : Nat) : Prop := 1 ≤ k ∧ u / 10 ^ k = 0 ∧ (k = 1 ∨ ¬ u / 10 ^ (k - 1) = 0)
theorem low_dec : ∀ (k u : Nat), Fit k u → low k u = Lib.decDigits u
  | 0, u, h => by have := h.1; omega
  | k + 1, u, h => by
    obtain ⟨_, h2, h3⟩ := h
    rw [Lib.decDigits]
    by_cases hu : u < 10
    · rw [dif_pos hu]
      have hk : k = 0 := by
        rcases h3 with h3 | h3
        · omega
        · rcases Nat.eq_zero_or_pos k with h | h
          · exact h
          · exfalso
            apply h3
            apply Nat.div_eq_of_lt
            have : 10 ^ 1 ≤ 10 ^ (k + 1 - 1) := Nat.pow_le_pow_right (by omega) (by omega)
            omega
      subst hk
      rw [low_snoc, Nat.mod_eq_of_lt hu]
      rfl
    · rw [dif_neg hu, low_snoc]
      have hf : Fit k (u / 10) := by
        have hk : 1 ≤ k := by
          rcases Nat.eq_zero_or_pos k with h | h
          · subst h
            exfalso
            rw [Nat.zero_add, Nat.pow_one] at h2
            omega
          · exact h
        refine ⟨hk, by rw [Nat.div_div_eq_div_mul, ← Nat.pow_succ']; exact h2, ?_⟩
        rcases h3 with h3 | h3
        · omega
        · rcases Nat.lt_or_ge 1 k with hk1 | hk1
          · right
            rw [Nat.div_div_eq_div_mul, ← Nat.pow_succ', show (k - 1).succ = k + 1 - 1 by omega]
            exact h3
          · left; omega
      rw [low_dec k (u / 10) hf]
      rfl
theorem low_four (u : Nat) : low 4 u = restL u := by
  unfold restL
  show [dgt (u / 10 ^ 3 % 10), dgt (u / 10 ^ 2 % 10), dgt (u / 10 ^ 1 % 10), dgt (u / 10 ^ 0 % 10)] = _
  have h3 : u / 10 ^ 3 % 10 = u % 10000 / 1000 := by omega
  have h2 : u / 10 ^ 2 % 10 = u % 1000 / 100 := by omega
  have h1 : u / 10 ^ 1 % 10 = u % 100 / 10 := by omega
  have h0 : u / 10 ^ 0 % 10 = u % 10 := by omega
  rw [h3, h2, h1, h0]
/-- Where the loop stops: as many as there are, and m at least. -/
def Stop (m k u : Nat) : Prop := m ≤ k ∧ u / 10 ^ k = 0 ∧ (k = m ∨ ¬ u / 10 ^ (k - 1) = 0)
theorem low_five {k u : Nat} (h : Stop 5 k u) : low k u = Lib.decDigits (u / 10000) ++ restL u := by
  obtain ⟨h1, h2, h3⟩ := h
  obtain ⟨j, rfl⟩ : ∃ j, k = j + 4 := ⟨k - 4, by omega⟩
  rw [low_app j 4 u, low_four, show (10 : Nat) ^ 4 = 10000 from rfl]
  rw [low_dec j (u / 10000)]
  refine ⟨by omega, ?_, ?_⟩
  · rw [show (10000 : Nat) = 10 ^ 4 from rfl, Nat.div_div_eq_div_mul, ← Nat.pow_add, Nat.add_comm 4 j]; exact h2
  · rcases h3 with h3 | h3
    · left; omega
    · rcases Nat.lt_or_ge 1 j with hj | hj
      · right
        rw [show (10000 : Nat) = 10 ^ 4 from rfl, Nat.div_div_eq_div_mul, ← Nat.pow_add, show 4 + (j - 1) = j + 4 - 1 by omega]
        exact h3
      · left; omega
theorem low_one {k u : Nat} (h : Stop 1 k u) : low k u = Lib.decDigits u := low_dec k u h
end Go.Proofs.YtcedcfkjoppjdaaGreatDoor
namespace Go.Proofs.YtcedcfkjoppjdaaGreatDoor
open Go.ChangeShapes Go.WideShapes Go.ChangeAt Go.RowKit
set_option linter.unusedVariables false
set_option linter.unusedSimpArgs false
set_option maxRecDepth 100000

section
variable {ρ : Operand → Value} {o : Oper} {w : World} {K : Value → World → Prop}
theorem does_lenS {x : Operand} {S : ByteArray} (ht : o.type = 3) (ho : o.op = .call ⟨.builtin .len, #[x], #[9]⟩) (hx : ρ x = .string S) (h : K (.int .i64 (S.size : Int)) w) : Does Tryz.prog ρ o w K := by
  refine does_value (v := .int .i64 (S.size : Int)) (w' := w) ?_ h
  unfold execOp; rw [ho, ht]; simp [hx]
  go_simp
theorem does_sub4 {x y : Operand} {m : Nat} (ho : o.op = .binOp .sub 3 x y 3) (hx : ρ x = .int .i64 ((m + 4 : Nat) : Int)) (hy : ρ y = .int .i64 4) (hm : m ≤ 1000000) (h : K (.int .i64 (m : Int)) w) : Does Tryz.prog ρ o w K := by
  refine does_value (v := .int .i64 (m : Int)) (w' := w) ?_ h
  have e : ((m + 4 : Nat) : Int) - 4 = (m : Int) := by omega
  unfold execOp; rw [ho]; simp only [hx, hy]
  go_simp
  rw [IntKind.wrap_i64]
  omega
theorem does_upto {x c : Operand} {S : ByteArray} {b : Nat} (ho : o.op = .slice 9 x none (some c) none) (hx : ρ x = .string S) (hc : ρ c = .int .i64 (b : Int)) (hb : b ≤ S.size) (hs : S.size ≤ 1000000) (h : K (.string (S.extract 0 b)) w) : Does Tryz.prog ρ o w K := by
  refine does_value (v := .string (S.extract 0 b)) (w' := w) ?_ h
  unfold execOp; rw [ho]; simp only [hx, hc, Option.map_some, Option.map_none]
  go_simp
theorem does_part {x c d : Operand} {S : ByteArray} {b e : Nat} (ho : o.op = .slice 9 x (some c) (some d) none) (hx : ρ x = .string S) (hc : ρ c = .int .i64 (b : Int)) (hd : ρ d = .int .i64 (e : Int)) (hb : b ≤ e) (he : e ≤ S.size) (hs : S.size ≤ 1000000) (h : K (.string (S.extract b e)) w) : Does Tryz.prog ρ o w K := by
  refine does_value (v := .string (S.extract b e)) (w' := w) ?_ h
  unfold execOp; rw [ho]; simp only [hx, hc, hd, Option.map_some, Option.map_none]
  go_simp
end
theorem slice_part {S : ByteArray} {b e : Nat} (w : World) (hb : b ≤ e) (he : e ≤ S.size) (hs : S.size ≤ 1000000) : (Instr.slice 9 (.string S) (some (.int .i64 (b : Int))) (some (.int .i64 (e : Int))) none).run Tryz.prog w = .ok (.string (S.extract b e)) w := by
  go_simp
theorem st_ext (l : List UInt8) (b e : Nat) : (st l).extract b e = st ((l.drop b).take (e - b)) := by
  apply ByteArray.ext
  apply Array.ext'
  simp [st, ByteArray.data_extract, List.extract_eq_take_drop]
/-- Trimmed at its end, by where the noughts begin. -/
theorem noughts_at (D : List UInt8) (x0 x1 x2 x3 : UInt8) (a : Nat) (h1 : D.length + 1 ≤ a) (h2 : a ≤ D.length + 4)
    (h3 : ∀ q, a ≤ q → q < D.length + 4 → (D ++ [x0, x1, x2, x3]).getD q 0 = 48) (h4 : a = D.length + 1 ∨ ¬ (D ++ [x0, x1, x2, x3]).getD (a - 1) 0 = 48) :
    ((D ++ [x0, x1, x2, x3]).drop D.length).take (a - D.length) = [x0] ++ Lib.trimRightB [x1, x2, x3] 48 := by
  rw [List.drop_left]
  have g : ∀ i, (D ++ [x0, x1, x2, x3]).getD (D.length + i) 0 = [x0, x1, x2, x3].getD i 0 := fun i => by
    rw [List.getD_eq_getElem?_getD, List.getElem?_append_right (by omega), Nat.add_sub_cancel_left, List.getD_eq_getElem?_getD]
  have ha : a = D.length + 1 ∨ a = D.length + 2 ∨ a = D.length + 3 ∨ a = D.length + 4 := by omega
  unfold Lib.trimRightB
  rcases ha with rfl | rfl | rfl | rfl
  · have e1 := h3 (D.length + 1) (by omega) (by omega)
    have e2 := h3 (D.length + 2) (by omega) (by omega)
    have e3 := h3 (D.length + 3) (by omega) (by omega)
    rw [g] at e1 e2 e3
    simp at e1 e2 e3
    subst e1 e2 e3
    rw [Nat.add_sub_cancel_left]
    simp
  · have e2 := h3 (D.length + 2) (by omega) (by omega)
    have e3 := h3 (D.length + 3) (by omega) (by omega)
    have e1 := h4.resolve_left (by omega)
    rw [show D.length + 2 - 1 = D.length + 1 by omega] at e1
    rw [g] at e1 e2 e3
    simp at e1 e2 e3
    subst e2 e3
    rw [Nat.add_sub_cancel_left]
    simp [e1]
  · have e3 := h3 (D.length + 3) (by omega) (by omega)
    have e2 := h4.resolve_left (by omega)
    rw [show D.length + 3 - 1 = D.length + 2 by omega] at e2
    rw [g] at e2 e3
    simp at e2 e3
    subst e3
    rw [Nat.add_sub_cancel_left]
    simp [e2]
  · have e3 := h4.resolve_left (by omega)
    rw [show D.length + 4 - 1 = D.length + 3 by omega] at e3
    rw [g] at e3
    simp at e3
    rw [Nat.add_sub_cancel_left]
    simp [e3]
end Go.Proofs.YtcedcfkjoppjdaaGreatDoor
