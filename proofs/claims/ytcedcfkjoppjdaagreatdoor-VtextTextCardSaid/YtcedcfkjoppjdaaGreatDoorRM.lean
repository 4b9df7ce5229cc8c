/- Plain facts on digits in rows to the base 10000, the lowest one first: their worth, sums, differences, order, and the row without noughts at its end. -/
namespace Go.Proofs.YtcedcfkjoppjdaaGreatDoor
set_option linter.unusedVariables false

/-- A row's worth. -/
def val : List Int → Int
  | [] => 0
  | d :: r => d + 10000 * val r
def p10 : Nat → Int
  | 0 => 1
  | k + 1 => 10000 * p10 k
def Dg (l : List Int) : Prop := ∀ d ∈ l, 0 ≤ d ∧ d < 10000

theorem p10_pos : ∀ k, 0 < p10 k
  | 0 => by decide
  | k + 1 => by have := p10_pos k; unfold p10; omega
theorem dg_nil : Dg [] := fun d h => by cases h
theorem dg_snoc {l : List Int} {d : Int} (h : Dg l) (h0 : 0 ≤ d) (h1 : d < 10000) : Dg (l ++ [d]) := by
  intro x hx
  rcases List.mem_append.1 hx with hx | hx
  · exact h x hx
  · rw [List.mem_singleton.1 hx]; exact ⟨h0, h1⟩
theorem dg_cons {d : Int} {l : List Int} (h : Dg (d :: l)) : (0 ≤ d ∧ d < 10000) ∧ Dg l := ⟨h d (by simp), fun x hx => h x (by simp [hx])⟩
theorem dg_getD {l : List Int} (h : Dg l) (k : Nat) : 0 ≤ l.getD k 0 ∧ l.getD k 0 < 10000 := by
  rw [List.getD_eq_getElem?_getD]
  rcases Nat.lt_or_ge k l.length with hk | hk
  · rw [List.getElem?_eq_getElem hk]; exact h _ (List.getElem_mem hk)
  · rw [List.getElem?_eq_none hk]; simp
theorem dg_take {l : List Int} (h : Dg l) (k : Nat) : Dg (l.take k) := fun d hd => h d (List.mem_of_mem_take hd)

theorem val_snoc : ∀ (l : List Int) (d : Int), val (l ++ [d]) = val l + p10 l.length * d
  | [], d => by simp [val, p10]
  | x :: r, d => by
    have ih := val_snoc r d
    simp only [List.cons_append, val, List.length_cons, p10]
    rw [ih, Int.mul_assoc]
    generalize p10 r.length * d = z
    omega
theorem val_bd : ∀ (l : List Int), Dg l → 0 ≤ val l ∧ val l < p10 l.length
  | [], _ => by decide
  | x :: r, h => by
    obtain ⟨h1, h2⟩ := dg_cons h
    have ih := val_bd r h2
    simp only [val, List.length_cons, p10]
    omega
theorem take_snoc (l : List Int) (k : Nat) (hk : k < l.length) : l.take (k + 1) = l.take k ++ [l.getD k 0] := by
  rw [List.take_add_one, List.getElem?_eq_getElem hk, List.getD_eq_getElem?_getD, List.getElem?_eq_getElem hk]; rfl
theorem val_take (l : List Int) (k : Nat) : val (l.take (k + 1)) = val (l.take k) + p10 k * l.getD k 0 := by
  rcases Nat.lt_or_ge k l.length with hk | hk
  · rw [take_snoc l k hk, val_snoc, List.length_take, Nat.min_eq_left (Nat.le_of_lt hk)]
  · rw [List.take_of_length_le hk, List.take_of_length_le (by omega), List.getD_eq_getElem?_getD, List.getElem?_eq_none hk]; simp

/-! Sums. -/
def upK (a b : List Int) : Nat → List Int × Int
  | 0 => ([], 0)
  | k + 1 => ((upK a b k).1 ++ [((upK a b k).2 + a.getD k 0 + b.getD k 0) % 10000], ((upK a b k).2 + a.getD k 0 + b.getD k 0) / 10000)
theorem upK_len (a b : List Int) : ∀ k, (upK a b k).1.length = k
  | 0 => rfl
  | k + 1 => by simp [upK, upK_len a b k]
theorem upK_m {a b : List Int} (ha : Dg a) (hb : Dg b) : ∀ k, 0 ≤ (upK a b k).2 ∧ (upK a b k).2 ≤ 1
  | 0 => by show (0 : Int) ≤ 0 ∧ (0 : Int) ≤ 1; omega
  | k + 1 => by
    have ih := upK_m ha hb k
    have h1 := dg_getD ha k
    have h2 := dg_getD hb k
    simp only [upK]
    omega
theorem upK_dg {a b : List Int} (ha : Dg a) (hb : Dg b) : ∀ k, Dg (upK a b k).1
  | 0 => dg_nil
  | k + 1 => by
    have ih := upK_dg ha hb k
    simp only [upK]
    exact dg_snoc ih (by omega) (by omega)
theorem carry (p v s m x y c d : Int) (h : v + p * m = c) (hs : s = m + x + y) (e : p * s = p * (10000 * (s / 10000) + s % 10000)) (d1 : p * (m + x + y) = p * m + p * x + p * y) (d2 : p * (10000 * (s / 10000) + s % 10000) = 10000 * (p * (s / 10000)) + p * (s % 10000)) : v + p * (s % 10000) + 10000 * (p * (s / 10000)) = c + p * x + p * y := by
  subst hs
  omega
theorem upK_val (a b : List Int) : ∀ k, val (upK a b k).1 + p10 k * (upK a b k).2 = val (a.take k) + val (b.take k)
  | 0 => by simp [upK, val]
  | k + 1 => by
    have ih := upK_val a b k
    rw [val_take a k, val_take b k]
    simp only [upK]
    rw [val_snoc, upK_len]
    generalize (upK a b k).2 = m at *
    generalize val (upK a b k).1 = v at *
    generalize a.getD k 0 = x at *
    generalize b.getD k 0 = y at *
    have h := carry (p10 k) v (m + x + y) m x y _ 0 ih rfl (by rw [Int.mul_ediv_add_emod]) (by rw [Int.mul_add, Int.mul_add]) (by rw [Int.mul_add, Int.mul_left_comm])
    show _ + 10000 * p10 k * _ = _
    rw [Int.mul_assoc, h]
    omega
def upN (a b : List Int) : Nat := if (upK a b (max a.length b.length)).2 = 0 then max a.length b.length else max a.length b.length + 1
def upL (a b : List Int) : List Int := (upK a b (upN a b)).1
theorem up_le (a b : List Int) : upN a b ≤ max a.length b.length + 1 := by unfold upN; split <;> omega
theorem up_ge (a b : List Int) : a.length ≤ upN a b ∧ b.length ≤ upN a b := by unfold upN; split <;> omega
theorem getD_past {l : List Int} {k : Nat} (h : l.length ≤ k) : l.getD k 0 = 0 := by
  rw [List.getD_eq_getElem?_getD, List.getElem?_eq_none h]; rfl
theorem up_done {a b : List Int} (ha : Dg a) (hb : Dg b) : (upK a b (upN a b)).2 = 0 := by
  unfold upN
  split
  · assumption
  · have h := upK_m ha hb (max a.length b.length)
    simp only [upK]
    rw [getD_past (l := a) (by omega), getD_past (l := b) (by omega)]
    omega
theorem up_more {a b : List Int} (ha : Dg a) (hb : Dg b) (k : Nat) (hk : k < upN a b) : k < a.length ∨ k < b.length ∨ 0 < (upK a b k).2 := by
  by_cases h1 : k < a.length
  · exact Or.inl h1
  · by_cases h2 : k < b.length
    · exact Or.inr (Or.inl h2)
    · refine Or.inr (Or.inr ?_)
      unfold upN at hk
      split at hk
      · omega
      · rename_i hne
        have e : k = max a.length b.length := by omega
        have := upK_m ha hb k
        rw [← e] at hne
        omega
theorem upL_val {a b : List Int} (ha : Dg a) (hb : Dg b) : val (upL a b) = val a + val b := by
  have h := upK_val a b (upN a b)
  have hg := up_ge a b
  rw [up_done ha hb, List.take_of_length_le hg.1, List.take_of_length_le hg.2] at h
  unfold upL
  omega
theorem upL_dg {a b : List Int} (ha : Dg a) (hb : Dg b) : Dg (upL a b) := upK_dg ha hb _
theorem upL_len (a b : List Int) : (upL a b).length ≤ max a.length b.length + 1 := by unfold upL; rw [upK_len]; exact up_le a b

/-! Differences. -/
def dnK (a b : List Int) : Nat → List Int × Int
  | 0 => ([], 0)
  | k + 1 => if a.getD k 0 - (dnK a b k).2 - b.getD k 0 < 0 then ((dnK a b k).1 ++ [a.getD k 0 - (dnK a b k).2 - b.getD k 0 + 10000], 1) else ((dnK a b k).1 ++ [a.getD k 0 - (dnK a b k).2 - b.getD k 0], 0)
theorem dnK_len (a b : List Int) : ∀ k, (dnK a b k).1.length = k
  | 0 => rfl
  | k + 1 => by unfold dnK; split <;> simp [dnK_len a b k]
theorem dnK_m (a b : List Int) : ∀ k, (dnK a b k).2 = 0 ∨ (dnK a b k).2 = 1
  | 0 => Or.inl rfl
  | k + 1 => by unfold dnK; split <;> simp
theorem dnK_dg {a b : List Int} (ha : Dg a) (hb : Dg b) : ∀ k, Dg (dnK a b k).1
  | 0 => dg_nil
  | k + 1 => by
    have ih := dnK_dg ha hb k
    have h1 := dg_getD ha k
    have h2 := dg_getD hb k
    have h3 := dnK_m a b k
    unfold dnK
    split
    · exact dg_snoc ih (by omega) (by omega)
    · exact dg_snoc ih (by omega) (by omega)
theorem dnK_val (a b : List Int) : ∀ k, val (dnK a b k).1 - p10 k * (dnK a b k).2 = val (a.take k) - val (b.take k)
  | 0 => by simp [dnK, val]
  | k + 1 => by
    have ih := dnK_val a b k
    rw [val_take a k, val_take b k]
    unfold dnK
    generalize he : (dnK a b k).2 = m at *
    generalize ho : (dnK a b k).1 = o at *
    have hl : o.length = k := by rw [← ho]; exact dnK_len a b k
    generalize a.getD k 0 = x at *
    generalize b.getD k 0 = y at *
    split
    · show val (o ++ [x - m - y + 10000]) - 10000 * p10 k * 1 = _
      rw [val_snoc, hl, Int.mul_add, Int.mul_sub, Int.mul_sub]
      generalize p10 k * m = pm at *
      generalize p10 k * x = px at *
      generalize p10 k * y = py at *
      omega
    · show val (o ++ [x - m - y]) - 10000 * p10 k * 0 = _
      rw [val_snoc, hl, Int.mul_sub, Int.mul_sub]
      generalize p10 k * m = pm at *
      generalize p10 k * x = px at *
      generalize p10 k * y = py at *
      omega
def dnL (a b : List Int) : List Int := (dnK a b a.length).1
theorem dnL_val {a b : List Int} (ha : Dg a) (hb : Dg b) (hl : b.length ≤ a.length) (h : val b ≤ val a) : val (dnL a b) = val a - val b := by
  have e := dnK_val a b a.length
  rw [List.take_of_length_le (Nat.le_refl _), List.take_of_length_le hl] at e
  have hd := val_bd _ (dnK_dg ha hb a.length)
  rw [dnK_len] at hd
  have hm := dnK_m a b a.length
  unfold dnL
  rcases hm with hm | hm <;> rw [hm] at e <;> omega
theorem dnL_dg {a b : List Int} (ha : Dg a) (hb : Dg b) : Dg (dnL a b) := dnK_dg ha hb _
theorem dnL_len (a b : List Int) : (dnL a b).length = a.length := dnK_len _ _ _

/-! The row of a number, without noughts at its end. -/
def dig (n : Nat) : List Int := if h : n = 0 then [] else ((n % 10000 : Nat) : Int) :: dig (n / 10000)
termination_by n
decreasing_by exact Nat.div_lt_self (by omega) (by omega)
theorem dig_zero : dig 0 = [] := by rw [dig]; rfl
theorem dig_pos {n : Nat} (h : ¬ n = 0) : dig n = ((n % 10000 : Nat) : Int) :: dig (n / 10000) := by rw [dig, dif_neg h]
theorem dig_dg (n : Nat) : Dg (dig n) := by
  induction n using Nat.strongRecOn with
  | ind n ih =>
    by_cases h : n = 0
    · subst h; rw [dig_zero]; exact dg_nil
    · rw [dig_pos h]
      intro d hd
      rcases List.mem_cons.1 hd with rfl | hd
      · omega
      · exact ih _ (by omega) d hd
theorem dig_val (n : Nat) : val (dig n) = n := by
  induction n using Nat.strongRecOn with
  | ind n ih =>
    by_cases h : n = 0
    · subst h; rw [dig_zero]; rfl
    · rw [dig_pos h]
      simp only [val]
      rw [ih _ (by omega)]
      omega
/-- No nought at the end. -/
def Can (l : List Int) : Prop := ∀ h : l ≠ [], l.getLast h ≠ 0
theorem can_cons {d : Int} {l : List Int} (h : Can (d :: l)) : Can l := by
  intro hne
  have := h (by simp)
  rw [List.getLast_cons hne] at this
  exact this
theorem can_val : ∀ {l : List Int}, Dg l → Can l → l ≠ [] → 0 < val l
  | [], _, _, h => absurd rfl h
  | [d], hd, hc, _ => by
    have := hc (by simp)
    have h1 := (dg_cons hd).1
    simp only [List.getLast_singleton] at this
    simp only [val]; omega
  | d :: e :: r, hd, hc, _ => by
    have h1 := dg_cons hd
    have := can_val h1.2 (can_cons hc) (by simp)
    simp only [val] at *
    omega
theorem can_dig : ∀ {l : List Int}, Dg l → Can l → l = dig (val l).toNat
  | [], _, _ => by rw [show (val []).toNat = 0 from rfl, dig_zero]
  | d :: r, hd, hc => by
    have h1 := dg_cons hd
    have hp := can_val hd hc (by simp)
    have hb := (val_bd r h1.2).1
    have ih := can_dig h1.2 (can_cons hc)
    have e1 : (val (d :: r)).toNat % 10000 = d.toNat := by simp only [val] at *; omega
    have e2 : (val (d :: r)).toNat / 10000 = (val r).toNat := by simp only [val] at *; omega
    rw [dig_pos (by omega), e1, e2, ← ih]
    congr 1
    omega
theorem can_nil : Can [] := fun h => absurd rfl h
theorem dig_can (n : Nat) : Can (dig n) := by
  induction n using Nat.strongRecOn with
  | ind n ih =>
    by_cases h : n = 0
    · subst h; rw [dig_zero]; exact can_nil
    · rw [dig_pos h]
      intro hne
      by_cases h2 : n / 10000 = 0
      · simp only [h2, dig_zero, List.getLast_singleton]; omega
      · have hn2 : dig (n / 10000) ≠ [] := by rw [dig_pos h2]; simp
        rw [List.getLast_cons hn2]
        exact ih _ (by omega) hn2
theorem dig_nil {n : Nat} : dig n = [] ↔ n = 0 := by
  constructor
  · intro h
    have := dig_val n
    rw [h] at this
    simp only [val] at this
    omega
  · rintro rfl; exact dig_zero
/-- Of a row that has a nought at its end that nought is nothing. -/
theorem val_drop0 (l : List Int) (k : Nat) (hk : k + 1 ≤ l.length) (h : l.getD k 0 = 0) : val (l.take (k + 1)) = val (l.take k) := by
  rw [val_take, h, Int.mul_zero, Int.add_zero]
theorem can_take (l : List Int) (k : Nat) (hk : k + 1 ≤ l.length) (h : ¬ l.getD k 0 = 0) : Can (l.take (k + 1)) := by
  intro hne
  rw [List.getLast_eq_getElem]
  have e : (l.take (k + 1))[(l.take (k + 1)).length - 1]'(by have := List.length_pos_iff.2 hne; omega) = l.getD k 0 := by
    rw [List.getElem_take, List.getD_eq_getElem?_getD, List.getElem?_eq_getElem (by omega)]
    simp only [List.length_take, Nat.min_eq_left hk, Nat.add_sub_cancel]
    rfl
  rw [e]; exact h
theorem trim_dig {l : List Int} (hd : Dg l) {k : Nat} (hk : k ≤ l.length) (hv : val (l.take k) = val l) (hc : k = 0 ∨ ¬ l.getD (k - 1) 0 = 0) : l.take k = dig (val l).toNat := by
  rw [← hv]
  refine can_dig (dg_take hd k) ?_
  rcases hc with rfl | hc
  · rw [List.take_zero]; exact can_nil
  · rcases k with _ | k
    · rw [List.take_zero]; exact can_nil
    · exact can_take l k hk (by simpa using hc)

/-! The sum of two rows without noughts at their ends has none. -/
theorem last_of {l : List Int} (hc : Can l) {k : Nat} (hk : k + 1 = l.length) : ¬ l.getD k 0 = 0 := by
  have hne : l ≠ [] := by intro h; rw [h] at hk; simp at hk
  have := hc hne
  rw [List.getLast_eq_getElem] at this
  rw [List.getD_eq_getElem?_getD, List.getElem?_eq_getElem (by omega)]
  have e : k = l.length - 1 := by omega
  subst e
  exact this
theorem up_can {a b : List Int} (ha : Dg a) (hb : Dg b) (ca : Can a) (cb : Can b) : Can (upL a b) := by
  have hdone := up_done ha hb
  have hge := up_ge a b
  have hmore := fun k => up_more ha hb k
  unfold upL
  generalize upN a b = N at *
  rcases N with _ | k
  · exact can_nil
  · intro hne
    have hm := hmore k (by omega)
    have h0 := upK_m ha hb k
    have h1 := dg_getD ha k
    have h2 := dg_getD hb k
    simp only [upK] at hdone
    simp only [upK, List.getLast_concat]
    have h3 : 0 < (upK a b k).2 + a.getD k 0 + b.getD k 0 := by
      rcases hm with hm | hm | hm
      · have := last_of ca (k := k) (by omega); omega
      · have := last_of cb (k := k) (by omega); omega
      · omega
    omega
theorem up_dig (x y : Nat) : upL (dig x) (dig y) = dig (x + y) := by
  have h := can_dig (upL_dg (dig_dg x) (dig_dg y)) (up_can (dig_dg x) (dig_dg y) (dig_can x) (dig_can y))
  rw [upL_val (dig_dg x) (dig_dg y), dig_val, dig_val] at h
  rw [h]
  congr 1
/-! Order. -/
theorem can_ge {l : List Int} (hd : Dg l) (hc : Can l) (hl : 0 < l.length) : p10 (l.length - 1) ≤ val l := by
  obtain ⟨k, hk⟩ : ∃ k, k + 1 = l.length := ⟨l.length - 1, by omega⟩
  have hlast := last_of hc hk
  have hg := dg_getD hd k
  have e := val_take l k
  rw [hk, List.take_of_length_le (Nat.le_refl _)] at e
  have hb := (val_bd _ (dg_take hd k)).1
  have hp : p10 k * 1 ≤ p10 k * l.getD k 0 := Int.mul_le_mul_of_nonneg_left (by omega) (Int.le_of_lt (p10_pos k))
  rw [show l.length - 1 = k by omega]
  omega
theorem p10_mono {j k : Nat} (h : j ≤ k) : p10 j ≤ p10 k := by
  induction k with
  | zero => rw [show j = 0 by omega]; exact Int.le_refl _
  | succ k ih =>
    rcases Nat.lt_or_ge k j with h1 | h1
    · rw [show j = k + 1 by omega]; exact Int.le_refl _
    · have := ih h1
      have := p10_pos k
      show p10 j ≤ 10000 * p10 k
      omega
theorem p10_lt {j k : Nat} (h : p10 j < p10 k) : j < k := by
  rcases Nat.lt_or_ge j k with h1 | h1
  · exact h1
  · have := p10_mono h1; omega
theorem dig_len {n k : Nat} (h : (n : Int) < p10 k) : (dig n).length ≤ k := by
  rcases Nat.eq_zero_or_pos (dig n).length with h0 | h0
  · omega
  · have h1 := can_ge (dig_dg n) (dig_can n) h0
    rw [dig_val] at h1
    have := p10_lt (Int.lt_of_le_of_lt h1 h)
    omega
theorem len_lt {a b : List Int} (ha : Dg a) (hb : Dg b) (cb : Can b) (h : a.length < b.length) : val a < val b := by
  have h1 := (val_bd a ha).2
  have h2 := can_ge hb cb (by omega)
  have h3 := p10_mono (show a.length ≤ b.length - 1 by omega)
  omega
theorem val_split (l : List Int) : ∀ k, val l = val (l.take k) + p10 k * val (l.drop k) := by
  intro k
  induction k with
  | zero => simp [val, p10]
  | succ k ih =>
    rw [val_take, ih]
    rcases Nat.lt_or_ge k l.length with hk | hk
    · have e : l.drop k = l.getD k 0 :: l.drop (k + 1) := by
        rw [List.drop_eq_getElem_cons hk, List.getD_eq_getElem?_getD, List.getElem?_eq_getElem hk]; rfl
      rw [e]
      simp only [val, p10]
      rw [Int.mul_add, ← Int.mul_assoc, Int.mul_comm (p10 k) 10000]
      omega
    · rw [List.drop_eq_nil_of_le hk, List.drop_eq_nil_of_le (by omega), getD_past hk]
      simp [val]
theorem digit_lt {a b : List Int} (ha : Dg a) (hb : Dg b) {k : Nat} (hk : a.drop (k + 1) = b.drop (k + 1)) (h : a.getD k 0 < b.getD k 0) : val a < val b := by
  rw [val_split a (k + 1), val_split b (k + 1), hk, val_take, val_take]
  have h1 := val_bd _ (dg_take ha k)
  have h2 := val_bd _ (dg_take hb k)
  have h3 : p10 (a.take k).length ≤ p10 k := p10_mono (by simp; omega)
  have h4 : p10 k * (a.getD k 0 + 1) ≤ p10 k * b.getD k 0 := Int.mul_le_mul_of_nonneg_left (by omega) (Int.le_of_lt (p10_pos k))
  rw [Int.mul_add, Int.mul_one] at h4
  omega

end Go.Proofs.YtcedcfkjoppjdaaGreatDoor
