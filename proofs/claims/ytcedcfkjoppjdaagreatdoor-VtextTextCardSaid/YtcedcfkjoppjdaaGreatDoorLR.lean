/- Plain: read again, a value's text is that value. -/
import Derived.Test.YtcedcfkjoppjdaaGreatDoorLQ
import Derived.Test.YtcedcfkjoppjdaaGreatDoorLN
namespace Go.Proofs.YtcedcfkjoppjdaaGreatDoor
open Go.Lib
set_option linter.unusedVariables false
set_option linter.unusedSimpArgs false
set_option maxRecDepth 100000

theorem unq_esc : ∀ l : List UInt8, unqL (escL l) = l := by
  intro l
  induction l with
  | nil => rfl
  | cons c l ih =>
    have e : escL (c :: l) = escB c ++ escL l := rfl
    rw [e]
    unfold escB
    by_cases h : c = 34 ∨ c = 92
    · rw [if_pos h]
      show unqL (92 :: c :: escL l) = c :: l
      rw [unq_two rfl, ih]
    · rw [if_neg h]
      show unqL (c :: escL l) = c :: l
      rw [unq_one (fun k => h (Or.inr k.1)), ih]
theorem trim_last (l : List UInt8) : Lib.trimSuffix (l ++ [34]) [34] = l := by
  unfold Lib.trimSuffix Lib.hasSuffix
  have e : ([34] : List UInt8).isSuffixOf (l ++ [34]) = true := by
    rw [List.isSuffixOf_iff_suffix]; exact List.suffix_append _ _
  rw [if_pos e]
  simp
theorem rest_all (u : Nat) : (restL u).all dg8 = true := by
  unfold restL dgt
  simp only [List.all_cons, List.all_nil, Bool.and_true, Bool.and_eq_true]
  exact ⟨dig_ok (by omega), dig_ok (by omega), dig_ok (by omega), dig_ok (by omega)⟩
theorem rest_val (a u : Nat) : vL a (restL u) = a * 10000 + u % 10000 := by
  unfold restL dgt
  simp only [vL_cons, vL_nil, dig_nat (show u % 10000 / 1000 < 10 by omega), dig_nat (show u % 1000 / 100 < 10 by omega), dig_nat (show u % 100 / 10 < 10 by omega), dig_nat (show u % 10 < 10 by omega)]
  omega
/-- What is cut off behind is noughts. -/
theorem trim_three (b c d : UInt8) : ∃ n, n ≤ 3 ∧ (Lib.trimRightB [b, c, d] 48).length = 3 - n ∧ Lib.trimRightB [b, c, d] 48 ++ Lib.repeatL [48] n = [b, c, d] := by
  unfold Lib.trimRightB
  by_cases hd : d = 48
  · subst hd
    by_cases hc : c = 48
    · subst hc
      by_cases hb : b = 48
      · subst hb; exact ⟨3, by omega, rfl, rfl⟩
      · have k : (b == 48) = false := by simpa using hb
        refine ⟨2, by omega, ?_, ?_⟩ <;> simp [List.dropWhile, k, Lib.repeatL]
    · have k : (c == 48) = false := by simpa using hc
      refine ⟨1, by omega, ?_, ?_⟩ <;> simp [List.dropWhile, k, Lib.repeatL]
  · have k : (d == 48) = false := by simpa using hd
    refine ⟨0, by omega, ?_, ?_⟩ <;> simp [List.dropWhile, k, Lib.repeatL]
/-- What stands behind the point, and how many noughts are gone. -/
theorem frac (u : Nat) : ∃ rs, decU u = Lib.decDigits (u / 10000) ++ 46 :: rs ∧ digsL rs = true ∧ rs.length ≤ 4 ∧ rs ++ Lib.repeatL [48] (4 - rs.length) = restL u := by
  obtain ⟨n, hn, hl, he⟩ := trim_three (dgt (u % 1000 / 100)) (dgt (u % 100 / 10)) (dgt (u % 10))
  refine ⟨dgt (u % 10000 / 1000) :: Lib.trimRightB [dgt (u % 1000 / 100), dgt (u % 100 / 10), dgt (u % 10)] 48, ?_, ?_, ?_, ?_⟩
  · unfold decU restL
    simp
  · have ha := rest_all u
    unfold restL at ha
    rw [List.all_cons, Bool.and_eq_true, ← he, List.all_append, Bool.and_eq_true] at ha
    unfold digsL
    rw [List.all_cons, ha.1, ha.2.1]
    rfl
  · rw [List.length_cons, hl]; omega
  · rw [List.length_cons, hl, show 4 - (3 - n + 1) = n by omega, List.cons_append, he]
    rfl
theorem cons_of {l : List UInt8} (h : l ≠ []) : ∃ c r, l = c :: r := by
  cases l with
  | nil => exact absurd rfl h
  | cons c r => exact ⟨c, r, rfl⟩
theorem dg_ne {c : UInt8} (h : 48 ≤ c.toNat ∧ c.toNat ≤ 57) : c ≠ 45 ∧ c ≠ 46 ∧ c ≠ 110 ∧ c ≠ 116 ∧ c ≠ 102 ∧ c ≠ 34 ∧ c ≠ 35 := by
  refine ⟨?_, ?_, ?_, ?_, ?_, ?_, ?_⟩ <;> (rintro rfl; revert h; decide)
/-- A number's text without its sign. -/
theorem readN_plain {l wh rs : List UInt8} {pt : Bool} {c : UInt8} {r : List UInt8} (e : l = c :: r) (hc : c ≠ 45) (h : Lib.cut l [46] = (wh, rs, pt)) : readN l = readC [] wh rs pt := by
  subst e
  rw [readN, if_neg hc, h]
theorem readN_neg {l wh rs : List UInt8} {pt : Bool} (h : Lib.cut l [46] = (wh, rs, pt)) : readN (45 :: l) = readC [45] wh rs pt := by
  rw [readN, if_pos rfl, h]
theorem readC_int (S wh : List UInt8) (h : wholeL wh = true) : readC S wh [] false = numV 1 (S ++ wh) := by
  unfold readC; rw [if_neg (by rw [h]; decide), if_pos rfl]
theorem readC_dec (S wh rs : List UInt8) (h : wholeL wh = true) (hr : digsL rs = true) (hl : rs.length ≤ 4) : readC S wh rs true = numV 2 (S ++ wh ++ rs ++ Lib.repeatL [48] (4 - rs.length)) := by
  unfold readC
  rw [if_neg (by rw [h]; decide), if_neg (by decide), if_neg (by rw [hr]; simp; omega)]
theorem itoa_form (n : Int) : (∃ u : Nat, n = u ∧ Lib.itoa n = Lib.decDigits u) ∨ ∃ u : Nat, 1 ≤ u ∧ n = -(u : Int) ∧ Lib.itoa n = 45 :: Lib.decDigits u := by
  unfold Lib.itoa
  by_cases h : n < 0
  · right; rw [if_pos h]; exact ⟨n.natAbs, by omega, by omega, rfl⟩
  · left; rw [if_neg h]; exact ⟨n.toNat, by omega, rfl⟩
theorem dec_form (n : Int) : (∃ u : Nat, n = u ∧ decL n = decU u) ∨ ∃ u : Nat, 1 ≤ u ∧ n = -(u : Int) ∧ decL n = 45 :: decU u := by
  unfold decL
  by_cases h : n < 0
  · right; rw [if_pos h]; exact ⟨n.natAbs, by omega, by omega, rfl⟩
  · left; rw [if_neg h]; exact ⟨n.natAbs, by omega, rfl⟩
theorem readN_itoa (n : Int) (hn : I64 n) : readN (Lib.itoa n) = (1, n, 0) := by
  unfold I64 at hn
  rcases itoa_form n with ⟨u, rfl, e⟩ | ⟨u, h1, rfl, e⟩
  · obtain ⟨c, r, hc⟩ := cons_of (dd_ne u)
    rw [e, readN_plain hc (dg_ne (first_not (dd_all u) hc)).1 (cut_none (dd_all u)), readC_int _ _ (dd_whole u), List.nil_append, num_pos 1 _ (dd_ne u) (dd_all u) (by rw [dd_val]; omega), dd_val]
  · rw [e, readN_neg (cut_none (dd_all u)), readC_int _ _ (dd_whole u), List.singleton_append, num_neg 1 _ (dd_ne u) (dd_all u) (by rw [dd_val]; omega), dd_val]
theorem readN_dec (n : Int) (hn : I64 n) : readN (decL n) = (2, n, 0) := by
  unfold I64 at hn
  have key : ∀ u : Nat, ∃ rs, decU u = Lib.decDigits (u / 10000) ++ 46 :: rs ∧ digsL rs = true ∧ rs.length ≤ 4 ∧ Lib.decDigits (u / 10000) ++ rs ++ Lib.repeatL [48] (4 - rs.length) = Lib.decDigits (u / 10000) ++ restL u := fun u => by
    obtain ⟨rs, h1, h2, h3, h4⟩ := frac u
    exact ⟨rs, h1, h2, h3, by rw [List.append_assoc, h4]⟩
  have val : ∀ u : Nat, vL 0 (Lib.decDigits (u / 10000) ++ restL u) = u := fun u => by
    rw [vL_app, dd_val, rest_val]; omega
  have all : ∀ u : Nat, (Lib.decDigits (u / 10000) ++ restL u).all dg8 = true := fun u => by
    rw [List.all_append, dd_all, rest_all]; rfl
  have ne : ∀ u : Nat, Lib.decDigits (u / 10000) ++ restL u ≠ [] := fun u => by
    simp [dd_ne]
  rcases dec_form n with ⟨u, rfl, e⟩ | ⟨u, h1, rfl, e⟩
  · obtain ⟨rs, k1, k2, k3, k4⟩ := key u
    obtain ⟨c, r, hc⟩ := cons_of (dd_ne (u / 10000))
    have hc' : decU u = c :: (r ++ 46 :: rs) := by rw [k1, hc]; rfl
    have hcut : Lib.cut (decU u) [46] = (Lib.decDigits (u / 10000), rs, true) := by rw [k1]; exact cut_dot _ _ (dd_all _)
    rw [e, readN_plain hc' (dg_ne (first_not (dd_all _) hc)).1 hcut, readC_dec _ _ _ (dd_whole _) k2 k3, List.nil_append, k4, num_pos 2 _ (ne u) (all u) (by rw [val]; omega), val]
  · obtain ⟨rs, k1, k2, k3, k4⟩ := key u
    have e2 : ([45] ++ Lib.decDigits (u / 10000) ++ rs ++ Lib.repeatL [48] (4 - rs.length) : List UInt8) = 45 :: (Lib.decDigits (u / 10000) ++ restL u) := by
      rw [← k4]; simp
    have hcut : Lib.cut (decU u) [46] = (Lib.decDigits (u / 10000), rs, true) := by rw [k1]; exact cut_dot _ _ (dd_all _)
    rw [e, readN_neg hcut, readC_dec _ _ _ (dd_whole _) k2 k3, e2, num_neg 2 _ (ne u) (all u) (by rw [val]; omega), val]
/-- What begins a number. -/
theorem readL_num {l : List UInt8} {c : UInt8} {r : List UInt8} (e : l = c :: r) (h : c = 45 ∨ dg8 c = true) : readL l = ⟨(readN l).1, (readN l).2.1, (readN l).2.2, []⟩ := by
  subst e
  have k : c ≠ 110 ∧ c ≠ 116 ∧ c ≠ 102 ∧ c ≠ 34 ∧ c ≠ 35 := by
    rcases h with rfl | h
    · decide
    · have := dg_ne (c := c) (by unfold dg8 at h; simpa using h)
      exact this.2.2
  rw [readL, if_neg k.1, if_neg k.2.1, if_neg k.2.2.1, if_neg k.2.2.2.1, if_neg k.2.2.2.2, if_pos h]
theorem itoa_begin (n : Int) : ∃ c r, Lib.itoa n = c :: r ∧ (c = 45 ∨ dg8 c = true) := by
  rcases itoa_form n with ⟨u, rfl, e⟩ | ⟨u, h1, rfl, e⟩
  · obtain ⟨c, r, hc⟩ := cons_of (dd_ne u)
    refine ⟨c, r, by rw [e, hc], Or.inr ?_⟩
    have := dd_all u
    rw [hc, List.all_cons, Bool.and_eq_true] at this
    exact this.1
  · exact ⟨45, _, e, Or.inl rfl⟩
theorem dec_begin (n : Int) : ∃ c r, decL n = c :: r ∧ (c = 45 ∨ dg8 c = true) := by
  rcases dec_form n with ⟨u, rfl, e⟩ | ⟨u, h1, rfl, e⟩
  · obtain ⟨c, r, hc⟩ := cons_of (dd_ne (u / 10000))
    obtain ⟨rs, k1, _⟩ := frac u
    refine ⟨c, r ++ 46 :: rs, by rw [e, k1, hc]; rfl, Or.inr ?_⟩
    have := dd_all (u / 10000)
    rw [hc, List.all_cons, Bool.and_eq_true] at this
    exact this.1
  · exact ⟨45, _, e, Or.inl rfl⟩
theorem bool_no : readL (Lib.formatBool ((0 : Int) == 1)) = ⟨4, 0, 0, []⟩ := by kernel_rfl
theorem bool_yes : readL (Lib.formatBool ((1 : Int) == 1)) = ⟨4, 1, 0, []⟩ := by kernel_rfl
/-- Read again, the text of a value that may be is that value. -/
theorem read_back (k n : Int) (s : ByteArray) (hm : mayB k n s = true) (hn : I64 n) : readL (textL k n s) = ⟨k, n, 0, s.data.toList⟩ := by
  have emp : s.toList.isEmpty = true → s.data.toList = [] := fun h => by
    rw [ByteArray.toList_eq] at h; simpa using h
  unfold textL
  rw [if_neg (by rw [hm]; decide)]
  unfold mayB at hm
  by_cases h1 : k = 1
  · subst h1
    rw [if_neg (by decide), if_pos (Or.inl rfl)] at hm
    obtain ⟨c, r, e, hc⟩ := itoa_begin n
    rw [if_pos rfl, readL_num e hc, readN_itoa n hn, emp hm]
  rw [if_neg h1]
  by_cases h2 : k = 2
  · subst h2
    rw [if_neg (by decide), if_pos (Or.inr rfl)] at hm
    obtain ⟨c, r, e, hc⟩ := dec_begin n
    rw [if_pos rfl, readL_num e hc, readN_dec n hn, emp hm]
  rw [if_neg h2]
  by_cases h3 : k = 3
  · subst h3
    rw [if_neg (by decide), if_neg (by decide), if_pos rfl, Bool.and_eq_true] at hm
    have hz : n = 0 := by simpa using hm.1
    subst hz
    rw [if_pos rfl]
    unfold quoteL
    rw [readL, if_neg (by decide), if_neg (by decide), if_neg (by decide), if_pos rfl, trim_last, unq_esc]
  rw [if_neg h3]
  by_cases h4 : k = 4
  · subst h4
    rw [if_neg (by decide), if_neg (by decide), if_neg (by decide), if_pos rfl, Bool.and_eq_true] at hm
    rw [if_pos rfl, emp hm.2]
    have hz : n = 0 ∨ n = 1 := by simpa using hm.1
    rcases hz with rfl | rfl
    · exact bool_no
    · exact bool_yes
  rw [if_neg h4]
  by_cases h5 : k = 5
  · subst h5
    rw [if_neg (by decide), if_neg (by decide), if_neg (by decide), if_neg (by decide), if_pos rfl, Bool.and_eq_true] at hm
    have hz : n = 0 := by simpa using hm.1
    subst hz
    rw [if_pos rfl, readL, if_neg (by decide), if_neg (by decide), if_neg (by decide), if_neg (by decide), if_pos rfl]
  rw [if_neg h5]
  by_cases h0 : k = 0
  · subst h0
    rw [if_pos rfl, Bool.and_eq_true] at hm
    have hz : n = 0 := by simpa using hm.1
    subst hz
    rw [emp hm.2]
    rfl
  · rw [if_neg h0, if_neg (by rintro (h | h); exact h1 h; exact h2 h), if_neg h3, if_neg h4, if_neg h5] at hm
    cases hm
/-- Two values that may be have one text where they are one. -/
theorem text_apart {k n k' n' : Int} {s s' : ByteArray} (hm : mayB k n s = true) (hn : I64 n) (hm' : mayB k' n' s' = true) (hn' : I64 n') (h : textL k n s = textL k' n' s') : k = k' ∧ n = n' ∧ s = s' := by
  have e := (read_back k n s hm hn).symm.trans ((congrArg readL h).trans (read_back k' n' s' hm' hn'))
  have e1 := congrArg Rd3.k e
  have e2 := congrArg Rd3.n e
  have e3 := congrArg Rd3.s e
  refine ⟨e1, e2, ?_⟩
  obtain ⟨⟨a⟩⟩ := s
  obtain ⟨⟨b⟩⟩ := s'
  have : a = b := e3
  rw [this]
end Go.Proofs.YtcedcfkjoppjdaaGreatDoor
