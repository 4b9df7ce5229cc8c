/- Layer vtext: VtextOnly. -/
import Derived.Test.YtmoomdikgfeifaaDoorLM
namespace Go.Proofs.YtmoomdikgfeifaaDoor
open Go.ChangeShapes Go.WideShapes Go.ChangeAt Go.RowKit Go.Lib
set_option linter.unusedVariables false
set_option maxRecDepth 100000

theorem index_two {a b : UInt8} {r : List UInt8} (ha : a ≠ 46) (hb : b ≠ 46) : Lib.index (a :: b :: r) [46] = -1 ∨ 2 ≤ Lib.index (a :: b :: r) [46] := by
  have g := Lib.index_ge r [46]
  have ea : ((46 : UInt8) == a) = false := by simpa using fun e => ha e.symm
  have eb : ((46 : UInt8) == b) = false := by simpa using fun e => hb e.symm
  have e1 : Lib.index (b :: r) [46] = if Lib.index r [46] == -1 then -1 else Lib.index r [46] + 1 := by
    rw [Lib.index]; simp [List.isPrefixOf, eb]
  have e2 : Lib.index (a :: b :: r) [46] = if Lib.index (b :: r) [46] == -1 then -1 else Lib.index (b :: r) [46] + 1 := by
    rw [Lib.index]; simp [List.isPrefixOf, ea]
  rw [e2, e1]
  by_cases h : Lib.index r [46] = -1
  · left; simp [h]
  · right
    have h2 : (Lib.index r [46] == -1) = false := by simpa using h
    have h3 : (Lib.index r [46] + 1 == -1) = false := by simp; omega
    simp only [h2, Bool.false_eq_true, if_false, h3]
    omega
theorem cut_two {a b : UInt8} {r : List UInt8} (ha : a ≠ 46) (hb : b ≠ 46) : ∃ t, (Lib.cut (a :: b :: r) [46]).1 = a :: b :: t := by
  unfold Lib.cut
  rcases index_two (r := r) ha hb with h | h
  · rw [h]; exact ⟨r, rfl⟩
  · rw [if_pos (by omega)]
    obtain ⟨n, hn⟩ : ∃ n : Nat, (Lib.index (a :: b :: r) [46]).toNat = n + 2 := ⟨(Lib.index (a :: b :: r) [46]).toNat - 2, by omega⟩
    rw [hn]
    exact ⟨r.take n, rfl⟩
theorem whole_nought {c : UInt8} {t : List UInt8} : wholeL (48 :: c :: t) = false := by
  unfold wholeL
  simp
/-- With a nought ahead of what is no point, it is none. -/
theorem read_nought {c : UInt8} {r : List UInt8} (hc : c ≠ 46) : (readL (48 :: c :: r)).e = 4 := by
  obtain ⟨t, ht⟩ := cut_two (a := 48) (b := c) (r := r) (by decide) hc
  have e1 : readL (48 :: c :: r) = ⟨(readN (48 :: c :: r)).1, (readN (48 :: c :: r)).2.1, (readN (48 :: c :: r)).2.2, []⟩ := by
    rw [readL, if_neg (by decide), if_neg (by decide), if_neg (by decide), if_neg (by decide), if_neg (by decide), if_pos (by decide)]
  have e2 : readN (48 :: c :: r) = readC [] (Lib.cut (48 :: c :: r) [46]).1 (Lib.cut (48 :: c :: r) [46]).2.1 (Lib.cut (48 :: c :: r) [46]).2.2 := by
    rw [readN, if_neg (by decide)]
  rw [e1]
  show (readN (48 :: c :: r)).2.2 = 4
  rw [e2, ht, readC, if_pos whole_nought]
theorem parse_e {l : List UInt8} (h : (readL l).e ≠ 0) : (parseL l).e ≠ 0 := by
  unfold parseL
  split
  · decide
  · exact h
theorem parse_bad {l : List UInt8} (h : (parseL l).e ≠ 0) : parseL l = ⟨0, 0, (parseL l).e, []⟩ := by
  revert h
  unfold parseL
  split
  · intro _; rfl
  split
  · split
    · next h0 _ => intro h; exact absurd h0 h
    · intro _; rfl
  · intro _; rfl
theorem parse_good {l : List UInt8} (h : (parseL l).e = 0) : (readL l).e = 0 ∧ parseL l = readL l ∧ textL (parseL l).k (parseL l).n (st (parseL l).s) = l := by
  revert h
  unfold parseL
  split
  · intro h; cases h
  split
  · next h0 =>
    split
    · next ht => exact fun _ => ⟨h0, rfl, ht⟩
    · intro h; cases h
  · next h0 => intro h; exact absurd h h0
theorem blank_bad (l : List UInt8) : (parseL (32 :: l)).e ≠ 0 := by
  apply parse_e
  rw [readL, if_neg (by decide), if_neg (by decide), if_neg (by decide), if_neg (by decide), if_neg (by decide), if_neg (by decide)]
  decide
theorem nought_bad {l : List UInt8} (h : (parseL l).e = 0) : (parseL (48 :: l)).e ≠ 0 := by
  have h0 := (parse_good h).1
  apply parse_e
  cases l with
  | nil => rw [readL] at h0; exact absurd h0 (by decide)
  | cons c r =>
    by_cases hc : c = 46
    · subst hc
      rw [readL, if_neg (by decide), if_neg (by decide), if_neg (by decide), if_neg (by decide), if_neg (by decide), if_neg (by decide)] at h0
      exact absurd h0 (by decide)
    · rw [read_nought hc]; decide
theorem readL_may (l : List UInt8) : (0 ≤ (readL l).k ∧ (readL l).k ≤ 255) ∧ I64 (readL l).n := by
  cases l with
  | nil => rw [readL]; decide
  | cons c r =>
    rw [readL]
    have := readN_may (c :: r)
    split
    · decide
    split
    · decide
    split
    · decide
    split
    · exact ⟨⟨by show (0 : Int) ≤ 3; decide, by show (3 : Int) ≤ 255; decide⟩, by show I64 0; decide⟩
    split
    · exact ⟨⟨by show (0 : Int) ≤ 5; decide, by show (5 : Int) ≤ 255; decide⟩, by show I64 0; decide⟩
    split
    · exact this
    · decide

theorem only_long (l : List UInt8) (hl : 500 < l.length) (w : World) (he : Env w) : Calls Tryd.prog 3 #[.string (st l)] w fun e w' => e = .returned (.bool true) ∧ Old w w' := by
  have hk := known_any w he
  clear he
  go_enter Tryd.func3, Tryd.ntmps3
  go_wp2_with (first
    | (go_at_call 5; (with_reducible refine hk.mono ?_); rintro e w1 ⟨rfl, o1⟩))
  go_ret
  exact ⟨rfl, o1⟩
set_option maxHeartbeats 1600000 in
theorem only_bad (l : List UInt8) (hl : l.length ≤ 500) (h : (parseL l).e ≠ 0) (w : World) (he : Env w) : Calls Tryd.prog 3 #[.string (st l)] w fun e w' => e = .returned (.bool true) ∧ Old w w' := by
  obtain ⟨E, hE⟩ : ∃ E, E = (parseL l).e := ⟨_, rfl⟩
  have hp := fun W hW => parse_at l ⟨0, 0, E, []⟩ (by rw [hE]; exact parse_bad h) (by omega) W hW
  have hEb : (E == 0) = false := by rw [hE]; simpa using h
  have hk := fun W hW => known_any W hW
  clear h hE
  have HO := Lib.hid (Old.refl w)
  have HE := Lib.hid he
  clear he
  go_enter Tryd.func3, Tryd.ntmps3
  go_upto_region 5 with (first
    | (go_at_call 6; (with_reducible refine (hp _ HE.out).mono ?_); rintro e w1 ⟨rfl, o1⟩; replace HO := Lib.hid (HO.out.trans o1); replace HE := Lib.hid (HE.out.old o1)))
  have HB := Lib.hid (Three.new w1 (.int .u8 0) (.int .i64 0) (.string ⟨#[]⟩))
  replace HO := Lib.hid (HO.out.alloc (.cells #[.int .u8 0, .int .i64 0, .string ⟨#[]⟩] 24))
  replace HE := Lib.hid (HE.out.old ((Old.refl w1).alloc (.cells #[.int .u8 0, .int .i64 0, .string ⟨#[]⟩] 24)))
  have c0 := HB.out.c0
  have c1 := HB.out.c1
  have c2 := HB.out.c2
  go_wp2_with (first
    | (go_at_call 5; (with_reducible refine (hk _ HE.out).mono ?_); rintro e w2 ⟨rfl, o2⟩; replace HO := Lib.hid (HO.out.trans o2)))
  go_ret
  exact ⟨rfl, HO.out⟩
theorem st_app (b : UInt8) (l : List UInt8) : (⟨#[b]⟩ : ByteArray) ++ st l = st (b :: l) := app_st [b] l
set_option maxHeartbeats 3200000 in
theorem only_good (l : List UInt8) (hl : l.length ≤ 500) (h : (parseL l).e = 0) (w : World) (he : Env w) : Calls Tryd.prog 3 #[.string (st l)] w fun e w' => e = .returned (.bool true) ∧ Old w w' := by
  obtain ⟨h1, h2, h3⟩ := parse_good h
  have hm := readL_may l
  rw [← h2] at hm
  have hn1 := blank_bad l
  have hn2 := nought_bad h
  obtain ⟨K, N, S, hT⟩ : ∃ K N S, parseL l = ⟨K, N, 0, S⟩ := ⟨(parseL l).k, (parseL l).n, (parseL l).s, by rw [← h]⟩
  have hp := fun W hW => parse_at l _ hT (by omega) W hW
  rw [hT] at h3 hm
  have hx := fun W hW => text_at K N (st S) l h3 hm.1 hm.2 W hW
  obtain ⟨E1, hE1⟩ : ∃ E, E = (parseL (32 :: l)).e := ⟨_, rfl⟩
  obtain ⟨E2, hE2⟩ : ∃ E, E = (parseL (48 :: l)).e := ⟨_, rfl⟩
  have q1 : ∀ W, Env W → Calls Tryd.prog 6 #[.string (⟨#[32]⟩ ++ st l)] W fun e w' => e = rv 0 0 E1 ⟨#[]⟩ ∧ Old W w' := fun W hW => by
    rw [st_app]
    exact parse_at (32 :: l) ⟨0, 0, E1, []⟩ (by rw [hE1]; exact parse_bad hn1) (by simp only [List.length_cons]; omega) W hW
  have q2 : ∀ W, Env W → Calls Tryd.prog 6 #[.string (⟨#[48]⟩ ++ st l)] W fun e w' => e = rv 0 0 E2 ⟨#[]⟩ ∧ Old W w' := fun W hW => by
    rw [st_app]
    exact parse_at (48 :: l) ⟨0, 0, E2, []⟩ (by rw [hE2]; exact parse_bad hn2) (by simp only [List.length_cons]; omega) W hW
  have b1 : (E1 != 0) = true := by rw [hE1]; simpa using hn1
  have b2 : (E2 != 0) = true := by rw [hE2]; simpa using hn2
  have hk := fun W hW => known_any W hW
  have hz : (st l).size = l.length := rfl
  clear h h1 h2 h3 hm hn1 hn2 hT hE1 hE2 hz
  have HO := Lib.hid (Old.refl w)
  have HE := Lib.hid he
  clear he
  go_enter Tryd.func3, Tryd.ntmps3
  go_upto_region 6 with (first
    | (go_at_call 6; (with_reducible refine (hp _ HE.out).mono ?_); rintro e w1 ⟨rfl, o1⟩; replace HO := Lib.hid (HO.out.trans o1); replace HE := Lib.hid (HE.out.old o1)))
  have HB := Lib.hid (Three.new w1 (.int .u8 K) (.int .i64 N) (.string (st S)))
  replace HO := Lib.hid (HO.out.alloc (.cells #[.int .u8 K, .int .i64 N, .string (st S)] 24))
  replace HE := Lib.hid (HE.out.old ((Old.refl w1).alloc (.cells #[.int .u8 K, .int .i64 N, .string (st S)] 24)))
  go_upto_region 7 with (first
    | (go_at_call 6; (with_reducible refine (q1 _ HE.out).mono ?_); rintro e w2 ⟨rfl, o2⟩; replace HO := Lib.hid (HO.out.trans o2); replace HE := Lib.hid (HE.out.old o2); replace HB := Lib.hid (HB.out.old o2)))
  replace HO := Lib.hid (HO.out.alloc (.cells #[.int .u8 0, .int .i64 0, .string ⟨#[]⟩] 24))
  replace HB := Lib.hid (HB.out.alloc (.cells #[.int .u8 0, .int .i64 0, .string ⟨#[]⟩] 24))
  replace HE := Lib.hid (HE.out.old ((Old.refl w2).alloc (.cells #[.int .u8 0, .int .i64 0, .string ⟨#[]⟩] 24)))
  go_upto_region 8 with (first
    | (go_at_call 6; (with_reducible refine (q2 _ HE.out).mono ?_); rintro e w3 ⟨rfl, o3⟩; replace HO := Lib.hid (HO.out.trans o3); replace HE := Lib.hid (HE.out.old o3); replace HB := Lib.hid (HB.out.old o3)))
  replace HO := Lib.hid (HO.out.alloc (.cells #[.int .u8 0, .int .i64 0, .string ⟨#[]⟩] 24))
  replace HB := Lib.hid (HB.out.alloc (.cells #[.int .u8 0, .int .i64 0, .string ⟨#[]⟩] 24))
  replace HE := Lib.hid (HE.out.old ((Old.refl w3).alloc (.cells #[.int .u8 0, .int .i64 0, .string ⟨#[]⟩] 24)))
  have c0 := HB.out.c0
  have c1 := HB.out.c1
  have c2 := HB.out.c2
  go_wp2_with (first
    | (go_at_call 7; (with_reducible refine (hx _ HE.out).mono ?_); rintro e w4 ⟨rfl, o4⟩; replace HO := Lib.hid (HO.out.trans o4); replace HE := Lib.hid (HE.out.old o4))
    | (go_at_call 5; (with_reducible refine (hk _ HE.out).mono ?_); rintro e w5 ⟨rfl, o5⟩; replace HO := Lib.hid (HO.out.trans o5)))
  all_goals first
    | exact absurd b1 (by decide)
    | exact absurd b2 (by decide)
    | (go_ret; exact ⟨rfl, HO.out⟩)

theorem only_any' (s : ByteArray) (w : World) (he : Env w) : Calls Tryd.prog 3 #[.string s] w fun e w' => e = .returned (.bool true) ∧ Old w w' := by
  have hs : s = st s.data.toList := rfl
  rw [hs]
  by_cases h : s.data.toList.length ≤ 500
  · by_cases h0 : (parseL s.data.toList).e = 0
    · exact only_good _ h h0 w he
    · exact only_bad _ h h0 w he
  · exact only_long _ (by omega) w he
end Go.Proofs.YtmoomdikgfeifaaDoor
