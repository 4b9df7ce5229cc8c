/- The document's own answers of layer value: names, which values may be, their order. -/
import Derived.Test.YtcedcfkjoppjdaaGreatDoorVP
namespace Go.Proofs.YtcedcfkjoppjdaaGreatDoor
open Go.ChangeShapes Go.WideShapes Go.ChangeAt Go.RowKit
set_option linter.unusedVariables false

theorem rname_no (s : ByteArray) (w : World) (n : Nat) (hn : s.size = n) (h : n = 0 ∨ 12 < n) : Calls Tryz.prog 18 #[.string s] w fun e w' => e = .returned (.bool false) ∧ Old w w' := by
  rcases h with h | h
  · subst h
    go_enter Tryz.func18, Tryz.ntmps18
    go_wp2
    go_ret
    exact ⟨rfl, Old.refl w⟩
  · go_enter Tryz.func18, Tryz.ntmps18
    go_wp2
    all_goals (go_ret; exact ⟨rfl, Old.refl w⟩)

/-- Of the first k bytes each passes: the first one is a small letter. -/
def fs1 (s : ByteArray) (k : Nat) : Bool := (decide (k = 0) || sl (bt s 0)) && fst nb s k
theorem fs1_first {s : ByteArray} (h : sl (bt s 0) = true) : fs1 s 1 = true := by
  unfold fs1
  rw [h, fst, fst]
  unfold nb
  rw [h]
  rfl
theorem fs1_next {s : ByteArray} {k : Nat} (h : fs1 s k = true) (hk : ¬ k = 0) (hb : nb (bt s k) = true) : fs1 s (k + 1) = true := by
  unfold fs1 at *
  rw [decide_eq_false hk, Bool.false_or, Bool.and_eq_true] at h
  rw [h.1, fst, h.2, hb, Bool.or_true]
  rfl
theorem sl_yes {b : Int} (h : 97 ≤ b) (k : b ≤ 122) : sl b = true := by unfold sl; rw [decide_eq_true h, decide_eq_true k]; rfl
theorem sl_no {b : Int} (h : b < 97 ∨ 122 < b) : sl b = false := by
  unfold sl
  rcases h with h | h
  · rw [decide_eq_false (by omega)]; rfl
  · rw [decide_eq_false (p := b ≤ 122) (by omega), Bool.and_false]
theorem nb_yes {b : Int} (h : (97 ≤ b ∧ b ≤ 122) ∨ (48 ≤ b ∧ b ≤ 57)) : nb b = true := by
  unfold nb
  rcases h with h | h
  · rw [sl_yes h.1 h.2]; rfl
  · unfold dg; rw [decide_eq_true h.1, decide_eq_true h.2, Bool.and_true, Bool.or_true]
theorem nb_no {b : Int} (h : b < 97 ∨ 122 < b) (k : b < 48 ∨ 57 < b) : nb b = false := by
  unfold nb
  rw [sl_no h]
  unfold dg
  rcases k with k | k
  · rw [decide_eq_false (by omega)]; rfl
  · rw [decide_eq_false (p := b ≤ 57) (by omega), Bool.and_false]; rfl

theorem rname_loop (s : ByteArray) (w : World) (n : Nat) (hn : s.size = n) (hz : 0 < n) (hs : n ≤ 12) : Calls Tryz.prog 18 #[.string s] w fun e w' => e = .returned (.bool (sl (bt s 0) && fst nb s n)) ∧ Old w w' := by
  have hg := Lib.hid (fun j (h : j < n) => bt_get s j (by rw [hn]; exact h))
  go_enter Tryz.func18, Tryz.ntmps18
  go_wp2
  go_loopw [3] (fun i wr => ∃ k : Nat, k ≤ n ∧ i = .int .i64 (k : Int) ∧ Hid (fs1 s k = true) ∧ wr = w) (fun i _ => (n - intOf i).toNat)
  case atStart => exact ⟨0, Nat.zero_le _, rfl, Lib.hid rfl, rfl⟩
  case round =>
    obtain ⟨k, hk, rfl, HE, rfl⟩ := hrel
    by_cases hkn : k < n
    · have hb := hg.out k hkn
      obtain ⟨b, hbb⟩ : ∃ b, b = bt s k := ⟨_, rfl⟩
      rw [← hbb] at hb
      have HX := Lib.hid hbb
      clear hbb
      by_cases hk0 : k = 0
      · subst hk0
        by_cases h1 : 97 ≤ b
        · by_cases h2 : b ≤ 122
          · go_wp2
            refine ⟨⟨1, hkn, rfl, Lib.hid ?_, ?_⟩, by simp only [intOf]; omega⟩
            · exact fs1_first (by rw [← HX.out]; exact sl_yes h1 h2)
            · first | rfl | trivial
          · go_wp2
            go_ret
            exact ⟨rb _ _ (by rw [← HX.out, sl_no (by omega)]; rfl), Old.refl _⟩
        · go_wp2
          go_ret
          exact ⟨rb _ _ (by rw [← HX.out, sl_no (by omega)]; rfl), Old.refl _⟩
      · have hk1 : ((k : Int) == 0) = false := by
          have : ¬ (k : Int) = 0 := by omega
          simpa using this
        have hc : (97 ≤ b ∧ b ≤ 122) ∨ (122 < b) ∨ (57 < b ∧ b < 97) ∨ (48 ≤ b ∧ b ≤ 57) ∨ b < 48 := by omega
        rcases hc with hc | hc | hc | hc | hc
        · have c1 := hc.1
          have c2 := hc.2
          go_wp2
          refine ⟨⟨k + 1, hkn, rfl, Lib.hid ?_, ?_⟩, by simp only [intOf]; omega⟩
          · exact fs1_next HE.out hk0 (by rw [← HX.out]; exact nb_yes (by omega))
          · first | rfl | trivial
        · have hd : (!decide (b ≤ 122)) = true := by simp; omega
          go_wp2
          go_ret
          exact ⟨rb _ _ (by rw [fst_no (j := k) (by rw [← HX.out]; exact nb_no (by omega) (by omega)) n hkn, Bool.and_false]), Old.refl _⟩
        · have c1 := hc.1
          have c2 := hc.2
          go_wp2
          go_ret
          exact ⟨rb _ _ (by rw [fst_no (j := k) (by rw [← HX.out]; exact nb_no (by omega) (by omega)) n hkn, Bool.and_false]), Old.refl _⟩
        · have c1 := hc.1
          have c2 := hc.2
          go_wp2
          refine ⟨⟨k + 1, hkn, rfl, Lib.hid ?_, ?_⟩, by simp only [intOf]; omega⟩
          · exact fs1_next HE.out hk0 (by rw [← HX.out]; exact nb_yes (by omega))
          · first | rfl | trivial
        · go_wp2
          go_ret
          exact ⟨rb _ _ (by rw [fst_no (j := k) (by rw [← HX.out]; exact nb_no (by omega) (by omega)) n hkn, Bool.and_false]), Old.refl _⟩
    · have hkn' : k = n := by omega
      subst hkn'
      go_wp2
      go_ret
      refine ⟨rb _ _ ?_, Old.refl _⟩
      have := HE.out
      unfold fs1 at this
      rw [decide_eq_false (by omega), Bool.false_or] at this
      exact this.symm

theorem rname_any (s : ByteArray) (w : World) : Calls Tryz.prog 18 #[.string s] w fun e w' => e = .returned (.bool (nameB s)) ∧ Old w w' := by
  unfold nameB
  by_cases h : 1 ≤ s.size ∧ s.size ≤ 12
  · rw [decide_eq_true h, Bool.true_and]
    exact rname_loop s w s.size rfl h.1 h.2
  · rw [decide_eq_false h]
    exact rname_no s w s.size rfl (by omega)

theorem rmay_text (n : Int) (s : ByteArray) (w : World) (N : Nat) (hN : s.size = N) (hb : (N : Int) ≤ 9223372036854775807) : Calls Tryz.prog 8 #[vl 3 n s] w fun e w' => e = .returned (.bool (n == 0 && textB s)) ∧ Old w w' := by
  have hg := Lib.hid (fun j (h : j < N) => bt_get s j (by rw [hN]; exact h))
  have HO := Lib.hid ((Old.refl w).alloc (.cells #[.int .u8 3, .int .i64 n, .string s] 23))
  go_enter Tryz.func8, Tryz.ntmps8
  go_wp2
  go_loopw [3] (fun i wr => ∃ k : Nat, k ≤ N ∧ i = .int .i64 (k : Int) ∧ Hid (fst tb s k = true) ∧ wr = w.alloc (.cells #[.int .u8 3, .int .i64 n, .string s] 23)) (fun i _ => (N - intOf i).toNat)
  case atStart => exact ⟨0, Nat.zero_le _, rfl, Lib.hid rfl, rfl⟩
  case round =>
    obtain ⟨k, hk, rfl, HE, rfl⟩ := hrel
    by_cases hkn : k < N
    · have hb := hg.out k hkn
      obtain ⟨b, hbb⟩ : ∃ b, b = bt s k := ⟨_, rfl⟩
      rw [← hbb] at hb
      have HX := Lib.hid hbb
      clear hbb
      by_cases h1 : b < 32
      · go_wp2
        have e : fst tb s N = false := fst_no (by rw [← HX.out]; unfold tb; rw [decide_eq_false (by omega)]; rfl) N hkn
        go_ret
        exact ⟨rb _ _ (by unfold textB; rw [hN, e, Bool.and_false, Bool.and_false]), HO.out⟩
      · by_cases h2 : 126 < b
        · go_wp2
          have e : fst tb s N = false := fst_no (by rw [← HX.out]; unfold tb; rw [decide_eq_false (p := b ≤ 126) (by omega), Bool.and_false]) N hkn
          go_ret
          exact ⟨rb _ _ (by unfold textB; rw [hN, e, Bool.and_false, Bool.and_false]), HO.out⟩
        · go_wp2
          refine ⟨⟨k + 1, hkn, rfl, Lib.hid ?_, ?_⟩, by simp only [intOf]; omega⟩
          · rw [fst, HE.out, ← HX.out]
            unfold tb
            rw [decide_eq_true (show 32 ≤ b by omega), decide_eq_true (show b ≤ 126 by omega)]
            rfl
          · first | rfl | trivial
    · have hkn' : k = N := by omega
      subst hkn'
      by_cases hn : n = 0
      · subst hn
        go_wp2
        go_ret
        refine ⟨rb _ _ ?_, HO.out⟩
        unfold textB
        rw [hN, HE.out, Bool.and_true]
        by_cases h : k ≤ 200
        · rw [decide_eq_true h, decide_eq_true (by omega)]; rfl
        · rw [decide_eq_false h, decide_eq_false (by omega)]; rfl
      · have e : (n == 0) = false := by simpa using hn
        go_wp2
        go_ret
        exact ⟨rb _ _ (by rw [e]; rfl), HO.out⟩

theorem rmay_any (k n : Int) (s : ByteArray) (w : World) (hs : s.size ≤ maxLen) : Calls Tryz.prog 8 #[vl k n s] w fun e w' => e = .returned (.bool (mayB k n s)) ∧ Old w w' := by
  unfold mayB
  by_cases h0 : k = 0
  · subst h0
    rw [if_pos rfl]
    by_cases hn : n = 0
    · subst hn
      go_enter Tryz.func8, Tryz.ntmps8
      go_wp2
      go_ret
      exact ⟨rfl, (Old.refl w).alloc _⟩
    · have e : (n == 0) = false := by simpa using hn
      rw [e]
      go_enter Tryz.func8, Tryz.ntmps8
      go_wp2
      go_ret
      exact ⟨rfl, (Old.refl w).alloc _⟩
  rw [if_neg h0]
  by_cases h1 : k = 1 ∨ k = 2
  · rw [if_pos h1]
    rcases h1 with rfl | rfl
    · clear h0
      go_enter Tryz.func8, Tryz.ntmps8
      go_wp2
      go_ret
      exact ⟨rfl, (Old.refl w).alloc _⟩
    · clear h0
      go_enter Tryz.func8, Tryz.ntmps8
      go_wp2
      go_ret
      exact ⟨rfl, (Old.refl w).alloc _⟩
  rw [if_neg h1]
  by_cases h3 : k = 3
  · subst h3
    rw [if_pos rfl]
    exact rmay_text n s w s.size rfl (by unfold maxLen at hs; omega)
  rw [if_neg h3]
  by_cases h4 : k = 4
  · subst h4
    rw [if_pos rfl]
    clear h0 h1 h3
    rw [Bool.and_comm]
    by_cases hE : s.toList.isEmpty = true
    · have hE' : s.toList = [] := List.isEmpty_iff.1 hE
      rw [hE, Bool.true_and]
      clear hE
      by_cases hn : n = 0
      · subst hn
        go_enter Tryz.func8, Tryz.ntmps8
        go_wp2
        go_ret
        exact ⟨rfl, (Old.refl w).alloc _⟩
      · have e : (n == 0) = false := by simpa using hn
        rw [e, Bool.false_or]
        go_enter Tryz.func8, Tryz.ntmps8
        go_wp2
        go_ret
        exact ⟨rb _ _ (by first | rfl | (rw [e]; rfl)), (Old.refl w).alloc _⟩
    · have hE' : s.toList.isEmpty = false := by simpa using hE
      have hE2 : ¬ s.toList = [] := fun h => hE (List.isEmpty_iff.2 h)
      rw [hE', Bool.false_and]
      clear hE
      go_enter Tryz.func8, Tryz.ntmps8
      go_wp2
      go_ret
      exact ⟨rb _ _ (by first | rfl | exact hE'), (Old.refl w).alloc _⟩
  rw [if_neg h4]
  by_cases h5 : k = 5
  · subst h5
    rw [if_pos rfl]
    clear h0 h1 h3 h4
    by_cases hn : n = 0
    · subst hn
      go_enter Tryz.func8, Tryz.ntmps8
      go_wp2_with (first
        | (go_at_call 18; (with_reducible refine (rname_any _ _).mono ?_); rintro e w1 ⟨rfl, ho⟩))
      go_ret
      exact ⟨rfl, ((Old.refl w).alloc _).trans ho⟩
    · have e : (n == 0) = false := by simpa using hn
      rw [e]
      go_enter Tryz.func8, Tryz.ntmps8
      go_wp2
      go_ret
      exact ⟨rfl, (Old.refl w).alloc _⟩
  rw [if_neg h5]
  have h2 : ¬ k = 2 := fun h => h1 (Or.inr h)
  have h1' : ¬ k = 1 := fun h => h1 (Or.inl h)
  clear h1
  go_enter Tryz.func8, Tryz.ntmps8
  go_wp2
  go_ret
  exact ⟨rfl, (Old.refl w).alloc _⟩

end Go.Proofs.YtcedcfkjoppjdaaGreatDoor
