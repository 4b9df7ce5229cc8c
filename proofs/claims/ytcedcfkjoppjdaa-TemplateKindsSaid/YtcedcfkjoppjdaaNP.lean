/- Layer template: the law TemplateKinds. -/
import Derived.Test.YtcedcfkjoppjdaaNL
namespace Go.Proofs.Ytcedcfkjoppjdaa
open Go.ChangeShapes Go.WideShapes Go.ChangeAt Go.RowKit Go.Lib
set_option linter.unusedVariables false
set_option linter.unusedSimpArgs false
set_option maxRecDepth 100000

theorem kn_apart {k o : Int} (hk : kB k = true) : ((kn o).toList == (kn k).toList) = (o == k) := by
  unfold kB at hk
  simp only [Bool.and_eq_true, decide_eq_true_eq] at hk
  rw [ByteArray.toList_eq, ByteArray.toList_eq]
  have c : k = 1 ∨ k = 2 ∨ k = 3 ∨ k = 4 ∨ k = 5 := by omega
  have d : o = 1 ∨ o = 2 ∨ o = 3 ∨ o = 4 ∨ o = 5 ∨ (o < 1 ∨ 5 < o) := by omega
  rcases c with rfl | rfl | rfl | rfl | rfl <;> rcases d with rfl | rfl | rfl | rfl | rfl | d <;> first
    | rfl
    | (rw [kn_no d]; symm; simp [kn]; omega)
theorem kd_kn {k : Int} (hk : kB k = true) : kd (kn k) = k := by
  have h := hk
  unfold kB at h
  simp only [Bool.and_eq_true, decide_eq_true_eq] at h
  refine kd_hit h.1 h.2 (fun j a b => ?_) (by simp)
  rw [kn_apart hk]
  simpa using (show ¬ j = k by omega)
theorem kd_kn_no {k : Int} (hk : kB k = false) : kn k = ⟨#[]⟩ ∧ kd (kn k) = 0 := by
  have e : kn k = ⟨#[]⟩ := kn_no (by
    unfold kB at hk
    by_cases h : 1 ≤ k
    · rw [decide_eq_true h] at hk
      have : ¬ k ≤ 5 := by simpa using hk
      omega
    · omega)
  refine ⟨e, ?_⟩
  rw [e]
  simp [kd, kn, ByteArray.toList_eq]
theorem kd_name {s : ByteArray} (h : ¬ kd s = 0) : kn (kd s) = s := by
  refine ba_ext ?_
  unfold kd at h ⊢
  split
  · simp_all
  · split
    · simp_all
    · split
      · simp_all
      · split
        · simp_all
        · split
          · simp_all
          · simp_all

theorem kinds_known (k o : Int) (s : ByteArray) (h : 100 < s.size) (w : World) : Calls Try.prog 6 #[.int .u8 k, .int .u8 o, .string s] w fun e w' => e = .returned (.bool true) ∧ Old w w' := by
  have hk := fun W => known_any W
  go_enter Try.func6, Try.ntmps6
  go_wp2_with (go_at_call 9; (with_reducible refine (hk _).mono ?_); rintro e w1 ⟨rfl, o1⟩)
  go_ret
  exact ⟨rfl, o1⟩
/-- What Kind answers to a name. -/
theorem kind_yes {s : ByteArray} {n : Int} (h : kd s = n) (hn : ¬ n = 0) (w : World) : Calls Try.prog 10 #[.string s] w fun e w' => e = .returned (.tuple #[.int .u8 n, .bool true]) ∧ w = w' := by
  have := kind_any s w
  rw [h] at this
  unfold kdE at this
  rw [show (n != 0) = true from u8_ne hn] at this
  exact this
theorem kind_no {s : ByteArray} (h : kd s = 0) (w : World) : Calls Try.prog 10 #[.string s] w fun e w' => e = .returned (.tuple #[.int .u8 0, .bool false]) ∧ w = w' := by
  have := kind_any s w
  rw [h] at this
  exact this

set_option maxHeartbeats 1600000 in
theorem kinds_yes (k o : Int) (s : ByteArray) (h : s.size ≤ 100) (hk : kB k = true) (w : World) : Calls Try.prog 6 #[.int .u8 k, .int .u8 o, .string s] w fun e w' => e = .returned (.bool true) ∧ Old w w' := by
  have hkn := fun W => known_any W
  have h1 := fun W => kn_any k W
  have h2 := fun W => kn_any o W
  have hb : 1 ≤ k ∧ k ≤ 5 := by
    unfold kB at hk
    simpa using hk
  have k1 := fun W => kind_yes (kd_kn hk) (by omega) W
  have hap := kn_apart (o := o) hk
  obtain ⟨S, hS⟩ : ∃ S, S = kn k := ⟨_, rfl⟩
  obtain ⟨S2, hS2⟩ : ∃ S, S = kn o := ⟨_, rfl⟩
  rw [← hS] at h1 k1 hap
  rw [← hS2] at h2 hap
  have hb1 := hb.1
  have hb5 := hb.2
  clear hS hS2 hk hb
  by_cases hn : kd s = 0
  · have k2 := fun W => kind_no hn W
    clear hn
    by_cases hok : o = k
    · subst hok
      have e : (S2.toList == S.toList) = true := by rw [hap]; simp
      clear hap
      go_enter Try.func6, Try.ntmps6
      go_wp2_with (first
        | (go_at_call 18; (with_reducible refine (h1 _).mono ?_); rintro e1 w1 ⟨rfl, rfl⟩; clear h1)
        | (go_at_call 18; (with_reducible refine (h2 _).mono ?_); rintro e2 w1 ⟨rfl, rfl⟩; clear h2)
        | (go_at_call 10; (with_reducible refine (k1 _).mono ?_); rintro e3 w1 ⟨rfl, rfl⟩; clear k1)
        | (go_at_call 10; (with_reducible refine (k2 _).mono ?_); rintro e4 w1 ⟨rfl, rfl⟩; clear k2)
        | (go_at_call 9; (with_reducible refine (hkn _).mono ?_); rintro e5 w5 ⟨rfl, o5⟩))
      go_ret
      exact ⟨rfl, o5⟩
    · have e : (S2.toList == S.toList) = false := by rw [hap]; simpa using hok
      have e2 : (o == k) = false := by simpa using hok
      clear hap hok
      go_enter Try.func6, Try.ntmps6
      go_wp2_with (first
        | (go_at_call 18; (with_reducible refine (h1 _).mono ?_); rintro e1 w1 ⟨rfl, rfl⟩)
        | (go_at_call 18; (with_reducible refine (h2 _).mono ?_); rintro e2 w1 ⟨rfl, rfl⟩)
        | (go_at_call 10; (with_reducible refine (k1 _).mono ?_); rintro e3 w1 ⟨rfl, rfl⟩)
        | (go_at_call 10; (with_reducible refine (k2 _).mono ?_); rintro e4 w1 ⟨rfl, rfl⟩)
        | (go_at_call 9; (with_reducible refine (hkn _).mono ?_); rintro e5 w5 ⟨rfl, o5⟩))
      go_ret
      exact ⟨rfl, o5⟩
  · have k2 := fun W => kind_yes (s := s) rfl hn W
    have h3 := fun W => kn_any (kd s) W
    rw [kd_name hn] at h3
    obtain ⟨n, hnn⟩ : ∃ n, n = kd s := ⟨_, rfl⟩
    rw [← hnn] at k2 h3
    clear hnn hn
    by_cases hok : o = k
    · subst hok
      have e : (S2.toList == S.toList) = true := by rw [hap]; simp
      clear hap
      go_enter Try.func6, Try.ntmps6
      go_wp2_with (first
        | (go_at_call 18; (with_reducible refine (h1 _).mono ?_); rintro e1 w1 ⟨rfl, rfl⟩; clear h1)
        | (go_at_call 18; (with_reducible refine (h2 _).mono ?_); rintro e2 w1 ⟨rfl, rfl⟩; clear h2)
        | (go_at_call 18; (with_reducible refine (h3 _).mono ?_); rintro e6 w1 ⟨rfl, rfl⟩)
        | (go_at_call 10; (with_reducible refine (k1 _).mono ?_); rintro e3 w1 ⟨rfl, rfl⟩; clear k1)
        | (go_at_call 10; (with_reducible refine (k2 _).mono ?_); rintro e4 w1 ⟨rfl, rfl⟩; clear k2)
        | (go_at_call 9; (with_reducible refine (hkn _).mono ?_); rintro e5 w5 ⟨rfl, o5⟩))
      go_ret
      exact ⟨rfl, o5⟩
    · have e : (S2.toList == S.toList) = false := by rw [hap]; simpa using hok
      have e2 : (o == k) = false := by simpa using hok
      clear hap hok
      go_enter Try.func6, Try.ntmps6
      go_wp2_with (first
        | (go_at_call 18; (with_reducible refine (h1 _).mono ?_); rintro e1 w1 ⟨rfl, rfl⟩)
        | (go_at_call 18; (with_reducible refine (h2 _).mono ?_); rintro e2 w1 ⟨rfl, rfl⟩)
        | (go_at_call 18; (with_reducible refine (h3 _).mono ?_); rintro e6 w1 ⟨rfl, rfl⟩)
        | (go_at_call 10; (with_reducible refine (k1 _).mono ?_); rintro e3 w1 ⟨rfl, rfl⟩)
        | (go_at_call 10; (with_reducible refine (k2 _).mono ?_); rintro e4 w1 ⟨rfl, rfl⟩)
        | (go_at_call 9; (with_reducible refine (hkn _).mono ?_); rintro e5 w5 ⟨rfl, o5⟩))
      go_ret
      exact ⟨rfl, o5⟩
set_option maxHeartbeats 1600000 in
theorem kinds_no (k o : Int) (s : ByteArray) (h : s.size ≤ 100) (hk : kB k = false) (w : World) : Calls Try.prog 6 #[.int .u8 k, .int .u8 o, .string s] w fun e w' => e = .returned (.bool true) ∧ Old w w' := by
  have hkn := fun W => known_any W
  have h1 := fun W => kn_any k W
  have k1 := fun W => kind_no (kd_kn_no hk).2 W
  rw [(kd_kn_no hk).1] at h1 k1
  have hb : k < 1 ∨ (1 ≤ k ∧ 5 < k) := by
    unfold kB at hk
    by_cases hh : 1 ≤ k
    · rw [decide_eq_true hh] at hk
      have : ¬ k ≤ 5 := by simpa using hk
      omega
    · omega
  clear hk
  by_cases hn : kd s = 0
  · have k2 := fun W => kind_no hn W
    clear hn
    rcases hb with hb | ⟨ha, hb⟩
    all_goals
      go_enter Try.func6, Try.ntmps6
      go_wp2_with (first
        | (go_at_call 18; (with_reducible refine (h1 _).mono ?_); rintro e1 w1 ⟨rfl, rfl⟩)
        | (go_at_call 10; (with_reducible refine (k1 _).mono ?_); rintro e3 w1 ⟨rfl, rfl⟩)
        | (go_at_call 10; (with_reducible refine (k2 _).mono ?_); rintro e4 w1 ⟨rfl, rfl⟩)
        | (go_at_call 9; (with_reducible refine (hkn _).mono ?_); rintro e5 w5 ⟨rfl, o5⟩))
      go_ret
      exact ⟨rfl, o5⟩
  · have k2 := fun W => kind_yes (s := s) rfl hn W
    have h3 := fun W => kn_any (kd s) W
    rw [kd_name hn] at h3
    obtain ⟨n, hnn⟩ : ∃ n, n = kd s := ⟨_, rfl⟩
    rw [← hnn] at k2 h3
    clear hnn hn
    rcases hb with hb | ⟨ha, hb⟩
    all_goals
      go_enter Try.func6, Try.ntmps6
      go_wp2_with (first
        | (go_at_call 18; (with_reducible refine (h1 _).mono ?_); rintro e1 w1 ⟨rfl, rfl⟩)
        | (go_at_call 18; (with_reducible refine (h3 _).mono ?_); rintro e6 w1 ⟨rfl, rfl⟩)
        | (go_at_call 10; (with_reducible refine (k1 _).mono ?_); rintro e3 w1 ⟨rfl, rfl⟩)
        | (go_at_call 10; (with_reducible refine (k2 _).mono ?_); rintro e4 w1 ⟨rfl, rfl⟩)
        | (go_at_call 9; (with_reducible refine (hkn _).mono ?_); rintro e5 w5 ⟨rfl, o5⟩))
      go_ret
      exact ⟨rfl, o5⟩
theorem kinds_all (k o : Int) (s : ByteArray) (w : World) : Calls Try.prog 6 #[.int .u8 k, .int .u8 o, .string s] w fun e w' => e = .returned (.bool true) ∧ Old w w' := by
  by_cases h : 100 < s.size
  · exact kinds_known k o s h w
  · cases hk : kB k
    · exact kinds_no k o s (by omega) hk w
    · exact kinds_yes k o s (by omega) hk w
end Go.Proofs.Ytcedcfkjoppjdaa
