/- Layer template: kinds and their names. -/
import Derived.Test.YtcedcfkjoppjdaaRS
namespace Go.Proofs.Ytcedcfkjoppjdaa
open Go.ChangeShapes Go.WideShapes Go.ChangeAt Go.RowKit
set_option linter.unusedVariables false
set_option maxRecDepth 100000

/-- A kind's name. -/
def kn (k : Int) : ByteArray := if k = 1 then ⟨#[105, 110, 116]⟩ else if k = 2 then ⟨#[100, 101, 99]⟩ else if k = 3 then ⟨#[115, 116, 114]⟩ else if k = 4 then ⟨#[98, 111, 111, 108]⟩ else if k = 5 then ⟨#[115, 121, 109]⟩ else ⟨#[]⟩
theorem kn_no {k : Int} (h : k < 1 ∨ 5 < k) : kn k = ⟨#[]⟩ := by
  unfold kn
  rw [if_neg (by omega), if_neg (by omega), if_neg (by omega), if_neg (by omega), if_neg (by omega)]

theorem kn_any (k : Int) (w : World) : Calls Try.prog 18 #[.int .u8 k] w fun e w' => e = .returned (.string (kn k)) ∧ w = w' := by
  by_cases h1 : k = 1
  · subst h1; go_enter Try.func18, Try.ntmps18; go_wp2; go_ret; exact ⟨rfl, rfl⟩
  by_cases h2 : k = 2
  · subst h2; clear h1; go_enter Try.func18, Try.ntmps18; go_wp2; go_ret; exact ⟨rfl, rfl⟩
  by_cases h3 : k = 3
  · subst h3; clear h1 h2; go_enter Try.func18, Try.ntmps18; go_wp2; go_ret; exact ⟨rfl, rfl⟩
  by_cases h4 : k = 4
  · subst h4; clear h1 h2 h3; go_enter Try.func18, Try.ntmps18; go_wp2; go_ret; exact ⟨rfl, rfl⟩
  by_cases h5 : k = 5
  · subst h5; clear h1 h2 h3 h4; go_enter Try.func18, Try.ntmps18; go_wp2; go_ret; exact ⟨rfl, rfl⟩
  rw [kn_no (by omega)]
  go_enter Try.func18, Try.ntmps18; go_wp2; go_ret; exact ⟨rfl, rfl⟩
theorem rkn_any (k : Int) (w : World) : Calls Try.prog 19 #[.int .u8 k] w fun e w' => e = .returned (.string (kn k)) ∧ w = w' := by
  by_cases h1 : k = 1
  · subst h1; go_enter Try.func19, Try.ntmps19; go_wp2; go_ret; exact ⟨rfl, rfl⟩
  by_cases h2 : k = 2
  · subst h2; clear h1; go_enter Try.func19, Try.ntmps19; go_wp2; go_ret; exact ⟨rfl, rfl⟩
  by_cases h3 : k = 3
  · subst h3; clear h1 h2; go_enter Try.func19, Try.ntmps19; go_wp2; go_ret; exact ⟨rfl, rfl⟩
  by_cases h4 : k = 4
  · subst h4; clear h1 h2 h3; go_enter Try.func19, Try.ntmps19; go_wp2; go_ret; exact ⟨rfl, rfl⟩
  by_cases h5 : k = 5
  · subst h5; clear h1 h2 h3 h4; go_enter Try.func19, Try.ntmps19; go_wp2; go_ret; exact ⟨rfl, rfl⟩
  rw [kn_no (by omega)]
  go_enter Try.func19, Try.ntmps19; go_wp2; go_ret; exact ⟨rfl, rfl⟩

/-- Is it a kind that slots may have? -/
def kB (k : Int) : Bool := decide (1 ≤ k) && decide (k ≤ 5)
theorem kB_kn (k : Int) : kB k = !(kn k).toList.isEmpty := by
  unfold kB
  rw [ByteArray.toList_eq]
  by_cases h1 : k = 1
  · subst h1; rfl
  by_cases h2 : k = 2
  · subst h2; rfl
  by_cases h3 : k = 3
  · subst h3; rfl
  by_cases h4 : k = 4
  · subst h4; rfl
  by_cases h5 : k = 5
  · subst h5; rfl
  rw [kn_no (by omega)]
  by_cases h : 1 ≤ k
  · rw [decide_eq_false (p := k ≤ 5) (by omega), Bool.and_false]; rfl
  · rw [decide_eq_false h]; rfl
theorem isK_any (k : Int) (w : World) : Calls Try.prog 38 #[.int .u8 k] w fun e w' => e = .returned (.bool (kB k)) ∧ w = w' := by
  rw [kB_kn]
  go_enter Try.func38, Try.ntmps38
  go_wp2_with (go_at_call 18; (with_reducible refine (kn_any _ _).mono ?_); rintro e w1 ⟨rfl, rfl⟩)
  go_ret
  exact ⟨rb _ _ (by simp), rfl⟩

/-- The kind with that name: 0, if there is none. -/
def kd (s : ByteArray) : Int := if ((kn 1).toList == s.toList) = true then 1 else if ((kn 2).toList == s.toList) = true then 2 else if ((kn 3).toList == s.toList) = true then 3 else if ((kn 4).toList == s.toList) = true then 4 else if ((kn 5).toList == s.toList) = true then 5 else 0
/-- No kind below k has that name. -/
def noK (s : ByteArray) (k : Int) : Prop := ∀ j, 1 ≤ j → j < k → ((kn j).toList == s.toList) = false
theorem kd_hit {s : ByteArray} {k : Int} (h1 : 1 ≤ k) (h5 : k ≤ 5) (hn : noK s k) (h : ((kn k).toList == s.toList) = true) : kd s = k := by
  unfold kd
  have c : k = 1 ∨ k = 2 ∨ k = 3 ∨ k = 4 ∨ k = 5 := by omega
  rcases c with rfl | rfl | rfl | rfl | rfl
  · rw [if_pos h]
  · rw [hn 1 (by omega) (by omega), if_neg (by decide), if_pos h]
  · rw [hn 1 (by omega) (by omega), hn 2 (by omega) (by omega), if_neg (by decide), if_neg (by decide), if_pos h]
  · rw [hn 1 (by omega) (by omega), hn 2 (by omega) (by omega), hn 3 (by omega) (by omega), if_neg (by decide), if_neg (by decide), if_neg (by decide), if_pos h]
  · rw [hn 1 (by omega) (by omega), hn 2 (by omega) (by omega), hn 3 (by omega) (by omega), hn 4 (by omega) (by omega), if_neg (by decide), if_neg (by decide), if_neg (by decide), if_neg (by decide), if_pos h]
theorem kd_no {s : ByteArray} (hn : noK s 6) : kd s = 0 := by
  unfold kd
  rw [hn 1 (by omega) (by omega), hn 2 (by omega) (by omega), hn 3 (by omega) (by omega), hn 4 (by omega) (by omega), hn 5 (by omega) (by omega), if_neg (by decide), if_neg (by decide), if_neg (by decide), if_neg (by decide), if_neg (by decide)]
theorem noK_next {s : ByteArray} {k : Int} (hn : noK s k) (h : ((kn k).toList == s.toList) = false) : noK s (k + 1) := fun j a b => by
  by_cases e : j = k
  · rw [e]; exact h
  · exact hn j a (by omega)
abbrev kdE (k : Int) : Ending := .returned (.tuple #[.int .u8 k, .bool (k != 0)])
theorem kdE_of {a b : Int} {c : Bool} (h : a = b) (hc : c = (b != 0)) : Ending.returned (.tuple #[.int .u8 a, .bool c]) = kdE b := by rw [h, hc]

theorem kind_any (s : ByteArray) (w : World) : Calls Try.prog 10 #[.string s] w fun e w' => e = kdE (kd s) ∧ w = w' := by
  go_enter Try.func10, Try.ntmps10
  go_wp2
  go_loopw [4] (fun i wr => ∃ k : Int, 1 ≤ k ∧ k ≤ 6 ∧ i = .int .u8 k ∧ Hid (noK s k) ∧ wr = w) (fun i _ => (6 - intOf i).toNat)
  case atStart => exact ⟨1, by omega, by omega, rfl, Lib.hid (fun j a b => by omega), rfl⟩
  case round =>
    obtain ⟨k, hk1, hk6, rfl, HN, rfl⟩ := hrel
    by_cases h5 : k ≤ 5
    · cases hE : ((kn k).toList == s.toList)
      · have HE := Lib.hid hE
        go_wp2_with (go_at_call 18; (with_reducible refine (kn_any _ _).mono ?_); rintro e w1 ⟨rfl, rfl⟩)
        refine ⟨⟨k + 1, by omega, by omega, rfl, Lib.hid (noK_next HN.out HE.out), ?_⟩, by simp only [intOf]; omega⟩
        first | rfl | trivial
      · have HE := Lib.hid hE
        go_wp2_with (go_at_call 18; (with_reducible refine (kn_any _ _).mono ?_); rintro e w1 ⟨rfl, rfl⟩)
        go_ret2
        have e : kd s = k := kd_hit hk1 h5 HN.out HE.out
        exact ⟨kdE_of e.symm (by rw [e]; symm; simp; omega), rfl⟩
    · obtain rfl : k = 6 := by omega
      go_wp2
      go_ret2
      have e : kd s = 0 := kd_no HN.out
      exact ⟨kdE_of e.symm (by rw [e]; rfl), rfl⟩
theorem rkind_any (s : ByteArray) (w : World) : Calls Try.prog 11 #[.string s] w fun e w' => e = kdE (kd s) ∧ w = w' := by
  go_enter Try.func11, Try.ntmps11
  go_wp2
  go_loopw [4] (fun i wr => ∃ k : Int, 1 ≤ k ∧ k ≤ 6 ∧ i = .int .u8 k ∧ Hid (noK s k) ∧ wr = w) (fun i _ => (6 - intOf i).toNat)
  case atStart => exact ⟨1, by omega, by omega, rfl, Lib.hid (fun j a b => by omega), rfl⟩
  case round =>
    obtain ⟨k, hk1, hk6, rfl, HN, rfl⟩ := hrel
    by_cases h5 : k ≤ 5
    · cases hE : ((kn k).toList == s.toList)
      · have HE := Lib.hid hE
        go_wp2_with (go_at_call 19; (with_reducible refine (rkn_any _ _).mono ?_); rintro e w1 ⟨rfl, rfl⟩)
        refine ⟨⟨k + 1, by omega, by omega, rfl, Lib.hid (noK_next HN.out HE.out), ?_⟩, by simp only [intOf]; omega⟩
        first | rfl | trivial
      · have HE := Lib.hid hE
        go_wp2_with (go_at_call 19; (with_reducible refine (rkn_any _ _).mono ?_); rintro e w1 ⟨rfl, rfl⟩)
        go_ret2
        have e : kd s = k := kd_hit hk1 h5 HN.out HE.out
        exact ⟨kdE_of e.symm (by rw [e]; symm; simp; omega), rfl⟩
    · obtain rfl : k = 6 := by omega
      go_wp2
      go_ret2
      have e : kd s = 0 := kd_no HN.out
      exact ⟨kdE_of e.symm (by rw [e]; rfl), rfl⟩
end Go.Proofs.Ytcedcfkjoppjdaa
