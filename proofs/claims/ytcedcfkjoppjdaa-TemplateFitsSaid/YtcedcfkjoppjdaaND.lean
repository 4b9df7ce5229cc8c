/- Layer template: the document's names. -/
import Derived.Test.YtcedcfkjoppjdaaNC
namespace Go.Proofs.Ytcedcfkjoppjdaa
open Go.ChangeShapes Go.WideShapes Go.ChangeAt Go.RowKit
set_option linter.unusedVariables false
set_option linter.unusedSimpArgs false
set_option maxRecDepth 100000

theorem ba_iff (a b : ByteArray) : (a == b) = true ↔ a = b := by
  cases a with | mk x => cases b with | mk y =>
  show (x == y) = true ↔ _
  simp
theorem ba_no (a b : ByteArray) : (a == b) = false ↔ ¬ a = b := by
  rw [← ba_iff]
  simp
theorem ba_beq (s : ByteArray) (l : List UInt8) : (s == (⟨l.toArray⟩ : ByteArray)) = (s.toList == l) := by
  have e : (⟨l.toArray⟩ : ByteArray).toList = l := by rw [ByteArray.toList_eq]
  cases h : (s.toList == l)
  · rw [ba_no]
    intro this
    rw [this, e] at h
    simp at h
  · have h' : s.toList = l := by simpa using h
    rw [ba_iff]
    exact ba_ext (by rw [e]; exact h')
set_option maxHeartbeats 3200000 in
theorem rkept_no (s : ByteArray) (h : keptB s = false) (w : World) : Calls Try.prog 27 #[.string s] w fun e w' => e = .returned (.bool false) ∧ w = w' := by
  have ha : ∀ l : List UInt8, (⟨l.toArray⟩ : ByteArray) ∈ keptL → (s.toList == l) = false := fun l hl => by
    rw [← ba_beq]
    exact Bool.eq_false_iff.2 (List.any_eq_false.1 h _ hl)
  clear h
  have f0 := ha [116, 114, 117, 101] (by unfold keptL; simp)
  have f1 := ha [102, 97, 108, 115, 101] (by unfold keptL; simp)
  have f2 := ha [110, 117, 108, 108] (by unfold keptL; simp)
  have f3 := ha [97, 110, 100] (by unfold keptL; simp)
  have f4 := ha [111, 114] (by unfold keptL; simp)
  have f5 := ha [110, 111, 116] (by unfold keptL; simp)
  have f6 := ha [105, 102] (by unfold keptL; simp)
  have f7 := ha [97, 98, 115] (by unfold keptL; simp)
  have f8 := ha [109, 105, 110] (by unfold keptL; simp)
  have f9 := ha [109, 97, 120] (by unfold keptL; simp)
  have f10 := ha [109, 111, 100] (by unfold keptL; simp)
  have f11 := ha [108, 101, 110, 103, 116, 104] (by unfold keptL; simp)
  have f12 := ha [117, 112, 112, 101, 114] (by unfold keptL; simp)
  have f13 := ha [99, 111, 110, 116, 97, 105, 110, 115] (by unfold keptL; simp)
  have f14 := ha [115, 116, 97, 114, 116, 115] (by unfold keptL; simp)
  have f15 := ha [116, 101, 109, 112, 108, 97, 116, 101] (by unfold keptL; simp)
  have f16 := ha [114, 117, 108, 101] (by unfold keptL; simp)
  have f17 := ha [119, 104, 101, 110] (by unfold keptL; simp)
  have f18 := ha [116, 104, 101, 110] (by unfold keptL; simp)
  have f19 := ha [101, 110, 100] (by unfold keptL; simp)
  have f20 := ha [101, 120, 105, 115, 116, 115] (by unfold keptL; simp)
  have f21 := ha [116, 101, 115, 116] (by unfold keptL; simp)
  have f22 := ha [97, 115, 115, 101, 114, 116] (by unfold keptL; simp)
  have f23 := ha [108, 111, 103, 105, 99, 97, 108] (by unfold keptL; simp)
  have f24 := ha [109, 111, 100, 105, 102, 121] (by unfold keptL; simp)
  have f25 := ha [114, 101, 116, 114, 97, 99, 116] (by unfold keptL; simp)
  have f26 := ha [104, 97, 108, 116] (by unfold keptL; simp)
  have f27 := ha [116, 97, 98, 108, 101] (by unfold keptL; simp)
  have f28 := ha [105, 110] (by unfold keptL; simp)
  have f29 := ha [111, 117, 116] (by unfold keptL; simp)
  have f30 := ha [114, 111, 119] (by unfold keptL; simp)
  clear ha
  go_enter Try.func27, Try.ntmps27
  go_wp2_with fail
  go_ret
  exact ⟨rfl, rfl⟩
set_option maxHeartbeats 3200000 in
theorem rkept_yes (s : ByteArray) (h : s ∈ keptL) (w : World) : Calls Try.prog 27 #[.string s] w fun e w' => e = .returned (.bool true) ∧ w = w' := by
  unfold keptL at h
  simp only [List.mem_cons, List.not_mem_nil, or_false] at h
  rcases h with rfl | rfl | rfl | rfl | rfl | rfl | rfl | rfl | rfl | rfl | rfl | rfl | rfl | rfl | rfl | rfl | rfl | rfl | rfl | rfl | rfl | rfl | rfl | rfl | rfl | rfl | rfl | rfl | rfl | rfl | rfl
  all_goals
    go_enter Try.func27, Try.ntmps27
    go_wp2_with fail
    go_ret
    exact ⟨rfl, rfl⟩
theorem rkept_any (s : ByteArray) (w : World) : Calls Try.prog 27 #[.string s] w fun e w' => e = .returned (.bool (keptB s)) ∧ w = w' := by
  cases h : keptB s
  · exact rkept_no s h w
  · obtain ⟨x, hx, e⟩ := List.any_eq_true.1 h
    obtain rfl : s = x := (ba_iff _ _).1 e
    exact rkept_yes s hx w
theorem rnm_any (s : ByteArray) (w : World) : Calls Try.prog 13 #[.string s] w fun e w' => e = .returned (.bool (nmB s)) ∧ Old w w' := by
  have h1 := fun W => rname_any s W
  have h2 := fun W => rkept_any s W
  unfold nmB
  cases hn : nameB s
  · rw [hn] at h1
    clear hn
    go_enter Try.func13, Try.ntmps13
    go_wp2_with (first
      | (go_at_call 26; (with_reducible refine (h1 _).mono ?_); rintro e w1 ⟨rfl, ho⟩)
      | (go_at_call 27; (with_reducible refine (h2 _).mono ?_); rintro e w2 ⟨rfl, rfl⟩))
    go_ret
    exact ⟨rb _ _ (by simp), ho⟩
  · rw [hn] at h1
    clear hn
    go_enter Try.func13, Try.ntmps13
    go_wp2_with (first
      | (go_at_call 26; (with_reducible refine (h1 _).mono ?_); rintro e w1 ⟨rfl, ho⟩)
      | (go_at_call 27; (with_reducible refine (h2 _).mono ?_); rintro e w2 ⟨rfl, rfl⟩))
    go_ret
    exact ⟨rb _ _ (by simp), ho⟩
end Go.Proofs.Ytcedcfkjoppjdaa
