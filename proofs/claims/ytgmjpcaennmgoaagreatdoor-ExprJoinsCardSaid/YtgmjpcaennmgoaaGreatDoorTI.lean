/- Layer lexer: is a text a name. -/
import Derived.Test.YtgmjpcaennmgoaaGreatDoorTH
namespace Go.Proofs.YtgmjpcaennmgoaaGreatDoor
open Go.ChangeShapes Go.WideShapes Go.ChangeAt Go.RowKit Go.Lib
set_option linter.unusedVariables false
set_option linter.unusedSimpArgs false
set_option maxRecDepth 100000

theorem ba_list (s : ByteArray) : s.toList = s.data.toList := ByteArray.toList_eq s
theorem all_take {l : List UInt8} {k : Nat} {c : UInt8} {r : List UInt8} (h : l.drop k = c :: r) (p : UInt8 → Bool) : (l.take (k + 1)).all p = ((l.take k).all p && p c) := by
  rw [List.take_add_one, drop_get h, List.all_append]
  simp
set_option maxHeartbeats 800000 in
theorem lname_any (s : ByteArray) (w : World) (hs : s.size ≤ 900000) : Calls Tryz.prog 114 #[.string s] w fun e w' => e = .returned (.bool (isName s.data.toList)) ∧ Old w w' := by
  have hz : s.data.toList.length = s.size := Array.length_toList
  by_cases h0 : s.data.toList = []
  · have e : isName s.data.toList = false := by rw [h0]; rfl
    rw [e]
    have h0' : s.toList = [] := by rw [ba_list]; exact h0
    go_enter Tryz.func114, Tryz.ntmps114
    go_wp2_with fail
    all_goals (go_ret; exact ⟨rfl, Old.refl w⟩)
  have h0' : ¬ s.toList = [] := by rw [ba_list]; exact h0
  by_cases h12 : s.size ≤ 12
  · obtain ⟨c, r, hcr⟩ : ∃ c r, s.data.toList = c :: r := List.exists_cons_of_ne_nil h0
    have hx0 : ∀ W, (Instr.index 9 (.string s) (.int .i64 0)).run Tryz.prog W = .ok (.int .u8 (c.toNat : Int)) W := fun W => idx_any s 0 c (by rw [hcr]; rfl) W
    have h1 := fun W => sm_any c W
    have e : isName s.data.toList = (sm c && s.data.toList.all nm) := by
      unfold isName
      rw [decide_eq_true ⟨h0, by omega⟩, Bool.true_and, hcr]
      rfl
    rw [e]
    have hpos : 0 < s.size := by rw [← hz, hcr]; simp
    clear hcr e h0
    cases hsm : sm c with
    | false =>
      rw [hsm] at h1
      clear hz
      go_enter Tryz.func114, Tryz.ntmps114
      go_wp2_with (first
        | (go_at_call 83; (with_reducible refine (h1 _).mono ?_); rintro e w1 ⟨rfl, rfl⟩))
      all_goals (go_ret; exact ⟨rfl, Old.refl w⟩)
    | true =>
      rw [hsm] at h1
      rw [Bool.true_and]
      have HZ := Lib.hid hz
      have hE : s.toList.isEmpty = false := by simpa using h0'
      clear hz
      go_enter Tryz.func114, Tryz.ntmps114
      go_wp2_with (first
        | (go_at_call 83; (with_reducible refine (h1 _).mono ?_); rintro e w1 ⟨rfl, rfl⟩))
      all_goals
        go_loopw [19] (fun i wr => ∃ k : Nat, k ≤ s.size ∧ i = .int .i64 (k : Int) ∧ Hid ((s.data.toList.take k).all nm = true) ∧ wr = w) (fun i _ => (s.size - RowKit.intOf i).toNat)
        case atStart => exact ⟨0, Nat.zero_le _, rfl, Lib.hid rfl, rfl⟩
        case round =>
          obtain ⟨k, hk, rfl, HE, rfl⟩ := hrel
          rcases Nat.lt_or_ge k s.size with hks | hks
          · have hl : k < s.data.toList.length := by rw [HZ.out]; exact hks
            obtain ⟨d, hd⟩ : ∃ d, d = s.data.toList[k] := ⟨_, rfl⟩
            have hx := fun W => idx_any s k d (by rw [hd]; exact List.getElem?_eq_getElem hl) W
            have HD := Lib.hid (show s.data.toList.drop k = d :: s.data.toList.drop (k + 1) by rw [hd]; exact List.drop_eq_getElem_cons hl)
            have h2 := fun W => nm_any d W
            clear hd hl
            cases hnm : nm d with
            | false =>
              rw [hnm] at h2
              go_wp2_with (first
                | (go_at_call 89; (with_reducible refine (h2 _).mono ?_); rintro e w1 ⟨rfl, rfl⟩))
              go_ret
              have : s.data.toList.all nm = false := by
                rw [List.all_eq_false]
                refine ⟨d, ?_, by rw [hnm]; simp⟩
                have := drop_get HD.out
                exact List.mem_of_getElem? this
              exact ⟨rb _ _ this.symm, Old.refl _⟩
            | true =>
              rw [hnm] at h2
              go_wp2_with (first
                | (go_at_call 89; (with_reducible refine (h2 _).mono ?_); rintro e w1 ⟨rfl, rfl⟩))
              refine ⟨⟨k + 1, by omega, by simp, Lib.hid (by rw [all_take HD.out, HE.out, hnm]; rfl), ?_⟩, by simp only [RowKit.intOf]; omega⟩
              first | rfl | trivial
          · go_wp2
            go_ret
            have he := HE.out
            rw [List.take_of_length_le (by rw [HZ.out]; exact hks)] at he
            exact ⟨rb _ _ he.symm, Old.refl _⟩
  · have e : isName s.data.toList = false := by
      unfold isName
      rw [decide_eq_false (fun h => h12 (by omega)), Bool.false_and, Bool.false_and]
    rw [e]
    clear hz
    go_enter Tryz.func114, Tryz.ntmps114
    go_wp2_with fail
    all_goals (go_ret; exact ⟨rfl, Old.refl w⟩)
end Go.Proofs.YtgmjpcaennmgoaaGreatDoor
