/- Layer value: names; which values may be. -/
import Derived.Test.YtgmjpcaennmgoaaGreatDoorVN
namespace Go.Proofs.YtgmjpcaennmgoaaGreatDoor
open Go.ChangeShapes Go.WideShapes Go.ChangeAt Go.RowKit
set_option linter.unusedVariables false
set_option maxRecDepth 100000

def sl (b : Int) : Bool := decide (97 ≤ b) && decide (b ≤ 122)
def dg (b : Int) : Bool := decide (48 ≤ b) && decide (b ≤ 57)
def nb (b : Int) : Bool := sl b || dg b
def nameB (s : ByteArray) : Bool := decide (1 ≤ s.size ∧ s.size ≤ 12) && sl (bt s 0) && fst nb s s.size

theorem sl_any (b : Int) (w : World) : Calls Tryz.prog 161 #[.int .u8 b] w fun e w' => e = .returned (.bool (sl b)) ∧ w = w' := by
  unfold sl
  by_cases h : 97 ≤ b
  · go_enter Tryz.func161, Tryz.ntmps161
    go_wp2
    go_ret
    exact ⟨rb _ _ (by rw [decide_eq_true h]; rfl), rfl⟩
  · go_enter Tryz.func161, Tryz.ntmps161
    go_wp2
    go_ret
    exact ⟨rb _ _ (by rw [decide_eq_false (by omega)]; rfl), rfl⟩
theorem dg_any (b : Int) (w : World) : Calls Tryz.prog 162 #[.int .u8 b] w fun e w' => e = .returned (.bool (dg b)) ∧ w = w' := by
  unfold dg
  by_cases h : 48 ≤ b
  · go_enter Tryz.func162, Tryz.ntmps162
    go_wp2
    go_ret
    exact ⟨rb _ _ (by rw [decide_eq_true h]; rfl), rfl⟩
  · go_enter Tryz.func162, Tryz.ntmps162
    go_wp2
    go_ret
    exact ⟨rb _ _ (by rw [decide_eq_false (by omega)]; rfl), rfl⟩

theorem bt_get (s : ByteArray) (j : Nat) (h : j < s.size) : ((s[j]'h).toNat : Int) = bt s j := by
  unfold bt
  have hj' : j < s.data.size := h
  rw [List.getD_eq_getElem?_getD, Array.getElem?_toList, Array.getElem?_eq_getElem hj']
  rfl
theorem ba_nil {s : ByteArray} : s.toList = [] ↔ s.size = 0 := by
  rw [ByteArray.toList_eq]
  constructor
  · intro h
    have : s.data.toList.length = 0 := by rw [h]; rfl
    rw [Array.length_toList] at this
    exact this
  · intro h
    have : s.data.toList.length = 0 := by rw [Array.length_toList]; exact h
    exact List.length_eq_zero_iff.1 this
theorem sl_get (s : ByteArray) (B : Bool) (hB : sl (bt s 0) = B) (h : 0 < s.size) (w : World) : Calls Tryz.prog 161 #[.int .u8 ((s[0]'h).toNat : Int)] w fun e w' => e = .returned (.bool B) ∧ w = w' := by
  rw [bt_get s 0 h, ← hB]
  exact sl_any _ w

theorem name_none (s : ByteArray) (w : World) (h : s.toList = []) : Calls Tryz.prog 147 #[.string s] w fun e w' => e = .returned (.bool false) ∧ Old w w' := by
  go_enter Tryz.func147, Tryz.ntmps147
  go_wp2_with fail
  go_ret
  exact ⟨rfl, Old.refl w⟩
theorem name_long (s : ByteArray) (w : World) (h : ¬ s.toList = []) (hl : ¬ s.size ≤ 12) : Calls Tryz.prog 147 #[.string s] w fun e w' => e = .returned (.bool false) ∧ Old w w' := by
  go_enter Tryz.func147, Tryz.ntmps147
  go_wp2_with fail
  all_goals (go_ret; exact ⟨rfl, Old.refl w⟩)
theorem name_first (s : ByteArray) (w : World) (h : ¬ s.toList = []) (hz : 0 < s.size) (hl : s.size ≤ 12) (hB : sl (bt s 0) = false) : Calls Tryz.prog 147 #[.string s] w fun e w' => e = .returned (.bool false) ∧ Old w w' := by
  go_enter Tryz.func147, Tryz.ntmps147
  go_wp2_with (first
    | (go_at_call 161; (with_reducible refine (sl_get s false hB _ _).mono ?_); rintro e w1 ⟨rfl, rfl⟩))
  all_goals (go_ret; exact ⟨rfl, Old.refl w⟩)

theorem name_loop (s : ByteArray) (w : World) (cap : Nat) (W1 : World) (h : ¬ s.toList = []) (n : Nat) (hn : s.size = n) (hz : 0 < n) (hs : n ≤ 12) (hB : sl (bt s 0) = true) (hc : (convert 9 42 (.string s)).run Tryz.prog w = .ok (.slice (some ⟨w.heap.size, 0, none⟩) n cap) W1) (ho : Old w W1) (hj : ∀ j, j < n → W1.cell? ⟨w.heap.size, j, none⟩ = some (.int .u8 (bt s j))) :
    Calls Tryz.prog 147 #[.string s] w fun e w' => e = .returned (.bool (fst nb s n)) ∧ Old w w' := by
  have HA := Lib.hid hj
  have HO := Lib.hid ho
  clear hj ho
  have hE : s.toList.isEmpty = false := by simpa using h
  go_enter Tryz.func147, Tryz.ntmps147
  go_wp2_with (first
    | (go_at_call 161; (with_reducible refine (sl_get s true hB _ _).mono ?_); rintro e w1 ⟨rfl, rfl⟩))
  go_loopw [21] (fun i wr => ∃ k : Nat, k ≤ n ∧ i = .int .i64 (k : Int) ∧ Hid (fst nb s k = true) ∧ wr = W1) (fun i _ => (n - intOf i).toNat)
  case atStart => exact ⟨0, Nat.zero_le _, rfl, Lib.hid rfl, rfl⟩
  case round =>
    obtain ⟨k, hk, rfl, HE, rfl⟩ := hrel
    by_cases hkn : k < n
    · have d0 := HA.out k hkn
      obtain ⟨b, hb⟩ : ∃ b, b = bt s k := ⟨_, rfl⟩
      rw [← hb] at d0
      have HX := Lib.hid hb
      clear hb
      cases h1 : sl b
      · cases h2 : dg b
        · have k1 := sl_any b
          have k2 := dg_any b
          rw [h1] at k1
          rw [h2] at k2
          go_wp2_with (first
            | (go_at_call 161; (with_reducible refine (k1 _).mono ?_); rintro e w1 ⟨rfl, rfl⟩)
            | (go_at_call 162; (with_reducible refine (k2 _).mono ?_); rintro e w1 ⟨rfl, rfl⟩))
          have e : fst nb s n = false := fst_no (by rw [← HX.out]; unfold nb; rw [h1, h2]; rfl) n hkn
          go_ret
          exact ⟨rb _ _ e.symm, HO.out⟩
        · have k1 := sl_any b
          have k2 := dg_any b
          rw [h1] at k1
          rw [h2] at k2
          go_wp2_with (first
            | (go_at_call 161; (with_reducible refine (k1 _).mono ?_); rintro e w1 ⟨rfl, rfl⟩)
            | (go_at_call 162; (with_reducible refine (k2 _).mono ?_); rintro e w1 ⟨rfl, rfl⟩))
          refine ⟨⟨k + 1, hkn, rfl, Lib.hid ?_, ?_⟩, by simp only [intOf]; omega⟩
          · rw [fst, HE.out, ← HX.out]; unfold nb; rw [h1, h2]; rfl
          · first | rfl | trivial
      · have k1 := sl_any b
        rw [h1] at k1
        go_wp2_with (first
          | (go_at_call 161; (with_reducible refine (k1 _).mono ?_); rintro e w1 ⟨rfl, rfl⟩))
        refine ⟨⟨k + 1, hkn, rfl, Lib.hid ?_, ?_⟩, by simp only [intOf]; omega⟩
        · rw [fst, HE.out, ← HX.out]; unfold nb; rw [h1]; rfl
        · first | rfl | trivial
    · have hkn' : k = n := by omega
      subst hkn'
      go_wp2
      go_ret
      exact ⟨rb _ _ HE.out.symm, HO.out⟩

theorem name_any (s : ByteArray) (w : World) : Calls Tryz.prog 147 #[.string s] w fun e w' => e = .returned (.bool (nameB s)) ∧ Old w w' := by
  unfold nameB
  by_cases h : s.toList = []
  · rw [decide_eq_false (by have := ba_nil.1 h; omega)]
    exact name_none s w h
  · have hz : 0 < s.size := Nat.pos_of_ne_zero (fun e => h (ba_nil.2 e))
    by_cases hl : s.size ≤ 12
    · rw [decide_eq_true ⟨hz, hl⟩]
      cases hB : sl (bt s 0)
      · exact name_first s w h hz hl hB
      · obtain ⟨cap, W1, h1, h2, h3⟩ := conv_cells w s
        exact name_loop s w cap W1 h s.size rfl hz hl hB h1 h2 h3
    · rw [decide_eq_false (by omega)]
      exact name_long s w h hl

end Go.Proofs.YtgmjpcaennmgoaaGreatDoor
