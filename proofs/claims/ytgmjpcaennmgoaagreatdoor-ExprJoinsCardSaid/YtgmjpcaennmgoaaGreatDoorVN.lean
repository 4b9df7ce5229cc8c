/- Layer value: texts and names. -/
import Derived.Test.YtgmjpcaennmgoaaGreatDoorOA
import Derived.Laws.IdiomStrings
namespace Go.Proofs.YtgmjpcaennmgoaaGreatDoor
open Go.ChangeShapes Go.WideShapes Go.ChangeAt Go.RowKit
set_option linter.unusedVariables false
set_option maxRecDepth 100000

/-- A byte of a text. -/
def bt (s : ByteArray) (j : Nat) : Int := ((s.data.toList.getD j 0).toNat : Int)
/-- What '[]byte(s)' lays reads as the bytes. -/
theorem conv_cells (w : World) (s : ByteArray) : ∃ cap W1, (convert 9 42 (.string s)).run Tryz.prog w = .ok (.slice (some ⟨w.heap.size, 0, none⟩) s.size cap) W1 ∧ Old w W1 ∧ ∀ j, j < s.size → W1.cell? ⟨w.heap.size, j, none⟩ = some (.int .u8 (bt s j)) := by
  have h := run_bytes_of_string (P := Tryz.prog) w 9 42 5 s Tryz.underlying9 Tryz.underlying42 Tryz.underlying5
  refine ⟨_, _, h, ((Old.refl w).drew).alloc _, fun j hj => ?_⟩
  have hb := (MapKept.heap_alloc w.drew (.cells (bytesRow s (grownCap w s.size 0 5)) 5 ((bytesRow s (grownCap w s.size 0 5)).size, (bytesRow s (grownCap w s.size 0 5)).size + 1))).1
  have hb' : (w.drew.alloc (.cells (bytesRow s (grownCap w s.size 0 5)) 5 ((bytesRow s (grownCap w s.size 0 5)).size, (bytesRow s (grownCap w s.size 0 5)).size + 1))).heap[w.heap.size]? = _ := hb
  simp only [World.cell?, hb']
  have hj' : j < s.data.size := hj
  unfold bytesRow bt
  rw [Array.getElem?_append_left (by simpa using hj'), Array.getElem?_map, Array.getElem?_eq_getElem hj', List.getD_eq_getElem?_getD, Array.getElem?_toList, Array.getElem?_eq_getElem hj']
  rfl

/-- A byte of a Str. -/
def tb (b : Int) : Bool := decide (32 ≤ b) && decide (b ≤ 126)
/-- The first k bytes pass. -/
def fst (p : Int → Bool) (s : ByteArray) : Nat → Bool
  | 0 => true
  | k + 1 => fst p s k && p (bt s k)
theorem fst_no {p : Int → Bool} {s : ByteArray} {j : Nat} (hp : p (bt s j) = false) : ∀ k, j < k → fst p s k = false
  | 0, h => absurd h (Nat.not_lt_zero _)
  | k + 1, h => by
    rw [fst]
    rcases Nat.lt_or_eq_of_le (Nat.le_of_lt_succ h) with h | h
    · rw [fst_no hp k h]; rfl
    · subst h; rw [hp, Bool.and_false]
def textB (s : ByteArray) : Bool := decide (s.size ≤ 200) && fst tb s s.size

set_option maxRecDepth 100000 in
theorem text_loop (s : ByteArray) (w : World) (cap : Nat) (W1 : World) (hs : s.size ≤ 200) (hc : (convert 9 42 (.string s)).run Tryz.prog w = .ok (.slice (some ⟨w.heap.size, 0, none⟩) s.size cap) W1) (ho : Old w W1) (hj : ∀ j, j < s.size → W1.cell? ⟨w.heap.size, j, none⟩ = some (.int .u8 (bt s j))) :
    Calls Tryz.prog 146 #[.string s] w fun e w' => e = .returned (.bool (fst tb s s.size)) ∧ Old w w' := by
  have HA := Lib.hid hj
  have HO := Lib.hid ho
  clear hj ho
  obtain ⟨n, hn⟩ : ∃ n, n = s.size := ⟨_, rfl⟩
  rw [← hn] at hc hs ⊢
  have HN := Lib.hid hn
  go_enter Tryz.func146, Tryz.ntmps146
  have hn' := hn.symm
  clear hn
  go_wp2
  go_loopw [11] (fun i wr => ∃ k : Nat, k ≤ n ∧ i = .int .i64 (k : Int) ∧ Hid (fst tb s k = true) ∧ wr = W1) (fun i _ => (n - intOf i).toNat)
  case atStart => exact ⟨0, Nat.zero_le _, rfl, Lib.hid rfl, rfl⟩
  case round =>
    obtain ⟨k, hk, rfl, HE, rfl⟩ := hrel
    by_cases hkn : k < n
    · have d0 := HA.out k (by rw [← HN.out]; exact hkn)
      obtain ⟨b, hb⟩ : ∃ b, b = bt s k := ⟨_, rfl⟩
      rw [← hb] at d0
      have HX := Lib.hid hb
      clear hb
      by_cases h1 : b < 32
      · go_wp2
        have e : fst tb s n = false := fst_no (by rw [← HX.out]; unfold tb; rw [decide_eq_false (by omega)]; rfl) n hkn
        go_ret
        exact ⟨rb _ _ e.symm, HO.out⟩
      · by_cases h2 : 126 < b
        · go_wp2
          have e : fst tb s n = false := fst_no (by rw [← HX.out]; unfold tb; rw [decide_eq_false (p := b ≤ 126) (by omega), Bool.and_false]) n hkn
          go_ret
          exact ⟨rb _ _ e.symm, HO.out⟩
        · go_wp2
          refine ⟨⟨k + 1, hkn, rfl, Lib.hid ?_, ?_⟩, by simp only [intOf]; omega⟩
          · rw [fst, HE.out, ← HX.out]
            unfold tb
            rw [decide_eq_true (show 32 ≤ b by omega), decide_eq_true (show b ≤ 126 by omega)]
            rfl
          · first | rfl | trivial
    · have hkn' : k = n := by omega
      subst hkn'
      go_wp2
      go_ret
      exact ⟨rb _ _ HE.out.symm, HO.out⟩

theorem text_any (s : ByteArray) (w : World) : Calls Tryz.prog 146 #[.string s] w fun e w' => e = .returned (.bool (textB s)) ∧ Old w w' := by
  by_cases hs : s.size ≤ 200
  · obtain ⟨cap, W1, h1, h2, h3⟩ := conv_cells w s
    have e : textB s = fst tb s s.size := by unfold textB; rw [decide_eq_true hs]; rfl
    rw [e]
    exact text_loop s w cap W1 hs h1 h2 h3
  · have e : textB s = false := by unfold textB; rw [decide_eq_false hs]; rfl
    rw [e]
    go_enter Tryz.func146, Tryz.ntmps146
    go_wp2
    go_ret
    exact ⟨rfl, Old.refl w⟩

end Go.Proofs.YtgmjpcaennmgoaaGreatDoor
