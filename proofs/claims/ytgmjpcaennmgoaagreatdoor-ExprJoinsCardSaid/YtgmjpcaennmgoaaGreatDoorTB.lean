/- Layer lexer: bytes; a reader's four cells; is there such a byte. -/
import Derived.Test.YtgmjpcaennmgoaaGreatDoorTA
import Derived.Laws.IdiomStrings
namespace Go.Proofs.YtgmjpcaennmgoaaGreatDoor
open Go.ChangeShapes Go.WideShapes Go.ChangeAt Go.RowKit Go.Lib
set_option linter.unusedVariables false
set_option linter.unusedSimpArgs false
set_option maxRecDepth 100000

/-- A reader: its source, what is read, its line, where that begins. -/
def Rdr (w : World) (b : Nat) (s : ByteArray) (i L B : Int) : Prop := w.heap[b]? = some (.cells #[.string s, .int .i64 i, .int .i64 L, .int .i64 B] 77 (0, 0))
theorem Rdr.c0 {w : World} {b : Nat} {s : ByteArray} {i L B : Int} (h : Rdr w b s i L B) : w.cell? ⟨b, 0, none⟩ = some (.string s) := by unfold Rdr at h; simp [World.cell?, h]
theorem Rdr.c1 {w : World} {b : Nat} {s : ByteArray} {i L B : Int} (h : Rdr w b s i L B) : w.cell? ⟨b, 1, none⟩ = some (.int .i64 i) := by unfold Rdr at h; simp [World.cell?, h]
theorem Rdr.c2 {w : World} {b : Nat} {s : ByteArray} {i L B : Int} (h : Rdr w b s i L B) : w.cell? ⟨b, 2, none⟩ = some (.int .i64 L) := by unfold Rdr at h; simp [World.cell?, h]
theorem Rdr.c3 {w : World} {b : Nat} {s : ByteArray} {i L B : Int} (h : Rdr w b s i L B) : w.cell? ⟨b, 3, none⟩ = some (.int .i64 B) := by unfold Rdr at h; simp [World.cell?, h]
theorem Rdr.f {w : World} {b : Nat} {s : ByteArray} {i L B : Int} (h : Rdr w b s i L B) (o : Nat) : w.frozen? ⟨b, o, none⟩ = false := by unfold Rdr at h; simp [World.frozen?, h]
theorem Rdr.lt {w : World} {b : Nat} {s : ByteArray} {i L B : Int} (h : Rdr w b s i L B) : b < w.heap.size := blk_lt h
theorem Rdr.old {w w' : World} {b : Nat} {s : ByteArray} {i L B : Int} (h : Rdr w b s i L B) (ho : Old w w') : Rdr w' b s i L B := (ho.block b h.lt).trans h
theorem Rdr.set1 {w : World} {b : Nat} {s : ByteArray} {i L B : Int} (h : Rdr w b s i L B) (u : Int) : Rdr (w.setCell ⟨b, 1, none⟩ (.int .i64 u)) b s u L B := by
  have hlt := h.lt
  unfold Rdr at *
  show (w.heap.modify b _)[b]? = _
  rw [Array.getElem?_modify, if_pos rfl, h]
  simp
theorem Rdr.set2 {w : World} {b : Nat} {s : ByteArray} {i L B : Int} (h : Rdr w b s i L B) (u : Int) : Rdr (w.setCell ⟨b, 2, none⟩ (.int .i64 u)) b s i u B := by
  have hlt := h.lt
  unfold Rdr at *
  show (w.heap.modify b _)[b]? = _
  rw [Array.getElem?_modify, if_pos rfl, h]
  simp
theorem Rdr.set3 {w : World} {b : Nat} {s : ByteArray} {i L B : Int} (h : Rdr w b s i L B) (u : Int) : Rdr (w.setCell ⟨b, 3, none⟩ (.int .i64 u)) b s i L u := by
  have hlt := h.lt
  unfold Rdr at *
  show (w.heap.modify b _)[b]? = _
  rw [Array.getElem?_modify, if_pos rfl, h]
  simp

theorem idx_any (s : ByteArray) (i : Nat) (c : UInt8) (h : s.data.toList[i]? = some c) (W : World) : (Instr.index 9 (.string s) (.int .i64 (i : Int))).run Tryz.prog W = .ok (.int .u8 (c.toNat : Int)) W := by
  have hi : i < s.data.size := by have := (List.getElem?_eq_some_iff.1 h).1; simpa using this
  have hz : i < s.size := hi
  have e : s[i] = c := by
    rw [Array.getElem?_toList, Array.getElem?_eq_getElem hi] at h
    injection h
  simp [Instr.index, Sem.run_bind, run_underlying Tryz.underlying9, hz, e, go_sem]

theorem small_any (b : Int) (w : World) : Calls Tryz.prog 83 #[.int .u8 b] w fun e w' => e = .returned (.bool (decide (97 ≤ b ∧ b ≤ 122))) ∧ w = w' := by
  by_cases h1 : 97 ≤ b
  · by_cases h2 : b ≤ 122
    · rw [decide_eq_true ⟨h1, h2⟩]
      go_enter Tryz.func83, Tryz.ntmps83
      go_wp2
      go_ret
      exact ⟨by simp [h1, h2], rfl⟩
    · rw [decide_eq_false (fun h => h2 h.2)]
      go_enter Tryz.func83, Tryz.ntmps83
      go_wp2
      go_ret
      exact ⟨by simp [h1, h2], rfl⟩
  · rw [decide_eq_false (fun h => h1 h.1)]
    go_enter Tryz.func83, Tryz.ntmps83
    go_wp2
    go_ret
    exact ⟨by simp [h1], rfl⟩
theorem dig_any (b : Int) (w : World) : Calls Tryz.prog 84 #[.int .u8 b] w fun e w' => e = .returned (.bool (decide (48 ≤ b ∧ b ≤ 57))) ∧ w = w' := by
  by_cases h1 : 48 ≤ b
  · by_cases h2 : b ≤ 57
    · rw [decide_eq_true ⟨h1, h2⟩]
      go_enter Tryz.func84, Tryz.ntmps84
      go_wp2
      go_ret
      exact ⟨by simp [h1, h2], rfl⟩
    · rw [decide_eq_false (fun h => h2 h.2)]
      go_enter Tryz.func84, Tryz.ntmps84
      go_wp2
      go_ret
      exact ⟨by simp [h1, h2], rfl⟩
  · rw [decide_eq_false (fun h => h1 h.1)]
    go_enter Tryz.func84, Tryz.ntmps84
    go_wp2
    go_ret
    exact ⟨by simp [h1], rfl⟩
theorem sm_any (c : UInt8) (w : World) : Calls Tryz.prog 83 #[.int .u8 (c.toNat : Int)] w fun e w' => e = .returned (.bool (sm c)) ∧ w = w' := by
  have e : sm c = decide ((97 : Int) ≤ (c.toNat : Int) ∧ (c.toNat : Int) ≤ 122) := by unfold sm; congr 1; simp only [eq_iff_iff]; omega
  rw [e]; exact small_any _ w
theorem dgc_any (c : UInt8) (w : World) : Calls Tryz.prog 84 #[.int .u8 (c.toNat : Int)] w fun e w' => e = .returned (.bool (dgc c)) ∧ w = w' := by
  have e : dgc c = decide ((48 : Int) ≤ (c.toNat : Int) ∧ (c.toNat : Int) ≤ 57) := by unfold dgc; congr 1; simp only [eq_iff_iff]; omega
  rw [e]; exact dig_any _ w
theorem nm_any (c : UInt8) (w : World) : Calls Tryz.prog 89 #[.int .u8 (c.toNat : Int)] w fun e w' => e = .returned (.bool (nm c)) ∧ w = w' := by
  have h1 := fun W => sm_any c W
  have h2 := fun W => dgc_any c W
  unfold nm
  cases hs : sm c with
  | true =>
    rw [hs] at h1
    go_enter Tryz.func89, Tryz.ntmps89
    go_wp2_with (go_at_call 83; (with_reducible refine (h1 _).mono ?_); rintro e w' ⟨rfl, rfl⟩)
    go_ret
    exact ⟨rfl, rfl⟩
  | false =>
    rw [hs] at h1
    go_enter Tryz.func89, Tryz.ntmps89
    go_wp2_with (first
      | (go_at_call 83; (with_reducible refine (h1 _).mono ?_); rintro e w' ⟨rfl, rfl⟩)
      | (go_at_call 84; (with_reducible refine (h2 _).mono ?_); rintro e w' ⟨rfl, rfl⟩))
    go_ret
    exact ⟨by simp, rfl⟩

theorem isAt_sm (w : World) (b : Nat) (s : ByteArray) (j L B : Int) (hr : Rdr w b s j L B) (i : Nat) (hi64 : i ≤ 1000000) :
    Calls Tryz.prog 85 #[.pointer (some ⟨b, 0, none⟩), .int .i64 (i : Int), .func (.func 83) #[] #[]] w fun e w' => e = .returned (.bool (hd sm (s.data.toList.drop i))) ∧ w = w' := by
  have c0 := hr.c0
  have f0 := hr.f 0
  have hz : s.data.toList.length = s.size := Array.length_toList
  rcases Nat.lt_or_ge i s.size with hi | hi
  · obtain ⟨c, hc⟩ : ∃ c, s.data.toList[i]? = some c := ⟨_, List.getElem?_eq_getElem (by omega)⟩
    have hx := fun W => idx_any s i c hc W
    have h1 := fun W => sm_any c W
    have e : hd sm (s.data.toList.drop i) = sm c := by
      rw [List.drop_eq_getElem_cons (by omega)]
      have := (List.getElem?_eq_some_iff.1 hc).2
      rw [this]; rfl
    rw [e]
    clear e hc hz
    go_enter Tryz.func85, Tryz.ntmps85
    go_wp2_with (first
      | (go_at_call 83; (with_reducible refine (h1 _).mono ?_); rintro e w' ⟨rfl, rfl⟩))
    go_ret
    exact ⟨rfl, rfl⟩
  · have e : hd sm (s.data.toList.drop i) = false := by rw [List.drop_eq_nil_of_le (by omega)]; rfl
    rw [e]
    clear e hz
    go_enter Tryz.func85, Tryz.ntmps85
    go_wp2
    go_ret
    exact ⟨rfl, rfl⟩
theorem isAt_dgc (w : World) (b : Nat) (s : ByteArray) (j L B : Int) (hr : Rdr w b s j L B) (i : Nat) (hi64 : i ≤ 1000000) :
    Calls Tryz.prog 85 #[.pointer (some ⟨b, 0, none⟩), .int .i64 (i : Int), .func (.func 84) #[] #[]] w fun e w' => e = .returned (.bool (hd dgc (s.data.toList.drop i))) ∧ w = w' := by
  have c0 := hr.c0
  have f0 := hr.f 0
  have hz : s.data.toList.length = s.size := Array.length_toList
  rcases Nat.lt_or_ge i s.size with hi | hi
  · obtain ⟨c, hc⟩ : ∃ c, s.data.toList[i]? = some c := ⟨_, List.getElem?_eq_getElem (by omega)⟩
    have hx := fun W => idx_any s i c hc W
    have h1 := fun W => dgc_any c W
    have e : hd dgc (s.data.toList.drop i) = dgc c := by
      rw [List.drop_eq_getElem_cons (by omega)]
      have := (List.getElem?_eq_some_iff.1 hc).2
      rw [this]; rfl
    rw [e]
    clear e hc hz
    go_enter Tryz.func85, Tryz.ntmps85
    go_wp2_with (first
      | (go_at_call 84; (with_reducible refine (h1 _).mono ?_); rintro e w' ⟨rfl, rfl⟩))
    go_ret
    exact ⟨rfl, rfl⟩
  · have e : hd dgc (s.data.toList.drop i) = false := by rw [List.drop_eq_nil_of_le (by omega)]; rfl
    rw [e]
    clear e hz
    go_enter Tryz.func85, Tryz.ntmps85
    go_wp2
    go_ret
    exact ⟨rfl, rfl⟩
end Go.Proofs.YtgmjpcaennmgoaaGreatDoor
