/- The document's own numbers: digits taken away. -/
import Derived.Test.YtcedcfkjoppjdaaGreatDoorRA
namespace Go.Proofs.YtcedcfkjoppjdaaGreatDoor
open Go.ChangeShapes Go.WideShapes Go.ChangeAt Go.RowKit
set_option linter.unusedVariables false

def DnR (w : World) (a b : List Int) (k : Nat) (v : Value) (wr : World) : Prop := wr.ownsRow w.heap.size 3 1 v k ((dnK a b k).1.map (Value.int .i64)) ∧ Below w.heap.size w wr
theorem DnR.next {w : World} {a b : List Int} {k : Nat} {v v' : Value} {wr w1 : World} {d : Int} {o : Obj} (h : DnR w a b k v wr) (hd : (dnK a b (k + 1)).1 = (dnK a b k).1 ++ [d])
    (hown : w1.ownsRow w.heap.size 3 1 v' (k + 1) ((dnK a b k).1.map (Value.int .i64) ++ [.int .i64 d])) (hg : (wr.alloc o).grownBy w1 v.ownBlock) : DnR w a b (k + 1) v' w1 := by
  refine ⟨?_, ?_⟩
  · rw [hd, List.map_append]; exact hown
  · have hz := h.2.size
    refine (h.2.alloc hz o).grown hg (by simp; omega) (fun j hj => (h.1.lt j hj).1)
theorem DnR.low {w : World} {a b : List Int} {k : Nat} {v v' : Value} {wr w1 : World} {x : Int} {o : Obj} (h : DnR w a b k v wr) (e : x = a.getD k 0 - (dnK a b k).2 - b.getD k 0) (hx : x < 0)
    (hown : w1.ownsRow w.heap.size 3 1 v' (k + 1) ((dnK a b k).1.map (Value.int .i64) ++ [.int .i64 (x + 10000)])) (hg : (wr.alloc o).grownBy w1 v.ownBlock) : DnR w a b (k + 1) v' w1 :=
  h.next (by rw [dnK, ← e, if_pos hx]) hown hg
theorem DnR.high {w : World} {a b : List Int} {k : Nat} {v v' : Value} {wr w1 : World} {x : Int} {o : Obj} (h : DnR w a b k v wr) (e : x = a.getD k 0 - (dnK a b k).2 - b.getD k 0) (hx : ¬ x < 0)
    (hown : w1.ownsRow w.heap.size 3 1 v' (k + 1) ((dnK a b k).1.map (Value.int .i64) ++ [.int .i64 x])) (hg : (wr.alloc o).grownBy w1 v.ownBlock) : DnR w a b (k + 1) v' w1 :=
  h.next (by rw [dnK, ← e, if_neg hx]) hown hg
theorem dn_low {a b : List Int} {k : Nat} {x : Int} (e : x = a.getD k 0 - (dnK a b k).2 - b.getD k 0) (hx : x < 0) : 1 = (dnK a b (k + 1)).2 := by rw [dnK, ← e, if_pos hx]
theorem dn_high {a b : List Int} {k : Nat} {x : Int} (e : x = a.getD k 0 - (dnK a b k).2 - b.getD k 0) (hx : ¬ x < 0) : 0 = (dnK a b (k + 1)).2 := by rw [dnK, ← e, if_neg hx]

set_option maxHeartbeats 1600000 in
set_option maxRecDepth 100000 in
theorem down_any (a b : List Int) (va vb : Value) (w : World) (ha : Rd w va a) (hb : Rd w vb b) (da : Dg a) (db : Dg b) (la : a.length ≤ 1000) (lb : b.length ≤ 1000) :
    Calls Tryz.prog 95 #[va, vb] w (RetD w (dnL a b)) := by
  obtain ⟨oa, ca, rfl, a1, a2, a3⟩ := ha
  obtain ⟨ob, cb, rfl, b1, b2, b3⟩ := hb
  obtain ⟨i0, hi, hz0, hz1, hz2⟩ := info_parts info3
  have HE : Hid (dnL a b = (dnK a b a.length).1) := rfl
  go_enter Tryz.func95, Tryz.ntmps95
  go_wp2
  go_loopw [5, 6, 7, 8] (fun v m i _ wr => ∃ (k : Nat) (c : Int), k ≤ a.length ∧ i = .int .i64 k ∧ m = .int .i64 c ∧ Hid (c = (dnK a b k).2) ∧ DnR w a b k v wr) (fun _ _ i _ _ => a.length - (intOf i).toNat)
  case atStart => exact ⟨0, 0, Nat.zero_le _, rfl, rfl, rfl, World.ownsRow_nil _ _ _ _, Below.refl _ _⟩
  case round =>
    obtain ⟨k, c, hk, rfl, rfl, HCk, R⟩ := hrel
    have hc : 0 ≤ c ∧ c ≤ 1 := by have := dnK_m a b k; rw [← HCk.out] at this; omega
    by_cases hka : k < a.length
    · obtain ⟨x, hx⟩ : ∃ x, x = a.getD k 0 := ⟨_, rfl⟩
      obtain ⟨y, hy⟩ : ∃ y, y = b.getD k 0 := ⟨_, rfl⟩
      have dx := dg_getD da k
      have dy := dg_getD db k
      rw [← hx] at dx
      rw [← hy] at dy
      have HX := Lib.hid hx
      have HY := Lib.hid hy
      clear hx hy
      obtain ⟨g, rfl, hgl, hcell⟩ := a3 k hka
      have hcx := (R.2.cell (p := ⟨g, k, none⟩) hgl).trans hcell
      rw [← HX.out] at hcx
      clear hcell
      by_cases hkb : k < b.length
      · obtain ⟨g', rfl, hgl', hcell'⟩ := b3 k hkb
        have hcy := (R.2.cell (p := ⟨g', k, none⟩) hgl').trans hcell'
        rw [← HY.out] at hcy
        clear hcell'
        by_cases hneg : x - c - y < 0
        · clear a3 b3
          go_wp2_with (at_builtin; refine wpList_append_own _ rfl _ _ 38 rfl w.heap.size 3 i0 (.int .i64 0) 1 8 Tryz.underlying38 hi hz0 hz1 hz2 rfl (by decide) _ _ _ rfl (R.1.alloc _) ⟨wr.heap.size, 0, none⟩ 1 1 [.int .i64 (x - c - y + 10000)] rfl rfl (new_one _ _ _) (one_int _) (by unfold maxLen; omega) (by omega) (by have := R.2.size; simp; omega) ?_)
          intro v' w1 hown' hgrow _
          have e : x - c - y = a.getD k 0 - (dnK a b k).2 - b.getD k 0 := by rw [← HCk.out, ← HX.out, ← HY.out]
          have R' := R.low (x := x - c - y) e (by omega) hown' hgrow
          have HC' := Lib.hid (dn_low e (by omega))
          clear hown' hgrow R HCk HX HY e
          go_wp2
          go_roundw
          case rel => exact ⟨k + 1, 1, by omega, by go_num, rfl, HC', R'⟩
          case measure => simp [intOf]; omega
        · clear a3 b3
          go_wp2_with (at_builtin; refine wpList_append_own _ rfl _ _ 38 rfl w.heap.size 3 i0 (.int .i64 0) 1 8 Tryz.underlying38 hi hz0 hz1 hz2 rfl (by decide) _ _ _ rfl (R.1.alloc _) ⟨wr.heap.size, 0, none⟩ 1 1 [.int .i64 (x - c - y)] rfl rfl (new_one _ _ _) (one_int _) (by unfold maxLen; omega) (by omega) (by have := R.2.size; simp; omega) ?_)
          intro v' w1 hown' hgrow _
          have e : x - c - y = a.getD k 0 - (dnK a b k).2 - b.getD k 0 := by rw [← HCk.out, ← HX.out, ← HY.out]
          have R' := R.high (x := x - c - y) e (by omega) hown' hgrow
          have HC' := Lib.hid (dn_high e (by omega))
          clear hown' hgrow R HCk HX HY e
          go_wp2
          go_roundw
          case rel => exact ⟨k + 1, 0, by omega, by go_num, rfl, HC', R'⟩
          case measure => simp [intOf]; omega
      · have hy0 : y = 0 := HY.out.trans (getD_past (by omega))
        subst hy0
        by_cases hneg : x - c < 0
        · clear a3 b3
          go_wp2_with (at_builtin; refine wpList_append_own _ rfl _ _ 38 rfl w.heap.size 3 i0 (.int .i64 0) 1 8 Tryz.underlying38 hi hz0 hz1 hz2 rfl (by decide) _ _ _ rfl (R.1.alloc _) ⟨wr.heap.size, 0, none⟩ 1 1 [.int .i64 (x - c + 10000)] rfl rfl (new_one _ _ _) (one_int _) (by unfold maxLen; omega) (by omega) (by have := R.2.size; simp; omega) ?_)
          intro v' w1 hown' hgrow _
          have e : x - c = a.getD k 0 - (dnK a b k).2 - b.getD k 0 := by rw [← HCk.out, ← HX.out, ← HY.out]; omega
          have R' := R.low (x := x - c) e (by omega) hown' hgrow
          have HC' := Lib.hid (dn_low e (by omega))
          clear hown' hgrow R HCk HX HY e
          go_wp2
          go_roundw
          case rel => exact ⟨k + 1, 1, by omega, by go_num, rfl, HC', R'⟩
          case measure => simp [intOf]; omega
        · clear a3 b3
          go_wp2_with (at_builtin; refine wpList_append_own _ rfl _ _ 38 rfl w.heap.size 3 i0 (.int .i64 0) 1 8 Tryz.underlying38 hi hz0 hz1 hz2 rfl (by decide) _ _ _ rfl (R.1.alloc _) ⟨wr.heap.size, 0, none⟩ 1 1 [.int .i64 (x - c)] rfl rfl (new_one _ _ _) (one_int _) (by unfold maxLen; omega) (by omega) (by have := R.2.size; simp; omega) ?_)
          intro v' w1 hown' hgrow _
          have e : x - c = a.getD k 0 - (dnK a b k).2 - b.getD k 0 := by rw [← HCk.out, ← HX.out, ← HY.out]; omega
          have R' := R.high (x := x - c) e (by omega) hown' hgrow
          have HC' := Lib.hid (dn_high e (by omega))
          clear hown' hgrow R HCk HX HY e
          go_wp2
          go_roundw
          case rel => exact ⟨k + 1, 0, by omega, by go_num, rfl, HC', R'⟩
          case measure => simp [intOf]; omega
    · obtain rfl : k = a.length := by omega
      clear a3 b3
      go_wp2
      go_ret
      exact ⟨_, rfl, by rw [HE.out]; exact Rd.of_owns R.1, Old.ofBelow R.2 (Nat.le_refl _)⟩

end Go.Proofs.YtcedcfkjoppjdaaGreatDoor
