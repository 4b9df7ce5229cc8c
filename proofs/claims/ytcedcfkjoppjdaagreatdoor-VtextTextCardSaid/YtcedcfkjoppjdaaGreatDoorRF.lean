/- The document's own numbers: out of an int64. -/
import Derived.Test.YtcedcfkjoppjdaaGreatDoorRC
namespace Go.Proofs.YtcedcfkjoppjdaaGreatDoor
open Go.ChangeShapes Go.WideShapes Go.ChangeAt Go.RowKit
set_option linter.unusedVariables false

def OfR (w : World) (N : Nat) (n : Int) (v : Value) (wr : World) : Prop := ∃ o : List Int, dig N = o ++ dig n.natAbs ∧ wr.ownsRow (w.heap.size + 1) 3 1 v o.length (o.map (Value.int .i64)) ∧ Below w.heap.size w wr ∧ Two wr w.heap.size (.bool false) (.slice none 0 0)

theorem of_next {w wr w1 : World} {N : Nat} {n m x : Int} {v v' : Value} {o : List Int} {ob : Obj} (hm : m.natAbs = n.natAbs / 10000) (e : dig N = o ++ x :: dig (n.natAbs / 10000))
    (hown : wr.ownsRow (w.heap.size + 1) 3 1 v o.length (o.map (Value.int .i64))) (hbl : Below w.heap.size w wr) (hcl : Two wr w.heap.size (.bool false) (.slice none 0 0))
    (hown' : w1.ownsRow (w.heap.size + 1) 3 1 v' (o.length + 1) (o.map (Value.int .i64) ++ [.int .i64 x])) (hg : (wr.alloc ob).grownBy w1 v.ownBlock) : OfR w N m v' w1 := by
  have hz := hcl.lt
  refine ⟨o ++ [x], by rw [e, hm, List.append_assoc]; rfl, ?_, ?_, ?_⟩
  · rw [List.length_append, List.map_append]; exact hown'
  · exact (hbl.alloc hbl.size ob).grown hg (by simp; omega) (fun j hj => by have := (hown.lt j hj).1; omega)
  · exact (hcl.alloc ob).grown hg (fun h => by have := (hown.lt _ h).1; omega)

set_option maxHeartbeats 1600000 in
set_option maxRecDepth 100000 in
theorem of_any (n0 : Int) (w : World) (h : I64 n0) : Calls Tryz.prog 16 #[.int .i64 n0] w (RetN w (decide (n0 < 0)) (dig n0.natAbs)) := by
  obtain ⟨i0, hi, hz0, hz1, hz2⟩ := info_parts info3
  obtain ⟨N, hN⟩ : ∃ N, N = n0.natAbs := ⟨_, rfl⟩
  have hl : (dig N).length ≤ 5 := dig_len (by unfold I64 at h; show (N : Int) < 100000000000000000000; omega)
  rw [← hN]
  have HN := Lib.hid hN
  clear hN
  unfold I64 at h
  go_enter Tryz.func16, Tryz.ntmps16
  go_wp2
  go_loopw [0, 4, 5] (fun a v _ wr => ∃ n : Int, (-9223372036854775808 ≤ n ∧ n ≤ 9223372036854775807) ∧ a = .int .i64 n ∧ OfR w N n v wr) (fun a _ _ _ => (intOf a).natAbs)
  case atStart => exact ⟨n0, h, rfl, [], by rw [HN.out]; rfl, World.ownsRow_nil _ _ _ _, (Below.refl _ _).alloc (Nat.le_refl _) _, Two.new _ _ _⟩
  case round =>
    obtain ⟨n, hn, rfl, R⟩ := hrel
    by_cases hz : n = 0
    · subst hz
      obtain ⟨o, e, hown, hbl, hcl⟩ := R
      have hR := Rd.of_owns hown
      obtain ⟨oa, cap, rfl, _, _, _⟩ := id hR
      have c0 := hcl.c0
      have c1 := hcl.c1
      have f0 := hcl.f 0
      have f1 := hcl.f 1
      have E := Lib.hid e
      clear e hown
      go_wp2
      have hE : dig N = o := by have := E.out; rw [this, show Int.natAbs 0 = 0 from rfl, dig_zero, List.append_nil]
      rw [hE]
      have ht := Two.set hcl (.bool (decide (n0 < 0))) (.slice oa o.length cap)
      exact bodyPost_ret (v := .agg #[.bool (decide (n0 < 0)), .slice oa o.length cap]) (by simp [results, Tryz.results16, go_sem, ht.c0, ht.c1]) rfl (ret_two hcl (Nat.le_refl _) (Old.ofBelow hbl (Nat.le_refl _)) hR)
    · have hz' : (n == 0) = false := eq0_false hz
      have hz2' : (n != 0) = true := by simpa using hz
      obtain ⟨o, e, hown, hbl, hcl⟩ := R
      have hol : o.length ≤ 5 := by have := congrArg List.length e; rw [List.length_append] at this; omega
      have hR := Rd.of_owns hown
      obtain ⟨oa, cap, rfl, _, _, _⟩ := id hR
      clear hR
      have E := Lib.hid e
      clear e
      obtain ⟨t, ht⟩ : ∃ t, n.tmod 10000 = t := ⟨_, rfl⟩
      obtain ⟨m, hm⟩ : ∃ m, n.tdiv 10000 = m := ⟨_, rfl⟩
      have h1 : t.natAbs = n.natAbs % 10000 := by rw [← ht, Int.natAbs_tmod]; rfl
      have h2 : m.natAbs = n.natAbs / 10000 := by rw [← hm, Int.natAbs_tdiv]; rfl
      have bt : -10000 < t ∧ t < 10000 := by omega
      have bm : -9223372036854775808 ≤ m ∧ m ≤ 9223372036854775807 := by omega
      have hlt : m.natAbs < n.natAbs := by omega
      have HT := Lib.hid h1
      have HM := Lib.hid h2
      clear h1 h2
      by_cases hneg : t < 0
      ·
        have hx : (-t : Int) = ((n.natAbs % 10000 : Nat) : Int) := by have := HT.out; omega
        have HX := Lib.hid hx
        clear hx
        go_wp2_with (at_builtin; refine wpList_append_own _ rfl _ _ 38 rfl (w.heap.size + 1) 3 i0 (.int .i64 0) 1 8 Tryz.underlying38 hi hz0 hz1 hz2 rfl (by decide) _ _ _ rfl (hown.alloc _) ⟨wr.heap.size, 0, none⟩ 1 1 [.int .i64 (-t)] rfl rfl (new_one _ _ _) (one_int _) (by unfold maxLen; omega) (by omega) (by have := hcl.lt; simp; omega) ?_)
        intro v' w1 hown' hgrow _
        have R' : OfR w N m v' w1 := of_next HM.out (by have := E.out; rw [dig_pos (n := n.natAbs) (by omega)] at this; rw [this, HX.out]) hown hbl hcl hown' hgrow
        clear hown' hgrow hown HX HT HM E hbl hcl
        go_wp2
        go_roundw
        case rel => exact ⟨m, bm, rfl, R'⟩
        case measure => simp [intOf]; omega
      ·
        have hx : (t : Int) = ((n.natAbs % 10000 : Nat) : Int) := by have := HT.out; omega
        have HX := Lib.hid hx
        clear hx
        go_wp2_with (at_builtin; refine wpList_append_own _ rfl _ _ 38 rfl (w.heap.size + 1) 3 i0 (.int .i64 0) 1 8 Tryz.underlying38 hi hz0 hz1 hz2 rfl (by decide) _ _ _ rfl (hown.alloc _) ⟨wr.heap.size, 0, none⟩ 1 1 [.int .i64 (t)] rfl rfl (new_one _ _ _) (one_int _) (by unfold maxLen; omega) (by omega) (by have := hcl.lt; simp; omega) ?_)
        intro v' w1 hown' hgrow _
        have R' : OfR w N m v' w1 := of_next HM.out (by have := E.out; rw [dig_pos (n := n.natAbs) (by omega)] at this; rw [this, HX.out]) hown hbl hcl hown' hgrow
        clear hown' hgrow hown HX HT HM E hbl hcl
        go_wp2
        go_roundw
        case rel => exact ⟨m, bm, rfl, R'⟩
        case measure => simp [intOf]; omega

end Go.Proofs.YtcedcfkjoppjdaaGreatDoor
