/- What the laws know. -/
import Derived.Test.YtdcfaniimhjghaaOK
namespace Go.Proofs.Ytdcfaniimhjghaa
open Go.ChangeShapes Go.WideShapes Go.ChangeAt Go.RowKit Go.Lib Go.Sort
set_option linter.unusedVariables false
set_option linter.unusedSimpArgs false
set_option maxRecDepth 100000
set_option maxHeartbeats 3200000

theorem size25 : (Try.prog.info? 25).map (·.size) = some 3 := by kernel_rfl
theorem set3 {w : World} {g : Nat} {a b c : Value} {t : TypeId} {fr : Nat × Nat} (h : w.heap[g]? = some (.cells #[a, b, c] t fr)) (x y z : Value) : (((w.setCell ⟨g, 0, none⟩ x).setCell ⟨g, 1, none⟩ y).setCell ⟨g, 2, none⟩ z).heap[g]? = some (.cells #[x, y, z] t fr) := by
  simp [World.setCell, Array.getElem?_modify, h]
theorem of_any {w : World} {v : Value} {l : List Int} (h : IR w v l) : Calls Try.prog 19 #[v] w fun e w' => e = .returned (av (⟨0, l, 0⟩, v)) ∧ Old w w' := by
  obtain ⟨oa, ca, rfl⟩ := h.slice
  clear h
  unfold av
  simp only
  generalize l.length = n
  have HBK := Lib.hid (MapKept.heap_alloc w (.cells #[.int .i64 0, .slice oa n ca, .int .i64 0] 25)).1
  go_enter Try.func19, Try.ntmps19
  go_wp2_with fail
  (try simp only [Exit.inBlock, Exit.then]); refine bodyPost_ret (results_cell_row rfl _ _ w.heap.size 25 _ (0, 0) _ rfl HBK.out Try.underlying25 rfl size25) rfl ?_
  exact ⟨rfl, (Old.refl w).alloc _⟩
theorem ir_two (w : World) (x y : Int) : IR (w.alloc (.cells #[.int .i64 x, .int .i64 y] 3)) (.slice (some ⟨w.heap.size, 0, none⟩) 2 2) [x, y] :=
  CR.owned (base := 0) (e := 3) ⟨rfl, Or.inr ⟨_, 2, _, rfl, Nat.zero_le _, (MapKept.heap_alloc w _).1, Nat.le_refl _, by unfold maxLen; omega, rfl, rfl⟩⟩
theorem ir_one (w : World) (x : Int) : IR (w.alloc (.cells #[.int .i64 x] 3)) (.slice (some ⟨w.heap.size, 0, none⟩) 1 1) [x] :=
  (ints_one (Nat.zero_le _) (MapKept.heap_alloc w _).1).ir
theorem kn0 : cmpA 1 ⟨0, [3, 5], 0⟩ ⟨0, [4, 4], 0⟩ = -1 := by
  have e1 : srt [3, 5] = [5, 3] := (srt_only (by decide) (by decide)).symm
  have e2 : srt [4, 4] = [4, 4] := (srt_only (by decide) (by decide)).symm
  simp only [cmpA, vec, e1, e2]
  decide
theorem kn1 : cmpA 2 ⟨0, [3, 5], 0⟩ ⟨0, [4, 4], 0⟩ = 1 := by
  have e1 : srt [3, 5] = [5, 3] := (srt_only (by decide) (by decide)).symm
  have e2 : srt [4, 4] = [4, 4] := (srt_only (by decide) (by decide)).symm
  simp only [cmpA, vec, e1, e2]
  decide
theorem kn2 : cmpA 3 ⟨0, [5, 3], 0⟩ ⟨0, [5], 0⟩ = -1 := by
  have e1 : srt [5, 3] = [5, 3] := (srt_only (by decide) (by decide)).symm
  have e2 : srt [5] = [5] := (srt_only (by decide) (by decide)).symm
  simp only [cmpA, vec, e1, e2]
  decide
theorem kn3 : cmpA 3 ⟨0, [1, 2], 0⟩ ⟨0, [2, 1], 0⟩ = -1 := by
  have e1 : srt [1, 2] = [2, 1] := (srt_only (by decide) (by decide)).symm
  have e2 : srt [2, 1] = [2, 1] := (srt_only (by decide) (by decide)).symm
  simp only [cmpA, vec, e1, e2]
  decide
theorem known_any (w : World) : Calls Try.prog 8 #[] w fun e w' => e = .returned (.bool true) ∧ Old w w' := by
  have HW := Lib.hid (Old.refl w)
  go_enter Try.func8, Try.ntmps8
  go_wp2_with (first
    | (go_at_call 19; (with_reducible refine (of_any (ir_two w 3 5)).mono ?_); rintro e w1 ⟨rfl, ho⟩; have Ow1 := Lib.hid ho; clear ho)
    | (go_at_call 19; (with_reducible refine (of_any (ir_two w1 4 4)).mono ?_); rintro e w2 ⟨rfl, ho⟩; have Ow2 := Lib.hid ho; clear ho)
    | (go_at_call 11; (with_reducible refine (cmp_any 1 (⟨0, [3, 5], 0⟩, (.slice (some ⟨w.heap.size, 0, none⟩) 2 2)) (⟨0, [4, 4], 0⟩, (.slice (some ⟨w1.heap.size, 0, none⟩) 2 2)) (IR.old (IR.old (ir_two w 3 5) Ow1.out) (((Old.refl w1).alloc (.cells #[.int .i64 4, .int .i64 4] 3)).trans Ow2.out)) (IR.old (ir_two w1 4 4) Ow2.out) (Nat.le_of_ble_eq_true rfl) (Nat.le_of_ble_eq_true rfl)).mono ?_); rintro e w3 ⟨rfl, ho⟩; rw [kn0]; have Ow3 := Lib.hid (((((Old.refl w).alloc (.cells #[.int .i64 3, .int .i64 5] 3)).trans Ow1.out).alloc (.cells #[.int .i64 4, .int .i64 4] 3)).trans (Ow2.out.trans ho)); clear ho)
    | (go_at_call 19; (with_reducible refine (of_any (ir_two w3 3 5)).mono ?_); rintro e w4 ⟨rfl, ho⟩; have Ow4 := Lib.hid ho; clear ho)
    | (go_at_call 19; (with_reducible refine (of_any (ir_two w4 4 4)).mono ?_); rintro e w5 ⟨rfl, ho⟩; have Ow5 := Lib.hid ho; clear ho)
    | (go_at_call 11; (with_reducible refine (cmp_any 2 (⟨0, [3, 5], 0⟩, (.slice (some ⟨w3.heap.size, 0, none⟩) 2 2)) (⟨0, [4, 4], 0⟩, (.slice (some ⟨w4.heap.size, 0, none⟩) 2 2)) (IR.old (IR.old (ir_two w3 3 5) Ow4.out) (((Old.refl w4).alloc (.cells #[.int .i64 4, .int .i64 4] 3)).trans Ow5.out)) (IR.old (ir_two w4 4 4) Ow5.out) (Nat.le_of_ble_eq_true rfl) (Nat.le_of_ble_eq_true rfl)).mono ?_); rintro e w6 ⟨rfl, ho⟩; rw [kn1]; have Ow6 := Lib.hid (((((Old.refl w3).alloc (.cells #[.int .i64 3, .int .i64 5] 3)).trans Ow4.out).alloc (.cells #[.int .i64 4, .int .i64 4] 3)).trans (Ow5.out.trans ho)); clear ho)
    | (go_at_call 19; (with_reducible refine (of_any (ir_two w6 5 3)).mono ?_); rintro e w7 ⟨rfl, ho⟩; have Ow7 := Lib.hid ho; clear ho)
    | (go_at_call 19; (with_reducible refine (of_any (ir_one w7 5)).mono ?_); rintro e w8 ⟨rfl, ho⟩; have Ow8 := Lib.hid ho; clear ho)
    | (go_at_call 11; (with_reducible refine (cmp_any 3 (⟨0, [5, 3], 0⟩, (.slice (some ⟨w6.heap.size, 0, none⟩) 2 2)) (⟨0, [5], 0⟩, (.slice (some ⟨w7.heap.size, 0, none⟩) 1 1)) (IR.old (IR.old (ir_two w6 5 3) Ow7.out) (((Old.refl w7).alloc (.cells #[.int .i64 5] 3)).trans Ow8.out)) (IR.old (ir_one w7 5) Ow8.out) (Nat.le_of_ble_eq_true rfl) (Nat.le_of_ble_eq_true rfl)).mono ?_); rintro e w9 ⟨rfl, ho⟩; rw [kn2]; have Ow9 := Lib.hid (((((Old.refl w6).alloc (.cells #[.int .i64 5, .int .i64 3] 3)).trans Ow7.out).alloc (.cells #[.int .i64 5] 3)).trans (Ow8.out.trans ho)); clear ho)
    | (go_at_call 19; (with_reducible refine (of_any (ir_two w9 1 2)).mono ?_); rintro e w10 ⟨rfl, ho⟩; have Ow10 := Lib.hid ho; clear ho)
    | (go_at_call 19; (with_reducible refine (of_any (ir_two w10 2 1)).mono ?_); rintro e w11 ⟨rfl, ho⟩; have Ow11 := Lib.hid ho; clear ho)
    | (go_at_call 11; (with_reducible refine (cmp_any 3 (⟨0, [1, 2], 0⟩, (.slice (some ⟨w9.heap.size, 0, none⟩) 2 2)) (⟨0, [2, 1], 0⟩, (.slice (some ⟨w10.heap.size, 0, none⟩) 2 2)) (IR.old (IR.old (ir_two w9 1 2) Ow10.out) (((Old.refl w10).alloc (.cells #[.int .i64 2, .int .i64 1] 3)).trans Ow11.out)) (IR.old (ir_two w10 2 1) Ow11.out) (Nat.le_of_ble_eq_true rfl) (Nat.le_of_ble_eq_true rfl)).mono ?_); rintro e w12 ⟨rfl, ho⟩; rw [kn3]; have Ow12 := Lib.hid (((((Old.refl w9).alloc (.cells #[.int .i64 1, .int .i64 2] 3)).trans Ow10.out).alloc (.cells #[.int .i64 2, .int .i64 1] 3)).trans (Ow11.out.trans ho)); clear ho))
  go_ret
  exact ⟨rfl, Ow3.out.trans (Ow6.out.trans (Ow9.out.trans Ow12.out))⟩
end Go.Proofs.Ytdcfaniimhjghaa
