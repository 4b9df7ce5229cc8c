/- The closures' list, an activation's vector. -/
import Derived.Test.YtdcfaniimhjghaaOH
namespace Go.Proofs.Ytdcfaniimhjghaa
open Go.ChangeShapes Go.WideShapes Go.ChangeAt Go.RowKit Go.Lib Go.Sort
set_option linter.unusedVariables false
set_option linter.unusedSimpArgs false
set_option maxRecDepth 100000
set_option maxHeartbeats 1600000

theorem ls_new (w : World) (s : Int) : LS ((w.alloc (.cells #[.int .u8 s] 5)).alloc (.cells #[.func (.func 35) #[] #[], .func (.func 36) #[] #[.pointer (some ⟨w.heap.size, 0, none⟩)], .func (.func 38) #[] #[], .func (.func 39) #[] #[]] 53)) (.slice (some ⟨w.heap.size + 1, 0, none⟩) 4 4) s := by
  generalize hY : Obj.cells #[.func (.func 35) #[] #[], .func (.func 36) #[] #[.pointer (some ⟨w.heap.size, 0, none⟩)], .func (.func 38) #[] #[], .func (.func 39) #[] #[]] 53 = Y
  have h1 := (MapKept.heap_alloc (w.alloc (.cells #[.int .u8 s] 5)) Y).1
  rw [sz_alloc, ← hY] at h1
  have h0 := ((Old.refl (w.alloc (.cells #[.int .u8 s] 5))).alloc Y).block w.heap.size (by simp)
  rw [(MapKept.heap_alloc w (.cells #[.int .u8 s] 5)).1] at h0
  rw [hY] at h1
  generalize (w.alloc (.cells #[.int .u8 s] 5)).alloc Y = W at *
  rw [← hY] at h1
  exact ⟨w.heap.size + 1, w.heap.size, 4, rfl, blk_lt h1, blk_lt h0, by simp [World.cell?, h0], by simp [World.cell?, h1], by simp [World.cell?, h1], by simp [World.cell?, h1], by simp [World.cell?, h1]⟩
theorem comparisons_any (s : Int) (w : World) : Calls Try.prog 26 #[.int .u8 s] w fun e w' => ∃ v, e = .returned v ∧ LS w' v s ∧ Old w w' := by
  have HL := Lib.hid (ls_new w s)
  go_enter Try.func26, Try.ntmps26
  go_wp2
  go_ret
  exact ⟨_, rfl, HL.out, ((Old.refl w).alloc _).alloc _⟩
theorem size48 : (Try.prog.info? 48).map (·.size) = some 4 := by kernel_rfl
theorem set4 {w : World} {g : Nat} {a b c d : Value} {t : TypeId} {fr : Nat × Nat} (h : w.heap[g]? = some (.cells #[a, b, c, d] t fr)) (x y z u : Value) : ((((w.setCell ⟨g, 0, none⟩ x).setCell ⟨g, 1, none⟩ y).setCell ⟨g, 2, none⟩ z).setCell ⟨g, 3, none⟩ u).heap[g]? = some (.cells #[x, y, z, u] t fr) := by
  simp [World.setCell, Array.getElem?_modify, h]
theorem rank_any (s : Int) {w : World} (p : Aw) (hp : IR w p.2 p.1.tup) (hl : p.1.tup.length ≤ 1000000) : Calls Try.prog 27 #[.int .u8 s, av p] w fun e w' => ∃ u, e = .returned (rv (p, u)) ∧ Ints w' w.heap.size u (vec s p.1.tup) ∧ Old w w' := by
  obtain ⟨⟨pr, pt, ps⟩, pv⟩ := p
  simp only at hp hl
  have hc : ∀ W, Old w W → Calls Try.prog 10 #[.int .u8 s, pv] W fun e w' => ∃ v', e = .returned v' ∧ Ints w' W.heap.size v' (vec s pt) ∧ Old W w' := fun W ho => vector_any s (hp.old ho) hl
  have HC := Lib.hid hc
  obtain ⟨oa, ca, rfl⟩ := hp.slice
  clear hc hp hl
  unfold av rv
  simp only
  generalize pt.length = n at HC ⊢
  have W0 := Lib.hid (((Old.refl w).alloc (.cells #[.int .i64 pr, .slice oa n ca, .int .i64 ps] 25)).alloc (.cells #[.int .i64 0, .slice none 0 0, .int .i64 0, .slice none 0 0] 48))
  have b1 := ((Old.refl (w.alloc (.cells #[.int .i64 pr, .slice oa n ca, .int .i64 ps] 25))).alloc (.cells #[.int .i64 0, .slice none 0 0, .int .i64 0, .slice none 0 0] 48)).block w.heap.size (by simp)
  rw [(MapKept.heap_alloc w (.cells #[.int .i64 pr, .slice oa n ca, .int .i64 ps] 25)).1] at b1
  have b2 := (MapKept.heap_alloc (w.alloc (.cells #[.int .i64 pr, .slice oa n ca, .int .i64 ps] 25)) (.cells #[.int .i64 0, .slice none 0 0, .int .i64 0, .slice none 0 0] 48)).1
  rw [sz_alloc] at b2
  have hsz : w.heap.size + 1 < ((w.alloc (.cells #[.int .i64 pr, .slice oa n ca, .int .i64 ps] 25)).alloc (.cells #[.int .i64 0, .slice none 0 0, .int .i64 0, .slice none 0 0] 48)).heap.size := by simp
  go_enter Try.func27, Try.ntmps27
  go_upto_region 1 with fail
  generalize hW : (w.alloc (.cells #[.int .i64 pr, .slice oa n ca, .int .i64 ps] 25)).alloc (.cells #[.int .i64 0, .slice none 0 0, .int .i64 0, .slice none 0 0] 48) = W at W0 b1 b2 hsz ⊢
  clear hW
  have c0 : W.cell? ⟨w.heap.size, 0, none⟩ = some (.int .i64 pr) := by simp [World.cell?, b1]
  have c1 : W.cell? ⟨w.heap.size, 1, none⟩ = some (.slice oa n ca) := by simp [World.cell?, b1]
  have c2 : W.cell? ⟨w.heap.size, 2, none⟩ = some (.int .i64 ps) := by simp [World.cell?, b1]
  have HB := Lib.hid (And.intro b1 b2)
  clear b1 b2
  go_region_with (first | (go_at_call 10; (with_reducible refine (HC.out _ W0.out.drew).mono ?_); rintro e w2 ⟨v', rfl, hi, ho⟩; obtain ⟨oc, cc, rfl⟩ := hi.shape; have HI := Lib.hid hi; have HO := Lib.hid ho; have b1 := (ho.block _ (blk_lt HB.out.1)).trans HB.out.1; have b2 := (ho.block _ (blk_lt HB.out.2)).trans HB.out.2; have c0 : w2.cell? ⟨w.heap.size, 0, none⟩ = some (.int .i64 pr) := (by simp [World.cell?, b1]); have c1 : w2.cell? ⟨w.heap.size, 1, none⟩ = some (.slice oa n ca) := (by simp [World.cell?, b1]); have c2 : w2.cell? ⟨w.heap.size, 2, none⟩ = some (.int .i64 ps) := (by simp [World.cell?, b1]); have f0 : w2.frozen? ⟨w.heap.size + 1, 0, none⟩ = false := (by simp [World.frozen?, b2]); have f1 : w2.frozen? ⟨w.heap.size + 1, 1, none⟩ = false := (by simp [World.frozen?, b2]); have f2 : w2.frozen? ⟨w.heap.size + 1, 2, none⟩ = false := (by simp [World.frozen?, b2]); have f3 : w2.frozen? ⟨w.heap.size + 1, 3, none⟩ = false := (by simp [World.frozen?, b2]); have g0 : w2.cell? ⟨w.heap.size + 1, 0, none⟩ = some (.int .i64 0) := (by simp [World.cell?, b2]); have g1 : w2.cell? ⟨w.heap.size + 1, 1, none⟩ = some (.slice none 0 0) := (by simp [World.cell?, b2]); have g2 : w2.cell? ⟨w.heap.size + 1, 2, none⟩ = some (.int .i64 0) := (by simp [World.cell?, b2]); have g3 : w2.cell? ⟨w.heap.size + 1, 3, none⟩ = some (.slice none 0 0) := (by simp [World.cell?, b2]); have HB2 := Lib.hid b2; clear hi ho b1 b2))
  all_goals
    have lt1 : w.heap.size + 1 < W.drew.heap.size := hsz
    have HR := Lib.hid (own_set (own_set (own_set (own_set HI.out (a := ⟨w.heap.size + 1, 0, none⟩) lt1 (.int .i64 pr)) (a := ⟨w.heap.size + 1, 1, none⟩) lt1 (.slice oa n ca)) (a := ⟨w.heap.size + 1, 2, none⟩) lt1 (.int .i64 ps)) (a := ⟨w.heap.size + 1, 3, none⟩) lt1 (.slice oc (vec s pt).length cc))
    have HO3 := Lib.hid (((((W0.out.drew.trans HO.out).setCell (p := ⟨w.heap.size + 1, 0, none⟩) (Nat.le_succ _) (.int .i64 pr)).setCell (p := ⟨w.heap.size + 1, 1, none⟩) (Nat.le_succ _) (.slice oa n ca)).setCell (p := ⟨w.heap.size + 1, 2, none⟩) (Nat.le_succ _) (.int .i64 ps)).setCell (p := ⟨w.heap.size + 1, 3, none⟩) (Nat.le_succ _) (.slice oc (vec s pt).length cc))
    have HBK := Lib.hid (set4 HB2.out (.int .i64 pr) (.slice oa n ca) (.int .i64 ps) (.slice oc (vec s pt).length cc))
    go_wp2_with fail
    (try simp only [Exit.inBlock, Exit.then]); refine bodyPost_ret (results_cell_row rfl _ _ (w.heap.size + 1) 48 _ (0, 0) _ rfl HBK.out Try.underlying48 rfl size48) rfl ?_
    exact ⟨_, rfl, own_low HR.out (by show w.heap.size ≤ W.heap.size; omega), HO3.out⟩
end Go.Proofs.Ytdcfaniimhjghaa
